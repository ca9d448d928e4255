/- A task begins. A bank's New, Start and List. A bank as the laws see it. -/
import Derived.Test.YtldcglmpnildiaaSdZ
namespace Go.Proofs.Ytldcglmpnildiaa
open Go.RowKit
set_option linter.unusedVariables false
set_option maxRecDepth 100000

theorem Try.infoStepF : (Try.prog.info? 87).map (fun i => (i.zero, i.size, i.bytes)) = some (some .nilFunc, 1, 8) := by kernel_rfl
theorem Try.infoPTask : (Try.prog.info? 69).map (fun i => (i.zero, i.size, i.bytes)) = some (some (.pointer none), 1, 8) := by kernel_rfl
section
variable {O I : Nat → Prop} {w w3 w' : World} {p : Nat} {s : Bs} {B T r : Nat} {q : Nat → Nat} {tv dv : Value}
theorem own_snocS {w0 : World} {T n : Nat} {v u : Value} {xs : List Value} (h : w0.ownsRow T 87 1 v n xs) (hT : T ≤ w0.heap.size) (hl : n ≤ 32) (h1 : u.oneCell' = true) (ad : Addr) (hc : w0.cell? ad = some u) (c : Nat) (ty : TypeId) :
    ∃ v' w', (Builtin.append_ #[84, 84] ty #[v, .slice (some ad) 1 c]).run Try.prog w0 = .ok v' w' ∧ w'.ownsRow T 87 1 v' (n + 1) (xs ++ [u]) ∧ Fr (fun k => v.ownBlock = some k) w0 w' := by
  obtain ⟨i0, hi, hz0, hz1, hz2⟩ := info_parts Try.infoStepF
  have hadd0 : ∀ j u', [u][j]? = some u' → w0.cell? (ad.add j) = some u' := by
    intro j u' hu
    cases j with
    | zero =>
      have e : ad.add 0 = ad := by cases ad; unfold Addr.add; split <;> simp_all
      rw [e, hc]
      simpa using hu
    | succ j => simp at hu
  obtain ⟨v', w', h1, h2, h3, _, h5⟩ := run_append_own_at w0 T 84 ty 87 i0 .nilFunc 1 8 Try.underlying84 hi hz0 hz1 hz2 rfl (by decide) v n xs h ad 1 c [u] rfl hadd0 (by intro u' hu; simp at hu; subst hu; exact h1) (by unfold maxLen; omega) (by omega) hT
  exact ⟨v', w', h1, h2, Fr.of_grown h3 (fun k hk => hk)⟩
theorem steps_own {w : World} {B n : Nat} {v : Value} {L : List Value} (h : w.ownsRow B 87 1 v n L) (h1 : 1 ≤ n) : Steps (fun k => B ≤ k ∧ k < w.heap.size) w L v := by
  have hl : L.length = n := by have := h.1; omega
  obtain ⟨g, c, rfl, _, h2, h3, h4, h5, h6, _⟩ := own_at h h1
  exact ⟨_, c, by rw [hl], by omega, h5, fun j u hu => ⟨g, 0, rfl, ⟨h2, h3⟩, by rw [Nat.zero_add]; exact h6 j u hu⟩⟩
theorem Sp.one (p q : Nat) (x : Sp) : (x.val p q).oneCell' = true := by cases x <;> rfl

set_option maxHeartbeats 4000000 in
theorem begin_full (h : BkAt O p s s.todo w B T r q tv dv I) (h32 : 32 ≤ s.t.length) (d v : Value) :
    Calls Try.prog 26 #[.pointer (some ⟨p, 0, none⟩), d, v] w fun e w' => e = .returned (.tuple #[.int .i64 0, .int .i64 2]) ∧ Fr No w w' := by
  obtain ⟨a, c, htv, hc⟩ := h.slice
  have c5 := h.blk.cell (i := 5) (v := tv) rfl
  rw [htv] at c5
  obtain ⟨n, hn⟩ : ∃ n, n = s.t.length := ⟨_, rfl⟩
  rw [← hn] at c5 h32
  have t0 : decide (32 ≤ n) = true := decide_eq_true h32
  have t1 : decide ((32 : Int) ≤ (n : Int)) = true := decide_eq_true (by omega)
  clear h htv hc hn
  go_enter Try.func26, Try.ntmps26
  go_wp2
  go_ret2
  exact ⟨rfl, Fr.refl _ _⟩

set_option maxHeartbeats 8000000 in
theorem begin_any (V : s.Inv) (h : BkAt O p s s.todo w B T r q tv dv I) (hlt : ∀ k, O k → k < w.heap.size) (h32 : s.t.length < 32) {x : Tk} (ha : x.acted = false) (ho : x.over = false) (he : x.e = 0) (ht : x.told = [])
    {f : FuncId} {caps : Array Value} (hd : Deed I w p x (.func (.func f) #[] caps)) {g m cap : Nat} {xs : List Int} (hm : m = xs.length) (hm2 : m ≤ 1000) (hxs : ∀ k : Nat, k < 4 → (x.need k = true ↔ (k : Int) ∈ xs)) (hcx : ∀ j, j < m → w.cell? ⟨g, j, none⟩ = some (.int .i64 (xs.getD j 0))) :
    Calls Try.prog 26 #[.pointer (some ⟨p, 0, none⟩), .func (.func f) #[] caps, .slice (some ⟨g, 0, none⟩) m cap] w fun e w' => e = .returned (.tuple #[.int .i64 (s.t.length : Int), .int .i64 0]) ∧ ∃ tv' q' I', BkAt (Grow O w w') p (s.add1 x) (s.add1 x).todo w' B T r q' tv' dv I' ∧ Fr O w w' := by
  obtain ⟨i0, hi0, hz0, hz1, hz2⟩ := info_parts Try.infoStepF
  obtain ⟨j0, hj0, hy0, hy1, hy2⟩ := info_parts Try.infoPTask
  obtain ⟨a, c, htv, hc⟩ := h.slice
  have c5 := h.blk.cell (i := 5) (v := tv) rfl
  rw [htv] at c5
  have HCX := Lib.hid hcx
  have HXS := Lib.hid (fun (X : World) (fX : Fr No w X) (k : Nat) (hk : k < 4) => containsI_any (g := g) (n := m) (c := cap) (xs := xs) (w := X) (k : Int) (x.need k) (hxs k hk) hm hm2 (fun j hj => fX.cell id (hcx j hj)))
  have HP := Lib.hid h.blk
  have HT := Lib.hid h.tasks
  have HTW : Hid (T ≤ w.heap.size ∧ p < w.heap.size ∧ (∀ k, tv.ownBlock = some k → k < w.heap.size) ∧ tv.ownBlock ≠ some p) := Lib.hid ⟨by have := h.loP; have := hlt _ h.oP; omega, hlt _ h.oP, fun k hk => hlt k (h.oT k hk), h.tp⟩
  have HFIN := Lib.hid (fun (w3 w' : World) (qn : Nat) (st tv' : Value) => begin_made (w3 := w3) (w' := w') (qn := qn) (st := st) (tv' := tv') V h hlt ha ho he ht hd)
  obtain ⟨n, hn⟩ : ∃ n, n = s.t.length := ⟨_, rfl⟩
  have HCT : Hid (∀ st : Value, cellsT p s.t.length x (.func (.func f) #[] caps) st (.slice none 0 0) = [.pointer (some ⟨p, 0, none⟩), .int .i64 (n : Int), .func (.func f) #[] caps, st, .bool false, .int .i64 0, .slice none 0 0]) := Lib.hid (fun st => by unfold cellsT; rw [ha, he, hn])
  obtain ⟨nd, hnd⟩ : ∃ nd, nd = x.need := ⟨_, rfl⟩
  rw [← hnd] at HXS HFIN
  have HCQ : Hid (w.ownsRow T 69 1 tv n (cellsQ q s.t.length)) := Lib.hid (by rw [hn]; exact h.tasks)
  rw [← hn] at c5 h32 ⊢
  rw [← hn] at HFIN
  rw [htv] at HTW HCQ HFIN
  rw [← hn] at HTW HCQ HFIN
  have t0 : decide (32 ≤ n) = false := decide_eq_false (by omega)
  have t1 : decide ((32 : Int) ≤ (n : Int)) = false := decide_eq_false (by omega)
  have H32 := Lib.hid h32
  have HN := Lib.hid hn
  have HTV : Hid (tv = .slice a n c) := Lib.hid (by rw [htv, hn])
  obtain ⟨qn, hqn⟩ : ∃ qn, qn = w.heap.size := ⟨_, rfl⟩
  have HQN := Lib.hid hqn
  clear h htv hc hlt V ha ho he ht hd hm hm2 hxs hcx hnd h32 HT hn hqn
  go_enter Try.func26, Try.ntmps26
  go_wp2_with fail
  rw [← HQN.out]
  have HB0 : Hid (Blk (w.alloc (.cells #[.pointer (some ⟨p, 0, none⟩), .int .i64 (n : Int), .func (.func f) #[] caps, .slice none 0 0, .bool false, .int .i64 0, .slice none 0 0] 86)) qn 86 [.pointer (some ⟨p, 0, none⟩), .int .i64 (n : Int), .func (.func f) #[] caps, .slice none 0 0, .bool false, .int .i64 0, .slice none 0 0]) := Lib.hid (by rw [HQN.out]; exact Blk.new w 86 _)
  have HF0 : Hid (Fr No w (w.alloc (.cells #[.pointer (some ⟨p, 0, none⟩), .int .i64 (n : Int), .func (.func f) #[] caps, .slice none 0 0, .bool false, .int .i64 0, .slice none 0 0] 86))) := Lib.hid ((Fr.refl No w).alloc _)
  go_loopw [9, 25] (fun sv c wr => ∃ (k : Nat) (st : Value), k ≤ 4 ∧ c = .int .i64 k ∧ Hid (Blk wr qn 86 [.pointer (some ⟨p, 0, none⟩), .int .i64 (n : Int), .func (.func f) #[] caps, st, .bool false, .int .i64 0, .slice none 0 0]) ∧ Hid (wr.ownsRow (qn + 1) 87 1 st (Bs.locksTo nd k).length ((Bs.locksTo nd k).map (Sp.val p qn))) ∧ Hid (Fr No w wr)) (fun _ c _ => 4 - (intOf c).toNat)
  case atStart => exact ⟨0, .slice none 0 0, by omega, rfl, HB0, Lib.hid (World.ownsRow_nil _ _ _ _), HF0⟩
  clear HB0 HF0
  case round =>
    obtain ⟨k, st, hk, rfl, HB, HO, HF⟩ := hrel
    by_cases hlt : k < 4
    · have t2 : k < 4 := hlt
      have HC := Lib.hid (HXS.out wr HF.out k hlt)
      obtain ⟨k1, hk1⟩ : ∃ x, x = k + 1 := ⟨_, rfl⟩
      have HK1 : Hid (k1 = k + 1 ∧ k1 ≤ 4) := Lib.hid ⟨hk1, by omega⟩
      have s1 : (k : Int) + 1 = (k1 : Int) := by omega
      have l1 : IntKind.i64.wrap (k1 : Int) = (k1 : Int) := IntWalk.i64_in _ (by omega)
      have HLK : Hid (Bs.locksTo nd k1 = Bs.locksTo nd k ++ (if nd k then [.lock k] else []) ∧ (Bs.locksTo nd k).length ≤ 4) := Lib.hid ⟨by rw [hk1]; rfl, by have := Bs.locksTo_len nd k; omega⟩
      obtain ⟨y, hy⟩ : ∃ y, y = nd k := ⟨_, rfl⟩
      rw [← hy] at HC HLK
      clear hlt hk hk1 hy
      cases y with
      | false =>
        have HB1 := HB
        have HO1 : Hid (wr.ownsRow (qn + 1) 87 1 st (Bs.locksTo nd k1).length ((Bs.locksTo nd k1).map (Sp.val p qn))) := Lib.hid (by
          have e : Bs.locksTo nd k1 = Bs.locksTo nd k := by rw [HLK.out.1]; simp
          rw [e]; exact HO.out)
        go_wp2_with fail
        refine HC.out.mono ?_
        rintro e w1 ⟨rfl, rfl⟩
        go_wp2
        exact ⟨⟨k1, st, HK1.out.2, rfl, HB1, HO1, HF⟩, by have := HK1.out; simp [intOf]; omega⟩
      | true =>
        obtain ⟨sa, sc, rfl⟩ := own_slice HO.out
        obtain ⟨l, hl⟩ : ∃ l, l = (Bs.locksTo nd k).length := ⟨_, rfl⟩
        have HLL := Lib.hid hl
        rw [← hl] at HO HB
        have HEL : Hid (Bs.locksTo nd k1 = Bs.locksTo nd k ++ [.lock k] ∧ (Bs.locksTo nd k1).length = l + 1 ∧ l ≤ 4) := Lib.hid ⟨by rw [HLK.out.1]; simp, by rw [HLK.out.1]; simp [hl], by rw [hl]; exact HLK.out.2⟩
        have HNQ : Hid (∀ k, (Value.slice sa l sc).ownBlock = some k → k ≠ qn) := Lib.hid (fun k hk => by have := (HO.out.lt k hk).1; omega)
        clear hl
        go_wp2_with fail
        refine HC.out.mono ?_
        rintro e w1 ⟨rfl, rfl⟩
        go_wp2_with fail
        refine wp_region_held_drew (S := (fun X => Fr (fun k => (Value.slice sa l sc).ownBlock = some k ∨ k = qn) wr X)) (by kernel_rfl) ((Fr.refl _ wr).drew) (fun hHeld => ?_)
        refine takeD (i := 0) (d := some 31) (v := ?_) rfl (by kernel_rfl) (by kernel_rfl) (by kernel_rfl) (by kernel_rfl) (fun _ _ _ h => h) (Or.inl ⟨by kernel_rfl, fun X hX => Or.inl ?_⟩) (by assumption) ?_
        rotate_left
        · first | (go_simp; done) | (go_simp; with_reducible rfl)
        (try simp only [Act.put]); (try simp only [List.setIfInBounds_toArray]); (try simp only [List.set_cons_succ]); (try simp only [List.set_cons_zero])
        refine takeD (i := 1) (d := some 32) (v := ?_) rfl (by kernel_rfl) (by kernel_rfl) (by kernel_rfl) (by kernel_rfl) (fun _ _ _ h => h) (Or.inl ⟨by kernel_rfl, fun X hX => Or.inl ?_⟩) (by assumption) ?_
        rotate_left
        · first | (go_simp; done) | (go_simp; with_reducible rfl)
        (try simp only [Act.put]); (try simp only [List.setIfInBounds_toArray]); (try simp only [List.set_cons_succ]); (try simp only [List.set_cons_zero])
        refine takeD (i := 2) (d := some 33) (v := ?_) rfl (by kernel_rfl) (by kernel_rfl) (by kernel_rfl) (by kernel_rfl) (fun _ _ _ h => h) (Or.inl ⟨by kernel_rfl, fun X hX => Or.inl ?_⟩) (by assumption) ?_
        rotate_left
        · first | (go_simp; done) | (go_simp; with_reducible rfl)
        (try simp only [Act.put]); (try simp only [List.setIfInBounds_toArray]); (try simp only [List.set_cons_succ]); (try simp only [List.set_cons_zero])
        refine takeD (i := 3) (d := some 34) (v := ?_) rfl (by kernel_rfl) (by kernel_rfl) (by kernel_rfl) (by kernel_rfl) (fun _ _ _ h => h) (Or.inl ⟨by kernel_rfl, fun X hX => Or.inl ?_⟩) (by assumption) ?_
        rotate_left
        · first | (go_simp; done) | (go_simp; with_reducible rfl)
        (try simp only [Act.put]); (try simp only [List.setIfInBounds_toArray]); (try simp only [List.set_cons_succ]); (try simp only [List.set_cons_zero])
        refine takeD (i := 5) (d := some 36) (v := ?_) rfl (by kernel_rfl) (by kernel_rfl) (by kernel_rfl) (by kernel_rfl) (fun _ _ _ h => h) (Or.inl ⟨by kernel_rfl, fun X hX => Or.inl ?_⟩) (by assumption) ?_
        rotate_left
        · first | (go_simp; done) | (go_simp; with_reducible rfl)
        (try simp only [Act.put]); (try simp only [List.setIfInBounds_toArray]); (try simp only [List.set_cons_succ]); (try simp only [List.set_cons_zero])
        refine takeD (i := 6) (d := some 37) (v := ?_) rfl (by kernel_rfl) (by kernel_rfl) (by kernel_rfl) (by kernel_rfl) (fun _ _ _ h => h) (Or.inl ⟨by kernel_rfl, fun X hX => Or.inl ?_⟩) (by assumption) ?_
        rotate_left
        · first | (go_simp; done) | (go_simp; with_reducible rfl)
        (try simp only [Act.put]); (try simp only [List.setIfInBounds_toArray]); (try simp only [List.set_cons_succ]); (try simp only [List.set_cons_zero])
        refine takeD (i := 7) (d := some 38) (v := ?_) rfl (by kernel_rfl) (by kernel_rfl) (by kernel_rfl) (by kernel_rfl) (fun _ _ _ h => h) (Or.inl ⟨by kernel_rfl, fun X hX => Or.inl ?_⟩) (by assumption) ?_
        rotate_left
        · first | (go_simp; done) | (go_simp; with_reducible rfl)
        (try simp only [Act.put]); (try simp only [List.setIfInBounds_toArray]); (try simp only [List.set_cons_succ]); (try simp only [List.set_cons_zero])
        refine takeD (i := 8) (d := some 39) (v := ?_) rfl (by kernel_rfl) (by kernel_rfl) (by kernel_rfl) (by kernel_rfl) (fun _ _ _ h => h) (Or.inl ⟨by kernel_rfl, fun X hX => Or.inl ?_⟩) (by assumption) ?_
        rotate_left
        · first | (go_simp; done) | (go_simp; with_reducible rfl)
        (try simp only [Act.put]); (try simp only [List.setIfInBounds_toArray]); (try simp only [List.set_cons_succ]); (try simp only [List.set_cons_zero])
        refine takeD (i := 9) (d := some 40) (v := ?_) rfl (by kernel_rfl) (by kernel_rfl) (by kernel_rfl) (by kernel_rfl) (fun _ _ _ h => h) (Or.inl ⟨by kernel_rfl, fun X hX => Or.inl ?_⟩) (by assumption) ?_
        rotate_left
        · first | (go_simp; done) | (go_simp; with_reducible rfl)
        (try simp only [Act.put]); (try simp only [List.setIfInBounds_toArray]); (try simp only [List.set_cons_succ]); (try simp only [List.set_cons_zero])
        refine takeD (i := 10) (d := some 41) (v := ?_) rfl (by kernel_rfl) (by kernel_rfl) (by kernel_rfl) (by kernel_rfl) (fun _ _ _ h => h) (Or.inl ⟨by kernel_rfl, fun X hX => Or.inl ?_⟩) (by assumption) ?_
        rotate_left
        · first | (go_simp; done) | (go_simp; with_reducible rfl)
        (try simp only [Act.put]); (try simp only [List.setIfInBounds_toArray]); (try simp only [List.set_cons_succ]); (try simp only [List.set_cons_zero])
        refine takeD (i := 11) (d := some 42) (v := ?_) rfl (by kernel_rfl) (by kernel_rfl) (by kernel_rfl) (by kernel_rfl) (fun _ _ _ h => h) (Or.inl ⟨by kernel_rfl, fun X hX => Or.inl ?_⟩) (by assumption) ?_
        rotate_left
        · first | (go_simp; done) | (go_simp; with_reducible rfl)
        (try simp only [Act.put]); (try simp only [List.setIfInBounds_toArray]); (try simp only [List.set_cons_succ]); (try simp only [List.set_cons_zero])
        refine takeD (i := 12) (d := some 43) (v := ?_) rfl (by kernel_rfl) (by kernel_rfl) (by kernel_rfl) (by kernel_rfl) (fun _ _ _ h => h) (Or.inl ⟨by kernel_rfl, fun X hX => Or.inl ?_⟩) (by assumption) ?_
        rotate_left
        · first | (go_simp; done) | (go_simp; with_reducible rfl)
        (try simp only [Act.put]); (try simp only [List.setIfInBounds_toArray]); (try simp only [List.set_cons_succ]); (try simp only [List.set_cons_zero])
        refine wpAnyH_ready (rs := [4, 13]) (by kernel_rfl) (by simp) ?_
        refine (AllReadyH.cons rfl (fun K hK => ?_) (AllReadyH.cons rfl (fun K hK => ?_) AllReadyH.nil))
        · rw [if_pos (by kernel_rfl)]
          have c := (HB.out.fr (Fr.refl No wr).drew id).cell (i := 3) (v := .slice sa l sc) rfl
          go_simp
          refine hK.out _ _ (hHeld) (fun hHeld => ?_)
          clear hK K
          (try simp only [Act.put]); (try simp only [List.setIfInBounds_toArray]); (try simp only [List.set_cons_succ]); (try simp only [List.set_cons_zero])
          refine wpAnyH_ready (rs := [13]) (by kernel_rfl) (by simp) ?_
          refine AllReadyH.cons rfl (fun K hK => ?_) AllReadyH.nil
          rw [if_pos (by kernel_rfl)]
          go_simp
          refine hK.out _ _ (hHeld.alloc _) (fun hHeld => ?_)
          clear hK K
          (try simp only [Act.put]); (try simp only [List.setIfInBounds_toArray]); (try simp only [List.set_cons_succ]); (try simp only [List.set_cons_zero])
          refine wpAnyH_ready (rs := [14]) (by kernel_rfl) (by simp) ?_
          refine AllReadyH.cons rfl (fun K hK => ?_) AllReadyH.nil
          rw [if_pos (by kernel_rfl)]
          have FA : Fr No wr ((wr.alloc (.cells #[.func (.func 40) #[.agg #[.pointer (some ⟨p, 1 + k, none⟩), .pointer (some ⟨qn, 0, none⟩)]] #[]] 87)).drew) := ((Fr.refl No wr).alloc _).drew
          have DA := owns_fr HO.out FA (fun _ _ => id)
          obtain ⟨v', w4, ha, hO4, hF4⟩ := own_snocS (u := Sp.val p qn (.lock k)) DA (by have := HF.out.size; have := HQN.out; have := HB.out.lt; have := FA.size; omega) (by have := HEL.out.2.2; omega) (Sp.one _ _ _) ⟨wr.heap.size, 0, none⟩ ((Blk.new wr 87 [Sp.val p qn (.lock k)]).cell rfl) 1 84
          refine wp_append10 (.tmp 35) (.tmp 44) 84 rfl _ _ _ rfl rfl ha ?_
          obtain ⟨va, vc, rfl⟩ := own_slice hO4
          have HO4 := Lib.hid hO4
          have F4 : Hid (Fr (fun k => (Value.slice sa l sc).ownBlock = some k) wr w4) := Lib.hid ((FA.mono (fun _ _ e => e.elim)).trans hF4)
          clear ha hO4 hF4 DA FA
          refine hK.out _ _ (F4.out.mono (fun k _ e => .inl e)) (fun hHeld => ?_)
          clear hK K
          (try simp only [Act.put]); (try simp only [List.setIfInBounds_toArray]); (try simp only [List.set_cons_succ]); (try simp only [List.set_cons_zero])
          refine takeD (i := 15) (d := some 46) (v := ?_) rfl (by kernel_rfl) (by kernel_rfl) (by kernel_rfl) (by kernel_rfl) (fun _ _ _ h => h) (Or.inl ⟨by kernel_rfl, fun X hX => Or.inl ?_⟩) (by assumption) ?_
          rotate_left
          · first | (go_simp; done) | (go_simp; with_reducible rfl)
          (try simp only [Act.put]); (try simp only [List.setIfInBounds_toArray]); (try simp only [List.set_cons_succ]); (try simp only [List.set_cons_zero])
          refine takeD (i := 16) (d := some 47) (v := ?_) rfl (by kernel_rfl) (by kernel_rfl) (by kernel_rfl) (by kernel_rfl) (fun _ _ _ h => h) (Or.inl ⟨by kernel_rfl, fun X hX => Or.inl ?_⟩) (by assumption) ?_
          rotate_left
          · first | (go_simp; done) | (go_simp; with_reducible rfl)
          (try simp only [Act.put]); (try simp only [List.setIfInBounds_toArray]); (try simp only [List.set_cons_succ]); (try simp only [List.set_cons_zero])
          refine wpAnyH_ready (rs := [17]) (by kernel_rfl) (by simp) ?_
          refine AllReadyH.cons rfl (fun K hK => ?_) AllReadyH.nil
          rw [if_pos (by kernel_rfl)]
          have HB4 := Lib.hid (HB.out.fr F4.out (fun e => HNQ.out _ e rfl))
          have c := HB4.out.cell (i := 3) (v := .slice sa l sc) rfl
          have c2 := HB4.out.frozen 3
          go_simp
          clear c c2
          refine hK.out _ _ (hHeld.setCell (p := ⟨qn, 3, none⟩) (.inl (.inr rfl)) _) (fun hHeld => ?_)
          clear hK K
          (try simp only [Act.put]); (try simp only [List.setIfInBounds_toArray]); (try simp only [List.set_cons_succ]); (try simp only [List.set_cons_zero])
          refine wpAnyH_done (by kernel_rfl) ?_ _
          have HH := Lib.hid hHeld
          clear hHeld
          have FP : Hid (Fr (· = qn) w4 (w4.setCell ⟨qn, 3, none⟩ (.slice va (l + 1) vc))) := Lib.hid ((Fr.refl (· = qn) w4).setCell (p := ⟨qn, 3, none⟩) (.inl rfl) _)
          have HB5 : Hid (Blk (w4.setCell ⟨qn, 3, none⟩ (.slice va (l + 1) vc)) qn 86 [.pointer (some ⟨p, 0, none⟩), .int .i64 (n : Int), .func (.func f) #[] caps, .slice va (l + 1) vc, .bool false, .int .i64 0, .slice none 0 0]) := Lib.hid (HB4.out.set 3 _)
          have HO5 : Hid ((w4.setCell ⟨qn, 3, none⟩ (.slice va (l + 1) vc)).ownsRow (qn + 1) 87 1 (.slice va (l + 1) vc) (Bs.locksTo nd k1).length ((Bs.locksTo nd k1).map (Sp.val p qn))) := Lib.hid (by
            rw [HEL.out.2.1, HEL.out.1, List.map_append]
            exact owns_fr HO4.out FP.out (fun k hk e => by have := (HO4.out.lt k hk).1; omega))
          have HF5 : Hid (Fr No w (w4.setCell ⟨qn, 3, none⟩ (.slice va (l + 1) vc))) := Lib.hid ((HF.out.trans' F4.out (fun k hk e => by have := (HO.out.lt k e).1; have := HQN.out; omega)).trans' FP.out (fun k hk e => by have := HQN.out; omega))
          go_wp2
          exact ⟨⟨k1, _, HK1.out.2, rfl, HB5, HO5, HF5⟩, by have := HK1.out; simp [intOf]; omega⟩
        · rw [if_pos (by kernel_rfl)]
          go_simp
          refine hK.out _ _ (hHeld.alloc _) (fun hHeld => ?_)
          clear hK K
          (try simp only [Act.put]); (try simp only [List.setIfInBounds_toArray]); (try simp only [List.set_cons_succ]); (try simp only [List.set_cons_zero])
          refine wpAnyH_ready (rs := [4]) (by kernel_rfl) (by simp) ?_
          refine AllReadyH.cons rfl (fun K hK => ?_) AllReadyH.nil
          rw [if_pos (by kernel_rfl)]
          have c := (HB.out.fr ((Fr.refl No wr).alloc (.cells #[.func (.func 40) #[.agg #[.pointer (some ⟨p, 1 + k, none⟩), .pointer (some ⟨qn, 0, none⟩)]] #[]] 87)).drew id).cell (i := 3) (v := .slice sa l sc) rfl
          go_simp
          refine hK.out _ _ (hHeld) (fun hHeld => ?_)
          clear hK K
          (try simp only [Act.put]); (try simp only [List.setIfInBounds_toArray]); (try simp only [List.set_cons_succ]); (try simp only [List.set_cons_zero])
          refine wpAnyH_ready (rs := [14]) (by kernel_rfl) (by simp) ?_
          refine AllReadyH.cons rfl (fun K hK => ?_) AllReadyH.nil
          rw [if_pos (by kernel_rfl)]
          have FA : Fr No wr ((wr.alloc (.cells #[.func (.func 40) #[.agg #[.pointer (some ⟨p, 1 + k, none⟩), .pointer (some ⟨qn, 0, none⟩)]] #[]] 87)).drew) := ((Fr.refl No wr).alloc _).drew
          have DA := owns_fr HO.out FA (fun _ _ => id)
          obtain ⟨v', w4, ha, hO4, hF4⟩ := own_snocS (u := Sp.val p qn (.lock k)) DA (by have := HF.out.size; have := HQN.out; have := HB.out.lt; have := FA.size; omega) (by have := HEL.out.2.2; omega) (Sp.one _ _ _) ⟨wr.heap.size, 0, none⟩ ((Blk.new wr 87 [Sp.val p qn (.lock k)]).cell rfl) 1 84
          refine wp_append10 (.tmp 35) (.tmp 44) 84 rfl _ _ _ rfl rfl ha ?_
          obtain ⟨va, vc, rfl⟩ := own_slice hO4
          have HO4 := Lib.hid hO4
          have F4 : Hid (Fr (fun k => (Value.slice sa l sc).ownBlock = some k) wr w4) := Lib.hid ((FA.mono (fun _ _ e => e.elim)).trans hF4)
          clear ha hO4 hF4 DA FA
          refine hK.out _ _ (F4.out.mono (fun k _ e => .inl e)) (fun hHeld => ?_)
          clear hK K
          (try simp only [Act.put]); (try simp only [List.setIfInBounds_toArray]); (try simp only [List.set_cons_succ]); (try simp only [List.set_cons_zero])
          refine takeD (i := 15) (d := some 46) (v := ?_) rfl (by kernel_rfl) (by kernel_rfl) (by kernel_rfl) (by kernel_rfl) (fun _ _ _ h => h) (Or.inl ⟨by kernel_rfl, fun X hX => Or.inl ?_⟩) (by assumption) ?_
          rotate_left
          · first | (go_simp; done) | (go_simp; with_reducible rfl)
          (try simp only [Act.put]); (try simp only [List.setIfInBounds_toArray]); (try simp only [List.set_cons_succ]); (try simp only [List.set_cons_zero])
          refine takeD (i := 16) (d := some 47) (v := ?_) rfl (by kernel_rfl) (by kernel_rfl) (by kernel_rfl) (by kernel_rfl) (fun _ _ _ h => h) (Or.inl ⟨by kernel_rfl, fun X hX => Or.inl ?_⟩) (by assumption) ?_
          rotate_left
          · first | (go_simp; done) | (go_simp; with_reducible rfl)
          (try simp only [Act.put]); (try simp only [List.setIfInBounds_toArray]); (try simp only [List.set_cons_succ]); (try simp only [List.set_cons_zero])
          refine wpAnyH_ready (rs := [17]) (by kernel_rfl) (by simp) ?_
          refine AllReadyH.cons rfl (fun K hK => ?_) AllReadyH.nil
          rw [if_pos (by kernel_rfl)]
          have HB4 := Lib.hid (HB.out.fr F4.out (fun e => HNQ.out _ e rfl))
          have c := HB4.out.cell (i := 3) (v := .slice sa l sc) rfl
          have c2 := HB4.out.frozen 3
          go_simp
          clear c c2
          refine hK.out _ _ (hHeld.setCell (p := ⟨qn, 3, none⟩) (.inl (.inr rfl)) _) (fun hHeld => ?_)
          clear hK K
          (try simp only [Act.put]); (try simp only [List.setIfInBounds_toArray]); (try simp only [List.set_cons_succ]); (try simp only [List.set_cons_zero])
          refine wpAnyH_done (by kernel_rfl) ?_ _
          have HH := Lib.hid hHeld
          clear hHeld
          have FP : Hid (Fr (· = qn) w4 (w4.setCell ⟨qn, 3, none⟩ (.slice va (l + 1) vc))) := Lib.hid ((Fr.refl (· = qn) w4).setCell (p := ⟨qn, 3, none⟩) (.inl rfl) _)
          have HB5 : Hid (Blk (w4.setCell ⟨qn, 3, none⟩ (.slice va (l + 1) vc)) qn 86 [.pointer (some ⟨p, 0, none⟩), .int .i64 (n : Int), .func (.func f) #[] caps, .slice va (l + 1) vc, .bool false, .int .i64 0, .slice none 0 0]) := Lib.hid (HB4.out.set 3 _)
          have HO5 : Hid ((w4.setCell ⟨qn, 3, none⟩ (.slice va (l + 1) vc)).ownsRow (qn + 1) 87 1 (.slice va (l + 1) vc) (Bs.locksTo nd k1).length ((Bs.locksTo nd k1).map (Sp.val p qn))) := Lib.hid (by
            rw [HEL.out.2.1, HEL.out.1, List.map_append]
            exact owns_fr HO4.out FP.out (fun k hk e => by have := (HO4.out.lt k hk).1; omega))
          have HF5 : Hid (Fr No w (w4.setCell ⟨qn, 3, none⟩ (.slice va (l + 1) vc))) := Lib.hid ((HF.out.trans' F4.out (fun k hk e => by have := (HO.out.lt k e).1; have := HQN.out; omega)).trans' FP.out (fun k hk e => by have := HQN.out; omega))
          go_wp2
          exact ⟨⟨k1, _, HK1.out.2, rfl, HB5, HO5, HF5⟩, by have := HK1.out; simp [intOf]; omega⟩
    · have t2 : ¬ k < 4 := hlt
      obtain rfl : k = 4 := by omega
      obtain ⟨sa, sc, rfl⟩ := own_slice HO.out
      obtain ⟨l, hl⟩ : ∃ l, l = (Bs.locksTo nd 4).length := ⟨_, rfl⟩
      have HL : Hid (l ≤ 4) := Lib.hid (by rw [hl]; exact Bs.locksTo_len nd 4)
      rw [← hl] at HO HB
      have c3 := HB.out.cell (i := 3) (v := .slice sa l sc) rfl
      have HA := Lib.hid (owns_fr HO.out ((Fr.refl No wr).alloc (.cells #[.func (.func 41) #[.pointer (some ⟨qn, 0, none⟩)] #[], .func (.func 42) #[.pointer (some ⟨qn, 0, none⟩)] #[]] 87)) (fun _ _ => id))
      have HNQ : Hid (∀ k, (Value.slice sa l sc).ownBlock = some k → qn < k ∧ k < wr.heap.size) := Lib.hid (fun k hk => by have := HO.out.lt k hk; omega)
      clear hlt hk hl HO
      go_wp2_with (at_builtin; refine wpList_append_own_at _ rfl _ _ 84 rfl (qn + 1) 87 i0 .nilFunc 1 8 Try.underlying84 hi0 hz0 hz1 hz2 rfl (by decide) _ _ _ rfl HA.out ⟨wr.heap.size, 0, none⟩ 2 2 [.func (.func 41) #[.pointer (some ⟨qn, 0, none⟩)] #[], .func (.func 42) #[.pointer (some ⟨qn, 0, none⟩)] #[]] rfl rfl ?c1 ?c2 ?c3 ?c4 ?c5 ?c6)
      case c1 => exact fun j u hu => by rw [Addr.add_lit, Nat.zero_add]; exact (Blk.new wr 87 [.func (.func 41) #[.pointer (some ⟨qn, 0, none⟩)] #[], .func (.func 42) #[.pointer (some ⟨qn, 0, none⟩)] #[]]).cell hu
      case c2 => intro u hu; simp at hu; rcases hu with rfl | rfl <;> rfl
      case c3 => have := HL.out; unfold maxLen; omega
      case c4 => have := HL.out; omega
      case c5 => have := HB.out.lt; simp; omega
      case c6 =>
        intro v2 w2 hown hgrow _ hloc
        obtain ⟨va, vc, rfl⟩ := own_slice hown
        have HS2 : Hid (Steps (fun k => qn + 1 ≤ k ∧ k < w2.heap.size) w2 ((Bs.locksF nd ++ [Sp.act, Sp.fin]).map (Sp.val p qn)) (.slice va (l + 2) vc)) := Lib.hid (by
          rw [← Bs.locksTo_four, List.map_append]
          exact steps_own hown (by omega))
        have hf2 : Fr (fun k => (Value.slice sa l sc).ownBlock = some k) wr w2 := ((Fr.refl _ wr).alloc _).trans (Fr.of_grown hgrow (fun k e => e))
        have HF2 : Hid (Fr No w w2) := Lib.hid (HF.out.trans' hf2 (fun k hk e => by have := HNQ.out k e; have := HQN.out; omega))
        have HB2 := Lib.hid (HB.out.fr hf2 (fun e => by have := HNQ.out _ e; omega))
        have c3 := HB2.out.cell (i := 3) (v := .slice sa l sc) rfl
        have f3 := HB2.out.frozen 3
        have HPQ : Hid (p < qn) := Lib.hid (by have := HTW.out.2.1; have := HQN.out; omega)
        have n1 : qn ≠ p := by have := HPQ.out; omega
        have n2 : p ≠ qn := by have := HPQ.out; omega
        obtain ⟨l2, hl2⟩ : ∃ x, x = l + 2 := ⟨_, rfl⟩
        rw [← hl2] at HS2 ⊢
        obtain ⟨w3, hw3⟩ : ∃ x, x = w2.setCell ⟨qn, 3, none⟩ (.slice va l2 vc) := ⟨_, rfl⟩
        have hf3 : Fr (· = qn) w2 w3 := by rw [hw3]; exact (Fr.refl (· = qn) w2).setCell (p := ⟨qn, 3, none⟩) (.inl rfl) _
        have HF3 : Hid (Fr No w w3) := Lib.hid (HF2.out.trans' hf3 (fun k hk e => by have := HQN.out; omega))
        have HB3 : Hid (Blk w3 qn 86 [.pointer (some ⟨p, 0, none⟩), .int .i64 (n : Int), .func (.func f) #[] caps, .slice va l2 vc, .bool false, .int .i64 0, .slice none 0 0]) := Lib.hid (by rw [hw3]; exact HB2.out.set 3 _)
        have HS3 : Hid (Steps (fun k => qn < k ∧ k < w3.heap.size) w3 ((Bs.locksF nd ++ [Sp.act, Sp.fin]).map (Sp.val p qn)) (.slice va l2 vc)) := Lib.hid (HS2.out.fr hf3 (fun k hk e => by have := hk.1; omega) (fun k hk => ⟨by have := hk.1; omega, by have := hk.2; have := hf3.size; omega⟩))
        have HP3 := Lib.hid (HP.out.fr HF3.out id)
        have c5 : w3.cell? ⟨p, 5, none⟩ = some (.slice a n c) := HF3.out.cell id c5
        have HA3 := Lib.hid (owns_fr (owns_fr HCQ.out HF3.out (fun _ _ => id)) ((Fr.refl No w3).alloc (.cells #[.pointer (some ⟨qn, 0, none⟩)] 69)) (fun _ _ => id))
        have hw3' : w2.setCell ⟨qn, 3, none⟩ (.slice va l2 vc) = w3 := hw3.symm
        clear hown hgrow hloc hf2 hf3 hw3 HA hl2
        go_wp2_with (at_builtin; refine wpList_append_own_at _ rfl _ _ 73 rfl T 69 j0 (.pointer none) 1 8 Try.underlying73 hj0 hy0 hy1 hy2 rfl (by decide) _ _ _ rfl HA3.out ⟨w3.heap.size, 0, none⟩ 1 1 [.pointer (some ⟨qn, 0, none⟩)] rfl rfl ?d1 ?d2 ?d3 ?d4 ?d5 ?d6)
        case d1 => exact cell_one_new _ _ _
        case d2 => intro u hu; simp at hu; subst hu; rfl
        case d3 => have := H32.out; unfold maxLen; omega
        case d4 => have := H32.out; omega
        case d5 => have := HTW.out.1; have := HF3.out.size; simp; omega
        case d6 =>
          intro v4 w4 hown hgrow _ hloc
          obtain ⟨ta, tc, rfl⟩ := own_slice hown
          have hf4 : Fr (fun k => (Value.slice a n c).ownBlock = some k) w3 w4 := ((Fr.refl _ w3).alloc _).trans (Fr.of_grown hgrow (fun k e => e))
          have HF4 := Lib.hid hf4
          have HP4 := Lib.hid (HP3.out.fr hf4 HTW.out.2.2.2)
          have HB4 := Lib.hid (HB3.out.fr hf4 (fun e => by have := HTW.out.2.2.1 _ e; have := HQN.out; omega))
          have c5 := HP4.out.cell (i := 5) (v := .slice a n c) (by rw [HTV.out]; rfl)
          have f5 := HP4.out.frozen 5
          have c1 := HB4.out.cell (i := 1) (v := .int .i64 (n : Int)) rfl
          have HOWN := Lib.hid hown
          have HLOC : Hid ((Value.slice ta (n + 1) tc).ownBlock = (Value.slice a n c).ownBlock ∨ ∃ g, (Value.slice ta (n + 1) tc).ownBlock = some g ∧ w3.heap.size ≤ g) := Lib.hid (hloc.elim .inl (fun e => .inr ⟨_, e, by simp⟩))
          obtain ⟨n1', hn1'⟩ : ∃ x, x = n + 1 := ⟨_, rfl⟩
          rw [← hn1'] at HOWN HLOC ⊢
          have HN1 := Lib.hid hn1'
          clear hown hgrow hloc hf4 hn1'
          go_wp2
          go_ret2
          have FP : Fr (· = p) w4 (w4.setCell ⟨p, 5, none⟩ (.slice ta n1' tc)) := (Fr.refl (· = p) w4).setCell (p := ⟨p, 5, none⟩) (.inl rfl) _
          refine ⟨rfl, HFIN.out w3 _ qn (.slice va l2 vc) (.slice ta n1' tc) HF3.out (by rw [HN.out, HCT.out]; exact HB3.out) (by have := HQN.out; omega) HS3.out ((HF4.out.mono (fun k _ e => .inl e)).trans (FP.mono (fun k _ e => .inr e))) (by have h9 := HP4.out.set 5 (.slice ta n1' tc); exact h9) (owns_fr (by rw [← HN1.out]; exact HOWN.out) FP (fun k hk e => ?_)) HLOC.out⟩
          subst e
          rcases HLOC.out with h1 | ⟨g2, h1, h2⟩
          · exact HTW.out.2.2.2 (h1 ▸ hk)
          · rw [hk] at h1
            injection h1 with h1
            have := HTW.out.2.1
            have := HF3.out.size
            omega
end
end Go.Proofs.Ytldcglmpnildiaa

namespace Go.Proofs.Ytldcglmpnildiaa
open Go.RowKit
set_option linter.unusedVariables false
set_option maxRecDepth 100000

section
variable {O I : Nat → Prop} {w w' W : World} {p : Nat} {s s' : Bs} {B T r : Nat} {q : Nat → Nat} {tv dv : Value}
theorem begun (hlt : ∀ k, O k → k < w.heap.size) (f1 : Fr No w W) (hi : s'.Inv) (h : ∃ tv' q' I', BkAt (Grow (Grow O w W) W w') p s' s'.todo w' B T r q' tv' dv I' ∧ Fr (Grow O w W) W w') : BkTo O p s' w w' := by
  obtain ⟨tv', q', I', h1, h2⟩ := h
  have hs1 := f1.size
  have hs2 := h2.size
  refine BkTo.of hi hlt ((f1.mono (fun _ _ e => e.elim)).trans' h2 (fun k hk e => e.elim id (fun e => by have := e.1; omega))) ⟨B, T, r, q', tv', dv, I', h1.mono (fun k hk => ?_)⟩
  rcases hk with (e | e) | e
  · exact .inl e
  · exact .inr ⟨e.1, by have := e.2; omega⟩
  · exact .inr ⟨by have := e.1; omega, e.2⟩
theorem grow_lt (hlt : ∀ k, O k → k < w.heap.size) (f1 : Fr No w W) : ∀ k, Grow O w W k → k < W.heap.size := fun k hk => hk.elim (fun e => by have := hlt k e; have := f1.size; omega) (·.2)
theorem need_mover (a b n k : Nat) : (Bs.mover a b n).need k = true ↔ (k : Int) ∈ [((a % 4 : Nat) : Int), ((b % 4 : Nat) : Int)] := by
  simp [Bs.mover, Tk.need]
  omega
theorem need_lister (k : Nat) (hk : k < 4) : Bs.lister.need k = true ↔ (k : Int) ∈ [(0 : Int), 1, 2, 3] := by
  simp [Bs.lister, Tk.need]
  omega

set_option maxHeartbeats 4000000 in
theorem list10_any (h : Bk O p s w) : Calls Try.prog 10 #[.pointer (some ⟨p, 0, none⟩)] w fun e w' => e = .returned (.tuple #[.int .i64 (s.listI : Int), .int .i64 s.listE]) ∧ BkTo O p s.listS w w' := by
  obtain ⟨V, hlt, B, T, r, q, tv, dv, I, hb⟩ := h
  obtain ⟨w1, hw1⟩ : ∃ x, x = w.alloc (.cells #[.pointer (some ⟨p, 0, none⟩)] 25) := ⟨_, rfl⟩
  have c1 : w1.cell? ⟨w.heap.size, 0, none⟩ = some (.pointer (some ⟨p, 0, none⟩)) := by rw [hw1]; exact (Blk.new w 25 [.pointer (some ⟨p, 0, none⟩)]).cell rfl
  obtain ⟨w2, hw2⟩ : ∃ x, x = w1.alloc (.cells #[.int .i64 0, .int .i64 1, .int .i64 2, .int .i64 3] 3) := ⟨_, rfl⟩
  have f1 : Fr No w w2 := by rw [hw2, hw1]; exact ((Fr.refl No w).alloc _).alloc _
  have f2 : Fr No w1 w2 := by rw [hw2]; exact (Fr.refl No w1).alloc _
  have hb4 : Blk w2 w1.heap.size 3 [.int .i64 0, .int .i64 1, .int .i64 2, .int .i64 3] := by rw [hw2]; exact Blk.new w1 3 _
  have hm := hb.more hlt f1
  have hs1 : w1.heap.size = w.heap.size + 1 := by rw [hw1]; simp
  have hs2 : w2.heap.size = w.heap.size + 2 := by rw [hw2, hw1]; simp
  have HEND : Hid (Calls Try.prog 26 #[.pointer (some ⟨p, 0, none⟩), .func (.func 29) #[] #[.pointer (some ⟨w.heap.size, 0, none⟩)], .slice (some ⟨w1.heap.size, 0, none⟩) 4 4] w2 fun e w' => e = .returned (.tuple #[.int .i64 (s.listI : Int), .int .i64 s.listE]) ∧ BkTo O p s.listS w w') := Lib.hid (by
    by_cases h32 : 32 ≤ s.t.length
    · have e1 : s.listE = 2 := by unfold Bs.listE; rw [if_pos h32]
      have e2 : s.listI = 0 := by unfold Bs.listI; rw [e1]; rfl
      have e3 : s.listS = s := by unfold Bs.listS; rw [e1]; rfl
      rw [e1, e2, e3]
      refine (begin_full hm h32 _ _).mono ?_
      rintro e w' ⟨rfl, hF⟩
      exact ⟨rfl, begun hlt f1 V ⟨tv, q, _, (hm.no hF).mono (fun _ => .inl), hF.mono (fun _ _ e => e.elim)⟩⟩
    · have e1 : s.listE = 0 := by unfold Bs.listE; rw [if_neg h32]
      have e2 : s.listI = s.t.length := by unfold Bs.listI; rw [e1]; rfl
      have e3 : s.listS = s.add1 Bs.lister := by unfold Bs.listS; rw [e1]; rfl
      have V' := V.list
      rw [e3] at V'
      rw [e1, e2, e3]
      refine (begin_any (x := Bs.lister) (g := w1.heap.size) (m := 4) (xs := [0, 1, 2, 3]) V hm (grow_lt hlt f1) (by omega) rfl rfl rfl rfl ?_ rfl (by omega) (fun k hk => need_lister k hk) (fun j hj => ?_)).mono ?_
      · unfold Deed
        rw [if_pos (by rfl)]
        exact ⟨w.heap.size, rfl, .inr ⟨Nat.le_refl _, by omega⟩, f2.cell id c1⟩
      · have hc : j = 0 ∨ j = 1 ∨ j = 2 ∨ j = 3 := by omega
        rcases hc with rfl | rfl | rfl | rfl <;> exact hb4.cell rfl
      · rintro e w' ⟨rfl, h9⟩
        exact ⟨rfl, begun hlt f1 V' h9⟩)
  have hw1' : w.alloc (.cells #[.pointer (some ⟨p, 0, none⟩)] 25) = w1 := hw1.symm
  have hw2' : w1.alloc (.cells #[.int .i64 0, .int .i64 1, .int .i64 2, .int .i64 3] 3) = w2 := hw2.symm
  clear hw1 hw2 hb hm f1 f2 hb4 hlt V hs2 hs1
  go_enter Try.func10, Try.ntmps10
  go_wp2_with fail
  refine HEND.out.mono ?_
  rintro e w3 ⟨rfl, hT⟩
  have HT := Lib.hid hT
  clear hT
  go_wp2
  go_ret2
  exact ⟨rfl, HT.out⟩

set_option maxHeartbeats 4000000 in
theorem start10_any (h : Bk O p s w) (a b : Int) (n : Nat) : Calls Try.prog 8 #[.pointer (some ⟨p, 0, none⟩), .int .i64 a, .int .i64 b, .int .u64 (n : Int)] w fun e w' => e = .returned (.tuple #[.int .i64 (s.startI a b : Int), .int .i64 (s.startE a b)]) ∧ BkTo O p (s.startS a b n) w w' := by
  obtain ⟨V, hlt, B, T, r, q, tv, dv, I, hb⟩ := h
  obtain ⟨w1, hw1⟩ : ∃ x, x = (((w.alloc (.cells #[.pointer (some ⟨p, 0, none⟩)] 25)).alloc (.cells #[.int .i64 a] 3)).alloc (.cells #[.int .i64 b] 3)).alloc (.cells #[.int .u64 (n : Int)] 27) := ⟨_, rfl⟩
  have f1 : Fr No w w1 := by rw [hw1]; exact ((((Fr.refl No w).alloc _).alloc _).alloc _).alloc _
  have c1 : w1.cell? ⟨w.heap.size, 0, none⟩ = some (.pointer (some ⟨p, 0, none⟩)) := by rw [hw1]; exact ((((Blk.new w 25 [.pointer (some ⟨p, 0, none⟩)]).alloc _).alloc _).alloc _).cell rfl
  have c2 : w1.cell? ⟨w.heap.size + 1, 0, none⟩ = some (.int .i64 a) := by
    rw [hw1]
    have h1 := (((Blk.new (w.alloc (.cells #[.pointer (some ⟨p, 0, none⟩)] 25)) 3 [.int .i64 a]).alloc (.cells #[.int .i64 b] 3)).alloc (.cells #[.int .u64 (n : Int)] 27)).cell (i := 0) (v := .int .i64 a) rfl
    simpa using h1
  have c3 : w1.cell? ⟨w.heap.size + 1 + 1, 0, none⟩ = some (.int .i64 b) := by
    rw [hw1]
    have h1 := ((Blk.new ((w.alloc (.cells #[.pointer (some ⟨p, 0, none⟩)] 25)).alloc (.cells #[.int .i64 a] 3)) 3 [.int .i64 b]).alloc (.cells #[.int .u64 (n : Int)] 27)).cell (i := 0) (v := .int .i64 b) rfl
    simpa using h1
  have c4 : w1.cell? ⟨w.heap.size + 1 + 1 + 1, 0, none⟩ = some (.int .u64 (n : Int)) := by
    rw [hw1]
    have h1 := (Blk.new (((w.alloc (.cells #[.pointer (some ⟨p, 0, none⟩)] 25)).alloc (.cells #[.int .i64 a] 3)).alloc (.cells #[.int .i64 b] 3)) 27 [.int .u64 (n : Int)]).cell (i := 0) (v := .int .u64 (n : Int)) rfl
    simpa using h1
  have hs1 : w1.heap.size = w.heap.size + 4 := by rw [hw1]; simp
  have HHA := Lib.hid (fun X (f : Fr No w1 X) => has10_any (hb.no (f1.trans f)) a)
  have HHB := Lib.hid (fun X (f : Fr No w1 X) => has10_any (hb.no (f1.trans f)) b)
  have HSAME : Hid (s.startE a b ≠ 0 → ∀ w', Fr No w1 w' → BkTo O p (s.startS a b n) w w' ∧ s.startI a b = 0) := Lib.hid (fun hne w' hF => by
    have e3 : s.startS a b n = s := by unfold Bs.startS; rw [if_neg hne]
    have e2 : s.startI a b = 0 := by unfold Bs.startI; rw [if_neg hne]
    rw [e3]
    exact ⟨begun hlt (f1.trans hF) V ⟨tv, q, _, ((hb.more hlt (f1.trans hF))).mono (fun _ => .inl), Fr.refl _ _⟩, e2⟩)
  have HEND : Hid (∀ ka kb : Nat, a = (ka : Int) → b = (kb : Int) → s.p.has a = true → s.p.has b = true → ∀ w2, Fr No w1 w2 → ∀ w3, w3 = w2.alloc (.cells #[.int .i64 ((ka % 4 : Nat) : Int), .int .i64 ((kb % 4 : Nat) : Int)] 3) →
      Calls Try.prog 26 #[.pointer (some ⟨p, 0, none⟩), .func (.func 24) #[] #[.pointer (some ⟨w.heap.size, 0, none⟩), .pointer (some ⟨w.heap.size + 1, 0, none⟩), .pointer (some ⟨w.heap.size + 1 + 1, 0, none⟩), .pointer (some ⟨w.heap.size + 1 + 1 + 1, 0, none⟩)], .slice (some ⟨w2.heap.size, 0, none⟩) 2 2] w3 fun e w' =>
        e = .returned (.tuple #[.int .i64 (s.startI a b : Int), .int .i64 (s.startE a b)]) ∧ BkTo O p (s.startS a b n) w w') := Lib.hid (fun ka kb hka hkb ha hb' w2 f2 w3 hw3 => by
    have f3 : Fr No w1 w3 := by rw [hw3]; exact f2.alloc _
    have hm := hb.more hlt (f1.trans f3)
    have hs3 := f3.size
    by_cases h32 : 32 ≤ s.t.length
    · have e1 : s.startE a b = 2 := by unfold Bs.startE; rw [ha, hb']; simp [h32]
      refine (begin_full hm h32 _ _).mono ?_
      rintro e w' ⟨rfl, hF⟩
      obtain ⟨h8, h9⟩ := HSAME.out (by rw [e1]; decide) w' (f3.trans hF)
      rw [e1, h9]
      exact ⟨rfl, h8⟩
    · have e1 : s.startE a b = 0 := Bs.startE_zero.2 ⟨ha, hb', by omega⟩
      have e2 : s.startI a b = s.t.length := by unfold Bs.startI; rw [e1]; rfl
      have e3 : s.startS a b n = s.add1 (Bs.mover ka kb n) := by unfold Bs.startS; rw [e1, hka, hkb]; rfl
      have V' := V.start a b n
      rw [e3] at V'
      rw [e1, e2, e3]
      have hb4 : Blk w3 w2.heap.size 3 [.int .i64 ((ka % 4 : Nat) : Int), .int .i64 ((kb % 4 : Nat) : Int)] := by rw [hw3]; exact Blk.new w2 3 _
      refine (begin_any (x := Bs.mover ka kb n) (g := w2.heap.size) (m := 2) (xs := [((ka % 4 : Nat) : Int), ((kb % 4 : Nat) : Int)]) V hm (grow_lt hlt (f1.trans f3)) (by omega) rfl rfl rfl rfl ?_ rfl (by omega) (fun k hk => need_mover ka kb n k) (fun j hj => ?_)).mono ?_
      · unfold Deed
        rw [if_neg (by simp [Bs.mover])]
        have hL : ∀ k, w.heap.size ≤ k → k < w.heap.size + 4 → (I k ∨ Laid w w3 k) := fun k h1 h2 => .inr ⟨h1, by omega⟩
        refine ⟨w.heap.size, w.heap.size + 1, w.heap.size + 1 + 1, w.heap.size + 1 + 1 + 1, rfl, hL _ (by omega) (by omega), hL _ (by omega) (by omega), hL _ (by omega) (by omega), hL _ (by omega) (by omega), f3.cell id c1, ?_, ?_, f3.cell id c4⟩
        · rw [← show a = ((Bs.mover ka kb n).f : Int) from hka]; exact f3.cell id c2
        · rw [← show b = ((Bs.mover ka kb n).t : Int) from hkb]; exact f3.cell id c3
      · have hc : j = 0 ∨ j = 1 := by omega
        rcases hc with rfl | rfl <;> exact hb4.cell rfl
      · rintro e w' ⟨rfl, h9⟩
        exact ⟨rfl, begun hlt (f1.trans f3) V' h9⟩)
  have hw1' : (((w.alloc (.cells #[.pointer (some ⟨p, 0, none⟩)] 25)).alloc (.cells #[.int .i64 a] 3)).alloc (.cells #[.int .i64 b] 3)).alloc (.cells #[.int .u64 (n : Int)] 27) = w1 := hw1.symm
  have HNA : Hid (s.p.has a = false → s.startE a b = 3) := Lib.hid (fun e => by unfold Bs.startE; rw [if_pos (.inl e)])
  have HNB : Hid (s.p.has b = false → s.startE a b = 3) := Lib.hid (fun e => by unfold Bs.startE; rw [if_pos (.inr e)])
  have C1 := Lib.hid c1
  have C2 := Lib.hid c2
  have C3 := Lib.hid c3
  have hax : s.p.has a = true → ∃ k : Nat, a = (k : Int) ∧ k < s.p.b.length := fun e => Ps.has_nat e
  have hbx : s.p.has b = true → ∃ k : Nat, b = (k : Int) ∧ k < s.p.b.length := fun e => Ps.has_nat e
  have HAX := Lib.hid hax
  have HBX := Lib.hid hbx
  have HB2 : Hid (s.p.b.length ≤ 32) := Lib.hid V.wf.b2
  obtain ⟨ya, hya⟩ : ∃ y, y = s.p.has a := ⟨_, rfl⟩
  obtain ⟨yb, hyb⟩ : ∃ y, y = s.p.has b := ⟨_, rfl⟩
  rw [← hya] at HHA HNA HAX HEND
  rw [← hyb] at HHB HNB HBX HEND
  obtain ⟨E, hE⟩ : ∃ E, E = s.startE a b := ⟨_, rfl⟩
  obtain ⟨J, hJ⟩ : ∃ J, J = s.startI a b := ⟨_, rfl⟩
  rw [← hE] at HSAME HNA HNB HEND ⊢
  rw [← hJ] at HSAME HEND ⊢
  clear hw1 hb f1 hlt V hs1 hya hyb hE hJ c4 hax hbx
  go_enter Try.func8, Try.ntmps8
  go_wp2_with fail
  refine (HHA.out _ (Fr.refl _ _)).mono ?_
  rintro e w2 ⟨rfl, hF2⟩
  have F2 := Lib.hid hF2
  have c1 := hF2.cell id C1.out
  have c2 := hF2.cell id C2.out
  have c3 := hF2.cell id C3.out
  clear hF2
  cases ya with
  | false =>
    obtain rfl : E = 3 := HNA.out rfl
    go_wp2
    go_ret2
    obtain ⟨h8, h9⟩ := HSAME.out (by decide) w2 F2.out
    exact ⟨by rw [h9]; rfl, h8⟩
  | true =>
    go_wp2_with fail
    refine (HHB.out _ F2.out).mono ?_
    rintro e w3 ⟨rfl, hF3⟩
    have F3 := Lib.hid (F2.out.trans hF3)
    have c1 := F3.out.cell id C1.out
    have c2 := F3.out.cell id C2.out
    have c3 := F3.out.cell id C3.out
    clear hF3
    cases yb with
    | false =>
      obtain rfl : E = 3 := HNB.out rfl
      go_wp2
      go_ret2
      obtain ⟨h8, h9⟩ := HSAME.out (by decide) w3 F3.out
      exact ⟨by rw [h9]; rfl, h8⟩
    | true =>
      obtain ⟨ka, rfl, hka⟩ := HAX.out (by simp)
      obtain ⟨kb, rfl, hkb⟩ := HBX.out (by simp)
      have HX := Lib.hid (HEND.out ka kb rfl rfl (by simp) (by simp) w3 F3.out _ rfl)
      obtain ⟨fa, hfa⟩ : ∃ x, x = ka % 4 := ⟨_, rfl⟩
      obtain ⟨fb, hfb⟩ : ∃ x, x = kb % 4 := ⟨_, rfl⟩
      have m1 : (ka : Int) % 4 = (fa : Int) := by omega
      have m2 : (kb : Int) % 4 = (fb : Int) := by omega
      have m3 : Int.tmod (ka : Int) 4 = (fa : Int) := by rw [Int.tmod_eq_emod_of_nonneg (by omega)]; exact m1
      have m4 : Int.tmod (kb : Int) 4 = (fb : Int) := by rw [Int.tmod_eq_emod_of_nonneg (by omega)]; exact m2
      have l1 : IntKind.i64.wrap (fa : Int) = (fa : Int) := IntWalk.i64_in _ (by omega)
      have l2 : IntKind.i64.wrap (fb : Int) = (fb : Int) := IntWalk.i64_in _ (by omega)
      rw [← hfa, ← hfb] at HX
      clear hka hkb hfa hfb
      go_wp2_with fail
      refine HX.out.mono ?_
      rintro e w4 ⟨rfl, hT⟩
      have HT := Lib.hid hT
      clear hT
      go_wp2
      go_ret2
      exact ⟨rfl, HT.out⟩
end
end Go.Proofs.Ytldcglmpnildiaa

namespace Go.Proofs.Ytldcglmpnildiaa
open Go.RowKit
set_option linter.unusedVariables false
set_option maxRecDepth 100000

set_option maxHeartbeats 2000000 in
theorem sd_new (ao : Option Addr) (n cap : Nat) (b : List Nat) (w : World) (hn : n = b.length) (hm : n ≤ maxLen) (hx : Nums w ao n (fun i => b.getD i 0)) (y : Bool) (hy : y = Ps.newOk b) : Calls Try.prog 6 #[.slice ao n cap] w fun e w' =>
    Fr No w w' ∧ if y then ∃ p O, e = .returned (.pointer (some ⟨p, 0, none⟩)) ∧ (∀ k, O k → w.heap.size ≤ k) ∧ Bk O p (Bs.newB b) w' else e = .returned (.pointer none) := by
  have HN := Lib.hid (pu_new ao n cap b w hn hm hx y hy)
  have HMADE : Hid (y = true → ∀ (r : Nat) (w1 : World), Pu w.heap.size w1.heap.size r (Ps.newS b) w1 → Fr No w w1 → ∃ O, (∀ k, O k → w.heap.size ≤ k) ∧ Bk O w1.heap.size (Bs.newB b) (w1.alloc (.cells #[.pointer (some ⟨r, 0, none⟩), .pointer none, .pointer none, .pointer none, .pointer none, .slice none 0 0, .slice none 0 0] 75))) := Lib.hid (fun hyt r w1 hp hF => by
    have hs := hF.size
    refine ⟨fun k => w.heap.size ≤ k ∧ k < w1.heap.size + 1, fun k hk => hk.1, Bs.Inv.new (by rw [← hy]; exact hyt), fun k hk => by rw [World.size_alloc]; exact hk.2, w.heap.size, w1.heap.size, r, fun _ => 0, .slice none 0 0, .slice none 0 0, No, ?_⟩
    exact
    { pu := hp.no ((Fr.refl No w1).alloc _)
      blk := Blk.new w1 75 [.pointer (some ⟨r, 0, none⟩), .pointer none, .pointer none, .pointer none, .pointer none, .slice none 0 0, .slice none 0 0]
      new := fun i _ => ⟨rfl, rfl⟩
      tasks := World.ownsRow_nil _ _ _ _
      done := World.ownsRow_nil _ _ _ _
      task := fun i hi => by simp [Bs.newB] at hi
      loP := Nat.le_refl _
      loQ := fun i hi => by simp [Bs.newB] at hi
      oR := fun k hk => ⟨hk.1, by have := hk.2; omega⟩
      oP := ⟨hs, by omega⟩
      oQ := fun i hi => by simp [Bs.newB] at hi
      oT := fun k hk => by cases hk
      oD := fun k hk => by cases hk
      oI := fun k hk => hk.elim
      iLo := fun k hk => hk.elim
      iP := id
      iQ := fun _ _ => id
      iT := fun _ _ => id
      iD := fun _ _ => id })
  clear hn hm hx hy
  go_enter Try.func6, Try.ntmps6
  go_wp2_with fail
  refine HN.out.mono ?_
  rintro e w1 ⟨hF, hp⟩
  cases y with
  | false =>
    rw [if_neg (by simp)] at hp
    obtain rfl := hp
    have HF := Lib.hid hF
    clear hF
    go_wp2
    go_ret
    exact ⟨HF.out, rfl⟩
  | true =>
    rw [if_pos rfl] at hp
    obtain ⟨r, rfl, hp⟩ := hp
    obtain ⟨O, h1, h2⟩ := HMADE.out (by simp) r w1 hp hF
    have HF := Lib.hid hF
    have H1 := Lib.hid h1
    have H2 := Lib.hid h2
    clear hF hp h1 h2
    go_wp2
    go_ret
    exact ⟨HF.out.alloc _, _, rfl, O, H1.out, H2.out⟩

section
variable {O : Nat → Prop} {p : Nat} {s : Bs} {w : World}
theorem sd_start (h : Bk O p s w) (a b : Int) (n : Nat) : Calls Try.prog 8 #[.pointer (some ⟨p, 0, none⟩), .int .i64 a, .int .i64 b, .int .u64 (n : Int)] w fun e w' => e = .returned (.tuple #[.int .i64 (s.startI a b : Int), .int .i64 (s.startE a b)]) ∧ BkTo O p (s.startS a b n) w w' := start10_any h a b n
theorem sd_list (h : Bk O p s w) : Calls Try.prog 10 #[.pointer (some ⟨p, 0, none⟩)] w fun e w' => e = .returned (.tuple #[.int .i64 (s.listI : Int), .int .i64 s.listE]) ∧ BkTo O p s.listS w w' := list10_any h
theorem sd_step (h : Bk O p s w) (i : Int) (hi : (Lit.int .i64 i).wf = true) : Calls Try.prog 12 #[.pointer (some ⟨p, 0, none⟩), .int .i64 i] w fun e w' => e = .returned (.int .i64 (s.stepE i)) ∧ BkTo O p (s.stepS i) w w' := by
  obtain ⟨V, hlt, B, T, r, q, tv, dv, I, hb⟩ := h
  refine (step10_any V hb hlt i hi).mono ?_
  rintro e w' ⟨rfl, dv', I', h1, h2⟩
  exact ⟨rfl, BkTo.of (V.step i) hlt h2 ⟨B, T, r, q, tv, dv', I', h1⟩⟩
theorem sd_result (h : Bk O p s w) (hf : ∀ i, (s.tk i).acted = false → (s.tk i).e = 0) (i : Int) (hi : (Lit.int .i64 i).wf = true) : Calls Try.prog 17 #[.pointer (some ⟨p, 0, none⟩), .int .i64 i] w fun e w' => e = .returned (.tuple #[.int .i64 (s.resV i), .bool (s.actV i)]) ∧ Fr No w w' := by
  obtain ⟨V, hlt, B, T, r, q, tv, dv, I, hb⟩ := h
  exact result10_any hb hf i
theorem sd_told (h : Bk O p s w) (hf : ∀ i, (s.tk i).acted = false → (s.tk i).told = []) (i : Int) (hi : (Lit.int .i64 i).wf = true) : Calls Try.prog 19 #[.pointer (some ⟨p, 0, none⟩), .int .i64 i] w fun e w' => ∃ v, e = .returned v ∧ OutN (s.toldV i) v w' ∧ Fr No w w' := by
  obtain ⟨V, hlt, B, T, r, q, tv, dv, I, hb⟩ := h
  exact told10_any hb i
theorem sd_holder (h : Bk O p s w) (k : Int) (hi : (Lit.int .i64 k).wf = true) : Calls Try.prog 16 #[.pointer (some ⟨p, 0, none⟩), .int .i64 k] w fun e w' => e = .returned (.int .i64 (s.holdV k)) ∧ Fr No w w' := by
  obtain ⟨V, hlt, B, T, r, q, tv, dv, I, hb⟩ := h
  exact (holder10_any V hb k).mono fun e w' h => ⟨h.1, h.2 ▸ Fr.refl _ _⟩
theorem sd_done (h : Bk O p s w) : Calls Try.prog 15 #[.pointer (some ⟨p, 0, none⟩)] w fun e w' => ∃ v, e = .returned v ∧ OutI s.done v w' ∧ Fr No w w' := by
  obtain ⟨V, hlt, B, T, r, q, tv, dv, I, hb⟩ := h
  exact (done10_any V hb).mono fun e w' ⟨v, h1, h2, h3, _⟩ => ⟨v, h1, h2, h3⟩
/-- The same, with where it lies. -/
theorem sd_done2 (h : Bk O p s w) : Calls Try.prog 15 #[.pointer (some ⟨p, 0, none⟩)] w fun e w' => ∃ v, e = .returned v ∧ OutI s.done v w' ∧ Fr No w w' ∧ ∀ g n c, v = .slice (some g) n c → O g.block ∨ w.heap.size ≤ g.block := by
  obtain ⟨V, hlt, B, T, r, q, tv, dv, I, hb⟩ := h
  exact (done10_any V hb).mono fun e w' ⟨v, h1, h2, h3, h4⟩ => ⟨v, h1, h2, h3, fun g n c e => .inr (h4 g n c e)⟩
theorem sd_balances (h : Bk O p s w) : Calls Try.prog 20 #[.pointer (some ⟨p, 0, none⟩)] w fun e w' => ∃ v, e = .returned v ∧ OutN s.p.b v w' ∧ Fr No w w' := by
  obtain ⟨V, hlt, B, T, r, q, tv, dv, I, hb⟩ := h
  refine (balances10_any hb).mono ?_
  rintro e w' ⟨g, c, rfl, h1, h2, h3, h4⟩
  refine ⟨_, rfl, ⟨_, _, rfl, fun i hi => ⟨_, rfl, by rw [Addr.add_lit, Nat.zero_add]; exact (h3 i hi).1, ?_⟩⟩, h4⟩
  have h5 := Ps.bal_le hi
  have h6 := V.wf.top
  show s.p.bal i < _
  omega
end
end Go.Proofs.Ytldcglmpnildiaa
