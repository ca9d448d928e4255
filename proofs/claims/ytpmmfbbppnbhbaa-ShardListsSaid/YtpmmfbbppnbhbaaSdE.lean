/- What a bank tells: all balances, and who acted. -/
import Derived.Test.YtpmmfbbppnbhbaaSdD
namespace Go.Proofs.Ytpmmfbbppnbhbaa
open Go.RowKit
set_option linter.unusedVariables false
set_option maxRecDepth 100000

theorem Try.infoInt10 : (Try.prog.info? 3).map (fun i => (i.zero, i.size, i.bytes)) = some (some (.int .i64 0), 1, 8) := by kernel_rfl
/-- How long a slice is. -/
def lenW : Value → Nat
  | .slice _ n _ => n
  | _ => 0
theorem own_slice {w : World} {B : Nat} {e : TypeId} {z n : Nat} {v : Value} {xs : List Value} (h : w.ownsRow B e z v n xs) : ∃ a c, v = .slice a n c := by
  rcases h.2 with ⟨rfl, rfl⟩ | ⟨g, cap, cur, rfl, _⟩
  · exact ⟨_, _, rfl⟩
  · exact ⟨_, _, rfl⟩
/-- What is owned, and not empty: where it lies. -/
theorem own_at {w : World} {B : Nat} {e : TypeId} {n : Nat} {v : Value} {xs : List Value} (h : w.ownsRow B e 1 v n xs) (h1 : 1 ≤ n) : ∃ g c, v = .slice (some ⟨g, 0, none⟩) n c ∧ v.ownBlock = some g ∧ B ≤ g ∧ g < w.heap.size ∧ n ≤ c ∧ c ≤ maxLen ∧ (∀ j u, xs[j]? = some u → w.cell? ⟨g, j, none⟩ = some u) ∧ ∀ j, w.frozen? ⟨g, j, none⟩ = false := by
  rcases h.2 with ⟨rfl, h0⟩ | ⟨g, cap, cur, rfl, hB, hg, hc, hm, _, ht⟩
  · omega
  · refine ⟨g, cap, rfl, rfl, hB, (Array.getElem?_eq_some_iff.1 hg).1, hc, hm, fun j u hu => ?_, fun j => ?_⟩
    · have := h.cells (by rfl) j u hu
      rw [Addr.add_lit, Nat.zero_add] at this
      exact this
    · unfold World.frozen?
      rw [show w.heap[(⟨g, j, none⟩ : Addr).block]? = _ from hg]
      simp
theorem cellsD_one (l : List Nat) : ∀ u ∈ cellsD l, u.oneCell' = true := by
  intro u hu
  unfold cellsD at hu
  rw [List.mem_map] at hu
  obtain ⟨x, _, rfl⟩ := hu
  rfl
theorem cellsD_get {b : List Nat} {j : Nat} {u : Value} (h : (cellsD b)[j]? = some u) : ∃ hj : j < b.length, u = .int .i64 (b.getD j 0 : Int) := by
  unfold cellsD at h
  rw [List.getElem?_map] at h
  by_cases hj : j < b.length
  · rw [List.getElem?_eq_getElem hj] at h
    refine ⟨hj, ?_⟩
    rw [List.getD_eq_getElem?_getD, List.getElem?_eq_getElem hj]
    simpa using h.symm
  · rw [List.getElem?_eq_none (by omega)] at h
    cases h
theorem cellsD_at {b : List Nat} {j : Nat} (h : j < b.length) : (cellsD b)[j]? = some (.int .i64 (b.getD j 0 : Int)) := by
  unfold cellsD
  rw [List.getElem?_map, List.getElem?_eq_getElem h, List.getD_eq_getElem?_getD, List.getElem?_eq_getElem h]
  rfl

set_option maxHeartbeats 2000000 in
theorem cloneI_any {B : Nat} {v : Value} (b : List Nat) (w : World) (h2 : b.length ≤ 32) (h : w.ownsRow B 3 1 v b.length (cellsD b)) :
    Calls Try.prog 38 #[v] w fun e w' => ∃ v', e = .returned v' ∧ OutI b v' w' ∧ Fr No w w' ∧ ∀ g n c, v' = .slice (some g) n c → w.heap.size ≤ g.block := by
  obtain ⟨i0, hi, hz0, hz1, hz2⟩ := info_parts Try.infoInt10
  have q : ∀ (w : World) (a : Option Addr) (n c n' c' : Nat), (binOp .eql 35 (.slice a n c) (.slice none n' c')).run Try.prog w = .ok (.bool a.isNone) w := fun w a n c n' c' => Lib.run_eql_slice_nil w _ _ a n c n' c' Try.underlying35
  by_cases h1 : 1 ≤ b.length
  · obtain ⟨g, cap, rfl, _, _, hg, _, _, hc, _⟩ := own_at h h1
    have HC := Lib.hid hc
    obtain ⟨n, hn⟩ : ∃ n, n = b.length := ⟨_, rfl⟩
    have HN := Lib.hid hn
    rw [← hn] at h2
    have H1 : Hid (1 ≤ n) := Lib.hid (by omega)
    rw [← hn]
    clear h hc h1 hn
    go_enter Try.func38, Try.ntmps38
    go_wp2_with (at_builtin; refine wpList_append_own _ rfl _ _ 35 rfl w.heap.size 3 i0 (.int .i64 0) 1 8 Try.underlying35 hi hz0 hz1 hz2 rfl (by decide) _ _ _ rfl (World.ownsRow_made w #[] 0 (Nat.le_refl _) (Nat.zero_le _) rfl) ⟨g, 0, none⟩ n cap (cellsD b) rfl ?c1 ?c2 ?c3 ?c4 ?c5 ?c6 ?c7)
    case c1 => simp [cellsD, HN.out]
    case c2 =>
      intro j u hu
      have hc := HC.out j u hu
      rw [Addr.add_lit, Nat.zero_add]
      exact (World.cell?_alloc_lt _ _ _ (World.block_lt_of_cell? _ _ hc)).trans hc
    case c3 => exact cellsD_one b
    case c4 => unfold maxLen; omega
    case c5 => omega
    case c6 => exact (by simp)
    case c7 =>
      intro v' w1 hown' hgrow _
      have HF : Hid (Fr No w w1) := Lib.hid ((((Fr.refl (· = w.heap.size) w).alloc _).trans (Fr.of_grown hgrow fun k hk => by simpa [Value.ownBlock] using hk.symm)).mono fun k hk e => by omega)
      have HO : Hid (OutI b v' w1 ∧ ∀ g n c, v' = .slice (some g) n c → w.heap.size ≤ g.block) := Lib.hid (by
        obtain ⟨g2, c2, rfl, _, hg2, _, _, _, hcell, _⟩ := own_at (xs := cellsD b) (by simpa using hown') H1.out
        refine ⟨⟨_, _, by rw [HN.out], fun i hi => ⟨_, rfl, ?_⟩⟩, fun g n c e => ?_⟩
        · rw [Addr.add_lit, Nat.zero_add]
          exact hcell i _ (cellsD_at hi)
        · injection e with e _ _
          injection e with e
          subst e
          exact hg2)
      obtain ⟨a', c', rfl⟩ := own_slice hown'
      clear hown' hgrow
      go_wp2
      go_ret
      exact ⟨_, rfl, HO.out.1, HF.out, HO.out.2⟩
  · have h0 : b = [] := List.eq_nil_of_length_eq_zero (by omega)
    subst h0
    have hX : Hid (OutI [] v w ∧ ∀ g n c, v = .slice (some g) n c → False ∨ ∃ c', v = .slice (some g) 0 c') := Lib.hid (by
      obtain ⟨a, c, rfl⟩ := own_slice h
      exact ⟨⟨_, _, rfl, fun i hi => by simp at hi⟩, fun g n c' e => by injection e with e1 e2 e3; subst e1; exact .inr ⟨c, rfl⟩⟩)
    rcases h.2 with ⟨rfl, h0⟩ | ⟨g, cap, cur, rfl, hB, hg, hc, hm, _, ht⟩
    · clear h hX h0 h2 h1
      go_enter Try.func38, Try.ntmps38
      go_wp2
      go_ret
      exact ⟨_, rfl, ⟨_, _, rfl, fun i hi => by simp at hi⟩, Fr.refl _ _, fun g n c e => by cases e⟩
    · clear h hX h2 h1 hg hc hm ht hB
      go_enter Try.func38, Try.ntmps38
      go_wp2_with (at_builtin; refine wpList_append_own _ rfl _ _ 35 rfl w.heap.size 3 i0 (.int .i64 0) 1 8 Try.underlying35 hi hz0 hz1 hz2 rfl (by decide) _ _ _ rfl (World.ownsRow_made w #[] 0 (Nat.le_refl _) (Nat.zero_le _) rfl) ⟨g, 0, none⟩ 0 cap [] rfl ?c1 ?c2 ?c3 ?c4 ?c5 ?c6 ?c7)
      case c1 => rfl
      case c2 => intro j u hu; simp at hu
      case c3 => intro u hu; simp at hu
      case c4 => unfold maxLen; omega
      case c5 => omega
      case c6 => exact (by simp)
      case c7 =>
        intro v' w1 hown' hgrow _
        have HF : Hid (Fr No w w1) := Lib.hid ((((Fr.refl (· = w.heap.size) w).alloc _).trans (Fr.of_grown hgrow fun k hk => by simpa [Value.ownBlock] using hk.symm)).mono fun k hk e => by omega)
        have HO : Hid (∀ g n c, v' = .slice (some g) n c → w.heap.size ≤ g.block) := Lib.hid (fun g n c e => (hown'.lt g.block (by
          obtain ⟨a', c', e2⟩ := own_slice hown'
          rcases hown'.2 with ⟨e3, _⟩ | ⟨g2, cap, cur, e3, _⟩
          · rw [e3] at e; cases e
          · rw [e3] at e ⊢
            injection e with e _ _
            injection e with e
            subst e
            rfl)).1)
        obtain ⟨a', c', rfl⟩ := own_slice hown'
        clear hown' hgrow
        go_wp2
        go_ret
        exact ⟨_, rfl, ⟨_, _, rfl, fun i hi => by simp at hi⟩, HF.out, HO.out⟩

section
variable {O I : Nat → Prop} {w : World} {p : Nat} {s : Bs} {td : Nat → List Sp} {B T r : Nat} {q : Nat → Nat} {tv dv : Value}
set_option maxHeartbeats 1000000 in
theorem done10_any (V : s.Inv) (h : BkAt O p s td w B T r q tv dv I) : Calls Try.prog 20 #[.pointer (some ⟨p, 0, none⟩)] w fun e w' => ∃ v, e = .returned v ∧ OutI s.done v w' ∧ Fr No w w' ∧ ∀ g n c, v = .slice (some g) n c → w.heap.size ≤ g.block := by
  have c6 := h.blk.cell (i := 6) (v := dv) rfl
  have HC := Lib.hid (cloneI_any s.done w (Bs.done_le V) h.done)
  obtain ⟨l, hl⟩ : ∃ l, l = s.done := ⟨_, rfl⟩
  rw [← hl] at HC ⊢
  clear h hl V
  go_enter Try.func20, Try.ntmps20
  go_wp2_with fail
  refine HC.out.mono ?_
  rintro x w1 ⟨v', rfl, h1, h2, h3⟩
  have H1 := Lib.hid h1
  have H2 := Lib.hid h2
  have H3 := Lib.hid h3
  clear h1 h2 h3
  go_wp2
  go_ret
  exact ⟨_, rfl, H1.out, H2.out, H3.out⟩

theorem take_snoc64 {b : List Nat} {i : Nat} (h : i < b.length) : cells64 (b.take (i + 1)) = cells64 (b.take i) ++ [.int .u64 (b.getD i 0 : Int)] := by
  unfold cells64
  rw [List.take_succ_eq_append_getElem h, List.map_append, List.getD_eq_getElem?_getD, List.getElem?_eq_getElem h]
  rfl
theorem Ps.balV_of {s : Ps} (i : Nat) : s.balV (i : Int) = (if i < s.b.length then s.b.getD i 0 else 0) ∧ s.has (i : Int) = decide (i < s.b.length) := by
  have e : s.has (i : Int) = decide (i < s.b.length) := by
    unfold Ps.has
    congr 1
    apply propext
    omega
  refine ⟨?_, e⟩
  unfold Ps.balV
  rw [e, Int.toNat_natCast]
  by_cases h : i < s.b.length
  · rw [decide_eq_true h, if_pos h]; rfl
  · rw [decide_eq_false h, if_neg h]; rfl

set_option maxHeartbeats 4000000 in
theorem balances10_any (h : BkAt O p s td w B T r q tv dv I) : Calls Try.prog 25 #[.pointer (some ⟨p, 0, none⟩)] w fun e w' =>
    ∃ g c, e = .returned (.slice (some ⟨g, 0, none⟩) s.p.b.length c) ∧ w.heap.size ≤ g ∧ g < w'.heap.size ∧ Rw w' g s.p.b ∧ Fr No w w' := by
  obtain ⟨i0, hi0, hz0, hz1, hz2⟩ := info_parts Try.infoU64
  have HB := Lib.hid (fun X (f : Fr No w X) (i : Nat) => balance10_any (h.no f) (i : Int))
  have h1 := h.pu.wf.b1
  have h2 := h.pu.wf.b2
  obtain ⟨b, hb⟩ : ∃ b, b = s.p.b := ⟨_, rfl⟩
  have HV : Hid (∀ i : Nat, s.p.balV (i : Int) = (if i < b.length then b.getD i 0 else 0) ∧ s.p.has (i : Int) = decide (i < b.length)) := Lib.hid (fun i => by rw [hb]; exact Ps.balV_of i)
  rw [← hb] at h1 h2 ⊢
  obtain ⟨n, hn⟩ : ∃ n, n = b.length := ⟨_, rfl⟩
  have HN := Lib.hid hn
  have HN1 : Hid (1 ≤ n ∧ n ≤ 32) := Lib.hid (by omega)
  have HB0 := Lib.hid (HB.out w (Fr.refl _ _) 0)
  have HFIN : Hid (∀ v w', w'.ownsRow w.heap.size 27 1 v n (cells64 (b.take n)) → Fr No w w' → ∃ g c, v = .slice (some ⟨g, 0, none⟩) n c ∧ w.heap.size ≤ g ∧ g < w'.heap.size ∧ Rw w' g b) := Lib.hid (fun v w' ho _ => own64 (by rw [hn, List.take_length] at ho; rw [hn]; exact ho) hn (by omega))
  rw [(HV.out 0).1, (HV.out 0).2, if_pos (by omega), decide_eq_true (by omega)] at HB0
  obtain ⟨x0, hx0⟩ : ∃ x, x = b.getD 0 0 := ⟨_, rfl⟩
  have HX0 := Lib.hid hx0
  rw [← hx0] at HB0
  rw [← hn]
  clear h h1 h2 hb hn hx0
  go_enter Try.func25, Try.ntmps25
  go_wp2_with fail
  refine HB0.out.mono ?_
  rintro e w1 ⟨rfl, hF⟩
  have HF1 := Lib.hid hF
  clear hF
  go_wp2_with fail
  go_loopw [3, 4, 5] (fun v x y wr => ∃ (i m : Nat), i ≤ n ∧ x = .int .u64 (m : Int) ∧ y = .bool (decide (i < n)) ∧ Hid (m = if i < n then b.getD i 0 else 0) ∧ Hid (wr.ownsRow w.heap.size 27 1 v i (cells64 (b.take i))) ∧ Hid (Fr No w wr)) (fun v _ _ _ => n + 1 - lenW v)
  case atStart => exact ⟨0, x0, by omega, rfl, by rw [decide_eq_true (by have := HN1.out; omega)], Lib.hid (by rw [if_pos (by have := HN1.out; omega)]; exact HX0.out), Lib.hid (World.ownsRow_nil _ _ _ _), HF1⟩
  case round =>
    obtain ⟨i, m, hi, rfl, rfl, HM, HO, HF⟩ := hrel
    obtain ⟨a, c, rfl⟩ := own_slice HO.out
    by_cases hlt : i < n
    · rw [decide_eq_true hlt]
      have t1 : i < n := hlt
      obtain ⟨k1, hk1⟩ : ∃ k, k = i + 1 := ⟨_, rfl⟩
      have HK1 : Hid (k1 = i + 1 ∧ k1 ≤ n) := Lib.hid ⟨hk1, by omega⟩
      have HMx : Hid (m = b.getD i 0) := Lib.hid (by rw [HM.out, if_pos hlt])
      have HA := Lib.hid (owns_fr HO.out ((Fr.refl No wr).alloc (.cells #[.int .u64 (m : Int)] 27)) (fun _ _ => id))
      clear hlt hi hk1 HM
      go_wp2_with (at_builtin; refine wpList_append_own_at _ rfl _ _ 22 rfl w.heap.size 27 i0 (.int .u64 0) 1 8 Try.underlying22 hi0 hz0 hz1 hz2 rfl (by decide) _ _ _ rfl HA.out ⟨wr.heap.size, 0, none⟩ 1 1 [.int .u64 (m : Int)] rfl rfl ?c1 ?c2 ?c3 ?c4 ?c5 ?c6)
      case c1 => exact cell_one_new _ _ _
      case c2 => intro u hu; simp at hu; subst hu; rfl
      case c3 => have := HK1.out; have := HN1.out; unfold maxLen; omega
      case c4 => have := HK1.out; have := HN1.out; omega
      case c5 => have := HF.out.size; simp; omega
      case c6 =>
        intro v2 w2 hown hgrow _ hloc
        have HO2 : Hid (w2.ownsRow w.heap.size 27 1 v2 k1 (cells64 (b.take k1))) := Lib.hid (by
          have e := HK1.out
          rw [e.1, take_snoc64 (by have := HN.out; omega), ← HMx.out]
          exact hown)
        have HF2 : Hid (Fr No w w2) := Lib.hid ((HF.out.trans ((Fr.refl No wr).alloc _)).trans' (Fr.of_grown (S := fun k => (Value.slice a i c).ownBlock = some k) hgrow (fun k e => e)) (fun k hk e => by have := (HA.out.lt k e).1; omega))
        obtain ⟨a2, c2, rfl⟩ := own_slice HO2.out
        have HBk := Lib.hid (HB.out w2 HF2.out k1)
        obtain ⟨m2, hm2⟩ : ∃ x, x = s.p.balV (k1 : Int) := ⟨_, rfl⟩
        have HM2 : Hid (m2 = if k1 < n then b.getD k1 0 else 0) := Lib.hid (by rw [hm2, (HV.out k1).1, HN.out])
        have e2 : s.p.has (k1 : Int) = decide (k1 < n) := by rw [(HV.out k1).2, HN.out]
        rw [← hm2, e2] at HBk
        clear hown hgrow hloc hm2 e2
        go_wp2_with fail
        refine HBk.out.mono ?_
        rintro e w3 ⟨rfl, hF⟩
        have HF3 := Lib.hid (HF2.out.trans hF)
        have HO3 := Lib.hid (owns_fr HO2.out hF (fun _ _ => id))
        clear hF
        go_wp2
        exact ⟨⟨k1, m2, HK1.out.2, rfl, rfl, HM2, HO3, HF3⟩, by have := HK1.out; simp [lenW]; omega⟩
    · rw [decide_eq_false hlt]
      obtain rfl : i = n := by omega
      have HG := Lib.hid (HFIN.out _ _ HO.out HF.out)
      clear hlt hi
      go_wp2
      go_ret
      obtain ⟨g, c', he, h1, h2, h3⟩ := HG.out
      exact ⟨g, c', by injection he with e1 _ e3; subst e1; subst e3; rfl, h1, h2, h3, HF.out⟩
end
end Go.Proofs.Ytpmmfbbppnbhbaa
