/- The walk of 'ShelfAny'. -/
import Derived.Test.YtnpgcgemifoddaaDoorShelfTwice
namespace Go.Proofs.YtnpgcgemifoddaaDoor
open Go.RowKit
set_option linter.unusedVariables false

set_option maxHeartbeats 1000000 in
set_option maxRecDepth 100000 in
theorem any_big (h : List Nat) (ao : Option Addr) (n cap : Nat) (s : Int) (w : World) (hn : 40 < n) (hm : n ≤ maxLen) (hg : Gl w) :
    Calls Tryd.prog 6 #[.agg (arr .u8 h), .slice ao n cap, .int .u16 s] w fun e w' => e = .returned (.bool true) ∧ Fr No w w' := by
  unfold maxLen at hm
  have h1 : (40 : Int) < n := by omega
  have HG := Lib.hid hg
  have HF0 : Hid (Fr No w (w.alloc (.cells (arr .u8 h) 27))) := Lib.hid ((Fr.refl No w).alloc _)
  clear hg
  go_enter Tryd.func6, Tryd.ntmps6
  go_wp2_with fail
  refine (shown5_any _ (HG.out.fr HF0.out (fun _ _ => id))).mono ?_
  rintro e w1 ⟨rfl, hF⟩
  have HF := Lib.hid (HF0.out.trans hF)
  clear hF
  go_wp2
  go_ret
  exact ⟨rfl, HF.out⟩

set_option maxHeartbeats 4000000 in
set_option maxRecDepth 100000 in
theorem any_ok (h : List Nat) (ao : Option Addr) (n cap : Nat) (xs : Nat → Nat) (s : Nat) (w : World) (hh : H32 h) (hn : n ≤ 40) (hs : s < 65536)
    (hel : ∀ i, i < n → ∃ a, ao = some a ∧ w.cell? (a.add i) = some (.int .u16 (xs i : Int)) ∧ xs i < 65536) (hg : Gl w) :
    Calls Tryd.prog 6 #[.agg (arr .u8 h), .slice ao n cap, .int .u16 (s : Int)] w fun e w' => e = .returned (.bool true) ∧ Fr No w w' := by
  have h1 : ¬ (40 : Int) < n := by omega
  have HG := Lib.hid hg
  have HH := Lib.hid hh
  have HE := Lib.hid hel
  have HS := Lib.hid hs
  have HNN := Lib.hid hn
  have es : IntKind.i64.wrap (s : Int) = (s : Int) := IntWalk.i64_in _ (by omega)
  have HF0 : Hid (Fr No w (w.alloc (.cells (arr .u8 h) 27))) := Lib.hid ((Fr.refl No w).alloc _)
  have HR0 := Lib.hid (Row.new w 27 .u8 h)
  clear hh hg hel hs hn
  go_enter Tryd.func6, Tryd.ntmps6
  go_wp2_with fail
  refine (shown5_any _ (HG.out.fr HF0.out (fun _ _ => id))).mono ?_
  rintro e w1 ⟨rfl, hF⟩
  have HF1 := Lib.hid (HF0.out.trans hF)
  have HR1 := Lib.hid (HR0.out.fr hF id)
  clear hF
  go_wp2_with (refine wpList_execG (.agg (flat zeroL).toArray) (exec_shelf rfl) rfl ?_)
  refine wp_world (fun W => St w w1.heap.size zeroL [(w.heap.size, h)] W) ⟨HF1.out.alloc _, HF1.out.size, Blk.new w1 32 (flat zeroL), fun r hr => by
    obtain rfl : r = (w.heap.size, h) := by simpa using hr
    exact ⟨HR1.out.alloc _, HH.out.len, by have := HR1.out.lt; show w.heap.size ≠ w1.heap.size; omega⟩⟩ (fun W hW => ?_)
  obtain ⟨b, hb⟩ : ∃ b, b = w1.heap.size := ⟨_, rfl⟩
  rw [← hb] at hW ⊢
  have HB : Hid (w.heap.size ≤ b) := Lib.hid hW.new
  obtain ⟨p, hp⟩ : ∃ p, p = w.heap.size := ⟨_, rfl⟩
  rw [← hp] at hW ⊢
  have HP := Lib.hid hp
  clear hb hp HR1 HR0 HF1 HF0
  go_loopw [8] (fun c wr => ∃ (k : Nat) (L : List Ent), c = .int .i64 (k : Int) ∧ k ≤ n ∧ Tw h 0 L ∧ St w b L [(p, h)] wr) (fun c _ => n - (intOf c).toNat)
  case atStart => exact ⟨0, zeroL, rfl, by omega, Tw.start h, hW⟩
  case round =>
    obtain ⟨k, L, rfl, hk, hT, hS⟩ := hrel
    have S0 := Lib.hid hS
    have HT := Lib.hid hT
    clear hS hT
    by_cases hlt : k < n
    · have h2 : (k : Int) < (n : Int) := by omega
      obtain ⟨a, rfl, hca, hx2⟩ := HE.out k hlt
      obtain ⟨q, hq⟩ : ∃ q, q = a.add k := ⟨_, rfl⟩
      rw [← hq] at hca
      obtain ⟨x, hxx⟩ : ∃ x, x = xs k := ⟨_, rfl⟩
      rw [← hxx] at hca hx2
      have hq' : a.add k = q := hq.symm
      have e6 : IntKind.i64.wrap (x : Int) = (x : Int) := IntWalk.i64_in _ (by omega)
      have e7 : IntKind.i64.wrap ((k : Int) + 1) = ((k + 1 : Nat) : Int) := IntWalk.i64_in _ (by have := HNN.out; omega)
      have HCA := Lib.hid hca
      have HQB : Hid (q.block ≠ b) := Lib.hid (by have := World.block_lt_of_cell? w q hca; have := HB.out; omega)
      have HEC : Hid (∀ X S, Fr S w X → ¬ S q.block → (Instr.loadAt 54 (.pointer (some q))).run Tryd.prog X = .ok (.int .u16 (x : Int)) X) := Lib.hid (fun X S hX hS => by
        have h9 := hX.cellB hS hca
        simp [go_sem, h9])
      obtain ⟨L1, hL1⟩ : ∃ L1, L1 = insL L (x : Int) (mSec h (x : Int)) (mSec_h HH.out _) := ⟨_, rfl⟩
      have hT1 : Tw h 1 L1 := by rw [hL1]; exact HT.out.once HH.out hx2
      have HT1 : Hid (Tw h 0 L1) := Lib.hid hT1.more
      obtain ⟨A, hAe⟩ : ∃ A, A = mSec h (x : Int) := ⟨_, rfl⟩
      have HLA : Hid (A.length = 32) := Lib.hid (by rw [hAe]; exact (mSec_h HH.out _).len)
      obtain ⟨m1, hm1⟩ : ∃ e, e = mErr (x : Int) := ⟨_, rfl⟩
      have HM1 : Hid (∀ X, Calls Tryd.prog 18 #[.agg (arr .u8 h), .int .i64 (x : Int)] X fun ex w' => ex = .returned (.tuple #[.agg (arr .u8 A), .int .i64 m1]) ∧ Fr No X w') := Lib.hid (fun X => by rw [hAe, hm1]; exact rmake_any h x X HH.out)
      have HI1 : Hid (∀ R X, St w b L R X → Calls Tryd.prog 12 #[.pointer (some ⟨b, 0, none⟩), .int .i64 (x : Int), .agg (arr .u8 A)] X fun ex w' => ex = .returned (.int .i64 0) ∧ Fr (· = b) X w' ∧ Blk w' b 32 (flat L1)) := Lib.hid (fun R X s => by
        rw [hAe, hL1]
        exact insert_of (x : Int) HH.out HT.out.of (num_of hx2) s.blk HT.out.len (s.gl HG.out))
      have HK1 : Hid (∀ R X, St w b L1 R X → Calls Tryd.prog 16 #[.pointer (some ⟨b, 0, none⟩), .int .i64 (x : Int)] X fun ex w' => ex = .returned (.tuple #[.agg (arr .u8 A), .int .i64 0]) ∧ Fr No X w') := Lib.hid (fun R X s => by
        rw [hAe]
        exact look_any b L1 _ X _ 0 s.blk hT1.len (s.gl HG.out) (by rw [hL1]; exact of_told HT.out.of hx2 HT.out.len _))
      have HNA := Lib.hid (neq_h32 A HLA.out)
      have HX : Hid (n - (k + 1) < n - k) := Lib.hid (by omega)
      have HK2 : Hid (k + 1 ≤ n) := Lib.hid (by omega)
      have HLH : Hid (∀ X, Fr No wr X → (Instr.loadAt 27 (.pointer (some ⟨p, 0, none⟩))).run Tryd.prog X = .ok (.agg (arr .u8 h)) X) := Lib.hid (fun X hX => (S0.out.on hX).load (.head _))
      clear hq hca hxx hx2 hL1 hT1 hAe hm1 hlt
      go_wp2_with fail
      refine wp_region_held_drew (S := (fun X => Fr No wr X)) (by kernel_rfl) ((Fr.refl _ wr).drew) (fun hHeld => ?_)
      refine takeD (i := 0) (d := some 34) (v := .agg (arr .u8 h)) rfl (by kernel_rfl) (by kernel_rfl) (by kernel_rfl) (by kernel_rfl) (fun _ _ _ h => h) (Or.inl ⟨by kernel_rfl, fun X hX => Or.inl (exec_load 27 (.tmp 3) rfl _ _ rfl (HLH.out X hX))⟩) (by assumption) ?_
      (try simp only [Act.put]); (try simp only [List.setIfInBounds_toArray]); (try simp only [List.set_cons_succ]); (try simp only [List.set_cons_zero])
      refine takeD (i := 1) (d := some 35) (v := ?_) rfl (by kernel_rfl) (by kernel_rfl) (by kernel_rfl) (by kernel_rfl) (fun _ _ _ h => h) (Or.inl ⟨by kernel_rfl, fun X hX => Or.inl ?_⟩) (by assumption) ?_
      rotate_left
      · first | (go_simp; done) | (go_simp; with_reducible rfl)
      (try simp only [Act.put]); (try simp only [List.setIfInBounds_toArray]); (try simp only [List.set_cons_succ]); (try simp only [List.set_cons_zero])
      refine takeD (i := 2) (d := some 36) (v := ?_) rfl (by kernel_rfl) (by kernel_rfl) (by kernel_rfl) (by kernel_rfl) (fun _ _ _ h => h) (Or.inl ⟨by kernel_rfl, fun X hX => Or.inl ?_⟩) (by assumption) ?_
      rotate_left
      · first | (go_simp; done) | (go_simp; with_reducible rfl)
      (try simp only [Act.put]); (try simp only [List.setIfInBounds_toArray]); (try simp only [List.set_cons_succ]); (try simp only [List.set_cons_zero])
      refine takeD (i := 3) (d := some 37) (v := ?_) rfl (by kernel_rfl) (by kernel_rfl) (by kernel_rfl) (by kernel_rfl) (fun _ _ _ h => h) (Or.inl ⟨by kernel_rfl, fun X hX => Or.inl ?_⟩) (by assumption) ?_
      rotate_left
      · first | (go_simp; done) | (go_simp; with_reducible rfl)
      (try simp only [Act.put]); (try simp only [List.setIfInBounds_toArray]); (try simp only [List.set_cons_succ]); (try simp only [List.set_cons_zero])
      refine takeD (i := 4) (d := some 38) (v := .int .u16 (x : Int)) rfl (by kernel_rfl) (by kernel_rfl) (by kernel_rfl) (by kernel_rfl) (fun _ _ _ h => h) (Or.inl ⟨by kernel_rfl, fun X hX => Or.inl (exec_load 54 (.tmp 37) rfl _ _ rfl (HEC.out X No (S0.out.fr.trans hX) id))⟩) (by assumption) ?_
      (try simp only [Act.put]); (try simp only [List.setIfInBounds_toArray]); (try simp only [List.set_cons_succ]); (try simp only [List.set_cons_zero])
      refine takeD (i := 5) (d := some 39) (v := ?_) rfl (by kernel_rfl) (by kernel_rfl) (by kernel_rfl) (by kernel_rfl) (fun _ _ _ h => h) (Or.inl ⟨by kernel_rfl, fun X hX => Or.inl ?_⟩) (by assumption) ?_
      rotate_left
      · first | (go_simp; done) | (go_simp; with_reducible rfl)
      (try simp only [Act.put]); (try simp only [List.setIfInBounds_toArray]); (try simp only [List.set_cons_succ]); (try simp only [List.set_cons_zero])
      refine wpAnyH_ready (rs := [6, 10]) (by kernel_rfl) (by simp) ?_
      refine (AllReadyH.cons rfl (fun K hK => ?_) (AllReadyH.cons rfl (fun K hK => ?_) AllReadyH.nil))
      · rw [if_pos (by kernel_rfl)]
        go_simp
        refine (HM1.out _).mono ?_
        rintro ex v3 ⟨rfl, hF3⟩
        have F3 := Lib.hid (hHeld.trans hF3)
        clear hF3
        refine hK.out _ _ (F3.out) (fun hHeld => ?_)
        clear hK K
        (try simp only [Act.put]); (try simp only [List.setIfInBounds_toArray]); (try simp only [List.set_cons_succ]); (try simp only [List.set_cons_zero])
        refine takeD (i := 7) (d := some 33) (v := ?_) rfl (by kernel_rfl) (by kernel_rfl) (by kernel_rfl) (by kernel_rfl) (fun _ _ _ h => h) (Or.inl ⟨by kernel_rfl, fun X hX => Or.inl ?_⟩) (by assumption) ?_
        rotate_left
        · first | (go_simp; done) | (go_simp; with_reducible rfl)
        (try simp only [Act.put]); (try simp only [List.setIfInBounds_toArray]); (try simp only [List.set_cons_succ]); (try simp only [List.set_cons_zero])
        refine takeD (i := 8) (d := some 41) (v := ?_) rfl (by kernel_rfl) (by kernel_rfl) (by kernel_rfl) (by kernel_rfl) (fun _ _ _ h => h) (Or.inl ⟨by kernel_rfl, fun X hX => Or.inl ?_⟩) (by assumption) ?_
        rotate_left
        · first | (go_simp; done) | (go_simp; with_reducible rfl)
        (try simp only [Act.put]); (try simp only [List.setIfInBounds_toArray]); (try simp only [List.set_cons_succ]); (try simp only [List.set_cons_zero])
        refine takeD (i := 9) (d := some 42) (v := ?_) rfl (by kernel_rfl) (by kernel_rfl) (by kernel_rfl) (by kernel_rfl) (fun _ _ _ h => h) (Or.inl ⟨by kernel_rfl, fun X hX => Or.inl ?_⟩) (by assumption) ?_
        rotate_left
        · first | (go_simp; done) | (go_simp; with_reducible rfl)
        (try simp only [Act.put]); (try simp only [List.setIfInBounds_toArray]); (try simp only [List.set_cons_succ]); (try simp only [List.set_cons_zero])
        refine wpAnyH_ready (rs := [10]) (by kernel_rfl) (by simp) ?_
        refine AllReadyH.cons rfl (fun K hK => ?_) AllReadyH.nil
        rw [if_pos (by kernel_rfl)]
        go_simp
        refine K_world (K := K) (fun W => Fr No v3 W ∧ Row W v3.heap.size 27 .u8 (List.replicate 32 0)) ⟨(Fr.refl No v3).alloc _, Row.new v3 27 .u8 (List.replicate 32 0)⟩ ?_
        rintro X3 ⟨hX, hRX⟩
        have RX3 := Lib.hid hRX
        have FX3 := Lib.hid (F3.out.trans hX)
        clear hX hRX
        refine hK.out _ _ (FX3.out) (fun hHeld => ?_)
        clear hK K
        (try simp only [Act.put]); (try simp only [List.setIfInBounds_toArray]); (try simp only [List.set_cons_succ]); (try simp only [List.set_cons_zero])
        refine wpAnyH_ready (rs := [11]) (by kernel_rfl) (by simp) ?_
        refine AllReadyH.cons rfl (fun K hK => ?_) AllReadyH.nil
        rw [if_pos (by kernel_rfl)]
        refine wp_store_row 27 _ _ rfl v3.heap.size rfl (arr .u8 A) rfl RX3.out arHash (by rfl) (by rw [arr_size]; exact HLA.out) (arr_one _ _) ?_
        refine hK.out _ _ (fr_setRow hHeld (.inr F3.out.size) _) (fun hHeld => ?_)
        clear hK K
        (try simp only [Act.put]); (try simp only [List.setIfInBounds_toArray]); (try simp only [List.set_cons_succ]); (try simp only [List.set_cons_zero])
        refine takeD (i := 12) (d := some 10) (v := ?_) rfl (by kernel_rfl) (by kernel_rfl) (by kernel_rfl) (by kernel_rfl) (fun _ _ _ h => h) (Or.inl ⟨by kernel_rfl, fun X hX => Or.inl ?_⟩) (by assumption) ?_
        rotate_left
        · first | (go_simp; done) | (go_simp; with_reducible rfl)
        (try simp only [Act.put]); (try simp only [List.setIfInBounds_toArray]); (try simp only [List.set_cons_succ]); (try simp only [List.set_cons_zero])
        refine wpAnyH_done (by kernel_rfl) ?_ _
        have hS8 : St w b L [(v3.heap.size, A), (p, h)] (X3.setRow v3.heap.size (arr .u8 A)) := (S0.out.on hHeld).cons (Row.setRow (l' := A) RX3.out) HLA.out (by have := S0.out.blk.lt; have := F3.out.size; omega)
        obtain ⟨g, hgg⟩ : ∃ g, g = v3.heap.size := ⟨_, rfl⟩
        rw [← hgg] at hS8 hHeld ⊢
        generalize X3.setRow g (arr .u8 A) = W8 at *
        have T8 := Lib.hid hS8
        clear hHeld hgg hS8
        go_wp2_with fail
        refine wp_region_held_drew (S := (fun X => Fr (fun j => j = b) W8 X)) (by kernel_rfl) ((Fr.refl _ W8).drew) (fun hHeld => ?_)
        refine takeD (i := 0) (d := some 43) (v := ?_) rfl (by kernel_rfl) (by kernel_rfl) (by kernel_rfl) (by kernel_rfl) (fun _ _ _ h => h) (Or.inl ⟨by kernel_rfl, fun X hX => Or.inl ?_⟩) (by assumption) ?_
        rotate_left
        · first | (go_simp; done) | (go_simp; with_reducible rfl)
        (try simp only [Act.put]); (try simp only [List.setIfInBounds_toArray]); (try simp only [List.set_cons_succ]); (try simp only [List.set_cons_zero])
        refine takeD (i := 1) (d := some 44) (v := ?_) rfl (by kernel_rfl) (by kernel_rfl) (by kernel_rfl) (by kernel_rfl) (fun _ _ _ h => h) (Or.inl ⟨by kernel_rfl, fun X hX => Or.inl ?_⟩) (by assumption) ?_
        rotate_left
        · first | (go_simp; done) | (go_simp; with_reducible rfl)
        (try simp only [Act.put]); (try simp only [List.setIfInBounds_toArray]); (try simp only [List.set_cons_succ]); (try simp only [List.set_cons_zero])
        refine takeD (i := 2) (d := some 45) (v := ?_) rfl (by kernel_rfl) (by kernel_rfl) (by kernel_rfl) (by kernel_rfl) (fun _ _ _ h => h) (Or.inl ⟨by kernel_rfl, fun X hX => Or.inl ?_⟩) (by assumption) ?_
        rotate_left
        · first | (go_simp; done) | (go_simp; with_reducible rfl)
        (try simp only [Act.put]); (try simp only [List.setIfInBounds_toArray]); (try simp only [List.set_cons_succ]); (try simp only [List.set_cons_zero])
        refine takeD (i := 3) (d := some 46) (v := ?_) rfl (by kernel_rfl) (by kernel_rfl) (by kernel_rfl) (by kernel_rfl) (fun _ _ _ h => h) (Or.inl ⟨by kernel_rfl, fun X hX => Or.inl ?_⟩) (by assumption) ?_
        rotate_left
        · first | (go_simp; done) | (go_simp; with_reducible rfl)
        (try simp only [Act.put]); (try simp only [List.setIfInBounds_toArray]); (try simp only [List.set_cons_succ]); (try simp only [List.set_cons_zero])
        refine takeD (i := 4) (d := some 47) (v := .int .u16 (x : Int)) rfl (by kernel_rfl) (by kernel_rfl) (by kernel_rfl) (by kernel_rfl) (fun _ _ _ h => h) (Or.inl ⟨by kernel_rfl, fun X hX => Or.inl (exec_load 54 (.tmp 46) rfl _ _ rfl (HEC.out X (fun j => j = b) ((T8.out.fr.mono (fun _ _ e => e.elim)).trans hX) HQB.out))⟩) (by assumption) ?_
        (try simp only [Act.put]); (try simp only [List.setIfInBounds_toArray]); (try simp only [List.set_cons_succ]); (try simp only [List.set_cons_zero])
        refine takeD (i := 5) (d := some 48) (v := ?_) rfl (by kernel_rfl) (by kernel_rfl) (by kernel_rfl) (by kernel_rfl) (fun _ _ _ h => h) (Or.inl ⟨by kernel_rfl, fun X hX => Or.inl ?_⟩) (by assumption) ?_
        rotate_left
        · first | (go_simp; done) | (go_simp; with_reducible rfl)
        (try simp only [Act.put]); (try simp only [List.setIfInBounds_toArray]); (try simp only [List.set_cons_succ]); (try simp only [List.set_cons_zero])
        refine takeD (i := 6) (d := some 49) (v := .agg (arr .u8 A)) rfl (by kernel_rfl) (by kernel_rfl) (by kernel_rfl) (by kernel_rfl) (fun _ _ _ h => h) (Or.inl ⟨by kernel_rfl, fun X hX => Or.inl (exec_load 27 (.tmp 9) rfl _ _ rfl (((T8.out.rows _ (.head _)).1.fr hX (T8.out.rows _ (.head _)).2.2).load arHash HLA.out))⟩) (by assumption) ?_
        (try simp only [Act.put]); (try simp only [List.setIfInBounds_toArray]); (try simp only [List.set_cons_succ]); (try simp only [List.set_cons_zero])
        refine wpAnyH_ready (rs := [7]) (by kernel_rfl) (by simp) ?_
        refine AllReadyH.cons rfl (fun K hK => ?_) AllReadyH.nil
        rw [if_pos (by kernel_rfl)]
        go_simp
        refine (HI1.out _ _ T8.out.drew).mono ?_
        rintro ex v4 ⟨rfl, hF4, hB4⟩
        have F4 := Lib.hid (hHeld.trans hF4)
        have T4 := Lib.hid (T8.out.drew.ins hF4 hB4)
        clear hF4 hB4
        refine hK.out _ _ (F4.out) (fun hHeld => ?_)
        clear hK K
        (try simp only [Act.put]); (try simp only [List.setIfInBounds_toArray]); (try simp only [List.set_cons_succ]); (try simp only [List.set_cons_zero])
        refine takeD (i := 8) (d := some 51) (v := ?_) rfl (by kernel_rfl) (by kernel_rfl) (by kernel_rfl) (by kernel_rfl) (fun _ _ _ h => h) (Or.inl ⟨by kernel_rfl, fun X hX => Or.inl ?_⟩) (by assumption) ?_
        rotate_left
        · first | (go_simp; done) | (go_simp; with_reducible rfl)
        (try simp only [Act.put]); (try simp only [List.setIfInBounds_toArray]); (try simp only [List.set_cons_succ]); (try simp only [List.set_cons_zero])
        refine wpAnyH_done (by kernel_rfl) ?_ _
        clear hHeld
        have cq := T4.out.fr.cellB id HCA.out
        go_wp2_with fail
        refine (HK1.out _ _ T4.out).mono ?_
        rintro ex v11 ⟨rfl, hF⟩
        have S11 := Lib.hid (T4.out.on hF)
        clear hF
        obtain ⟨y11, hY, hS⟩ := S11.out.add A HLA.out
        have Y11 := Lib.hid hY
        have T11 := Lib.hid hS
        clear hY hS
        go_wp2_with (first
          | (refine wpList_store_eq rfl 27 _ _ rfl (.pointer (some ⟨v11.heap.size, 0, none⟩)) (.agg (arr .u8 A)) rfl rfl Y11.out ?_)
          | (refine wpList_load_eqG 27 _ rfl (.pointer (some ⟨v11.heap.size, 0, none⟩)) (.agg (arr .u8 A)) rfl (T11.out.load (.head _)) rfl ?_)
          | (refine wpList_load_eqG 27 _ rfl (.pointer (some ⟨g, 0, none⟩)) (.agg (arr .u8 A)) rfl (T11.out.load (.tail _ (.head _))) rfl ?_)
          | (refine wpList_execG (.bool false) (exec_bin .neq 27 (.tmp 65) (.tmp 66) 27 rfl _ _ _ rfl rfl (by kernel_rfl) (HNA.out _)) rfl ?_))
        exact ⟨⟨k + 1, L1, by simp, HK2.out, HT1.out, T11.out.less (by intro r hr; exact .tail _ (.tail _ hr))⟩, by simp [intOf]; exact HX.out⟩
      · rw [if_pos (by kernel_rfl)]
        go_simp
        refine hK.out _ _ (hHeld.alloc _) (fun hHeld => ?_)
        clear hK K
        (try simp only [Act.put]); (try simp only [List.setIfInBounds_toArray]); (try simp only [List.set_cons_succ]); (try simp only [List.set_cons_zero])
        refine wpAnyH_ready (rs := [6]) (by kernel_rfl) (by simp) ?_
        refine AllReadyH.cons rfl (fun K hK => ?_) AllReadyH.nil
        rw [if_pos (by kernel_rfl)]
        go_simp
        refine (HM1.out _).mono ?_
        rintro ex v3 ⟨rfl, hF3⟩
        have RN3 : Hid (Row v3 wr.heap.size 27 .u8 (List.replicate 32 0)) := Lib.hid (Row.fr (w := wr.drew.alloc (.cells (arr .u8 (List.replicate 32 0)) 27)) (Row.new wr.drew 27 .u8 (List.replicate 32 0)) hF3 id)
        have F3 := Lib.hid (hHeld.trans hF3)
        clear hF3
        refine hK.out _ _ (F3.out) (fun hHeld => ?_)
        clear hK K
        (try simp only [Act.put]); (try simp only [List.setIfInBounds_toArray]); (try simp only [List.set_cons_succ]); (try simp only [List.set_cons_zero])
        refine takeD (i := 7) (d := some 33) (v := ?_) rfl (by kernel_rfl) (by kernel_rfl) (by kernel_rfl) (by kernel_rfl) (fun _ _ _ h => h) (Or.inl ⟨by kernel_rfl, fun X hX => Or.inl ?_⟩) (by assumption) ?_
        rotate_left
        · first | (go_simp; done) | (go_simp; with_reducible rfl)
        (try simp only [Act.put]); (try simp only [List.setIfInBounds_toArray]); (try simp only [List.set_cons_succ]); (try simp only [List.set_cons_zero])
        refine takeD (i := 8) (d := some 41) (v := ?_) rfl (by kernel_rfl) (by kernel_rfl) (by kernel_rfl) (by kernel_rfl) (fun _ _ _ h => h) (Or.inl ⟨by kernel_rfl, fun X hX => Or.inl ?_⟩) (by assumption) ?_
        rotate_left
        · first | (go_simp; done) | (go_simp; with_reducible rfl)
        (try simp only [Act.put]); (try simp only [List.setIfInBounds_toArray]); (try simp only [List.set_cons_succ]); (try simp only [List.set_cons_zero])
        refine takeD (i := 9) (d := some 42) (v := ?_) rfl (by kernel_rfl) (by kernel_rfl) (by kernel_rfl) (by kernel_rfl) (fun _ _ _ h => h) (Or.inl ⟨by kernel_rfl, fun X hX => Or.inl ?_⟩) (by assumption) ?_
        rotate_left
        · first | (go_simp; done) | (go_simp; with_reducible rfl)
        (try simp only [Act.put]); (try simp only [List.setIfInBounds_toArray]); (try simp only [List.set_cons_succ]); (try simp only [List.set_cons_zero])
        refine wpAnyH_ready (rs := [11]) (by kernel_rfl) (by simp) ?_
        refine AllReadyH.cons rfl (fun K hK => ?_) AllReadyH.nil
        rw [if_pos (by kernel_rfl)]
        refine wp_store_row 27 _ _ rfl wr.heap.size rfl (arr .u8 A) rfl RN3.out arHash (by rfl) (by rw [arr_size]; exact HLA.out) (arr_one _ _) ?_
        refine hK.out _ _ (fr_setRow hHeld (.inr (Nat.le_refl _)) _) (fun hHeld => ?_)
        clear hK K
        (try simp only [Act.put]); (try simp only [List.setIfInBounds_toArray]); (try simp only [List.set_cons_succ]); (try simp only [List.set_cons_zero])
        refine takeD (i := 12) (d := some 10) (v := ?_) rfl (by kernel_rfl) (by kernel_rfl) (by kernel_rfl) (by kernel_rfl) (fun _ _ _ h => h) (Or.inl ⟨by kernel_rfl, fun X hX => Or.inl ?_⟩) (by assumption) ?_
        rotate_left
        · first | (go_simp; done) | (go_simp; with_reducible rfl)
        (try simp only [Act.put]); (try simp only [List.setIfInBounds_toArray]); (try simp only [List.set_cons_succ]); (try simp only [List.set_cons_zero])
        refine wpAnyH_done (by kernel_rfl) ?_ _
        have hS8 : St w b L [(wr.heap.size, A), (p, h)] (v3.setRow wr.heap.size (arr .u8 A)) := (S0.out.on hHeld).cons (Row.setRow (l' := A) RN3.out) HLA.out (by have := S0.out.blk.lt; have := Nat.le_refl wr.heap.size; omega)
        obtain ⟨g, hgg⟩ : ∃ g, g = wr.heap.size := ⟨_, rfl⟩
        rw [← hgg] at hS8 hHeld ⊢
        generalize v3.setRow g (arr .u8 A) = W8 at *
        have T8 := Lib.hid hS8
        clear hHeld hgg hS8
        go_wp2_with fail
        refine wp_region_held_drew (S := (fun X => Fr (fun j => j = b) W8 X)) (by kernel_rfl) ((Fr.refl _ W8).drew) (fun hHeld => ?_)
        refine takeD (i := 0) (d := some 43) (v := ?_) rfl (by kernel_rfl) (by kernel_rfl) (by kernel_rfl) (by kernel_rfl) (fun _ _ _ h => h) (Or.inl ⟨by kernel_rfl, fun X hX => Or.inl ?_⟩) (by assumption) ?_
        rotate_left
        · first | (go_simp; done) | (go_simp; with_reducible rfl)
        (try simp only [Act.put]); (try simp only [List.setIfInBounds_toArray]); (try simp only [List.set_cons_succ]); (try simp only [List.set_cons_zero])
        refine takeD (i := 1) (d := some 44) (v := ?_) rfl (by kernel_rfl) (by kernel_rfl) (by kernel_rfl) (by kernel_rfl) (fun _ _ _ h => h) (Or.inl ⟨by kernel_rfl, fun X hX => Or.inl ?_⟩) (by assumption) ?_
        rotate_left
        · first | (go_simp; done) | (go_simp; with_reducible rfl)
        (try simp only [Act.put]); (try simp only [List.setIfInBounds_toArray]); (try simp only [List.set_cons_succ]); (try simp only [List.set_cons_zero])
        refine takeD (i := 2) (d := some 45) (v := ?_) rfl (by kernel_rfl) (by kernel_rfl) (by kernel_rfl) (by kernel_rfl) (fun _ _ _ h => h) (Or.inl ⟨by kernel_rfl, fun X hX => Or.inl ?_⟩) (by assumption) ?_
        rotate_left
        · first | (go_simp; done) | (go_simp; with_reducible rfl)
        (try simp only [Act.put]); (try simp only [List.setIfInBounds_toArray]); (try simp only [List.set_cons_succ]); (try simp only [List.set_cons_zero])
        refine takeD (i := 3) (d := some 46) (v := ?_) rfl (by kernel_rfl) (by kernel_rfl) (by kernel_rfl) (by kernel_rfl) (fun _ _ _ h => h) (Or.inl ⟨by kernel_rfl, fun X hX => Or.inl ?_⟩) (by assumption) ?_
        rotate_left
        · first | (go_simp; done) | (go_simp; with_reducible rfl)
        (try simp only [Act.put]); (try simp only [List.setIfInBounds_toArray]); (try simp only [List.set_cons_succ]); (try simp only [List.set_cons_zero])
        refine takeD (i := 4) (d := some 47) (v := .int .u16 (x : Int)) rfl (by kernel_rfl) (by kernel_rfl) (by kernel_rfl) (by kernel_rfl) (fun _ _ _ h => h) (Or.inl ⟨by kernel_rfl, fun X hX => Or.inl (exec_load 54 (.tmp 46) rfl _ _ rfl (HEC.out X (fun j => j = b) ((T8.out.fr.mono (fun _ _ e => e.elim)).trans hX) HQB.out))⟩) (by assumption) ?_
        (try simp only [Act.put]); (try simp only [List.setIfInBounds_toArray]); (try simp only [List.set_cons_succ]); (try simp only [List.set_cons_zero])
        refine takeD (i := 5) (d := some 48) (v := ?_) rfl (by kernel_rfl) (by kernel_rfl) (by kernel_rfl) (by kernel_rfl) (fun _ _ _ h => h) (Or.inl ⟨by kernel_rfl, fun X hX => Or.inl ?_⟩) (by assumption) ?_
        rotate_left
        · first | (go_simp; done) | (go_simp; with_reducible rfl)
        (try simp only [Act.put]); (try simp only [List.setIfInBounds_toArray]); (try simp only [List.set_cons_succ]); (try simp only [List.set_cons_zero])
        refine takeD (i := 6) (d := some 49) (v := .agg (arr .u8 A)) rfl (by kernel_rfl) (by kernel_rfl) (by kernel_rfl) (by kernel_rfl) (fun _ _ _ h => h) (Or.inl ⟨by kernel_rfl, fun X hX => Or.inl (exec_load 27 (.tmp 9) rfl _ _ rfl (((T8.out.rows _ (.head _)).1.fr hX (T8.out.rows _ (.head _)).2.2).load arHash HLA.out))⟩) (by assumption) ?_
        (try simp only [Act.put]); (try simp only [List.setIfInBounds_toArray]); (try simp only [List.set_cons_succ]); (try simp only [List.set_cons_zero])
        refine wpAnyH_ready (rs := [7]) (by kernel_rfl) (by simp) ?_
        refine AllReadyH.cons rfl (fun K hK => ?_) AllReadyH.nil
        rw [if_pos (by kernel_rfl)]
        go_simp
        refine (HI1.out _ _ T8.out.drew).mono ?_
        rintro ex v4 ⟨rfl, hF4, hB4⟩
        have F4 := Lib.hid (hHeld.trans hF4)
        have T4 := Lib.hid (T8.out.drew.ins hF4 hB4)
        clear hF4 hB4
        refine hK.out _ _ (F4.out) (fun hHeld => ?_)
        clear hK K
        (try simp only [Act.put]); (try simp only [List.setIfInBounds_toArray]); (try simp only [List.set_cons_succ]); (try simp only [List.set_cons_zero])
        refine takeD (i := 8) (d := some 51) (v := ?_) rfl (by kernel_rfl) (by kernel_rfl) (by kernel_rfl) (by kernel_rfl) (fun _ _ _ h => h) (Or.inl ⟨by kernel_rfl, fun X hX => Or.inl ?_⟩) (by assumption) ?_
        rotate_left
        · first | (go_simp; done) | (go_simp; with_reducible rfl)
        (try simp only [Act.put]); (try simp only [List.setIfInBounds_toArray]); (try simp only [List.set_cons_succ]); (try simp only [List.set_cons_zero])
        refine wpAnyH_done (by kernel_rfl) ?_ _
        clear hHeld
        have cq := T4.out.fr.cellB id HCA.out
        go_wp2_with fail
        refine (HK1.out _ _ T4.out).mono ?_
        rintro ex v11 ⟨rfl, hF⟩
        have S11 := Lib.hid (T4.out.on hF)
        clear hF
        obtain ⟨y11, hY, hS⟩ := S11.out.add A HLA.out
        have Y11 := Lib.hid hY
        have T11 := Lib.hid hS
        clear hY hS
        go_wp2_with (first
          | (refine wpList_store_eq rfl 27 _ _ rfl (.pointer (some ⟨v11.heap.size, 0, none⟩)) (.agg (arr .u8 A)) rfl rfl Y11.out ?_)
          | (refine wpList_load_eqG 27 _ rfl (.pointer (some ⟨v11.heap.size, 0, none⟩)) (.agg (arr .u8 A)) rfl (T11.out.load (.head _)) rfl ?_)
          | (refine wpList_load_eqG 27 _ rfl (.pointer (some ⟨g, 0, none⟩)) (.agg (arr .u8 A)) rfl (T11.out.load (.tail _ (.head _))) rfl ?_)
          | (refine wpList_execG (.bool false) (exec_bin .neq 27 (.tmp 65) (.tmp 66) 27 rfl _ _ _ rfl rfl (by kernel_rfl) (HNA.out _)) rfl ?_))
        exact ⟨⟨k + 1, L1, by simp, HK2.out, HT1.out, T11.out.less (by intro r hr; exact .tail _ (.tail _ hr))⟩, by simp [intOf]; exact HX.out⟩
    · obtain rfl : k = n := by omega
      obtain ⟨C, hC⟩ : ∃ C, C = mSec h (s : Int) := ⟨_, rfl⟩
      have HLC : Hid (C.length = 32) := Lib.hid (by rw [hC]; exact (mSec_h HH.out _).len)
      have HEC := Lib.hid (eql_h32 C HLC.out)
      obtain ⟨m1, hm1⟩ : ∃ e, e = mErr (s : Int) := ⟨_, rfl⟩
      have HM1 : Hid (∀ X, Calls Tryd.prog 18 #[.agg (arr .u8 h), .int .i64 (s : Int)] X fun ex w' => ex = .returned (.tuple #[.agg (arr .u8 C), .int .i64 m1]) ∧ Fr No X w') := Lib.hid (fun X => by rw [hC, hm1]; exact rmake_any h s X HH.out)
      obtain ⟨Z, hZ⟩ : ∃ Z : List Nat, Z = List.replicate 32 0 := ⟨_, rfl⟩
      have HLZ : Hid (Z.length = 32) := Lib.hid (by rw [hZ]; rfl)
      have HEZ := Lib.hid (eql_h32 Z HLZ.out)
      have HBZ : Hid (∀ X, (Instr.build 27 #[]).run Tryd.prog X = .ok (.agg (arr .u8 Z)) X) := Lib.hid (fun X => by rw [hZ]; exact build_hash0 X)
      rcases of_look HT.out.of (s : Int) with hlk | hlk
      · have HLK : Hid (∀ R X, St w b L R X → Calls Tryd.prog 16 #[.pointer (some ⟨b, 0, none⟩), .int .i64 (s : Int)] X fun ex w' => ex = .returned (.tuple #[.agg (arr .u8 Z), .int .i64 3]) ∧ Fr No X w') := Lib.hid (fun R X t => by
          rw [hZ]
          exact look_any b L _ X _ 3 t.blk HT.out.len (t.gl HG.out) hlk)
        clear hlk hC hm1 hZ hlt
        go_wp2_with fail
        refine (HLK.out _ _ S0.out).mono ?_
        rintro ex v1 ⟨rfl, hF⟩
        have S1 := Lib.hid (S0.out.on hF)
        clear hF
        obtain ⟨y1, hY, hS⟩ := S1.out.add Z HLZ.out
        have Y1 := Lib.hid hY
        have T1 := Lib.hid hS
        clear hY hS
        go_wp2_with (first
          | (refine wpList_store_eq rfl 27 _ _ rfl (.pointer (some ⟨v1.heap.size, 0, none⟩)) (.agg (arr .u8 Z)) rfl rfl Y1.out ?_)
          | (refine wpList_load_eq rfl 27 _ rfl (.pointer (some ⟨p, 0, none⟩)) (.agg (arr .u8 h)) rfl (T1.out.load (.tail _ (.head _))) ?_))
        refine (HM1.out _).mono ?_
        rintro ex v2 ⟨rfl, hF⟩
        have S2 := Lib.hid (T1.out.on hF)
        clear hF
        obtain ⟨y2, hY, hS⟩ := S2.out.add C HLC.out
        have Y2 := Lib.hid hY
        have T2 := Lib.hid hS
        clear hY hS
        go_wp2_with (first
          | (refine wpList_store_eq rfl 27 _ _ rfl (.pointer (some ⟨v2.heap.size, 0, none⟩)) (.agg (arr .u8 C)) rfl rfl Y2.out ?_)
          | (refine wpList_load_eqG 27 _ rfl (.pointer (some ⟨v1.heap.size, 0, none⟩)) (.agg (arr .u8 Z)) rfl (T2.out.load (.tail _ (.head _))) rfl ?_)
          | (refine wpList_execG (.agg (arr .u8 Z)) (exec_build 27 _ rfl #[] (by simp) _ (HBZ.out _)) rfl ?_)
          | (refine wpList_execG (.bool true) (exec_bin .eql 27 (.tmp 86) (.tmp 87) 27 rfl _ _ _ rfl rfl (by kernel_rfl) (HEZ.out _)) rfl ?_))
        go_ret
        exact ⟨rfl, T2.out.fr⟩
      · have HLK : Hid (∀ R X, St w b L R X → Calls Tryd.prog 16 #[.pointer (some ⟨b, 0, none⟩), .int .i64 (s : Int)] X fun ex w' => ex = .returned (.tuple #[.agg (arr .u8 C), .int .i64 0]) ∧ Fr No X w') := Lib.hid (fun R X t => by
          rw [hC]
          exact look_any b L _ X _ 0 t.blk HT.out.len (t.gl HG.out) hlk)
        clear hlk hC hm1 hZ hlt
        go_wp2_with fail
        refine (HLK.out _ _ S0.out).mono ?_
        rintro ex v1 ⟨rfl, hF⟩
        have S1 := Lib.hid (S0.out.on hF)
        clear hF
        obtain ⟨y1, hY, hS⟩ := S1.out.add C HLC.out
        have Y1 := Lib.hid hY
        have T1 := Lib.hid hS
        clear hY hS
        go_wp2_with (first
          | (refine wpList_store_eq rfl 27 _ _ rfl (.pointer (some ⟨v1.heap.size, 0, none⟩)) (.agg (arr .u8 C)) rfl rfl Y1.out ?_)
          | (refine wpList_load_eq rfl 27 _ rfl (.pointer (some ⟨p, 0, none⟩)) (.agg (arr .u8 h)) rfl (T1.out.load (.tail _ (.head _))) ?_))
        refine (HM1.out _).mono ?_
        rintro ex v2 ⟨rfl, hF⟩
        have S2 := Lib.hid (T1.out.on hF)
        clear hF
        obtain ⟨y2, hY, hS⟩ := S2.out.add C HLC.out
        have Y2 := Lib.hid hY
        have T2 := Lib.hid hS
        clear hY hS
        go_wp2_with (first
          | (refine wpList_store_eq rfl 27 _ _ rfl (.pointer (some ⟨v2.heap.size, 0, none⟩)) (.agg (arr .u8 C)) rfl rfl Y2.out ?_)
          | (refine wpList_load_eqG 27 _ rfl (.pointer (some ⟨v1.heap.size, 0, none⟩)) (.agg (arr .u8 C)) rfl (T2.out.load (.tail _ (.head _))) rfl ?_)
          | (refine wpList_load_eqG 27 _ rfl (.pointer (some ⟨v2.heap.size, 0, none⟩)) (.agg (arr .u8 C)) rfl (T2.out.load (.head _)) rfl ?_)
          | (refine wpList_execG (.bool true) (exec_bin .eql 27 (.tmp 94) (.tmp 95) 27 rfl _ _ _ rfl rfl (by kernel_rfl) (HEC.out _)) rfl ?_))
        go_ret
        exact ⟨rfl, T2.out.fr⟩
end Go.Proofs.YtnpgcgemifoddaaDoor
