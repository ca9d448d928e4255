/- The walk of 'SecretSteps'. -/
import Derived.Test.YtiimkbboeekhlaaDoorSecL
import Derived.Test.YtiimkbboeekhlaaDoorSecV
import Derived.Test.YtiimkbboeekhlaaDoorHar
import Derived.Test.YtiimkbboeekhlaaDoorRefS
import Derived.Test.YtiimkbboeekhlaaDoorTake
namespace Go.Proofs.YtiimkbboeekhlaaDoor
open Go.RowKit
set_option linter.unusedVariables false

set_option maxHeartbeats 2000000 in
set_option maxRecDepth 100000 in
theorem steps_zero (h : List Nat) (w : World) (hh : H32 h) (hg : Gl w) :
    Calls Tryd.prog 5 #[.agg (arr .u8 h), .int .u16 0] w fun e w' => e = .returned (.bool true) ∧ Fr No w w' := by
  have h0 : mSec h 0 = h := by
    rw [show (0 : Int) = ((0 : Nat) : Int) from rfl, mSec_num h (by decide)]
    exact walkL_zero 16 h (fun b _ => by simp [bit])
  have HM : Hid (∀ X, Gl X → Calls Tryd.prog 7 #[.agg (arr .u8 h), .int .i64 0] X fun ex w' => ex = .returned (.tuple #[.agg (arr .u8 h), .int .i64 0]) ∧ Fr No X w') := Lib.hid (fun X hX => by
    have := make_any h 0 X hh hX
    rwa [h0, show mErr 0 = 0 by decide] at this)
  have HEH := Lib.hid (eql_h32 h hh.len)
  have HG := Lib.hid hg
  have HLh := Lib.hid hh.len
  have F0 : Hid (Fr No w (w.alloc (.cells (arr .u8 h) 23))) := Lib.hid ((Fr.refl No w).alloc _)
  have R0 := Lib.hid (Row.new w 23 .u8 h)
  clear h0 hh hg
  go_enter Tryd.func5, Tryd.ntmps5
  go_wp2_with (first
    | (refine wpList_load_eq rfl 23 _ rfl (.pointer (some ⟨w.heap.size, 0, none⟩)) (.agg (arr .u8 h)) rfl (Row.load R0.out arHash HLh.out) ?_))
  refine (HM.out _ (HG.out.fr F0.out (fun _ _ => id))).mono ?_
  rintro e v1 ⟨rfl, hF⟩
  have Fv1 := Lib.hid (F0.out.trans hF)
  have R0v1 := Lib.hid (R0.out.fr hF id)
  clear hF
  go_wp2_with (first
    | (refine wpList_store_row rfl 23 _ _ rfl v1.heap.size rfl (arr .u8 h) rfl (Row.new v1 23 .u8 (List.replicate 32 0)) arHash (by rfl) (by rw [arr_size]; exact HLh.out) (arr_one _ _) ?_
       refine wpList_world (fun W => Fr No w W ∧ Row W w.heap.size 23 .u8 h ∧ Row W v1.heap.size 23 .u8 h) ⟨fr_setRow (Fv1.out.alloc _) (.inr Fv1.out.size) _, Row.setRow_o (R0v1.out.alloc _) (Nat.ne_of_lt R0v1.out.lt) _, Row.newSet (List.replicate 32 0)⟩ ?_
       rintro u1 ⟨hF, hR0, hR1⟩
       have Fu1 := Lib.hid hF
       have R0u1 := Lib.hid hR0
       have R1u1 := Lib.hid hR1
       clear hF hR0 hR1)
    | (refine wpList_load_eq rfl 23 _ rfl (.pointer (some ⟨v1.heap.size, 0, none⟩)) (.agg (arr .u8 h)) rfl (Row.load R1u1.out arHash HLh.out) ?_)
    | (refine wpList_load_eq rfl 23 _ rfl (.pointer (some ⟨w.heap.size, 0, none⟩)) (.agg (arr .u8 h)) rfl (Row.load R0u1.out arHash HLh.out) ?_)
    | (refine wpList_execG (.bool true) (exec_bin .eql 23 (.tmp 19) (.tmp 20) 23 rfl _ _ _ rfl rfl (by kernel_rfl) (HEH.out _)) rfl ?_))
  refine (shown4_any _).mono ?_
  rintro e z3 ⟨rfl, hF⟩
  have Fz3 := Lib.hid (Fu1.out.trans hF)
  clear hF
  go_wp2
  go_ret
  exact ⟨rfl, Fz3.out⟩

set_option maxHeartbeats 2000000 in
set_option maxRecDepth 100000 in
theorem steps_some (h : List Nat) (i : Nat) (w : World) (hh : H32 h) (h0 : 0 < i) (hi : i < 65536) (hg : Gl w) :
    Calls Tryd.prog 5 #[.agg (arr .u8 h), .int .u16 (i : Int)] w fun e w' => e = .returned (.bool true) ∧ Fr No w w' := by
  have hst := dstep h h0 hi
  obtain ⟨hp16, hle, _⟩ := without_low h0 hi
  obtain ⟨p, hp⟩ : ∃ p, p = placeN i := ⟨_, rfl⟩
  obtain ⟨A, hA⟩ : ∃ A, A = mSec h (i : Int) := ⟨_, rfl⟩
  obtain ⟨M, hM⟩ : ∃ M, M = 2 ^ p := ⟨_, rfl⟩
  obtain ⟨j, hj⟩ : ∃ j, j = i - M := ⟨_, rfl⟩
  rw [← hp] at hst hp16 hle
  rw [← hM] at hst hle
  rw [← hj, ← hA] at hst
  have hj2 : j < 65536 := by omega
  obtain ⟨B, hB⟩ : ∃ B, B = mSec h (j : Int) := ⟨_, rfl⟩
  rw [← hB] at hst
  have hAH : H32 A := by rw [hA]; exact mSec_h hh _
  have hBH : H32 B := by rw [hB]; exact mSec_h hh _
  have HM : Hid (∀ X, Gl X → Calls Tryd.prog 7 #[.agg (arr .u8 h), .int .i64 (i : Int)] X fun ex w' => ex = .returned (.tuple #[.agg (arr .u8 A), .int .i64 0]) ∧ Fr No X w') := Lib.hid (fun X hX => by
    have := make_any h (i : Int) X hh hX
    rwa [← hA, mErr_num hi] at this)
  have HMJ : Hid (∀ X, Gl X → Calls Tryd.prog 7 #[.agg (arr .u8 h), .int .i64 (j : Int)] X fun ex w' => ex = .returned (.tuple #[.agg (arr .u8 B), .int .i64 0]) ∧ Fr No X w') := Lib.hid (fun X hX => by
    have := make_any h (j : Int) X hh hX
    rwa [← hB, mErr_num hj2] at this)
  have HP : Hid (∀ X, Calls Tryd.prog 11 #[.int .i64 (i : Int)] X fun ex w' => ex = .returned (.int .i64 (p : Int)) ∧ Fr No X w') := Lib.hid (fun X => by
    have := place_ok_any i X hi
    rwa [← hp] at this)
  obtain ⟨q, hq⟩ : ∃ q, q = p / 8 := ⟨_, rfl⟩
  obtain ⟨r, hr⟩ : ∃ r, r = p % 8 := ⟨_, rfl⟩
  obtain ⟨m, hm⟩ : ∃ m, m = 2 ^ r := ⟨_, rfl⟩
  obtain ⟨x, hx⟩ : ∃ x, x = B.getD q 0 := ⟨_, rfl⟩
  obtain ⟨y, hy⟩ : ∃ y, y = x ^^^ m := ⟨_, rfl⟩
  obtain ⟨T, hT⟩ : ∃ T, T = turnL B p := ⟨_, rfl⟩
  obtain ⟨TB, hTB⟩ : ∃ TB, TB = bn T := ⟨_, rfl⟩
  have hm8 : m < 256 := by rw [hm, hr]; exact pow8_lt p
  have hx8 : x < 256 := by rw [hx]; exact hBH.b8.getD q
  have hTs : T = B.set q y := by rw [hT, turnL, hy, hx, hm, hr, hq]
  have hTH : H32 T := by rw [hT]; exact turnL_h hBH p
  have e1 : Int.tdiv (p : Int) 8 = (q : Int) := by rw [Int.tdiv_eq_ediv_of_nonneg (by omega)]; omega
  have e1' : (p : Int) / 8 = (q : Int) := by omega
  have e2 : Int.tmod (p : Int) 8 = (r : Int) := by rw [Int.tmod_eq_emod_of_nonneg (by omega)]; omega
  have e2' : (p : Int) % 8 = (r : Int) := by omega
  have hq32 : (q : Int) < 32 := by omega
  have hr8 : (r : Int) < 8 := by omega
  have hp16' : (p : Int) < 16 := by omega
  have hsh : (2 : Int) ^ r % 256 = (m : Int) := by
    have h1 : ((2 ^ r : Nat) : Int) = (2 : Int) ^ r := by simp
    rw [← h1, ← hm]
    omega
  have hxo : bits .xor .u8 (x : Int) (m : Int) = (y : Int) := by rw [hy]; exact u8_xor_nat _ _ hx8 hm8
  have hMI : (2 : Int) ^ p = (M : Int) := by
    rw [hM]; simp
  have hMw : IntKind.i64.wrap (M : Int) = (M : Int) := IntWalk.i64_in _ (by omega)
  have ei : IntKind.i64.wrap (i : Int) = (i : Int) := IntWalk.i64_in _ (by omega)
  have ej : (i : Int) - (M : Int) = (j : Int) := by omega
  have ejw : IntKind.i64.wrap (j : Int) = (j : Int) := IntWalk.i64_in _ (by omega)
  have hi0 : ((i : Int) == 0) = false := by rw [beq_eq_false_iff_ne]; omega
  have hi1 : ¬ (i : Int) = 0 := by omega
  have HS : Hid (∀ X, Calls Tryd.prog 16 #[.string (str TB)] X fun ex w' => ex = .returned (.agg (arr .u8 A)) ∧ Fr No X w') := Lib.hid (fun X => by
    rw [hst, stepL, hTB, hT]
    exact rsum_any _ X (by rw [bn, List.length_map, (turnL_h hBH p).len]; omega))
  have HCV : Hid (∀ X g, Row X g 23 .u8 T → (convert 35 9 (.slice (some ⟨g, 0, none⟩) 32 32)).run Tryd.prog X = .ok (.string (str TB)) X) := Lib.hid (fun X g hR => by rw [hTB]; exact conv_row 32 hR hTH.len hTH.b8)
  have HTS := Lib.hid hTs
  have HX := Lib.hid hx
  have HLA := Lib.hid hAH.len
  have HLB := Lib.hid hBH.len
  have HLT := Lib.hid hTH.len
  have HEA := Lib.hid (eql_h32 A hAH.len)
  have HQ : Hid (q < 32) := Lib.hid (by omega)
  have HG := Lib.hid hg
  have HLh := Lib.hid hh.len
  have F0 : Hid (Fr No w (w.alloc (.cells (arr .u8 h) 23))) := Lib.hid ((Fr.refl No w).alloc _)
  have R0 := Lib.hid (Row.new w 23 .u8 h)
  clear hst hp hA hM hj hB hAH hBH hq hr hm hx hy hT hTB hm8 hx8 hTs hTH hh h0 hi hg hp16 hle hj2
  go_enter Tryd.func5, Tryd.ntmps5
  go_wp2_with (first
    | (refine wpList_load_eq rfl 23 _ rfl (.pointer (some ⟨w.heap.size, 0, none⟩)) (.agg (arr .u8 h)) rfl (Row.load R0.out arHash HLh.out) ?_))
  refine (HM.out _ (HG.out.fr F0.out (fun _ _ => id))).mono ?_
  rintro e v1 ⟨rfl, hF⟩
  have Fv1 := Lib.hid (F0.out.trans hF)
  have R0v1 := Lib.hid (R0.out.fr hF id)
  clear hF
  go_wp2_with (first
    | (refine wpList_store_row rfl 23 _ _ rfl v1.heap.size rfl (arr .u8 A) rfl (Row.new v1 23 .u8 (List.replicate 32 0)) arHash (by rfl) (by rw [arr_size]; exact HLA.out) (arr_one _ _) ?_
       refine wpList_world (fun W => Fr No w W ∧ Row W w.heap.size 23 .u8 h ∧ Row W v1.heap.size 23 .u8 A) ⟨fr_setRow (Fv1.out.alloc _) (.inr Fv1.out.size) _, Row.setRow_o (R0v1.out.alloc _) (Nat.ne_of_lt R0v1.out.lt) _, Row.newSet (List.replicate 32 0)⟩ ?_
       rintro u1 ⟨hF, hR0, hR1⟩
       have Fu1 := Lib.hid hF
       have R0u1 := Lib.hid hR0
       have R1u1 := Lib.hid hR1
       clear hF hR0 hR1))
  refine (HP.out _).mono ?_
  rintro e v2 ⟨rfl, hF⟩
  have Fv2 := Lib.hid (Fu1.out.trans hF)
  have R0v2 := Lib.hid (R0u1.out.fr hF id)
  have R1v2 := Lib.hid (R1u1.out.fr hF id)
  clear hF
  go_wp2_with fail
  refine wp_region_held_drew (S := (fun X => Fr No v2 X)) (by kernel_rfl) ((Fr.refl _ v2).drew) (fun hHeld => ?_)
  refine takeD (i := 0) (d := some 33) (v := .agg (arr .u8 h)) rfl (by kernel_rfl) (by kernel_rfl) (by kernel_rfl) (by kernel_rfl) (fun _ _ _ h => h) (Or.inl ⟨by kernel_rfl, fun X hX => Or.inl (exec_load 23 (.tmp 2) rfl _ _ rfl ((R0v2.out.fr hX id).load arHash HLh.out))⟩) (by assumption) ?_
  (try simp only [Act.put]); (try simp only [List.setIfInBounds_toArray]); (try simp only [List.set_cons_succ]); (try simp only [List.set_cons_zero])
  refine takeD (i := 1) (d := some 34) (v := ?_) rfl (by kernel_rfl) (by kernel_rfl) (by kernel_rfl) (by kernel_rfl) (fun _ _ _ h => h) (Or.inl ⟨by kernel_rfl, fun X hX => Or.inl ?_⟩) (by assumption) ?_
  rotate_left
  · first | (go_simp; done) | (go_simp; with_reducible rfl)
  (try simp only [Act.put]); (try simp only [List.setIfInBounds_toArray]); (try simp only [List.set_cons_succ]); (try simp only [List.set_cons_zero])
  refine takeD (i := 2) (d := some 35) (v := ?_) rfl (by kernel_rfl) (by kernel_rfl) (by kernel_rfl) (by kernel_rfl) (fun _ _ _ h => h) (Or.inl ⟨by kernel_rfl, fun X hX => Or.inl ?_⟩) (by assumption) ?_
  rotate_left
  · first | (go_simp; done) | (go_simp; with_reducible rfl)
  (try simp only [Act.put]); (try simp only [List.setIfInBounds_toArray]); (try simp only [List.set_cons_succ]); (try simp only [List.set_cons_zero])
  refine takeD (i := 3) (d := some 36) (v := ?_) rfl (by kernel_rfl) (by kernel_rfl) (by kernel_rfl) (by kernel_rfl) (fun _ _ _ h => h) (Or.inl ⟨by kernel_rfl, fun X hX => Or.inl ?_⟩) (by assumption) ?_
  rotate_left
  · first | (go_simp; done) | (go_simp; with_reducible rfl)
  (try simp only [Act.put]); (try simp only [List.setIfInBounds_toArray]); (try simp only [List.set_cons_succ]); (try simp only [List.set_cons_zero])
  refine takeD (i := 4) (d := some 37) (v := ?_) rfl (by kernel_rfl) (by kernel_rfl) (by kernel_rfl) (by kernel_rfl) (fun _ _ _ h => h) (Or.inl ⟨by kernel_rfl, fun X hX => Or.inl ?_⟩) (by assumption) ?_
  rotate_left
  · first | (go_simp; done) | (go_simp; with_reducible rfl)
  (try simp only [Act.put]); (try simp only [List.setIfInBounds_toArray]); (try simp only [List.set_cons_succ]); (try simp only [List.set_cons_zero])
  refine takeD (i := 5) (d := some 38) (v := ?_) rfl (by kernel_rfl) (by kernel_rfl) (by kernel_rfl) (by kernel_rfl) (fun _ _ _ h => h) (Or.inl ⟨by kernel_rfl, fun X hX => Or.inl ?_⟩) (by assumption) ?_
  rotate_left
  · first | (go_simp; done) | (go_simp; with_reducible rfl)
  (try simp only [Act.put]); (try simp only [List.setIfInBounds_toArray]); (try simp only [List.set_cons_succ]); (try simp only [List.set_cons_zero])
  refine wpAnyH_ready (rs := [6, 10]) (by kernel_rfl) (by simp) ?_
  refine (AllReadyH.cons rfl (fun K hK => ?_) (AllReadyH.cons rfl (fun K hK => ?_) AllReadyH.nil))
  · rw [if_pos (by kernel_rfl)]
    go_simp
    refine (HMJ.out _ (HG.out.fr (Fv2.out.trans hHeld) (fun _ _ => id))).mono ?_
    rintro ex v3 ⟨rfl, hF3⟩
    have F3 := Lib.hid (hHeld.trans hF3)
    clear hF3
    refine hK.out _ _ (F3.out) (fun hHeld => ?_)
    clear hK K
    (try simp only [Act.put]); (try simp only [List.setIfInBounds_toArray]); (try simp only [List.set_cons_succ]); (try simp only [List.set_cons_zero])
    refine takeD (i := 7) (d := some 32) (v := ?_) rfl (by kernel_rfl) (by kernel_rfl) (by kernel_rfl) (by kernel_rfl) (fun _ _ _ h => h) (Or.inl ⟨by kernel_rfl, fun X hX => Or.inl ?_⟩) (by assumption) ?_
    rotate_left
    · first | (go_simp; done) | (go_simp; with_reducible rfl)
    (try simp only [Act.put]); (try simp only [List.setIfInBounds_toArray]); (try simp only [List.set_cons_succ]); (try simp only [List.set_cons_zero])
    refine takeD (i := 8) (d := some 40) (v := ?_) rfl (by kernel_rfl) (by kernel_rfl) (by kernel_rfl) (by kernel_rfl) (fun _ _ _ h => h) (Or.inl ⟨by kernel_rfl, fun X hX => Or.inl ?_⟩) (by assumption) ?_
    rotate_left
    · first | (go_simp; done) | (go_simp; with_reducible rfl)
    (try simp only [Act.put]); (try simp only [List.setIfInBounds_toArray]); (try simp only [List.set_cons_succ]); (try simp only [List.set_cons_zero])
    refine takeD (i := 9) (d := some 41) (v := ?_) rfl (by kernel_rfl) (by kernel_rfl) (by kernel_rfl) (by kernel_rfl) (fun _ _ _ h => h) (Or.inl ⟨by kernel_rfl, fun X hX => Or.inl ?_⟩) (by assumption) ?_
    rotate_left
    · first | (go_simp; done) | (go_simp; with_reducible rfl)
    (try simp only [Act.put]); (try simp only [List.setIfInBounds_toArray]); (try simp only [List.set_cons_succ]); (try simp only [List.set_cons_zero])
    refine wpAnyH_ready (rs := [10]) (by kernel_rfl) (by simp) ?_
    refine AllReadyH.cons rfl (fun K hK => ?_) AllReadyH.nil
    rw [if_pos (by kernel_rfl)]
    go_simp
    refine K_world (K := K) (fun W => Fr No v3 W ∧ Row W v3.heap.size 23 .u8 (List.replicate 32 0)) ⟨(Fr.refl No v3).alloc _, Row.new v3 23 .u8 (List.replicate 32 0)⟩ ?_
    rintro X3 ⟨hX, hRX⟩
    have RX3 := Lib.hid hRX
    have FX3 := Lib.hid (F3.out.trans hX)
    clear hX hRX
    refine hK.out _ _ (FX3.out) (fun hHeld => ?_)
    clear hK K
    (try simp only [Act.put]); (try simp only [List.setIfInBounds_toArray]); (try simp only [List.set_cons_succ]); (try simp only [List.set_cons_zero])
    refine wpAnyH_ready (rs := [11]) (by kernel_rfl) (by simp) ?_
    refine AllReadyH.cons rfl (fun K hK => ?_) AllReadyH.nil
    rw [if_pos (by kernel_rfl)]
    refine wp_store_row 23 _ _ rfl v3.heap.size rfl (arr .u8 B) rfl RX3.out arHash (by rfl) (by rw [arr_size]; exact HLB.out) (arr_one _ _) ?_
    refine hK.out _ _ (fr_setRow hHeld (.inr F3.out.size) _) (fun hHeld => ?_)
    clear hK K
    (try simp only [Act.put]); (try simp only [List.setIfInBounds_toArray]); (try simp only [List.set_cons_succ]); (try simp only [List.set_cons_zero])
    refine takeD (i := 12) (d := some 9) (v := ?_) rfl (by kernel_rfl) (by kernel_rfl) (by kernel_rfl) (by kernel_rfl) (fun _ _ _ h => h) (Or.inl ⟨by kernel_rfl, fun X hX => Or.inl ?_⟩) (by assumption) ?_
    rotate_left
    · first | (go_simp; done) | (go_simp; with_reducible rfl)
    (try simp only [Act.put]); (try simp only [List.setIfInBounds_toArray]); (try simp only [List.set_cons_succ]); (try simp only [List.set_cons_zero])
    refine wpAnyH_done (by kernel_rfl) ?_ _
    have HR3 : Hid (Row (X3.setRow v3.heap.size (arr .u8 B)) v3.heap.size 23 .u8 B) := Lib.hid (RX3.out.setRow)
    have HF3 := Lib.hid hHeld
    generalize X3.setRow v3.heap.size (arr .u8 B) = W3 at *
    clear hHeld
    obtain ⟨g, hgg⟩ : ∃ g, g = v3.heap.size := ⟨_, rfl⟩
    have HG2 : Hid (v2.heap.size ≤ g) := Lib.hid (by rw [hgg]; exact F3.out.size)
    rw [← hgg] at HR3 ⊢
    clear hgg
    have R1w := Lib.hid (R1v2.out.fr HF3.out id)
    have HNE : Hid (v1.heap.size ≠ g) := Lib.hid (by have := R1v2.out.lt; have := HG2.out; omega)
    have c0 := HR3.out.cellD (i := q) (by rw [HLB.out]; exact HQ.out)
    have f0 := HR3.out.frozen q
    rw [← HX.out] at c0
    go_wp2_with fail
    go_region
    have F4 : Hid (Fr No w (W3.setCell ⟨g, q, none⟩ (.int .u8 (y : Int))).drew) := Lib.hid ((Fv2.out.trans HF3.out).setCell (.inr (by have := HG2.out; have := Fv2.out.size; show _ ≤ g; omega)) _).drew
    have R4 : Hid (Row (W3.setCell ⟨g, q, none⟩ (.int .u8 (y : Int))).drew g 23 .u8 T) := Lib.hid (by rw [HTS.out]; exact (HR3.out.set q y).drew)
    have Q4 : Hid (Row (W3.setCell ⟨g, q, none⟩ (.int .u8 (y : Int))).drew v1.heap.size 23 .u8 A) := Lib.hid (R1w.out.set_other (Ne.symm HNE.out) _).drew
    generalize (W3.setCell ⟨g, q, none⟩ (.int .u8 (y : Int))).drew = W4 at *
    clear c0 f0 hsh hxo R1w HR3
    go_wp2_with fail
    refine wp_region_held_drew (S := (fun X => Fr No W4 X)) (by kernel_rfl) ((Fr.refl _ W4).drew) (fun hHeld => ?_)
    refine takeD (i := 0) (d := some 51) (v := ?_) rfl (by kernel_rfl) (by kernel_rfl) (by kernel_rfl) (by kernel_rfl) (fun _ _ _ h => h) (Or.inl ⟨by kernel_rfl, fun X hX => Or.inl ?_⟩) (by assumption) ?_
    rotate_left
    · first | (go_simp; done) | (go_simp; with_reducible rfl)
    (try simp only [Act.put]); (try simp only [List.setIfInBounds_toArray]); (try simp only [List.set_cons_succ]); (try simp only [List.set_cons_zero])
    refine takeD (i := 1) (d := some 52) (v := ?_) rfl (by kernel_rfl) (by kernel_rfl) (by kernel_rfl) (by kernel_rfl) (fun _ _ _ h => h) (Or.inl ⟨by kernel_rfl, fun X hX => Or.inl ?_⟩) (by assumption) ?_
    rotate_left
    · first | (go_simp; done) | (go_simp; with_reducible rfl)
    (try simp only [Act.put]); (try simp only [List.setIfInBounds_toArray]); (try simp only [List.set_cons_succ]); (try simp only [List.set_cons_zero])
    refine takeD (i := 2) (d := some 53) (v := ?_) rfl (by kernel_rfl) (by kernel_rfl) (by kernel_rfl) (by kernel_rfl) (fun _ _ _ h => h) (Or.inl ⟨by kernel_rfl, fun X hX => Or.inl ?_⟩) (by assumption) ?_
    rotate_left
    · first | (go_simp; done) | (go_simp; with_reducible rfl)
    (try simp only [Act.put]); (try simp only [List.setIfInBounds_toArray]); (try simp only [List.set_cons_succ]); (try simp only [List.set_cons_zero])
    refine takeD (i := 3) (d := some 54) (v := ?_) rfl (by kernel_rfl) (by kernel_rfl) (by kernel_rfl) (by kernel_rfl) (fun _ _ _ h => h) (Or.inl ⟨by kernel_rfl, fun X hX => Or.inl ?_⟩) (by assumption) ?_
    rotate_left
    · first | (go_simp; done) | (go_simp; with_reducible rfl)
    (try simp only [Act.put]); (try simp only [List.setIfInBounds_toArray]); (try simp only [List.set_cons_succ]); (try simp only [List.set_cons_zero])
    refine takeD (i := 4) (d := some 55) (v := ?_) rfl (by kernel_rfl) (by kernel_rfl) (by kernel_rfl) (by kernel_rfl) (fun _ _ _ h => h) (Or.inl ⟨by kernel_rfl, fun X hX => Or.inl ?_⟩) (by assumption) ?_
    rotate_left
    · first | (go_simp; done) | (go_simp; with_reducible rfl)
    (try simp only [Act.put]); (try simp only [List.setIfInBounds_toArray]); (try simp only [List.set_cons_succ]); (try simp only [List.set_cons_zero])
    refine takeD (i := 5) (d := some 56) (v := ?_) rfl (by kernel_rfl) (by kernel_rfl) (by kernel_rfl) (by kernel_rfl) (fun _ _ _ h => h) (Or.inl ⟨by kernel_rfl, fun X hX => Or.inl ?_⟩) (by assumption) ?_
    rotate_left
    · first | (go_simp; done) | (go_simp; with_reducible rfl)
    (try simp only [Act.put]); (try simp only [List.setIfInBounds_toArray]); (try simp only [List.set_cons_succ]); (try simp only [List.set_cons_zero])
    refine takeD (i := 6) (d := some 57) (v := ?_) rfl (by kernel_rfl) (by kernel_rfl) (by kernel_rfl) (by kernel_rfl) (fun _ _ _ h => h) (Or.inl ⟨by kernel_rfl, fun X hX => Or.inl ?_⟩) (by assumption) ?_
    rotate_left
    · first | (go_simp; done) | (go_simp; with_reducible rfl)
    (try simp only [Act.put]); (try simp only [List.setIfInBounds_toArray]); (try simp only [List.set_cons_succ]); (try simp only [List.set_cons_zero])
    refine takeD (i := 7) (d := some 58) (v := .agg (arr .u8 A)) rfl (by kernel_rfl) (by kernel_rfl) (by kernel_rfl) (by kernel_rfl) (fun _ _ _ h => h) (Or.inl ⟨by kernel_rfl, fun X hX => Or.inl (exec_load 23 (.tmp 5) rfl _ _ rfl ((Q4.out.fr hX id).load arHash HLA.out))⟩) (by assumption) ?_
    (try simp only [Act.put]); (try simp only [List.setIfInBounds_toArray]); (try simp only [List.set_cons_succ]); (try simp only [List.set_cons_zero])
    refine takeD (i := 8) (d := some 59) (v := ?_) rfl (by kernel_rfl) (by kernel_rfl) (by kernel_rfl) (by kernel_rfl) (fun _ _ _ h => h) (Or.inl ⟨by kernel_rfl, fun X hX => Or.inl ?_⟩) (by assumption) ?_
    rotate_left
    · first | (go_simp; done) | (go_simp; with_reducible rfl)
    (try simp only [Act.put]); (try simp only [List.setIfInBounds_toArray]); (try simp only [List.set_cons_succ]); (try simp only [List.set_cons_zero])
    refine takeD (i := 9) (d := some 60) (v := .string (str TB)) rfl (by kernel_rfl) (by kernel_rfl) (by kernel_rfl) (by kernel_rfl) (fun _ _ _ h => h) (Or.inl ⟨by kernel_rfl, fun X hX => Or.inl (exec_convert 35 9 (.tmp 59) rfl _ _ rfl (HCV.out X g (R4.out.fr hX id)))⟩) (by assumption) ?_
    (try simp only [Act.put]); (try simp only [List.setIfInBounds_toArray]); (try simp only [List.set_cons_succ]); (try simp only [List.set_cons_zero])
    refine wpAnyH_ready (rs := [10]) (by kernel_rfl) (by simp) ?_
    refine AllReadyH.cons rfl (fun K hK => ?_) AllReadyH.nil
    rw [if_pos (by kernel_rfl)]
    go_simp
    refine (HS.out _).mono ?_
    rintro ex w5 ⟨rfl, hF5⟩
    have F5 := Lib.hid (hHeld.trans hF5)
    clear hF5
    refine hK.out _ _ (F5.out) (fun hHeld => ?_)
    clear hK K
    (try simp only [Act.put]); (try simp only [List.setIfInBounds_toArray]); (try simp only [List.set_cons_succ]); (try simp only [List.set_cons_zero])
    refine takeD (i := 11) (d := some 62) (v := .bool true) rfl (by kernel_rfl) (by kernel_rfl) (by kernel_rfl) (by kernel_rfl) (fun _ _ _ h => h) (Or.inl ⟨by kernel_rfl, fun X hX => Or.inl (exec_bin .eql 23 (.tmp 58) (.tmp 61) 23 rfl _ _ _ rfl rfl (by kernel_rfl) (HEA.out X))⟩) (by assumption) ?_
    (try simp only [Act.put]); (try simp only [List.setIfInBounds_toArray]); (try simp only [List.set_cons_succ]); (try simp only [List.set_cons_zero])
    refine takeD (i := 12) (d := some 63) (v := ?_) rfl (by kernel_rfl) (by kernel_rfl) (by kernel_rfl) (by kernel_rfl) (fun _ _ _ h => h) (Or.inl ⟨by kernel_rfl, fun X hX => Or.inl ?_⟩) (by assumption) ?_
    rotate_left
    · first | (go_simp; done) | (go_simp; with_reducible rfl)
    (try simp only [Act.put]); (try simp only [List.setIfInBounds_toArray]); (try simp only [List.set_cons_succ]); (try simp only [List.set_cons_zero])
    refine takeD (i := 13) (d := some 64) (v := ?_) rfl (by kernel_rfl) (by kernel_rfl) (by kernel_rfl) (by kernel_rfl) (fun _ _ _ h => h) (Or.inl ⟨by kernel_rfl, fun X hX => Or.inl ?_⟩) (by assumption) ?_
    rotate_left
    · first | (go_simp; done) | (go_simp; with_reducible rfl)
    (try simp only [Act.put]); (try simp only [List.setIfInBounds_toArray]); (try simp only [List.set_cons_succ]); (try simp only [List.set_cons_zero])
    refine wpAnyH_ready (rs := [14]) (by kernel_rfl) (by simp) ?_
    refine AllReadyH.cons rfl (fun K hK => ?_) AllReadyH.nil
    rw [if_pos (by kernel_rfl)]
    go_simp
    refine (shown4_any _).mono ?_
    rintro ex w6 ⟨rfl, hF6⟩
    have F6 := Lib.hid (hHeld.trans hF6)
    clear hF6
    refine hK.out _ _ (F6.out) (fun hHeld => ?_)
    clear hK K
    (try simp only [Act.put]); (try simp only [List.setIfInBounds_toArray]); (try simp only [List.set_cons_succ]); (try simp only [List.set_cons_zero])
    refine takeD (i := 15) (d := some 66) (v := ?_) rfl (by kernel_rfl) (by kernel_rfl) (by kernel_rfl) (by kernel_rfl) (fun _ _ _ h => h) (Or.inl ⟨by kernel_rfl, fun X hX => Or.inl ?_⟩) (by assumption) ?_
    rotate_left
    · first | (go_simp; done) | (go_simp; with_reducible rfl)
    (try simp only [Act.put]); (try simp only [List.setIfInBounds_toArray]); (try simp only [List.set_cons_succ]); (try simp only [List.set_cons_zero])
    refine takeD (i := 16) (d := some 4) (v := ?_) rfl (by kernel_rfl) (by kernel_rfl) (by kernel_rfl) (by kernel_rfl) (fun _ _ _ h => h) (Or.inl ⟨by kernel_rfl, fun X hX => Or.inl ?_⟩) (by assumption) ?_
    rotate_left
    · first | (go_simp; done) | (go_simp; with_reducible rfl)
    (try simp only [Act.put]); (try simp only [List.setIfInBounds_toArray]); (try simp only [List.set_cons_succ]); (try simp only [List.set_cons_zero])
    refine wpAnyH_done (by kernel_rfl) ?_ _
    have HH6 := Lib.hid hHeld
    clear hHeld
    go_wp2
    go_ret
    exact ⟨rfl, F4.out.trans HH6.out⟩
  · rw [if_pos (by kernel_rfl)]
    go_simp
    refine hK.out _ _ (hHeld.alloc _) (fun hHeld => ?_)
    clear hK K
    (try simp only [Act.put]); (try simp only [List.setIfInBounds_toArray]); (try simp only [List.set_cons_succ]); (try simp only [List.set_cons_zero])
    refine wpAnyH_ready (rs := [6]) (by kernel_rfl) (by simp) ?_
    refine AllReadyH.cons rfl (fun K hK => ?_) AllReadyH.nil
    rw [if_pos (by kernel_rfl)]
    go_simp
    refine (HMJ.out _ (HG.out.fr (Fv2.out.trans hHeld) (fun _ _ => id))).mono ?_
    rintro ex v3 ⟨rfl, hF3⟩
    have RN3 : Hid (Row v3 v2.heap.size 23 .u8 (List.replicate 32 0)) := Lib.hid (Row.fr (w := v2.drew.alloc (.cells (arr .u8 (List.replicate 32 0)) 23)) (Row.new v2.drew 23 .u8 (List.replicate 32 0)) hF3 id)
    have F3 := Lib.hid (hHeld.trans hF3)
    clear hF3
    refine hK.out _ _ (F3.out) (fun hHeld => ?_)
    clear hK K
    (try simp only [Act.put]); (try simp only [List.setIfInBounds_toArray]); (try simp only [List.set_cons_succ]); (try simp only [List.set_cons_zero])
    refine takeD (i := 7) (d := some 32) (v := ?_) rfl (by kernel_rfl) (by kernel_rfl) (by kernel_rfl) (by kernel_rfl) (fun _ _ _ h => h) (Or.inl ⟨by kernel_rfl, fun X hX => Or.inl ?_⟩) (by assumption) ?_
    rotate_left
    · first | (go_simp; done) | (go_simp; with_reducible rfl)
    (try simp only [Act.put]); (try simp only [List.setIfInBounds_toArray]); (try simp only [List.set_cons_succ]); (try simp only [List.set_cons_zero])
    refine takeD (i := 8) (d := some 40) (v := ?_) rfl (by kernel_rfl) (by kernel_rfl) (by kernel_rfl) (by kernel_rfl) (fun _ _ _ h => h) (Or.inl ⟨by kernel_rfl, fun X hX => Or.inl ?_⟩) (by assumption) ?_
    rotate_left
    · first | (go_simp; done) | (go_simp; with_reducible rfl)
    (try simp only [Act.put]); (try simp only [List.setIfInBounds_toArray]); (try simp only [List.set_cons_succ]); (try simp only [List.set_cons_zero])
    refine takeD (i := 9) (d := some 41) (v := ?_) rfl (by kernel_rfl) (by kernel_rfl) (by kernel_rfl) (by kernel_rfl) (fun _ _ _ h => h) (Or.inl ⟨by kernel_rfl, fun X hX => Or.inl ?_⟩) (by assumption) ?_
    rotate_left
    · first | (go_simp; done) | (go_simp; with_reducible rfl)
    (try simp only [Act.put]); (try simp only [List.setIfInBounds_toArray]); (try simp only [List.set_cons_succ]); (try simp only [List.set_cons_zero])
    refine wpAnyH_ready (rs := [11]) (by kernel_rfl) (by simp) ?_
    refine AllReadyH.cons rfl (fun K hK => ?_) AllReadyH.nil
    rw [if_pos (by kernel_rfl)]
    refine wp_store_row 23 _ _ rfl v2.heap.size rfl (arr .u8 B) rfl RN3.out arHash (by rfl) (by rw [arr_size]; exact HLB.out) (arr_one _ _) ?_
    refine hK.out _ _ (fr_setRow hHeld (.inr (Nat.le_refl _)) _) (fun hHeld => ?_)
    clear hK K
    (try simp only [Act.put]); (try simp only [List.setIfInBounds_toArray]); (try simp only [List.set_cons_succ]); (try simp only [List.set_cons_zero])
    refine takeD (i := 12) (d := some 9) (v := ?_) rfl (by kernel_rfl) (by kernel_rfl) (by kernel_rfl) (by kernel_rfl) (fun _ _ _ h => h) (Or.inl ⟨by kernel_rfl, fun X hX => Or.inl ?_⟩) (by assumption) ?_
    rotate_left
    · first | (go_simp; done) | (go_simp; with_reducible rfl)
    (try simp only [Act.put]); (try simp only [List.setIfInBounds_toArray]); (try simp only [List.set_cons_succ]); (try simp only [List.set_cons_zero])
    refine wpAnyH_done (by kernel_rfl) ?_ _
    have HR3 : Hid (Row (v3.setRow v2.heap.size (arr .u8 B)) v2.heap.size 23 .u8 B) := Lib.hid (RN3.out.setRow)
    have HF3 := Lib.hid hHeld
    generalize v3.setRow v2.heap.size (arr .u8 B) = W3 at *
    clear hHeld
    obtain ⟨g, hgg⟩ : ∃ g, g = v2.heap.size := ⟨_, rfl⟩
    have HG2 : Hid (v2.heap.size ≤ g) := Lib.hid (by rw [hgg]; exact Nat.le_refl _)
    rw [← hgg] at HR3 ⊢
    clear hgg
    have R1w := Lib.hid (R1v2.out.fr HF3.out id)
    have HNE : Hid (v1.heap.size ≠ g) := Lib.hid (by have := R1v2.out.lt; have := HG2.out; omega)
    have c0 := HR3.out.cellD (i := q) (by rw [HLB.out]; exact HQ.out)
    have f0 := HR3.out.frozen q
    rw [← HX.out] at c0
    go_wp2_with fail
    go_region
    have F4 : Hid (Fr No w (W3.setCell ⟨g, q, none⟩ (.int .u8 (y : Int))).drew) := Lib.hid ((Fv2.out.trans HF3.out).setCell (.inr (by have := HG2.out; have := Fv2.out.size; show _ ≤ g; omega)) _).drew
    have R4 : Hid (Row (W3.setCell ⟨g, q, none⟩ (.int .u8 (y : Int))).drew g 23 .u8 T) := Lib.hid (by rw [HTS.out]; exact (HR3.out.set q y).drew)
    have Q4 : Hid (Row (W3.setCell ⟨g, q, none⟩ (.int .u8 (y : Int))).drew v1.heap.size 23 .u8 A) := Lib.hid (R1w.out.set_other (Ne.symm HNE.out) _).drew
    generalize (W3.setCell ⟨g, q, none⟩ (.int .u8 (y : Int))).drew = W4 at *
    clear c0 f0 hsh hxo R1w HR3
    go_wp2_with fail
    refine wp_region_held_drew (S := (fun X => Fr No W4 X)) (by kernel_rfl) ((Fr.refl _ W4).drew) (fun hHeld => ?_)
    refine takeD (i := 0) (d := some 51) (v := ?_) rfl (by kernel_rfl) (by kernel_rfl) (by kernel_rfl) (by kernel_rfl) (fun _ _ _ h => h) (Or.inl ⟨by kernel_rfl, fun X hX => Or.inl ?_⟩) (by assumption) ?_
    rotate_left
    · first | (go_simp; done) | (go_simp; with_reducible rfl)
    (try simp only [Act.put]); (try simp only [List.setIfInBounds_toArray]); (try simp only [List.set_cons_succ]); (try simp only [List.set_cons_zero])
    refine takeD (i := 1) (d := some 52) (v := ?_) rfl (by kernel_rfl) (by kernel_rfl) (by kernel_rfl) (by kernel_rfl) (fun _ _ _ h => h) (Or.inl ⟨by kernel_rfl, fun X hX => Or.inl ?_⟩) (by assumption) ?_
    rotate_left
    · first | (go_simp; done) | (go_simp; with_reducible rfl)
    (try simp only [Act.put]); (try simp only [List.setIfInBounds_toArray]); (try simp only [List.set_cons_succ]); (try simp only [List.set_cons_zero])
    refine takeD (i := 2) (d := some 53) (v := ?_) rfl (by kernel_rfl) (by kernel_rfl) (by kernel_rfl) (by kernel_rfl) (fun _ _ _ h => h) (Or.inl ⟨by kernel_rfl, fun X hX => Or.inl ?_⟩) (by assumption) ?_
    rotate_left
    · first | (go_simp; done) | (go_simp; with_reducible rfl)
    (try simp only [Act.put]); (try simp only [List.setIfInBounds_toArray]); (try simp only [List.set_cons_succ]); (try simp only [List.set_cons_zero])
    refine takeD (i := 3) (d := some 54) (v := ?_) rfl (by kernel_rfl) (by kernel_rfl) (by kernel_rfl) (by kernel_rfl) (fun _ _ _ h => h) (Or.inl ⟨by kernel_rfl, fun X hX => Or.inl ?_⟩) (by assumption) ?_
    rotate_left
    · first | (go_simp; done) | (go_simp; with_reducible rfl)
    (try simp only [Act.put]); (try simp only [List.setIfInBounds_toArray]); (try simp only [List.set_cons_succ]); (try simp only [List.set_cons_zero])
    refine takeD (i := 4) (d := some 55) (v := ?_) rfl (by kernel_rfl) (by kernel_rfl) (by kernel_rfl) (by kernel_rfl) (fun _ _ _ h => h) (Or.inl ⟨by kernel_rfl, fun X hX => Or.inl ?_⟩) (by assumption) ?_
    rotate_left
    · first | (go_simp; done) | (go_simp; with_reducible rfl)
    (try simp only [Act.put]); (try simp only [List.setIfInBounds_toArray]); (try simp only [List.set_cons_succ]); (try simp only [List.set_cons_zero])
    refine takeD (i := 5) (d := some 56) (v := ?_) rfl (by kernel_rfl) (by kernel_rfl) (by kernel_rfl) (by kernel_rfl) (fun _ _ _ h => h) (Or.inl ⟨by kernel_rfl, fun X hX => Or.inl ?_⟩) (by assumption) ?_
    rotate_left
    · first | (go_simp; done) | (go_simp; with_reducible rfl)
    (try simp only [Act.put]); (try simp only [List.setIfInBounds_toArray]); (try simp only [List.set_cons_succ]); (try simp only [List.set_cons_zero])
    refine takeD (i := 6) (d := some 57) (v := ?_) rfl (by kernel_rfl) (by kernel_rfl) (by kernel_rfl) (by kernel_rfl) (fun _ _ _ h => h) (Or.inl ⟨by kernel_rfl, fun X hX => Or.inl ?_⟩) (by assumption) ?_
    rotate_left
    · first | (go_simp; done) | (go_simp; with_reducible rfl)
    (try simp only [Act.put]); (try simp only [List.setIfInBounds_toArray]); (try simp only [List.set_cons_succ]); (try simp only [List.set_cons_zero])
    refine takeD (i := 7) (d := some 58) (v := .agg (arr .u8 A)) rfl (by kernel_rfl) (by kernel_rfl) (by kernel_rfl) (by kernel_rfl) (fun _ _ _ h => h) (Or.inl ⟨by kernel_rfl, fun X hX => Or.inl (exec_load 23 (.tmp 5) rfl _ _ rfl ((Q4.out.fr hX id).load arHash HLA.out))⟩) (by assumption) ?_
    (try simp only [Act.put]); (try simp only [List.setIfInBounds_toArray]); (try simp only [List.set_cons_succ]); (try simp only [List.set_cons_zero])
    refine takeD (i := 8) (d := some 59) (v := ?_) rfl (by kernel_rfl) (by kernel_rfl) (by kernel_rfl) (by kernel_rfl) (fun _ _ _ h => h) (Or.inl ⟨by kernel_rfl, fun X hX => Or.inl ?_⟩) (by assumption) ?_
    rotate_left
    · first | (go_simp; done) | (go_simp; with_reducible rfl)
    (try simp only [Act.put]); (try simp only [List.setIfInBounds_toArray]); (try simp only [List.set_cons_succ]); (try simp only [List.set_cons_zero])
    refine takeD (i := 9) (d := some 60) (v := .string (str TB)) rfl (by kernel_rfl) (by kernel_rfl) (by kernel_rfl) (by kernel_rfl) (fun _ _ _ h => h) (Or.inl ⟨by kernel_rfl, fun X hX => Or.inl (exec_convert 35 9 (.tmp 59) rfl _ _ rfl (HCV.out X g (R4.out.fr hX id)))⟩) (by assumption) ?_
    (try simp only [Act.put]); (try simp only [List.setIfInBounds_toArray]); (try simp only [List.set_cons_succ]); (try simp only [List.set_cons_zero])
    refine wpAnyH_ready (rs := [10]) (by kernel_rfl) (by simp) ?_
    refine AllReadyH.cons rfl (fun K hK => ?_) AllReadyH.nil
    rw [if_pos (by kernel_rfl)]
    go_simp
    refine (HS.out _).mono ?_
    rintro ex w5 ⟨rfl, hF5⟩
    have F5 := Lib.hid (hHeld.trans hF5)
    clear hF5
    refine hK.out _ _ (F5.out) (fun hHeld => ?_)
    clear hK K
    (try simp only [Act.put]); (try simp only [List.setIfInBounds_toArray]); (try simp only [List.set_cons_succ]); (try simp only [List.set_cons_zero])
    refine takeD (i := 11) (d := some 62) (v := .bool true) rfl (by kernel_rfl) (by kernel_rfl) (by kernel_rfl) (by kernel_rfl) (fun _ _ _ h => h) (Or.inl ⟨by kernel_rfl, fun X hX => Or.inl (exec_bin .eql 23 (.tmp 58) (.tmp 61) 23 rfl _ _ _ rfl rfl (by kernel_rfl) (HEA.out X))⟩) (by assumption) ?_
    (try simp only [Act.put]); (try simp only [List.setIfInBounds_toArray]); (try simp only [List.set_cons_succ]); (try simp only [List.set_cons_zero])
    refine takeD (i := 12) (d := some 63) (v := ?_) rfl (by kernel_rfl) (by kernel_rfl) (by kernel_rfl) (by kernel_rfl) (fun _ _ _ h => h) (Or.inl ⟨by kernel_rfl, fun X hX => Or.inl ?_⟩) (by assumption) ?_
    rotate_left
    · first | (go_simp; done) | (go_simp; with_reducible rfl)
    (try simp only [Act.put]); (try simp only [List.setIfInBounds_toArray]); (try simp only [List.set_cons_succ]); (try simp only [List.set_cons_zero])
    refine takeD (i := 13) (d := some 64) (v := ?_) rfl (by kernel_rfl) (by kernel_rfl) (by kernel_rfl) (by kernel_rfl) (fun _ _ _ h => h) (Or.inl ⟨by kernel_rfl, fun X hX => Or.inl ?_⟩) (by assumption) ?_
    rotate_left
    · first | (go_simp; done) | (go_simp; with_reducible rfl)
    (try simp only [Act.put]); (try simp only [List.setIfInBounds_toArray]); (try simp only [List.set_cons_succ]); (try simp only [List.set_cons_zero])
    refine wpAnyH_ready (rs := [14]) (by kernel_rfl) (by simp) ?_
    refine AllReadyH.cons rfl (fun K hK => ?_) AllReadyH.nil
    rw [if_pos (by kernel_rfl)]
    go_simp
    refine (shown4_any _).mono ?_
    rintro ex w6 ⟨rfl, hF6⟩
    have F6 := Lib.hid (hHeld.trans hF6)
    clear hF6
    refine hK.out _ _ (F6.out) (fun hHeld => ?_)
    clear hK K
    (try simp only [Act.put]); (try simp only [List.setIfInBounds_toArray]); (try simp only [List.set_cons_succ]); (try simp only [List.set_cons_zero])
    refine takeD (i := 15) (d := some 66) (v := ?_) rfl (by kernel_rfl) (by kernel_rfl) (by kernel_rfl) (by kernel_rfl) (fun _ _ _ h => h) (Or.inl ⟨by kernel_rfl, fun X hX => Or.inl ?_⟩) (by assumption) ?_
    rotate_left
    · first | (go_simp; done) | (go_simp; with_reducible rfl)
    (try simp only [Act.put]); (try simp only [List.setIfInBounds_toArray]); (try simp only [List.set_cons_succ]); (try simp only [List.set_cons_zero])
    refine takeD (i := 16) (d := some 4) (v := ?_) rfl (by kernel_rfl) (by kernel_rfl) (by kernel_rfl) (by kernel_rfl) (fun _ _ _ h => h) (Or.inl ⟨by kernel_rfl, fun X hX => Or.inl ?_⟩) (by assumption) ?_
    rotate_left
    · first | (go_simp; done) | (go_simp; with_reducible rfl)
    (try simp only [Act.put]); (try simp only [List.setIfInBounds_toArray]); (try simp only [List.set_cons_succ]); (try simp only [List.set_cons_zero])
    refine wpAnyH_done (by kernel_rfl) ?_ _
    have HH6 := Lib.hid hHeld
    clear hHeld
    go_wp2
    go_ret
    exact ⟨rfl, F4.out.trans HH6.out⟩

theorem steps_walk (h : List UInt8) (i : Nat) (w : World) (hh : h.length = 32) (hi : (i : Int) ≤ 65535) (hg : Gl w) :
    Calls Tryd.prog 5 #[.agg (h.map u8v).toArray, .int .u16 (i : Int)] w fun e w' => e = .returned (.bool true) ∧ Fr No w w' := by
  rw [arr_nb]
  have hH : H32 (nb h) := ⟨by rw [nb, List.length_map]; exact hh, nb_b8 _⟩
  rcases Nat.eq_zero_or_pos i with rfl | h0
  · exact steps_zero (nb h) w hH hg
  · exact steps_some (nb h) i w hH h0 (by omega) hg
end Go.Proofs.YtiimkbboeekhlaaDoor
