/- The document's table; a list that is filled from its front. -/
import Derived.Test.YtnpgcgemifoddaaDoorRefA
namespace Go.Proofs.YtnpgcgemifoddaaDoor
open Go.RowKit
set_option linter.unusedVariables false

set_option maxHeartbeats 1000000 in
set_option maxRecDepth 100000 in
theorem rk_any (w : World) : Calls Tryd.prog 43 #[] w fun e w' => e = .returned (.agg (arr .u64 KL)) ∧ Fr No w w' := by
  go_enter Tryd.func43, Tryd.ntmps43
  go_wp2_with (refine wpList_store_row rfl 87 _ _ rfl w.heap.size rfl (arr .u64 KL) rfl (Row.new w 87 .u64 (List.replicate 64 0)) arQ64 (by rfl) (by rfl) (arr_one _ _) ?_
               refine wpList_world (fun W => Fr No w W ∧ Row W w.heap.size 87 .u64 KL) ⟨fr_setRow ((Fr.refl No w).alloc _) (.inr (Nat.le_refl _)) _, (Row.new w 87 .u64 (List.replicate 64 0)).setRow⟩ ?_
               rintro w1 ⟨hF, hR⟩
               have HF := Lib.hid hF
               have HR := Lib.hid (hR.loadVar arQ64 KL_len)
               clear hF hR)
  exact bodyPost_ret (results_cell1 rfl rfl HR.out) rfl ⟨rfl, HF.out⟩

/-- The first i of l, zeros behind them. -/
def fil (l : List Nat) (i : Nat) : List Nat := l.take i ++ List.replicate (l.length - i) 0
theorem fil_len (l : List Nat) (i : Nat) (h : i ≤ l.length) : (fil l i).length = l.length := by simp [fil]; omega
theorem fil_all (l : List Nat) : fil l l.length = l := by simp [fil]
theorem fil_set (l : List Nat) (i : Nat) (h : i < l.length) : (fil l i).set i (l.getD i 0) = fil l (i + 1) := by
  obtain ⟨k, hk⟩ : ∃ k, l.length - i = k + 1 := ⟨l.length - i - 1, by omega⟩
  rw [fil, fil, hk, show l.length - (i + 1) = k by omega, List.set_append_right _ _ (by rw [List.length_take]; omega)]
  rw [show i - (l.take i).length = 0 by rw [List.length_take]; omega, List.replicate_succ, List.set_cons_zero, List.take_succ_eq_append_getElem h, List.append_assoc]
  simp [List.getD_eq_getElem?_getD, List.getElem?_eq_getElem h]
end Go.Proofs.YtnpgcgemifoddaaDoor
