/- The document's table, and its words of 32 and of 64 bits. -/
import Derived.Test.YthanfcmpaofggaaDoorRefA
namespace Go.Proofs.YthanfcmpaofggaaDoor
open Go.RowKit
set_option linter.unusedVariables false

set_option maxHeartbeats 1000000 in
set_option maxRecDepth 100000 in
theorem rk_any (w : World) : Calls Tryd.prog 26 #[] w fun e w' => e = .returned (.agg (arr .u64 KL)) ∧ Fr No w w' := by
  go_enter Tryd.func26, Tryd.ntmps26
  go_wp2_with (refine wpList_store_row rfl 54 _ _ rfl w.heap.size rfl (arr .u64 KL) rfl (Row.new w 54 .u64 (List.replicate 64 0)) arQ64 (by rfl) (by rfl) (arr_one _ _) ?_
               refine wpList_world (fun W => Fr No w W ∧ Row W w.heap.size 54 .u64 KL) ⟨fr_setRow ((Fr.refl No w).alloc _) (.inr (Nat.le_refl _)) _, (Row.new w 54 .u64 (List.replicate 64 0)).setRow⟩ ?_
               rintro w1 ⟨hF, hR⟩
               have HF := Lib.hid hF
               have HR := Lib.hid (hR.loadVar arQ64 KL_len)
               clear hF hR)
  exact bodyPost_ret (results_cell1 rfl rfl HR.out) rfl ⟨rfl, HF.out⟩

/-- The first i of l, zeros behind them. -/
def fil (l : List Nat) (i : Nat) : List Nat := l.take i ++ List.replicate (l.length - i) 0
theorem fil_len (l : List Nat) (i : Nat) (h : i ≤ l.length) : (fil l i).length = l.length := by simp [fil]; omega
theorem fil_all (l : List Nat) : fil l l.length = l := by simp [fil]
theorem fil_set (l : List Nat) (i : Nat) (h : i < l.length) : (fil l i).set i (l.getD i 0) = fil l (i + 1) := by
  obtain ⟨k, hk⟩ : ∃ k, l.length - i = k + 1 := ⟨l.length - i - 1, by omega⟩
  rw [fil, fil, hk, show l.length - (i + 1) = k by omega, List.set_append_right _ _ (by rw [List.length_take]; omega)]
  rw [show i - (l.take i).length = 0 by rw [List.length_take]; omega, List.replicate_succ, List.set_cons_zero, List.take_succ_eq_append_getElem h, List.append_assoc]
  simp [List.getD_eq_getElem?_getD, List.getElem?_eq_getElem h]

set_option maxHeartbeats 1000000 in
set_option maxRecDepth 100000 in
theorem rback_any (h : List Nat) (w : World) (hh : h.length = 8) (hw : Ws h) :
    Calls Tryd.prog 15 #[.agg (arr .u32 h)] w fun e w' => e = .returned (.agg (arr .u64 h)) ∧ Fr No w w' := by
  have HH := Lib.hid hh
  clear hh
  go_enter Tryd.func15, Tryd.ntmps15
  go_wp2
  refine wp_world (fun W => Fr No w W ∧ Row W w.heap.size 29 .u32 h ∧ Row W (w.heap.size + 1) 33 .u64 (List.replicate 8 0) ∧ Row W (w.heap.size + 2) 33 .u64 (fil h 0)) ⟨(((Fr.refl No w).alloc _).alloc _).alloc _, ((Row.new w 29 .u32 h).alloc _).alloc _, Row.alloc (Row.new2 w _ 33 .u64 (List.replicate 8 0)) _, by rw [fil, HH.out]; exact Row.new3 w _ _ 33 .u64 (List.replicate 8 0)⟩ ?_
  rintro W1 ⟨hF, h1, h2, h3⟩
  obtain ⟨p, hp⟩ : ∃ p, p = w.heap.size := ⟨_, rfl⟩
  rw [← hp] at h1 h2 h3 ⊢
  have HP := Lib.hid hp
  clear hp
  go_loopw [4] (fun c wr => ∃ i : Nat, i ≤ 8 ∧ c = .int .i64 i ∧ Fr No w wr ∧ Row wr p 29 .u32 h ∧ Row wr (p + 1) 33 .u64 (List.replicate 8 0) ∧ Row wr (p + 2) 33 .u64 (fil h i)) (fun c _ => 8 - (intOf c).toNat)
  case atStart => exact ⟨0, by omega, rfl, hF, h1, h2, h3⟩
  clear hF h1 h2 h3
  case round =>
    obtain ⟨i, hi, rfl, hF, k1, k2, k3⟩ := hrel
    by_cases hlt : i < 8
    · have h1 : (i : Int) < 8 := by omega
      obtain ⟨x, hx⟩ : ∃ x, x = h.getD i 0 := ⟨_, rfl⟩
      have hxW : (x : Int) < 4294967296 := by have := hw.getD i; rw [← hx] at this; unfold W32 at this; omega
      have c1 := k1.cellD (i := i) (by have := HH.out; omega)
      rw [← hx] at c1
      have c3 := k3.cellD (i := i) (by rw [fil_len _ _ (by rw [HH.out]; omega), HH.out]; exact hlt)
      have f3 := k3.frozen i
      have HN : Hid (fil h (i + 1) = (fil h i).set i x) := Lib.hid (by rw [hx, fil_set _ _ (by rw [HH.out]; exact hlt)])
      have HF := Lib.hid hF
      have K1 := Lib.hid k1
      have K2 := Lib.hid k2
      have K3 := Lib.hid k3
      clear hx hF k1 k2 k3
      go_wp2
      refine ⟨⟨i + 1, by omega, by simp, HF.out.setCell (.inr (by have := HP.out; show _ ≤ p + 2; omega)) _, K1.out.set_other (by omega) _, K2.out.set_other (by omega) _, ?_⟩, by simp [intOf]; omega⟩
      rw [HN.out]; exact K3.out.set i x
    · obtain rfl : i = 8 := by omega
      rw [show fil h 8 = h by rw [← HH.out]; exact fil_all h] at k3
      have HF := Lib.hid hF
      have HL := Lib.hid (k3.load arQ8 HH.out)
      obtain ⟨Y, hY, hYR, hYF⟩ := k2.stored (l' := h) arQ8 (by rfl) HH.out
      have HY := Lib.hid hY
      have HYR := Lib.hid (hYR.loadVar arQ8 HH.out)
      have HYF := Lib.hid hYF
      clear hF k1 k2 k3 hY hYR hYF
      go_wp2_with (first | (refine wpList_load_eq rfl 33 _ rfl (.pointer (some ⟨p + 2, 0, none⟩)) (.agg (arr .u64 h)) rfl HL.out ?_) | (refine wpList_store_eq rfl 33 _ _ rfl (.pointer (some ⟨p + 1, 0, none⟩)) (.agg (arr .u64 h)) rfl rfl HY.out ?_))
      refine bodyPost_ret (results_cell1 rfl rfl HYR.out) rfl ?_
      have hpp := HP.out
      exact ⟨rfl, HF.out.trans' HYF.out (fun k hk e => by omega)⟩

set_option maxHeartbeats 1000000 in
set_option maxRecDepth 100000 in
theorem rwords_any (h : List Nat) (w : World) (hh : h.length = 8) (hw : Ws h) :
    Calls Tryd.prog 16 #[.agg (arr .u64 h)] w fun e w' => e = .returned (.agg (arr .u32 h)) ∧ Fr No w w' := by
  have HH := Lib.hid hh
  clear hh
  go_enter Tryd.func16, Tryd.ntmps16
  go_wp2
  refine wp_world (fun W => Fr No w W ∧ Row W w.heap.size 33 .u64 h ∧ Row W (w.heap.size + 1) 29 .u32 (List.replicate 8 0) ∧ Row W (w.heap.size + 2) 29 .u32 (fil h 0)) ⟨(((Fr.refl No w).alloc _).alloc _).alloc _, ((Row.new w 33 .u64 h).alloc _).alloc _, Row.alloc (Row.new2 w _ 29 .u32 (List.replicate 8 0)) _, by rw [fil, HH.out]; exact Row.new3 w _ _ 29 .u32 (List.replicate 8 0)⟩ ?_
  rintro W1 ⟨hF, h1, h2, h3⟩
  obtain ⟨p, hp⟩ : ∃ p, p = w.heap.size := ⟨_, rfl⟩
  rw [← hp] at h1 h2 h3 ⊢
  have HP := Lib.hid hp
  clear hp
  go_loopw [4] (fun c wr => ∃ i : Nat, i ≤ 8 ∧ c = .int .i64 i ∧ Fr No w wr ∧ Row wr p 33 .u64 h ∧ Row wr (p + 1) 29 .u32 (List.replicate 8 0) ∧ Row wr (p + 2) 29 .u32 (fil h i)) (fun c _ => 8 - (intOf c).toNat)
  case atStart => exact ⟨0, by omega, rfl, hF, h1, h2, h3⟩
  clear hF h1 h2 h3
  case round =>
    obtain ⟨i, hi, rfl, hF, k1, k2, k3⟩ := hrel
    by_cases hlt : i < 8
    · have h1 : (i : Int) < 8 := by omega
      obtain ⟨x, hx⟩ : ∃ x, x = h.getD i 0 := ⟨_, rfl⟩
      have hxW : (x : Int) < 4294967296 := by have := hw.getD i; rw [← hx] at this; unfold W32 at this; omega
      have hx0 : (x : Int) % 4294967296 = (x : Int) := by omega
      have c1 := k1.cellD (i := i) (by have := HH.out; omega)
      rw [← hx] at c1
      have c3 := k3.cellD (i := i) (by rw [fil_len _ _ (by rw [HH.out]; omega), HH.out]; exact hlt)
      have f3 := k3.frozen i
      have HN : Hid (fil h (i + 1) = (fil h i).set i x) := Lib.hid (by rw [hx, fil_set _ _ (by rw [HH.out]; exact hlt)])
      have HF := Lib.hid hF
      have K1 := Lib.hid k1
      have K2 := Lib.hid k2
      have K3 := Lib.hid k3
      clear hx hF k1 k2 k3
      go_wp2
      refine ⟨⟨i + 1, by omega, by simp, HF.out.setCell (.inr (by have := HP.out; show _ ≤ p + 2; omega)) _, K1.out.set_other (by omega) _, K2.out.set_other (by omega) _, ?_⟩, by simp [intOf]; omega⟩
      rw [HN.out]; exact K3.out.set i x
    · obtain rfl : i = 8 := by omega
      rw [show fil h 8 = h by rw [← HH.out]; exact fil_all h] at k3
      have HF := Lib.hid hF
      have HL := Lib.hid (k3.load arW8 HH.out)
      obtain ⟨Y, hY, hYR, hYF⟩ := k2.stored (l' := h) arW8 (by rfl) HH.out
      have HY := Lib.hid hY
      have HYR := Lib.hid (hYR.loadVar arW8 HH.out)
      have HYF := Lib.hid hYF
      clear hF k1 k2 k3 hY hYR hYF
      go_wp2_with (first | (refine wpList_load_eq rfl 29 _ rfl (.pointer (some ⟨p + 2, 0, none⟩)) (.agg (arr .u32 h)) rfl HL.out ?_) | (refine wpList_store_eq rfl 29 _ _ rfl (.pointer (some ⟨p + 1, 0, none⟩)) (.agg (arr .u32 h)) rfl rfl HY.out ?_))
      refine bodyPost_ret (results_cell1 rfl rfl HYR.out) rfl ?_
      have hpp := HP.out
      exact ⟨rfl, HF.out.trans' HYF.out (fun k hk e => by omega)⟩
end Go.Proofs.YthanfcmpaofggaaDoor
