/- The walk of 'AmountParted'. -/
import Derived.Test.YtgehajgnakngoaaAmL
namespace Go.Proofs.Ytgehajgnakngoaa
open Go.RowKit
set_option linter.unusedVariables false

theorem part_parts (r a b : Nat) : partN r a + partN r b ≤ partN r (a + b) ∧ partN r (a + b) ≤ partN r a + partN r b + 1 := by
  unfold partN
  rw [Nat.mul_add]
  generalize r * a = x
  generalize r * b = y
  omega

set_option maxRecDepth 100000 in
set_option maxHeartbeats 1000000 in
theorem parted6_walk (r a b : Nat) (W : World) (hr : (r : Int) ≤ 4294967295) (ha : (a : Int) ≤ 4294967295) (hb : (b : Int) ≤ 4294967295) :
    Calls Try.prog 8 #[.int .u32 (r : Int), .int .u32 (a : Int), .int .u32 (b : Int)] W fun e w' => e = .returned (.bool true) ∧ Fr No W w' := by
  obtain ⟨hp1, hp2⟩ := part_parts r a b
  obtain ⟨c, hc⟩ : ∃ v, v = a + b := ⟨_, rfl⟩
  have h1 := fun X => fee_any 0 r a X (by omega) (by omega) (by omega)
  have h2 := fun X => fee_any 0 r b X (by omega) (by omega) (by omega)
  have h3 := fun X => fee_any 0 r c X (by omega) (by omega) (by omega)
  have lr := wrapU r (by omega)
  have la := wrapU a (by omega)
  have lb := wrapU b (by omega)
  have sc : (a : Int) + (b : Int) = (c : Int) := by omega
  have lc := wrapU c (by omega)
  rw [← hc] at hp1 hp2
  unfold feeN at h1 h2 h3
  rw [Nat.zero_add] at h1 h2 h3
  obtain ⟨A, hA⟩ : ∃ v, v = partN r a := ⟨_, rfl⟩
  obtain ⟨B, hB⟩ : ∃ v, v = partN r b := ⟨_, rfl⟩
  obtain ⟨C, hC⟩ : ∃ v, v = partN r c := ⟨_, rfl⟩
  rw [← hA, ← hB, ← hC] at hp1 hp2
  rw [← hA] at h1
  rw [← hB] at h2
  rw [← hC] at h3
  clear hA hB hC
  by_cases h : C ≤ 1125899906842624
  · rw [addV_le h, addE_le h] at h3
    rw [addV_le (by omega), addE_le (by omega)] at h1 h2
    have H1 := Lib.hid h1
    have H2 := Lib.hid h2
    have H3 := Lib.hid h3
    obtain ⟨s, hs⟩ : ∃ v, v = A + B := ⟨_, rfl⟩
    obtain ⟨u, hu⟩ : ∃ v, v = s + 1 := ⟨_, rfl⟩
    have s1 : (A : Int) + (B : Int) = (s : Int) := by omega
    have l1 := wrapU s (by omega)
    have s2 : (s : Int) + 1 = (u : Int) := by omega
    have l2 := wrapU u (by omega)
    have t1 : decide (s ≤ C) = true := decide_eq_true (by omega)
    have t2 : decide (C ≤ u) = true := decide_eq_true (by omega)
    clear hs hu hp1 hp2 h hc h1 h2 h3 hr ha hb
    go_enter Try.func8, Try.ntmps8
    go_wp2_with fail
    refine (H1.out _).mono ?_
    rintro e w1 ⟨rfl, hF⟩
    have F1 := Lib.hid hF
    clear hF
    go_wp2_with fail
    refine (H2.out _).mono ?_
    rintro e w2 ⟨rfl, hF⟩
    have F2 := Lib.hid (F1.out.trans hF)
    clear hF
    go_wp2_with fail
    refine (H3.out _).mono ?_
    rintro e w3 ⟨rfl, hF⟩
    have F3 := Lib.hid (F2.out.trans hF)
    clear hF
    go_wp2_with fail
    refine (shown6_any _).mono ?_
    rintro e w4 ⟨rfl, hF⟩
    have F4 := Lib.hid (F3.out.trans hF)
    clear hF
    go_wp2
    go_ret
    exact ⟨rfl, F4.out⟩
  · rw [addV_gt (by omega), addE_gt (by omega)] at h3
    obtain ⟨v1, hv1⟩ : ∃ v, v = addV A := ⟨_, rfl⟩
    obtain ⟨e1, he1⟩ : ∃ v, v = addE A := ⟨_, rfl⟩
    obtain ⟨v2, hv2⟩ : ∃ v, v = addV B := ⟨_, rfl⟩
    obtain ⟨e2, he2⟩ : ∃ v, v = addE B := ⟨_, rfl⟩
    rw [← hv1, ← he1] at h1
    rw [← hv2, ← he2] at h2
    have H1 := Lib.hid h1
    have H2 := Lib.hid h2
    have H3 := Lib.hid h3
    clear hv1 he1 hv2 he2 hp1 hp2 h hc h1 h2 h3 hr ha hb
    go_enter Try.func8, Try.ntmps8
    go_wp2_with fail
    refine (H1.out _).mono ?_
    rintro e w1 ⟨rfl, hF⟩
    have F1 := Lib.hid hF
    clear hF
    go_wp2_with fail
    refine (H2.out _).mono ?_
    rintro e w2 ⟨rfl, hF⟩
    have F2 := Lib.hid (F1.out.trans hF)
    clear hF
    go_wp2_with fail
    refine (H3.out _).mono ?_
    rintro e w3 ⟨rfl, hF⟩
    have F3 := Lib.hid (F2.out.trans hF)
    clear hF
    go_wp2_with fail
    refine (shown6_any _).mono ?_
    rintro e w4 ⟨rfl, hF⟩
    have F4 := Lib.hid (F3.out.trans hF)
    clear hF
    go_wp2
    go_ret
    exact ⟨rfl, F4.out⟩
end Go.Proofs.Ytgehajgnakngoaa
