/- The walk of 'AmountNear'. -/
import Derived.Test.YtgehajgnakngoaaAmL
namespace Go.Proofs.Ytgehajgnakngoaa
open Go.RowKit
set_option linter.unusedVariables false

set_option maxRecDepth 100000 in
set_option maxHeartbeats 1000000 in
theorem near6_walk (b r n : Nat) (W : World) (hb : (b : Int) ≤ 4294967295) (hr : (r : Int) ≤ 4294967295) (hn : (n : Int) ≤ 4294967295) :
    Calls Try.prog 7 #[.int .u32 (b : Int), .int .u32 (r : Int), .int .u32 (n : Int)] W fun e w' => e = .returned (.bool true) ∧ Fr No W w' := by
  have hf := fun X => fee_any b r n X (by omega) (by omega) (by omega)
  have lb := wrapU b (by omega)
  have lr := wrapU r (by omega)
  have ln := wrapU n (by omega)
  have hp2 := Lib.half_mul_le (a := r) (b := n) (by omega) (by omega)
  obtain ⟨p, hp⟩ : ∃ v, v = r * n := ⟨_, rfl⟩
  obtain ⟨q, hq⟩ : ∃ v, v = p / 1000000 := ⟨_, rfl⟩
  obtain ⟨F, hF⟩ : ∃ v, v = b + q := ⟨_, rfl⟩
  have e1 : feeN b r n = F := by rw [feeN, partN, ← hp, ← hq, ← hF]
  rw [e1] at hf
  have s1 : (n : Int) * (r : Int) = (p : Int) := by rw [hp, Int.mul_comm]; exact (Int.natCast_mul _ _).symm
  rw [← hp] at hp2
  clear e1 hp
  by_cases h : F ≤ 1125899906842624
  · rw [addV_le h, addE_le h] at hf
    have HFE := Lib.hid hf
    obtain ⟨s, hs⟩ : ∃ v, v = q * 1000000 := ⟨_, rfl⟩
    obtain ⟨q1, hq1⟩ : ∃ v, v = q + 1 := ⟨_, rfl⟩
    obtain ⟨u, hu⟩ : ∃ v, v = q1 * 1000000 := ⟨_, rfl⟩
    have bp : p < 18446744065119617026 := by omega
    have s2 : (F : Int) - (b : Int) = (q : Int) := by omega
    have l2 := wrapU q (by omega)
    have l3 := wrapU p (by omega)
    have t1 : decide (b ≤ F) = true := decide_eq_true (by omega)
    have s3 : (q : Int) * 1000000 = (s : Int) := by omega
    have l4 := wrapU s (by omega)
    have t2 : decide (s ≤ p) = true := decide_eq_true (by omega)
    have s4 : (q : Int) + 1 = (q1 : Int) := by omega
    have l5 := wrapU q1 (by omega)
    have s5 : (q1 : Int) * 1000000 = (u : Int) := by omega
    have l6 := wrapU u (by omega)
    have t3 : decide (p < u) = true := decide_eq_true (by omega)
    clear bp hu hq1 hs hF hq h hb hr hn hf hp2
    go_enter Try.func7, Try.ntmps7
    go_wp2_with fail
    refine (HFE.out _).mono ?_
    rintro e w1 ⟨rfl, hF⟩
    have F1 := Lib.hid hF
    clear hF
    go_wp2_with fail
    refine (shown6_any _).mono ?_
    rintro e w2 ⟨rfl, hF⟩
    have F2 := Lib.hid (F1.out.trans hF)
    clear hF
    go_wp2
    go_ret
    exact ⟨rfl, F2.out⟩
  · rw [addV_gt (by omega), addE_gt (by omega)] at hf
    have HFE := Lib.hid hf
    clear hF hq h hb hr hn hf hp2
    go_enter Try.func7, Try.ntmps7
    go_wp2_with fail
    refine (HFE.out _).mono ?_
    rintro e w1 ⟨rfl, hF⟩
    have F1 := Lib.hid hF
    clear hF
    go_wp2_with fail
    refine (shown6_any _).mono ?_
    rintro e w2 ⟨rfl, hF⟩
    have F2 := Lib.hid (F1.out.trans hF)
    clear hF
    go_wp2
    go_ret
    exact ⟨rfl, F2.out⟩
end Go.Proofs.Ytgehajgnakngoaa
