/- The walk of 'AmountRises'. -/
import Derived.Test.YtgehajgnakngoaaAmL
namespace Go.Proofs.Ytgehajgnakngoaa
open Go.RowKit
set_option linter.unusedVariables false

set_option maxRecDepth 100000 in
set_option maxHeartbeats 2000000 in
theorem rises6_lt (i o l b r : Nat) (W : World) (hi : i < 18446744073709551616) (ho : o < 18446744073709551616) (hl : l < 18446744073709551616) (hb : b < 18446744073709551616) (hr : r < 18446744073709551616) (h : l < o) :
    Calls Try.prog 5 #[.int .u64 (i : Int), .int .u64 (o : Int), .int .u64 (l : Int), .int .u64 (b : Int), .int .u64 (r : Int)] W fun e w' => e = .returned (.bool true) ∧ Fr No W w' := by
  have q1 : l < o := h
  have q2 : ¬ o < l := by omega
  have hm := feeN_mono b r (n := l) (m := o) (by omega)
  have h1 := fun X => fee_any b r l X hb hr (by omega)
  have h2 := fun X => fee_any b r o X hb hr (by omega)
  have h3 := fun X => enough_any i o b r X hi (by omega) hb hr
  have h4 := fun X => enough_any i l b r X hi (by omega) hb hr
  have hy : enough i o b r = true → enough i l b r = true := enough_less (by omega)
  obtain ⟨A, hA⟩ : ∃ v, v = feeN b r l := ⟨_, rfl⟩
  obtain ⟨B, hB⟩ : ∃ v, v = feeN b r o := ⟨_, rfl⟩
  obtain ⟨y1, hy1⟩ : ∃ v, v = enough i l b r := ⟨_, rfl⟩
  obtain ⟨y2, hy2⟩ : ∃ v, v = enough i o b r := ⟨_, rfl⟩
  rw [← hA] at h1 hm
  rw [← hB] at h2 hm
  rw [← hy2] at h3 hy
  rw [← hy1] at h4 hy
  clear hA hB hy1 hy2 hi ho hl hb hr h
  by_cases hM : B ≤ 1125899906842624
  · rw [addV_le hM, addE_le hM] at h2
    rw [addV_le (by omega), addE_le (by omega)] at h1
    have t : decide (B < A) = false := decide_eq_false (by omega)
    have H1 := Lib.hid h1
    have H2 := Lib.hid h2
    clear h1 h2 hm hM
    cases y2 with
    | true =>
      rw [hy rfl] at h4
      have H3 := Lib.hid h3
      have H4 := Lib.hid h4
      clear h3 h4 hy
      go_enter Try.func5, Try.ntmps5
      go_wp2_with fail
      refine (H1.out _).mono ?_
      rintro e w1 ⟨rfl, hF⟩
      have F1 := Lib.hid hF
      clear hF
      go_wp2_with fail
      refine (H2.out _).mono ?_
      rintro e w2 ⟨rfl, hF⟩
      have F2 := Lib.hid (F1.out.trans hF)
      clear hF
      go_wp2_with fail
      refine (H3.out _).mono ?_
      rintro e w3 ⟨rfl, hF⟩
      have F3 := Lib.hid (F2.out.trans hF)
      clear hF
      go_wp2_with fail
      refine (H4.out _).mono ?_
      rintro e w4 ⟨rfl, hF⟩
      have F4 := Lib.hid (F3.out.trans hF)
      clear hF
      go_wp2_with fail
      refine (shown6_any _).mono ?_
      rintro e w5 ⟨rfl, hF⟩
      have F5 := Lib.hid (F4.out.trans hF)
      clear hF
      go_wp2
      go_ret
      exact ⟨rfl, F5.out⟩
    | false =>
      have H3 := Lib.hid h3
      clear h3 h4 hy
      go_enter Try.func5, Try.ntmps5
      go_wp2_with fail
      refine (H1.out _).mono ?_
      rintro e w1 ⟨rfl, hF⟩
      have F1 := Lib.hid hF
      clear hF
      go_wp2_with fail
      refine (H2.out _).mono ?_
      rintro e w2 ⟨rfl, hF⟩
      have F2 := Lib.hid (F1.out.trans hF)
      clear hF
      go_wp2_with fail
      refine (H3.out _).mono ?_
      rintro e w3 ⟨rfl, hF⟩
      have F3 := Lib.hid (F2.out.trans hF)
      clear hF
      go_wp2_with fail
      refine (shown6_any _).mono ?_
      rintro e w4 ⟨rfl, hF⟩
      have F4 := Lib.hid (F3.out.trans hF)
      clear hF
      go_wp2
      go_ret
      exact ⟨rfl, F4.out⟩
  · rw [addV_gt (by omega), addE_gt (by omega)] at h2
    obtain ⟨v1, hv1⟩ : ∃ v, v = addV A := ⟨_, rfl⟩
    obtain ⟨e1, he1⟩ : ∃ v, v = addE A := ⟨_, rfl⟩
    rw [← hv1, ← he1] at h1
    have H1 := Lib.hid h1
    have H2 := Lib.hid h2
    clear h1 h2 hm hM hv1 he1
    cases y2 with
    | true =>
      rw [hy rfl] at h4
      have H3 := Lib.hid h3
      have H4 := Lib.hid h4
      clear h3 h4 hy
      go_enter Try.func5, Try.ntmps5
      go_wp2_with fail
      refine (H1.out _).mono ?_
      rintro e w1 ⟨rfl, hF⟩
      have F1 := Lib.hid hF
      clear hF
      go_wp2_with fail
      refine (H2.out _).mono ?_
      rintro e w2 ⟨rfl, hF⟩
      have F2 := Lib.hid (F1.out.trans hF)
      clear hF
      go_wp2_with fail
      refine (H3.out _).mono ?_
      rintro e w3 ⟨rfl, hF⟩
      have F3 := Lib.hid (F2.out.trans hF)
      clear hF
      go_wp2_with fail
      refine (H4.out _).mono ?_
      rintro e w4 ⟨rfl, hF⟩
      have F4 := Lib.hid (F3.out.trans hF)
      clear hF
      go_wp2_with fail
      refine (shown6_any _).mono ?_
      rintro e w5 ⟨rfl, hF⟩
      have F5 := Lib.hid (F4.out.trans hF)
      clear hF
      go_wp2
      go_ret
      exact ⟨rfl, F5.out⟩
    | false =>
      have H3 := Lib.hid h3
      clear h3 h4 hy
      go_enter Try.func5, Try.ntmps5
      go_wp2_with fail
      refine (H1.out _).mono ?_
      rintro e w1 ⟨rfl, hF⟩
      have F1 := Lib.hid hF
      clear hF
      go_wp2_with fail
      refine (H2.out _).mono ?_
      rintro e w2 ⟨rfl, hF⟩
      have F2 := Lib.hid (F1.out.trans hF)
      clear hF
      go_wp2_with fail
      refine (H3.out _).mono ?_
      rintro e w3 ⟨rfl, hF⟩
      have F3 := Lib.hid (F2.out.trans hF)
      clear hF
      go_wp2_with fail
      refine (shown6_any _).mono ?_
      rintro e w4 ⟨rfl, hF⟩
      have F4 := Lib.hid (F3.out.trans hF)
      clear hF
      go_wp2
      go_ret
      exact ⟨rfl, F4.out⟩

set_option maxRecDepth 100000 in
set_option maxHeartbeats 2000000 in
theorem rises6_gt (i o l b r : Nat) (W : World) (hi : i < 18446744073709551616) (ho : o < 18446744073709551616) (hl : l < 18446744073709551616) (hb : b < 18446744073709551616) (hr : r < 18446744073709551616) (h : o < l) :
    Calls Try.prog 5 #[.int .u64 (i : Int), .int .u64 (o : Int), .int .u64 (l : Int), .int .u64 (b : Int), .int .u64 (r : Int)] W fun e w' => e = .returned (.bool true) ∧ Fr No W w' := by
  have q1 : o < l := h
  have q2 : ¬ l < o := by omega
  have hm := feeN_mono b r (n := o) (m := l) (by omega)
  have h1 := fun X => fee_any b r o X hb hr (by omega)
  have h2 := fun X => fee_any b r l X hb hr (by omega)
  have h3 := fun X => enough_any i l b r X hi (by omega) hb hr
  have h4 := fun X => enough_any i o b r X hi (by omega) hb hr
  have hy : enough i l b r = true → enough i o b r = true := enough_less (by omega)
  obtain ⟨A, hA⟩ : ∃ v, v = feeN b r o := ⟨_, rfl⟩
  obtain ⟨B, hB⟩ : ∃ v, v = feeN b r l := ⟨_, rfl⟩
  obtain ⟨y1, hy1⟩ : ∃ v, v = enough i o b r := ⟨_, rfl⟩
  obtain ⟨y2, hy2⟩ : ∃ v, v = enough i l b r := ⟨_, rfl⟩
  rw [← hA] at h1 hm
  rw [← hB] at h2 hm
  rw [← hy2] at h3 hy
  rw [← hy1] at h4 hy
  clear hA hB hy1 hy2 hi ho hl hb hr h
  by_cases hM : B ≤ 1125899906842624
  · rw [addV_le hM, addE_le hM] at h2
    rw [addV_le (by omega), addE_le (by omega)] at h1
    have t : decide (B < A) = false := decide_eq_false (by omega)
    have H1 := Lib.hid h1
    have H2 := Lib.hid h2
    clear h1 h2 hm hM
    cases y2 with
    | true =>
      rw [hy rfl] at h4
      have H3 := Lib.hid h3
      have H4 := Lib.hid h4
      clear h3 h4 hy
      go_enter Try.func5, Try.ntmps5
      go_wp2_with fail
      refine (H1.out _).mono ?_
      rintro e w1 ⟨rfl, hF⟩
      have F1 := Lib.hid hF
      clear hF
      go_wp2_with fail
      refine (H2.out _).mono ?_
      rintro e w2 ⟨rfl, hF⟩
      have F2 := Lib.hid (F1.out.trans hF)
      clear hF
      go_wp2_with fail
      refine (H3.out _).mono ?_
      rintro e w3 ⟨rfl, hF⟩
      have F3 := Lib.hid (F2.out.trans hF)
      clear hF
      go_wp2_with fail
      refine (H4.out _).mono ?_
      rintro e w4 ⟨rfl, hF⟩
      have F4 := Lib.hid (F3.out.trans hF)
      clear hF
      go_wp2_with fail
      refine (shown6_any _).mono ?_
      rintro e w5 ⟨rfl, hF⟩
      have F5 := Lib.hid (F4.out.trans hF)
      clear hF
      go_wp2
      go_ret
      exact ⟨rfl, F5.out⟩
    | false =>
      have H3 := Lib.hid h3
      clear h3 h4 hy
      go_enter Try.func5, Try.ntmps5
      go_wp2_with fail
      refine (H1.out _).mono ?_
      rintro e w1 ⟨rfl, hF⟩
      have F1 := Lib.hid hF
      clear hF
      go_wp2_with fail
      refine (H2.out _).mono ?_
      rintro e w2 ⟨rfl, hF⟩
      have F2 := Lib.hid (F1.out.trans hF)
      clear hF
      go_wp2_with fail
      refine (H3.out _).mono ?_
      rintro e w3 ⟨rfl, hF⟩
      have F3 := Lib.hid (F2.out.trans hF)
      clear hF
      go_wp2_with fail
      refine (shown6_any _).mono ?_
      rintro e w4 ⟨rfl, hF⟩
      have F4 := Lib.hid (F3.out.trans hF)
      clear hF
      go_wp2
      go_ret
      exact ⟨rfl, F4.out⟩
  · rw [addV_gt (by omega), addE_gt (by omega)] at h2
    obtain ⟨v1, hv1⟩ : ∃ v, v = addV A := ⟨_, rfl⟩
    obtain ⟨e1, he1⟩ : ∃ v, v = addE A := ⟨_, rfl⟩
    rw [← hv1, ← he1] at h1
    have H1 := Lib.hid h1
    have H2 := Lib.hid h2
    clear h1 h2 hm hM hv1 he1
    cases y2 with
    | true =>
      rw [hy rfl] at h4
      have H3 := Lib.hid h3
      have H4 := Lib.hid h4
      clear h3 h4 hy
      go_enter Try.func5, Try.ntmps5
      go_wp2_with fail
      refine (H1.out _).mono ?_
      rintro e w1 ⟨rfl, hF⟩
      have F1 := Lib.hid hF
      clear hF
      go_wp2_with fail
      refine (H2.out _).mono ?_
      rintro e w2 ⟨rfl, hF⟩
      have F2 := Lib.hid (F1.out.trans hF)
      clear hF
      go_wp2_with fail
      refine (H3.out _).mono ?_
      rintro e w3 ⟨rfl, hF⟩
      have F3 := Lib.hid (F2.out.trans hF)
      clear hF
      go_wp2_with fail
      refine (H4.out _).mono ?_
      rintro e w4 ⟨rfl, hF⟩
      have F4 := Lib.hid (F3.out.trans hF)
      clear hF
      go_wp2_with fail
      refine (shown6_any _).mono ?_
      rintro e w5 ⟨rfl, hF⟩
      have F5 := Lib.hid (F4.out.trans hF)
      clear hF
      go_wp2
      go_ret
      exact ⟨rfl, F5.out⟩
    | false =>
      have H3 := Lib.hid h3
      clear h3 h4 hy
      go_enter Try.func5, Try.ntmps5
      go_wp2_with fail
      refine (H1.out _).mono ?_
      rintro e w1 ⟨rfl, hF⟩
      have F1 := Lib.hid hF
      clear hF
      go_wp2_with fail
      refine (H2.out _).mono ?_
      rintro e w2 ⟨rfl, hF⟩
      have F2 := Lib.hid (F1.out.trans hF)
      clear hF
      go_wp2_with fail
      refine (H3.out _).mono ?_
      rintro e w3 ⟨rfl, hF⟩
      have F3 := Lib.hid (F2.out.trans hF)
      clear hF
      go_wp2_with fail
      refine (shown6_any _).mono ?_
      rintro e w4 ⟨rfl, hF⟩
      have F4 := Lib.hid (F3.out.trans hF)
      clear hF
      go_wp2
      go_ret
      exact ⟨rfl, F4.out⟩

set_option maxRecDepth 100000 in
set_option maxHeartbeats 2000000 in
theorem rises6_eq (i o l b r : Nat) (W : World) (hi : i < 18446744073709551616) (ho : o < 18446744073709551616) (hl : l < 18446744073709551616) (hb : b < 18446744073709551616) (hr : r < 18446744073709551616) (h : l = o) :
    Calls Try.prog 5 #[.int .u64 (i : Int), .int .u64 (o : Int), .int .u64 (l : Int), .int .u64 (b : Int), .int .u64 (r : Int)] W fun e w' => e = .returned (.bool true) ∧ Fr No W w' := by
  subst h
  have q1 : ¬ l < l := Nat.lt_irrefl _
  have hm := feeN_mono b r (n := l) (m := l) (by omega)
  have h1 := fun X => fee_any b r l X hb hr (by omega)
  have h2 := fun X => fee_any b r l X hb hr (by omega)
  have h3 := fun X => enough_any i l b r X hi (by omega) hb hr
  have h4 := fun X => enough_any i l b r X hi (by omega) hb hr
  have hy : enough i l b r = true → enough i l b r = true := enough_less (by omega)
  obtain ⟨A, hA⟩ : ∃ v, v = feeN b r l := ⟨_, rfl⟩
  obtain ⟨B, hB⟩ : ∃ v, v = A := ⟨_, rfl⟩
  obtain ⟨y1, hy1⟩ : ∃ v, v = enough i l b r := ⟨_, rfl⟩
  obtain ⟨y2, hy2⟩ : ∃ v, v = y1 := ⟨_, rfl⟩
  rw [← hA] at h1 h2 hm
  rw [← hy1] at h3 h4 hy
  have k2 : Hid (A = B) := Lib.hid hB.symm
  rw [← hB] at h2
  rw [← hy2] at h3
  have hm : A ≤ B := by omega
  have hy : y2 = true → y1 = true := fun g => by rw [← hy2]; exact g
  clear hA hB hy1 hy2 hi ho hl hb hr
  by_cases hM : B ≤ 1125899906842624
  · rw [addV_le hM, addE_le hM] at h2
    rw [addV_le (by omega), addE_le (by omega)] at h1
    have t : decide (B < A) = false := decide_eq_false (by omega)
    have H1 := Lib.hid h1
    have H2 := Lib.hid h2
    clear h1 h2 hm hM
    cases y2 with
    | true =>
      rw [hy rfl] at h4
      have H3 := Lib.hid h3
      have H4 := Lib.hid h4
      clear h3 h4 hy
      go_enter Try.func5, Try.ntmps5
      go_wp2_with fail
      refine (H1.out _).mono ?_
      rintro e w1 ⟨rfl, hF⟩
      have F1 := Lib.hid hF
      clear hF
      go_wp2_with fail
      refine (H2.out _).mono ?_
      rintro e w2 ⟨rfl, hF⟩
      have F2 := Lib.hid (F1.out.trans hF)
      clear hF
      go_wp2_with fail
      refine (H3.out _).mono ?_
      rintro e w3 ⟨rfl, hF⟩
      have F3 := Lib.hid (F2.out.trans hF)
      clear hF
      go_wp2_with fail
      refine (H4.out _).mono ?_
      rintro e w4 ⟨rfl, hF⟩
      have F4 := Lib.hid (F3.out.trans hF)
      clear hF
      go_wp2_with fail
      refine (shown6_any _).mono ?_
      rintro e w5 ⟨rfl, hF⟩
      have F5 := Lib.hid (F4.out.trans hF)
      clear hF
      go_wp2
      go_ret
      exact ⟨rfl, F5.out⟩
    | false =>
      have H3 := Lib.hid h3
      clear h3 h4 hy
      go_enter Try.func5, Try.ntmps5
      go_wp2_with fail
      refine (H1.out _).mono ?_
      rintro e w1 ⟨rfl, hF⟩
      have F1 := Lib.hid hF
      clear hF
      go_wp2_with fail
      refine (H2.out _).mono ?_
      rintro e w2 ⟨rfl, hF⟩
      have F2 := Lib.hid (F1.out.trans hF)
      clear hF
      go_wp2_with fail
      refine (H3.out _).mono ?_
      rintro e w3 ⟨rfl, hF⟩
      have F3 := Lib.hid (F2.out.trans hF)
      clear hF
      go_wp2_with fail
      refine (shown6_any _).mono ?_
      rintro e w4 ⟨rfl, hF⟩
      have F4 := Lib.hid (F3.out.trans hF)
      clear hF
      go_wp2
      go_ret
      exact ⟨rfl, F4.out⟩
  · rw [addV_gt (by omega), addE_gt (by omega)] at h2
    obtain ⟨v1, hv1⟩ : ∃ v, v = addV A := ⟨_, rfl⟩
    obtain ⟨e1, he1⟩ : ∃ v, v = addE A := ⟨_, rfl⟩
    rw [← hv1, ← he1] at h1
    have H1 := Lib.hid h1
    have H2 := Lib.hid h2
    clear h1 h2 hm hM hv1 he1
    cases y2 with
    | true =>
      rw [hy rfl] at h4
      have H3 := Lib.hid h3
      have H4 := Lib.hid h4
      clear h3 h4 hy
      go_enter Try.func5, Try.ntmps5
      go_wp2_with fail
      refine (H1.out _).mono ?_
      rintro e w1 ⟨rfl, hF⟩
      have F1 := Lib.hid hF
      clear hF
      go_wp2_with fail
      refine (H2.out _).mono ?_
      rintro e w2 ⟨rfl, hF⟩
      have F2 := Lib.hid (F1.out.trans hF)
      clear hF
      go_wp2_with fail
      refine (H3.out _).mono ?_
      rintro e w3 ⟨rfl, hF⟩
      have F3 := Lib.hid (F2.out.trans hF)
      clear hF
      go_wp2_with fail
      refine (H4.out _).mono ?_
      rintro e w4 ⟨rfl, hF⟩
      have F4 := Lib.hid (F3.out.trans hF)
      clear hF
      go_wp2_with fail
      refine (shown6_any _).mono ?_
      rintro e w5 ⟨rfl, hF⟩
      have F5 := Lib.hid (F4.out.trans hF)
      clear hF
      go_wp2
      go_ret
      exact ⟨rfl, F5.out⟩
    | false =>
      have H3 := Lib.hid h3
      clear h3 h4 hy
      go_enter Try.func5, Try.ntmps5
      go_wp2_with fail
      refine (H1.out _).mono ?_
      rintro e w1 ⟨rfl, hF⟩
      have F1 := Lib.hid hF
      clear hF
      go_wp2_with fail
      refine (H2.out _).mono ?_
      rintro e w2 ⟨rfl, hF⟩
      have F2 := Lib.hid (F1.out.trans hF)
      clear hF
      go_wp2_with fail
      refine (H3.out _).mono ?_
      rintro e w3 ⟨rfl, hF⟩
      have F3 := Lib.hid (F2.out.trans hF)
      clear hF
      go_wp2_with fail
      refine (shown6_any _).mono ?_
      rintro e w4 ⟨rfl, hF⟩
      have F4 := Lib.hid (F3.out.trans hF)
      clear hF
      go_wp2
      go_ret
      exact ⟨rfl, F4.out⟩

theorem rises6_walk (i o l b r : Nat) (W : World) (hi : (i : Int) ≤ 18446744073709551615) (ho : (o : Int) ≤ 18446744073709551615) (hl : (l : Int) ≤ 18446744073709551615) (hb : (b : Int) ≤ 18446744073709551615) (hr : (r : Int) ≤ 18446744073709551615) :
    Calls Try.prog 5 #[.int .u64 (i : Int), .int .u64 (o : Int), .int .u64 (l : Int), .int .u64 (b : Int), .int .u64 (r : Int)] W fun e w' => e = .returned (.bool true) ∧ Fr No W w' := by
  rcases Nat.lt_trichotomy l o with h | h | h
  · exact rises6_lt i o l b r W (by omega) (by omega) (by omega) (by omega) (by omega) h
  · exact rises6_eq i o l b r W (by omega) (by omega) (by omega) (by omega) (by omega) h
  · exact rises6_gt i o l b r W (by omega) (by omega) (by omega) (by omega) (by omega) h
end Go.Proofs.Ytgehajgnakngoaa
