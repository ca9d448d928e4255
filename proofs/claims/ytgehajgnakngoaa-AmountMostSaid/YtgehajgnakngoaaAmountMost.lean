/- The walk of 'AmountMost'. -/
import Derived.Test.YtgehajgnakngoaaAmL
import Derived.Test.YtgehajgnakngoaaAmH
import Derived.Test.YtgehajgnakngoaaAmW
namespace Go.Proofs.Ytgehajgnakngoaa
open Go.RowKit
set_option linter.unusedVariables false

set_option maxRecDepth 100000 in
set_option maxHeartbeats 1000000 in
theorem most6_none (i b r : Nat) (w : World) (hi : i < 18446744073709551616) (hb : b < 18446744073709551616) (hr : r < 18446744073709551616) (h0 : enough i 0 b r = false) :
    Calls Try.prog 4 #[.int .u64 (i : Int), .int .u64 (b : Int), .int .u64 (r : Int)] w fun e w' => e = .returned (.bool true) ∧ Fr No w w' := by
  have h1 := Lib.hid (fun X => most_any i b r X hi hb hr)
  have h2 := Lib.hid (fun X => renough_any i 0 b r X hi (by decide) hb hr)
  rw [h0] at h2
  have H0 := Lib.hid h0
  clear hi hb hr h0
  go_enter Try.func4, Try.ntmps4
  go_wp2_with fail
  refine (h1.out _).mono ?_
  rintro e w1 ⟨⟨m, rfl, hm⟩, hF⟩
  obtain rfl := hm.none H0.out
  have F1 := Lib.hid hF
  clear hF hm
  go_wp2_with fail
  refine (shown6_any _).mono ?_
  rintro e w2 ⟨rfl, hF⟩
  have F2 := Lib.hid (F1.out.trans hF)
  clear hF
  go_wp2_with fail
  refine (h2.out _).mono ?_
  rintro e w3 ⟨rfl, hF⟩
  have F3 := Lib.hid (F2.out.trans hF)
  clear hF
  go_wp2_with fail
  refine (shown6_any _).mono ?_
  rintro e w4 ⟨rfl, hF⟩
  have F4 := Lib.hid (F3.out.trans hF)
  clear hF
  go_wp2
  go_ret
  exact ⟨rfl, F4.out⟩

set_option maxRecDepth 100000 in
set_option maxHeartbeats 1000000 in
theorem most6_some (i b r : Nat) (w : World) (hi : i < 18446744073709551616) (hb : b < 18446744073709551616) (hr : r < 18446744073709551616) (h0 : enough i 0 b r = true) :
    Calls Try.prog 4 #[.int .u64 (i : Int), .int .u64 (b : Int), .int .u64 (r : Int)] w fun e w' => e = .returned (.bool true) ∧ Fr No w w' := by
  have h1 := Lib.hid (fun X => most_any i b r X hi hb hr)
  have h2 := Lib.hid (fun X => renough_any i 0 b r X hi (by decide) hb hr)
  rw [h0] at h2
  have H0 := Lib.hid h0
  have HI := Lib.hid hi
  have HB := Lib.hid hb
  have HR := Lib.hid hr
  clear hi hb hr h0
  go_enter Try.func4, Try.ntmps4
  go_wp2_with fail
  refine (h1.out _).mono ?_
  rintro e w1 ⟨⟨m, rfl, hm⟩, hF⟩
  have F1 := Lib.hid hF
  have hlt := hm.lt HI.out
  have h3 := Lib.hid (fun X => renough_any i m b r X HI.out hlt HB.out HR.out)
  have h4 := Lib.hid (fun X => enough_any i m b r X HI.out hlt HB.out HR.out)
  rw [hm.some H0.out] at h3 h4
  clear hF
  go_wp2_with fail
  refine (shown6_any _).mono ?_
  rintro e w2 ⟨rfl, hF⟩
  have F2 := Lib.hid (F1.out.trans hF)
  clear hF
  go_wp2_with fail
  refine (h2.out _).mono ?_
  rintro e w3 ⟨rfl, hF⟩
  have F3 := Lib.hid (F2.out.trans hF)
  clear hF
  go_wp2_with fail
  refine (h3.out _).mono ?_
  rintro e w4 ⟨rfl, hF⟩
  have F4 := Lib.hid (F3.out.trans hF)
  clear hF
  by_cases hx : m = 18446744073709551615
  · subst hx
    clear hm hlt
    go_wp2_with fail
    refine (h4.out _).mono ?_
    rintro e w5 ⟨rfl, hF⟩
    have F5 := Lib.hid (F4.out.trans hF)
    clear hF
    go_wp2
    go_ret
    exact ⟨rfl, F5.out⟩
  · have t : ((m : Int) == 18446744073709551615) = false := by
      rw [beq_eq_false_iff_ne]
      omega
    obtain ⟨m1, hm1⟩ : ∃ v, v = m + 1 := ⟨_, rfl⟩
    have h5 := Lib.hid (fun X => renough_any i m1 b r X HI.out (by omega) HB.out HR.out)
    rw [hm.no m1 (by omega)] at h5
    have s1 : (m : Int) + 1 = (m1 : Int) := by omega
    have l1 := wrapU m1 (by omega)
    clear hm hlt hx hm1
    go_wp2_with fail
    refine (h5.out _).mono ?_
    rintro e w5 ⟨rfl, hF⟩
    have F5 := Lib.hid (F4.out.trans hF)
    clear hF
    go_wp2_with fail
    refine (h4.out _).mono ?_
    rintro e w6 ⟨rfl, hF⟩
    have F6 := Lib.hid (F5.out.trans hF)
    clear hF
    go_wp2
    go_ret
    exact ⟨rfl, F6.out⟩

theorem most6_walk (i b r : Nat) (W : World) (hi : (i : Int) ≤ 18446744073709551615) (hb : (b : Int) ≤ 18446744073709551615) (hr : (r : Int) ≤ 18446744073709551615) :
    Calls Try.prog 4 #[.int .u64 (i : Int), .int .u64 (b : Int), .int .u64 (r : Int)] W fun e w' => e = .returned (.bool true) ∧ Fr No W w' := by
  cases h : enough i 0 b r with
  | false => exact most6_none i b r W (by omega) (by omega) (by omega) h
  | true => exact most6_some i b r W (by omega) (by omega) (by omega) h
end Go.Proofs.Ytgehajgnakngoaa
