/- The walk of 'AmountTells'. -/
import Derived.Test.YtgehajgnakngoaaAmL
import Derived.Test.YtgehajgnakngoaaAmH
namespace Go.Proofs.Ytgehajgnakngoaa
open Go.RowKit
set_option linter.unusedVariables false

set_option maxRecDepth 100000 in
set_option maxHeartbeats 1000000 in
theorem tells6_big (ao : Option Addr) (n cap a b c d : Nat) (w : World) (hn : 100 < n) (hm : n ≤ maxLen) :
    Calls Try.prog 3 #[.slice ao n cap, .int .u64 (a : Int), .int .u64 (b : Int), .int .u64 (c : Int), .int .u64 (d : Int)] w fun e w' => e = .returned (.bool true) ∧ Fr No w w' := by
  unfold maxLen at hm
  have t : decide ((100 : Int) < (n : Int)) = true := decide_eq_true (by omega)
  clear hn hm
  go_enter Try.func3, Try.ntmps3
  go_wp2_with fail
  refine (shown6_any _).mono ?_
  rintro e w1 ⟨rfl, hF⟩
  have HF1 := Lib.hid hF
  clear hF
  go_wp2
  go_ret
  exact ⟨rfl, HF1.out⟩

set_option maxRecDepth 100000 in
set_option maxHeartbeats 2000000 in
theorem tells6_ok (ao : Option Addr) (n cap : Nat) (xs : Nat → Nat) (a b c d : Nat) (w : World) (hn : n ≤ 100) (hx : Nums w ao n xs) (ha : a < 18446744073709551616) (hb : b < 18446744073709551616) (hc : c < 18446744073709551616) (hd : d < 18446744073709551616) :
    Calls Try.prog 3 #[.slice ao n cap, .int .u64 (a : Int), .int .u64 (b : Int), .int .u64 (c : Int), .int .u64 (d : Int)] w fun e w' => e = .returned (.bool true) ∧ Fr No w w' := by
  have hm : n ≤ maxLen := by unfold maxLen; omega
  have h1 := Lib.hid (fun X (h : Fr No w X) => add_any ao n cap xs X hm (hx.fr h (fun _ _ => id)))
  have h2 := Lib.hid (fun X (h : Fr No w X) => radd_any ao n cap xs X hm (hx.fr h (fun _ _ => id)))
  have h3 := Lib.hid (fun X => sub_any a b X ha)
  have h4 := Lib.hid (fun X => rsub_any a b X ha)
  have h5 := Lib.hid (fun X => fee_any a b c X ha hb hc)
  have h6 := Lib.hid (fun X => rfee_any a b c X ha hb hc)
  have h7 := Lib.hid (fun X => enough_any a b c d X ha hb hc hd)
  have h8 := Lib.hid (fun X => renough_any a b c d X ha hb hc hd)
  obtain ⟨v1, hv1⟩ : ∃ v, v = addV (sumN xs n) := ⟨_, rfl⟩
  obtain ⟨e1, he1⟩ : ∃ v, v = addE (sumN xs n) := ⟨_, rfl⟩
  rw [← hv1, ← he1] at h1 h2
  obtain ⟨v3, hv3⟩ : ∃ v, v = subV a b := ⟨_, rfl⟩
  obtain ⟨e3, he3⟩ : ∃ v, v = subE a b := ⟨_, rfl⟩
  rw [← hv3, ← he3] at h3 h4
  obtain ⟨v5, hv5⟩ : ∃ v, v = addV (feeN a b c) := ⟨_, rfl⟩
  obtain ⟨e5, he5⟩ : ∃ v, v = addE (feeN a b c) := ⟨_, rfl⟩
  rw [← hv5, ← he5] at h5 h6
  obtain ⟨y, hy⟩ : ∃ v, v = enough a b c d := ⟨_, rfl⟩
  rw [← hy] at h7 h8
  have t : decide ((100 : Int) < (n : Int)) = false := decide_eq_false (by omega)
  clear hv1 he1 hv3 he3 hv5 he5 hy hm hx hn ha hb hc hd
  go_enter Try.func3, Try.ntmps3
  go_wp2_with fail
  refine (shown6_any _).mono ?_
  rintro e w0 ⟨rfl, hF⟩
  have F0 := Lib.hid hF
  clear hF
  go_wp2_with fail
  refine (h1.out _ F0.out).mono ?_
  rintro e w1 ⟨rfl, hF⟩
  have F1 := Lib.hid (F0.out.trans hF)
  clear hF
  go_wp2_with fail
  refine (h2.out _ F1.out).mono ?_
  rintro e w2 ⟨rfl, hF⟩
  have F2 := Lib.hid (F1.out.trans hF)
  clear hF
  go_wp2_with fail
  refine (h3.out _).mono ?_
  rintro e w3 ⟨rfl, hF⟩
  have F3 := Lib.hid (F2.out.trans hF)
  clear hF
  go_wp2_with fail
  refine (h4.out _).mono ?_
  rintro e w4 ⟨rfl, hF⟩
  have F4 := Lib.hid (F3.out.trans hF)
  clear hF
  go_wp2_with fail
  refine (h5.out _).mono ?_
  rintro e w5 ⟨rfl, hF⟩
  have F5 := Lib.hid (F4.out.trans hF)
  clear hF
  go_wp2_with fail
  refine (h6.out _).mono ?_
  rintro e w6 ⟨rfl, hF⟩
  have F6 := Lib.hid (F5.out.trans hF)
  clear hF
  go_wp2_with fail
  refine (h7.out _).mono ?_
  rintro e w7 ⟨rfl, hF⟩
  have F7 := Lib.hid (F6.out.trans hF)
  clear hF
  go_wp2_with fail
  refine (h8.out _).mono ?_
  rintro e w8 ⟨rfl, hF⟩
  have F8 := Lib.hid (F7.out.trans hF)
  clear hF
  go_wp2
  go_ret
  exact ⟨by simp, F8.out⟩

theorem tells6_walk {v : Value} {W : World} (a b c d : Nat) (hi : ∃ (ao : Option Addr) (n cap : Nat) (xs : Nat → Nat), v = .slice ao n cap ∧ n ≤ maxLen ∧ Nums W ao n xs)
    (ha : (a : Int) ≤ 18446744073709551615) (hb : (b : Int) ≤ 18446744073709551615) (hc : (c : Int) ≤ 18446744073709551615) (hd : (d : Int) ≤ 18446744073709551615) :
    Calls Try.prog 3 #[v, .int .u64 (a : Int), .int .u64 (b : Int), .int .u64 (c : Int), .int .u64 (d : Int)] W fun e w' => e = .returned (.bool true) ∧ Fr No W w' := by
  obtain ⟨ao, n, cap, xs, rfl, hn, hx⟩ := hi
  by_cases h : n ≤ 100
  · exact tells6_ok ao n cap xs a b c d W h hx (by omega) (by omega) (by omega) (by omega)
  · exact tells6_big ao n cap a b c d W (by omega) hn
end Go.Proofs.Ytgehajgnakngoaa
