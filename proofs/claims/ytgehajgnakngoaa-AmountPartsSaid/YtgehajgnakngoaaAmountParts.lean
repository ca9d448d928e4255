/- The walk of 'AmountParts'. -/
import Derived.Test.YtgehajgnakngoaaAmL
namespace Go.Proofs.Ytgehajgnakngoaa
open Go.RowKit
set_option linter.unusedVariables false

theorem add3_any (a b c V : Nat) (E : Int) (ha : a < 18446744073709551616) (hb : b < 18446744073709551616) (hc : c < 18446744073709551616) (hV : V = addV (a + b + c)) (hE : E = addE (a + b + c)) (X : World) (t : TypeId) :
    Calls Try.prog 10 #[.slice (some ⟨X.heap.size, 0, none⟩) 3 3] (X.alloc (.cells #[.int .u64 (a : Int), .int .u64 (b : Int), .int .u64 (c : Int)] t)) fun e w' => e = .returned (.tuple #[.int .u64 (V : Int), .int .i64 E]) ∧ Fr No X w' := by
  have := add_any (some ⟨X.heap.size, 0, none⟩) 3 3 (three a b c) _ (by decide) (nums3 X t a b c ha hb hc)
  rw [sum_three, ← hV, ← hE] at this
  exact this.mono fun e w' ⟨he, hF⟩ => ⟨he, ((Fr.refl No X).alloc _).trans hF⟩

set_option maxRecDepth 100000 in
set_option maxHeartbeats 1000000 in
theorem parts6_walk (a b c : Nat) (W : World) (ha : (a : Int) ≤ 18446744073709551615) (hb : (b : Int) ≤ 18446744073709551615) (hc : (c : Int) ≤ 18446744073709551615) :
    Calls Try.prog 6 #[.int .u64 (a : Int), .int .u64 (b : Int), .int .u64 (c : Int)] W fun e w' => e = .returned (.bool true) ∧ Fr No W w' := by
  obtain ⟨S, hS⟩ : ∃ v, v = a + b + c := ⟨_, rfl⟩
  by_cases h : S ≤ 1125899906842624
  · have h1 := Lib.hid (fun X t => add3_any a b c S 0 (by omega) (by omega) (by omega) (by rw [← hS, addV_le h]) (by rw [← hS, addE_le h]) X t)
    have h2 := Lib.hid (fun X t => add3_any c a b S 0 (by omega) (by omega) (by omega) (by rw [show c + a + b = S by omega, addV_le h]) (by rw [show c + a + b = S by omega, addE_le h]) X t)
    obtain ⟨d, hd⟩ : ∃ v, v = S - c := ⟨_, rfl⟩
    have h3 : Hid (∀ X, Calls Try.prog 12 #[.int .u64 (S : Int), .int .u64 (c : Int)] X fun e w' => e = .returned (.tuple #[.int .u64 (d : Int), .int .i64 0]) ∧ Fr No X w') := Lib.hid (fun X => by
      have := sub_any S c X (by omega)
      rwa [show subV S c = d by unfold subV; rw [if_neg (by omega), hd], show subE S c = 0 by unfold subE; rw [if_neg (by omega)]] at this)
    have h4 : Hid (∀ X, Calls Try.prog 12 #[.int .u64 (d : Int), .int .u64 (b : Int)] X fun e w' => e = .returned (.tuple #[.int .u64 (a : Int), .int .i64 0]) ∧ Fr No X w') := Lib.hid (fun X => by
      have := sub_any d b X (by omega)
      rwa [show subV d b = a by unfold subV; rw [if_neg (by omega)]; omega, show subE d b = 0 by unfold subE; rw [if_neg (by omega)]] at this)
    have t : decide ((S : Int) ≤ 1125899906842624) = true := decide_eq_true (by omega)
    clear hS h hd ha hb hc
    go_enter Try.func6, Try.ntmps6
    go_wp2_with fail
    refine (h1.out _ _).mono ?_
    rintro e w1 ⟨rfl, hF⟩
    have F1 := Lib.hid hF
    clear hF
    go_wp2_with fail
    refine (h2.out _ _).mono ?_
    rintro e w2 ⟨rfl, hF⟩
    have F2 := Lib.hid (F1.out.trans hF)
    clear hF
    go_wp2_with fail
    refine (shown6_any _).mono ?_
    rintro e w3 ⟨rfl, hF⟩
    have F3 := Lib.hid (F2.out.trans hF)
    clear hF
    go_wp2_with fail
    refine (h3.out _).mono ?_
    rintro e w4 ⟨rfl, hF⟩
    have F4 := Lib.hid (F3.out.trans hF)
    clear hF
    go_wp2_with fail
    refine (h4.out _).mono ?_
    rintro e w5 ⟨rfl, hF⟩
    have F5 := Lib.hid (F4.out.trans hF)
    clear hF
    go_wp2
    go_ret
    exact ⟨rfl, F5.out⟩
  · have h1 := Lib.hid (fun X t => add3_any a b c 0 60 (by omega) (by omega) (by omega) (by rw [← hS, addV_gt (by omega)]) (by rw [← hS, addE_gt (by omega)]) X t)
    have h2 := Lib.hid (fun X t => add3_any c a b 0 60 (by omega) (by omega) (by omega) (by rw [show c + a + b = S by omega, addV_gt (by omega)]) (by rw [show c + a + b = S by omega, addE_gt (by omega)]) X t)
    clear hS h ha hb hc
    go_enter Try.func6, Try.ntmps6
    go_wp2_with fail
    refine (h1.out _ _).mono ?_
    rintro e w1 ⟨rfl, hF⟩
    have F1 := Lib.hid hF
    clear hF
    go_wp2_with fail
    refine (h2.out _ _).mono ?_
    rintro e w2 ⟨rfl, hF⟩
    have F2 := Lib.hid (F1.out.trans hF)
    clear hF
    go_wp2_with fail
    refine (shown6_any _).mono ?_
    rintro e w3 ⟨rfl, hF⟩
    have F3 := Lib.hid (F2.out.trans hF)
    clear hF
    go_wp2
    go_ret
    exact ⟨rfl, F3.out⟩
end Go.Proofs.Ytgehajgnakngoaa
