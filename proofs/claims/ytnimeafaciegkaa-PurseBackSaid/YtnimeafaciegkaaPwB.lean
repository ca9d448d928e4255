/- 'PurseBack' over what comes in. -/
import Derived.Test.YtnimeafaciegkaaPurseBack
import Derived.Test.YtnimeafaciegkaaPwN
namespace Go.Proofs.Ytnimeafaciegkaa
open Go.RowKit
set_option linter.unusedVariables false

theorem back9_walk {v0 : Value} {W : World} (a c N : Nat) (h0 : ∃ (ao : Option Addr) (n cap : Nat) (xs : Nat → Nat), v0 = .slice ao n cap ∧ n ≤ maxLen ∧ Nums W ao n xs) (ha : (a : Int) ≤ 255) (hc : (c : Int) ≤ 255) (hN : (N : Int) ≤ 18446744073709551615) :
    Calls Try.prog 5 #[v0, .int .u8 (a : Int), .int .u8 (c : Int), .int .u64 (N : Int)] W fun e w' => e = .returned (.bool true) ∧ Fr No W w' := by
  obtain ⟨ao, n, cap, xs, rfl, hm, hx⟩ := h0
  obtain ⟨b, hb, hx⟩ := nums_list hx
  cases hy : Ps.newOk b with
  | false => exact back9_bad ao n cap b _ _ _ W hb hm hx hy.symm
  | true => exact back9_ok ao n cap b a c N W hb hm hx (by omega) (by omega) hy.symm (by omega)
end Go.Proofs.Ytnimeafaciegkaa
