/- 'ShardLocks' over what comes in. -/
import Derived.Test.YtpmmfbbppnbhbaaShardLocks
namespace Go.Proofs.Ytpmmfbbppnbhbaa
open Go.RowKit
set_option linter.unusedVariables false

theorem locks10_walk {v0 v1 : Value} {ci : Nat} {W : World} (h0 : ∃ (ao : Option Addr) (n cap : Nat) (xs : Nat → Nat), v0 = .slice ao n cap ∧ n ≤ maxLen ∧ Nums W ao n xs) (h1 : ∃ (ao : Option Addr) (n cap : Nat) (xs : Nat → A9), v1 = .slice ao n cap ∧ n ≤ maxLen ∧ Acts W ao n xs) (hc : (ci : Int) ≤ 255) :
    Calls Try.prog 8 #[v0, v1, .int .u8 (ci : Int)] W fun e w' => e = .returned (.bool true) ∧ Fr No W w' := by
  obtain ⟨ao, n, cap, xs, rfl, _, hx⟩ := h0
  obtain ⟨bo, m, cap2, ys, rfl, _, ha⟩ := h1
  by_cases hn : n ≤ 40
  · by_cases hm : m ≤ 200
    · obtain ⟨b, hb, hx⟩ := nums_list hx
      cases hy : Ps.newOk b with
      | false => exact locks_bad ao bo n cap m cap2 b ys ci W hn hm hb hx ha hy.symm
      | true => exact locks_ok ao bo n cap m cap2 b ys ci (by omega) W hn hm hb hx ha hy.symm
    · exact locks_long2 ao bo n cap m cap2 ci W hn (by omega)
  · exact locks_long ao n cap _ ci W (by omega)
end Go.Proofs.Ytpmmfbbppnbhbaa
