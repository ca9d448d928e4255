/- 'ShardActs' over what comes in. -/
import Derived.Test.YtldcglmpnildiaaShardActs
namespace Go.Proofs.Ytldcglmpnildiaa
open Go.RowKit
set_option linter.unusedVariables false

theorem acts10_walk {v0 v1 : Value} {W : World} (h0 : ∃ (ao : Option Addr) (n cap : Nat) (xs : Nat → Nat), v0 = .slice ao n cap ∧ n ≤ maxLen ∧ Nums W ao n xs) (h1 : ∃ (ao : Option Addr) (n cap : Nat) (xs : Nat → A9), v1 = .slice ao n cap ∧ n ≤ maxLen ∧ Acts W ao n xs) :
    Calls Try.prog 3 #[v0, v1] W fun e w' => e = .returned (.bool true) ∧ Fr No W w' := by
  obtain ⟨ao, n, cap, xs, rfl, _, hx⟩ := h0
  obtain ⟨bo, m, cap2, ys, rfl, _, ha⟩ := h1
  by_cases hn : n ≤ 40
  · by_cases hm : m ≤ 200
    · obtain ⟨b, hb, hx⟩ := nums_list hx
      cases hy : Ps.newOk b with
      | false => exact acts_bad ao bo n cap m cap2 b ys W hn hm hb hx ha hy.symm
      | true => exact acts_ok ao bo n cap m cap2 b ys W hn hm hb hx ha hy.symm
    · exact acts_long2 ao bo n cap m cap2 W hn (by omega)
  · exact acts_long ao n cap _ W (by omega)
end Go.Proofs.Ytldcglmpnildiaa
