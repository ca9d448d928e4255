/- 'ShardOver' over what comes in. -/
import Derived.Test.YtpmmfbbppnbhbaaShardOver
namespace Go.Proofs.Ytpmmfbbppnbhbaa
open Go.RowKit
set_option linter.unusedVariables false

theorem over10_walk {v0 v1 v2 : Value} {W : World} (h0 : ∃ (ao : Option Addr) (n cap : Nat) (xs : Nat → Nat), v0 = .slice ao n cap ∧ n ≤ maxLen ∧ Nums W ao n xs) (h1 : ∃ (ao : Option Addr) (n cap : Nat) (xs : Nat → A9), v1 = .slice ao n cap ∧ n ≤ maxLen ∧ Acts W ao n xs)
    (h2 : ∃ (ao : Option Addr) (n cap : Nat) (xs : Nat → A9), v2 = .slice ao n cap ∧ n ≤ maxLen ∧ Acts W ao n xs) :
    Calls Try.prog 9 #[v0, v1, v2] W fun e w' => e = .returned (.bool true) ∧ Fr No W w' := by
  obtain ⟨ao, n, cap, xs, rfl, _, hx⟩ := h0
  obtain ⟨bo, m, cap2, ys, rfl, _, ha⟩ := h1
  obtain ⟨co, mm, cap3, zs, rfl, _, hc⟩ := h2
  by_cases hn : n ≤ 40
  · by_cases hm : m ≤ 150
    · by_cases hmm : mm ≤ 50
      · obtain ⟨b, hb, hx⟩ := nums_list hx
        cases hy : Ps.newOk b with
        | false => exact over_bad ao bo n cap m cap2 b ys co mm cap3 hmm W hn hm hb hx ha hy.symm
        | true => exact over_ok ao bo n cap m cap2 b ys co mm cap3 hmm zs W hn hm hb hx ha hc hy.symm
      · exact over_long3 ao bo n cap m cap2 co mm cap3 W hn hm (by omega)
    · exact over_long2 ao bo n cap m cap2 _ W hn (by omega)
  · exact over_long ao n cap _ _ W (by omega)
end Go.Proofs.Ytpmmfbbppnbhbaa
