/- 'FrameLeft' over what comes in. -/
import Derived.Test.YtejobioddkhinaaFrameLeft
namespace Go.Proofs.Ytejobioddkhinaa
open Go.RowKit
set_option linter.unusedVariables false
set_option maxRecDepth 100000

theorem left8_walk {v0 : Value} {W : World} (h0 : (∃ (ao : Option Addr) (n cap : Nat) (ss : Nat → List UInt8), v0 = .slice ao n cap ∧ n ≤ maxLen ∧ ∀ i, i < n → ∃ a, ao = some a ∧ W.cell? (a.add i) = some (.string (str (ss i))) ∧ (ss i).length ≤ maxLen)) :
    Calls Try.prog 6 #[v0] W fun e w' => e = .returned (.bool true) ∧ Fr No W w' := by
  obtain ⟨ao, n, cap, ss, rfl, _, hel⟩ := h0
  by_cases hn : n ≤ 40
  · exact left_ok ao n cap ss W hn hel
  · exact left_long ao n cap W (by omega)
end Go.Proofs.Ytejobioddkhinaa
