/- 'FrameParts' over what comes in. -/
import Derived.Test.YtejobioddkhinaaFrameParts
namespace Go.Proofs.Ytejobioddkhinaa
open Go.RowKit
set_option linter.unusedVariables false
set_option maxRecDepth 100000

theorem parts8_walk {v0 v1 : Value} {W : World} (h0 : (∃ (ao : Option Addr) (n cap : Nat) (ss : Nat → List UInt8), v0 = .slice ao n cap ∧ n ≤ maxLen ∧ ∀ i, i < n → ∃ a, ao = some a ∧ W.cell? (a.add i) = some (.string (str (ss i))) ∧ (ss i).length ≤ maxLen)) (h1 : (∃ (ao : Option Addr) (n cap : Nat) (xs : Nat → Nat), v1 = .slice ao n cap ∧ n ≤ maxLen ∧ ∀ i, i < n → ∃ a, ao = some a ∧ W.cell? (a.add i) = some (.int .u8 (xs i : Int)) ∧ xs i < 256)) :
    Calls Try.prog 4 #[v0, v1] W fun e w' => e = .returned (.bool true) ∧ Fr No W w' := by
  obtain ⟨ao, n, cap, ss, rfl, _, hel⟩ := h0
  obtain ⟨bo, m, cap2, xs, rfl, _, hxl⟩ := h1
  exact frame_parts ao bo n cap m cap2 ss xs W hel hxl
end Go.Proofs.Ytejobioddkhinaa
