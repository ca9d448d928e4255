/- A slice of numbers that comes in, as a list. -/
import Derived.Test.YtnimeafaciegkaaPuL
import Derived.Test.YtnimeafaciegkaaAmO
namespace Go.Proofs.Ytnimeafaciegkaa
set_option linter.unusedVariables false

theorem nums_list {w : World} {ao : Option Addr} {n : Nat} {xs : Nat → Nat} (h : Nums w ao n xs) : ∃ b : List Nat, n = b.length ∧ Nums w ao n (fun i => b.getD i 0) := by
  refine ⟨(List.range n).map xs, by simp, fun i hi => ?_⟩
  have e : ((List.range n).map xs).getD i 0 = xs i := by
    rw [List.getD_eq_getElem?_getD, List.getElem?_map, List.getElem?_range hi]
    rfl
  obtain ⟨a, h1, h2, h3⟩ := h i hi
  exact ⟨a, h1, by simp only [e]; exact h2, by simp only [e]; exact h3⟩
end Go.Proofs.Ytnimeafaciegkaa
