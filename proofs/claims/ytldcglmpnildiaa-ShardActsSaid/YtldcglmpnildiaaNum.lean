/- Slices of numbers: two that a law lays; those of a list. -/
import Derived.Test.YtldcglmpnildiaaAmA
import Derived.Test.YtldcglmpnildiaaBlk
namespace Go.Proofs.Ytldcglmpnildiaa
open Go.RowKit
set_option linter.unusedVariables false
set_option maxRecDepth 100000

/-- A slice of two numbers, laid by a law. -/
theorem nums_two (w : World) (x y : Nat) (hx : x < 1000) (hy : y < 1000) : Nums (w.alloc (.cells #[.int .u64 (x : Int), .int .u64 (y : Int)] 27)) (some ⟨w.heap.size, 0, none⟩) 2 (fun i => [x, y].getD i 0) := fun i hi => by
  have hb := Blk.new w 27 [.int .u64 (x : Int), .int .u64 (y : Int)]
  refine ⟨⟨w.heap.size, 0, none⟩, rfl, ?_, ?_⟩
  · rw [Addr.add_lit, Nat.zero_add]
    refine hb.cell ?_
    rcases Nat.lt_or_ge i 1 with h | h
    · obtain rfl : i = 0 := by omega
      rfl
    · obtain rfl : i = 1 := by omega
      rfl
  · rcases Nat.lt_or_ge i 1 with h | h
    · obtain rfl : i = 0 := by omega
      show x < _
      omega
    · obtain rfl : i = 1 := by omega
      show y < _
      omega

theorem nums_list {w : World} {ao : Option Addr} {n : Nat} {xs : Nat → Nat} (h : Nums w ao n xs) : ∃ b : List Nat, n = b.length ∧ Nums w ao n (fun i => b.getD i 0) := by
  refine ⟨(List.range n).map xs, by simp, fun i hi => ?_⟩
  have e : ((List.range n).map xs).getD i 0 = xs i := by
    rw [List.getD_eq_getElem?_getD, List.getElem?_map, List.getElem?_range hi]
    rfl
  obtain ⟨a, h1, h2, h3⟩ := h i hi
  exact ⟨a, h1, by simp only [e]; exact h2, by simp only [e]; exact h3⟩
end Go.Proofs.Ytldcglmpnildiaa
