import Derived.Test.YtpdnbjaamgfemaaOct7
namespace Go.Proofs.Ytpdnbjaamgfemaa
open Go.RowKit
set_option linter.unusedVariables false
set_option maxRecDepth 100000

/-- A new writer. -/
theorem Wr.new (B : Nat) (w : World) : Wr B w.heap.size (.slice none 0 0) [] (w.alloc (.cells #[.slice none 0 0] 50)) :=
  ⟨heap_alloc_new w _, World.ownsRow_nil _ _ _ _⟩

theorem WS_new {w w' : World} {B p : Nat} {v : Value} {bs : List UInt8} {S : Nat → Prop} (h : Wr B p v bs w') (hp : w.heap.size ≤ p) (hB : w.heap.size ≤ B) : ∀ k, k < w.heap.size → WS p v k → S k := by
  intro k hk hs
  rcases hs with rfl | hs
  · omega
  · have := (h.2.lt k hs).1; omega

end Go.Proofs.Ytpdnbjaamgfemaa
