/- A slice of 64-bit numbers that a call owns: its cells. -/
import Derived.Test.YtldcglmpnildiaaProg
import Derived.Test.YtldcglmpnildiaaGen
import Derived.Test.YtldcglmpnildiaaPuS
namespace Go.Proofs.Ytldcglmpnildiaa
open Go.RowKit
set_option linter.unusedVariables false
set_option maxRecDepth 100000

theorem Try.infoU64 : (Try.prog.info? 27).map (fun i => (i.zero, i.size, i.bytes)) = some (some (.int .u64 0), 1, 8) := by kernel_rfl
def cells64 (b : List Nat) : List Value := b.map fun x : Nat => .int .u64 (x : Int)
theorem cells64_get {b : List Nat} {j : Nat} {u : Value} (h : (cells64 b)[j]? = some u) : ∃ hj : j < b.length, u = .int .u64 (b.getD j 0 : Int) := by
  unfold cells64 at h
  rw [List.getElem?_map] at h
  by_cases hj : j < b.length
  · rw [List.getElem?_eq_getElem hj] at h
    refine ⟨hj, ?_⟩
    rw [List.getD_eq_getElem?_getD, List.getElem?_eq_getElem hj]
    simpa using h.symm
  · rw [List.getElem?_eq_none (by omega)] at h
    cases h
theorem cells64_at {b : List Nat} {j : Nat} (h : j < b.length) : (cells64 b)[j]? = some (.int .u64 (b.getD j 0 : Int)) := by
  unfold cells64
  rw [List.getElem?_map, List.getElem?_eq_getElem h, List.getD_eq_getElem?_getD, List.getElem?_eq_getElem h]
  rfl
theorem cells64_one (b : List Nat) : ∀ u ∈ cells64 b, u.oneCell' = true := by
  intro u hu
  simp only [cells64, List.mem_map] at hu
  obtain ⟨x, _, rfl⟩ := hu
  rfl

/-- A row that is owned, and is not empty, may be written. -/
theorem own64 {w : World} {B n : Nat} {v : Value} {b : List Nat} (h : w.ownsRow B 27 1 v n (cells64 b)) (hn : n = b.length) (h1 : 1 ≤ n) : ∃ g c, v = .slice (some ⟨g, 0, none⟩) n c ∧ B ≤ g ∧ g < w.heap.size ∧ Rw w g b := by
  rcases h.2 with ⟨rfl, h0⟩ | ⟨g, cap, cur, rfl, hB, hg, hc, _, _, ht⟩
  · omega
  · refine ⟨g, cap, rfl, hB, (Array.getElem?_eq_some_iff.1 hg).1, fun i hi => ⟨?_, ?_⟩⟩
    · have := h.cells (by rfl) i _ (cells64_at hi)
      rw [Addr.add_lit, Nat.zero_add] at this
      exact this
    · unfold World.frozen?
      rw [show w.heap[(⟨g, i, none⟩ : Addr).block]? = _ from hg]
      simp
end Go.Proofs.Ytldcglmpnildiaa
