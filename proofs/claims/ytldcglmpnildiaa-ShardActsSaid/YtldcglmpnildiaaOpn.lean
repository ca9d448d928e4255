/- Pieces of what comes in: a cell, and the bytes of an array, out of the cells. -/
import Derived.Test.YtldcglmpnildiaaLaw
namespace Go.Proofs.Ytldcglmpnildiaa
open Go.ChangeShapes Go.WideShapes Go.ChangeAt Go.RowKit
set_option linter.unusedVariables false
set_option maxRecDepth 100000

theorem take1 {α : Type} {l : List α} {i : Nat} {x : α} (h : (l.drop i).take 1 = [x]) : l[i]? = some x := by
  have h2 := congrArg (fun l : List α => l[0]?) h
  simpa using h2

/-- The bytes of an array, out of its cells. -/
theorem bytes_of_cells {H : Type} {enc : TypeId × Value → H} {P : Program} {w : World} {base : Nat} {sp : Nat → Bool} {held : Bool} {t e : TypeId} {n fuel : Nat} {cs : List Value} {x : DataW H × List MemPlace}
    (ht : P.underlying t = some (.array n e)) (he : P.underlying e = some (.int .u8)) (hce : P.cellsOf e = 1) (hl : cs.length = n)
    (h : DataW.trod enc P w base sp held fuel t cs = some x) : ∃ hs : List UInt8, cs = hs.map u8v ∧ hs.length = n := by
  obtain ⟨xs, m, _, _, hlen, hxl, hall⟩ := DataW.trod_array ht h
  have key : ∀ i (hi : i < n), ∃ b : UInt8, cs[i]? = some (u8v b) := by
    intro i hi
    have h1 := hall i hi
    rw [List.getElem?_eq_getElem (by omega)] at h1
    obtain ⟨q, hq, _, hw⟩ := DataW.trod_int he h1
    rw [hce, Nat.mul_one] at hq
    have hb : 0 ≤ q ∧ q ≤ 255 := by simpa [Lit.wf, IntKind.min, IntKind.max, IntKind.signed, IntKind.bits] using hw
    refine ⟨UInt8.ofNat q.toNat, ?_⟩
    rw [take1 hq]
    simp only [u8v]
    congr 2
    simp
    omega
  refine ⟨cs.map byteIn, ?_, by simpa using hl⟩
  rw [List.map_map]
  apply List.ext_getElem?
  intro i
  simp only [List.getElem?_map]
  by_cases hi : i < n
  · obtain ⟨b, hb⟩ := key i hi
    rw [hb]
    simp [byteIn]
  · rw [List.getElem?_eq_none (by omega)]
    rfl

end Go.Proofs.Ytldcglmpnildiaa
