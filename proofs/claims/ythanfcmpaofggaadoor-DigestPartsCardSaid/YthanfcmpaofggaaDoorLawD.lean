/- A slice of strings that comes in: opened; DigestParts over it. -/
import Derived.Test.YthanfcmpaofggaaDoorLawC
import Derived.Test.YthanfcmpaofggaaDoorDigestParts
import Derived.SliceStrings
import Derived.Deep.Slices
import Derived.ChangeSlices
namespace Go.Proofs.YthanfcmpaofggaaDoor
open Go.ChangeShapes Go.WideShapes Go.ChangeAt Go.RowKit Go.Deep
set_option linter.unusedVariables false

theorem open_strs {H : Type} {enc : TypeId × Value → H} {W : World} {base : Nat} {sp : Nat → Bool} {held : Bool} {r : Reach} {b0 : Nat} {v : Value} {d : DataW H} {p : List MemPlace}
    (hv : Value.okWide Tryd.prog W r b0 39 v) (h : DataW.Trod enc Tryd.prog W base sp held 39 v d p) :
    ∃ (ao : Option Addr) (n cap : Nat) (ss : Nat → List UInt8), v = .slice ao n cap ∧ n ≤ maxLen ∧ ∀ i, i < n → ∃ a, ao = some a ∧ W.cell? (a.add i) = some (.string (str (ss i))) ∧ (ss i).length ≤ maxLen := by
  obtain ⟨fuel, hf⟩ := h
  obtain ⟨a0, l0, c0, rfl⟩ := okWide_slice Tryd.underlying39 hv
  rcases Go.ChangeShapes.open_strings Tryd.underlying39 Tryd.underlying9 (by kernel_rfl) hf with ⟨hcs, _⟩ | ⟨a, len, cap, ss, hcs, _, hl, hm, hlen, _, hx, hs⟩
  · have e : Value.slice a0 l0 c0 = .slice none 0 0 := by simpa [Value.cells] using hcs
    exact ⟨none, 0, 0, fun _ => [], e, Nat.zero_le _, fun i hi => absurd hi (by omega)⟩
  · have e : Value.slice a0 l0 c0 = .slice (some a) len cap := by simpa [Value.cells] using hcs
    refine ⟨some a, len, cap, fun i => (ss.getD i ByteArray.empty).data.toList, e, by omega, fun i hi => ⟨a, rfl, ?_, ?_⟩⟩
    · have hi2 : i < ss.length := by rw [hlen]; split <;> omega
      rw [hx i hi2]
      congr 2
    · have hi2 : i < ss.length := by rw [hlen]; split <;> omega
      have := hs (ss.getD i ByteArray.empty) (by rw [List.getD_eq_getElem?_getD, List.getElem?_eq_getElem hi2]; exact List.getElem_mem hi2)
      exact this

theorem parts_walk {v : Value} {W : World} (h : ∃ (ao : Option Addr) (n cap : Nat) (ss : Nat → List UInt8), v = .slice ao n cap ∧ n ≤ maxLen ∧ ∀ i, i < n → ∃ a, ao = some a ∧ W.cell? (a.add i) = some (.string (str (ss i))) ∧ (ss i).length ≤ maxLen) (hg : Gl W) :
    Calls Tryd.prog 5 #[v] W fun e w' => e = .returned (.bool true) ∧ Fr No W w' := by
  obtain ⟨ao, n, cap, ss, rfl, hn, hel⟩ := h
  by_cases h30 : n ≤ 30
  · exact parts_ok ao n cap ss W h30 hel hg
  · exact parts_big ao n cap W (by omega) hn hg
end Go.Proofs.YthanfcmpaofggaaDoor
