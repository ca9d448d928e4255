/- A slice of numbers that comes in: opened. -/
import Derived.Test.YtldcglmpnildiaaLaw
import Derived.Test.YtldcglmpnildiaaAmA
import Derived.Deep.Slices
import Derived.ChangeSlices
namespace Go.Proofs.Ytldcglmpnildiaa
open Go.ChangeShapes Go.WideShapes Go.ChangeAt Go.RowKit Go.Deep
set_option linter.unusedVariables false
set_option maxRecDepth 100000

set_option maxRecDepth 100000 in
theorem open_u64s {H : Type} {enc : TypeId × Value → H} {W : World} {base : Nat} {sp : Nat → Bool} {held : Bool} {r : Reach} {b0 : Nat} {v : Value} {d : DataW H} {p : List MemPlace}
    (hv : Value.okWide Try.prog W r b0 22 v) (h : DataW.Trod enc Try.prog W base sp held 22 v d p) :
    ∃ (ao : Option Addr) (n cap : Nat) (xs : Nat → Nat), v = .slice ao n cap ∧ n ≤ maxLen ∧ Nums W ao n xs := by
  obtain ⟨fuel, hf⟩ := h
  obtain ⟨a0, l0, c0, rfl⟩ := okWide_slice Try.underlying22 hv
  rcases Go.ChangeShapes.open_ints Try.underlying22 Try.underlying27 (by kernel_rfl) hf with ⟨hcs, _⟩ | ⟨a, len, cap, zs, hcs, _, hl, hm, hlen, _, hx, hs⟩
  · have e : Value.slice a0 l0 c0 = .slice none 0 0 := by simpa [Value.cells] using hcs
    exact ⟨none, 0, 0, fun _ => 0, e, Nat.zero_le _, fun i hi => absurd hi (by omega)⟩
  · have e : Value.slice a0 l0 c0 = .slice (some a) len cap := by simpa [Value.cells] using hcs
    refine ⟨some a, len, cap, fun i => (zs.getD i 0).toNat, e, by omega, fun i hi => ⟨a, rfl, ?_⟩⟩
    have hi2 : i < zs.length := by rw [hlen]; split <;> omega
    have hw := hs (zs.getD i 0) (by rw [List.getD_eq_getElem?_getD, List.getElem?_eq_getElem hi2]; exact List.getElem_mem hi2)
    have hb : 0 ≤ zs.getD i 0 ∧ zs.getD i 0 ≤ 18446744073709551615 := by simpa [Lit.wf, IntKind.min, IntKind.max, IntKind.signed, IntKind.bits] using hw
    refine ⟨?_, by show (zs.getD i 0).toNat < 18446744073709551616; omega⟩
    rw [hx i hi2]
    congr 2
    show zs.getD i 0 = ((zs.getD i 0).toNat : Int)
    omega
end Go.Proofs.Ytldcglmpnildiaa
