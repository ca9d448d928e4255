/- Slices of numbers, and of secrets of numbers, that come in: opened. -/
import Derived.Test.YtnpgcgemifoddaaDoorLawC
import Derived.Test.YtnpgcgemifoddaaDoorShW
import Derived.Test.YtnpgcgemifoddaaDoorShelfAny
import Derived.Deep.Slices
import Derived.ChangeSlices
namespace Go.Proofs.YtnpgcgemifoddaaDoor
open Go.ChangeShapes Go.WideShapes Go.ChangeAt Go.RowKit Go.Deep
set_option linter.unusedVariables false

section
variable {H : Type} {enc : TypeId × Value → H} {W : World} {base : Nat} {sp : Nat → Bool} {held : Bool} {r : Reach} {b0 : Nat} {v : Value} {d : DataW H} {p : List MemPlace}

theorem open_u16s (hv : Value.okWide Tryd.prog W r b0 59 v) (h : DataW.Trod enc Tryd.prog W base sp held 59 v d p) :
    ∃ (ao : Option Addr) (n cap : Nat) (xs : Nat → Nat), v = .slice ao n cap ∧ n ≤ maxLen ∧ ∀ i, i < n → ∃ a, ao = some a ∧ W.cell? (a.add i) = some (.int .u16 (xs i : Int)) ∧ xs i < 65536 := by
  obtain ⟨fuel, hf⟩ := h
  obtain ⟨a0, l0, c0, rfl⟩ := okWide_slice Tryd.underlying59 hv
  rcases Go.ChangeShapes.open_ints Tryd.underlying59 Tryd.underlying54 (by kernel_rfl) hf with ⟨hcs, _⟩ | ⟨a, len, cap, zs, hcs, _, hl, hm, hlen, _, hx, hs⟩
  · have e : Value.slice a0 l0 c0 = .slice none 0 0 := by simpa [Value.cells] using hcs
    exact ⟨none, 0, 0, fun _ => 0, e, Nat.zero_le _, fun i hi => absurd hi (by omega)⟩
  · have e : Value.slice a0 l0 c0 = .slice (some a) len cap := by simpa [Value.cells] using hcs
    refine ⟨some a, len, cap, fun i => (zs.getD i 0).toNat, e, by omega, fun i hi => ⟨a, rfl, ?_⟩⟩
    have hi2 : i < zs.length := by rw [hlen]; split <;> omega
    have hw := hs (zs.getD i 0) (by rw [List.getD_eq_getElem?_getD, List.getElem?_eq_getElem hi2]; exact List.getElem_mem hi2)
    have hb : 0 ≤ zs.getD i 0 ∧ zs.getD i 0 ≤ 65535 := by simpa [Lit.wf, IntKind.min, IntKind.max, IntKind.signed, IntKind.bits] using hw
    refine ⟨?_, by show (zs.getD i 0).toNat < 65536; omega⟩
    rw [hx i hi2]
    congr 2
    show zs.getD i 0 = ((zs.getD i 0).toNat : Int)
    omega

theorem open_intsA (hv : Value.okWide Tryd.prog W r b0 23 v) (h : DataW.Trod enc Tryd.prog W base sp held 23 v d p) :
    ∃ (ao : Option Addr) (n cap : Nat) (xs : Nat → Int), v = .slice ao n cap ∧ n ≤ maxLen ∧ ∀ i, i < n → ∃ a, ao = some a ∧ W.cell? (a.add i) = some (.int .i64 (xs i)) := by
  obtain ⟨fuel, hf⟩ := h
  obtain ⟨a0, l0, c0, rfl⟩ := okWide_slice Tryd.underlying23 hv
  rcases Go.ChangeShapes.open_ints Tryd.underlying23 Tryd.underlying3 (by kernel_rfl) hf with ⟨hcs, _⟩ | ⟨a, len, cap, zs, hcs, _, hl, hm, hlen, _, hx, hs⟩
  · have e : Value.slice a0 l0 c0 = .slice none 0 0 := by simpa [Value.cells] using hcs
    exact ⟨none, 0, 0, fun _ => 0, e, Nat.zero_le _, fun i hi => absurd hi (by omega)⟩
  · have e : Value.slice a0 l0 c0 = .slice (some a) len cap := by simpa [Value.cells] using hcs
    refine ⟨some a, len, cap, fun i => zs.getD i 0, e, by omega, fun i hi => ⟨a, rfl, ?_⟩⟩
    have hi2 : i < zs.length := by rw [hlen]; split <;> omega
    exact hx i hi2
end

theorem any_walk {v : Value} {W : World} (h : List UInt8) (s : Nat) (hi : ∃ (ao : Option Addr) (n cap : Nat) (xs : Nat → Nat), v = .slice ao n cap ∧ n ≤ maxLen ∧ ∀ i, i < n → ∃ a, ao = some a ∧ W.cell? (a.add i) = some (.int .u16 (xs i : Int)) ∧ xs i < 65536)
    (hh : h.length = 32) (hs : (s : Int) ≤ 65535) (hg : Gl W) :
    Calls Tryd.prog 6 #[.agg (h.map u8v).toArray, v, .int .u16 (s : Int)] W fun e w' => e = .returned (.bool true) ∧ Fr No W w' := by
  obtain ⟨ao, n, cap, xs, rfl, hn, hel⟩ := hi
  rw [arr_nb]
  by_cases h40 : n ≤ 40
  · exact any_ok (nb h) ao n cap xs s W ⟨by rw [nb, List.length_map]; exact hh, nb_b8 h⟩ h40 (by omega) hel hg
  · exact any_big (nb h) ao n cap s W (by omega) hn hg
end Go.Proofs.YtnpgcgemifoddaaDoor
