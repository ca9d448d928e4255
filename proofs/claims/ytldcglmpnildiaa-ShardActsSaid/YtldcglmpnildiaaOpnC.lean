/- A slice of a bank's acts that comes in: opened. -/
import Derived.Test.YtldcglmpnildiaaOpn
import Derived.Test.YtldcglmpnildiaaOpnB
import Derived.Test.YtldcglmpnildiaaLaw
import Derived.Deep.Slices
import Derived.ChangeSlices
namespace Go.Proofs.Ytldcglmpnildiaa
open Go.ChangeShapes Go.WideShapes Go.ChangeAt Go.RowKit Go.Deep
set_option linter.unusedVariables false
set_option maxRecDepth 100000

theorem Try.cellsAct10 : Try.prog.cellsOf 41 = 4 := by kernel_rfl
theorem Try.cellsInt10 : Try.prog.cellsOf 3 = 1 := by kernel_rfl
theorem Try.cellsU6410 : Try.prog.cellsOf 27 = 1 := by kernel_rfl

theorem open_act10 {H : Type} {enc : TypeId × Value → H} {W : World} {sp : Nat → Bool} {held : Bool} {n : Nat} {a : Addr} {cs : List Value} {x : DataW H × List MemPlace} (hc : W.cells? 0 a 4 = some cs)
    (h : DataW.trod enc Try.prog W 0 sp held n 41 cs = some x) : ∃ y : A9, y.Ok ∧ ActAt a y W := by
  obtain ⟨fs, hfs, ⟨f0, e0, o0, t0⟩, ⟨f1, e1, o1, t1⟩, ⟨f2, e2, o2, t2⟩, ⟨f3, e3, o3, t3⟩⟩ : ∃ fs : Array Field, Try.prog.underlying 41 = some (.struct fs) ∧ (∃ f, fs[0]? = some f ∧ f.offset = 0 ∧ f.type = 3) ∧ (∃ f, fs[1]? = some f ∧ f.offset = 1 ∧ f.type = 3) ∧
      (∃ f, fs[2]? = some f ∧ f.offset = 2 ∧ f.type = 3) ∧ (∃ f, fs[3]? = some f ∧ f.offset = 3 ∧ f.type = 27) :=
    ⟨_, Try.underlying41, ⟨_, rfl, rfl, rfl⟩, ⟨_, rfl, rfl, rfl⟩, ⟨_, rfl, rfl, rfl⟩, ⟨_, rfl, rfl, rfl⟩⟩
  obtain ⟨_, hlen, hcell⟩ := World.cells?_some hc
  obtain ⟨xs, m, _, _, _, hxl, hf⟩ := DataW.trod_struct hfs h
  have at' : ∀ {f : Field} {i : Nat}, fs[i]? = some f → ∃ y, DataW.trod enc Try.prog W 0 sp held m f.type ((cs.drop f.offset).take (Try.prog.cellsOf f.type)) = some y := fun {f i} hfi => by
    have h1 := hf i f hfi
    have hi : i < fs.size := (Array.getElem?_eq_some_iff.1 hfi).1
    rw [List.getElem?_eq_getElem (by omega)] at h1
    exact ⟨_, h1⟩
  obtain ⟨y0, u0⟩ := at' e0
  obtain ⟨y1, u1⟩ := at' e1
  obtain ⟨y2, u2⟩ := at' e2
  obtain ⟨y3, u3⟩ := at' e3
  rw [o0, t0, Try.cellsInt10] at u0
  rw [o1, t1, Try.cellsInt10] at u1
  rw [o2, t2, Try.cellsInt10] at u2
  rw [o3, t3, Try.cellsU6410] at u3
  obtain ⟨k, c0, _, w0⟩ := DataW.trod_int Try.underlying3 u0
  obtain ⟨x1, c1, _, w1⟩ := DataW.trod_int Try.underlying3 u1
  obtain ⟨x2, c2, _, w2⟩ := DataW.trod_int Try.underlying3 u2
  obtain ⟨nn, c3, _, w3⟩ := DataW.trod_int Try.underlying27 u3
  obtain ⟨nz, rfl, hn⟩ := nat_of (top := 18446744073709551615) w3 rfl rfl
  refine ⟨⟨k, x1, x2, nz⟩, ⟨w1, w2, by show nz < _; omega⟩, ⟨?_, ?_, ?_, ?_⟩⟩
  · exact (hcell 0 (by omega)).trans (take1 c0)
  · exact add_at9 a 1 (by omega) ▸ (hcell 1 (by omega)).trans (take1 c1)
  · exact add_at9 a 2 (by omega) ▸ (hcell 2 (by omega)).trans (take1 c2)
  · exact add_at9 a 3 (by omega) ▸ (hcell 3 (by omega)).trans (take1 c3)

theorem open_acts10 {H : Type} {enc : TypeId × Value → H} {W : World} {r : Reach} {b0 : Nat} {v : Value} {d : DataW H} {p : List MemPlace} (hv : Value.okWide Try.prog W r b0 23 v)
    (h : DataW.Trod enc Try.prog W 0 (fun _ => true) true 23 v d p) : ∃ (ao : Option Addr) (n cap : Nat) (xs : Nat → A9), v = .slice ao n cap ∧ n ≤ maxLen ∧ Acts W ao n xs := by
  obtain ⟨fuel, hf⟩ := h
  obtain ⟨a0, l0, c0, rfl⟩ := okWide_slice Try.underlying23 hv
  rcases open_slice Try.underlying23 hf with ⟨hcs, _⟩ | ⟨a, len, cap, m, n, D, Pl, hcs, hb, hl, hm, hmm, _, hx⟩
  · have e : Value.slice a0 l0 c0 = .slice none 0 0 := by simpa [Value.cells] using hcs
    exact ⟨none, 0, 0, fun _ => ⟨0, 0, 0, 0⟩, e, Nat.zero_le _, fun i hi => absurd hi (by omega)⟩
  · have hlm : len ≤ m := by rw [hmm]; simpa using hl
    have each : ∀ i, i < len → ∃ y : A9, y.Ok ∧ ActAt (a.add (i * 4)) y W := fun i hi => by
      obtain ⟨cs', h1, h2⟩ := hx i (by omega)
      rw [Try.cellsAct10] at h1
      exact open_act10 h1 h2
    refine ⟨some a, len, cap, fun i => if h : i < len then Classical.choose (each i h) else ⟨0, 0, 0, 0⟩, by simpa [Value.cells] using hcs, by omega, fun i hi => ⟨a, rfl, ?_⟩⟩
    simp only [dif_pos hi]
    exact Classical.choose_spec (each i hi)
end Go.Proofs.Ytldcglmpnildiaa
