/- A slice of items that comes in: opened. -/
import Derived.Test.YthmpadhhbkielaaLaw
import Derived.Test.YthmpadhhbkielaaOctH
import Derived.Deep.Slices
import Derived.ChangeSlices
namespace Go.Proofs.Ythmpadhhbkielaa
open Go.ChangeShapes Go.WideShapes Go.ChangeAt Go.RowKit Go.Deep
set_option linter.unusedVariables false

theorem add_at (a : Addr) (n : Nat) (h : n ≠ 0) : a.add n = ⟨a.block, a.off + n, none⟩ := by unfold Addr.add; rw [if_neg h]

theorem take1 {α : Type} {l : List α} {i : Nat} {x : α} (h : (l.drop i).take 1 = [x]) : l[i]? = some x := by
  have h2 := congrArg (fun l : List α => l[0]?) h
  simpa using h2

/-- The bytes of an array, out of its cells. -/
theorem bytes_of_cells {H : Type} {enc : TypeId × Value → H} {P : Program} {w : World} {base : Nat} {sp : Nat → Bool} {held : Bool} {t e : TypeId} {n fuel : Nat} {cs : List Value} {x : DataW H × List MemPlace}
    (ht : P.underlying t = some (.array n e)) (he : P.underlying e = some (.int .u8)) (hce : P.cellsOf e = 1) (hl : cs.length = n)
    (h : DataW.trod enc P w base sp held fuel t cs = some x) : ∃ hs : List UInt8, cs = hs.map u8v ∧ hs.length = n := by
  obtain ⟨xs, m, _, _, hlen, hxl, hall⟩ := DataW.trod_array ht h
  have key : ∀ i (hi : i < n), ∃ b : UInt8, cs[i]? = some (u8v b) := by
    intro i hi
    have h1 := hall i hi
    rw [List.getElem?_eq_getElem (by omega)] at h1
    obtain ⟨q, hq, _, hw⟩ := DataW.trod_int he h1
    rw [hce, Nat.mul_one] at hq
    have hb : 0 ≤ q ∧ q ≤ 255 := by simpa [Lit.wf, IntKind.min, IntKind.max, IntKind.signed, IntKind.bits] using hw
    refine ⟨UInt8.ofNat q.toNat, ?_⟩
    rw [take1 hq]
    simp only [u8v]
    congr 2
    simp
    omega
  refine ⟨cs.map byteIn, ?_, by simpa using hl⟩
  rw [List.map_map]
  apply List.ext_getElem?
  intro i
  simp only [List.getElem?_map]
  by_cases hi : i < n
  · obtain ⟨b, hb⟩ := key i hi
    rw [hb]
    simp [byteIn]
  · rw [List.getElem?_eq_none (by omega)]
    rfl

theorem Try.cellsItem : Try.prog.cellsOf 32 = 36 := by kernel_rfl
theorem Try.cellsHash : Try.prog.cellsOf 30 = 32 := by kernel_rfl
theorem Try.cellsInt1 : Try.prog.cellsOf 3 = 1 := by kernel_rfl
theorem Try.cellsU64 : Try.prog.cellsOf 28 = 1 := by kernel_rfl
theorem Try.cellsStr : Try.prog.cellsOf 9 = 1 := by kernel_rfl

theorem open_item {H : Type} {enc : TypeId × Value → H} {W : World} {sp : Nat → Bool} {held : Bool} {n : Nat} {a : Addr} {cs : List Value} {x : DataW H × List MemPlace} (hc : W.cells? 0 a 36 = some cs)
    (h : DataW.trod enc Try.prog W 0 sp held n 32 cs = some x) : ∃ y : It, y.Ok ∧ ItAt a y W := by
  obtain ⟨fs, hfs, f0, f1, f2, f3, f4⟩ : ∃ fs : Array Field, Try.prog.underlying 32 = some (.struct fs) ∧ (∃ f, fs[0]? = some f ∧ f.offset = 0 ∧ f.type = 3) ∧ (∃ f, fs[1]? = some f ∧ f.offset = 1 ∧ f.type = 3) ∧
      (∃ f, fs[2]? = some f ∧ f.offset = 2 ∧ f.type = 28) ∧ (∃ f, fs[3]? = some f ∧ f.offset = 3 ∧ f.type = 30) ∧ (∃ f, fs[4]? = some f ∧ f.offset = 35 ∧ f.type = 9) :=
    ⟨_, Try.underlying32, ⟨_, rfl, rfl, rfl⟩, ⟨_, rfl, rfl, rfl⟩, ⟨_, rfl, rfl, rfl⟩, ⟨_, rfl, rfl, rfl⟩, ⟨_, rfl, rfl, rfl⟩⟩
  obtain ⟨_, hlen, hcell⟩ := World.cells?_some hc
  obtain ⟨xs, m, _, _, _, hxl, hf⟩ := DataW.trod_struct hfs h
  have at' : ∀ {f : Field} {i : Nat}, fs[i]? = some f → ∃ y, DataW.trod enc Try.prog W 0 sp held m f.type ((cs.drop f.offset).take (Try.prog.cellsOf f.type)) = some y := fun {f i} hfi => by
    have h1 := hf i f hfi
    have hi : i < fs.size := (Array.getElem?_eq_some_iff.1 hfi).1
    rw [List.getElem?_eq_getElem (by omega)] at h1
    exact ⟨_, h1⟩
  obtain ⟨f0, e0, o0, t0⟩ := f0
  obtain ⟨f1, e1, o1, t1⟩ := f1
  obtain ⟨f2, e2, o2, t2⟩ := f2
  obtain ⟨f3, e3, o3, t3⟩ := f3
  obtain ⟨f4, e4, o4, t4⟩ := f4
  obtain ⟨y0, u0⟩ := at' e0
  obtain ⟨y1, u1⟩ := at' e1
  obtain ⟨y2, u2⟩ := at' e2
  obtain ⟨y3, u3⟩ := at' e3
  obtain ⟨y4, u4⟩ := at' e4
  rw [o0, t0, Try.cellsInt1] at u0
  rw [o1, t1, Try.cellsInt1] at u1
  rw [o2, t2, Try.cellsU64] at u2
  rw [o3, t3, Try.cellsHash] at u3
  rw [o4, t4, Try.cellsStr] at u4
  obtain ⟨k, c0, _, w0⟩ := DataW.trod_int Try.underlying3 u0
  obtain ⟨wd, c1, _, w1⟩ := DataW.trod_int Try.underlying3 u1
  obtain ⟨nn, c2, _, w2⟩ := DataW.trod_int Try.underlying28 u2
  obtain ⟨hs, c3, l3⟩ := bytes_of_cells Try.underlying30 Try.underlying5 (by kernel_rfl) (by simp [hlen]) u3
  obtain ⟨s, c4, _, w4⟩ := DataW.trod_string Try.underlying9 u4
  obtain ⟨nz, rfl, hn⟩ := nat_of (top := 18446744073709551615) w2 rfl rfl
  have g0 : -9223372036854775808 ≤ k ∧ k ≤ 9223372036854775807 := by simpa [Lit.wf, IntKind.min, IntKind.max, IntKind.signed, IntKind.bits] using w0
  have g1 : -9223372036854775808 ≤ wd ∧ wd ≤ 9223372036854775807 := by simpa [Lit.wf, IntKind.min, IntKind.max, IntKind.signed, IntKind.bits] using w1
  refine ⟨⟨k, wd, nz, hs, s⟩, ⟨g0.1, g0.2, g1.1, g1.2, by show nz < _; omega, l3, w4⟩, ⟨?_, ?_, ?_, fun j v hj => ?_, ?_⟩⟩
  · exact (hcell 0 (by omega)).trans (take1 c0)
  · exact add_at a 1 (by omega) ▸ (hcell 1 (by omega)).trans (take1 c1)
  · exact add_at a 2 (by omega) ▸ (hcell 2 (by omega)).trans (take1 c2)
  · have hj' : j < 32 := by have := (List.getElem?_eq_some_iff.1 hj).1; simp [l3] at this; exact this
    rw [Addr.add_mid, Nat.add_assoc, ← add_at a (3 + j) (by omega), hcell (3 + j) (by omega), ← hj]
    have h5 := congrArg (fun l : List Value => l[j]?) c3
    simpa [hj'] using h5
  · exact add_at a 35 (by omega) ▸ (hcell 35 (by omega)).trans (take1 c4)

/-- The slice: nil, or items that lie one behind the other. -/
theorem open_items {H : Type} {enc : TypeId × Value → H} {W : World} {r : Reach} {b0 : Nat} {v : Value} {d : DataW H} {p : List MemPlace} (hv : Value.okWide Try.prog W r b0 22 v)
    (h : DataW.Trod enc Try.prog W 0 (fun _ => true) true 22 v d p) :
    v = .slice none 0 0 ∨ ∃ (a : Addr) (len cap : Nat) (xs : Nat → It), v = .slice (some a) len cap ∧ ∀ i, i < len → (xs i).Ok ∧ ItAt (a.add (i * 36)) (xs i) W := by
  obtain ⟨fuel, hf⟩ := h
  obtain ⟨a0, l0, c0, rfl⟩ := okWide_slice Try.underlying22 hv
  rcases open_slice Try.underlying22 hf with ⟨hcs, _⟩ | ⟨a, len, cap, m, n, D, Pl, hcs, hb, hl, hm, hmm, _, hx⟩
  · left
    simpa [Value.cells] using hcs
  · right
    have hlm : len ≤ m := by rw [hmm]; simpa using hl
    have each : ∀ i, i < len → ∃ y : It, y.Ok ∧ ItAt (a.add (i * 36)) y W := fun i hi => by
      obtain ⟨cs', h1, h2⟩ := hx i (by omega)
      rw [Try.cellsItem] at h1
      exact open_item h1 h2
    refine ⟨a, len, cap, fun i => if h : i < len then Classical.choose (each i h) else ⟨0, 0, 0, [], ⟨#[]⟩⟩, by simpa [Value.cells] using hcs, fun i hi => ?_⟩
    simp only [dif_pos hi]
    exact Classical.choose_spec (each i hi)
end Go.Proofs.Ythmpadhhbkielaa
