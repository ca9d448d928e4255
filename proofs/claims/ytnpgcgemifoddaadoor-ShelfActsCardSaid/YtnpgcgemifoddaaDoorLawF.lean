/- A slice of secrets of numbers that comes in: opened. -/
import Derived.Test.YtnpgcgemifoddaaDoorLawE
import Derived.Test.YtnpgcgemifoddaaDoorShelfActs
namespace Go.Proofs.YtnpgcgemifoddaaDoor
open Go.ChangeShapes Go.WideShapes Go.ChangeAt Go.RowKit Go.Deep
set_option linter.unusedVariables false

theorem take1 {α : Type} {l : List α} {i : Nat} {x : α} (h : (l.drop i).take 1 = [x]) : l[i]? = some x := by
  have h2 := congrArg (fun l : List α => l[0]?) h
  simpa using h2

/-- The bytes of an array, out of its cells. -/
theorem bytes_of_cells {H : Type} {enc : TypeId × Value → H} {P : Program} {w : World} {base : Nat} {sp : Nat → Bool} {held : Bool} {t e : TypeId} {n fuel : Nat} {cs : List Value} {x : DataW H × List MemPlace}
    (ht : P.underlying t = some (.array n e)) (he : P.underlying e = some (.int .u8)) (hce : P.cellsOf e = 1) (hl : cs.length = n)
    (h : DataW.trod enc P w base sp held fuel t cs = some x) : ∃ hs : List UInt8, cs = hs.map u8v ∧ hs.length = n := by
  obtain ⟨xs, m, _, _, hlen, hxl, hall⟩ := DataW.trod_array ht h
  have key : ∀ i (hi : i < n), ∃ b : UInt8, cs[i]? = some (u8v b) := by
    intro i hi
    have h1 := hall i hi
    rw [List.getElem?_eq_getElem (by omega)] at h1
    obtain ⟨q, hq, _, hw⟩ := DataW.trod_int he h1
    rw [hce, Nat.mul_one] at hq
    have hb : 0 ≤ q ∧ q ≤ 255 := by simpa [Lit.wf, IntKind.min, IntKind.max, IntKind.signed, IntKind.bits] using hw
    refine ⟨UInt8.ofNat q.toNat, ?_⟩
    rw [take1 hq]
    simp only [u8v]
    congr 2
    simp
    omega
  refine ⟨cs.map byteIn, ?_, by simpa using hl⟩
  rw [List.map_map]
  apply List.ext_getElem?
  intro i
  simp only [List.getElem?_map]
  by_cases hi : i < n
  · obtain ⟨b, hb⟩ := key i hi
    rw [hb]
    simp [byteIn]
  · rw [List.getElem?_eq_none (by omega)]
    rfl

theorem Tryd.cellsTold : Tryd.prog.cellsOf 42 = 34 := by kernel_rfl
theorem Tryd.cellsHash : Tryd.prog.cellsOf 27 = 32 := by kernel_rfl
theorem Tryd.cellsInt1 : Tryd.prog.cellsOf 3 = 1 := by kernel_rfl
theorem Tryd.cellsU8 : Tryd.prog.cellsOf 5 = 1 := by kernel_rfl

theorem open_tol {H : Type} {enc : TypeId × Value → H} {W : World} {sp : Nat → Bool} {held : Bool} {n : Nat} {a : Addr} {cs : List Value} {x : DataW H × List MemPlace} (hc : W.cells? 0 a 34 = some cs)
    (h : DataW.trod enc Tryd.prog W 0 sp held n 42 cs = some x) : ∃ t : Tol, TolAt W a t := by
  obtain ⟨fs, hfs, f0, f1, f2⟩ : ∃ fs : Array Field, Tryd.prog.underlying 42 = some (.struct fs) ∧ (∃ f, fs[0]? = some f ∧ f.offset = 0 ∧ f.type = 3) ∧ (∃ f, fs[1]? = some f ∧ f.offset = 1 ∧ f.type = 5) ∧
      (∃ f, fs[2]? = some f ∧ f.offset = 2 ∧ f.type = 27) :=
    ⟨_, Tryd.underlying42, ⟨_, rfl, rfl, rfl⟩, ⟨_, rfl, rfl, rfl⟩, ⟨_, rfl, rfl, rfl⟩⟩
  obtain ⟨_, hlen, hcell⟩ := World.cells?_some hc
  obtain ⟨xs, m, _, _, _, hxl, hf⟩ := DataW.trod_struct hfs h
  have at' : ∀ {f : Field} {i : Nat}, fs[i]? = some f → ∃ y, DataW.trod enc Tryd.prog W 0 sp held m f.type ((cs.drop f.offset).take (Tryd.prog.cellsOf f.type)) = some y := fun {f i} hfi => by
    have h1 := hf i f hfi
    have hi : i < fs.size := (Array.getElem?_eq_some_iff.1 hfi).1
    rw [List.getElem?_eq_getElem (by omega)] at h1
    exact ⟨_, h1⟩
  obtain ⟨f0, e0, o0, t0⟩ := f0
  obtain ⟨f1, e1, o1, t1⟩ := f1
  obtain ⟨f2, e2, o2, t2⟩ := f2
  obtain ⟨y0, u0⟩ := at' e0
  obtain ⟨y1, u1⟩ := at' e1
  obtain ⟨y2, u2⟩ := at' e2
  rw [o0, t0, Tryd.cellsInt1] at u0
  rw [o1, t1, Tryd.cellsU8] at u1
  rw [o2, t2, Tryd.cellsHash] at u2
  obtain ⟨k, c0, _, w0⟩ := DataW.trod_int Tryd.underlying3 u0
  obtain ⟨sd, c1, _, w1⟩ := DataW.trod_int Tryd.underlying5 u1
  obtain ⟨hs, c2, l2⟩ := bytes_of_cells Tryd.underlying27 Tryd.underlying5 (by kernel_rfl) (by simp [hlen]) u2
  obtain ⟨nz, rfl, hn⟩ := nat_of (top := 255) w1 rfl rfl
  have g0 : -9223372036854775808 ≤ k ∧ k ≤ 9223372036854775807 := by simpa [Lit.wf, IntKind.min, IntKind.max, IntKind.signed, IntKind.bits] using w0
  refine ⟨⟨k, nz, nb hs, g0, by omega, ⟨by rw [nb, List.length_map]; exact l2, nb_b8 hs⟩⟩, fun j v hj => ?_⟩
  have hsz := (List.getElem?_eq_some_iff.1 hj).1
  rw [Tol.size] at hsz
  rw [hcell j (by omega), ← hj]
  match j, hsz with
  | 0, _ => exact take1 c0
  | 1, _ => exact take1 c1
  | j + 2, hsz =>
    have h5 := congrArg (fun l : List Value => l[j]?) c2
    have hj' : j < 32 := by omega
    have h6 : cs[2 + j]? = (hs.map u8v)[j]? := by simpa [hj'] using h5
    rw [Nat.add_comm j 2, h6, Nat.add_comm 2 j]
    simp [Tol.cells, nb]
    rfl

theorem open_tolds {H : Type} {enc : TypeId × Value → H} {W : World} {r : Reach} {b0 : Nat} {v : Value} {d : DataW H} {p : List MemPlace} (hv : Value.okWide Tryd.prog W r b0 22 v)
    (h : DataW.Trod enc Tryd.prog W 0 (fun _ => true) true 22 v d p) :
    ∃ (ao : Option Addr) (n cap : Nat), v = .slice ao n cap ∧ n ≤ maxLen ∧ ∀ i, i < n → ∃ a, ao = some a ∧ ∃ t : Tol, TolAt W (a.add (i * 34)) t := by
  obtain ⟨fuel, hf⟩ := h
  obtain ⟨a0, l0, c0, rfl⟩ := okWide_slice Tryd.underlying22 hv
  rcases open_slice Tryd.underlying22 hf with ⟨hcs, _⟩ | ⟨a, len, cap, m, n, D, Pl, hcs, hb, hl, hm, hmm, _, hx⟩
  · have e : Value.slice a0 l0 c0 = .slice none 0 0 := by simpa [Value.cells] using hcs
    exact ⟨none, 0, 0, e, Nat.zero_le _, fun i hi => absurd hi (by omega)⟩
  · have e : Value.slice a0 l0 c0 = .slice (some a) len cap := by simpa [Value.cells] using hcs
    have hlm : len ≤ m := by rw [hmm]; simpa using hl
    refine ⟨some a, len, cap, e, by omega, fun i hi => ⟨a, rfl, ?_⟩⟩
    obtain ⟨cs', h1, h2⟩ := hx i (by omega)
    rw [Tryd.cellsTold] at h1
    exact open_tol h1 h2

theorem acts_walk {v u : Value} {W : World} (hv : ∃ (ao : Option Addr) (n cap : Nat), v = .slice ao n cap ∧ n ≤ maxLen ∧ ∀ i, i < n → ∃ a, ao = some a ∧ ∃ t : Tol, TolAt W (a.add (i * 34)) t)
    (hu : ∃ (ao : Option Addr) (n cap : Nat) (xs : Nat → Int), u = .slice ao n cap ∧ n ≤ maxLen ∧ ∀ i, i < n → ∃ a, ao = some a ∧ W.cell? (a.add i) = some (.int .i64 (xs i))) (hg : Gl W) :
    Calls Tryd.prog 3 #[v, u] W fun e w' => e = .returned (.bool true) ∧ Fr No W w' := by
  obtain ⟨lo, n, cap, rfl, hn, hel⟩ := hv
  obtain ⟨ao, m, capm, xs, rfl, hm, hea⟩ := hu
  by_cases h60 : n ≤ 60
  · by_cases m60 : m ≤ 60
    · exact acts_ok lo n cap ao m capm W h60 m60 hel (fun i hi => by
        obtain ⟨a, h1, h2⟩ := hea i hi
        exact ⟨a, h1, _, h2⟩) hg
    · exact acts_big2 lo n cap ao m capm W h60 (by omega) hm hg
  · exact acts_big1 lo n cap ao m capm W (by omega) hn hg
end Go.Proofs.YtnpgcgemifoddaaDoor
