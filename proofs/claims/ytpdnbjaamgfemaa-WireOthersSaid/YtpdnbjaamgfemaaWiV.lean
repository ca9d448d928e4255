/- A message that comes in: opened. -/
import Derived.Test.YtpdnbjaamgfemaaOpn
import Derived.Test.YtpdnbjaamgfemaaWiR
namespace Go.Proofs.Ytpdnbjaamgfemaa
open Go.ChangeShapes Go.WideShapes Go.ChangeAt Go.RowKit
set_option linter.unusedVariables false
set_option maxRecDepth 100000

theorem msg_pieces {cs : List Value} (hl : cs.length = 38) {k e n : Int} {c i a : Nat} {h : List UInt8} (c0 : (cs.drop 0).take 1 = [.int .i64 k]) (c1 : (cs.drop 1).take 1 = [.int .u32 (c : Int)]) (c2 : (cs.drop 2).take 1 = [.int .u64 (i : Int)])
    (c3 : (cs.drop 3).take 1 = [.int .u64 (a : Int)]) (c4 : (cs.drop 4).take 32 = h.map u8v) (c5 : (cs.drop 36).take 1 = [.int .i64 e]) (c6 : (cs.drop 37).take 1 = [.int .i64 n]) : cs = cellsM ⟨k, c, i, a, h, e, n⟩ := by
  have s : ∀ (j q : Nat), cs.drop j = (cs.drop j).take q ++ cs.drop (j + q) := fun j q => by rw [← List.drop_drop, List.take_append_drop]
  have h0 : cs = cs.drop 0 := rfl
  rw [h0, s 0 1, c0, s (0 + 1) 1, c1, s (0 + 1 + 1) 1, c2, s (0 + 1 + 1 + 1) 1, c3, s (0 + 1 + 1 + 1 + 1) 32, c4, s (0 + 1 + 1 + 1 + 1 + 32) 1, c5, s (0 + 1 + 1 + 1 + 1 + 32 + 1) 1, c6, List.drop_of_length_le (by omega)]
  simp [cellsM]

theorem open_msg {H : Type} {enc : TypeId × Value → H} {w : World} {base : Nat} {sp : Nat → Bool} {held : Bool} {r : Reach} {b0 : Nat} {v : Value} {d : DataW H} {p : List MemPlace}
    (hv : Value.okWide Try.prog w r b0 27 v) (h : DataW.Trod enc Try.prog w base sp held 27 v d p) : ∃ m : Msg, v = vM m ∧ m.Ok := by
  obtain ⟨fs, hfs, f0, f1, f2, f3, f4, f5, f6⟩ : ∃ fs : Array Field, Try.prog.underlying 27 = some (.struct fs) ∧ (∃ f, fs[0]? = some f ∧ f.offset = 0 ∧ f.type = 3) ∧ (∃ f, fs[1]? = some f ∧ f.offset = 1 ∧ f.type = 22) ∧
      (∃ f, fs[2]? = some f ∧ f.offset = 2 ∧ f.type = 23) ∧ (∃ f, fs[3]? = some f ∧ f.offset = 3 ∧ f.type = 23) ∧ (∃ f, fs[4]? = some f ∧ f.offset = 4 ∧ f.type = 25) ∧ (∃ f, fs[5]? = some f ∧ f.offset = 36 ∧ f.type = 3) ∧ (∃ f, fs[6]? = some f ∧ f.offset = 37 ∧ f.type = 3) :=
    ⟨_, Try.underlying27, ⟨_, rfl, rfl, rfl⟩, ⟨_, rfl, rfl, rfl⟩, ⟨_, rfl, rfl, rfl⟩, ⟨_, rfl, rfl, rfl⟩, ⟨_, rfl, rfl, rfl⟩, ⟨_, rfl, rfl, rfl⟩, ⟨_, rfl, rfl, rfl⟩⟩
  simp only [Value.okWide, hfs] at hv
  obtain ⟨cs, rfl, hsz, _⟩ := hv
  obtain ⟨fuel, hf0⟩ := h
  have hct : Try.prog.cellsOf 27 = 38 := by kernel_rfl
  rw [hct] at hsz
  have hlen : cs.toList.length = 38 := by simpa using hsz
  have hf1 : DataW.trod enc Try.prog w base sp held fuel 27 cs.toList = some (d, p) := by simpa [Value.cells] using hf0
  obtain ⟨xs, m, _, _, _, hxl, hf⟩ := DataW.trod_struct hfs hf1
  have at' : ∀ {f : Field} {i : Nat}, fs[i]? = some f → ∃ y, DataW.trod enc Try.prog w base sp held m f.type ((cs.toList.drop f.offset).take (Try.prog.cellsOf f.type)) = some y := fun {f i} hfi => by
    have h1 := hf i f hfi
    have hi : i < fs.size := (Array.getElem?_eq_some_iff.1 hfi).1
    rw [List.getElem?_eq_getElem (by omega)] at h1
    exact ⟨_, h1⟩
  obtain ⟨f0, e0, o0, t0⟩ := f0
  obtain ⟨f1, e1, o1, t1⟩ := f1
  obtain ⟨f2, e2, o2, t2⟩ := f2
  obtain ⟨f3, e3, o3, t3⟩ := f3
  obtain ⟨f4, e4, o4, t4⟩ := f4
  obtain ⟨f5, e5, o5, t5⟩ := f5
  obtain ⟨f6, e6, o6, t6⟩ := f6
  obtain ⟨y0, u0⟩ := at' e0
  obtain ⟨y1, u1⟩ := at' e1
  obtain ⟨y2, u2⟩ := at' e2
  obtain ⟨y3, u3⟩ := at' e3
  obtain ⟨y4, u4⟩ := at' e4
  obtain ⟨y5, u5⟩ := at' e5
  obtain ⟨y6, u6⟩ := at' e6
  have ci : Try.prog.cellsOf 3 = 1 := by kernel_rfl
  have c32 : Try.prog.cellsOf 22 = 1 := by kernel_rfl
  have c64 : Try.prog.cellsOf 23 = 1 := by kernel_rfl
  have ch : Try.prog.cellsOf 25 = 32 := by kernel_rfl
  rw [o0, t0, ci] at u0
  rw [o1, t1, c32] at u1
  rw [o2, t2, c64] at u2
  rw [o3, t3, c64] at u3
  rw [o4, t4, ch] at u4
  rw [o5, t5, ci] at u5
  rw [o6, t6, ci] at u6
  obtain ⟨k, c0, _, w0⟩ := DataW.trod_int Try.underlying3 u0
  obtain ⟨zc, c1, _, w1⟩ := DataW.trod_int Try.underlying22 u1
  obtain ⟨zi, c2, _, w2⟩ := DataW.trod_int Try.underlying23 u2
  obtain ⟨za, c3, _, w3⟩ := DataW.trod_int Try.underlying23 u3
  obtain ⟨hs, c4, l4⟩ := bytes_of_cells Try.underlying25 Try.underlying5 (by kernel_rfl) (by simp [hlen]) u4
  obtain ⟨e, c5, _, w5⟩ := DataW.trod_int Try.underlying3 u5
  obtain ⟨n, c6, _, w6⟩ := DataW.trod_int Try.underlying3 u6
  obtain ⟨c, rfl, hc⟩ := nat_of (top := 4294967295) w1 rfl rfl
  obtain ⟨i, rfl, hi⟩ := nat_of (top := 18446744073709551615) w2 rfl rfl
  obtain ⟨a, rfl, ha⟩ := nat_of (top := 18446744073709551615) w3 rfl rfl
  have g0 : -9223372036854775808 ≤ k ∧ k ≤ 9223372036854775807 := by simpa [Lit.wf, IntKind.min, IntKind.max, IntKind.signed, IntKind.bits] using w0
  have g5 : -9223372036854775808 ≤ e ∧ e ≤ 9223372036854775807 := by simpa [Lit.wf, IntKind.min, IntKind.max, IntKind.signed, IntKind.bits] using w5
  have g6 : -9223372036854775808 ≤ n ∧ n ≤ 9223372036854775807 := by simpa [Lit.wf, IntKind.min, IntKind.max, IntKind.signed, IntKind.bits] using w6
  refine ⟨⟨k, c, i, a, hs, e, n⟩, ?_, ⟨by dsimp only; omega, by dsimp only; omega, by dsimp only; omega, l4, g0, g5, g6⟩⟩
  have hcs := msg_pieces hlen c0 c1 c2 c3 c4 c5 c6
  rw [vM, ← hcs]
end Go.Proofs.Ytpdnbjaamgfemaa
