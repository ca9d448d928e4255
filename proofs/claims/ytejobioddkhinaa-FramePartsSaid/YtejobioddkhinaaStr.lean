/- Strings of known bytes: one byte, a piece, by an equation on the operation's run. -/
import Derived.Test.YtejobioddkhinaaProg
import Derived.Test.YtejobioddkhinaaBlk
import Derived.Laws.IdiomStrings
import Derived.Laws.Strings
import Derived.Laws.Slices
import Derived.Laws.DeepStrings4
namespace Go.Proofs.Ytejobioddkhinaa
open Go.RowKit
set_option linter.unusedVariables false
set_option maxRecDepth 100000

theorem str_get {l : List UInt8} {i : Nat} {a : UInt8} (h : l[i]? = some a) : (str l)[i]? = some a := by
  have hlt := (List.getElem?_eq_some_iff.1 h).1
  have hv := (List.getElem?_eq_some_iff.1 h).2
  have hs : i < (str l).size := by rw [str_size]; exact hlt
  rw [ByteArray.getElem?_lt' _ _ hs]
  congr 1
theorem str_index {l : List UInt8} {i : Nat} {a : UInt8} (h : l[i]? = some a) (w : World) : (Instr.index 9 (.string (str l)) (.int .i64 (i : Int))).run Try.prog w = .ok (.int .u8 (a.toNat : Int)) w := by
  have hg := str_get h
  simp [Instr.index, asIntOf, run_underlying Try.underlying9, hg]
theorem str_extract (l : List UInt8) (i j : Nat) : (str l).extract i j = str ((l.drop i).take (j - i)) := by
  apply ByteArray.ext
  simp [str, ByteArray.data_extract]
theorem str_piece {l : List UInt8} {i j : Nat} (h1 : i ≤ j) (h2 : j ≤ l.length) (w : World) : (Instr.sliceAt 9 (.string (str l)) (some (.int .i64 (i : Int))) (some (.int .i64 (j : Int))) none).run Try.prog w = .ok (.string (str ((l.drop i).take (j - i)))) w := by
  have hs := str_size l
  rw [run_sliceAt_string _ _ _ _ _ _ Try.underlying9]
  have h3 : (j : Int) ≤ ((str l).size : Int) := by rw [hs]; omega
  have h4 : (i : Int) ≤ (j : Int) := by omega
  simp [Instr.slice, run_underlying Try.underlying9, Instr.sliceBounds, run_sliceBound, h3, h4, str_extract]
theorem str_from {l : List UInt8} {i : Nat} (h1 : i ≤ l.length) (w : World) : (Instr.sliceAt 9 (.string (str l)) (some (.int .i64 (i : Int))) none none).run Try.prog w = .ok (.string (str (l.drop i))) w := by
  have hs := str_size l
  rw [run_sliceAt_string _ _ _ _ _ _ Try.underlying9, run_slice_string_l _ _ _ Try.underlying9 .i64 (i : Int) (by omega) (by rw [hs]; omega), hs, Int.toNat_natCast, str_extract]
  rw [List.take_of_length_le (by simp)]
theorem str_upto {l : List UInt8} {j : Nat} (h1 : j ≤ l.length) (w : World) : (Instr.sliceAt 9 (.string (str l)) none (some (.int .i64 (j : Int))) none).run Try.prog w = .ok (.string (str (l.take j))) w := by
  have hs := str_size l
  rw [run_sliceAt_string _ _ _ _ _ _ Try.underlying9, run_slice_string_h _ _ _ Try.underlying9 .i64 (j : Int) (by omega) (by rw [hs]; omega), Int.toNat_natCast, str_extract]
  simp
theorem conv_blk {w : World} {g cap : Nat} {t : TypeId} {l : List UInt8} (h : Blk w g t (l.map u8v)) : (convert 23 9 (.slice (some ⟨g, 0, none⟩) l.length cap)).run Try.prog w = .ok (.string (str l)) w :=
  run_convert_bytes_back w _ _ 5 ⟨g, 0, none⟩ cap l Try.underlying23 Try.underlying5 Try.underlying9 fun j hj => by
    have hc := h.cell (i := j) (v := u8v l[j]) (by simp [hj])
    have e : (⟨g, 0, none⟩ : Addr).add j = ⟨g, j, none⟩ := by
      unfold Addr.add
      split
      · rename_i h0
        rw [h0]
      · simp
    rw [e]
    exact hc
theorem exec_index {P : Program} {o : Oper} {ev : Operand → Value} {w : World} (t : TypeId) (x y : Operand) (ho : o.op = .index t x y) (vx vy v : Value) (hx : ev x = vx) (hy : ev y = vy) (hr : (Instr.index t vx vy).run P w = .ok v w) : (execOp ev o).run P w = .ok (.value v) w := by
  unfold execOp
  rw [ho]
  subst hx hy
  simp [hr]
theorem exec_make {P : Program} {o : Oper} {ev : Operand → Value} {w w' : World} (t : TypeId) (x y : Operand) (ho : o.op = .makeSlice t x y) (vx vy v : Value) (hx : ev x = vx) (hy : ev y = vy) (hr : (Instr.makeSlice t vx vy).run P w = .ok v w') : (execOp ev o).run P w = .ok (.value v) w' := by
  unfold execOp
  rw [ho]
  subst hx hy
  simp [hr]
theorem exec_slice {P : Program} {o : Oper} {ev : Operand → Value} {w : World} (t : TypeId) (x : Operand) (lo hi : Option Operand) (ho : o.op = .slice t x lo hi none) (vx v : Value) (vl vh : Option Value) (hx : ev x = vx) (hl : lo.map ev = vl) (hh : hi.map ev = vh) (hr : (Instr.sliceAt t vx vl vh none).run P w = .ok v w) : (execOp ev o).run P w = .ok (.value v) w := by
  unfold execOp
  rw [ho]
  subst hx hl hh
  simp [hr]
end Go.Proofs.Ytejobioddkhinaa
