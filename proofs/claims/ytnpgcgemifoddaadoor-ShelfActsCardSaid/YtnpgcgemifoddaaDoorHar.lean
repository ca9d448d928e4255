/- Hashes as arrays of 32 bytes: '==', rows beside one another, operations by an equation on their run, also guarded ones. -/
import Derived.Test.YtnpgcgemifoddaaDoorRefE
import Derived.Test.YtnpgcgemifoddaaDoorSeaM
namespace Go.Proofs.YtnpgcgemifoddaaDoor
open Go.RowKit
set_option linter.unusedVariables false

theorem Row.setRow_o {w : World} {b c : Nat} {t : TypeId} {k : IntKind} {l : List Nat} (h : Row w b t k l) (hn : b ≠ c) (cs : Array Value) : Row (w.setRow c cs) b t k l := (setRow_other w c b cs hn).trans h

theorem exec_convert {P : Program} {o : Oper} {ev : Operand → Value} {w : World} (s t : TypeId) (x : Operand) (ho : o.op = .convert s t x) (vx v : Value) (hx : ev x = vx) (hr : (convert s t vx).run P w = .ok v w) :
    (execOp ev o).run P w = .ok (.value v) w := by
  unfold execOp
  simp only [ho, hx, hr, Sem.run_bind, Sem.run_pure, Result.andThen_ok]

theorem arr_nb (l : List UInt8) : (l.map u8v).toArray = arr .u8 (nb l) := by
  rw [show arr .u8 (nb l) = ((l.map (·.toNat)).map (vi .u8)).toArray from rfl, List.map_map]
  rfl

theorem eq_h32 (xs ys : List Nat) (hx : xs.length = 32) (hy : ys.length = 32) (w : World) : (binOp .eql 27 (.agg (arr .u8 xs)) (.agg (arr .u8 ys))).run Tryd.prog w = .ok (.bool (xs == ys)) w :=
  run_eql_arr w 27 5 32 .u8 Tryd.underlying27 Tryd.underlying5 (size_one (by kernel_rfl)) xs ys hx hy

/-- Any operation by an equation on its run: one that is wanted. -/
theorem wpList_execG {P : Program} {ops : Array Oper} {rest : List Oper} {o : Oper} {a : Act} {w w' : World} {Q : Exit → Act → World → Prop} (v : Value) (hr : (execOp a.eval o).run P w = .ok (.value v) w') (hw : Region.wanted o (yielded ops a.tmps) = true)
    (h : wpList P ops Q rest (a.put o.dst v) w') : wpList P ops Q (o :: rest) a w :=
  wpList_step fun _ hK => by
    rw [if_pos hw]
    unfold Oper.wp
    simp only [hr]
    exact hK _ _ h

theorem K_world {K : Act → World → Prop} {a : Act} {w0 : World} (S : World → Prop) (h0 : S w0) (h : ∀ W, S W → K a W) : K a w0 := h _ h0

/-- A new variable that holds a hash. -/
theorem Row.newSet {w : World} {t : TypeId} {l : List Nat} (l0 : List Nat) : Row ((w.alloc (.cells (arr .u8 l0) t)).setRow w.heap.size (arr .u8 l)) w.heap.size t .u8 l := (Row.new w t .u8 l0).setRow
end Go.Proofs.YtnpgcgemifoddaaDoor
