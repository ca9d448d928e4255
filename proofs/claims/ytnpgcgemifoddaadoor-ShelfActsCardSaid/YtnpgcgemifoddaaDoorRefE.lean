/- '==' on arrays of numbers; Compress of both sides by one answer. -/
import Derived.Test.YtnpgcgemifoddaaDoorRefC
import Derived.Stop.BytesEq
namespace Go.Proofs.YtnpgcgemifoddaaDoor
open Go.RowKit
set_option linter.unusedVariables false

theorem all_range_nat : ∀ (xs ys : List Nat), xs.length = ys.length → ((List.range xs.length).all fun i => xs.getD i 0 == ys.getD i 0) = (xs == ys)
  | [], [], _ => rfl
  | x :: xs, y :: ys, h => by
    have ih := all_range_nat xs ys (by simpa using h)
    rw [List.length_cons, List.range_succ_eq_map, List.all_cons, List.all_map]
    simp only [List.getD_cons_zero, Function.comp_def, List.getD_cons_succ, ih]
    simp [List.cons_beq_cons]
  | [], _ :: _, h => by simp at h
  | _ :: _, [], h => by simp at h

theorem run_equalIn_arr {P : Program} (w : World) (d : Nat) (t e : TypeId) (n : Nat) (k : IntKind) (ht : P.underlying t = some (.array n e)) (he : P.underlying e = some (.int k)) (hsz : ∀ w, (sizeOf e).run P w = .ok 1 w)
    (xs ys : List Nat) (hx : xs.length = n) (hy : ys.length = n) :
    (Op.equalIn (d + 2) t (.agg (arr k xs)) (.agg (arr k ys))).run P w = .ok (xs == ys) w := by
  rw [← all_range_nat xs ys (hx.trans hy.symm), hx, List.range_eq_range', Op.equalIn]
  simp only [Sem.run_bind, run_underlying ht, Result.andThen_ok, hsz, Std.Legacy.Range.forIn_eq_forIn_range', Std.Legacy.Range.size, Nat.sub_zero, Nat.add_sub_cancel, Nat.div_one]
  have hl : ∀ i ∈ List.range' 0 n 1, i < n := fun i hi => by simpa using (List.mem_range'_1.1 hi).2
  generalize List.range' 0 n 1 = l at hl ⊢
  induction l with
  | nil => simp
  | cons i l ih =>
    have hi : i < n := hl i (by simp)
    have px : (part e (arr k xs) (i * 1)).run P w = .ok (vi k (xs.getD i 0)) w := by
      simp [part, isAgg, run_underlying he, List.getD, List.getElem?_eq_getElem (show i < xs.length by omega)]
    have py : (part e (arr k ys) (i * 1)).run P w = .ok (vi k (ys.getD i 0)) w := by
      simp [part, isAgg, run_underlying he, List.getD, List.getElem?_eq_getElem (show i < ys.length by omega)]
    have pe : (Op.equalIn (d + 1) e (vi k (xs.getD i 0)) (vi k (ys.getD i 0))).run P w = .ok (xs.getD i 0 == ys.getD i 0) w := by
      rw [run_equalIn_int w d e k k _ _ he]
      congr 1
      rw [Bool.eq_iff_iff]
      simp
      omega
    simp only [List.forIn_cons, Sem.run_bind, px, py, pe, Result.andThen_ok, List.all_cons]
    cases hb : (xs.getD i 0 == ys.getD i 0)
    · simp
    · simp only [Bool.not_true, Bool.false_eq_true, if_false, Sem.run_pure, Result.andThen_ok, Bool.true_and]
      exact ih fun j hj => hl j (by simp [hj])

theorem run_eql_arr {P : Program} (w : World) (t e : TypeId) (n : Nat) (k : IntKind) (ht : P.underlying t = some (.array n e)) (he : P.underlying e = some (.int k)) (hsz : ∀ w, (sizeOf e).run P w = .ok 1 w)
    (xs ys : List Nat) (hx : xs.length = n) (hy : ys.length = n) :
    (binOp .eql t (.agg (arr k xs)) (.agg (arr k ys))).run P w = .ok (.bool (xs == ys)) w := by
  rw [run_eql_struct, run_equalIn_arr w 9998 t e n k ht he hsz xs ys hx hy]
  rfl

theorem run_neq_arr {P : Program} (w : World) (t e : TypeId) (n : Nat) (k : IntKind) (ht : P.underlying t = some (.array n e)) (he : P.underlying e = some (.int k)) (hsz : ∀ w, (sizeOf e).run P w = .ok 1 w)
    (xs ys : List Nat) (hx : xs.length = n) (hy : ys.length = n) :
    (binOp .neq t (.agg (arr k xs)) (.agg (arr k ys))).run P w = .ok (.bool (!(xs == ys))) w := by
  rw [run_neq_struct, show (Op.equalIn 10000 t (.agg (arr k xs)) (.agg (arr k ys))).run P w = _ from run_equalIn_arr w 9998 t e n k ht he hsz xs ys hx hy]
  rfl

theorem size_one {P : Program} {e : TypeId} (h : (P.info? e).map (·.size) = some 1) (w : World) : (sizeOf e).run P w = .ok 1 w := by
  cases hq : P.info? e with
  | none => rw [hq] at h; cases h
  | some i =>
    rw [hq] at h
    have hs : i.size = 1 := by simpa using h
    simp [sizeOf, typeInfo, hq, hs]

theorem eql_w8 (l : List Nat) (hl : l.length = 8) (w : World) : (binOp .eql 85 (.agg (arr .u32 l)) (.agg (arr .u32 l))).run Tryd.prog w = .ok (.bool true) w := by
  rw [run_eql_arr w 85 84 8 .u32 Tryd.underlying85 Tryd.underlying84 (size_one (by kernel_rfl)) l l hl hl]
  simp

theorem eql_h32 (l : List Nat) (hl : l.length = 32) (w : World) : (binOp .eql 27 (.agg (arr .u8 l)) (.agg (arr .u8 l))).run Tryd.prog w = .ok (.bool true) w := by
  rw [run_eql_arr w 27 5 32 .u8 Tryd.underlying27 Tryd.underlying5 (size_one (by kernel_rfl)) l l hl hl]
  simp

theorem neq_h32 (l : List Nat) (hl : l.length = 32) (w : World) : (binOp .neq 27 (.agg (arr .u8 l)) (.agg (arr .u8 l))).run Tryd.prog w = .ok (.bool false) w := by
  rw [run_neq_arr w 27 5 32 .u8 Tryd.underlying27 Tryd.underlying5 (size_one (by kernel_rfl)) l l hl hl]
  simp

theorem exec_bin {P : Program} {o : Oper} {ev : Operand → Value} {w : World} (op : BinOp) (t : TypeId) (x y : Operand) (u : TypeId) (ho : o.op = .binOp op t x y u) (vx vy v : Value) (hx : ev x = vx) (hy : ev y = vy) (hq : (eqGuard op t x y vx vy).run P w = .ok () w) (hr : (binOp op t vx vy).run P w = .ok v w) :
    (execOp ev o).run P w = .ok (.value v) w := by
  unfold execOp
  simp only [ho, hx, hy, hq, hr, Sem.run_bind, Sem.run_pure, Result.andThen_ok]

/-- What Compress comes to, whatever the text. -/
def cres (h : List Nat) (bs : List UInt8) : List Nat := if bs.length = 64 then comp h bs else h
def cfl (bs : List UInt8) : Bool := decide (bs.length = 64)
theorem cres_len (h : List Nat) (bs : List UInt8) : (cres h bs).length = h.length := by unfold cres; split; exact comp_len _ _; rfl
theorem cres_ws {h : List Nat} (bs : List UInt8) (hw : Ws h) : Ws (cres h bs) := by unfold cres; split; exact comp_ws _ hw; exact hw

theorem comp_tot (h : List Nat) (bs : List UInt8) (w : World) (hh : h.length = 8) (hw : Ws h) (hg : Gl w) :
    Calls Tryd.prog 44 #[.agg (arr .u32 h), .string (str bs)] w fun ex w' => ex = .returned (.tuple #[.agg (arr .u32 (cres h bs)), .bool (cfl bs)]) ∧ Fr No w w' := by
  by_cases hb : bs.length = 64
  · have h1 := comp_ok h bs w hh hw hb hg
    simpa [cres, cfl, hb] using h1
  · have h1 := comp_no h bs w hh hb
    simpa [cres, cfl, hb] using h1
theorem rcomp_tot (h : List Nat) (bs : List UInt8) (w : World) (hh : h.length = 8) (hw : Ws h) :
    Calls Tryd.prog 37 #[.agg (arr .u64 h), .string (str bs)] w fun ex w' => ex = .returned (.tuple #[.agg (arr .u64 (cres h bs)), .bool (cfl bs)]) ∧ Fr No w w' := by
  by_cases hb : bs.length = 64
  · have h1 := rcomp_ok h bs w hh hw hb
    simpa [cres, cfl, hb] using h1
  · have h1 := rcomp_no h bs w hh hb
    simpa [cres, cfl, hb] using h1
end Go.Proofs.YtnpgcgemifoddaaDoor
