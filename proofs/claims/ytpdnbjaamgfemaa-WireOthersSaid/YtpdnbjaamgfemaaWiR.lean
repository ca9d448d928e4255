/- Messages in memory: their cells, loads of a field and of all, '=='. -/
import Derived.Test.YtpdnbjaamgfemaaProg
import Derived.Test.YtpdnbjaamgfemaaWiM
import Derived.Test.YtpdnbjaamgfemaaBlk
import Derived.Test.YtpdnbjaamgfemaaTy8
import Derived.Laws.StructEq
import Derived.Stop.BytesEq
namespace Go.Proofs.Ytpdnbjaamgfemaa
open Go.RowKit
set_option linter.unusedVariables false
set_option maxRecDepth 100000

def cellsM (m : Msg) : List Value := [.int .i64 m.k, .int .u32 (m.c : Int), .int .u64 (m.i : Int), .int .u64 (m.a : Int)] ++ (m.h.map u8v ++ [.int .i64 m.e, .int .i64 m.n])
abbrev vM (m : Msg) : Value := .agg (cellsM m).toArray
theorem cellsM_len (m : Msg) (h : m.h.length = 32) : (cellsM m).length = 38 := by simp [cellsM, h]
theorem cellsM_one (m : Msg) : (cellsM m).toArray.all (·.oneCell') = true :=
  all_oneCell_toArray fun v hv => by
    simp only [cellsM, List.mem_append, List.mem_cons, List.mem_map, List.not_mem_nil, or_false] at hv
    rcases hv with (rfl | rfl | rfl | rfl) | ⟨b, _, rfl⟩ | rfl | rfl <;> rfl

/-- A type of messages: the layer's, or the document's. -/
structure MT (t : TypeId) : Prop where
  under : ∃ d, Try.prog.underlying t = some d ∧ d.isRow = true
  info : (Try.prog.info? t).map (·.size) = some 38
  alloc : ∀ w, (Instr.alloc t true (.tuple #[])).run Try.prog w = .ok (.pointer (some ⟨w.heap.size, 0, none⟩)) (w.alloc (.cells (cellsM zeroM).toArray t))
  two : ∀ (K : Int) (C : Nat) (w : World), (Instr.build t #[(0, .int .i64 K), (1, .int .u32 (C : Int))]).run Try.prog w = .ok (vM ⟨K, C, 0, 0, zeroH, 0, 0⟩) w
  build : ∀ w, (Instr.build t #[]).run Try.prog w = .ok (vM zeroM) w
  eq : ∀ (xs ys : Array Value) (w : World), (binOp .eql t (.agg xs) (.agg ys)).run Try.prog w = ((Op.eqFields 9999 xs ys (Try.prog.fieldsOf t).toList).run Try.prog w).andThen fun b w' => .ok (.bool b) w'
  neq : ∀ (xs ys : Array Value) (w : World), (binOp .neq t (.agg xs) (.agg ys)).run Try.prog w = ((Op.eqFields 9999 xs ys (Try.prog.fieldsOf t).toList).run Try.prog w).andThen fun b w' => .ok (.bool (!b)) w'
  fields : (Try.prog.fieldsOf t).toList.map (fun f => (f.name == "_", f.type, f.offset)) = [(false, 3, 0), (false, 22, 1), (false, 23, 2), (false, 23, 3), (false, 25, 4), (false, 3, 36), (false, 3, 37)]

theorem mt_msg : MT 27 := by
  refine ⟨⟨_, Try.underlying27, rfl⟩, by kernel_rfl, fun w => by kernel_rfl, fun K C w => by kernel_rfl, fun w => by kernel_rfl, fun xs ys w => ?_, fun xs ys w => ?_, by kernel_rfl⟩
  · rw [run_eql_struct, run_equalIn_struct w 9999 27 xs ys (by kernel_rfl) (by kernel_rfl)]
  · rw [run_neq_struct, run_equalIn_struct w 9999 27 xs ys (by kernel_rfl) (by kernel_rfl)]
theorem mt_msg7 : MT 32 := by
  refine ⟨⟨_, Try.underlying32, rfl⟩, by kernel_rfl, fun w => by kernel_rfl, fun K C w => by kernel_rfl, fun w => by kernel_rfl, fun xs ys w => ?_, fun xs ys w => ?_, by kernel_rfl⟩
  · rw [run_eql_struct, run_equalIn_struct w 9999 32 xs ys (by kernel_rfl) (by kernel_rfl)]
  · rw [run_neq_struct, run_equalIn_struct w 9999 32 xs ys (by kernel_rfl) (by kernel_rfl)]

section
variable {w w' : World} {b : Nat} {t : TypeId} {m : Msg}

theorem msg_k (h : Blk w b t (cellsM m)) : w.cell? ⟨b, 0, none⟩ = some (.int .i64 m.k) := h.cell rfl
theorem msg_c (h : Blk w b t (cellsM m)) : w.cell? ⟨b, 1, none⟩ = some (.int .u32 (m.c : Int)) := h.cell rfl
theorem msg_i (h : Blk w b t (cellsM m)) : w.cell? ⟨b, 2, none⟩ = some (.int .u64 (m.i : Int)) := h.cell rfl
theorem msg_a (h : Blk w b t (cellsM m)) : w.cell? ⟨b, 3, none⟩ = some (.int .u64 (m.a : Int)) := h.cell rfl
theorem msg_e (h : Blk w b t (cellsM m)) (hl : m.h.length = 32) : w.cell? ⟨b, 36, none⟩ = some (.int .i64 m.e) := h.cell (by
  have e : (m.h.map u8v).length = 32 := by rw [List.length_map]; exact hl
  simp [cellsM, e])
theorem msg_n (h : Blk w b t (cellsM m)) (hl : m.h.length = 32) : w.cell? ⟨b, 37, none⟩ = some (.int .i64 m.n) := h.cell (by
  have e : (m.h.map u8v).length = 32 := by rw [List.length_map]; exact hl
  simp [cellsM, e])
theorem msg_h (h : Blk w b t (cellsM m)) (hl : m.h.length = 32) : (Instr.loadAt 25 (.pointer (some ⟨b, 4, none⟩))).run Try.prog w = .ok (.agg (m.h.map u8v).toArray) w :=
  load_range _ (h.range (o := 4) (l := m.h.map u8v) (fun j v hv => by
    have hj := (List.getElem?_eq_some_iff.1 hv).1
    rw [cellsM, List.getElem?_append_right (by simp), show 4 + j - List.length [Value.int .i64 m.k, .int .u32 (m.c : Int), .int .u64 (m.i : Int), .int .u64 (m.a : Int)] = j by simp, List.getElem?_append_left hj]
    exact hv)) Try.underlying25 rfl (by rw [List.length_map, hl]; kernel_rfl) _ rfl
theorem msg_load {s : TypeId} (h : Blk w b t (cellsM m)) (hl : m.h.length = 32) (ht : MT s) : (Instr.loadAt s (.pointer (some ⟨b, 0, none⟩))).run Try.prog w = .ok (vM m) w := by
  obtain ⟨d, hd, hr⟩ := ht.under
  exact load_range d h.whole hd hr (by rw [ht.info, cellsM_len m hl]) _ rfl
theorem msg_loadVar {s : TypeId} (h : Blk w b t (cellsM m)) (hl : m.h.length = 32) (ht : MT s) : (Go.loadVar s ⟨b, 0, none⟩).run Try.prog w = .ok (vM m) w := by
  obtain ⟨d, hd, hr⟩ := ht.under
  exact run_loadVar_mid w b 0 s (cellsM m) d h.whole hd hr (by rw [ht.info, cellsM_len m hl])
theorem msg_store {s : TypeId} {x : Msg} (h : Blk w b t (cellsM x)) (hx : x.h.length = 32) (hl : m.h.length = 32) (ht : MT s) :
    ∃ V, (Instr.storeAt s (.pointer (some ⟨b, 0, none⟩)) (vM m)).run Try.prog w = .ok () V ∧ Blk V b t (cellsM m) ∧ Fr (· = b) w V :=
  h.stored (cellsM m) (by rw [cellsM_len m hl, cellsM_len x hx]) (by rw [ht.info, cellsM_len m hl]) (cellsM_one m)
end

/-- '==' of messages. -/
theorem sizeHash (w : World) : (sizeOf 25).run Try.prog w = .ok 32 w := by
  have h : (Try.prog.info? 25).map (·.size) = some 32 := by kernel_rfl
  cases hq : Try.prog.info? 25 with
  | none => rw [hq] at h; cases h
  | some i =>
    rw [hq] at h
    have hs : i.size = 32 := by simpa using h
    simp [sizeOf, typeInfo, hq, hs]
theorem sizeByte (w : World) : (sizeOf 5).run Try.prog w = .ok 1 w := by
  have h := Try.infoU8'
  cases hq : Try.prog.info? 5 with
  | none => rw [hq] at h; cases h
  | some i =>
    rw [hq] at h
    have hs : i.size = 1 := by simpa using h
    simp [sizeOf, typeInfo, hq, hs]
theorem part_hash (m : Msg) (hl : m.h.length = 32) (w : World) : (part 25 (cellsM m).toArray 4).run Try.prog w = .ok (.agg (m.h.map u8v).toArray) w := by
  have e : List.take 32 (List.drop 4 (cellsM m)) = m.h.map u8v := by
    have e1 : (m.h.map u8v).length = 32 := by rw [List.length_map]; exact hl
    rw [cellsM, List.drop_append_of_le_length (by simp), List.drop_of_length_le (by simp), List.nil_append, ← e1]
    exact List.take_left
  simp [part, isAgg, run_underlying Try.underlying25, e]
theorem part_int {t : TypeId} {k : IntKind} (ht : Try.prog.underlying t = some (.int k)) {xs : List Value} {o : Nat} {v : Value} (hv : xs[o]? = some v) (w : World) : (part t xs.toArray o).run Try.prog w = .ok v w := by
  simp [part, isAgg, run_underlying ht, hv]
theorem eq_step {d : Nat} {xs : Array Value} {f : Field} {fs : List Field} {w : World} {t o : Nat} {v : Value} (hf : (f.name == "_", f.type, f.offset) = (false, t, o)) (hp : (part t xs o).run Try.prog w = .ok v w) (he : (Op.equalIn d t v v).run Try.prog w = .ok true w) :
    (Op.eqFields d xs xs (f :: fs)).run Try.prog w = (Op.eqFields d xs xs fs).run Try.prog w := by
  have h1 : (f.name == "_") = false := congrArg Prod.fst hf
  have h2 : f.type = t := congrArg (fun x => x.2.1) hf
  have h3 : f.offset = o := congrArg (fun x => x.2.2) hf
  have h4 : f.name ≠ "_" := by simpa using h1
  rw [Op.eqFields, if_pos h4, h2, h3]
  simp only [Sem.run_bind, hp, he, Result.andThen_ok, Bool.not_true, Bool.false_eq_true, if_false]
theorem eqInt {t : TypeId} {k k' : IntKind} (ht : Try.prog.underlying t = some (.int k')) (a : Int) (w : World) : (Op.equalIn 9999 t (.int k a) (.int k a)).run Try.prog w = .ok true w := by
  rw [run_equalIn_int w 9998 t k k' a a ht]
  simp
theorem eqFields_same (m : Msg) (hl : m.h.length = 32) {t : TypeId} (ht : MT t) (w : World) : (Op.eqFields 9999 (cellsM m).toArray (cellsM m).toArray (Try.prog.fieldsOf t).toList).run Try.prog w = .ok true w := by
  have e1 : (m.h.map u8v).length = 32 := by rw [List.length_map]; exact hl
  have c36 : (cellsM m)[36]? = some (.int .i64 m.e) := by simp [cellsM, e1]
  have c37 : (cellsM m)[37]? = some (.int .i64 m.n) := by simp [cellsM, e1]
  have hh : (Op.equalIn 9999 25 (.agg (m.h.map u8v).toArray) (.agg (m.h.map u8v).toArray)).run Try.prog w = .ok true w := by
    have h := run_equalIn_bytes w 9997 25 5 32 Try.underlying25 Try.underlying5 sizeByte m.h m.h hl hl
    rw [beq_self_eq_true] at h
    exact h
  obtain ⟨f0, l0, e0, h0, r0⟩ := List.map_eq_cons_iff.1 ht.fields
  obtain ⟨f1, l1, rfl, h1, r1⟩ := List.map_eq_cons_iff.1 r0
  obtain ⟨f2, l2, rfl, h2, r2⟩ := List.map_eq_cons_iff.1 r1
  obtain ⟨f3, l3, rfl, h3, r3⟩ := List.map_eq_cons_iff.1 r2
  obtain ⟨f4, l4, rfl, h4, r4⟩ := List.map_eq_cons_iff.1 r3
  obtain ⟨f5, l5, rfl, h5, r5⟩ := List.map_eq_cons_iff.1 r4
  obtain ⟨f6, l6, rfl, h6, r6⟩ := List.map_eq_cons_iff.1 r5
  obtain rfl : l6 = [] := List.map_eq_nil_iff.1 r6
  rw [e0, eq_step h0 (part_int Try.underlying3 (by rfl) w) (eqInt Try.underlying3 _ w), eq_step h1 (part_int Try.underlying22 (by rfl) w) (eqInt Try.underlying22 _ w), eq_step h2 (part_int Try.underlying23 (by rfl) w) (eqInt Try.underlying23 _ w),
    eq_step h3 (part_int Try.underlying23 (by rfl) w) (eqInt Try.underlying23 _ w), eq_step h4 (part_hash m hl w) hh, eq_step h5 (part_int Try.underlying3 c36 w) (eqInt Try.underlying3 _ w), eq_step h6 (part_int Try.underlying3 c37 w) (eqInt Try.underlying3 _ w)]
  rfl
theorem eql_msg (m : Msg) (hl : m.h.length = 32) {t : TypeId} (ht : MT t) (w : World) : (binOp .eql t (vM m) (vM m)).run Try.prog w = .ok (.bool true) w := by
  rw [ht.eq, eqFields_same m hl ht]
  rfl
theorem neq_msg (m : Msg) (hl : m.h.length = 32) {t : TypeId} (ht : MT t) (w : World) : (binOp .neq t (vM m) (vM m)).run Try.prog w = .ok (.bool false) w := by
  rw [ht.neq, eqFields_same m hl ht]
  rfl
theorem eql_hashM (hs gs : List UInt8) (h1 : hs.length = 32) (h2 : gs.length = 32) (w : World) :
    (binOp .eql 25 (.agg (hs.map u8v).toArray) (.agg (gs.map u8v).toArray)).run Try.prog w = .ok (.bool (hs == gs)) w :=
  run_eql_bytes w 25 5 32 Try.underlying25 Try.underlying5 sizeByte hs gs h1 h2
end Go.Proofs.Ytpdnbjaamgfemaa
