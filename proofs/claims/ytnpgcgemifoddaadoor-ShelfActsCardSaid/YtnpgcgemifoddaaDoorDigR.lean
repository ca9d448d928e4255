/- Arrays of numbers: a block that holds just these numbers ('Row'), loaded, stored, and turned cell by cell. -/
import Derived.Test.YtnpgcgemifoddaaDoorProg
import Derived.Test.YtnpgcgemifoddaaDoorDigM
import Derived.KernelRfl
import Derived.Deep.MidRow
import Derived.Laws.Tables
import Derived.Laws.CopyRow
namespace Go.Proofs.YtnpgcgemifoddaaDoor
open Go.RowKit
set_option linter.unusedVariables false

theorem fr_setRow {S : Nat → Prop} {a w : World} (h : Fr S a w) {g : Nat} (hg : S g ∨ a.heap.size ≤ g) (cs : Array Value) : Fr S a (w.setRow g cs) :=
  ⟨h.os, h.tape, h.output, Nat.le_trans h.size (by simp), fun k hk hn => (setRow_other w g k cs (by rcases hg with hg | hg; exact fun e => hn (e ▸ hg); omega)).trans (h.block k hk hn)⟩

/-- A load, and a store, by an equation on their run. -/
theorem wpList_load_eq {P : Program} {ops : Array Oper} {rest : List Oper} {o : Oper} {a : Act} {w w' : World} {Q : Exit → Act → World → Prop} (hgd : o.guard = none) (ty : TypeId) (x : Operand) (ho : o.op = .load ty x)
    (p v : Value) (hx : a.eval x = p) (hr : (Instr.loadAt ty p).run P w = .ok v w') (h : wpList P ops Q rest (a.put o.dst v) w') : wpList P ops Q (o :: rest) a w :=
  wpList_plain hgd fun _ hK => by
    unfold Oper.wp execOp
    simp only [ho, hx, hr, Sem.run_bind, Sem.run_pure, Result.andThen_ok]
    exact hK _ _ h

theorem wpList_store_eq {P : Program} {ops : Array Oper} {rest : List Oper} {o : Oper} {a : Act} {w w' : World} {Q : Exit → Act → World → Prop} (hgd : o.guard = none) (ty : TypeId) (x y : Operand) (ho : o.op = .store ty x y)
    (p v : Value) (hx : a.eval x = p) (hy : a.eval y = v) (hr : (Instr.storeAt ty p v).run P w = .ok () w') (h : wpList P ops Q rest (a.put o.dst undef) w') : wpList P ops Q (o :: rest) a w :=
  wpList_plain hgd fun _ hK => by
    unfold Oper.wp execOp
    simp only [ho, hx, hy, hr, Sem.run_bind, Sem.run_pure, Result.andThen_ok]
    exact hK _ _ h

theorem wpList_load_eqG {P : Program} {ops : Array Oper} {rest : List Oper} {o : Oper} {a : Act} {w w' : World} {Q : Exit → Act → World → Prop} (ty : TypeId) (x : Operand) (ho : o.op = .load ty x)
    (p v : Value) (hx : a.eval x = p) (hr : (Instr.loadAt ty p).run P w = .ok v w') (hw : Region.wanted o (yielded ops a.tmps) = true) (h : wpList P ops Q rest (a.put o.dst v) w') : wpList P ops Q (o :: rest) a w :=
  wpList_step fun _ hK => by
    rw [if_pos hw]
    unfold Oper.wp execOp
    simp only [ho, hx, hr, Sem.run_bind, Sem.run_pure, Result.andThen_ok]
    exact hK _ _ h

/-- The world as a letter. -/
theorem wp_world {P : Program} {c : Code} {Q : Exit → Act → World → Prop} {a : Act} {w0 : World} (S : World → Prop) (h0 : S w0) (h : ∀ W, S W → c.wp P Q a W) : c.wp P Q a w0 := h _ h0
theorem wpList_world {P : Program} {ops : Array Oper} {l : List Oper} {Q : Exit → Act → World → Prop} {a : Act} {w0 : World} (S : World → Prop) (h0 : S w0) (h : ∀ W, S W → wpList P ops Q l a W) : wpList P ops Q l a w0 := h _ h0

abbrev vi (k : IntKind) (n : Nat) : Value := .int k (n : Int)
abbrev arr (k : IntKind) (l : List Nat) : Array Value := (l.map (vi k)).toArray

theorem arr_size (k : IntKind) (l : List Nat) : (arr k l).size = l.length := by simp
theorem arr_one (k : IntKind) (l : List Nat) : (arr k l).all (·.oneCell') = true :=
  all_oneCell_toArray fun v hv => by
    obtain ⟨n, _, rfl⟩ := List.mem_map.1 hv
    rfl

/-- The block b holds these numbers, and may be written. -/
def Row (w : World) (b : Nat) (t : TypeId) (k : IntKind) (l : List Nat) : Prop := w.heap[b]? = some (.cells (arr k l) t (0, 0))

section
variable {w w' : World} {b : Nat} {t : TypeId} {k : IntKind} {l : List Nat}

theorem Row.lt (h : Row w b t k l) : b < w.heap.size := (Array.getElem?_eq_some_iff.1 h).1
theorem Row.cell (h : Row w b t k l) {i x : Nat} (hx : l[i]? = some x) : w.cell? ⟨b, i, none⟩ = some (.int k (x : Int)) := by
  rw [cell_of_row w b i _ t (0, 0) h]
  simp [hx]
theorem Row.cellD (h : Row w b t k l) {i : Nat} (hi : i < l.length) : w.cell? ⟨b, i, none⟩ = some (.int k (l.getD i 0 : Int)) := by
  refine h.cell ?_
  rw [List.getD_eq_getElem?_getD, List.getElem?_eq_getElem hi]
  rfl
theorem Row.frozen (h : Row w b t k l) (i : Nat) : w.frozen? ⟨b, i, none⟩ = false := by
  unfold World.frozen?
  rw [show w.heap[(⟨b, i, none⟩ : Addr).block]? = _ from h]
  simp
theorem Row.fr {S : Nat → Prop} (h : Row w b t k l) (f : Fr S w w') (hn : ¬ S b) : Row w' b t k l := (f.block b h.lt hn).trans h
theorem Row.set (h : Row w b t k l) (i x : Nat) : Row (w.setCell ⟨b, i, none⟩ (.int k (x : Int))) b t k (l.set i x) := by
  have hlt := h.lt
  have hv := (Array.getElem?_eq_some_iff.1 h).2
  unfold Row World.setCell
  show (w.heap.modify b _)[b]? = _
  rw [Array.getElem?_modify, if_pos rfl, Array.getElem?_eq_getElem hlt, hv]
  simp [List.map_set]
theorem Row.set_other (h : Row w b t k l) {c i : Nat} (hn : c ≠ b) (v : Value) : Row (w.setCell ⟨c, i, none⟩ v) b t k l := by
  unfold Row at *
  rw [Below.heap_setCell _ _ _ _ (Ne.symm hn)]
  exact h
theorem Row.alloc (h : Row w b t k l) (o : Obj) : Row (w.alloc o) b t k l := (Below.heap_alloc _ _ _ h.lt).trans h
theorem Row.drew (h : Row w b t k l) : Row w.drew b t k l := h
theorem Row.new (w : World) (t : TypeId) (k : IntKind) (l : List Nat) : Row (w.alloc (.cells (arr k l) t)) w.heap.size t k l := heap_alloc_new w _
theorem Row.setRow {l' : List Nat} (h : Row w b t k l) : Row (w.setRow b (arr k l')) b t k l' := setRow_heap _ _ _ _ _ _ h
end

/-- A type of arrays of numbers. -/
structure Ar (P : Program) (t : TypeId) (n : Nat) : Prop where
  under : ∃ e, P.underlying t = some (.array n e)
  info : (P.info? t).map (·.size) = some n

theorem Row.load {P : Program} {w : World} {b : Nat} {t t' : TypeId} {k : IntKind} {l : List Nat} {n : Nat} (h : Row w b t' k l) (ht : Ar P t n) (hl : l.length = n) :
    (Instr.loadAt t (.pointer (some ⟨b, 0, none⟩))).run P w = .ok (.agg (arr k l)) w := by
  obtain ⟨e, he⟩ := ht.under
  simp only [Instr.loadAt, Instr.sureAddr, Sem.run_bind, Sem.run_pure, Result.andThen_ok, run_loadVar_row w b t' t (arr k l) (0, 0) _ h he rfl (by rw [ht.info, arr_size, hl])]

theorem wpList_store_row {P : Program} {ops : Array Oper} {rest : List Oper} {o : Oper} {a : Act} {w : World} {Q : Exit → Act → World → Prop} (hgd : o.guard = none) (ty : TypeId) (x y : Operand) (ho : o.op = .store ty x y)
    (b : Nat) (hx : a.eval x = .pointer (some ⟨b, 0, none⟩)) (cells : Array Value) (hy : a.eval y = .agg cells) {t : TypeId} {k : IntKind} {l : List Nat} (hr : Row w b t k l) {n : Nat}
    (hi : Ar P ty n) (hl : l.length = n) (hs : cells.size = n) (h1 : cells.all (·.oneCell') = true)
    (h : wpList P ops Q rest (a.put o.dst undef) (w.setRow b cells)) : wpList P ops Q (o :: rest) a w :=
  wpList_store_eq hgd ty x y ho _ _ hx hy (by
    simp only [Instr.storeAt, Instr.sureAddr, Sem.run_bind, Sem.run_pure, Result.andThen_ok]
    exact run_storeVar_row w b t ty (arr k l) cells hr (by rw [hi.info, hs]) (by rw [arr_size, hl, hs]) h1) h

theorem wp_store_row {P : Program} {op : Oper} {a : Act} {w : World} {K : Act → World → Prop} {Q : Exit → Act → World → Prop} (ty : TypeId) (x y : Operand) (ho : op.op = .store ty x y)
    (b : Nat) (hx : a.eval x = .pointer (some ⟨b, 0, none⟩)) (cells : Array Value) (hy : a.eval y = .agg cells) {t : TypeId} {k : IntKind} {l : List Nat} (hr : Row w b t k l) {n : Nat}
    (hi : Ar P ty n) (hl : l.length = n) (hs : cells.size = n) (h1 : cells.all (·.oneCell') = true)
    (h : K (a.put op.dst undef) (w.setRow b cells)) : op.wp P a w K Q := by
  unfold Oper.wp execOp
  have hst : (storeVar ty ⟨b, 0, none⟩ (.agg cells)).run P w = .ok () (w.setRow b cells) := run_storeVar_row w b t ty (arr k l) cells hr (by rw [hi.info, hs]) (by rw [arr_size, hl, hs]) h1
  simp only [ho, hx, hy, Instr.storeAt, Instr.sureAddr, Sem.run_bind, Sem.run_pure, Result.andThen_ok, hst]
  exact h

theorem Row.loadVar {P : Program} {w : World} {b : Nat} {t t' : TypeId} {k : IntKind} {l : List Nat} {n : Nat} (h : Row w b t' k l) (ht : Ar P t n) (hl : l.length = n) :
    (Go.loadVar t ⟨b, 0, none⟩).run P w = .ok (.agg (arr k l)) w := by
  obtain ⟨e, he⟩ := ht.under
  exact run_loadVar_row w b t' t (arr k l) (0, 0) _ h he rfl (by rw [ht.info, arr_size, hl])

theorem Row.store {P : Program} {w : World} {b : Nat} {t t' : TypeId} {k : IntKind} {l l' : List Nat} {n : Nat} (h : Row w b t' k l) (ht : Ar P t n) (hl : l.length = n) (hl' : l'.length = n) :
    (Instr.storeAt t (.pointer (some ⟨b, 0, none⟩)) (.agg (arr k l'))).run P w = .ok () (w.setRow b (arr k l')) := by
  simp only [Instr.storeAt, Instr.sureAddr, Sem.run_bind, Sem.run_pure, Result.andThen_ok]
  exact run_storeVar_row w b t' t (arr k l) (arr k l') h (by rw [ht.info, arr_size, hl']) (by rw [arr_size, arr_size, hl, hl']) (arr_one k l')

/-- A store of a whole array: the row behind it, and what stands. -/
theorem Row.stored {P : Program} {w : World} {b : Nat} {t t' : TypeId} {k : IntKind} {l l' : List Nat} {n : Nat} (h : Row w b t' k l) (ht : Ar P t n) (hl : l.length = n) (hl' : l'.length = n) :
    ∃ V, (Instr.storeAt t (.pointer (some ⟨b, 0, none⟩)) (.agg (arr k l'))).run P w = .ok () V ∧ Row V b t' k l' ∧ Fr (· = b) w V :=
  ⟨_, h.store ht hl hl', h.setRow, fr_setRow (Fr.refl (fun k => k = b) _) (.inl rfl) _⟩

/-- One result that lies in a variable; two, of which the first does. -/
theorem results_cell1 {P : Program} {fn : Func} {p : Tmp} {t : TypeId} (h : fn.results = #[.cell p t]) {tmps : Array Value} {w : World} {a : Addr} {x : Value}
    (hp : tmps.getD p undef = .pointer (some a)) (hx : (Go.loadVar t a).run P w = .ok x w) : (results fn tmps).run P w = .ok x w := by
  have hp' : tmps[p]?.getD undef = .pointer (some a) := by simpa using hp
  simp [results, h, hp', asAddr, hx]

theorem results_cellT {P : Program} {fn : Func} {p q : Tmp} {t : TypeId} (h : fn.results = #[.cell p t, .tmp q]) {tmps : Array Value} {w : World} {a : Addr} {x y : Value}
    (hp : tmps.getD p undef = .pointer (some a)) (hq : tmps.getD q undef = y) (hx : (Go.loadVar t a).run P w = .ok x w) : (results fn tmps).run P w = .ok (.tuple #[x, y]) w := by
  have hp' : tmps[p]?.getD undef = .pointer (some a) := by simpa using hp
  have hq' : tmps[q]?.getD undef = y := by simpa using hq
  simp [results, h, hp', hq', asAddr, hx]

theorem arW8 : Ar Tryd.prog 85 8 := ⟨⟨_, Tryd.underlying85⟩, by kernel_rfl⟩
theorem arW64 : Ar Tryd.prog 92 64 := ⟨⟨_, Tryd.underlying92⟩, by kernel_rfl⟩
theorem arQ8 : Ar Tryd.prog 78 8 := ⟨⟨_, Tryd.underlying78⟩, by kernel_rfl⟩
theorem arQ64 : Ar Tryd.prog 87 64 := ⟨⟨_, Tryd.underlying87⟩, by kernel_rfl⟩
theorem arHash : Ar Tryd.prog 27 32 := ⟨⟨_, Tryd.underlying27⟩, by kernel_rfl⟩

/-- The two variables of the package. -/
structure Gl (w : World) : Prop where
  start : w.rangeAt 0 0 (H0.map (vi .u32))
  k : w.rangeAt 1 0 (KL.map (vi .u32))

theorem rangeAt_fr {S : Nat → Prop} {w w' : World} {b o : Nat} {cs : List Value} (h : w.rangeAt b o cs) (f : Fr S w w') (hn : ¬ S b) : w'.rangeAt b o cs := fun j v hv => f.cell hn (h j v hv)
theorem Gl.fr {S : Nat → Prop} {w w' : World} (h : Gl w) (f : Fr S w w') (hn : ∀ k, k < 2 → ¬ S k) : Gl w' := ⟨rangeAt_fr h.start f (hn 0 (by omega)), rangeAt_fr h.k f (hn 1 (by omega))⟩
theorem Gl.two {w : World} (h : Gl w) : 2 ≤ w.heap.size := by
  have h1 := lt_cell (h.k 0 _ (by rfl))
  have h2 := lt_cell (h.start 0 _ (by rfl))
  omega
theorem Gl.cellK {w : World} (h : Gl w) {i : Nat} (hi : i < 64) : w.cell? ⟨1, i, none⟩ = some (.int .u32 (KL.getD i 0 : Int)) := by
  have h1 := h.k i (.int .u32 (KL.getD i 0 : Int)) (by
    rw [List.getElem?_map, List.getD_eq_getElem?_getD, List.getElem?_eq_getElem (by rw [KL_len]; exact hi)]
    rfl)
  rwa [Nat.zero_add] at h1
theorem Gl.load {w : World} (h : Gl w) : (Instr.loadAt 85 (.pointer (some ⟨0, 0, none⟩))).run Tryd.prog w = .ok (.agg (arr .u32 H0)) w :=
  run_loadAt_mid w 0 0 85 (H0.map (vi .u32)) _ h.start Tryd.underlying85 rfl (by kernel_rfl)

end Go.Proofs.YtnpgcgemifoddaaDoor
