/- A block that holds cells of any kind ('Blk'), and a shelf's block: loads and stores at its places. -/
import Derived.Test.YtnpgcgemifoddaaDoorShM
import Derived.Test.YtnpgcgemifoddaaDoorRowIn
import Derived.Test.YtnpgcgemifoddaaDoorHar
namespace Go.Proofs.YtnpgcgemifoddaaDoor
open Go.RowKit Go.Shelf
set_option linter.unusedVariables false

/-- The block b holds these cells, and may be written. -/
def Blk (w : World) (b : Nat) (t : TypeId) (cs : List Value) : Prop := w.heap[b]? = some (.cells cs.toArray t (0, 0))

section
variable {w w' : World} {b : Nat} {t : TypeId} {cs : List Value}
theorem Blk.lt (h : Blk w b t cs) : b < w.heap.size := (Array.getElem?_eq_some_iff.1 h).1
theorem Blk.cell (h : Blk w b t cs) {i : Nat} {v : Value} (hv : cs[i]? = some v) : w.cell? ⟨b, i, none⟩ = some v := by
  rw [cell_of_row w b i _ t (0, 0) h]
  simpa using hv
theorem Blk.frozen (h : Blk w b t cs) (i : Nat) : w.frozen? ⟨b, i, none⟩ = false := by
  unfold World.frozen?
  rw [show w.heap[(⟨b, i, none⟩ : Addr).block]? = _ from h]
  simp
theorem Blk.fr {S : Nat → Prop} (h : Blk w b t cs) (f : Fr S w w') (hn : ¬ S b) : Blk w' b t cs := (f.block b h.lt hn).trans h
theorem Blk.set (h : Blk w b t cs) (i : Nat) (v : Value) : Blk (w.setCell ⟨b, i, none⟩ v) b t (cs.set i v) := by
  have hlt := h.lt
  have hv := (Array.getElem?_eq_some_iff.1 h).2
  unfold Blk World.setCell
  show (w.heap.modify b _)[b]? = _
  rw [Array.getElem?_modify, if_pos rfl, Array.getElem?_eq_getElem hlt, hv]
  simp
theorem Blk.set_other (h : Blk w b t cs) {c i : Nat} (hn : c ≠ b) (v : Value) : Blk (w.setCell ⟨c, i, none⟩ v) b t cs := (Below.heap_setCell _ _ _ _ (Ne.symm hn)).trans h
theorem Blk.alloc (h : Blk w b t cs) (o : Obj) : Blk (w.alloc o) b t cs := (Below.heap_alloc _ _ _ h.lt).trans h
theorem Blk.new (w : World) (t : TypeId) (cs : List Value) : Blk (w.alloc (.cells cs.toArray t)) w.heap.size t cs := heap_alloc_new w _
theorem Blk.grown {row : Option Nat} (h : Blk w b t cs) (hg : w.grownBy w' row) (hr : ∀ r, row = some r → ∃ o : Obj, w.heap[r]? = some o ∧ o.isCells = false) : Blk w' b t cs :=
  (hg.block b h.lt (fun e => by
    obtain ⟨o, ho, hc⟩ := hr b e.symm
    rw [show w.heap[b]? = _ from h] at ho
    cases ho
    cases hc)).trans h
theorem Blk.isCells (h : Blk w b t cs) : ∀ i o, i = b → w.heap[i]? = some o → o.isCells = true := fun i o e ho => by
  subst e
  rw [show w.heap[i]? = _ from h] at ho
  cases ho
  rfl
theorem Blk.range (h : Blk w b t cs) {o : Nat} {l : List Value} (hl : ∀ j v, l[j]? = some v → cs[o + j]? = some v) : w.rangeAt b o l := fun j v hv => h.cell (hl j v hv)
theorem Blk.whole (h : Blk w b t cs) : w.rangeAt b 0 cs := h.range (fun j v hv => by rw [Nat.zero_add]; exact hv)
theorem Blk.there (h : Blk w b t cs) {o n : Nat} (hn : o + n ≤ cs.length) : w.there b o n := fun j hj =>
  ⟨by rw [h.cell (List.getElem?_eq_getElem (by omega))]; rfl, h.frozen _⟩
theorem blk_of_row {k : IntKind} {l : List Nat} (h : Row w b t k l) : Blk w b t (l.map (vi k)) := h
end

/-- Some cells in place of those from o on. -/
def putL (cs : List Value) (o : Nat) : List Value → List Value
  | [] => cs
  | v :: r => putL (cs.set o v) (o + 1) r
theorem Blk.setCells {b : Nat} {t : TypeId} : ∀ (vs : List Value) (o : Nat) (w : World) (cs : List Value), Blk w b t cs → Blk (w.setCells b o vs) b t (putL cs o vs)
  | [], _, _, _, h => h
  | v :: r, o, w, cs, h => Blk.setCells r (o + 1) _ _ (h.set o v)
theorem fr_setCells {b : Nat} : ∀ (vs : List Value) (o : Nat) (w a : World) (S : Nat → Prop), (S b ∨ a.heap.size ≤ b) → Fr S a w → Fr S a (w.setCells b o vs)
  | [], _, _, _, _, _, h => h
  | v :: r, o, w, a, S, hS, h => fr_setCells r (o + 1) _ a S hS (h.setCell (p := ⟨b, o, none⟩) hS v)
theorem putL_mid : ∀ (y A x C : List Value), x.length = y.length → putL (A ++ (x ++ C)) A.length y = A ++ (y ++ C)
  | [], A, x, C, h => by
    obtain rfl : x = [] := List.eq_nil_of_length_eq_zero (by simpa using h)
    rfl
  | v :: r, A, x, C, h => by
    match x, h with
    | u :: x, h =>
      have h1 : (A ++ (u :: x ++ C)).set A.length v = (A ++ [v]) ++ (x ++ C) := by simp
      rw [putL, h1, show A.length + 1 = (A ++ [v]).length by simp, putL_mid r (A ++ [v]) x C (by simpa using h)]
      simp

/-! ### Entries -/
def Ent.cells (e : Ent) : List Value := .bool e.has :: .int .i64 (e.n : Int) :: e.s.map (vi .u8)
theorem Ent.size (e : Ent) : e.cells.length = 34 := by
  have := e.hs.len
  simp [Ent.cells, this]
theorem Ent.one (e : Ent) : e.cells.toArray.all (·.oneCell') = true :=
  all_oneCell_toArray fun v hv => by
    simp only [Ent.cells, List.mem_cons, List.mem_map] at hv
    rcases hv with rfl | rfl | ⟨n, _, rfl⟩ <;> rfl

def flat : List Ent → List Value
  | [] => []
  | e :: L => e.cells ++ flat L
theorem flat_len : ∀ L, (flat L).length = 34 * L.length
  | [] => rfl
  | e :: L => by
    have h1 := e.size
    have h2 := flat_len L
    simp only [flat, List.length_append, List.length_cons]
    omega
theorem flat_one (L : List Ent) : (flat L).toArray.all (·.oneCell') = true :=
  all_oneCell_toArray (by
    induction L with
    | nil => intro v hv; cases hv
    | cons e L ih =>
      intro v hv
      rcases List.mem_append.1 hv with h | h
      · exact (Array.all_eq_true_iff_forall_mem.1 e.one) v (by simpa using h)
      · exact ih v h)
theorem flat_get : ∀ (L : List Ent) (i : Nat) (e : Ent), L[i]? = some e → ∀ j v, e.cells[j]? = some v → (flat L)[i * 34 + j]? = some v
  | [], i, e, h, _, _, _ => by simp at h
  | d :: L, 0, e, h, j, v, hv => by
    obtain rfl : d = e := by simpa using h
    have hj := (List.getElem?_eq_some_iff.1 hv).1
    rw [flat, Nat.zero_mul, Nat.zero_add, List.getElem?_append_left hj]
    exact hv
  | d :: L, i + 1, e, h, j, v, hv => by
    have := flat_get L i e (by simpa using h) j v hv
    rw [flat, List.getElem?_append_right (by rw [d.size]; omega), d.size, ← this]
    congr 1
    omega
theorem flat_split : ∀ (L : List Ent) (i : Nat) (hi : i < L.length), flat L = flat (L.take i) ++ ((L[i]).cells ++ flat (L.drop (i + 1)))
  | d :: L, 0, hi => rfl
  | d :: L, i + 1, hi => by
    have := flat_split L i (by simpa using hi)
    rw [flat, this]
    simp [flat]
theorem flat_put (L : List Ent) (i : Nat) (hi : i < L.length) (e : Ent) : putL (flat L) (i * 34) e.cells = flat (L.set i e) := by
  have h1 : (flat (L.take i)).length = i * 34 := by rw [flat_len, List.length_take]; omega
  rw [flat_split L i hi, ← h1, putL_mid _ _ _ _ (by rw [Ent.size, Ent.size]), flat_split (L.set i e) i (by simpa using hi)]
  have h3 : (List.take i L).set i e = List.take i L := List.set_eq_of_length_le (by simp; omega)
  simp [List.take_set, List.drop_set, h3]

section
variable {w w' : World} {b : Nat} {t : TypeId} {L : List Ent}
/-- The place i of the shelf in b. -/
theorem place_at (h : Blk w b t (flat L)) {i : Nat} {e : Ent} (he : L[i]? = some e) : w.rangeAt b (i * 34) e.cells := h.range (flat_get L i e he)
theorem place_has (h : Blk w b t (flat L)) {i : Nat} {e : Ent} (he : L[i]? = some e) : w.cell? ⟨b, i * 34, none⟩ = some (.bool e.has) := by
  have := h.cell (flat_get L i e he 0 _ rfl)
  simpa using this
theorem place_num (h : Blk w b t (flat L)) {i : Nat} {e : Ent} (he : L[i]? = some e) : w.cell? ⟨b, i * 34 + 1, none⟩ = some (.int .i64 (e.n : Int)) := h.cell (flat_get L i e he 1 _ rfl)
theorem place_sec (h : Blk w b t (flat L)) {i : Nat} {e : Ent} (he : L[i]? = some e) : w.rangeAt b (i * 34 + 2) (e.s.map (vi .u8)) := h.range (fun j v hv => by
  rw [Nat.add_assoc]
  refine flat_get L i e he (2 + j) v ?_
  rw [Nat.add_comm]
  exact hv)
/-- What stands behind a store at a place. -/
theorem place_put (h : Blk w b t (flat L)) {i : Nat} (hi : i < L.length) (e : Ent) : Blk (w.setCells b (i * 34) e.cells) b t (flat (L.set i e)) := by
  rw [← flat_put L i hi e]
  exact h.setCells _ _ _ _
end

/-! ### Loads and stores by an equation on their run -/
theorem load_range {P : Program} {w : World} {b o : Nat} {ty : TypeId} {cs : List Value} (d : TypeDesc) (hc : w.rangeAt b o cs) (hu : P.underlying ty = some d) (hd : d.isRow = true) (hi : (P.info? ty).map (·.size) = some cs.length) (q : Value) (hq : q = .pointer (some ⟨b, o, none⟩)) :
    (Instr.loadAt ty q).run P w = .ok (.agg cs.toArray) w := hq ▸ run_loadAt_mid w b o ty cs d hc hu hd hi
theorem store_range {P : Program} {w : World} {b o : Nat} {ty : TypeId} {cs : List Value} (ht : w.there b o cs.length) (hi : (P.info? ty).map (·.size) = some cs.length) (h1 : cs.toArray.all (·.oneCell') = true) (q : Value) (hq : q = .pointer (some ⟨b, o, none⟩)) :
    (Instr.storeAt ty q (.agg cs.toArray)).run P w = .ok () (w.setCells b o cs) := hq ▸ run_storeAt_mid w b o ty cs.toArray ht hi h1

theorem wpListIn_load_eqG {F : Fence} {n : Nat} {P : Program} {ops : Array Oper} {rest : List Oper} {o : Oper} {a : Act} {w w' : World} {Q : Exit → Act → World → Prop} (ty : TypeId) (x : Operand) (ho : o.op = .load ty x)
    (p v : Value) (hx : a.eval x = p) (hr : (Instr.loadAt ty p).run P w = .ok v w') (hw : Region.wanted o (yielded ops a.tmps) = true) (h : wpListIn F n P ops Q rest (a.put o.dst v) w') : wpListIn F n P ops Q (o :: rest) a w := by
  refine wpListIn_step fun K hK => ?_
  rw [if_pos hw]
  unfold Oper.wpIn
  refine ⟨fun f hf => ?_, ?_⟩
  · simp [Oper.about, ho] at hf
  · rw [Oper.semAt_plain F _ _ (by rw [ho]; intro c hc'; cases hc')]
    simp only [execOp, ho, hx, hr, Sem.run_bind, Sem.run_pure, Result.andThen_ok]
    exact hK _ _ h
/-- A new variable of whatever type, and what is stored into it. -/
theorem Blk.stored {P : Program} {w : World} {b : Nat} {t ty : TypeId} {cs : List Value} (h : Blk w b t cs) (vs : List Value) (hl : vs.length = cs.length) (hi : (P.info? ty).map (·.size) = some vs.length) (h1 : vs.toArray.all (·.oneCell') = true) :
    ∃ V, (Instr.storeAt ty (.pointer (some ⟨b, 0, none⟩)) (.agg vs.toArray)).run P w = .ok () V ∧ Blk V b t vs ∧ Fr (· = b) w V := by
  refine ⟨_, store_range (h.there (by omega)) hi h1 _ rfl, ?_, fr_setCells _ _ _ _ _ (.inl rfl) (Fr.refl _ _)⟩
  have := h.setCells vs 0 w cs
  have e := putL_mid vs [] cs [] hl.symm
  simp only [List.nil_append, List.append_nil, List.length_nil] at e
  rwa [e] at this
end Go.Proofs.YtnpgcgemifoddaaDoor
