/- A block that holds cells of any kind ('Blk'): loads and stores of some of them. -/
import Derived.Test.YtldcglmpnildiaaGen
import Derived.Deep.MidRow
import Derived.Laws.Rows
namespace Go.Proofs.Ytldcglmpnildiaa
open Go.RowKit
set_option linter.unusedVariables false
set_option maxRecDepth 100000

/-- The block b holds these cells, and may be written. -/
def Blk (w : World) (b : Nat) (t : TypeId) (cs : List Value) : Prop := w.heap[b]? = some (.cells cs.toArray t (0, 0))

section
variable {w w' : World} {b : Nat} {t : TypeId} {cs : List Value}
theorem Blk.lt (h : Blk w b t cs) : b < w.heap.size := (Array.getElem?_eq_some_iff.1 h).1
theorem Blk.cell (h : Blk w b t cs) {i : Nat} {v : Value} (hv : cs[i]? = some v) : w.cell? ⟨b, i, none⟩ = some v := by
  rw [cell_of_row w b i _ t (0, 0) h]
  simpa using hv
theorem Blk.frozen (h : Blk w b t cs) (i : Nat) : w.frozen? ⟨b, i, none⟩ = false := by
  unfold World.frozen?
  rw [show w.heap[(⟨b, i, none⟩ : Addr).block]? = _ from h]
  simp
theorem Blk.fr {S : Nat → Prop} (h : Blk w b t cs) (f : Fr S w w') (hn : ¬ S b) : Blk w' b t cs := (f.block b h.lt hn).trans h
theorem Blk.set (h : Blk w b t cs) (i : Nat) (v : Value) : Blk (w.setCell ⟨b, i, none⟩ v) b t (cs.set i v) := by
  have hlt := h.lt
  have hv := (Array.getElem?_eq_some_iff.1 h).2
  unfold Blk World.setCell
  show (w.heap.modify b _)[b]? = _
  rw [Array.getElem?_modify, if_pos rfl, Array.getElem?_eq_getElem hlt, hv]
  simp
theorem Blk.set_other (h : Blk w b t cs) {c i : Nat} (hn : c ≠ b) (v : Value) : Blk (w.setCell ⟨c, i, none⟩ v) b t cs := (Below.heap_setCell _ _ _ _ (Ne.symm hn)).trans h
theorem Blk.alloc (h : Blk w b t cs) (o : Obj) : Blk (w.alloc o) b t cs := (Below.heap_alloc _ _ _ h.lt).trans h
theorem Blk.new (w : World) (t : TypeId) (cs : List Value) : Blk (w.alloc (.cells cs.toArray t)) w.heap.size t cs := heap_alloc_new w _
theorem Blk.range (h : Blk w b t cs) {o : Nat} {l : List Value} (hl : ∀ j v, l[j]? = some v → cs[o + j]? = some v) : w.rangeAt b o l := fun j v hv => h.cell (hl j v hv)
theorem Blk.whole (h : Blk w b t cs) : w.rangeAt b 0 cs := h.range (fun j v hv => by rw [Nat.zero_add]; exact hv)
theorem Blk.there (h : Blk w b t cs) {o n : Nat} (hn : o + n ≤ cs.length) : w.there b o n := fun j hj =>
  ⟨by rw [h.cell (List.getElem?_eq_getElem (by omega))]; rfl, h.frozen _⟩
end

/-- Some cells in place of those from o on. -/
def putL (cs : List Value) (o : Nat) : List Value → List Value
  | [] => cs
  | v :: r => putL (cs.set o v) (o + 1) r
theorem Blk.setCells {b : Nat} {t : TypeId} : ∀ (vs : List Value) (o : Nat) (w : World) (cs : List Value), Blk w b t cs → Blk (w.setCells b o vs) b t (putL cs o vs)
  | [], _, _, _, h => h
  | v :: r, o, w, cs, h => Blk.setCells r (o + 1) _ _ (h.set o v)
theorem fr_setCells {b : Nat} : ∀ (vs : List Value) (o : Nat) (w a : World) (S : Nat → Prop), (S b ∨ a.heap.size ≤ b) → Fr S a w → Fr S a (w.setCells b o vs)
  | [], _, _, _, _, _, h => h
  | v :: r, o, w, a, S, hS, h => fr_setCells r (o + 1) _ a S hS (h.setCell (p := ⟨b, o, none⟩) hS v)
theorem putL_mid : ∀ (y A x C : List Value), x.length = y.length → putL (A ++ (x ++ C)) A.length y = A ++ (y ++ C)
  | [], A, x, C, h => by
    obtain rfl : x = [] := List.eq_nil_of_length_eq_zero (by simpa using h)
    rfl
  | v :: r, A, x, C, h => by
    match x, h with
    | u :: x, h =>
      have h1 : (A ++ (u :: x ++ C)).set A.length v = (A ++ [v]) ++ (x ++ C) := by simp
      rw [putL, h1, show A.length + 1 = (A ++ [v]).length by simp, putL_mid r (A ++ [v]) x C (by simpa using h)]
      simp

/-! ### Loads and stores by an equation on their run -/
theorem load_range {P : Program} {w : World} {b o : Nat} {ty : TypeId} {cs : List Value} (d : TypeDesc) (hc : w.rangeAt b o cs) (hu : P.underlying ty = some d) (hd : d.isRow = true) (hi : (P.info? ty).map (·.size) = some cs.length) (q : Value) (hq : q = .pointer (some ⟨b, o, none⟩)) :
    (Instr.loadAt ty q).run P w = .ok (.agg cs.toArray) w := hq ▸ run_loadAt_mid w b o ty cs d hc hu hd hi
theorem store_range {P : Program} {w : World} {b o : Nat} {ty : TypeId} {cs : List Value} (ht : w.there b o cs.length) (hi : (P.info? ty).map (·.size) = some cs.length) (h1 : cs.toArray.all (·.oneCell') = true) (q : Value) (hq : q = .pointer (some ⟨b, o, none⟩)) :
    (Instr.storeAt ty q (.agg cs.toArray)).run P w = .ok () (w.setCells b o cs) := hq ▸ run_storeAt_mid w b o ty cs.toArray ht hi h1

/-- A new variable of whatever type, and what is stored into it. -/
theorem Blk.stored {P : Program} {w : World} {b : Nat} {t ty : TypeId} {cs : List Value} (h : Blk w b t cs) (vs : List Value) (hl : vs.length = cs.length) (hi : (P.info? ty).map (·.size) = some vs.length) (h1 : vs.toArray.all (·.oneCell') = true) :
    ∃ V, (Instr.storeAt ty (.pointer (some ⟨b, 0, none⟩)) (.agg vs.toArray)).run P w = .ok () V ∧ Blk V b t vs ∧ Fr (· = b) w V := by
  refine ⟨_, store_range (h.there (by omega)) hi h1 _ rfl, ?_, fr_setCells _ _ _ _ _ (.inl rfl) (Fr.refl _ _)⟩
  have := h.setCells vs 0 w cs
  have e := putL_mid vs [] cs [] hl.symm
  simp only [List.nil_append, List.append_nil, List.length_nil] at e
  rwa [e] at this
end Go.Proofs.Ytldcglmpnildiaa
