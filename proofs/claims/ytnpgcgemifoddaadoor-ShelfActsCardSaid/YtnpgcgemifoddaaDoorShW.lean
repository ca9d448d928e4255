/- Two shelves side by side: the program's, and the document's. -/
import Derived.Test.YtnpgcgemifoddaaDoorShV
namespace Go.Proofs.YtnpgcgemifoddaaDoor
open Go.RowKit
set_option linter.unusedVariables false

structure S2 (w : World) (b rb : Nat) (L R : List Ent) (X : World) : Prop where
  fr : Fr No w X
  new : w.heap.size ≤ b
  newr : w.heap.size ≤ rb
  ne : rb ≠ b
  blk : Blk X b 32 (flat L)
  ref : Blk X rb 37 (flat R)
section
variable {w X X' : World} {b rb : Nat} {L L' R R' : List Ent}
theorem S2.on (s : S2 w b rb L R X) (f : Fr No X X') : S2 w b rb L R X' := ⟨s.fr.trans f, s.new, s.newr, s.ne, s.blk.fr f id, s.ref.fr f id⟩
theorem S2.ins (s : S2 w b rb L R X) (f : Fr (· = b) X X') (hB : Blk X' b 32 (flat L')) : S2 w b rb L' R X' :=
  ⟨s.fr.trans' f (fun i hi e => by have := s.new; omega), s.new, s.newr, s.ne, hB, s.ref.fr f s.ne⟩
theorem S2.putr (s : S2 w b rb L R X) (f : Fr (· = rb) X X') (hB : Blk X' rb 37 (flat R')) : S2 w b rb L R' X' :=
  ⟨s.fr.trans' f (fun i hi e => by have := s.newr; omega), s.new, s.newr, s.ne, s.blk.fr f (Ne.symm s.ne), hB⟩
end

/-- A region whose orders all come to one act, but for one address. -/
abbrev JoinQ (S : Nat → World → Prop) (F : Nat → Act) : Exit → Act → World → Prop
  | .normal, a, w => ∃ g, a = F g ∧ S g w
  | _, _, _ => False
theorem wp_region_join {P : Program} {id : Nat} {ops : Array Oper} {d : Bool} {Q : Exit → Act → World → Prop} {a : Act} {w : World} (S : Nat → World → Prop) {F : Nat → Act}
    (h : (Code.region id ops d).wp P (JoinQ S F) a w) (hK : ∀ g w', S g w' → Q .normal (F g) w') : (Code.region id ops d).wp P Q a w :=
  Code.wp_mono (fun e a w h => by
    cases e <;> first | exact h.elim | (obtain ⟨g, rfl, hS⟩ := h; exact hK g _ hS)) h

section
variable {P : Program} {o : Oper} {a : Act} {w w' : World} {K : Act → World → Prop} {Q : Exit → Act → World → Prop}
theorem wpO_exec (v : Value) (hr : (execOp a.eval o).run P w = .ok (.value v) w') (h : K (a.put o.dst v) w') : o.wp P a w K Q := by
  unfold Oper.wp
  simp only [hr]
  exact h
theorem wpO_store (ty : TypeId) (x y : Operand) (ho : o.op = .store ty x y) (p v : Value) (hx : a.eval x = p) (hy : a.eval y = v) (hr : (Instr.storeAt ty p v).run P w = .ok () w') (h : K (a.put o.dst undef) w') : o.wp P a w K Q := by
  unfold Oper.wp execOp
  simp only [ho, hx, hy, hr, Sem.run_bind, Sem.run_pure, Result.andThen_ok]
  exact h
end

/-- A value of several cells at whatever address. -/
theorem load_any {P : Program} {w : World} {q : Addr} {ty : TypeId} {cs : List Value} (d : TypeDesc) (hc : ∀ j v, cs[j]? = some v → w.cell? (q.add j) = some v)
    (hu : P.underlying ty = some d) (hd : d.isRow = true) (hi : (P.info? ty).map (·.size) = some cs.length) : (Instr.loadAt ty (.pointer (some q))).run P w = .ok (.agg cs.toArray) w := by
  have hl : (loadCells q cs.length).run P w = .ok cs.toArray w := run_loadCells_list (P := P) w q cs hc
  cases hq : P.info? ty with
  | none => simp [hq] at hi
  | some i =>
    have hs : i.size = cs.length := by simpa [hq] using hi
    have hagg : (isAgg ty).run P w = .ok true w := by
      unfold isAgg
      rw [Sem.run_bind, run_underlying hu w]
      cases d <;> simp_all
    simp [Instr.loadAt, Instr.sureAddr, loadVar, Sem.run_bind, hagg, sizeOf, typeInfo, hq, hs, hl]
theorem add_block (q : Addr) (j : Nat) : (q.add j).block = q.block := by
  unfold Addr.add
  split <;> rfl
theorem add_zero' (q : Addr) : q.add 0 = q := by unfold Addr.add; rw [if_pos rfl]

/-- A secret of a number lies at q. -/
def TolAt (w : World) (q : Addr) (t : Tol) : Prop := ∀ j v, t.cells[j]? = some v → w.cell? (q.add j) = some v
section
variable {w X : World} {q : Addr} {t : Tol} {S : Nat → Prop}
theorem TolAt.fr (h : TolAt w q t) (f : Fr S w X) (hn : ¬ S q.block) : TolAt X q t := fun j v hv => f.cellB (by rw [add_block]; exact hn) (h j v hv)
theorem TolAt.load (h : TolAt w q t) : (Instr.loadAt 42 (.pointer (some q))).run Tryd.prog w = .ok (.agg t.cells.toArray) w :=
  load_any _ h Tryd.underlying42 rfl (by rw [t.size]; kernel_rfl)
theorem TolAt.num (h : TolAt w q t) : (Instr.loadAt 3 (.pointer (some q))).run Tryd.prog w = .ok (.int .i64 t.i) w := load_int _ _ _ (by
  have := h 0 _ rfl
  rwa [add_zero'] at this)
theorem TolAt.lt (h : TolAt w q t) : q.block < w.heap.size := by
  have := h 0 _ rfl
  rw [add_zero'] at this
  exact World.block_lt_of_cell? w q this
end
end Go.Proofs.YtnpgcgemifoddaaDoor
