/- A law's own map of numbers. -/
import Derived.Test.YtldcglmpnildiaaPuR
import Derived.Test.YtldcglmpnildiaaSdO
namespace Go.Proofs.Ytldcglmpnildiaa
open Go.RowKit Go.Maps
set_option linter.unusedVariables false
set_option maxRecDepth 100000

def readI : Value → Option (DataW Unit × List MemPlace)
  | .int .i64 a => some (.lit (.int .i64 a), [])
  | _ => none
theorem readI_inv {v : Value} {a : Int} {ps : List MemPlace} (h : readI v = some (.lit (.int .i64 a), ps)) : v = .int .i64 a := by
  unfold readI at h
  split at h
  · simp only [Option.some.injEq, Prod.mk.injEq, DataW.lit.injEq, Lit.int.injEq, true_and] at h
    rw [h.1]
  · cases h
/-- Block m is a map that tells h (0 where nothing stands), of at most n keys. -/
def IM (w : World) (m n : Nat) (h : Nat → Nat) : Prop := ∃ D, w.ownsMap Try.prog 3 readI m n D ∧ ∀ i : Nat, D.atKey (.int .i64 (i : Int)) (.lit (.int .i64 0)) = .lit (.int .i64 (h i : Int))
section
variable {w w' : World} {m n : Nat} {h : Nat → Nat}
theorem IM.new (w : World) : IM (w.alloc (.map #[] 0)) w.heap.size 0 (fun _ => 0) := ⟨_, World.ownsMap_made w _ _ _, fun i => rfl⟩
theorem IM.lt (k : IM w m n h) : m < w.heap.size := by
  obtain ⟨D, o, _⟩ := k
  exact o.lt
theorem IM.fr {S : Nat → Prop} (k : IM w m n h) (f : Fr S w w') (hn : ¬ S m) : IM w' m n h := by
  have hl := k.lt
  obtain ⟨D, ⟨es, clock, hb, r⟩, P⟩ := k
  exact ⟨D, ⟨es, clock, (f.block m hl hn).trans hb, r⟩, P⟩
theorem IM.no (k : IM w m n h) (f : Fr No w w') : IM w' m n h := k.fr f id
/-- The map is no row of cells. -/
theorem IM.ne {b o : Nat} {v : Value} (k : IM w m n h) (hc : w.cell? ⟨b, o, none⟩ = some v) : b ≠ m := by
  rintro rfl
  obtain ⟨D, ⟨es, clock, hb, r⟩, P⟩ := k
  simp [World.cell?, hb] at hc
theorem IM.look (k : IM w m n h) (i : Nat) (hw : (Lit.int .i64 (i : Int)).wf = true) : (Instr.lookup 66 (.map (some m)) (.int .i64 (i : Int)) false).run Try.prog w = .ok (.int .i64 (h i : Int)) w := by
  obtain ⟨D, o, P⟩ := k
  obtain ⟨v, ps, hr, hv⟩ := o.lookup keyed9 Try.underlying66 (z := .int .i64 0) (by kernel_rfl) (zd := .lit (.int .i64 0)) (zp := []) rfl (keyOf_int_mk Try.underlying3 hw)
  rw [P i] at hv
  rw [hr, readI_inv hv]
theorem IM.of {D : DataW Unit} {k v : Nat} (hD : IsMap D) (P : ∀ i : Nat, D.atKey (.int .i64 (i : Int)) (.lit (.int .i64 0)) = .lit (.int .i64 (h i : Int))) (o : w'.ownsMap Try.prog 3 readI m (n + 1) (D.put (.int .i64 (k : Int)) (.lit (.int .i64 (v : Int))))) : IM w' m (n + 1) (fun i => if i = k then v else h i) :=
  ⟨_, o, fun i => by
    show _ = DataW.lit (.int .i64 ((if i = k then v else h i : Nat) : Int))
    by_cases e : i = k
    · subst e
      rw [atKey_put_same hD (key_is i), if_pos rfl]
    · rw [atKey_put_other (key_ne e), if_neg e]
      exact P i⟩
theorem IM.apart {e : TypeId} {B : Nat} {v : Value} {xs : List Int} (k : IM w m n h) (o : OwI e B v xs w) {g : Nat} (hg : v.ownBlock = some g) : g ≠ m := by
  rintro rfl
  obtain ⟨D, ⟨es, clock, hb, r⟩, P⟩ := k
  rcases o.2 with ⟨rfl, _⟩ | ⟨g1, cap, cur, rfl, _, hg1, _⟩
  · simp [Value.ownBlock] at hg
  · simp only [Value.ownBlock, Option.some.injEq] at hg
    subst hg
    rw [hb] at hg1
    cases hg1
end
theorem exec_lookup10 {P : Program} {o : Oper} {ev : Operand → Value} {w : World} (t : TypeId) (x y : Operand) (ho : o.op = .lookup t x y false) (m k v : Value) (hx : ev x = m) (hy : ev y = k) (hr : (Instr.lookup t m k false).run P w = .ok v w) :
    (execOp ev o).run P w = .ok (.value v) w := by
  unfold execOp
  simp only [ho, hx, hy, hr, Sem.run_bind, Sem.run_pure, Result.andThen_ok]
theorem gtr_int10 (x y : Int) (w : World) : (binOp .gtr 3 (.int .i64 x) (.int .i64 y)).run Try.prog w = .ok (.bool (decide (y < x))) w := by simp [go_sem]
theorem eq_int10 (x y : Int) (w : World) : (binOp .eql 3 (.int .i64 x) (.int .i64 y)).run Try.prog w = .ok (.bool (x == y)) w := by simp [go_sem]
end Go.Proofs.Ytldcglmpnildiaa
