/- One operation, by an equation on its run; regions whose orders come to the same. -/
import Derived.WalkKit
import Derived.Test.YtldcglmpnildiaaBase
namespace Go.Proofs.Ytldcglmpnildiaa
open Go.RowKit
set_option linter.unusedVariables false
set_option maxRecDepth 100000

/-- A region whose orders all come to one act, but for one address. -/
abbrev JoinQ (S : Nat → World → Prop) (F : Nat → Act) : Exit → Act → World → Prop
  | .normal, a, w => ∃ g, a = F g ∧ S g w
  | _, _, _ => False
theorem wp_region_join {P : Program} {id : Nat} {ops : Array Oper} {d : Bool} {Q : Exit → Act → World → Prop} {a : Act} {w : World} (S : Nat → World → Prop) {F : Nat → Act}
    (h : (Code.region id ops d).wp P (JoinQ S F) a w) (hK : ∀ g w', S g w' → Q .normal (F g) w') : (Code.region id ops d).wp P Q a w :=
  Code.wp_mono (fun e a w h => by
    cases e <;> first | exact h.elim | (obtain ⟨g, rfl, hS⟩ := h; exact hK g _ hS)) h

section
variable {P : Program} {o : Oper} {a : Act} {w w' : World} {K : Act → World → Prop} {Q : Exit → Act → World → Prop}
theorem wpO_exec (v : Value) (hr : (execOp a.eval o).run P w = .ok (.value v) w') (h : K (a.put o.dst v) w') : o.wp P a w K Q := by
  unfold Oper.wp
  simp only [hr]
  exact h
theorem wpO_store (ty : TypeId) (x y : Operand) (ho : o.op = .store ty x y) (p v : Value) (hx : a.eval x = p) (hy : a.eval y = v) (hr : (Instr.storeAt ty p v).run P w = .ok () w') (h : K (a.put o.dst undef) w') : o.wp P a w K Q := by
  unfold Oper.wp execOp
  simp only [ho, hx, hy, hr, Sem.run_bind, Sem.run_pure, Result.andThen_ok]
  exact h
end
end Go.Proofs.Ytldcglmpnildiaa
