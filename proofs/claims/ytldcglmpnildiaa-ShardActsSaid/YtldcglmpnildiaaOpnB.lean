/- An act that lies in memory. -/
import Derived.Test.YtldcglmpnildiaaBase
namespace Go.Proofs.Ytldcglmpnildiaa
open Go.RowKit
set_option linter.unusedVariables false
set_option maxRecDepth 100000

/-- What happens to a purse. -/
structure A9 where
  k : Int
  a : Int
  b : Int
  n : Nat
structure A9.Ok (x : A9) : Prop where
  a : (Lit.int .i64 x.a).wf = true
  b : (Lit.int .i64 x.b).wf = true
  n : x.n < 18446744073709551616
/-- It lies at q. -/
structure ActAt (q : Addr) (x : A9) (w : World) : Prop where
  c0 : w.cell? q = some (.int .i64 x.k)
  c1 : w.cell? ⟨q.block, q.off + 1, none⟩ = some (.int .i64 x.a)
  c2 : w.cell? ⟨q.block, q.off + 2, none⟩ = some (.int .i64 x.b)
  c3 : w.cell? ⟨q.block, q.off + 3, none⟩ = some (.int .u64 (x.n : Int))
theorem ActAt.no {q : Addr} {x : A9} {w w' : World} (h : ActAt q x w) (f : Fr No w w') : ActAt q x w' :=
  have key : ∀ {a : Addr} {v : Value}, w.cell? a = some v → w'.cell? a = some v := fun {a v} hc => (World.cell?_of_block (f.block a.block (World.block_lt_of_cell? w a hc) id)).trans hc
  ⟨key h.c0, key h.c1, key h.c2, key h.c3⟩
def Acts (w : World) (ao : Option Addr) (n : Nat) (xs : Nat → A9) : Prop := ∀ i, i < n → ∃ a, ao = some a ∧ (xs i).Ok ∧ ActAt (a.add (i * 4)) (xs i) w

theorem add_at9 (a : Addr) (n : Nat) (h : n ≠ 0) : a.add n = ⟨a.block, a.off + n, none⟩ := by unfold Addr.add; rw [if_neg h]
end Go.Proofs.Ytldcglmpnildiaa
