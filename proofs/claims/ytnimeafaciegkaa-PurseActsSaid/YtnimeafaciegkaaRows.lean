/-
  No cell of these rows narrows 'for every input' (looked for: loops, veiled, ifaces, maps, wideKeys, modest, calm, conditions, laid).
  DERIVED. THE GIVEN ROWS OF THIS SEAT. 4 by the template 'for every input the law returns true; each argument reads behind the call as it read before'; 0 by the template 'total and deterministic' (their statements: YtnimeafaciegkaaTotals.lean).
  GIVEN WITH THE SEED: the statements are not yours to turn. If you find one false, say at which input.
  Laid BY PROGRAM, IN A SANDBOX (cutbox-rows.mjs): the forced cells as the released guide's own fill.sh prints them over the translation 6b73babd06c642d0… (all of the seat's roots in one cut). By AI agents, Wed Nov 11 2026. No macro, syntax, notation, axiom, sorry.
-/
import Derived.Test.YtnimeafaciegkaaChecked
import GoSem.Claim
import GoSem.ClaimJoined
import GoSem.ClaimMapViews
import Derived.JoinedTies
import Derived.KernelRfl
namespace Go.Proofs.Ytnimeafaciegkaa
/- THE CELL 'sum', in the pinned program and in every row, IS THE sha256 OF THE DUMP (.gsa) THAT YtnimeafaciegkaaProg.lean LOADS. Nothing in Lean hashes anything: it is a label: what it is worth is what the hold of that sum in a sandbox is worth. -/
noncomputable def Try.pinned : Pinned := { name := "ytnimeafaciegkaa", sum := "6b73babd06c642d08c8463beca1e714d02e21591f870df2213c6b41dfc2cfa53", checked := Try.checked }
namespace Rows
def none {H : Type} : Left H := { results := [], args := [] }

/-- 'remitterlaw09.PurseActs': WHATEVER THE INPUT: true; the input reads as it did. -/
def purseActsSpec : ChangeSpec := { name := "purseActs", fn := fun _ => fun
  | [d1, d2] => { results := [.lit (.bool true)], args := [d1, d2] }
  | _ => none }
def purseActsRow : OpenClaim := { program := "ytnimeafaciegkaa", sum := "6b73babd06c642d08c8463beca1e714d02e21591f870df2213c6b41dfc2cfa53", func := "remitter/remitterlaw09.PurseActs", spec := "purseActs", apart := false }
def PurseActsSaid : Prop := purseActsRow.holds Try.pinned (OpenSpec.ofChange purseActsSpec)

/-- ITS FALSE NEIGHBOUR: 'it returns false'. Refute it at one input. -/
def purseActsWrong : ChangeSpec := { name := "purseActs", fn := fun _ => fun
  | [d1, d2] => { results := [.lit (.bool false)], args := [d1, d2] }
  | _ => none }
def PurseActsWrongFalsely : Prop := purseActsRow.holds Try.pinned (OpenSpec.ofChange purseActsWrong)

/-- 'remitterlaw09.PurseTotal': WHATEVER THE INPUT: true; the input reads as it did. -/
def purseTotalSpec : ChangeSpec := { name := "purseTotal", fn := fun _ => fun
  | [d1, d2] => { results := [.lit (.bool true)], args := [d1, d2] }
  | _ => none }
def purseTotalRow : OpenClaim := { program := "ytnimeafaciegkaa", sum := "6b73babd06c642d08c8463beca1e714d02e21591f870df2213c6b41dfc2cfa53", func := "remitter/remitterlaw09.PurseTotal", spec := "purseTotal", apart := false }
def PurseTotalSaid : Prop := purseTotalRow.holds Try.pinned (OpenSpec.ofChange purseTotalSpec)

/-- ITS FALSE NEIGHBOUR: 'it returns false'. Refute it at one input. -/
def purseTotalWrong : ChangeSpec := { name := "purseTotal", fn := fun _ => fun
  | [d1, d2] => { results := [.lit (.bool false)], args := [d1, d2] }
  | _ => none }
def PurseTotalWrongFalsely : Prop := purseTotalRow.holds Try.pinned (OpenSpec.ofChange purseTotalWrong)

/-- 'remitterlaw09.PurseBack': WHATEVER THE INPUT: true; the input reads as it did. -/
def purseBackSpec : ChangeSpec := { name := "purseBack", fn := fun _ => fun
  | [d1, d2, d3, d4] => { results := [.lit (.bool true)], args := [d1, d2, d3, d4] }
  | _ => none }
def purseBackRow : OpenClaim := { program := "ytnimeafaciegkaa", sum := "6b73babd06c642d08c8463beca1e714d02e21591f870df2213c6b41dfc2cfa53", func := "remitter/remitterlaw09.PurseBack", spec := "purseBack", apart := false }
def PurseBackSaid : Prop := purseBackRow.holds Try.pinned (OpenSpec.ofChange purseBackSpec)

/-- ITS FALSE NEIGHBOUR: 'it returns false'. Refute it at one input. -/
def purseBackWrong : ChangeSpec := { name := "purseBack", fn := fun _ => fun
  | [d1, d2, d3, d4] => { results := [.lit (.bool false)], args := [d1, d2, d3, d4] }
  | _ => none }
def PurseBackWrongFalsely : Prop := purseBackRow.holds Try.pinned (OpenSpec.ofChange purseBackWrong)

/-- 'remitterlaw09.PurseFull': WHATEVER THE INPUT: true; the input reads as it did. -/
def purseFullSpec : ChangeSpec := { name := "purseFull", fn := fun _ => fun
  | [d1, d2] => { results := [.lit (.bool true)], args := [d1, d2] }
  | _ => none }
def purseFullRow : OpenClaim := { program := "ytnimeafaciegkaa", sum := "6b73babd06c642d08c8463beca1e714d02e21591f870df2213c6b41dfc2cfa53", func := "remitter/remitterlaw09.PurseFull", spec := "purseFull", apart := false }
def PurseFullSaid : Prop := purseFullRow.holds Try.pinned (OpenSpec.ofChange purseFullSpec)

/-- ITS FALSE NEIGHBOUR: 'it returns false'. Refute it at one input. -/
def purseFullWrong : ChangeSpec := { name := "purseFull", fn := fun _ => fun
  | [d1, d2] => { results := [.lit (.bool false)], args := [d1, d2] }
  | _ => none }
def PurseFullWrongFalsely : Prop := purseFullRow.holds Try.pinned (OpenSpec.ofChange purseFullWrong)

/- THE SECOND FORM. 'bulk': how many values and letters a reading holds, each counted each time it is reached (what is shared counts as often as it is met; a slice's spare places count too). A statement '..UptoSaid' is the law's where the arguments, and the package variables that the reading takes, are together of bulk at most 1048576: NARROWER than '..Said'. Prove '..Said' where nothing that the law and all that it calls make is longer than what came in: it says more and counts as full. Else prove '..UptoSaid'. A law counts once. -/
mutual
def uptoBulk {H : Type} : DataW H → Nat
  | .lit (.string bytes) => bytes.length + 1
  | .lit _ => 1
  | .nil => 1
  | .ptr d => uptoBulk d + 1
  | .slice elems spare => uptoBulkAll elems + uptoBulkAll spare + 1
  | .agg parts => uptoBulkAll parts + 1
  | .iface _ d => uptoBulk d + 1
  | .map entries => uptoBulkEntries entries + 1
  | .held _ => 1
def uptoBulkAll {H : Type} : List (DataW H) → Nat
  | [] => 0
  | d :: r => uptoBulk d + uptoBulkAll r
def uptoBulkEntries {H : Type} : List (Lit × DataW H) → Nat
  | [] => 0
  | x :: r => uptoBulkEntry x + uptoBulkEntries r
def uptoBulkEntry {H : Type} : Lit × DataW H → Nat
  | (.string bytes, d) => bytes.length + uptoBulk d + 1
  | (_, d) => uptoBulk d + 1
 end
def uptoSmall : (H : Type) → List (DataW H) → Bool := fun _ ds => decide (uptoBulkAll ds ≤ 1048576)
def OpenSpec.upto (s : _root_.Go.ChangeSpec) : _root_.Go.OpenSpec := { _root_.Go.OpenSpec.ofChange s with cond := some uptoSmall }

/-- 'remitterlaw09.PurseActs', WHERE WHAT IT READS IS OF BULK AT MOST 1048576: true; the input reads as it did. -/
def purseActsUptoRow : OpenClaim := { program := "ytnimeafaciegkaa", sum := "6b73babd06c642d08c8463beca1e714d02e21591f870df2213c6b41dfc2cfa53", func := "remitter/remitterlaw09.PurseActs", spec := "purseActs", apart := false, narrowed := true }
def PurseActsUptoSaid : Prop := purseActsUptoRow.holds Try.pinned (OpenSpec.upto purseActsSpec)

/-- 'remitterlaw09.PurseTotal', WHERE WHAT IT READS IS OF BULK AT MOST 1048576: true; the input reads as it did. -/
def purseTotalUptoRow : OpenClaim := { program := "ytnimeafaciegkaa", sum := "6b73babd06c642d08c8463beca1e714d02e21591f870df2213c6b41dfc2cfa53", func := "remitter/remitterlaw09.PurseTotal", spec := "purseTotal", apart := false, narrowed := true }
def PurseTotalUptoSaid : Prop := purseTotalUptoRow.holds Try.pinned (OpenSpec.upto purseTotalSpec)

/-- 'remitterlaw09.PurseBack', WHERE WHAT IT READS IS OF BULK AT MOST 1048576: true; the input reads as it did. -/
def purseBackUptoRow : OpenClaim := { program := "ytnimeafaciegkaa", sum := "6b73babd06c642d08c8463beca1e714d02e21591f870df2213c6b41dfc2cfa53", func := "remitter/remitterlaw09.PurseBack", spec := "purseBack", apart := false, narrowed := true }
def PurseBackUptoSaid : Prop := purseBackUptoRow.holds Try.pinned (OpenSpec.upto purseBackSpec)

/-- 'remitterlaw09.PurseFull', WHERE WHAT IT READS IS OF BULK AT MOST 1048576: true; the input reads as it did. -/
def purseFullUptoRow : OpenClaim := { program := "ytnimeafaciegkaa", sum := "6b73babd06c642d08c8463beca1e714d02e21591f870df2213c6b41dfc2cfa53", func := "remitter/remitterlaw09.PurseFull", spec := "purseFull", apart := false, narrowed := true }
def PurseFullUptoSaid : Prop := purseFullUptoRow.holds Try.pinned (OpenSpec.upto purseFullSpec)

end Rows
end Go.Proofs.Ytnimeafaciegkaa
