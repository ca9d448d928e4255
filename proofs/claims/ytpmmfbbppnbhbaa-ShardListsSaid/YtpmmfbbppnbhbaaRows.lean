/-
  No cell of these rows narrows 'for every input' (looked for: loops, veiled, ifaces, maps, wideKeys, modest, calm, conditions, laid).
  DERIVED. THE GIVEN ROWS OF THIS SEAT. 7 by the template 'for every input the law returns true; each argument reads behind the call as it read before'; 0 by the template 'total and deterministic' (their statements: YtpmmfbbppnbhbaaTotals.lean).
  GIVEN WITH THE SEED: the statements are not yours to turn. If you find one false, say at which input.
  Laid BY PROGRAM, IN A SANDBOX (cutbox-rows.mjs): the forced cells as the released guide's own fill.sh prints them over the translation 51d5b8c3aab53fa4… (all of the seat's roots in one cut). By AI agents, Wed Nov 11 2026. No macro, syntax, notation, axiom, sorry.
-/
import Derived.Test.YtpmmfbbppnbhbaaChecked
import GoSem.Claim
import GoSem.ClaimJoined
import GoSem.ClaimMapViews
import Derived.JoinedTies
import Derived.KernelRfl
namespace Go.Proofs.Ytpmmfbbppnbhbaa
/- THE CELL 'sum', in the pinned program and in every row, IS THE sha256 OF THE DUMP (.gsa) THAT YtpmmfbbppnbhbaaProg.lean LOADS. Nothing in Lean hashes anything: it is a label: what it is worth is what the hold of that sum in a sandbox is worth. -/
noncomputable def Try.pinned : Pinned := { name := "ytpmmfbbppnbhbaa", sum := "51d5b8c3aab53fa485e5dce64914100118ff3118d3744979d54e2404ecaed570", checked := Try.checked }
namespace Rows
def none {H : Type} : Left H := { results := [], args := [] }

/-- 'remitterlaw10.ShardActs': WHATEVER THE INPUT: true; the input reads as it did. -/
def shardActsSpec : ChangeSpec := { name := "shardActs", fn := fun _ => fun
  | [d1, d2] => { results := [.lit (.bool true)], args := [d1, d2] }
  | _ => none }
def shardActsRow : OpenClaim := { program := "ytpmmfbbppnbhbaa", sum := "51d5b8c3aab53fa485e5dce64914100118ff3118d3744979d54e2404ecaed570", func := "remitter/remitterlaw10.ShardActs", spec := "shardActs", unfollowed := true, recurses := true, apart := false }
def ShardActsSaid : Prop := shardActsRow.holds Try.pinned (OpenSpec.ofChange shardActsSpec)

/-- ITS FALSE NEIGHBOUR: 'it returns false'. Refute it at one input. -/
def shardActsWrong : ChangeSpec := { name := "shardActs", fn := fun _ => fun
  | [d1, d2] => { results := [.lit (.bool false)], args := [d1, d2] }
  | _ => none }
def ShardActsWrongFalsely : Prop := shardActsRow.holds Try.pinned (OpenSpec.ofChange shardActsWrong)

/-- 'remitterlaw10.ShardOrder': WHATEVER THE INPUT: true; the input reads as it did. -/
def shardOrderSpec : ChangeSpec := { name := "shardOrder", fn := fun _ => fun
  | [d1, d2] => { results := [.lit (.bool true)], args := [d1, d2] }
  | _ => none }
def shardOrderRow : OpenClaim := { program := "ytpmmfbbppnbhbaa", sum := "51d5b8c3aab53fa485e5dce64914100118ff3118d3744979d54e2404ecaed570", func := "remitter/remitterlaw10.ShardOrder", spec := "shardOrder", unfollowed := true, recurses := true, apart := false }
def ShardOrderSaid : Prop := shardOrderRow.holds Try.pinned (OpenSpec.ofChange shardOrderSpec)

/-- ITS FALSE NEIGHBOUR: 'it returns false'. Refute it at one input. -/
def shardOrderWrong : ChangeSpec := { name := "shardOrder", fn := fun _ => fun
  | [d1, d2] => { results := [.lit (.bool false)], args := [d1, d2] }
  | _ => none }
def ShardOrderWrongFalsely : Prop := shardOrderRow.holds Try.pinned (OpenSpec.ofChange shardOrderWrong)

/-- 'remitterlaw10.ShardGoesOn': WHATEVER THE INPUT: true; the input reads as it did. -/
def shardGoesOnSpec : ChangeSpec := { name := "shardGoesOn", fn := fun _ => fun
  | [d1, d2] => { results := [.lit (.bool true)], args := [d1, d2] }
  | _ => none }
def shardGoesOnRow : OpenClaim := { program := "ytpmmfbbppnbhbaa", sum := "51d5b8c3aab53fa485e5dce64914100118ff3118d3744979d54e2404ecaed570", func := "remitter/remitterlaw10.ShardGoesOn", spec := "shardGoesOn", unfollowed := true, recurses := true, apart := false }
def ShardGoesOnSaid : Prop := shardGoesOnRow.holds Try.pinned (OpenSpec.ofChange shardGoesOnSpec)

/-- ITS FALSE NEIGHBOUR: 'it returns false'. Refute it at one input. -/
def shardGoesOnWrong : ChangeSpec := { name := "shardGoesOn", fn := fun _ => fun
  | [d1, d2] => { results := [.lit (.bool false)], args := [d1, d2] }
  | _ => none }
def ShardGoesOnWrongFalsely : Prop := shardGoesOnRow.holds Try.pinned (OpenSpec.ofChange shardGoesOnWrong)

/-- 'remitterlaw10.ShardTime': WHATEVER THE INPUT: true; the input reads as it did. -/
def shardTimeSpec : ChangeSpec := { name := "shardTime", fn := fun _ => fun
  | [d1, d2] => { results := [.lit (.bool true)], args := [d1, d2] }
  | _ => none }
def shardTimeRow : OpenClaim := { program := "ytpmmfbbppnbhbaa", sum := "51d5b8c3aab53fa485e5dce64914100118ff3118d3744979d54e2404ecaed570", func := "remitter/remitterlaw10.ShardTime", spec := "shardTime", unfollowed := true, recurses := true, apart := false }
def ShardTimeSaid : Prop := shardTimeRow.holds Try.pinned (OpenSpec.ofChange shardTimeSpec)

/-- ITS FALSE NEIGHBOUR: 'it returns false'. Refute it at one input. -/
def shardTimeWrong : ChangeSpec := { name := "shardTime", fn := fun _ => fun
  | [d1, d2] => { results := [.lit (.bool false)], args := [d1, d2] }
  | _ => none }
def ShardTimeWrongFalsely : Prop := shardTimeRow.holds Try.pinned (OpenSpec.ofChange shardTimeWrong)

/-- 'remitterlaw10.ShardLists': WHATEVER THE INPUT: true; the input reads as it did. -/
def shardListsSpec : ChangeSpec := { name := "shardLists", fn := fun _ => fun
  | [d1, d2] => { results := [.lit (.bool true)], args := [d1, d2] }
  | _ => none }
def shardListsRow : OpenClaim := { program := "ytpmmfbbppnbhbaa", sum := "51d5b8c3aab53fa485e5dce64914100118ff3118d3744979d54e2404ecaed570", func := "remitter/remitterlaw10.ShardLists", spec := "shardLists", unfollowed := true, recurses := true, apart := false }
def ShardListsSaid : Prop := shardListsRow.holds Try.pinned (OpenSpec.ofChange shardListsSpec)

/-- ITS FALSE NEIGHBOUR: 'it returns false'. Refute it at one input. -/
def shardListsWrong : ChangeSpec := { name := "shardLists", fn := fun _ => fun
  | [d1, d2] => { results := [.lit (.bool false)], args := [d1, d2] }
  | _ => none }
def ShardListsWrongFalsely : Prop := shardListsRow.holds Try.pinned (OpenSpec.ofChange shardListsWrong)

/-- 'remitterlaw10.ShardLocks': WHATEVER THE INPUT: true; the input reads as it did. -/
def shardLocksSpec : ChangeSpec := { name := "shardLocks", fn := fun _ => fun
  | [d1, d2, d3] => { results := [.lit (.bool true)], args := [d1, d2, d3] }
  | _ => none }
def shardLocksRow : OpenClaim := { program := "ytpmmfbbppnbhbaa", sum := "51d5b8c3aab53fa485e5dce64914100118ff3118d3744979d54e2404ecaed570", func := "remitter/remitterlaw10.ShardLocks", spec := "shardLocks", unfollowed := true, recurses := true, apart := false }
def ShardLocksSaid : Prop := shardLocksRow.holds Try.pinned (OpenSpec.ofChange shardLocksSpec)

/-- ITS FALSE NEIGHBOUR: 'it returns false'. Refute it at one input. -/
def shardLocksWrong : ChangeSpec := { name := "shardLocks", fn := fun _ => fun
  | [d1, d2, d3] => { results := [.lit (.bool false)], args := [d1, d2, d3] }
  | _ => none }
def ShardLocksWrongFalsely : Prop := shardLocksRow.holds Try.pinned (OpenSpec.ofChange shardLocksWrong)

/-- 'remitterlaw10.ShardOver': WHATEVER THE INPUT: true; the input reads as it did. -/
def shardOverSpec : ChangeSpec := { name := "shardOver", fn := fun _ => fun
  | [d1, d2, d3] => { results := [.lit (.bool true)], args := [d1, d2, d3] }
  | _ => none }
def shardOverRow : OpenClaim := { program := "ytpmmfbbppnbhbaa", sum := "51d5b8c3aab53fa485e5dce64914100118ff3118d3744979d54e2404ecaed570", func := "remitter/remitterlaw10.ShardOver", spec := "shardOver", unfollowed := true, recurses := true, apart := false }
def ShardOverSaid : Prop := shardOverRow.holds Try.pinned (OpenSpec.ofChange shardOverSpec)

/-- ITS FALSE NEIGHBOUR: 'it returns false'. Refute it at one input. -/
def shardOverWrong : ChangeSpec := { name := "shardOver", fn := fun _ => fun
  | [d1, d2, d3] => { results := [.lit (.bool false)], args := [d1, d2, d3] }
  | _ => none }
def ShardOverWrongFalsely : Prop := shardOverRow.holds Try.pinned (OpenSpec.ofChange shardOverWrong)

/- THE SECOND FORM. 'bulk': how many values and letters a reading holds, each counted each time it is reached (what is shared counts as often as it is met; a slice's spare places count too). A statement '..UptoSaid' is the law's where the arguments, and the package variables that the reading takes, are together of bulk at most 1048576: NARROWER than '..Said'. Prove '..Said' where nothing that the law and all that it calls make is longer than what came in: it says more and counts as full. Else prove '..UptoSaid'. A law counts once. -/
mutual
def uptoBulk {H : Type} : DataW H → Nat
  | .lit (.string bytes) => bytes.length + 1
  | .lit _ => 1
  | .nil => 1
  | .ptr d => uptoBulk d + 1
  | .slice elems spare => uptoBulkAll elems + uptoBulkAll spare + 1
  | .agg parts => uptoBulkAll parts + 1
  | .iface _ d => uptoBulk d + 1
  | .map entries => uptoBulkEntries entries + 1
  | .held _ => 1
def uptoBulkAll {H : Type} : List (DataW H) → Nat
  | [] => 0
  | d :: r => uptoBulk d + uptoBulkAll r
def uptoBulkEntries {H : Type} : List (Lit × DataW H) → Nat
  | [] => 0
  | x :: r => uptoBulkEntry x + uptoBulkEntries r
def uptoBulkEntry {H : Type} : Lit × DataW H → Nat
  | (.string bytes, d) => bytes.length + uptoBulk d + 1
  | (_, d) => uptoBulk d + 1
 end
def uptoSmall : (H : Type) → List (DataW H) → Bool := fun _ ds => decide (uptoBulkAll ds ≤ 1048576)
def OpenSpec.upto (s : _root_.Go.ChangeSpec) : _root_.Go.OpenSpec := { _root_.Go.OpenSpec.ofChange s with cond := some uptoSmall }

/-- 'remitterlaw10.ShardActs', WHERE WHAT IT READS IS OF BULK AT MOST 1048576: true; the input reads as it did. -/
def shardActsUptoRow : OpenClaim := { program := "ytpmmfbbppnbhbaa", sum := "51d5b8c3aab53fa485e5dce64914100118ff3118d3744979d54e2404ecaed570", func := "remitter/remitterlaw10.ShardActs", spec := "shardActs", unfollowed := true, recurses := true, apart := false, narrowed := true }
def ShardActsUptoSaid : Prop := shardActsUptoRow.holds Try.pinned (OpenSpec.upto shardActsSpec)

/-- 'remitterlaw10.ShardOrder', WHERE WHAT IT READS IS OF BULK AT MOST 1048576: true; the input reads as it did. -/
def shardOrderUptoRow : OpenClaim := { program := "ytpmmfbbppnbhbaa", sum := "51d5b8c3aab53fa485e5dce64914100118ff3118d3744979d54e2404ecaed570", func := "remitter/remitterlaw10.ShardOrder", spec := "shardOrder", unfollowed := true, recurses := true, apart := false, narrowed := true }
def ShardOrderUptoSaid : Prop := shardOrderUptoRow.holds Try.pinned (OpenSpec.upto shardOrderSpec)

/-- 'remitterlaw10.ShardGoesOn', WHERE WHAT IT READS IS OF BULK AT MOST 1048576: true; the input reads as it did. -/
def shardGoesOnUptoRow : OpenClaim := { program := "ytpmmfbbppnbhbaa", sum := "51d5b8c3aab53fa485e5dce64914100118ff3118d3744979d54e2404ecaed570", func := "remitter/remitterlaw10.ShardGoesOn", spec := "shardGoesOn", unfollowed := true, recurses := true, apart := false, narrowed := true }
def ShardGoesOnUptoSaid : Prop := shardGoesOnUptoRow.holds Try.pinned (OpenSpec.upto shardGoesOnSpec)

/-- 'remitterlaw10.ShardTime', WHERE WHAT IT READS IS OF BULK AT MOST 1048576: true; the input reads as it did. -/
def shardTimeUptoRow : OpenClaim := { program := "ytpmmfbbppnbhbaa", sum := "51d5b8c3aab53fa485e5dce64914100118ff3118d3744979d54e2404ecaed570", func := "remitter/remitterlaw10.ShardTime", spec := "shardTime", unfollowed := true, recurses := true, apart := false, narrowed := true }
def ShardTimeUptoSaid : Prop := shardTimeUptoRow.holds Try.pinned (OpenSpec.upto shardTimeSpec)

/-- 'remitterlaw10.ShardLists', WHERE WHAT IT READS IS OF BULK AT MOST 1048576: true; the input reads as it did. -/
def shardListsUptoRow : OpenClaim := { program := "ytpmmfbbppnbhbaa", sum := "51d5b8c3aab53fa485e5dce64914100118ff3118d3744979d54e2404ecaed570", func := "remitter/remitterlaw10.ShardLists", spec := "shardLists", unfollowed := true, recurses := true, apart := false, narrowed := true }
def ShardListsUptoSaid : Prop := shardListsUptoRow.holds Try.pinned (OpenSpec.upto shardListsSpec)

/-- 'remitterlaw10.ShardLocks', WHERE WHAT IT READS IS OF BULK AT MOST 1048576: true; the input reads as it did. -/
def shardLocksUptoRow : OpenClaim := { program := "ytpmmfbbppnbhbaa", sum := "51d5b8c3aab53fa485e5dce64914100118ff3118d3744979d54e2404ecaed570", func := "remitter/remitterlaw10.ShardLocks", spec := "shardLocks", unfollowed := true, recurses := true, apart := false, narrowed := true }
def ShardLocksUptoSaid : Prop := shardLocksUptoRow.holds Try.pinned (OpenSpec.upto shardLocksSpec)

/-- 'remitterlaw10.ShardOver', WHERE WHAT IT READS IS OF BULK AT MOST 1048576: true; the input reads as it did. -/
def shardOverUptoRow : OpenClaim := { program := "ytpmmfbbppnbhbaa", sum := "51d5b8c3aab53fa485e5dce64914100118ff3118d3744979d54e2404ecaed570", func := "remitter/remitterlaw10.ShardOver", spec := "shardOver", unfollowed := true, recurses := true, apart := false, narrowed := true }
def ShardOverUptoSaid : Prop := shardOverUptoRow.holds Try.pinned (OpenSpec.upto shardOverSpec)

end Rows
end Go.Proofs.Ytpmmfbbppnbhbaa
