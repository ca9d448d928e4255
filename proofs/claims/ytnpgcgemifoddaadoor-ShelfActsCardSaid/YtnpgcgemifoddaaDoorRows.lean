/-
  NARROWER THAN 'FOR EVERY INPUT', by the rows' own cells (each row's printed sentence says how): ShelfActs: laid · ShelfAll: laid · ShelfOther: laid · ShelfAny: laid · ShelfTwice: laid.
  DERIVED. THE GIVEN ROWS OF THIS SEAT. 5 by the template 'for every input the law returns true; each argument reads behind the call as it read before'; 0 by the template 'total and deterministic' (their statements: YtnpgcgemifoddaaDoorTotals.lean).
  GIVEN WITH THE SEED: the statements are not yours to turn. If you find one false, say at which input.
  Laid BY PROGRAM, IN A SANDBOX (cutbox-rows.mjs): the forced cells as the released guide's own fill.sh prints them over the translation dcd2ca0ded65400d… (all of the seat's roots in one cut). By AI agents, Wed Nov 11 2026. No macro, syntax, notation, axiom, sorry.
-/
import Derived.Test.YtnpgcgemifoddaaDoorChecked
import GoSem.Claim
import GoSem.ClaimJoined
import GoSem.ClaimMapViews
import Derived.JoinedTies
import Derived.KernelRfl
namespace Go.Proofs.YtnpgcgemifoddaaDoor
/- THE CELL 'sum', in the pinned program and in every row, IS THE sha256 OF THE DUMP (.gsa) THAT YtnpgcgemifoddaaDoorProg.lean LOADS. Nothing in Lean hashes anything: it is a label: what it is worth is what the hold of that sum in a sandbox is worth. -/
noncomputable def Tryd.pinned : Pinned := { name := "ytnpgcgemifoddaadoor", sum := "dcd2ca0ded65400db2fc4982c1a4e6f78dc5a26503c9d41de4cb39a3f08f108f", checked := Tryd.checked }
namespace Rows
def none {H : Type} : Left H := { results := [], args := [] }

/- WHAT THE LISTED PACKAGE-LEVEL VARIABLES READ AS WHEN THE CALL BEGINS. Each datum BY PROGRAM (the guide's laid-datum.mjs) off the statement by which the dump's own 'gosem.cut.vars' lays the variable. In a bare row this is a premise. The card (YtnpgcgemifoddaaDoorCards.lean) ties it to the program's text. -/
def laid_remitter_digest_roundWords {H : Type} : DataW H := .agg [.lit (.int .u32 1116352408), .lit (.int .u32 1899447441), .lit (.int .u32 3049323471), .lit (.int .u32 3921009573), .lit (.int .u32 961987163), .lit (.int .u32 1508970993), .lit (.int .u32 2453635748), .lit (.int .u32 2870763221), .lit (.int .u32 3624381080), .lit (.int .u32 310598401), .lit (.int .u32 607225278), .lit (.int .u32 1426881987), .lit (.int .u32 1925078388), .lit (.int .u32 2162078206), .lit (.int .u32 2614888103), .lit (.int .u32 3248222580), .lit (.int .u32 3835390401), .lit (.int .u32 4022224774), .lit (.int .u32 264347078), .lit (.int .u32 604807628), .lit (.int .u32 770255983), .lit (.int .u32 1249150122), .lit (.int .u32 1555081692), .lit (.int .u32 1996064986), .lit (.int .u32 2554220882), .lit (.int .u32 2821834349), .lit (.int .u32 2952996808), .lit (.int .u32 3210313671), .lit (.int .u32 3336571891), .lit (.int .u32 3584528711), .lit (.int .u32 113926993), .lit (.int .u32 338241895), .lit (.int .u32 666307205), .lit (.int .u32 773529912), .lit (.int .u32 1294757372), .lit (.int .u32 1396182291), .lit (.int .u32 1695183700), .lit (.int .u32 1986661051), .lit (.int .u32 2177026350), .lit (.int .u32 2456956037), .lit (.int .u32 2730485921), .lit (.int .u32 2820302411), .lit (.int .u32 3259730800), .lit (.int .u32 3345764771), .lit (.int .u32 3516065817), .lit (.int .u32 3600352804), .lit (.int .u32 4094571909), .lit (.int .u32 275423344), .lit (.int .u32 430227734), .lit (.int .u32 506948616), .lit (.int .u32 659060556), .lit (.int .u32 883997877), .lit (.int .u32 958139571), .lit (.int .u32 1322822218), .lit (.int .u32 1537002063), .lit (.int .u32 1747873779), .lit (.int .u32 1955562222), .lit (.int .u32 2024104815), .lit (.int .u32 2227730452), .lit (.int .u32 2361852424), .lit (.int .u32 2428436474), .lit (.int .u32 2756734187), .lit (.int .u32 3204031479), .lit (.int .u32 3329325298)]
def laid_remitter_digest_startWords {H : Type} : DataW H := .agg [.lit (.int .u32 1779033703), .lit (.int .u32 3144134277), .lit (.int .u32 1013904242), .lit (.int .u32 2773480762), .lit (.int .u32 1359893119), .lit (.int .u32 2600822924), .lit (.int .u32 528734635), .lit (.int .u32 1541459225)]

/-- 'remitterlaw05.ShelfActs': WHATEVER THE INPUT: true; the input reads as it did. -/
def shelfActsSpec : ChangeSpec := { name := "shelfActs", fn := fun _ => fun
  | [d1, d2] => { results := [.lit (.bool true)], args := [d1, d2] }
  | _ => none }
def shelfActsRow : OpenClaim := { program := "ytnpgcgemifoddaadoor", sum := "dcd2ca0ded65400db2fc4982c1a4e6f78dc5a26503c9d41de4cb39a3f08f108f", func := "remitter/remitterlaw05.ShelfActs", spec := "shelfActs", unfollowed := true, recurses := true, named := ["remitter/digest.startWords", "remitter/digest.roundWords"], apart := false, laid := [("remitter/digest.roundWords", laid_remitter_digest_roundWords), ("remitter/digest.startWords", laid_remitter_digest_startWords)] }
def ShelfActsSaid : Prop := shelfActsRow.holds Tryd.pinned (OpenSpec.ofChange shelfActsSpec)

/-- ITS FALSE NEIGHBOUR: 'it returns false'. Refute it at one input. -/
def shelfActsWrong : ChangeSpec := { name := "shelfActs", fn := fun _ => fun
  | [d1, d2] => { results := [.lit (.bool false)], args := [d1, d2] }
  | _ => none }
def ShelfActsWrongFalsely : Prop := shelfActsRow.holds Tryd.pinned (OpenSpec.ofChange shelfActsWrong)

/-- 'remitterlaw05.ShelfAll': WHATEVER THE INPUT: true; the input reads as it did. -/
def shelfAllSpec : ChangeSpec := { name := "shelfAll", fn := fun _ => fun
  | [d1, d2, d3, d4] => { results := [.lit (.bool true)], args := [d1, d2, d3, d4] }
  | _ => none }
def shelfAllRow : OpenClaim := { program := "ytnpgcgemifoddaadoor", sum := "dcd2ca0ded65400db2fc4982c1a4e6f78dc5a26503c9d41de4cb39a3f08f108f", func := "remitter/remitterlaw05.ShelfAll", spec := "shelfAll", unfollowed := true, recurses := true, named := ["remitter/digest.startWords", "remitter/digest.roundWords"], apart := false, laid := [("remitter/digest.roundWords", laid_remitter_digest_roundWords), ("remitter/digest.startWords", laid_remitter_digest_startWords)] }
def ShelfAllSaid : Prop := shelfAllRow.holds Tryd.pinned (OpenSpec.ofChange shelfAllSpec)

/-- ITS FALSE NEIGHBOUR: 'it returns false'. Refute it at one input. -/
def shelfAllWrong : ChangeSpec := { name := "shelfAll", fn := fun _ => fun
  | [d1, d2, d3, d4] => { results := [.lit (.bool false)], args := [d1, d2, d3, d4] }
  | _ => none }
def ShelfAllWrongFalsely : Prop := shelfAllRow.holds Tryd.pinned (OpenSpec.ofChange shelfAllWrong)

/-- 'remitterlaw05.ShelfOther': WHATEVER THE INPUT: true; the input reads as it did. -/
def shelfOtherSpec : ChangeSpec := { name := "shelfOther", fn := fun _ => fun
  | [d1, d2, d3] => { results := [.lit (.bool true)], args := [d1, d2, d3] }
  | _ => none }
def shelfOtherRow : OpenClaim := { program := "ytnpgcgemifoddaadoor", sum := "dcd2ca0ded65400db2fc4982c1a4e6f78dc5a26503c9d41de4cb39a3f08f108f", func := "remitter/remitterlaw05.ShelfOther", spec := "shelfOther", unfollowed := true, recurses := true, named := ["remitter/digest.startWords", "remitter/digest.roundWords"], apart := false, laid := [("remitter/digest.roundWords", laid_remitter_digest_roundWords), ("remitter/digest.startWords", laid_remitter_digest_startWords)] }
def ShelfOtherSaid : Prop := shelfOtherRow.holds Tryd.pinned (OpenSpec.ofChange shelfOtherSpec)

/-- ITS FALSE NEIGHBOUR: 'it returns false'. Refute it at one input. -/
def shelfOtherWrong : ChangeSpec := { name := "shelfOther", fn := fun _ => fun
  | [d1, d2, d3] => { results := [.lit (.bool false)], args := [d1, d2, d3] }
  | _ => none }
def ShelfOtherWrongFalsely : Prop := shelfOtherRow.holds Tryd.pinned (OpenSpec.ofChange shelfOtherWrong)

/-- 'remitterlaw05.ShelfAny': WHATEVER THE INPUT: true; the input reads as it did. -/
def shelfAnySpec : ChangeSpec := { name := "shelfAny", fn := fun _ => fun
  | [d1, d2, d3] => { results := [.lit (.bool true)], args := [d1, d2, d3] }
  | _ => none }
def shelfAnyRow : OpenClaim := { program := "ytnpgcgemifoddaadoor", sum := "dcd2ca0ded65400db2fc4982c1a4e6f78dc5a26503c9d41de4cb39a3f08f108f", func := "remitter/remitterlaw05.ShelfAny", spec := "shelfAny", unfollowed := true, recurses := true, named := ["remitter/digest.startWords", "remitter/digest.roundWords"], apart := false, laid := [("remitter/digest.roundWords", laid_remitter_digest_roundWords), ("remitter/digest.startWords", laid_remitter_digest_startWords)] }
def ShelfAnySaid : Prop := shelfAnyRow.holds Tryd.pinned (OpenSpec.ofChange shelfAnySpec)

/-- ITS FALSE NEIGHBOUR: 'it returns false'. Refute it at one input. -/
def shelfAnyWrong : ChangeSpec := { name := "shelfAny", fn := fun _ => fun
  | [d1, d2, d3] => { results := [.lit (.bool false)], args := [d1, d2, d3] }
  | _ => none }
def ShelfAnyWrongFalsely : Prop := shelfAnyRow.holds Tryd.pinned (OpenSpec.ofChange shelfAnyWrong)

/-- 'remitterlaw05.ShelfTwice': WHATEVER THE INPUT: true; the input reads as it did. -/
def shelfTwiceSpec : ChangeSpec := { name := "shelfTwice", fn := fun _ => fun
  | [d1, d2, d3, d4] => { results := [.lit (.bool true)], args := [d1, d2, d3, d4] }
  | _ => none }
def shelfTwiceRow : OpenClaim := { program := "ytnpgcgemifoddaadoor", sum := "dcd2ca0ded65400db2fc4982c1a4e6f78dc5a26503c9d41de4cb39a3f08f108f", func := "remitter/remitterlaw05.ShelfTwice", spec := "shelfTwice", unfollowed := true, recurses := true, named := ["remitter/digest.startWords", "remitter/digest.roundWords"], apart := false, laid := [("remitter/digest.roundWords", laid_remitter_digest_roundWords), ("remitter/digest.startWords", laid_remitter_digest_startWords)] }
def ShelfTwiceSaid : Prop := shelfTwiceRow.holds Tryd.pinned (OpenSpec.ofChange shelfTwiceSpec)

/-- ITS FALSE NEIGHBOUR: 'it returns false'. Refute it at one input. -/
def shelfTwiceWrong : ChangeSpec := { name := "shelfTwice", fn := fun _ => fun
  | [d1, d2, d3, d4] => { results := [.lit (.bool false)], args := [d1, d2, d3, d4] }
  | _ => none }
def ShelfTwiceWrongFalsely : Prop := shelfTwiceRow.holds Tryd.pinned (OpenSpec.ofChange shelfTwiceWrong)

/- THE SECOND FORM. 'bulk': how many values and letters a reading holds, each counted each time it is reached (what is shared counts as often as it is met; a slice's spare places count too). A statement '..UptoSaid' is the law's where the arguments, and the package variables that the reading takes, are together of bulk at most 1048576: NARROWER than '..Said'. Prove '..Said' where nothing that the law and all that it calls make is longer than what came in: it says more and counts as full. Else prove '..UptoSaid'. A law counts once. -/
mutual
def uptoBulk {H : Type} : DataW H → Nat
  | .lit (.string bytes) => bytes.length + 1
  | .lit _ => 1
  | .nil => 1
  | .ptr d => uptoBulk d + 1
  | .slice elems spare => uptoBulkAll elems + uptoBulkAll spare + 1
  | .agg parts => uptoBulkAll parts + 1
  | .iface _ d => uptoBulk d + 1
  | .map entries => uptoBulkEntries entries + 1
  | .held _ => 1
def uptoBulkAll {H : Type} : List (DataW H) → Nat
  | [] => 0
  | d :: r => uptoBulk d + uptoBulkAll r
def uptoBulkEntries {H : Type} : List (Lit × DataW H) → Nat
  | [] => 0
  | x :: r => uptoBulkEntry x + uptoBulkEntries r
def uptoBulkEntry {H : Type} : Lit × DataW H → Nat
  | (.string bytes, d) => bytes.length + uptoBulk d + 1
  | (_, d) => uptoBulk d + 1
 end
def uptoSmall : (H : Type) → List (DataW H) → Bool := fun _ ds => decide (uptoBulkAll ds ≤ 1048576)
def OpenSpec.upto (s : _root_.Go.ChangeSpec) : _root_.Go.OpenSpec := { _root_.Go.OpenSpec.ofChange s with cond := some uptoSmall }

/-- 'remitterlaw05.ShelfActs', WHERE WHAT IT READS IS OF BULK AT MOST 1048576: true; the input reads as it did. -/
def shelfActsUptoRow : OpenClaim := { program := "ytnpgcgemifoddaadoor", sum := "dcd2ca0ded65400db2fc4982c1a4e6f78dc5a26503c9d41de4cb39a3f08f108f", func := "remitter/remitterlaw05.ShelfActs", spec := "shelfActs", unfollowed := true, recurses := true, named := ["remitter/digest.startWords", "remitter/digest.roundWords"], apart := false, laid := [("remitter/digest.roundWords", laid_remitter_digest_roundWords), ("remitter/digest.startWords", laid_remitter_digest_startWords)], narrowed := true }
def ShelfActsUptoSaid : Prop := shelfActsUptoRow.holds Tryd.pinned (OpenSpec.upto shelfActsSpec)

/-- 'remitterlaw05.ShelfAll', WHERE WHAT IT READS IS OF BULK AT MOST 1048576: true; the input reads as it did. -/
def shelfAllUptoRow : OpenClaim := { program := "ytnpgcgemifoddaadoor", sum := "dcd2ca0ded65400db2fc4982c1a4e6f78dc5a26503c9d41de4cb39a3f08f108f", func := "remitter/remitterlaw05.ShelfAll", spec := "shelfAll", unfollowed := true, recurses := true, named := ["remitter/digest.startWords", "remitter/digest.roundWords"], apart := false, laid := [("remitter/digest.roundWords", laid_remitter_digest_roundWords), ("remitter/digest.startWords", laid_remitter_digest_startWords)], narrowed := true }
def ShelfAllUptoSaid : Prop := shelfAllUptoRow.holds Tryd.pinned (OpenSpec.upto shelfAllSpec)

/-- 'remitterlaw05.ShelfOther', WHERE WHAT IT READS IS OF BULK AT MOST 1048576: true; the input reads as it did. -/
def shelfOtherUptoRow : OpenClaim := { program := "ytnpgcgemifoddaadoor", sum := "dcd2ca0ded65400db2fc4982c1a4e6f78dc5a26503c9d41de4cb39a3f08f108f", func := "remitter/remitterlaw05.ShelfOther", spec := "shelfOther", unfollowed := true, recurses := true, named := ["remitter/digest.startWords", "remitter/digest.roundWords"], apart := false, laid := [("remitter/digest.roundWords", laid_remitter_digest_roundWords), ("remitter/digest.startWords", laid_remitter_digest_startWords)], narrowed := true }
def ShelfOtherUptoSaid : Prop := shelfOtherUptoRow.holds Tryd.pinned (OpenSpec.upto shelfOtherSpec)

/-- 'remitterlaw05.ShelfAny', WHERE WHAT IT READS IS OF BULK AT MOST 1048576: true; the input reads as it did. -/
def shelfAnyUptoRow : OpenClaim := { program := "ytnpgcgemifoddaadoor", sum := "dcd2ca0ded65400db2fc4982c1a4e6f78dc5a26503c9d41de4cb39a3f08f108f", func := "remitter/remitterlaw05.ShelfAny", spec := "shelfAny", unfollowed := true, recurses := true, named := ["remitter/digest.startWords", "remitter/digest.roundWords"], apart := false, laid := [("remitter/digest.roundWords", laid_remitter_digest_roundWords), ("remitter/digest.startWords", laid_remitter_digest_startWords)], narrowed := true }
def ShelfAnyUptoSaid : Prop := shelfAnyUptoRow.holds Tryd.pinned (OpenSpec.upto shelfAnySpec)

/-- 'remitterlaw05.ShelfTwice', WHERE WHAT IT READS IS OF BULK AT MOST 1048576: true; the input reads as it did. -/
def shelfTwiceUptoRow : OpenClaim := { program := "ytnpgcgemifoddaadoor", sum := "dcd2ca0ded65400db2fc4982c1a4e6f78dc5a26503c9d41de4cb39a3f08f108f", func := "remitter/remitterlaw05.ShelfTwice", spec := "shelfTwice", unfollowed := true, recurses := true, named := ["remitter/digest.startWords", "remitter/digest.roundWords"], apart := false, laid := [("remitter/digest.roundWords", laid_remitter_digest_roundWords), ("remitter/digest.startWords", laid_remitter_digest_startWords)], narrowed := true }
def ShelfTwiceUptoSaid : Prop := shelfTwiceUptoRow.holds Tryd.pinned (OpenSpec.upto shelfTwiceSpec)

end Rows
end Go.Proofs.YtnpgcgemifoddaaDoor
