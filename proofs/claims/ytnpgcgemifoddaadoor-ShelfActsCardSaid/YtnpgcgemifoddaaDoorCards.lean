/-
  DERIVED. GIVEN WITH THE SEED: THE CARDS: each row of YtnpgcgemifoddaaDoorRows.lean that lists a variable, with what it lists TIED to the program's text (the seventh form; the later family's looks); each row that meets fmt, with fmt's text TOLD by the authors' own Lean function (tested against real Go, not proved from fmt's source: count such statements apart). THE CARD IS WHAT COUNTS. Prove the row's statement (the work); the ties are given (YtnpgcgemifoddaaDoorTie.lean); close each card by the builder's one call (the guide's Derived/Test/ToyasCard.lean, 'card_holds'). Laid BY PROGRAM, IN A SANDBOX (cutbox-door.mjs). By AI agents, Wed Nov 11 2026. No macro, syntax, notation, axiom, sorry.
-/
import Derived.Test.YtnpgcgemifoddaaDoorRows
import GoSem.ClaimSeven
namespace Go.Proofs.YtnpgcgemifoddaaDoor
namespace Rows

/-- THE TIED CARD OF 'remitterlaw05.ShelfActs'. -/
def shelfActsCard : Claim7 := { stood := { row := shelfActsRow, standIns := [], harness := (true, "f593de8d2c492118422038cdaae284a5c4ca7cf4f7fe5b578b4c26c401ea2a7c"), looks := false }, kinds := [], alts := [], laidByText := true, laidKinds := [.data, .data], laidTests := true, laidLooks := .later }
def ShelfActsCardSaid : Prop := Claim7.holds Tryd.pinned (.plain (OpenSpec.ofChange shelfActsSpec)) shelfActsCard

/-- THE TIED CARD OF 'remitterlaw05.ShelfAll'. -/
def shelfAllCard : Claim7 := { stood := { row := shelfAllRow, standIns := [], harness := (true, "f593de8d2c492118422038cdaae284a5c4ca7cf4f7fe5b578b4c26c401ea2a7c"), looks := false }, kinds := [], alts := [], laidByText := true, laidKinds := [.data, .data], laidTests := true, laidLooks := .later }
def ShelfAllCardSaid : Prop := Claim7.holds Tryd.pinned (.plain (OpenSpec.ofChange shelfAllSpec)) shelfAllCard

/-- THE TIED CARD OF 'remitterlaw05.ShelfOther'. -/
def shelfOtherCard : Claim7 := { stood := { row := shelfOtherRow, standIns := [], harness := (true, "f593de8d2c492118422038cdaae284a5c4ca7cf4f7fe5b578b4c26c401ea2a7c"), looks := false }, kinds := [], alts := [], laidByText := true, laidKinds := [.data, .data], laidTests := true, laidLooks := .later }
def ShelfOtherCardSaid : Prop := Claim7.holds Tryd.pinned (.plain (OpenSpec.ofChange shelfOtherSpec)) shelfOtherCard

/-- THE TIED CARD OF 'remitterlaw05.ShelfAny'. -/
def shelfAnyCard : Claim7 := { stood := { row := shelfAnyRow, standIns := [], harness := (true, "f593de8d2c492118422038cdaae284a5c4ca7cf4f7fe5b578b4c26c401ea2a7c"), looks := false }, kinds := [], alts := [], laidByText := true, laidKinds := [.data, .data], laidTests := true, laidLooks := .later }
def ShelfAnyCardSaid : Prop := Claim7.holds Tryd.pinned (.plain (OpenSpec.ofChange shelfAnySpec)) shelfAnyCard

/-- THE TIED CARD OF 'remitterlaw05.ShelfTwice'. -/
def shelfTwiceCard : Claim7 := { stood := { row := shelfTwiceRow, standIns := [], harness := (true, "f593de8d2c492118422038cdaae284a5c4ca7cf4f7fe5b578b4c26c401ea2a7c"), looks := false }, kinds := [], alts := [], laidByText := true, laidKinds := [.data, .data], laidTests := true, laidLooks := .later }
def ShelfTwiceCardSaid : Prop := Claim7.holds Tryd.pinned (.plain (OpenSpec.ofChange shelfTwiceSpec)) shelfTwiceCard

/-- THE SECOND FORM's CARD OF 'remitterlaw05.ShelfActs'. -/
def shelfActsUptoCard : Claim7 := { stood := { row := shelfActsUptoRow, standIns := [], harness := (true, "f593de8d2c492118422038cdaae284a5c4ca7cf4f7fe5b578b4c26c401ea2a7c"), looks := false }, kinds := [], alts := [], laidByText := true, laidKinds := [.data, .data], laidTests := true, laidLooks := .later }
def ShelfActsUptoCardSaid : Prop := Claim7.holds Tryd.pinned (.plain (OpenSpec.upto shelfActsSpec)) shelfActsUptoCard

/-- THE SECOND FORM's CARD OF 'remitterlaw05.ShelfAll'. -/
def shelfAllUptoCard : Claim7 := { stood := { row := shelfAllUptoRow, standIns := [], harness := (true, "f593de8d2c492118422038cdaae284a5c4ca7cf4f7fe5b578b4c26c401ea2a7c"), looks := false }, kinds := [], alts := [], laidByText := true, laidKinds := [.data, .data], laidTests := true, laidLooks := .later }
def ShelfAllUptoCardSaid : Prop := Claim7.holds Tryd.pinned (.plain (OpenSpec.upto shelfAllSpec)) shelfAllUptoCard

/-- THE SECOND FORM's CARD OF 'remitterlaw05.ShelfOther'. -/
def shelfOtherUptoCard : Claim7 := { stood := { row := shelfOtherUptoRow, standIns := [], harness := (true, "f593de8d2c492118422038cdaae284a5c4ca7cf4f7fe5b578b4c26c401ea2a7c"), looks := false }, kinds := [], alts := [], laidByText := true, laidKinds := [.data, .data], laidTests := true, laidLooks := .later }
def ShelfOtherUptoCardSaid : Prop := Claim7.holds Tryd.pinned (.plain (OpenSpec.upto shelfOtherSpec)) shelfOtherUptoCard

/-- THE SECOND FORM's CARD OF 'remitterlaw05.ShelfAny'. -/
def shelfAnyUptoCard : Claim7 := { stood := { row := shelfAnyUptoRow, standIns := [], harness := (true, "f593de8d2c492118422038cdaae284a5c4ca7cf4f7fe5b578b4c26c401ea2a7c"), looks := false }, kinds := [], alts := [], laidByText := true, laidKinds := [.data, .data], laidTests := true, laidLooks := .later }
def ShelfAnyUptoCardSaid : Prop := Claim7.holds Tryd.pinned (.plain (OpenSpec.upto shelfAnySpec)) shelfAnyUptoCard

/-- THE SECOND FORM's CARD OF 'remitterlaw05.ShelfTwice'. -/
def shelfTwiceUptoCard : Claim7 := { stood := { row := shelfTwiceUptoRow, standIns := [], harness := (true, "f593de8d2c492118422038cdaae284a5c4ca7cf4f7fe5b578b4c26c401ea2a7c"), looks := false }, kinds := [], alts := [], laidByText := true, laidKinds := [.data, .data], laidTests := true, laidLooks := .later }
def ShelfTwiceUptoCardSaid : Prop := Claim7.holds Tryd.pinned (.plain (OpenSpec.upto shelfTwiceSpec)) shelfTwiceUptoCard
end Rows
end Go.Proofs.YtnpgcgemifoddaaDoor
