/-
  DERIVED. GIVEN WITH THE SEED: THE CARDS: each row of YtiimkbboeekhlaaDoorRows.lean that lists a variable, with what it lists TIED to the program's text (the seventh form; the later family's looks); each row that meets fmt, with fmt's text TOLD by the authors' own Lean function (tested against real Go, not proved from fmt's source: count such statements apart). THE CARD IS WHAT COUNTS. Prove the row's statement (the work); the ties are given (YtiimkbboeekhlaaDoorTie.lean); close each card by the builder's one call (the guide's Derived/Test/ToyasCard.lean, 'card_holds'). Laid BY PROGRAM, IN A SANDBOX (cutbox-door.mjs). By AI agents, Wed Nov 11 2026. No macro, syntax, notation, axiom, sorry.
-/
import Derived.Test.YtiimkbboeekhlaaDoorRows
import GoSem.ClaimSeven
namespace Go.Proofs.YtiimkbboeekhlaaDoor
namespace Rows

/-- THE TIED CARD OF 'remitterlaw04.SecretTells'. -/
def secretTellsCard : Claim7 := { stood := { row := secretTellsRow, standIns := [], harness := (true, "611833828f83ab50b9bd4398ffd02a0a796d625e0ad8046b1c9fc55afa68ff32"), looks := false }, kinds := [], alts := [], laidByText := true, laidKinds := [.data, .data], laidTests := true, laidLooks := .later }
def SecretTellsCardSaid : Prop := Claim7.holds Tryd.pinned (.plain (OpenSpec.ofChange secretTellsSpec)) secretTellsCard

/-- THE TIED CARD OF 'remitterlaw04.SecretDerives'. -/
def secretDerivesCard : Claim7 := { stood := { row := secretDerivesRow, standIns := [], harness := (true, "611833828f83ab50b9bd4398ffd02a0a796d625e0ad8046b1c9fc55afa68ff32"), looks := false }, kinds := [], alts := [], laidByText := true, laidKinds := [.data, .data], laidTests := true, laidLooks := .later }
def SecretDerivesCardSaid : Prop := Claim7.holds Tryd.pinned (.plain (OpenSpec.ofChange secretDerivesSpec)) secretDerivesCard

/-- THE TIED CARD OF 'remitterlaw04.SecretSteps'. -/
def secretStepsCard : Claim7 := { stood := { row := secretStepsRow, standIns := [], harness := (true, "611833828f83ab50b9bd4398ffd02a0a796d625e0ad8046b1c9fc55afa68ff32"), looks := false }, kinds := [], alts := [], laidByText := true, laidKinds := [.data, .data], laidTests := true, laidLooks := .later }
def SecretStepsCardSaid : Prop := Claim7.holds Tryd.pinned (.plain (OpenSpec.ofChange secretStepsSpec)) secretStepsCard

/-- THE TIED CARD OF 'remitterlaw04.SecretFar'. -/
def secretFarCard : Claim7 := { stood := { row := secretFarRow, standIns := [], harness := (true, "611833828f83ab50b9bd4398ffd02a0a796d625e0ad8046b1c9fc55afa68ff32"), looks := false }, kinds := [], alts := [], laidByText := true, laidKinds := [.data, .data], laidTests := true, laidLooks := .later }
def SecretFarCardSaid : Prop := Claim7.holds Tryd.pinned (.plain (OpenSpec.ofChange secretFarSpec)) secretFarCard

/-- THE SECOND FORM's CARD OF 'remitterlaw04.SecretTells'. -/
def secretTellsUptoCard : Claim7 := { stood := { row := secretTellsUptoRow, standIns := [], harness := (true, "611833828f83ab50b9bd4398ffd02a0a796d625e0ad8046b1c9fc55afa68ff32"), looks := false }, kinds := [], alts := [], laidByText := true, laidKinds := [.data, .data], laidTests := true, laidLooks := .later }
def SecretTellsUptoCardSaid : Prop := Claim7.holds Tryd.pinned (.plain (OpenSpec.upto secretTellsSpec)) secretTellsUptoCard

/-- THE SECOND FORM's CARD OF 'remitterlaw04.SecretDerives'. -/
def secretDerivesUptoCard : Claim7 := { stood := { row := secretDerivesUptoRow, standIns := [], harness := (true, "611833828f83ab50b9bd4398ffd02a0a796d625e0ad8046b1c9fc55afa68ff32"), looks := false }, kinds := [], alts := [], laidByText := true, laidKinds := [.data, .data], laidTests := true, laidLooks := .later }
def SecretDerivesUptoCardSaid : Prop := Claim7.holds Tryd.pinned (.plain (OpenSpec.upto secretDerivesSpec)) secretDerivesUptoCard

/-- THE SECOND FORM's CARD OF 'remitterlaw04.SecretSteps'. -/
def secretStepsUptoCard : Claim7 := { stood := { row := secretStepsUptoRow, standIns := [], harness := (true, "611833828f83ab50b9bd4398ffd02a0a796d625e0ad8046b1c9fc55afa68ff32"), looks := false }, kinds := [], alts := [], laidByText := true, laidKinds := [.data, .data], laidTests := true, laidLooks := .later }
def SecretStepsUptoCardSaid : Prop := Claim7.holds Tryd.pinned (.plain (OpenSpec.upto secretStepsSpec)) secretStepsUptoCard

/-- THE SECOND FORM's CARD OF 'remitterlaw04.SecretFar'. -/
def secretFarUptoCard : Claim7 := { stood := { row := secretFarUptoRow, standIns := [], harness := (true, "611833828f83ab50b9bd4398ffd02a0a796d625e0ad8046b1c9fc55afa68ff32"), looks := false }, kinds := [], alts := [], laidByText := true, laidKinds := [.data, .data], laidTests := true, laidLooks := .later }
def SecretFarUptoCardSaid : Prop := Claim7.holds Tryd.pinned (.plain (OpenSpec.upto secretFarSpec)) secretFarUptoCard
end Rows
end Go.Proofs.YtiimkbboeekhlaaDoor
