/-
  DERIVED. GIVEN WITH THE SEED: THE CARDS: each row of YtoplcelimdkjeaaGreatDoorRows.lean that lists a variable, with what it lists TIED to the program's text (the seventh form; the later family's looks); each row that meets fmt, with fmt's text TOLD by the authors' own Lean function (tested against real Go, not proved from fmt's source: count such statements apart). THE CARD IS WHAT COUNTS. Prove the row's statement (the work); the ties are given (YtoplcelimdkjeaaGreatDoorTie.lean); close each card by the builder's one call (the guide's Derived/Test/ToyasCard.lean, 'card_holds'). Laid BY PROGRAM, IN A SANDBOX (cutbox-door.mjs). By AI agents, Wed Nov 11 2026. No macro, syntax, notation, axiom, sorry.
-/
import Derived.Test.YtoplcelimdkjeaaGreatDoorRows
import GoSem.ClaimSeven
namespace Go.Proofs.YtoplcelimdkjeaaGreatDoor
namespace Rows

/-- THE TIED CARD OF 'creelkeep.LinkAnew'. -/
def linkAnewCard : Claim7 := { stood := { row := linkAnewRow, standIns := [], harness := (true, "eca239539e2433d682d4127fb771ffab318252af7905ca17a997a9d22acbdf17"), looks := false }, kinds := [], alts := [], laidByText := true, laidKinds := [.data, .pinned], laidTests := true, laidLooks := .later }
def LinkAnewCardSaid : Prop := Claim7.holds Tryz.pinned (.plain (OpenSpec.ofChange linkAnewSpec)) linkAnewCard

/-- THE SECOND FORM's CARD OF 'creelkeep.LinkAnew'. -/
def linkAnewUptoCard : Claim7 := { stood := { row := linkAnewUptoRow, standIns := [], harness := (true, "eca239539e2433d682d4127fb771ffab318252af7905ca17a997a9d22acbdf17"), looks := false }, kinds := [], alts := [], laidByText := true, laidKinds := [.data, .pinned], laidTests := true, laidLooks := .later }
def LinkAnewUptoCardSaid : Prop := Claim7.holds Tryz.pinned (.plain (OpenSpec.upto linkAnewSpec)) linkAnewUptoCard
end Rows
end Go.Proofs.YtoplcelimdkjeaaGreatDoor
