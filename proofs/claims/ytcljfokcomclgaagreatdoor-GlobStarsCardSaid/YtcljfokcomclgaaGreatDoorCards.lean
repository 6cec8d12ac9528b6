/-
  DERIVED. GIVEN WITH THE SEED: THE CARDS: each row of YtcljfokcomclgaaGreatDoorRows.lean that lists a variable, with what it lists TIED to the program's text (the seventh form; the later family's looks); each row that meets fmt, with fmt's text TOLD by the authors' own Lean function (tested against real Go, not proved from fmt's source: count such statements apart). THE CARD IS WHAT COUNTS. Prove the row's statement (the work); the ties are given (YtcljfokcomclgaaGreatDoorTie.lean); close each card by the builder's one call (the guide's Derived/Test/ToyasCard.lean, 'card_holds'). Laid BY PROGRAM, IN A SANDBOX (cutbox-door.mjs). By AI agents, Wed Nov 11 2026. No macro, syntax, notation, axiom, sorry.
-/
import Derived.Test.YtcljfokcomclgaaGreatDoorRows
import GoSem.ClaimSeven
namespace Go.Proofs.YtcljfokcomclgaaGreatDoor
namespace Rows

/-- THE TIED CARD OF 'creelkeep.GlobStars'. -/
def globStarsCard : Claim7 := { stood := { row := globStarsRow, standIns := [], harness := (true, "630047122a3f686ef6565f12e370b4e03c62d0186534e1a18ec457704ad0de95"), looks := false }, kinds := [], alts := [], laidByText := true, laidKinds := [.data, .pinned], laidTests := true, laidLooks := .later }
def GlobStarsCardSaid : Prop := Claim7.holds Tryz.pinned (.plain (OpenSpec.ofChange globStarsSpec)) globStarsCard

/-- THE SECOND FORM's CARD OF 'creelkeep.GlobStars'. -/
def globStarsUptoCard : Claim7 := { stood := { row := globStarsUptoRow, standIns := [], harness := (true, "630047122a3f686ef6565f12e370b4e03c62d0186534e1a18ec457704ad0de95"), looks := false }, kinds := [], alts := [], laidByText := true, laidKinds := [.data, .pinned], laidTests := true, laidLooks := .later }
def GlobStarsUptoCardSaid : Prop := Claim7.holds Tryz.pinned (.plain (OpenSpec.upto globStarsSpec)) globStarsUptoCard
end Rows
end Go.Proofs.YtcljfokcomclgaaGreatDoor
