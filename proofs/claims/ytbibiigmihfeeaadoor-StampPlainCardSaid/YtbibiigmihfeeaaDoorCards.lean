/-
  DERIVED. GIVEN WITH THE SEED: THE CARDS: each row of YtbibiigmihfeeaaDoorRows.lean that lists a variable, with what it lists TIED to the program's text (the seventh form; the later family's looks); each row that meets fmt, with fmt's text TOLD by the authors' own Lean function (tested against real Go, not proved from fmt's source: count such statements apart). THE CARD IS WHAT COUNTS. Prove the row's statement (the work); the ties are given (YtbibiigmihfeeaaDoorTie.lean); close each card by the builder's one call (the guide's Derived/Test/ToyasCard.lean, 'card_holds'). Laid BY PROGRAM, IN A SANDBOX (cutbox-door.mjs). By AI agents, Wed Nov 11 2026. No macro, syntax, notation, axiom, sorry.
-/
import Derived.Test.YtbibiigmihfeeaaDoorRows
import GoSem.ClaimSeven
namespace Go.Proofs.YtbibiigmihfeeaaDoor
namespace Rows

/-- THE TIED CARD OF 'creellaw.StampTells'. -/
def stampTellsCard : Claim7 := { stood := { row := stampTellsRow, standIns := [], harness := (true, "d2c75e695bff5b94e828c031082aaa7a08bc66e82c6fad936c90c84e0510bc9b"), looks := true }, kinds := [], alts := [], laidByText := true, laidKinds := [.data, .data, .data, .data, .pinned], laidTests := true, laidLooks := .later }
def StampTellsCardSaid : Prop := Claim7.holds Tryd.pinned (.plain (OpenSpec.ofChange stampTellsSpec)) stampTellsCard

/-- THE TIED CARD OF 'creellaw.StampParses'. -/
def stampParsesCard : Claim7 := { stood := { row := stampParsesRow, standIns := [], harness := (true, "d2c75e695bff5b94e828c031082aaa7a08bc66e82c6fad936c90c84e0510bc9b"), looks := true }, kinds := [], alts := [], laidByText := true, laidKinds := [.data, .data, .data, .data, .sentinel, .sentinel, .pinned], laidTests := true, laidLooks := .later }
def StampParsesCardSaid : Prop := Claim7.holds Tryd.pinned (.plain (OpenSpec.ofChange stampParsesSpec)) stampParsesCard

/-- THE TIED CARD OF 'creelkeep.StampBack'. -/
def stampBackCard : Claim7 := { stood := { row := stampBackRow, standIns := [], harness := (true, "d2c75e695bff5b94e828c031082aaa7a08bc66e82c6fad936c90c84e0510bc9b"), looks := true }, kinds := [], alts := [], laidByText := true, laidKinds := [.data, .data, .data, .data, .sentinel, .sentinel, .pinned], laidTests := true, laidLooks := .later }
def StampBackCardSaid : Prop := Claim7.holds Tryd.pinned (.plain (OpenSpec.ofChange stampBackSpec)) stampBackCard

/-- THE TIED CARD OF 'creelkeep.StampPlain'. -/
def stampPlainCard : Claim7 := { stood := { row := stampPlainRow, standIns := [], harness := (true, "d2c75e695bff5b94e828c031082aaa7a08bc66e82c6fad936c90c84e0510bc9b"), looks := true }, kinds := [], alts := [], laidByText := true, laidKinds := [.data, .data, .data, .data, .pinned], laidTests := true, laidLooks := .later }
def StampPlainCardSaid : Prop := Claim7.holds Tryd.pinned (.plain (OpenSpec.ofChange stampPlainSpec)) stampPlainCard

/-- THE TIED CARD OF 'creelkeep.StampTurns'. -/
def stampTurnsCard : Claim7 := { stood := { row := stampTurnsRow, standIns := [], harness := (true, "d2c75e695bff5b94e828c031082aaa7a08bc66e82c6fad936c90c84e0510bc9b"), looks := true }, kinds := [], alts := [], laidByText := true, laidKinds := [.data, .data, .data, .data, .sentinel, .sentinel, .pinned], laidTests := true, laidLooks := .later }
def StampTurnsCardSaid : Prop := Claim7.holds Tryd.pinned (.plain (OpenSpec.ofChange stampTurnsSpec)) stampTurnsCard

/-- THE SECOND FORM's CARD OF 'creellaw.StampTells'. -/
def stampTellsUptoCard : Claim7 := { stood := { row := stampTellsUptoRow, standIns := [], harness := (true, "d2c75e695bff5b94e828c031082aaa7a08bc66e82c6fad936c90c84e0510bc9b"), looks := true }, kinds := [], alts := [], laidByText := true, laidKinds := [.data, .data, .data, .data, .pinned], laidTests := true, laidLooks := .later }
def StampTellsUptoCardSaid : Prop := Claim7.holds Tryd.pinned (.plain (OpenSpec.upto stampTellsSpec)) stampTellsUptoCard

/-- THE SECOND FORM's CARD OF 'creellaw.StampParses'. -/
def stampParsesUptoCard : Claim7 := { stood := { row := stampParsesUptoRow, standIns := [], harness := (true, "d2c75e695bff5b94e828c031082aaa7a08bc66e82c6fad936c90c84e0510bc9b"), looks := true }, kinds := [], alts := [], laidByText := true, laidKinds := [.data, .data, .data, .data, .sentinel, .sentinel, .pinned], laidTests := true, laidLooks := .later }
def StampParsesUptoCardSaid : Prop := Claim7.holds Tryd.pinned (.plain (OpenSpec.upto stampParsesSpec)) stampParsesUptoCard

/-- THE SECOND FORM's CARD OF 'creelkeep.StampBack'. -/
def stampBackUptoCard : Claim7 := { stood := { row := stampBackUptoRow, standIns := [], harness := (true, "d2c75e695bff5b94e828c031082aaa7a08bc66e82c6fad936c90c84e0510bc9b"), looks := true }, kinds := [], alts := [], laidByText := true, laidKinds := [.data, .data, .data, .data, .sentinel, .sentinel, .pinned], laidTests := true, laidLooks := .later }
def StampBackUptoCardSaid : Prop := Claim7.holds Tryd.pinned (.plain (OpenSpec.upto stampBackSpec)) stampBackUptoCard

/-- THE SECOND FORM's CARD OF 'creelkeep.StampPlain'. -/
def stampPlainUptoCard : Claim7 := { stood := { row := stampPlainUptoRow, standIns := [], harness := (true, "d2c75e695bff5b94e828c031082aaa7a08bc66e82c6fad936c90c84e0510bc9b"), looks := true }, kinds := [], alts := [], laidByText := true, laidKinds := [.data, .data, .data, .data, .pinned], laidTests := true, laidLooks := .later }
def StampPlainUptoCardSaid : Prop := Claim7.holds Tryd.pinned (.plain (OpenSpec.upto stampPlainSpec)) stampPlainUptoCard

/-- THE SECOND FORM's CARD OF 'creelkeep.StampTurns'. -/
def stampTurnsUptoCard : Claim7 := { stood := { row := stampTurnsUptoRow, standIns := [], harness := (true, "d2c75e695bff5b94e828c031082aaa7a08bc66e82c6fad936c90c84e0510bc9b"), looks := true }, kinds := [], alts := [], laidByText := true, laidKinds := [.data, .data, .data, .data, .sentinel, .sentinel, .pinned], laidTests := true, laidLooks := .later }
def StampTurnsUptoCardSaid : Prop := Claim7.holds Tryd.pinned (.plain (OpenSpec.upto stampTurnsSpec)) stampTurnsUptoCard
end Rows
end Go.Proofs.YtbibiigmihfeeaaDoor
