/-
  DERIVED. GIVEN WITH THE SEED: THE CARDS: each row of YtmejnabngfpbeaaGreatDoorRows.lean that lists a variable, with what it lists TIED to the program's text (the seventh form; the later family's looks); each row that meets fmt, with fmt's text TOLD by the authors' own Lean function (tested against real Go, not proved from fmt's source: count such statements apart). THE CARD IS WHAT COUNTS. Prove the row's statement (the work); the ties are given (YtmejnabngfpbeaaGreatDoorTie.lean); close each card by the builder's one call (the guide's Derived/Test/ToyasCard.lean, 'card_holds'). Laid BY PROGRAM, IN A SANDBOX (cutbox-door.mjs). By AI agents, Wed Nov 11 2026. No macro, syntax, notation, axiom, sorry.
-/
import Derived.Test.YtmejnabngfpbeaaGreatDoorRows
import GoSem.ClaimSeven
namespace Go.Proofs.YtmejnabngfpbeaaGreatDoor
namespace Rows

/-- THE TIED CARD OF 'creellaw.ReadArchives'. -/
def readArchivesCard : Claim7 := { stood := { row := readArchivesRow, standIns := [], harness := (true, "03b51b2f3c376e40c084738ffb88693cdd7cfe6eb9da2d6b1145cc7c14e0e320"), looks := true }, kinds := [], alts := [], laidByText := true, laidKinds := [.data, .data, .data, .data, .sentinel, .sentinel, .pinned], laidTests := true, laidLooks := .later }
def ReadArchivesCardSaid : Prop := Claim7.holds Tryz.pinned (.plain (OpenSpec.ofChange readArchivesSpec)) readArchivesCard

/-- THE TIED CARD OF 'creellaw.ReadSomes'. -/
def readSomesCard : Claim7 := { stood := { row := readSomesRow, standIns := [], harness := (true, "03b51b2f3c376e40c084738ffb88693cdd7cfe6eb9da2d6b1145cc7c14e0e320"), looks := true }, kinds := [], alts := [], laidByText := true, laidKinds := [.data, .data, .data, .data, .sentinel, .sentinel, .pinned], laidTests := true, laidLooks := .later }
def ReadSomesCardSaid : Prop := Claim7.holds Tryz.pinned (.plain (OpenSpec.ofChange readSomesSpec)) readSomesCard

/-- THE TIED CARD OF 'creelkeep.WriteBack'. -/
def writeBackCard : Claim7 := { stood := { row := writeBackRow, standIns := [], harness := (true, "03b51b2f3c376e40c084738ffb88693cdd7cfe6eb9da2d6b1145cc7c14e0e320"), looks := true }, kinds := [], alts := [], laidByText := true, laidKinds := [.data, .data, .data, .data, .sentinel, .sentinel, .pinned], laidTests := true, laidLooks := .later }
def WriteBackCardSaid : Prop := Claim7.holds Tryz.pinned (.plain (OpenSpec.ofChange writeBackSpec)) writeBackCard

/-- THE TIED CARD OF 'creelkeep.ReadTorn'. -/
def readTornCard : Claim7 := { stood := { row := readTornRow, standIns := [], harness := (true, "03b51b2f3c376e40c084738ffb88693cdd7cfe6eb9da2d6b1145cc7c14e0e320"), looks := true }, kinds := [], alts := [], laidByText := true, laidKinds := [.data, .data, .data, .data, .sentinel, .sentinel, .pinned], laidTests := true, laidLooks := .later }
def ReadTornCardSaid : Prop := Claim7.holds Tryz.pinned (.plain (OpenSpec.ofChange readTornSpec)) readTornCard

/-- THE TIED CARD OF 'creelkeep.ReadMore'. -/
def readMoreCard : Claim7 := { stood := { row := readMoreRow, standIns := [], harness := (true, "03b51b2f3c376e40c084738ffb88693cdd7cfe6eb9da2d6b1145cc7c14e0e320"), looks := true }, kinds := [], alts := [], laidByText := true, laidKinds := [.data, .data, .data, .data, .sentinel, .sentinel, .pinned], laidTests := true, laidLooks := .later }
def ReadMoreCardSaid : Prop := Claim7.holds Tryz.pinned (.plain (OpenSpec.ofChange readMoreSpec)) readMoreCard

/-- THE TIED CARD OF 'creelkeep.ReadTurns'. -/
def readTurnsCard : Claim7 := { stood := { row := readTurnsRow, standIns := [], harness := (true, "03b51b2f3c376e40c084738ffb88693cdd7cfe6eb9da2d6b1145cc7c14e0e320"), looks := true }, kinds := [], alts := [], laidByText := true, laidKinds := [.data, .data, .data, .data, .sentinel, .sentinel, .pinned], laidTests := true, laidLooks := .later }
def ReadTurnsCardSaid : Prop := Claim7.holds Tryz.pinned (.plain (OpenSpec.ofChange readTurnsSpec)) readTurnsCard

/-- THE TIED CARD OF 'creelkeep.ReadFound'. -/
def readFoundCard : Claim7 := { stood := { row := readFoundRow, standIns := [], harness := (true, "03b51b2f3c376e40c084738ffb88693cdd7cfe6eb9da2d6b1145cc7c14e0e320"), looks := true }, kinds := [], alts := [], laidByText := true, laidKinds := [.data, .data, .data, .data, .sentinel, .sentinel, .pinned], laidTests := true, laidLooks := .later }
def ReadFoundCardSaid : Prop := Claim7.holds Tryz.pinned (.plain (OpenSpec.ofChange readFoundSpec)) readFoundCard

/-- THE SECOND FORM's CARD OF 'creellaw.ReadArchives'. -/
def readArchivesUptoCard : Claim7 := { stood := { row := readArchivesUptoRow, standIns := [], harness := (true, "03b51b2f3c376e40c084738ffb88693cdd7cfe6eb9da2d6b1145cc7c14e0e320"), looks := true }, kinds := [], alts := [], laidByText := true, laidKinds := [.data, .data, .data, .data, .sentinel, .sentinel, .pinned], laidTests := true, laidLooks := .later }
def ReadArchivesUptoCardSaid : Prop := Claim7.holds Tryz.pinned (.plain (OpenSpec.upto readArchivesSpec)) readArchivesUptoCard

/-- THE SECOND FORM's CARD OF 'creellaw.ReadSomes'. -/
def readSomesUptoCard : Claim7 := { stood := { row := readSomesUptoRow, standIns := [], harness := (true, "03b51b2f3c376e40c084738ffb88693cdd7cfe6eb9da2d6b1145cc7c14e0e320"), looks := true }, kinds := [], alts := [], laidByText := true, laidKinds := [.data, .data, .data, .data, .sentinel, .sentinel, .pinned], laidTests := true, laidLooks := .later }
def ReadSomesUptoCardSaid : Prop := Claim7.holds Tryz.pinned (.plain (OpenSpec.upto readSomesSpec)) readSomesUptoCard

/-- THE SECOND FORM's CARD OF 'creelkeep.WriteBack'. -/
def writeBackUptoCard : Claim7 := { stood := { row := writeBackUptoRow, standIns := [], harness := (true, "03b51b2f3c376e40c084738ffb88693cdd7cfe6eb9da2d6b1145cc7c14e0e320"), looks := true }, kinds := [], alts := [], laidByText := true, laidKinds := [.data, .data, .data, .data, .sentinel, .sentinel, .pinned], laidTests := true, laidLooks := .later }
def WriteBackUptoCardSaid : Prop := Claim7.holds Tryz.pinned (.plain (OpenSpec.upto writeBackSpec)) writeBackUptoCard

/-- THE SECOND FORM's CARD OF 'creelkeep.ReadTorn'. -/
def readTornUptoCard : Claim7 := { stood := { row := readTornUptoRow, standIns := [], harness := (true, "03b51b2f3c376e40c084738ffb88693cdd7cfe6eb9da2d6b1145cc7c14e0e320"), looks := true }, kinds := [], alts := [], laidByText := true, laidKinds := [.data, .data, .data, .data, .sentinel, .sentinel, .pinned], laidTests := true, laidLooks := .later }
def ReadTornUptoCardSaid : Prop := Claim7.holds Tryz.pinned (.plain (OpenSpec.upto readTornSpec)) readTornUptoCard

/-- THE SECOND FORM's CARD OF 'creelkeep.ReadMore'. -/
def readMoreUptoCard : Claim7 := { stood := { row := readMoreUptoRow, standIns := [], harness := (true, "03b51b2f3c376e40c084738ffb88693cdd7cfe6eb9da2d6b1145cc7c14e0e320"), looks := true }, kinds := [], alts := [], laidByText := true, laidKinds := [.data, .data, .data, .data, .sentinel, .sentinel, .pinned], laidTests := true, laidLooks := .later }
def ReadMoreUptoCardSaid : Prop := Claim7.holds Tryz.pinned (.plain (OpenSpec.upto readMoreSpec)) readMoreUptoCard

/-- THE SECOND FORM's CARD OF 'creelkeep.ReadTurns'. -/
def readTurnsUptoCard : Claim7 := { stood := { row := readTurnsUptoRow, standIns := [], harness := (true, "03b51b2f3c376e40c084738ffb88693cdd7cfe6eb9da2d6b1145cc7c14e0e320"), looks := true }, kinds := [], alts := [], laidByText := true, laidKinds := [.data, .data, .data, .data, .sentinel, .sentinel, .pinned], laidTests := true, laidLooks := .later }
def ReadTurnsUptoCardSaid : Prop := Claim7.holds Tryz.pinned (.plain (OpenSpec.upto readTurnsSpec)) readTurnsUptoCard

/-- THE SECOND FORM's CARD OF 'creelkeep.ReadFound'. -/
def readFoundUptoCard : Claim7 := { stood := { row := readFoundUptoRow, standIns := [], harness := (true, "03b51b2f3c376e40c084738ffb88693cdd7cfe6eb9da2d6b1145cc7c14e0e320"), looks := true }, kinds := [], alts := [], laidByText := true, laidKinds := [.data, .data, .data, .data, .sentinel, .sentinel, .pinned], laidTests := true, laidLooks := .later }
def ReadFoundUptoCardSaid : Prop := Claim7.holds Tryz.pinned (.plain (OpenSpec.upto readFoundSpec)) readFoundUptoCard
end Rows
end Go.Proofs.YtmejnabngfpbeaaGreatDoor
