/-
  DERIVED. GIVEN WITH THE SEED: THE CARDS: each row of YtldffnmoafhidaaGreatDoorRows.lean that lists a variable, with what it lists TIED to the program's text (the seventh form; the later family's looks); each row that meets fmt, with fmt's text TOLD by the authors' own Lean function (tested against real Go, not proved from fmt's source: count such statements apart). THE CARD IS WHAT COUNTS. Prove the row's statement (the work); the ties are given (YtldffnmoafhidaaGreatDoorTie.lean); close each card by the builder's one call (the guide's Derived/Test/ToyasCard.lean, 'card_holds'). Laid BY PROGRAM, IN A SANDBOX (cutbox-door.mjs). By AI agents, Wed Nov 11 2026. No macro, syntax, notation, axiom, sorry.
-/
import Derived.Test.YtldffnmoafhidaaGreatDoorRows
import GoSem.ClaimSeven
namespace Go.Proofs.YtldffnmoafhidaaGreatDoor
namespace Rows

/-- THE TIED CARD OF 'creellaw.MemberReads'. -/
def memberReadsCard : Claim7 := { stood := { row := memberReadsRow, standIns := [], harness := (true, "9fc5bd8f4460ef533bced702fb084383ca77091f24e16f6b85a65b16c642b19e"), looks := true }, kinds := [], alts := [], laidByText := true, laidKinds := [.data, .data, .data, .data, .sentinel, .sentinel, .pinned], laidTests := true, laidLooks := .later }
def MemberReadsCardSaid : Prop := Claim7.holds Tryz.pinned (.plain (OpenSpec.ofChange memberReadsSpec)) memberReadsCard

/-- THE TIED CARD OF 'creelkeep.MemberHead'. -/
def memberHeadCard : Claim7 := { stood := { row := memberHeadRow, standIns := [], harness := (true, "9fc5bd8f4460ef533bced702fb084383ca77091f24e16f6b85a65b16c642b19e"), looks := true }, kinds := [], alts := [], laidByText := true, laidKinds := [.data, .data, .data, .data, .pinned], laidTests := true, laidLooks := .later }
def MemberHeadCardSaid : Prop := Claim7.holds Tryz.pinned (.plain (OpenSpec.ofChange memberHeadSpec)) memberHeadCard

/-- THE TIED CARD OF 'creellaw.WriteArchives'. -/
def writeArchivesCard : Claim7 := { stood := { row := writeArchivesRow, standIns := [], harness := (true, "9fc5bd8f4460ef533bced702fb084383ca77091f24e16f6b85a65b16c642b19e"), looks := true }, kinds := [], alts := [], laidByText := true, laidKinds := [.data, .data, .data, .data, .pinned], laidTests := true, laidLooks := .later }
def WriteArchivesCardSaid : Prop := Claim7.holds Tryz.pinned (.plain (OpenSpec.ofChange writeArchivesSpec)) writeArchivesCard

/-- THE TIED CARD OF 'creelkeep.WriteEnds'. -/
def writeEndsCard : Claim7 := { stood := { row := writeEndsRow, standIns := [], harness := (true, "9fc5bd8f4460ef533bced702fb084383ca77091f24e16f6b85a65b16c642b19e"), looks := true }, kinds := [], alts := [], laidByText := true, laidKinds := [.data, .data, .data, .data, .pinned], laidTests := true, laidLooks := .later }
def WriteEndsCardSaid : Prop := Claim7.holds Tryz.pinned (.plain (OpenSpec.ofChange writeEndsSpec)) writeEndsCard

/-- THE TIED CARD OF 'creelkeep.WriteFront'. -/
def writeFrontCard : Claim7 := { stood := { row := writeFrontRow, standIns := [], harness := (true, "9fc5bd8f4460ef533bced702fb084383ca77091f24e16f6b85a65b16c642b19e"), looks := true }, kinds := [], alts := [], laidByText := true, laidKinds := [.data, .data, .data, .data, .pinned], laidTests := true, laidLooks := .later }
def WriteFrontCardSaid : Prop := Claim7.holds Tryz.pinned (.plain (OpenSpec.ofChange writeFrontSpec)) writeFrontCard

/-- THE SECOND FORM's CARD OF 'creellaw.MemberReads'. -/
def memberReadsUptoCard : Claim7 := { stood := { row := memberReadsUptoRow, standIns := [], harness := (true, "9fc5bd8f4460ef533bced702fb084383ca77091f24e16f6b85a65b16c642b19e"), looks := true }, kinds := [], alts := [], laidByText := true, laidKinds := [.data, .data, .data, .data, .sentinel, .sentinel, .pinned], laidTests := true, laidLooks := .later }
def MemberReadsUptoCardSaid : Prop := Claim7.holds Tryz.pinned (.plain (OpenSpec.upto memberReadsSpec)) memberReadsUptoCard

/-- THE SECOND FORM's CARD OF 'creelkeep.MemberHead'. -/
def memberHeadUptoCard : Claim7 := { stood := { row := memberHeadUptoRow, standIns := [], harness := (true, "9fc5bd8f4460ef533bced702fb084383ca77091f24e16f6b85a65b16c642b19e"), looks := true }, kinds := [], alts := [], laidByText := true, laidKinds := [.data, .data, .data, .data, .pinned], laidTests := true, laidLooks := .later }
def MemberHeadUptoCardSaid : Prop := Claim7.holds Tryz.pinned (.plain (OpenSpec.upto memberHeadSpec)) memberHeadUptoCard

/-- THE SECOND FORM's CARD OF 'creellaw.WriteArchives'. -/
def writeArchivesUptoCard : Claim7 := { stood := { row := writeArchivesUptoRow, standIns := [], harness := (true, "9fc5bd8f4460ef533bced702fb084383ca77091f24e16f6b85a65b16c642b19e"), looks := true }, kinds := [], alts := [], laidByText := true, laidKinds := [.data, .data, .data, .data, .pinned], laidTests := true, laidLooks := .later }
def WriteArchivesUptoCardSaid : Prop := Claim7.holds Tryz.pinned (.plain (OpenSpec.upto writeArchivesSpec)) writeArchivesUptoCard

/-- THE SECOND FORM's CARD OF 'creelkeep.WriteEnds'. -/
def writeEndsUptoCard : Claim7 := { stood := { row := writeEndsUptoRow, standIns := [], harness := (true, "9fc5bd8f4460ef533bced702fb084383ca77091f24e16f6b85a65b16c642b19e"), looks := true }, kinds := [], alts := [], laidByText := true, laidKinds := [.data, .data, .data, .data, .pinned], laidTests := true, laidLooks := .later }
def WriteEndsUptoCardSaid : Prop := Claim7.holds Tryz.pinned (.plain (OpenSpec.upto writeEndsSpec)) writeEndsUptoCard

/-- THE SECOND FORM's CARD OF 'creelkeep.WriteFront'. -/
def writeFrontUptoCard : Claim7 := { stood := { row := writeFrontUptoRow, standIns := [], harness := (true, "9fc5bd8f4460ef533bced702fb084383ca77091f24e16f6b85a65b16c642b19e"), looks := true }, kinds := [], alts := [], laidByText := true, laidKinds := [.data, .data, .data, .data, .pinned], laidTests := true, laidLooks := .later }
def WriteFrontUptoCardSaid : Prop := Claim7.holds Tryz.pinned (.plain (OpenSpec.upto writeFrontSpec)) writeFrontUptoCard
end Rows
end Go.Proofs.YtldffnmoafhidaaGreatDoor
