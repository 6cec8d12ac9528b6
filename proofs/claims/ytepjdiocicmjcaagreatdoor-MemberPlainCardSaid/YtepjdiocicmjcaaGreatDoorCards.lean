/-
  DERIVED. GIVEN WITH THE SEED: THE CARDS: each row of YtepjdiocicmjcaaGreatDoorRows.lean that lists a variable, with what it lists TIED to the program's text (the seventh form; the later family's looks); each row that meets fmt, with fmt's text TOLD by the authors' own Lean function (tested against real Go, not proved from fmt's source: count such statements apart). THE CARD IS WHAT COUNTS. Prove the row's statement (the work); the ties are given (YtepjdiocicmjcaaGreatDoorTie.lean); close each card by the builder's one call (the guide's Derived/Test/ToyasCard.lean, 'card_holds'). Laid BY PROGRAM, IN A SANDBOX (cutbox-door.mjs). By AI agents, Wed Nov 11 2026. No macro, syntax, notation, axiom, sorry.
-/
import Derived.Test.YtepjdiocicmjcaaGreatDoorRows
import GoSem.ClaimSeven
namespace Go.Proofs.YtepjdiocicmjcaaGreatDoor
namespace Rows

/-- THE TIED CARD OF 'creellaw.MemberWrites'. -/
def memberWritesCard : Claim7 := { stood := { row := memberWritesRow, standIns := [], harness := (true, "a0cbd1c9d802dfa812f04ed67cf2af626a651f3e99072878168876248b78dcdd"), looks := true }, kinds := [], alts := [], laidByText := true, laidKinds := [.data, .data, .data, .data, .pinned], laidTests := true, laidLooks := .later }
def MemberWritesCardSaid : Prop := Claim7.holds Tryz.pinned (.plain (OpenSpec.ofChange memberWritesSpec)) memberWritesCard

/-- THE TIED CARD OF 'creellaw.MemberReads'. -/
def memberReadsCard : Claim7 := { stood := { row := memberReadsRow, standIns := [], harness := (true, "a0cbd1c9d802dfa812f04ed67cf2af626a651f3e99072878168876248b78dcdd"), looks := true }, kinds := [], alts := [], laidByText := true, laidKinds := [.data, .data, .data, .data, .sentinel, .sentinel, .pinned], laidTests := true, laidLooks := .later }
def MemberReadsCardSaid : Prop := Claim7.holds Tryz.pinned (.plain (OpenSpec.ofChange memberReadsSpec)) memberReadsCard

/-- THE TIED CARD OF 'creelkeep.MemberBack'. -/
def memberBackCard : Claim7 := { stood := { row := memberBackRow, standIns := [], harness := (true, "a0cbd1c9d802dfa812f04ed67cf2af626a651f3e99072878168876248b78dcdd"), looks := true }, kinds := [], alts := [], laidByText := true, laidKinds := [.data, .data, .data, .data, .sentinel, .sentinel, .pinned], laidTests := true, laidLooks := .later }
def MemberBackCardSaid : Prop := Claim7.holds Tryz.pinned (.plain (OpenSpec.ofChange memberBackSpec)) memberBackCard

/-- THE TIED CARD OF 'creelkeep.MemberTurns'. -/
def memberTurnsCard : Claim7 := { stood := { row := memberTurnsRow, standIns := [], harness := (true, "a0cbd1c9d802dfa812f04ed67cf2af626a651f3e99072878168876248b78dcdd"), looks := true }, kinds := [], alts := [], laidByText := true, laidKinds := [.data, .data, .data, .data, .sentinel, .sentinel, .pinned], laidTests := true, laidLooks := .later }
def MemberTurnsCardSaid : Prop := Claim7.holds Tryz.pinned (.plain (OpenSpec.ofChange memberTurnsSpec)) memberTurnsCard

/-- THE TIED CARD OF 'creelkeep.MemberTorn'. -/
def memberTornCard : Claim7 := { stood := { row := memberTornRow, standIns := [], harness := (true, "a0cbd1c9d802dfa812f04ed67cf2af626a651f3e99072878168876248b78dcdd"), looks := true }, kinds := [], alts := [], laidByText := true, laidKinds := [.data, .data, .data, .data, .sentinel, .sentinel, .pinned], laidTests := true, laidLooks := .later }
def MemberTornCardSaid : Prop := Claim7.holds Tryz.pinned (.plain (OpenSpec.ofChange memberTornSpec)) memberTornCard

/-- THE TIED CARD OF 'creelkeep.MemberPlain'. -/
def memberPlainCard : Claim7 := { stood := { row := memberPlainRow, standIns := [], harness := (true, "a0cbd1c9d802dfa812f04ed67cf2af626a651f3e99072878168876248b78dcdd"), looks := true }, kinds := [], alts := [], laidByText := true, laidKinds := [.data, .data, .data, .data, .pinned], laidTests := true, laidLooks := .later }
def MemberPlainCardSaid : Prop := Claim7.holds Tryz.pinned (.plain (OpenSpec.ofChange memberPlainSpec)) memberPlainCard

/-- THE TIED CARD OF 'creelkeep.MemberHead'. -/
def memberHeadCard : Claim7 := { stood := { row := memberHeadRow, standIns := [], harness := (true, "a0cbd1c9d802dfa812f04ed67cf2af626a651f3e99072878168876248b78dcdd"), looks := true }, kinds := [], alts := [], laidByText := true, laidKinds := [.data, .data, .data, .data, .pinned], laidTests := true, laidLooks := .later }
def MemberHeadCardSaid : Prop := Claim7.holds Tryz.pinned (.plain (OpenSpec.ofChange memberHeadSpec)) memberHeadCard

/-- THE SECOND FORM's CARD OF 'creellaw.MemberWrites'. -/
def memberWritesUptoCard : Claim7 := { stood := { row := memberWritesUptoRow, standIns := [], harness := (true, "a0cbd1c9d802dfa812f04ed67cf2af626a651f3e99072878168876248b78dcdd"), looks := true }, kinds := [], alts := [], laidByText := true, laidKinds := [.data, .data, .data, .data, .pinned], laidTests := true, laidLooks := .later }
def MemberWritesUptoCardSaid : Prop := Claim7.holds Tryz.pinned (.plain (OpenSpec.upto memberWritesSpec)) memberWritesUptoCard

/-- THE SECOND FORM's CARD OF 'creellaw.MemberReads'. -/
def memberReadsUptoCard : Claim7 := { stood := { row := memberReadsUptoRow, standIns := [], harness := (true, "a0cbd1c9d802dfa812f04ed67cf2af626a651f3e99072878168876248b78dcdd"), looks := true }, kinds := [], alts := [], laidByText := true, laidKinds := [.data, .data, .data, .data, .sentinel, .sentinel, .pinned], laidTests := true, laidLooks := .later }
def MemberReadsUptoCardSaid : Prop := Claim7.holds Tryz.pinned (.plain (OpenSpec.upto memberReadsSpec)) memberReadsUptoCard

/-- THE SECOND FORM's CARD OF 'creelkeep.MemberBack'. -/
def memberBackUptoCard : Claim7 := { stood := { row := memberBackUptoRow, standIns := [], harness := (true, "a0cbd1c9d802dfa812f04ed67cf2af626a651f3e99072878168876248b78dcdd"), looks := true }, kinds := [], alts := [], laidByText := true, laidKinds := [.data, .data, .data, .data, .sentinel, .sentinel, .pinned], laidTests := true, laidLooks := .later }
def MemberBackUptoCardSaid : Prop := Claim7.holds Tryz.pinned (.plain (OpenSpec.upto memberBackSpec)) memberBackUptoCard

/-- THE SECOND FORM's CARD OF 'creelkeep.MemberTurns'. -/
def memberTurnsUptoCard : Claim7 := { stood := { row := memberTurnsUptoRow, standIns := [], harness := (true, "a0cbd1c9d802dfa812f04ed67cf2af626a651f3e99072878168876248b78dcdd"), looks := true }, kinds := [], alts := [], laidByText := true, laidKinds := [.data, .data, .data, .data, .sentinel, .sentinel, .pinned], laidTests := true, laidLooks := .later }
def MemberTurnsUptoCardSaid : Prop := Claim7.holds Tryz.pinned (.plain (OpenSpec.upto memberTurnsSpec)) memberTurnsUptoCard

/-- THE SECOND FORM's CARD OF 'creelkeep.MemberTorn'. -/
def memberTornUptoCard : Claim7 := { stood := { row := memberTornUptoRow, standIns := [], harness := (true, "a0cbd1c9d802dfa812f04ed67cf2af626a651f3e99072878168876248b78dcdd"), looks := true }, kinds := [], alts := [], laidByText := true, laidKinds := [.data, .data, .data, .data, .sentinel, .sentinel, .pinned], laidTests := true, laidLooks := .later }
def MemberTornUptoCardSaid : Prop := Claim7.holds Tryz.pinned (.plain (OpenSpec.upto memberTornSpec)) memberTornUptoCard

/-- THE SECOND FORM's CARD OF 'creelkeep.MemberPlain'. -/
def memberPlainUptoCard : Claim7 := { stood := { row := memberPlainUptoRow, standIns := [], harness := (true, "a0cbd1c9d802dfa812f04ed67cf2af626a651f3e99072878168876248b78dcdd"), looks := true }, kinds := [], alts := [], laidByText := true, laidKinds := [.data, .data, .data, .data, .pinned], laidTests := true, laidLooks := .later }
def MemberPlainUptoCardSaid : Prop := Claim7.holds Tryz.pinned (.plain (OpenSpec.upto memberPlainSpec)) memberPlainUptoCard

/-- THE SECOND FORM's CARD OF 'creelkeep.MemberHead'. -/
def memberHeadUptoCard : Claim7 := { stood := { row := memberHeadUptoRow, standIns := [], harness := (true, "a0cbd1c9d802dfa812f04ed67cf2af626a651f3e99072878168876248b78dcdd"), looks := true }, kinds := [], alts := [], laidByText := true, laidKinds := [.data, .data, .data, .data, .pinned], laidTests := true, laidLooks := .later }
def MemberHeadUptoCardSaid : Prop := Claim7.holds Tryz.pinned (.plain (OpenSpec.upto memberHeadSpec)) memberHeadUptoCard
end Rows
end Go.Proofs.YtepjdiocicmjcaaGreatDoor
