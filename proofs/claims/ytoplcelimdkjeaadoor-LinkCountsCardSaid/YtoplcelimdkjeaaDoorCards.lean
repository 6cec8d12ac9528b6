/-
  DERIVED. GIVEN WITH THE SEED: THE CARDS: each row of YtoplcelimdkjeaaDoorRows.lean that lists a variable, with what it lists TIED to the program's text (the seventh form; the later family's looks); each row that meets fmt, with fmt's text TOLD by the authors' own Lean function (tested against real Go, not proved from fmt's source: count such statements apart). THE CARD IS WHAT COUNTS. Prove the row's statement (the work); the ties are given (YtoplcelimdkjeaaDoorTie.lean); close each card by the builder's one call (the guide's Derived/Test/ToyasCard.lean, 'card_holds'). Laid BY PROGRAM, IN A SANDBOX (cutbox-door.mjs). By AI agents, Wed Nov 11 2026. No macro, syntax, notation, axiom, sorry.
-/
import Derived.Test.YtoplcelimdkjeaaDoorRows
import GoSem.ClaimSeven
namespace Go.Proofs.YtoplcelimdkjeaaDoor
namespace Rows

/-- THE TIED CARD OF 'creellaw.LinkFirsts'. -/
def linkFirstsCard : Claim7 := { stood := { row := linkFirstsRow, standIns := [], harness := (true, "f75ab23ca9a9e982cfe8caca1e10b2e066bedce3e5ec66dd3752f0f72725e8fb"), looks := false }, kinds := [], alts := [], laidByText := true, laidKinds := [.data, .pinned], laidTests := true, laidLooks := .later }
def LinkFirstsCardSaid : Prop := Claim7.holds Tryd.pinned (.plain (OpenSpec.ofChange linkFirstsSpec)) linkFirstsCard

/-- THE TIED CARD OF 'creellaw.LinkAnews'. -/
def linkAnewsCard : Claim7 := { stood := { row := linkAnewsRow, standIns := [], harness := (true, "f75ab23ca9a9e982cfe8caca1e10b2e066bedce3e5ec66dd3752f0f72725e8fb"), looks := false }, kinds := [], alts := [], laidByText := true, laidKinds := [.data, .pinned], laidTests := true, laidLooks := .later }
def LinkAnewsCardSaid : Prop := Claim7.holds Tryd.pinned (.plain (OpenSpec.ofChange linkAnewsSpec)) linkAnewsCard

/-- THE TIED CARD OF 'creelkeep.LinkGroups'. -/
def linkGroupsCard : Claim7 := { stood := { row := linkGroupsRow, standIns := [], harness := (true, "f75ab23ca9a9e982cfe8caca1e10b2e066bedce3e5ec66dd3752f0f72725e8fb"), looks := false }, kinds := [], alts := [], laidByText := true, laidKinds := [.data, .pinned], laidTests := true, laidLooks := .later }
def LinkGroupsCardSaid : Prop := Claim7.holds Tryd.pinned (.plain (OpenSpec.ofChange linkGroupsSpec)) linkGroupsCard

/-- THE TIED CARD OF 'creelkeep.LinkCounts'. -/
def linkCountsCard : Claim7 := { stood := { row := linkCountsRow, standIns := [], harness := (true, "f75ab23ca9a9e982cfe8caca1e10b2e066bedce3e5ec66dd3752f0f72725e8fb"), looks := false }, kinds := [], alts := [], laidByText := true, laidKinds := [.data, .pinned], laidTests := true, laidLooks := .later }
def LinkCountsCardSaid : Prop := Claim7.holds Tryd.pinned (.plain (OpenSpec.ofChange linkCountsSpec)) linkCountsCard

/-- THE SECOND FORM's CARD OF 'creellaw.LinkFirsts'. -/
def linkFirstsUptoCard : Claim7 := { stood := { row := linkFirstsUptoRow, standIns := [], harness := (true, "f75ab23ca9a9e982cfe8caca1e10b2e066bedce3e5ec66dd3752f0f72725e8fb"), looks := false }, kinds := [], alts := [], laidByText := true, laidKinds := [.data, .pinned], laidTests := true, laidLooks := .later }
def LinkFirstsUptoCardSaid : Prop := Claim7.holds Tryd.pinned (.plain (OpenSpec.upto linkFirstsSpec)) linkFirstsUptoCard

/-- THE SECOND FORM's CARD OF 'creellaw.LinkAnews'. -/
def linkAnewsUptoCard : Claim7 := { stood := { row := linkAnewsUptoRow, standIns := [], harness := (true, "f75ab23ca9a9e982cfe8caca1e10b2e066bedce3e5ec66dd3752f0f72725e8fb"), looks := false }, kinds := [], alts := [], laidByText := true, laidKinds := [.data, .pinned], laidTests := true, laidLooks := .later }
def LinkAnewsUptoCardSaid : Prop := Claim7.holds Tryd.pinned (.plain (OpenSpec.upto linkAnewsSpec)) linkAnewsUptoCard

/-- THE SECOND FORM's CARD OF 'creelkeep.LinkGroups'. -/
def linkGroupsUptoCard : Claim7 := { stood := { row := linkGroupsUptoRow, standIns := [], harness := (true, "f75ab23ca9a9e982cfe8caca1e10b2e066bedce3e5ec66dd3752f0f72725e8fb"), looks := false }, kinds := [], alts := [], laidByText := true, laidKinds := [.data, .pinned], laidTests := true, laidLooks := .later }
def LinkGroupsUptoCardSaid : Prop := Claim7.holds Tryd.pinned (.plain (OpenSpec.upto linkGroupsSpec)) linkGroupsUptoCard

/-- THE SECOND FORM's CARD OF 'creelkeep.LinkCounts'. -/
def linkCountsUptoCard : Claim7 := { stood := { row := linkCountsUptoRow, standIns := [], harness := (true, "f75ab23ca9a9e982cfe8caca1e10b2e066bedce3e5ec66dd3752f0f72725e8fb"), looks := false }, kinds := [], alts := [], laidByText := true, laidKinds := [.data, .pinned], laidTests := true, laidLooks := .later }
def LinkCountsUptoCardSaid : Prop := Claim7.holds Tryd.pinned (.plain (OpenSpec.upto linkCountsSpec)) linkCountsUptoCard
end Rows
end Go.Proofs.YtoplcelimdkjeaaDoor
