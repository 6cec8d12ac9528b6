/-
  DERIVED. GIVEN WITH THE SEED: THE CARDS: each row of YtdcbmjihpjnbbaaDoorRows.lean that lists a variable, with what it lists TIED to the program's text (the seventh form; the later family's looks); each row that meets fmt, with fmt's text TOLD by the authors' own Lean function (tested against real Go, not proved from fmt's source: count such statements apart). THE CARD IS WHAT COUNTS. Prove the row's statement (the work); the ties are given (YtdcbmjihpjnbbaaDoorTie.lean); close each card by the builder's one call (the guide's Derived/Test/ToyasCard.lean, 'card_holds'). Laid BY PROGRAM, IN A SANDBOX (cutbox-door.mjs). By AI agents, Wed Nov 11 2026. No macro, syntax, notation, axiom, sorry.
-/
import Derived.Test.YtdcbmjihpjnbbaaDoorRows
import GoSem.ClaimSeven
namespace Go.Proofs.YtdcbmjihpjnbbaaDoor
namespace Rows

/-- THE TIED CARD OF 'creellaw.ListDays'. -/
def listDaysCard : Claim7 := { stood := { row := listDaysRow, standIns := [], harness := (true, "b6fcf5f6e1eaf929d5be89b19f7434226dc25a7e8ee842a9abef640a3ac4a43e"), looks := false }, kinds := [], alts := [], laidByText := true, laidKinds := [.data], laidTests := true, laidLooks := .later }
def ListDaysCardSaid : Prop := Claim7.holds Tryd.pinned (.plain (OpenSpec.ofChange listDaysSpec)) listDaysCard

/-- THE TIED CARD OF 'creellaw.ListLines'. -/
def listLinesCard : Claim7 := { stood := { row := listLinesRow, standIns := [], harness := (true, "b6fcf5f6e1eaf929d5be89b19f7434226dc25a7e8ee842a9abef640a3ac4a43e"), looks := false }, kinds := [], alts := [], laidByText := true, laidKinds := [.data, .data, .data, .data, .data, .data, .pinned], laidTests := true, laidLooks := .later }
def ListLinesCardSaid : Prop := Claim7.holds Tryd.pinned (.plain (OpenSpec.ofChange listLinesSpec)) listLinesCard

/-- THE TIED CARD OF 'creelkeep.ListNext'. -/
def listNextCard : Claim7 := { stood := { row := listNextRow, standIns := [], harness := (true, "b6fcf5f6e1eaf929d5be89b19f7434226dc25a7e8ee842a9abef640a3ac4a43e"), looks := false }, kinds := [], alts := [], laidByText := true, laidKinds := [.data], laidTests := true, laidLooks := .later }
def ListNextCardSaid : Prop := Claim7.holds Tryd.pinned (.plain (OpenSpec.ofChange listNextSpec)) listNextCard

/-- THE TIED CARD OF 'creelkeep.ListRound'. -/
def listRoundCard : Claim7 := { stood := { row := listRoundRow, standIns := [], harness := (true, "b6fcf5f6e1eaf929d5be89b19f7434226dc25a7e8ee842a9abef640a3ac4a43e"), looks := false }, kinds := [], alts := [], laidByText := true, laidKinds := [.data], laidTests := true, laidLooks := .later }
def ListRoundCardSaid : Prop := Claim7.holds Tryd.pinned (.plain (OpenSpec.ofChange listRoundSpec)) listRoundCard

/-- THE TIED CARD OF 'creelkeep.ListSays'. -/
def listSaysCard : Claim7 := { stood := { row := listSaysRow, standIns := [], harness := (true, "b6fcf5f6e1eaf929d5be89b19f7434226dc25a7e8ee842a9abef640a3ac4a43e"), looks := false }, kinds := [], alts := [], laidByText := true, laidKinds := [.data, .data, .data, .data, .data, .data, .pinned], laidTests := true, laidLooks := .later }
def ListSaysCardSaid : Prop := Claim7.holds Tryd.pinned (.plain (OpenSpec.ofChange listSaysSpec)) listSaysCard

/-- THE SECOND FORM's CARD OF 'creellaw.ListDays'. -/
def listDaysUptoCard : Claim7 := { stood := { row := listDaysUptoRow, standIns := [], harness := (true, "b6fcf5f6e1eaf929d5be89b19f7434226dc25a7e8ee842a9abef640a3ac4a43e"), looks := false }, kinds := [], alts := [], laidByText := true, laidKinds := [.data], laidTests := true, laidLooks := .later }
def ListDaysUptoCardSaid : Prop := Claim7.holds Tryd.pinned (.plain (OpenSpec.upto listDaysSpec)) listDaysUptoCard

/-- THE SECOND FORM's CARD OF 'creellaw.ListLines'. -/
def listLinesUptoCard : Claim7 := { stood := { row := listLinesUptoRow, standIns := [], harness := (true, "b6fcf5f6e1eaf929d5be89b19f7434226dc25a7e8ee842a9abef640a3ac4a43e"), looks := false }, kinds := [], alts := [], laidByText := true, laidKinds := [.data, .data, .data, .data, .data, .data, .pinned], laidTests := true, laidLooks := .later }
def ListLinesUptoCardSaid : Prop := Claim7.holds Tryd.pinned (.plain (OpenSpec.upto listLinesSpec)) listLinesUptoCard

/-- THE SECOND FORM's CARD OF 'creelkeep.ListNext'. -/
def listNextUptoCard : Claim7 := { stood := { row := listNextUptoRow, standIns := [], harness := (true, "b6fcf5f6e1eaf929d5be89b19f7434226dc25a7e8ee842a9abef640a3ac4a43e"), looks := false }, kinds := [], alts := [], laidByText := true, laidKinds := [.data], laidTests := true, laidLooks := .later }
def ListNextUptoCardSaid : Prop := Claim7.holds Tryd.pinned (.plain (OpenSpec.upto listNextSpec)) listNextUptoCard

/-- THE SECOND FORM's CARD OF 'creelkeep.ListRound'. -/
def listRoundUptoCard : Claim7 := { stood := { row := listRoundUptoRow, standIns := [], harness := (true, "b6fcf5f6e1eaf929d5be89b19f7434226dc25a7e8ee842a9abef640a3ac4a43e"), looks := false }, kinds := [], alts := [], laidByText := true, laidKinds := [.data], laidTests := true, laidLooks := .later }
def ListRoundUptoCardSaid : Prop := Claim7.holds Tryd.pinned (.plain (OpenSpec.upto listRoundSpec)) listRoundUptoCard

/-- THE SECOND FORM's CARD OF 'creelkeep.ListSays'. -/
def listSaysUptoCard : Claim7 := { stood := { row := listSaysUptoRow, standIns := [], harness := (true, "b6fcf5f6e1eaf929d5be89b19f7434226dc25a7e8ee842a9abef640a3ac4a43e"), looks := false }, kinds := [], alts := [], laidByText := true, laidKinds := [.data, .data, .data, .data, .data, .data, .pinned], laidTests := true, laidLooks := .later }
def ListSaysUptoCardSaid : Prop := Claim7.holds Tryd.pinned (.plain (OpenSpec.upto listSaysSpec)) listSaysUptoCard
end Rows
end Go.Proofs.YtdcbmjihpjnbbaaDoor
