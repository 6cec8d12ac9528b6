/-
  DERIVED. GIVEN WITH THE SEED: THE CARDS: each row of YtjklgadigcobcaaDoorRows.lean that lists a variable, with what it lists TIED to the program's text (the seventh form; the later family's looks); each row that meets fmt, with fmt's text TOLD by the authors' own Lean function (tested against real Go, not proved from fmt's source: count such statements apart). THE CARD IS WHAT COUNTS. Prove the row's statement (the work); the ties are given (YtjklgadigcobcaaDoorTie.lean); close each card by the builder's one call (the guide's Derived/Test/ToyasCard.lean, 'card_holds'). Laid BY PROGRAM, IN A SANDBOX (cutbox-door.mjs). By AI agents, Wed Nov 11 2026. No macro, syntax, notation, axiom, sorry.
-/
import Derived.Test.YtjklgadigcobcaaDoorRows
import GoSem.ClaimSeven
namespace Go.Proofs.YtjklgadigcobcaaDoor
namespace Rows

/-- THE TIED CARD OF 'creelkeep.HeadBack'. -/
def headBackCard : Claim7 := { stood := { row := headBackRow, standIns := [], harness := (true, "3fbce815fcc3abbfae7c68a7b867d3d2661684568615c70bda11f575e7843807"), looks := false }, kinds := [], alts := [], laidByText := true, laidKinds := [.data, .pinned], laidTests := true, laidLooks := .later }
def HeadBackCardSaid : Prop := Claim7.holds Tryd.pinned (.plain (OpenSpec.ofChange headBackSpec)) headBackCard

/-- THE TIED CARD OF 'creelkeep.HeadTurned'. -/
def headTurnedCard : Claim7 := { stood := { row := headTurnedRow, standIns := [], harness := (true, "3fbce815fcc3abbfae7c68a7b867d3d2661684568615c70bda11f575e7843807"), looks := false }, kinds := [], alts := [], laidByText := true, laidKinds := [.data, .pinned], laidTests := true, laidLooks := .later }
def HeadTurnedCardSaid : Prop := Claim7.holds Tryd.pinned (.plain (OpenSpec.ofChange headTurnedSpec)) headTurnedCard

/-- THE TIED CARD OF 'creelkeep.HeadSummed'. -/
def headSummedCard : Claim7 := { stood := { row := headSummedRow, standIns := [], harness := (true, "3fbce815fcc3abbfae7c68a7b867d3d2661684568615c70bda11f575e7843807"), looks := false }, kinds := [], alts := [], laidByText := true, laidKinds := [.data, .pinned], laidTests := true, laidLooks := .later }
def HeadSummedCardSaid : Prop := Claim7.holds Tryd.pinned (.plain (OpenSpec.ofChange headSummedSpec)) headSummedCard

/-- THE SECOND FORM's CARD OF 'creelkeep.HeadBack'. -/
def headBackUptoCard : Claim7 := { stood := { row := headBackUptoRow, standIns := [], harness := (true, "3fbce815fcc3abbfae7c68a7b867d3d2661684568615c70bda11f575e7843807"), looks := false }, kinds := [], alts := [], laidByText := true, laidKinds := [.data, .pinned], laidTests := true, laidLooks := .later }
def HeadBackUptoCardSaid : Prop := Claim7.holds Tryd.pinned (.plain (OpenSpec.upto headBackSpec)) headBackUptoCard

/-- THE SECOND FORM's CARD OF 'creelkeep.HeadTurned'. -/
def headTurnedUptoCard : Claim7 := { stood := { row := headTurnedUptoRow, standIns := [], harness := (true, "3fbce815fcc3abbfae7c68a7b867d3d2661684568615c70bda11f575e7843807"), looks := false }, kinds := [], alts := [], laidByText := true, laidKinds := [.data, .pinned], laidTests := true, laidLooks := .later }
def HeadTurnedUptoCardSaid : Prop := Claim7.holds Tryd.pinned (.plain (OpenSpec.upto headTurnedSpec)) headTurnedUptoCard

/-- THE SECOND FORM's CARD OF 'creelkeep.HeadSummed'. -/
def headSummedUptoCard : Claim7 := { stood := { row := headSummedUptoRow, standIns := [], harness := (true, "3fbce815fcc3abbfae7c68a7b867d3d2661684568615c70bda11f575e7843807"), looks := false }, kinds := [], alts := [], laidByText := true, laidKinds := [.data, .pinned], laidTests := true, laidLooks := .later }
def HeadSummedUptoCardSaid : Prop := Claim7.holds Tryd.pinned (.plain (OpenSpec.upto headSummedSpec)) headSummedUptoCard
end Rows
end Go.Proofs.YtjklgadigcobcaaDoor
