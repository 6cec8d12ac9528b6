/-
  DERIVED. GIVEN WITH THE SEED: THE CARDS: each row of YtilmfnlhpnbngaaGreatDoorRows.lean that lists a variable, with what it lists TIED to the program's text (the seventh form; the later family's looks); each row that meets fmt, with fmt's text TOLD by the authors' own Lean function (tested against real Go, not proved from fmt's source: count such statements apart). THE CARD IS WHAT COUNTS. Prove the row's statement (the work); the ties are given (YtilmfnlhpnbngaaGreatDoorTie.lean); close each card by the builder's one call (the guide's Derived/Test/ToyasCard.lean, 'card_holds'). Laid BY PROGRAM, IN A SANDBOX (cutbox-door.mjs). By AI agents, Wed Nov 11 2026. No macro, syntax, notation, axiom, sorry.
-/
import Derived.Test.YtilmfnlhpnbngaaGreatDoorRows
import GoSem.ClaimSeven
namespace Go.Proofs.YtilmfnlhpnbngaaGreatDoor
namespace Rows

/-- THE TIED CARD OF 'creellaw.FilterRuns'. -/
def filterRunsCard : Claim7 := { stood := { row := filterRunsRow, standIns := [], harness := (true, "8e9057eef594f5107a8aa4e5e29457613e213bc6257b133bfc5d2368f620508b"), looks := false }, kinds := [], alts := [], laidByText := true, laidKinds := [.data, .pinned], laidTests := true, laidLooks := .later }
def FilterRunsCardSaid : Prop := Claim7.holds Tryz.pinned (.plain (OpenSpec.ofChange filterRunsSpec)) filterRunsCard

/-- THE TIED CARD OF 'creelkeep.FilterAll'. -/
def filterAllCard : Claim7 := { stood := { row := filterAllRow, standIns := [], harness := (true, "8e9057eef594f5107a8aa4e5e29457613e213bc6257b133bfc5d2368f620508b"), looks := false }, kinds := [], alts := [], laidByText := true, laidKinds := [.data, .pinned], laidTests := true, laidLooks := .later }
def FilterAllCardSaid : Prop := Claim7.holds Tryz.pinned (.plain (OpenSpec.ofChange filterAllSpec)) filterAllCard

/-- THE TIED CARD OF 'creelkeep.FilterLess'. -/
def filterLessCard : Claim7 := { stood := { row := filterLessRow, standIns := [], harness := (true, "8e9057eef594f5107a8aa4e5e29457613e213bc6257b133bfc5d2368f620508b"), looks := false }, kinds := [], alts := [], laidByText := true, laidKinds := [.data, .pinned], laidTests := true, laidLooks := .later }
def FilterLessCardSaid : Prop := Claim7.holds Tryz.pinned (.plain (OpenSpec.ofChange filterLessSpec)) filterLessCard

/-- THE TIED CARD OF 'creelkeep.FilterEach'. -/
def filterEachCard : Claim7 := { stood := { row := filterEachRow, standIns := [], harness := (true, "8e9057eef594f5107a8aa4e5e29457613e213bc6257b133bfc5d2368f620508b"), looks := false }, kinds := [], alts := [], laidByText := true, laidKinds := [.data, .pinned], laidTests := true, laidLooks := .later }
def FilterEachCardSaid : Prop := Claim7.holds Tryz.pinned (.plain (OpenSpec.ofChange filterEachSpec)) filterEachCard

/-- THE SECOND FORM's CARD OF 'creellaw.FilterRuns'. -/
def filterRunsUptoCard : Claim7 := { stood := { row := filterRunsUptoRow, standIns := [], harness := (true, "8e9057eef594f5107a8aa4e5e29457613e213bc6257b133bfc5d2368f620508b"), looks := false }, kinds := [], alts := [], laidByText := true, laidKinds := [.data, .pinned], laidTests := true, laidLooks := .later }
def FilterRunsUptoCardSaid : Prop := Claim7.holds Tryz.pinned (.plain (OpenSpec.upto filterRunsSpec)) filterRunsUptoCard

/-- THE SECOND FORM's CARD OF 'creelkeep.FilterAll'. -/
def filterAllUptoCard : Claim7 := { stood := { row := filterAllUptoRow, standIns := [], harness := (true, "8e9057eef594f5107a8aa4e5e29457613e213bc6257b133bfc5d2368f620508b"), looks := false }, kinds := [], alts := [], laidByText := true, laidKinds := [.data, .pinned], laidTests := true, laidLooks := .later }
def FilterAllUptoCardSaid : Prop := Claim7.holds Tryz.pinned (.plain (OpenSpec.upto filterAllSpec)) filterAllUptoCard

/-- THE SECOND FORM's CARD OF 'creelkeep.FilterLess'. -/
def filterLessUptoCard : Claim7 := { stood := { row := filterLessUptoRow, standIns := [], harness := (true, "8e9057eef594f5107a8aa4e5e29457613e213bc6257b133bfc5d2368f620508b"), looks := false }, kinds := [], alts := [], laidByText := true, laidKinds := [.data, .pinned], laidTests := true, laidLooks := .later }
def FilterLessUptoCardSaid : Prop := Claim7.holds Tryz.pinned (.plain (OpenSpec.upto filterLessSpec)) filterLessUptoCard

/-- THE SECOND FORM's CARD OF 'creelkeep.FilterEach'. -/
def filterEachUptoCard : Claim7 := { stood := { row := filterEachUptoRow, standIns := [], harness := (true, "8e9057eef594f5107a8aa4e5e29457613e213bc6257b133bfc5d2368f620508b"), looks := false }, kinds := [], alts := [], laidByText := true, laidKinds := [.data, .pinned], laidTests := true, laidLooks := .later }
def FilterEachUptoCardSaid : Prop := Claim7.holds Tryz.pinned (.plain (OpenSpec.upto filterEachSpec)) filterEachUptoCard
end Rows
end Go.Proofs.YtilmfnlhpnbngaaGreatDoor
