/-
  DERIVED. GIVEN WITH THE SEED: THE CARDS: each row of YtapgoifimhnbdaaGreatDoorRows.lean that lists a variable, with what it lists TIED to the program's text (the seventh form; the later family's looks); each row that meets fmt, with fmt's text TOLD by the authors' own Lean function (tested against real Go, not proved from fmt's source: count such statements apart). THE CARD IS WHAT COUNTS. Prove the row's statement (the work); the ties are given (YtapgoifimhnbdaaGreatDoorTie.lean); close each card by the builder's one call (the guide's Derived/Test/ToyasCard.lean, 'card_holds'). Laid BY PROGRAM, IN A SANDBOX (cutbox-door.mjs). By AI agents, Wed Nov 11 2026. No macro, syntax, notation, axiom, sorry.
-/
import Derived.Test.YtapgoifimhnbdaaGreatDoorRows
import GoSem.ClaimSeven
namespace Go.Proofs.YtapgoifimhnbdaaGreatDoor
namespace Rows

/-- THE TIED CARD OF 'creellaw.RestoreTrees'. -/
def restoreTreesCard : Claim7 := { stood := { row := restoreTreesRow, standIns := [], harness := (true, "15fad04b238c90a803e93b6934b81e4dbd8082fcd88a284101a5e872cae411b1"), looks := true }, kinds := [], alts := [], laidByText := true, laidKinds := [.data, .data, .data, .data, .sentinel, .sentinel, .pinned], laidTests := true, laidLooks := .later }
def RestoreTreesCardSaid : Prop := Claim7.holds Tryz.pinned (.plain (OpenSpec.ofChange restoreTreesSpec)) restoreTreesCard

/-- THE TIED CARD OF 'creellaw.RestoreUnders'. -/
def restoreUndersCard : Claim7 := { stood := { row := restoreUndersRow, standIns := [], harness := (true, "15fad04b238c90a803e93b6934b81e4dbd8082fcd88a284101a5e872cae411b1"), looks := true }, kinds := [], alts := [], laidByText := true, laidKinds := [.data, .data, .data, .data, .sentinel, .sentinel, .pinned], laidTests := true, laidLooks := .later }
def RestoreUndersCardSaid : Prop := Claim7.holds Tryz.pinned (.plain (OpenSpec.ofChange restoreUndersSpec)) restoreUndersCard

/-- THE TIED CARD OF 'creellaw.RestoreSomes'. -/
def restoreSomesCard : Claim7 := { stood := { row := restoreSomesRow, standIns := [], harness := (true, "15fad04b238c90a803e93b6934b81e4dbd8082fcd88a284101a5e872cae411b1"), looks := true }, kinds := [], alts := [], laidByText := true, laidKinds := [.data, .data, .data, .data, .sentinel, .sentinel, .pinned], laidTests := true, laidLooks := .later }
def RestoreSomesCardSaid : Prop := Claim7.holds Tryz.pinned (.plain (OpenSpec.ofChange restoreSomesSpec)) restoreSomesCard

/-- THE TIED CARD OF 'creelkeep.RestoreBack'. -/
def restoreBackCard : Claim7 := { stood := { row := restoreBackRow, standIns := [], harness := (true, "15fad04b238c90a803e93b6934b81e4dbd8082fcd88a284101a5e872cae411b1"), looks := true }, kinds := [], alts := [], laidByText := true, laidKinds := [.data, .data, .data, .data, .sentinel, .sentinel, .pinned], laidTests := true, laidLooks := .later }
def RestoreBackCardSaid : Prop := Claim7.holds Tryz.pinned (.plain (OpenSpec.ofChange restoreBackSpec)) restoreBackCard

/-- THE TIED CARD OF 'creelkeep.RestoreSome'. -/
def restoreSomeCard : Claim7 := { stood := { row := restoreSomeRow, standIns := [], harness := (true, "15fad04b238c90a803e93b6934b81e4dbd8082fcd88a284101a5e872cae411b1"), looks := true }, kinds := [], alts := [], laidByText := true, laidKinds := [.data, .data, .data, .data, .sentinel, .sentinel, .pinned], laidTests := true, laidLooks := .later }
def RestoreSomeCardSaid : Prop := Claim7.holds Tryz.pinned (.plain (OpenSpec.ofChange restoreSomeSpec)) restoreSomeCard

/-- THE TIED CARD OF 'creelkeep.RestoreUnder'. -/
def restoreUnderCard : Claim7 := { stood := { row := restoreUnderRow, standIns := [], harness := (true, "15fad04b238c90a803e93b6934b81e4dbd8082fcd88a284101a5e872cae411b1"), looks := true }, kinds := [], alts := [], laidByText := true, laidKinds := [.data, .data, .data, .data, .sentinel, .sentinel, .pinned], laidTests := true, laidLooks := .later }
def RestoreUnderCardSaid : Prop := Claim7.holds Tryz.pinned (.plain (OpenSpec.ofChange restoreUnderSpec)) restoreUnderCard

/-- THE SECOND FORM's CARD OF 'creellaw.RestoreTrees'. -/
def restoreTreesUptoCard : Claim7 := { stood := { row := restoreTreesUptoRow, standIns := [], harness := (true, "15fad04b238c90a803e93b6934b81e4dbd8082fcd88a284101a5e872cae411b1"), looks := true }, kinds := [], alts := [], laidByText := true, laidKinds := [.data, .data, .data, .data, .sentinel, .sentinel, .pinned], laidTests := true, laidLooks := .later }
def RestoreTreesUptoCardSaid : Prop := Claim7.holds Tryz.pinned (.plain (OpenSpec.upto restoreTreesSpec)) restoreTreesUptoCard

/-- THE SECOND FORM's CARD OF 'creellaw.RestoreUnders'. -/
def restoreUndersUptoCard : Claim7 := { stood := { row := restoreUndersUptoRow, standIns := [], harness := (true, "15fad04b238c90a803e93b6934b81e4dbd8082fcd88a284101a5e872cae411b1"), looks := true }, kinds := [], alts := [], laidByText := true, laidKinds := [.data, .data, .data, .data, .sentinel, .sentinel, .pinned], laidTests := true, laidLooks := .later }
def RestoreUndersUptoCardSaid : Prop := Claim7.holds Tryz.pinned (.plain (OpenSpec.upto restoreUndersSpec)) restoreUndersUptoCard

/-- THE SECOND FORM's CARD OF 'creellaw.RestoreSomes'. -/
def restoreSomesUptoCard : Claim7 := { stood := { row := restoreSomesUptoRow, standIns := [], harness := (true, "15fad04b238c90a803e93b6934b81e4dbd8082fcd88a284101a5e872cae411b1"), looks := true }, kinds := [], alts := [], laidByText := true, laidKinds := [.data, .data, .data, .data, .sentinel, .sentinel, .pinned], laidTests := true, laidLooks := .later }
def RestoreSomesUptoCardSaid : Prop := Claim7.holds Tryz.pinned (.plain (OpenSpec.upto restoreSomesSpec)) restoreSomesUptoCard

/-- THE SECOND FORM's CARD OF 'creelkeep.RestoreBack'. -/
def restoreBackUptoCard : Claim7 := { stood := { row := restoreBackUptoRow, standIns := [], harness := (true, "15fad04b238c90a803e93b6934b81e4dbd8082fcd88a284101a5e872cae411b1"), looks := true }, kinds := [], alts := [], laidByText := true, laidKinds := [.data, .data, .data, .data, .sentinel, .sentinel, .pinned], laidTests := true, laidLooks := .later }
def RestoreBackUptoCardSaid : Prop := Claim7.holds Tryz.pinned (.plain (OpenSpec.upto restoreBackSpec)) restoreBackUptoCard

/-- THE SECOND FORM's CARD OF 'creelkeep.RestoreSome'. -/
def restoreSomeUptoCard : Claim7 := { stood := { row := restoreSomeUptoRow, standIns := [], harness := (true, "15fad04b238c90a803e93b6934b81e4dbd8082fcd88a284101a5e872cae411b1"), looks := true }, kinds := [], alts := [], laidByText := true, laidKinds := [.data, .data, .data, .data, .sentinel, .sentinel, .pinned], laidTests := true, laidLooks := .later }
def RestoreSomeUptoCardSaid : Prop := Claim7.holds Tryz.pinned (.plain (OpenSpec.upto restoreSomeSpec)) restoreSomeUptoCard

/-- THE SECOND FORM's CARD OF 'creelkeep.RestoreUnder'. -/
def restoreUnderUptoCard : Claim7 := { stood := { row := restoreUnderUptoRow, standIns := [], harness := (true, "15fad04b238c90a803e93b6934b81e4dbd8082fcd88a284101a5e872cae411b1"), looks := true }, kinds := [], alts := [], laidByText := true, laidKinds := [.data, .data, .data, .data, .sentinel, .sentinel, .pinned], laidTests := true, laidLooks := .later }
def RestoreUnderUptoCardSaid : Prop := Claim7.holds Tryz.pinned (.plain (OpenSpec.upto restoreUnderSpec)) restoreUnderUptoCard
end Rows
end Go.Proofs.YtapgoifimhnbdaaGreatDoor
