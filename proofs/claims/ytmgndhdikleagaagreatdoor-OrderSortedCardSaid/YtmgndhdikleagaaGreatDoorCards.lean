/-
  DERIVED. GIVEN WITH THE SEED: THE CARDS: each row of YtmgndhdikleagaaGreatDoorRows.lean that lists a variable, with what it lists TIED to the program's text (the seventh form; the later family's looks); each row that meets fmt, with fmt's text TOLD by the authors' own Lean function (tested against real Go, not proved from fmt's source: count such statements apart). THE CARD IS WHAT COUNTS. Prove the row's statement (the work); the ties are given (YtmgndhdikleagaaGreatDoorTie.lean); close each card by the builder's one call (the guide's Derived/Test/ToyasCard.lean, 'card_holds'). Laid BY PROGRAM, IN A SANDBOX (cutbox-door.mjs). By AI agents, Wed Nov 11 2026. No macro, syntax, notation, axiom, sorry.
-/
import Derived.Test.YtmgndhdikleagaaGreatDoorRows
import GoSem.ClaimSeven
namespace Go.Proofs.YtmgndhdikleagaaGreatDoor
namespace Rows

/-- THE TIED CARD OF 'creelkeep.OrderAll'. -/
def orderAllCard : Claim7 := { stood := { row := orderAllRow, standIns := [], harness := (true, "78e5789c62cb8aa132278b420f10a8a1ba34bc1da2e468775c115d5346ce1d78"), looks := false }, kinds := [], alts := [], laidByText := true, laidKinds := [.data, .pinned], laidTests := true, laidLooks := .later }
def OrderAllCardSaid : Prop := Claim7.holds Tryz.pinned (.plain (OpenSpec.ofChange orderAllSpec)) orderAllCard

/-- THE TIED CARD OF 'creelkeep.OrderNamed'. -/
def orderNamedCard : Claim7 := { stood := { row := orderNamedRow, standIns := [], harness := (true, "78e5789c62cb8aa132278b420f10a8a1ba34bc1da2e468775c115d5346ce1d78"), looks := false }, kinds := [], alts := [], laidByText := true, laidKinds := [.data, .pinned], laidTests := true, laidLooks := .later }
def OrderNamedCardSaid : Prop := Claim7.holds Tryz.pinned (.plain (OpenSpec.ofChange orderNamedSpec)) orderNamedCard

/-- THE TIED CARD OF 'creelkeep.OrderSorted'. -/
def orderSortedCard : Claim7 := { stood := { row := orderSortedRow, standIns := [], harness := (true, "78e5789c62cb8aa132278b420f10a8a1ba34bc1da2e468775c115d5346ce1d78"), looks := false }, kinds := [], alts := [], laidByText := true, laidKinds := [.data, .pinned], laidTests := true, laidLooks := .later }
def OrderSortedCardSaid : Prop := Claim7.holds Tryz.pinned (.plain (OpenSpec.ofChange orderSortedSpec)) orderSortedCard

/-- THE SECOND FORM's CARD OF 'creelkeep.OrderAll'. -/
def orderAllUptoCard : Claim7 := { stood := { row := orderAllUptoRow, standIns := [], harness := (true, "78e5789c62cb8aa132278b420f10a8a1ba34bc1da2e468775c115d5346ce1d78"), looks := false }, kinds := [], alts := [], laidByText := true, laidKinds := [.data, .pinned], laidTests := true, laidLooks := .later }
def OrderAllUptoCardSaid : Prop := Claim7.holds Tryz.pinned (.plain (OpenSpec.upto orderAllSpec)) orderAllUptoCard

/-- THE SECOND FORM's CARD OF 'creelkeep.OrderNamed'. -/
def orderNamedUptoCard : Claim7 := { stood := { row := orderNamedUptoRow, standIns := [], harness := (true, "78e5789c62cb8aa132278b420f10a8a1ba34bc1da2e468775c115d5346ce1d78"), looks := false }, kinds := [], alts := [], laidByText := true, laidKinds := [.data, .pinned], laidTests := true, laidLooks := .later }
def OrderNamedUptoCardSaid : Prop := Claim7.holds Tryz.pinned (.plain (OpenSpec.upto orderNamedSpec)) orderNamedUptoCard

/-- THE SECOND FORM's CARD OF 'creelkeep.OrderSorted'. -/
def orderSortedUptoCard : Claim7 := { stood := { row := orderSortedUptoRow, standIns := [], harness := (true, "78e5789c62cb8aa132278b420f10a8a1ba34bc1da2e468775c115d5346ce1d78"), looks := false }, kinds := [], alts := [], laidByText := true, laidKinds := [.data, .pinned], laidTests := true, laidLooks := .later }
def OrderSortedUptoCardSaid : Prop := Claim7.holds Tryz.pinned (.plain (OpenSpec.upto orderSortedSpec)) orderSortedUptoCard
end Rows
end Go.Proofs.YtmgndhdikleagaaGreatDoor
