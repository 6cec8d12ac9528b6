/-
  DERIVED. GIVEN WITH THE SEED: THE CARDS: each row of YtoikpnjnljdpaaaGreatDoorRows.lean that lists a variable, with what it lists TIED to the program's text (the seventh form; the later family's looks); each row that meets fmt, with fmt's text TOLD by the authors' own Lean function (tested against real Go, not proved from fmt's source: count such statements apart). THE CARD IS WHAT COUNTS. Prove the row's statement (the work); the ties are given (YtoikpnjnljdpaaaGreatDoorTie.lean); close each card by the builder's one call (the guide's Derived/Test/ToyasCard.lean, 'card_holds'). Laid BY PROGRAM, IN A SANDBOX (cutbox-door.mjs). By AI agents, Wed Nov 11 2026. No macro, syntax, notation, axiom, sorry.
-/
import Derived.Test.YtoikpnjnljdpaaaGreatDoorRows
import GoSem.ClaimSeven
namespace Go.Proofs.YtoikpnjnljdpaaaGreatDoor
namespace Rows

/-- THE TIED CARD OF 'creellaw.PlanMakes'. -/
def planMakesCard : Claim7 := { stood := { row := planMakesRow, standIns := [], harness := (true, "1d3c7450dba29b78f0371ae43ee8ded2ff1515422ff25a8ceda51e3508ebc58b"), looks := false }, kinds := [], alts := [], laidByText := true, laidKinds := [.data, .pinned], laidTests := true, laidLooks := .later }
def PlanMakesCardSaid : Prop := Claim7.holds Tryz.pinned (.plain (OpenSpec.ofChange planMakesSpec)) planMakesCard

/-- THE TIED CARD OF 'creelkeep.PlanBack'. -/
def planBackCard : Claim7 := { stood := { row := planBackRow, standIns := [], harness := (true, "1d3c7450dba29b78f0371ae43ee8ded2ff1515422ff25a8ceda51e3508ebc58b"), looks := false }, kinds := [], alts := [], laidByText := true, laidKinds := [.data, .pinned], laidTests := true, laidLooks := .later }
def PlanBackCardSaid : Prop := Claim7.holds Tryz.pinned (.plain (OpenSpec.ofChange planBackSpec)) planBackCard

/-- THE TIED CARD OF 'creelkeep.PlanGood'. -/
def planGoodCard : Claim7 := { stood := { row := planGoodRow, standIns := [], harness := (true, "1d3c7450dba29b78f0371ae43ee8ded2ff1515422ff25a8ceda51e3508ebc58b"), looks := false }, kinds := [], alts := [], laidByText := true, laidKinds := [.data, .pinned], laidTests := true, laidLooks := .later }
def PlanGoodCardSaid : Prop := Claim7.holds Tryz.pinned (.plain (OpenSpec.ofChange planGoodSpec)) planGoodCard

/-- THE TIED CARD OF 'creelkeep.PlanOnce'. -/
def planOnceCard : Claim7 := { stood := { row := planOnceRow, standIns := [], harness := (true, "1d3c7450dba29b78f0371ae43ee8ded2ff1515422ff25a8ceda51e3508ebc58b"), looks := false }, kinds := [], alts := [], laidByText := true, laidKinds := [.data, .pinned], laidTests := true, laidLooks := .later }
def PlanOnceCardSaid : Prop := Claim7.holds Tryz.pinned (.plain (OpenSpec.ofChange planOnceSpec)) planOnceCard

/-- THE SECOND FORM's CARD OF 'creellaw.PlanMakes'. -/
def planMakesUptoCard : Claim7 := { stood := { row := planMakesUptoRow, standIns := [], harness := (true, "1d3c7450dba29b78f0371ae43ee8ded2ff1515422ff25a8ceda51e3508ebc58b"), looks := false }, kinds := [], alts := [], laidByText := true, laidKinds := [.data, .pinned], laidTests := true, laidLooks := .later }
def PlanMakesUptoCardSaid : Prop := Claim7.holds Tryz.pinned (.plain (OpenSpec.upto planMakesSpec)) planMakesUptoCard

/-- THE SECOND FORM's CARD OF 'creelkeep.PlanBack'. -/
def planBackUptoCard : Claim7 := { stood := { row := planBackUptoRow, standIns := [], harness := (true, "1d3c7450dba29b78f0371ae43ee8ded2ff1515422ff25a8ceda51e3508ebc58b"), looks := false }, kinds := [], alts := [], laidByText := true, laidKinds := [.data, .pinned], laidTests := true, laidLooks := .later }
def PlanBackUptoCardSaid : Prop := Claim7.holds Tryz.pinned (.plain (OpenSpec.upto planBackSpec)) planBackUptoCard

/-- THE SECOND FORM's CARD OF 'creelkeep.PlanGood'. -/
def planGoodUptoCard : Claim7 := { stood := { row := planGoodUptoRow, standIns := [], harness := (true, "1d3c7450dba29b78f0371ae43ee8ded2ff1515422ff25a8ceda51e3508ebc58b"), looks := false }, kinds := [], alts := [], laidByText := true, laidKinds := [.data, .pinned], laidTests := true, laidLooks := .later }
def PlanGoodUptoCardSaid : Prop := Claim7.holds Tryz.pinned (.plain (OpenSpec.upto planGoodSpec)) planGoodUptoCard

/-- THE SECOND FORM's CARD OF 'creelkeep.PlanOnce'. -/
def planOnceUptoCard : Claim7 := { stood := { row := planOnceUptoRow, standIns := [], harness := (true, "1d3c7450dba29b78f0371ae43ee8ded2ff1515422ff25a8ceda51e3508ebc58b"), looks := false }, kinds := [], alts := [], laidByText := true, laidKinds := [.data, .pinned], laidTests := true, laidLooks := .later }
def PlanOnceUptoCardSaid : Prop := Claim7.holds Tryz.pinned (.plain (OpenSpec.upto planOnceSpec)) planOnceUptoCard
end Rows
end Go.Proofs.YtoikpnjnljdpaaaGreatDoor
