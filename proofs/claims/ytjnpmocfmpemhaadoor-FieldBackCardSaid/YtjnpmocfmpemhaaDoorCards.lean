/-
  DERIVED. GIVEN WITH THE SEED: THE CARDS: each row of YtjnpmocfmpemhaaDoorRows.lean that lists a variable, with what it lists TIED to the program's text (the seventh form; the later family's looks); each row that meets fmt, with fmt's text TOLD by the authors' own Lean function (tested against real Go, not proved from fmt's source: count such statements apart). THE CARD IS WHAT COUNTS. Prove the row's statement (the work); the ties are given (YtjnpmocfmpemhaaDoorTie.lean); close each card by the builder's one call (the guide's Derived/Test/ToyasCard.lean, 'card_holds'). Laid BY PROGRAM, IN A SANDBOX (cutbox-door.mjs). By AI agents, Wed Nov 11 2026. No macro, syntax, notation, axiom, sorry.
-/
import Derived.Test.YtjnpmocfmpemhaaDoorRows
import GoSem.ClaimSeven
namespace Go.Proofs.YtjnpmocfmpemhaaDoor
namespace Rows

/-- THE TIED CARD OF 'creelkeep.FieldBack'. -/
def fieldBackCard : Claim7 := { stood := { row := fieldBackRow, standIns := [], harness := (true, "5d6b4f654bc25af238a09496add2543a4bdaa8fade1b0054c7e7109bb64231d5"), looks := false }, kinds := [], alts := [], laidByText := true, laidKinds := [.data, .pinned], laidTests := true, laidLooks := .later }
def FieldBackCardSaid : Prop := Claim7.holds Tryd.pinned (.plain (OpenSpec.ofChange fieldBackSpec)) fieldBackCard

/-- THE TIED CARD OF 'creelkeep.FieldStrict'. -/
def fieldStrictCard : Claim7 := { stood := { row := fieldStrictRow, standIns := [], harness := (true, "5d6b4f654bc25af238a09496add2543a4bdaa8fade1b0054c7e7109bb64231d5"), looks := false }, kinds := [], alts := [], laidByText := true, laidKinds := [.data, .pinned], laidTests := true, laidLooks := .later }
def FieldStrictCardSaid : Prop := Claim7.holds Tryd.pinned (.plain (OpenSpec.ofChange fieldStrictSpec)) fieldStrictCard

/-- THE SECOND FORM's CARD OF 'creelkeep.FieldBack'. -/
def fieldBackUptoCard : Claim7 := { stood := { row := fieldBackUptoRow, standIns := [], harness := (true, "5d6b4f654bc25af238a09496add2543a4bdaa8fade1b0054c7e7109bb64231d5"), looks := false }, kinds := [], alts := [], laidByText := true, laidKinds := [.data, .pinned], laidTests := true, laidLooks := .later }
def FieldBackUptoCardSaid : Prop := Claim7.holds Tryd.pinned (.plain (OpenSpec.upto fieldBackSpec)) fieldBackUptoCard

/-- THE SECOND FORM's CARD OF 'creelkeep.FieldStrict'. -/
def fieldStrictUptoCard : Claim7 := { stood := { row := fieldStrictUptoRow, standIns := [], harness := (true, "5d6b4f654bc25af238a09496add2543a4bdaa8fade1b0054c7e7109bb64231d5"), looks := false }, kinds := [], alts := [], laidByText := true, laidKinds := [.data, .pinned], laidTests := true, laidLooks := .later }
def FieldStrictUptoCardSaid : Prop := Claim7.holds Tryd.pinned (.plain (OpenSpec.upto fieldStrictSpec)) fieldStrictUptoCard
end Rows
end Go.Proofs.YtjnpmocfmpemhaaDoor
