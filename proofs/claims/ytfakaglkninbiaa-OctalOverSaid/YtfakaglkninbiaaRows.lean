/-
  No cell of these rows narrows 'for every input' (looked for: loops, veiled, ifaces, maps, wideKeys, modest, calm, conditions, laid).
  DERIVED. THE GIVEN ROWS OF THIS SEAT. 5 by the template 'for every input the law returns true; each argument reads behind the call as it read before'; 0 by the template 'total and deterministic' (their statements: YtfakaglkninbiaaTotals.lean).
  GIVEN WITH THE SEED: the statements are not yours to turn. If you find one false, say at which input.
  Laid BY PROGRAM, IN A SANDBOX (cutbox-rows.mjs): the forced cells as the released guide's own fill.sh prints them over the translation 60237fa039cdfde1… (all of the seat's roots in one cut). By AI agents, Wed Nov 11 2026. No macro, syntax, notation, axiom, sorry.
-/
import Derived.Test.YtfakaglkninbiaaChecked
import GoSem.Claim
import GoSem.ClaimJoined
import GoSem.ClaimMapViews
import Derived.JoinedTies
import Derived.KernelRfl
namespace Go.Proofs.Ytfakaglkninbiaa
/- THE CELL 'sum', in the pinned program and in every row, IS THE sha256 OF THE DUMP (.gsa) THAT YtfakaglkninbiaaProg.lean LOADS. Nothing in Lean hashes anything: it is a label: what it is worth is what the hold of that sum in a sandbox is worth. -/
noncomputable def Try.pinned : Pinned := { name := "ytfakaglkninbiaa", sum := "60237fa039cdfde1c80556e79b62869ded213337d20c345953a9eebe512323d2", checked := Try.checked }
namespace Rows
def none {H : Type} : Left H := { results := [], args := [] }

/-- 'creellaw.OctalWrites': WHATEVER THE INPUT: true; the input reads as it did. -/
def octalWritesSpec : ChangeSpec := { name := "octalWrites", fn := fun _ => fun
  | [d1, d2] => { results := [.lit (.bool true)], args := [d1, d2] }
  | _ => none }
def octalWritesRow : OpenClaim := { program := "ytfakaglkninbiaa", sum := "60237fa039cdfde1c80556e79b62869ded213337d20c345953a9eebe512323d2", func := "creel/creellaw.OctalWrites", spec := "octalWrites", apart := false }
def OctalWritesSaid : Prop := octalWritesRow.holds Try.pinned (OpenSpec.ofChange octalWritesSpec)

/-- ITS FALSE NEIGHBOUR: 'it returns false'. Refute it at one input. -/
def octalWritesWrong : ChangeSpec := { name := "octalWrites", fn := fun _ => fun
  | [d1, d2] => { results := [.lit (.bool false)], args := [d1, d2] }
  | _ => none }
def OctalWritesWrongFalsely : Prop := octalWritesRow.holds Try.pinned (OpenSpec.ofChange octalWritesWrong)

/-- 'creellaw.OctalReads': WHATEVER THE INPUT: true; the input reads as it did. -/
def octalReadsSpec : ChangeSpec := { name := "octalReads", fn := fun _ => fun
  | [d] => { results := [.lit (.bool true)], args := [d] }
  | _ => none }
def octalReadsRow : OpenClaim := { program := "ytfakaglkninbiaa", sum := "60237fa039cdfde1c80556e79b62869ded213337d20c345953a9eebe512323d2", func := "creel/creellaw.OctalReads", spec := "octalReads", apart := false }
def OctalReadsSaid : Prop := octalReadsRow.holds Try.pinned (OpenSpec.ofChange octalReadsSpec)

/-- ITS FALSE NEIGHBOUR: 'it returns false'. Refute it at one input. -/
def octalReadsWrong : ChangeSpec := { name := "octalReads", fn := fun _ => fun
  | [d] => { results := [.lit (.bool false)], args := [d] }
  | _ => none }
def OctalReadsWrongFalsely : Prop := octalReadsRow.holds Try.pinned (OpenSpec.ofChange octalReadsWrong)

/-- 'creelkeep.OctalBack': WHATEVER THE INPUT: true; the input reads as it did. -/
def octalBackSpec : ChangeSpec := { name := "octalBack", fn := fun _ => fun
  | [d1, d2] => { results := [.lit (.bool true)], args := [d1, d2] }
  | _ => none }
def octalBackRow : OpenClaim := { program := "ytfakaglkninbiaa", sum := "60237fa039cdfde1c80556e79b62869ded213337d20c345953a9eebe512323d2", func := "creel/creelkeep.OctalBack", spec := "octalBack", apart := false }
def OctalBackSaid : Prop := octalBackRow.holds Try.pinned (OpenSpec.ofChange octalBackSpec)

/-- ITS FALSE NEIGHBOUR: 'it returns false'. Refute it at one input. -/
def octalBackWrong : ChangeSpec := { name := "octalBack", fn := fun _ => fun
  | [d1, d2] => { results := [.lit (.bool false)], args := [d1, d2] }
  | _ => none }
def OctalBackWrongFalsely : Prop := octalBackRow.holds Try.pinned (OpenSpec.ofChange octalBackWrong)

/-- 'creelkeep.OctalRises': WHATEVER THE INPUT: true; the input reads as it did. -/
def octalRisesSpec : ChangeSpec := { name := "octalRises", fn := fun _ => fun
  | [d1, d2, d3] => { results := [.lit (.bool true)], args := [d1, d2, d3] }
  | _ => none }
def octalRisesRow : OpenClaim := { program := "ytfakaglkninbiaa", sum := "60237fa039cdfde1c80556e79b62869ded213337d20c345953a9eebe512323d2", func := "creel/creelkeep.OctalRises", spec := "octalRises", apart := false }
def OctalRisesSaid : Prop := octalRisesRow.holds Try.pinned (OpenSpec.ofChange octalRisesSpec)

/-- ITS FALSE NEIGHBOUR: 'it returns false'. Refute it at one input. -/
def octalRisesWrong : ChangeSpec := { name := "octalRises", fn := fun _ => fun
  | [d1, d2, d3] => { results := [.lit (.bool false)], args := [d1, d2, d3] }
  | _ => none }
def OctalRisesWrongFalsely : Prop := octalRisesRow.holds Try.pinned (OpenSpec.ofChange octalRisesWrong)

/-- 'creelkeep.OctalOver': WHATEVER THE INPUT: true; the input reads as it did. -/
def octalOverSpec : ChangeSpec := { name := "octalOver", fn := fun _ => fun
  | [d] => { results := [.lit (.bool true)], args := [d] }
  | _ => none }
def octalOverRow : OpenClaim := { program := "ytfakaglkninbiaa", sum := "60237fa039cdfde1c80556e79b62869ded213337d20c345953a9eebe512323d2", func := "creel/creelkeep.OctalOver", spec := "octalOver", apart := false }
def OctalOverSaid : Prop := octalOverRow.holds Try.pinned (OpenSpec.ofChange octalOverSpec)

/-- ITS FALSE NEIGHBOUR: 'it returns false'. Refute it at one input. -/
def octalOverWrong : ChangeSpec := { name := "octalOver", fn := fun _ => fun
  | [d] => { results := [.lit (.bool false)], args := [d] }
  | _ => none }
def OctalOverWrongFalsely : Prop := octalOverRow.holds Try.pinned (OpenSpec.ofChange octalOverWrong)

/- THE SECOND FORM. 'bulk': how many values and letters a reading holds, each counted each time it is reached (what is shared counts as often as it is met; a slice's spare places count too). A statement '..UptoSaid' is the law's where the arguments, and the package variables that the reading takes, are together of bulk at most 1048576: NARROWER than '..Said'. Prove '..Said' where nothing that the law and all that it calls make is longer than what came in: it says more and counts as full. Else prove '..UptoSaid'. A law counts once. -/
mutual
def uptoBulk {H : Type} : DataW H → Nat
  | .lit (.string bytes) => bytes.length + 1
  | .lit _ => 1
  | .nil => 1
  | .ptr d => uptoBulk d + 1
  | .slice elems spare => uptoBulkAll elems + uptoBulkAll spare + 1
  | .agg parts => uptoBulkAll parts + 1
  | .iface _ d => uptoBulk d + 1
  | .map entries => uptoBulkEntries entries + 1
  | .held _ => 1
def uptoBulkAll {H : Type} : List (DataW H) → Nat
  | [] => 0
  | d :: r => uptoBulk d + uptoBulkAll r
def uptoBulkEntries {H : Type} : List (Lit × DataW H) → Nat
  | [] => 0
  | x :: r => uptoBulkEntry x + uptoBulkEntries r
def uptoBulkEntry {H : Type} : Lit × DataW H → Nat
  | (.string bytes, d) => bytes.length + uptoBulk d + 1
  | (_, d) => uptoBulk d + 1
 end
def uptoSmall : (H : Type) → List (DataW H) → Bool := fun _ ds => decide (uptoBulkAll ds ≤ 1048576)
def OpenSpec.upto (s : _root_.Go.ChangeSpec) : _root_.Go.OpenSpec := { _root_.Go.OpenSpec.ofChange s with cond := some uptoSmall }

/-- 'creellaw.OctalWrites', WHERE WHAT IT READS IS OF BULK AT MOST 1048576: true; the input reads as it did. -/
def octalWritesUptoRow : OpenClaim := { program := "ytfakaglkninbiaa", sum := "60237fa039cdfde1c80556e79b62869ded213337d20c345953a9eebe512323d2", func := "creel/creellaw.OctalWrites", spec := "octalWrites", apart := false, narrowed := true }
def OctalWritesUptoSaid : Prop := octalWritesUptoRow.holds Try.pinned (OpenSpec.upto octalWritesSpec)

/-- 'creellaw.OctalReads', WHERE WHAT IT READS IS OF BULK AT MOST 1048576: true; the input reads as it did. -/
def octalReadsUptoRow : OpenClaim := { program := "ytfakaglkninbiaa", sum := "60237fa039cdfde1c80556e79b62869ded213337d20c345953a9eebe512323d2", func := "creel/creellaw.OctalReads", spec := "octalReads", apart := false, narrowed := true }
def OctalReadsUptoSaid : Prop := octalReadsUptoRow.holds Try.pinned (OpenSpec.upto octalReadsSpec)

/-- 'creelkeep.OctalBack', WHERE WHAT IT READS IS OF BULK AT MOST 1048576: true; the input reads as it did. -/
def octalBackUptoRow : OpenClaim := { program := "ytfakaglkninbiaa", sum := "60237fa039cdfde1c80556e79b62869ded213337d20c345953a9eebe512323d2", func := "creel/creelkeep.OctalBack", spec := "octalBack", apart := false, narrowed := true }
def OctalBackUptoSaid : Prop := octalBackUptoRow.holds Try.pinned (OpenSpec.upto octalBackSpec)

/-- 'creelkeep.OctalRises', WHERE WHAT IT READS IS OF BULK AT MOST 1048576: true; the input reads as it did. -/
def octalRisesUptoRow : OpenClaim := { program := "ytfakaglkninbiaa", sum := "60237fa039cdfde1c80556e79b62869ded213337d20c345953a9eebe512323d2", func := "creel/creelkeep.OctalRises", spec := "octalRises", apart := false, narrowed := true }
def OctalRisesUptoSaid : Prop := octalRisesUptoRow.holds Try.pinned (OpenSpec.upto octalRisesSpec)

/-- 'creelkeep.OctalOver', WHERE WHAT IT READS IS OF BULK AT MOST 1048576: true; the input reads as it did. -/
def octalOverUptoRow : OpenClaim := { program := "ytfakaglkninbiaa", sum := "60237fa039cdfde1c80556e79b62869ded213337d20c345953a9eebe512323d2", func := "creel/creelkeep.OctalOver", spec := "octalOver", apart := false, narrowed := true }
def OctalOverUptoSaid : Prop := octalOverUptoRow.holds Try.pinned (OpenSpec.upto octalOverSpec)

end Rows
end Go.Proofs.Ytfakaglkninbiaa
