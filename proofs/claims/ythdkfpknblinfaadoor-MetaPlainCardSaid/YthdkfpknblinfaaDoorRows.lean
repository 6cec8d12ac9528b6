/-
  NARROWER THAN 'FOR EVERY INPUT', by the rows' own cells (each row's printed sentence says how): MetaTells: laid · MetaParses: laid · MetaBack: laid · MetaTurns: laid · MetaPlain: laid.
  DERIVED. THE GIVEN ROWS OF THIS SEAT. 5 by the template 'for every input the law returns true; each argument reads behind the call as it read before'; 0 by the template 'total and deterministic' (their statements: YthdkfpknblinfaaDoorTotals.lean).
  GIVEN WITH THE SEED: the statements are not yours to turn. If you find one false, say at which input.
  Laid BY PROGRAM, IN A SANDBOX (cutbox-rows.mjs): the forced cells as the released guide's own fill.sh prints them over the translation de28d59136ee0c67… (all of the seat's roots in one cut). By AI agents, Wed Nov 11 2026. No macro, syntax, notation, axiom, sorry.
-/
import Derived.Test.YthdkfpknblinfaaDoorChecked
import GoSem.Claim
import GoSem.ClaimJoined
import GoSem.ClaimMapViews
import Derived.JoinedTies
import Derived.KernelRfl
namespace Go.Proofs.YthdkfpknblinfaaDoor
/- THE CELL 'sum', in the pinned program and in every row, IS THE sha256 OF THE DUMP (.gsa) THAT YthdkfpknblinfaaDoorProg.lean LOADS. Nothing in Lean hashes anything: it is a label: what it is worth is what the hold of that sum in a sandbox is worth. -/
noncomputable def Tryd.pinned : Pinned := { name := "ythdkfpknblinfaadoor", sum := "de28d59136ee0c675c1a91a1a6fa33bd88fc48394000d0ddfa2ac5ec3bc073b3", checked := Tryd.checked }
namespace Rows
def none {H : Type} : Left H := { results := [], args := [] }

/- WHAT THE LISTED PACKAGE-LEVEL VARIABLES READ AS WHEN THE CALL BEGINS. Each datum BY PROGRAM (the guide's laid-datum.mjs) off the statement by which the dump's own 'gosem.cut.vars' lays the variable. In a bare row this is a premise. The card (YthdkfpknblinfaaDoorCards.lean) ties it to the program's text. -/
def laid_creel_meta_thirds {H : Type} : DataW H := .agg [.lit (.string [45, 120, 83, 115]), .lit (.string [45, 120, 83, 115]), .lit (.string [45, 120, 84, 116])]

/-- 'creellaw.MetaTells': WHATEVER THE INPUT: true; the input reads as it did. -/
def metaTellsSpec : ChangeSpec := { name := "metaTells", fn := fun _ => fun
  | [d] => { results := [.lit (.bool true)], args := [d] }
  | _ => none }
def metaTellsRow : OpenClaim := { program := "ythdkfpknblinfaadoor", sum := "de28d59136ee0c675c1a91a1a6fa33bd88fc48394000d0ddfa2ac5ec3bc073b3", func := "creel/creellaw.MetaTells", spec := "metaTells", named := ["creel/meta.thirds"], apart := false, laid := [("creel/meta.thirds", laid_creel_meta_thirds)] }
def MetaTellsSaid : Prop := metaTellsRow.holds Tryd.pinned (OpenSpec.ofChange metaTellsSpec)

/-- ITS FALSE NEIGHBOUR: 'it returns false'. Refute it at one input. -/
def metaTellsWrong : ChangeSpec := { name := "metaTells", fn := fun _ => fun
  | [d] => { results := [.lit (.bool false)], args := [d] }
  | _ => none }
def MetaTellsWrongFalsely : Prop := metaTellsRow.holds Tryd.pinned (OpenSpec.ofChange metaTellsWrong)

/-- 'creellaw.MetaParses': WHATEVER THE INPUT: true; the input reads as it did. -/
def metaParsesSpec : ChangeSpec := { name := "metaParses", fn := fun _ => fun
  | [d] => { results := [.lit (.bool true)], args := [d] }
  | _ => none }
def metaParsesRow : OpenClaim := { program := "ythdkfpknblinfaadoor", sum := "de28d59136ee0c675c1a91a1a6fa33bd88fc48394000d0ddfa2ac5ec3bc073b3", func := "creel/creellaw.MetaParses", spec := "metaParses", inPlace := ["internal/bytealg.IndexByteString"], named := ["creel/meta.thirds"], apart := false, laid := [("creel/meta.thirds", laid_creel_meta_thirds)] }
def MetaParsesSaid : Prop := metaParsesRow.holds Tryd.pinned (OpenSpec.ofChange metaParsesSpec)

/-- ITS FALSE NEIGHBOUR: 'it returns false'. Refute it at one input. -/
def metaParsesWrong : ChangeSpec := { name := "metaParses", fn := fun _ => fun
  | [d] => { results := [.lit (.bool false)], args := [d] }
  | _ => none }
def MetaParsesWrongFalsely : Prop := metaParsesRow.holds Tryd.pinned (OpenSpec.ofChange metaParsesWrong)

/-- 'creelkeep.MetaBack': WHATEVER THE INPUT: true; the input reads as it did. -/
def metaBackSpec : ChangeSpec := { name := "metaBack", fn := fun _ => fun
  | [d] => { results := [.lit (.bool true)], args := [d] }
  | _ => none }
def metaBackRow : OpenClaim := { program := "ythdkfpknblinfaadoor", sum := "de28d59136ee0c675c1a91a1a6fa33bd88fc48394000d0ddfa2ac5ec3bc073b3", func := "creel/creelkeep.MetaBack", spec := "metaBack", inPlace := ["internal/bytealg.IndexByteString"], named := ["creel/meta.thirds"], apart := false, laid := [("creel/meta.thirds", laid_creel_meta_thirds)] }
def MetaBackSaid : Prop := metaBackRow.holds Tryd.pinned (OpenSpec.ofChange metaBackSpec)

/-- ITS FALSE NEIGHBOUR: 'it returns false'. Refute it at one input. -/
def metaBackWrong : ChangeSpec := { name := "metaBack", fn := fun _ => fun
  | [d] => { results := [.lit (.bool false)], args := [d] }
  | _ => none }
def MetaBackWrongFalsely : Prop := metaBackRow.holds Tryd.pinned (OpenSpec.ofChange metaBackWrong)

/-- 'creelkeep.MetaTurns': WHATEVER THE INPUT: true; the input reads as it did. -/
def metaTurnsSpec : ChangeSpec := { name := "metaTurns", fn := fun _ => fun
  | [d] => { results := [.lit (.bool true)], args := [d] }
  | _ => none }
def metaTurnsRow : OpenClaim := { program := "ythdkfpknblinfaadoor", sum := "de28d59136ee0c675c1a91a1a6fa33bd88fc48394000d0ddfa2ac5ec3bc073b3", func := "creel/creelkeep.MetaTurns", spec := "metaTurns", inPlace := ["internal/bytealg.IndexByteString"], named := ["creel/meta.thirds"], apart := false, laid := [("creel/meta.thirds", laid_creel_meta_thirds)] }
def MetaTurnsSaid : Prop := metaTurnsRow.holds Tryd.pinned (OpenSpec.ofChange metaTurnsSpec)

/-- ITS FALSE NEIGHBOUR: 'it returns false'. Refute it at one input. -/
def metaTurnsWrong : ChangeSpec := { name := "metaTurns", fn := fun _ => fun
  | [d] => { results := [.lit (.bool false)], args := [d] }
  | _ => none }
def MetaTurnsWrongFalsely : Prop := metaTurnsRow.holds Tryd.pinned (OpenSpec.ofChange metaTurnsWrong)

/-- 'creelkeep.MetaPlain': WHATEVER THE INPUT: true; the input reads as it did. -/
def metaPlainSpec : ChangeSpec := { name := "metaPlain", fn := fun _ => fun
  | [d] => { results := [.lit (.bool true)], args := [d] }
  | _ => none }
def metaPlainRow : OpenClaim := { program := "ythdkfpknblinfaadoor", sum := "de28d59136ee0c675c1a91a1a6fa33bd88fc48394000d0ddfa2ac5ec3bc073b3", func := "creel/creelkeep.MetaPlain", spec := "metaPlain", named := ["creel/meta.thirds"], apart := false, laid := [("creel/meta.thirds", laid_creel_meta_thirds)] }
def MetaPlainSaid : Prop := metaPlainRow.holds Tryd.pinned (OpenSpec.ofChange metaPlainSpec)

/-- ITS FALSE NEIGHBOUR: 'it returns false'. Refute it at one input. -/
def metaPlainWrong : ChangeSpec := { name := "metaPlain", fn := fun _ => fun
  | [d] => { results := [.lit (.bool false)], args := [d] }
  | _ => none }
def MetaPlainWrongFalsely : Prop := metaPlainRow.holds Tryd.pinned (OpenSpec.ofChange metaPlainWrong)

/- THE SECOND FORM. 'bulk': how many values and letters a reading holds, each counted each time it is reached (what is shared counts as often as it is met; a slice's spare places count too). A statement '..UptoSaid' is the law's where the arguments, and the package variables that the reading takes, are together of bulk at most 1048576: NARROWER than '..Said'. Prove '..Said' where nothing that the law and all that it calls make is longer than what came in: it says more and counts as full. Else prove '..UptoSaid'. A law counts once. -/
mutual
def uptoBulk {H : Type} : DataW H → Nat
  | .lit (.string bytes) => bytes.length + 1
  | .lit _ => 1
  | .nil => 1
  | .ptr d => uptoBulk d + 1
  | .slice elems spare => uptoBulkAll elems + uptoBulkAll spare + 1
  | .agg parts => uptoBulkAll parts + 1
  | .iface _ d => uptoBulk d + 1
  | .map entries => uptoBulkEntries entries + 1
  | .held _ => 1
def uptoBulkAll {H : Type} : List (DataW H) → Nat
  | [] => 0
  | d :: r => uptoBulk d + uptoBulkAll r
def uptoBulkEntries {H : Type} : List (Lit × DataW H) → Nat
  | [] => 0
  | x :: r => uptoBulkEntry x + uptoBulkEntries r
def uptoBulkEntry {H : Type} : Lit × DataW H → Nat
  | (.string bytes, d) => bytes.length + uptoBulk d + 1
  | (_, d) => uptoBulk d + 1
 end
def uptoSmall : (H : Type) → List (DataW H) → Bool := fun _ ds => decide (uptoBulkAll ds ≤ 1048576)
def OpenSpec.upto (s : _root_.Go.ChangeSpec) : _root_.Go.OpenSpec := { _root_.Go.OpenSpec.ofChange s with cond := some uptoSmall }

/-- 'creellaw.MetaTells', WHERE WHAT IT READS IS OF BULK AT MOST 1048576: true; the input reads as it did. -/
def metaTellsUptoRow : OpenClaim := { program := "ythdkfpknblinfaadoor", sum := "de28d59136ee0c675c1a91a1a6fa33bd88fc48394000d0ddfa2ac5ec3bc073b3", func := "creel/creellaw.MetaTells", spec := "metaTells", named := ["creel/meta.thirds"], apart := false, laid := [("creel/meta.thirds", laid_creel_meta_thirds)], narrowed := true }
def MetaTellsUptoSaid : Prop := metaTellsUptoRow.holds Tryd.pinned (OpenSpec.upto metaTellsSpec)

/-- 'creellaw.MetaParses', WHERE WHAT IT READS IS OF BULK AT MOST 1048576: true; the input reads as it did. -/
def metaParsesUptoRow : OpenClaim := { program := "ythdkfpknblinfaadoor", sum := "de28d59136ee0c675c1a91a1a6fa33bd88fc48394000d0ddfa2ac5ec3bc073b3", func := "creel/creellaw.MetaParses", spec := "metaParses", inPlace := ["internal/bytealg.IndexByteString"], named := ["creel/meta.thirds"], apart := false, laid := [("creel/meta.thirds", laid_creel_meta_thirds)], narrowed := true }
def MetaParsesUptoSaid : Prop := metaParsesUptoRow.holds Tryd.pinned (OpenSpec.upto metaParsesSpec)

/-- 'creelkeep.MetaBack', WHERE WHAT IT READS IS OF BULK AT MOST 1048576: true; the input reads as it did. -/
def metaBackUptoRow : OpenClaim := { program := "ythdkfpknblinfaadoor", sum := "de28d59136ee0c675c1a91a1a6fa33bd88fc48394000d0ddfa2ac5ec3bc073b3", func := "creel/creelkeep.MetaBack", spec := "metaBack", inPlace := ["internal/bytealg.IndexByteString"], named := ["creel/meta.thirds"], apart := false, laid := [("creel/meta.thirds", laid_creel_meta_thirds)], narrowed := true }
def MetaBackUptoSaid : Prop := metaBackUptoRow.holds Tryd.pinned (OpenSpec.upto metaBackSpec)

/-- 'creelkeep.MetaTurns', WHERE WHAT IT READS IS OF BULK AT MOST 1048576: true; the input reads as it did. -/
def metaTurnsUptoRow : OpenClaim := { program := "ythdkfpknblinfaadoor", sum := "de28d59136ee0c675c1a91a1a6fa33bd88fc48394000d0ddfa2ac5ec3bc073b3", func := "creel/creelkeep.MetaTurns", spec := "metaTurns", inPlace := ["internal/bytealg.IndexByteString"], named := ["creel/meta.thirds"], apart := false, laid := [("creel/meta.thirds", laid_creel_meta_thirds)], narrowed := true }
def MetaTurnsUptoSaid : Prop := metaTurnsUptoRow.holds Tryd.pinned (OpenSpec.upto metaTurnsSpec)

/-- 'creelkeep.MetaPlain', WHERE WHAT IT READS IS OF BULK AT MOST 1048576: true; the input reads as it did. -/
def metaPlainUptoRow : OpenClaim := { program := "ythdkfpknblinfaadoor", sum := "de28d59136ee0c675c1a91a1a6fa33bd88fc48394000d0ddfa2ac5ec3bc073b3", func := "creel/creelkeep.MetaPlain", spec := "metaPlain", named := ["creel/meta.thirds"], apart := false, laid := [("creel/meta.thirds", laid_creel_meta_thirds)], narrowed := true }
def MetaPlainUptoSaid : Prop := metaPlainUptoRow.holds Tryd.pinned (OpenSpec.upto metaPlainSpec)

end Rows
end Go.Proofs.YthdkfpknblinfaaDoor
