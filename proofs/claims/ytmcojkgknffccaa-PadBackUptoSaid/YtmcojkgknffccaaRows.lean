/-
  No cell of these rows narrows 'for every input' (looked for: loops, veiled, ifaces, maps, wideKeys, modest, calm, conditions, laid).
  DERIVED. THE GIVEN ROWS OF THIS SEAT. 5 by the template 'for every input the law returns true; each argument reads behind the call as it read before'; 0 by the template 'total and deterministic' (their statements: YtmcojkgknffccaaTotals.lean).
  GIVEN WITH THE SEED: the statements are not yours to turn. If you find one false, say at which input.
  Laid BY PROGRAM, IN A SANDBOX (cutbox-rows.mjs): the forced cells as the released guide's own fill.sh prints them over the translation e4fb9ec8ff13efba… (all of the seat's roots in one cut). By AI agents, Wed Nov 11 2026. No macro, syntax, notation, axiom, sorry.
-/
import Derived.Test.YtmcojkgknffccaaChecked
import GoSem.Claim
import GoSem.ClaimJoined
import GoSem.ClaimMapViews
import Derived.JoinedTies
import Derived.KernelRfl
namespace Go.Proofs.Ytmcojkgknffccaa
/- THE CELL 'sum', in the pinned program and in every row, IS THE sha256 OF THE DUMP (.gsa) THAT YtmcojkgknffccaaProg.lean LOADS. Nothing in Lean hashes anything: it is a label: what it is worth is what the hold of that sum in a sandbox is worth. -/
noncomputable def Try.pinned : Pinned := { name := "ytmcojkgknffccaa", sum := "e4fb9ec8ff13efba4dd509fc9e53f6819f9b5d5310cf6c6ce8c126ddc7bd5317", checked := Try.checked }
namespace Rows
def none {H : Type} : Left H := { results := [], args := [] }

/-- 'creellaw.PadFills': WHATEVER THE INPUT: true; the input reads as it did. -/
def padFillsSpec : ChangeSpec := { name := "padFills", fn := fun _ => fun
  | [d1, d2] => { results := [.lit (.bool true)], args := [d1, d2] }
  | _ => none }
def padFillsRow : OpenClaim := { program := "ytmcojkgknffccaa", sum := "e4fb9ec8ff13efba4dd509fc9e53f6819f9b5d5310cf6c6ce8c126ddc7bd5317", func := "creel/creellaw.PadFills", spec := "padFills", apart := false }
def PadFillsSaid : Prop := padFillsRow.holds Try.pinned (OpenSpec.ofChange padFillsSpec)

/-- ITS FALSE NEIGHBOUR: 'it returns false'. Refute it at one input. -/
def padFillsWrong : ChangeSpec := { name := "padFills", fn := fun _ => fun
  | [d1, d2] => { results := [.lit (.bool false)], args := [d1, d2] }
  | _ => none }
def PadFillsWrongFalsely : Prop := padFillsRow.holds Try.pinned (OpenSpec.ofChange padFillsWrong)

/-- 'creellaw.PadCuts': WHATEVER THE INPUT: true; the input reads as it did. -/
def padCutsSpec : ChangeSpec := { name := "padCuts", fn := fun _ => fun
  | [d1, d2] => { results := [.lit (.bool true)], args := [d1, d2] }
  | _ => none }
def padCutsRow : OpenClaim := { program := "ytmcojkgknffccaa", sum := "e4fb9ec8ff13efba4dd509fc9e53f6819f9b5d5310cf6c6ce8c126ddc7bd5317", func := "creel/creellaw.PadCuts", spec := "padCuts", apart := false }
def PadCutsSaid : Prop := padCutsRow.holds Try.pinned (OpenSpec.ofChange padCutsSpec)

/-- ITS FALSE NEIGHBOUR: 'it returns false'. Refute it at one input. -/
def padCutsWrong : ChangeSpec := { name := "padCuts", fn := fun _ => fun
  | [d1, d2] => { results := [.lit (.bool false)], args := [d1, d2] }
  | _ => none }
def PadCutsWrongFalsely : Prop := padCutsRow.holds Try.pinned (OpenSpec.ofChange padCutsWrong)

/-- 'creelkeep.PadBack': WHATEVER THE INPUT: true; the input reads as it did. -/
def padBackSpec : ChangeSpec := { name := "padBack", fn := fun _ => fun
  | [d1, d2] => { results := [.lit (.bool true)], args := [d1, d2] }
  | _ => none }
def padBackRow : OpenClaim := { program := "ytmcojkgknffccaa", sum := "e4fb9ec8ff13efba4dd509fc9e53f6819f9b5d5310cf6c6ce8c126ddc7bd5317", func := "creel/creelkeep.PadBack", spec := "padBack", apart := false }
def PadBackSaid : Prop := padBackRow.holds Try.pinned (OpenSpec.ofChange padBackSpec)

/-- ITS FALSE NEIGHBOUR: 'it returns false'. Refute it at one input. -/
def padBackWrong : ChangeSpec := { name := "padBack", fn := fun _ => fun
  | [d1, d2] => { results := [.lit (.bool false)], args := [d1, d2] }
  | _ => none }
def PadBackWrongFalsely : Prop := padBackRow.holds Try.pinned (OpenSpec.ofChange padBackWrong)

/-- 'creelkeep.PadFew': WHATEVER THE INPUT: true; the input reads as it did. -/
def padFewSpec : ChangeSpec := { name := "padFew", fn := fun _ => fun
  | [d1, d2] => { results := [.lit (.bool true)], args := [d1, d2] }
  | _ => none }
def padFewRow : OpenClaim := { program := "ytmcojkgknffccaa", sum := "e4fb9ec8ff13efba4dd509fc9e53f6819f9b5d5310cf6c6ce8c126ddc7bd5317", func := "creel/creelkeep.PadFew", spec := "padFew", apart := false }
def PadFewSaid : Prop := padFewRow.holds Try.pinned (OpenSpec.ofChange padFewSpec)

/-- ITS FALSE NEIGHBOUR: 'it returns false'. Refute it at one input. -/
def padFewWrong : ChangeSpec := { name := "padFew", fn := fun _ => fun
  | [d1, d2] => { results := [.lit (.bool false)], args := [d1, d2] }
  | _ => none }
def PadFewWrongFalsely : Prop := padFewRow.holds Try.pinned (OpenSpec.ofChange padFewWrong)

/-- 'creelkeep.PadStrict': WHATEVER THE INPUT: true; the input reads as it did. -/
def padStrictSpec : ChangeSpec := { name := "padStrict", fn := fun _ => fun
  | [d1, d2, d3] => { results := [.lit (.bool true)], args := [d1, d2, d3] }
  | _ => none }
def padStrictRow : OpenClaim := { program := "ytmcojkgknffccaa", sum := "e4fb9ec8ff13efba4dd509fc9e53f6819f9b5d5310cf6c6ce8c126ddc7bd5317", func := "creel/creelkeep.PadStrict", spec := "padStrict", apart := false }
def PadStrictSaid : Prop := padStrictRow.holds Try.pinned (OpenSpec.ofChange padStrictSpec)

/-- ITS FALSE NEIGHBOUR: 'it returns false'. Refute it at one input. -/
def padStrictWrong : ChangeSpec := { name := "padStrict", fn := fun _ => fun
  | [d1, d2, d3] => { results := [.lit (.bool false)], args := [d1, d2, d3] }
  | _ => none }
def PadStrictWrongFalsely : Prop := padStrictRow.holds Try.pinned (OpenSpec.ofChange padStrictWrong)

/- THE SECOND FORM. 'bulk': how many values and letters a reading holds, each counted each time it is reached (what is shared counts as often as it is met; a slice's spare places count too). A statement '..UptoSaid' is the law's where the arguments, and the package variables that the reading takes, are together of bulk at most 1048576: NARROWER than '..Said'. Prove '..Said' where nothing that the law and all that it calls make is longer than what came in: it says more and counts as full. Else prove '..UptoSaid'. A law counts once. -/
mutual
def uptoBulk {H : Type} : DataW H → Nat
  | .lit (.string bytes) => bytes.length + 1
  | .lit _ => 1
  | .nil => 1
  | .ptr d => uptoBulk d + 1
  | .slice elems spare => uptoBulkAll elems + uptoBulkAll spare + 1
  | .agg parts => uptoBulkAll parts + 1
  | .iface _ d => uptoBulk d + 1
  | .map entries => uptoBulkEntries entries + 1
  | .held _ => 1
def uptoBulkAll {H : Type} : List (DataW H) → Nat
  | [] => 0
  | d :: r => uptoBulk d + uptoBulkAll r
def uptoBulkEntries {H : Type} : List (Lit × DataW H) → Nat
  | [] => 0
  | x :: r => uptoBulkEntry x + uptoBulkEntries r
def uptoBulkEntry {H : Type} : Lit × DataW H → Nat
  | (.string bytes, d) => bytes.length + uptoBulk d + 1
  | (_, d) => uptoBulk d + 1
 end
def uptoSmall : (H : Type) → List (DataW H) → Bool := fun _ ds => decide (uptoBulkAll ds ≤ 1048576)
def OpenSpec.upto (s : _root_.Go.ChangeSpec) : _root_.Go.OpenSpec := { _root_.Go.OpenSpec.ofChange s with cond := some uptoSmall }

/-- 'creellaw.PadFills', WHERE WHAT IT READS IS OF BULK AT MOST 1048576: true; the input reads as it did. -/
def padFillsUptoRow : OpenClaim := { program := "ytmcojkgknffccaa", sum := "e4fb9ec8ff13efba4dd509fc9e53f6819f9b5d5310cf6c6ce8c126ddc7bd5317", func := "creel/creellaw.PadFills", spec := "padFills", apart := false, narrowed := true }
def PadFillsUptoSaid : Prop := padFillsUptoRow.holds Try.pinned (OpenSpec.upto padFillsSpec)

/-- 'creellaw.PadCuts', WHERE WHAT IT READS IS OF BULK AT MOST 1048576: true; the input reads as it did. -/
def padCutsUptoRow : OpenClaim := { program := "ytmcojkgknffccaa", sum := "e4fb9ec8ff13efba4dd509fc9e53f6819f9b5d5310cf6c6ce8c126ddc7bd5317", func := "creel/creellaw.PadCuts", spec := "padCuts", apart := false, narrowed := true }
def PadCutsUptoSaid : Prop := padCutsUptoRow.holds Try.pinned (OpenSpec.upto padCutsSpec)

/-- 'creelkeep.PadBack', WHERE WHAT IT READS IS OF BULK AT MOST 1048576: true; the input reads as it did. -/
def padBackUptoRow : OpenClaim := { program := "ytmcojkgknffccaa", sum := "e4fb9ec8ff13efba4dd509fc9e53f6819f9b5d5310cf6c6ce8c126ddc7bd5317", func := "creel/creelkeep.PadBack", spec := "padBack", apart := false, narrowed := true }
def PadBackUptoSaid : Prop := padBackUptoRow.holds Try.pinned (OpenSpec.upto padBackSpec)

/-- 'creelkeep.PadFew', WHERE WHAT IT READS IS OF BULK AT MOST 1048576: true; the input reads as it did. -/
def padFewUptoRow : OpenClaim := { program := "ytmcojkgknffccaa", sum := "e4fb9ec8ff13efba4dd509fc9e53f6819f9b5d5310cf6c6ce8c126ddc7bd5317", func := "creel/creelkeep.PadFew", spec := "padFew", apart := false, narrowed := true }
def PadFewUptoSaid : Prop := padFewUptoRow.holds Try.pinned (OpenSpec.upto padFewSpec)

/-- 'creelkeep.PadStrict', WHERE WHAT IT READS IS OF BULK AT MOST 1048576: true; the input reads as it did. -/
def padStrictUptoRow : OpenClaim := { program := "ytmcojkgknffccaa", sum := "e4fb9ec8ff13efba4dd509fc9e53f6819f9b5d5310cf6c6ce8c126ddc7bd5317", func := "creel/creelkeep.PadStrict", spec := "padStrict", apart := false, narrowed := true }
def PadStrictUptoSaid : Prop := padStrictUptoRow.holds Try.pinned (OpenSpec.upto padStrictSpec)

end Rows
end Go.Proofs.Ytmcojkgknffccaa
