/- The reference's OrderNames, OrderWalk and OrderDepth. -/
import Derived.Test.YtdcbmjihpjnbbaaDoorMth
import Derived.Test.YtdcbmjihpjnbbaaDoorNod
import Derived.Test.YtdcbmjihpjnbbaaDoorSpl
import Derived.Test.YtdcbmjihpjnbbaaDoorTrgE
import Derived.Deep.DeepCutAuto
set_option linter.unusedVariables false
set_option maxRecDepth 100000
namespace Go.Proofs.YtdcbmjihpjnbbaaDoor
open Go.RowKit
open Go.OpenShut
theorem Texts.alloc {w : World} {B : Nat} {v : Value} {ls : List (List UInt8)} (h : Texts w B v ls) (o : Obj) : Texts (w.alloc o) B v ls := h.below (belowA (Below.refl _ _) o)
theorem Texts.above {w : World} {B : Nat} {v : Value} {ls : List (List UInt8)} (h : Texts w B v ls) : ∀ g, v.ownBlock = some g → B ≤ g := fun g e => (World.ownsRow.lt h g e).1
/-- append of a string to a row of strings of the call's own -/
theorem append_text {w : World} {ops : Array Oper} {rest : List Oper} {o : Oper} {a : Act} {Q : Exit → Act → World → Prop} (hgd : o.guard = none) (s x : Operand)
    (ho : o.op = .call { callee := .builtin .append, args := #[s, x], argTypes := #[34, 34] }) (B : Nat) (v : Value) (ls : List (List UInt8)) (hs : a.eval s = v) (hown : Texts w B v ls)
    (g0 : Nat) (p : List UInt8) (hx : a.eval x = .slice (some ⟨g0, 0, none⟩) 1 1) (hA : w.cell? ⟨g0, 0, none⟩ = some (strV p)) (hbig : (ls.length + 1) * 16 ≤ 140737488355328) (hB : B ≤ w.heap.size)
    (h : ∀ v' w', Texts w' B v' (ls ++ [p]) → w.grownBy w' v.ownBlock → wpList Tryd.prog ops Q rest (a.put o.dst v') w') : wpList Tryd.prog ops Q (o :: rest) a w := by
  obtain ⟨i0, hi, hz0, hz1, hz2⟩ := info_parts info_str
  refine wpList_append_own _ hgd s x 34 ho B 9 i0 _ 1 16 Tryd.underlying34 hi hz0 hz1 hz2 rfl (by decide) v _ _ hs hown ⟨g0, 0, none⟩ 1 1 [strV p] hx rfl ?_ ?_ (by unfold maxLen; omega) hbig hB ?_
  · intro j u hu
    cases j with
    | zero => injection hu with hu; subst hu; exact hA
    | succ j => simp at hu
  · intro u hu; obtain rfl : u = strV p := by simpa using hu
    rfl
  · intro v6 w6 hown6 hgrow _
    exact h v6 w6 (by unfold Texts; rw [List.length_append, strC_app]; exact hown6) hgrow
/-- what Names says of a directory -/
def namesE (t : List NodeV) (d : List UInt8) : Int :=
  if treeE t ≠ 0 then treeE t else if d = [] then 0 else match t[findL t d]? with | none => 5 | some x => if x.kind = 2 then 0 else 10
def namesR (t : List NodeV) (d : List UInt8) : List (List UInt8) := if namesE t d = 0 then namesT t d else []
def walkR (t : List NodeV) : List (List UInt8) := if treeE t = 0 then t.map (·.path) else []
def deepT (t : List NodeV) : Nat := t.foldl (fun m x => max m (partsL 47 x.path).length) 0
def deepR (t : List NodeV) : Nat := if treeE t = 0 then deepT t else 0
end Go.Proofs.YtdcbmjihpjnbbaaDoor
