/- Contracts of the reference's parts of a text. -/
import Derived.Test.YtoplcelimdkjeaaGreatDoorMth
import Derived.Test.YtoplcelimdkjeaaGreatDoorPthA
import Derived.WalkSmall
import Derived.Below
import Derived.Laws.OwnMore
import Derived.Laws.AppendOwn
import Derived.Deep.AppendLies
import Derived.StillTailTactics
import Derived.OwnWalk
set_option linter.unusedVariables false
set_option maxRecDepth 100000
namespace Go.Proofs.YtoplcelimdkjeaaGreatDoor
open Go.RowKit
open Go.OpenShut
theorem drewN_below {B : Nat} {a w : World} (h : Below B a w) (n : Nat) : Below B a (w.drewN n) := ⟨h.os, h.tape, h.output, h.size, h.block⟩
theorem info_str : (Tryz.prog.info? 9).map (fun i => (i.zero, i.size, i.bytes)) = some (some (.string ⟨#[]⟩), 1, 16) := by kernel_rfl
/-- the slice value v is a list of texts, of the call's own from block B on -/
def Texts (w : World) (B : Nat) (v : Value) (ls : List (List UInt8)) : Prop := w.ownsRow B 9 1 v ls.length (strC ls)
theorem Texts.form {w : World} {B : Nat} {v : Value} {ls : List (List UInt8)} (h : Texts w B v ls) (hn : 1 ≤ ls.length) : ∃ g cap, v = .slice (some ⟨g, 0, none⟩) ls.length cap ∧ B ≤ g ∧ g < w.heap.size := World.ownsRow.form h hn
theorem Texts.cell {w : World} {B g cap n : Nat} {ls : List (List UInt8)} (h : Texts w B (.slice (some ⟨g, 0, none⟩) n cap) ls) (hn : ls.length = n) (j : Nat) (hj : j < n) : w.cell? ⟨g, j, none⟩ = some (strV (ls.getD j [])) := by
  subst hn
  unfold Texts at h
  rw [h.cellAt j (by omega), strC_get _ _ hj]
theorem grown_below {a w : World} (h : Below a.heap.size a w) (row : Option Nat) : a.grownBy w row := ⟨h.os, h.tape, h.output, h.size, fun i hi _ => h.block i hi⟩
theorem Texts.below {w w' : World} {B : Nat} {v : Value} {ls : List (List UInt8)} (h : Texts w B v ls) (hb : Below w.heap.size w w') : Texts w' B v ls :=
  World.ownsRow.kept h (grown_below hb none) (by
    by_cases e : v.ownBlock = none
    · exact .inl e
    · exact .inr e)
theorem Texts.drewN {w : World} {B : Nat} {v : Value} {ls : List (List UInt8)} (h : Texts w B v ls) (n : Nat) : Texts (w.drewN n) B v ls := h.below (drewN_below (Below.refl _ _) n)
theorem Texts.nil (w : World) (B : Nat) : Texts w B (.slice none 0 0) [] := World.ownsRow_nil w B 9 1
theorem Texts.any {w : World} {B : Nat} {v : Value} {ls : List (List UInt8)} (h : Texts w B v ls) : ∃ A cap, v = .slice A ls.length cap ∧ (∀ j, j < ls.length → ∃ g, A = some ⟨g, 0, none⟩ ∧ B ≤ g ∧ g < w.heap.size ∧ w.cell? ⟨g, j, none⟩ = some (strV (ls.getD j []))) := by
  by_cases hn : 1 ≤ ls.length
  · obtain ⟨g, cap, rfl, hB, hlt⟩ := h.form hn
    exact ⟨_, cap, rfl, fun j hj => ⟨g, rfl, hB, hlt, h.cell rfl j hj⟩⟩
  · have h0 : ls.length = 0 := by omega
    have h' := h
    unfold Texts World.ownsRow at h'
    rcases h'.2 with ⟨rfl, _⟩ | ⟨g, cap, cur, rfl, _⟩
    · exact ⟨none, 0, by rw [h0], fun j hj => by omega⟩
    · exact ⟨_, cap, rfl, fun j hj => by omega⟩
end Go.Proofs.YtoplcelimdkjeaaGreatDoor
