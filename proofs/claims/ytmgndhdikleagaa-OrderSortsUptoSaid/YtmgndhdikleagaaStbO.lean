/- Sorting in place a row of nodes of the call's own: what a swap of two nodes does to the row and to all else. -/
import Derived.Test.YtmgndhdikleagaaStbN
import Derived.Test.YtmgndhdikleagaaTrgK
set_option linter.unusedVariables false
set_option maxRecDepth 100000
namespace Go.Proofs.Ytmgndhdikleagaa
open Go.RowKit
open Go.OpenShut
def swX (xs : List NodP) (i j : Nat) : List NodP := if h : i < xs.length ∧ j < xs.length then (xs.set i xs[j]).set j xs[i] else xs
theorem swX_len (xs : List NodP) (i j : Nat) : (swX xs i j).length = xs.length := by unfold swX; split <;> simp
theorem swX_map (xs : List NodP) (i j : Nat) : (swX xs i j).map (·.1) = swT (xs.map (·.1)) i j := by
  unfold swX swT
  by_cases h : i < xs.length ∧ j < xs.length
  · rw [dif_pos h, dif_pos (by simpa using h), List.map_set, List.map_set, List.getElem_map, List.getElem_map]
  · rw [dif_neg h, dif_neg (by simpa using h)]
theorem swX_mem {xs : List NodP} {i j : Nat} {y : NodP} (h : y ∈ swX xs i j) : y ∈ xs := by
  unfold swX at h
  split at h
  · rcases List.mem_or_eq_of_mem_set h with h | rfl
    · rcases List.mem_or_eq_of_mem_set h with h | rfl
      · exact h
      · exact List.getElem_mem _
    · exact List.getElem_mem _
  · exact h
theorem grown_set1 (W : World) (g i : Nat) (v : Value) : W.grownBy (W.setCell ⟨g, i, none⟩ v) (some g) :=
  ⟨rfl, rfl, rfl, Below.size (Below.setCell (Below.refl 0 W) (p := ⟨g, i, none⟩) (Nat.zero_le _) v), fun k _ hk => Below.heap_setCell _ _ _ k (fun e => hk (by rw [e]))⟩
theorem grown_many {g : Nat} (vs : List Value) : ∀ (W : World) (o : Nat), W.grownBy (W.setCells g o vs) (some g) := by
  induction vs with
  | nil => intro W o; exact ⟨rfl, rfl, rfl, Nat.le_refl _, fun _ _ _ => rfl⟩
  | cons v vs ih => intro W o; exact (grown_set1 W g o v).trans (ih _ _)
/-- the row holds the nodes xs, all of them of xs0, and all else is as it was -/
def SrtS (w0 : World) (B g n cap : Nat) (xs0 xs : List NodP) (W : World) : Prop := RowN W B (.slice (some ⟨g, 0, none⟩) n cap) xs ∧ xs.length = n ∧ w0.grownBy W (some g) ∧ ∀ y ∈ xs, y ∈ xs0
theorem SrtS.start {w : World} {B g n cap : Nat} {xs : List NodP} (h : RowN w B (.slice (some ⟨g, 0, none⟩) n cap) xs) (hn : xs.length = n) : SrtS w B g n cap xs xs w := ⟨h, hn, ⟨rfl, rfl, rfl, Nat.le_refl _, fun _ _ _ => rfl⟩, fun _ h => h⟩
theorem SrtS.below {w0 W W' : World} {B g n cap : Nat} {xs0 xs : List NodP} (h : SrtS w0 B g n cap xs0 xs W) (hb : Below W.heap.size W W') : SrtS w0 B g n cap xs0 xs W' := ⟨h.1.below hb, h.2.1, h.2.2.1.trans (grown_below hb _), h.2.2.2⟩
theorem SrtS.drew {w0 W : World} {B g n cap : Nat} {xs0 xs : List NodP} (h : SrtS w0 B g n cap xs0 xs W) : SrtS w0 B g n cap xs0 xs W.drew := h.below (Below.drew (Below.refl _ _))
theorem SrtS.drewN {w0 W : World} {B g n cap q : Nat} {xs0 xs : List NodP} (h : SrtS w0 B g n cap xs0 xs W) : SrtS w0 B g n cap xs0 xs (W.drewN q) := h.below (below_drewN (Below.refl _ _) q)
theorem SrtS.trans {w0 W1 W2 : World} {B g n cap : Nat} {xs0 xs1 xs2 : List NodP} (h : SrtS w0 B g n cap xs0 xs1 W1) (k : SrtS W1 B g n cap xs1 xs2 W2) : SrtS w0 B g n cap xs0 xs2 W2 := ⟨k.1, k.2.1, h.2.2.1.trans k.2.2.1, fun y hy => h.2.2.2 y (k.2.2.2 y hy)⟩
theorem SrtS.len {w0 W : World} {B g n cap : Nat} {xs0 xs : List NodP} (h : SrtS w0 B g n cap xs0 xs W) : xs.length = n := h.2.1
theorem SrtS.set {w0 W : World} {B g n cap : Nat} {xs0 xs : List NodP} (h : SrtS w0 B g n cap xs0 xs W) (i : Nat) (hi : i < n) (y : NodP) (hy : y ∈ xs0) : SrtS w0 B g n cap xs0 (xs.set i y) (W.setCells g (i * 12) (nodV y.1 y.2)) :=
  ⟨h.1.setNode h.2.1 i (by rw [h.2.1]; exact hi) y, by rw [List.length_set]; exact h.2.1, h.2.2.1.trans (grown_many _ _ _), fun z hz => by
    rcases List.mem_or_eq_of_mem_set hz with a | rfl
    · exact h.2.2.2 z a
    · exact hy⟩
theorem SrtS.swap {w0 W : World} {B g n cap : Nat} {xs0 xs : List NodP} (h : SrtS w0 B g n cap xs0 xs W) (i j : Nat) (hi : i < n) (hj : j < n) (hi' : i < xs.length) (hj' : j < xs.length) :
    SrtS w0 B g n cap xs0 (swX xs i j) ((W.setCells g (i * 12) (nodV (xs[j]'hj').1 (xs[j]'hj').2)).setCells g (j * 12) (nodV (xs[i]'hi').1 (xs[i]'hi').2)) := by
  have h1 := h.set i hi (xs[j]'hj') (h.2.2.2 _ (List.getElem_mem _))
  have h2 := h1.set j hj (xs[i]'hi') (h.2.2.2 _ (List.getElem_mem _))
  have e : swX xs i j = (xs.set i (xs[j]'hj')).set j (xs[i]'hi') := by unfold swX; rw [dif_pos ⟨hi', hj'⟩]
  rw [e]; exact h2
theorem SrtS.at {w0 W : World} {B g n cap : Nat} {xs0 xs : List NodP} (h : SrtS w0 B g n cap xs0 xs W) : B ≤ g ∧ g < W.heap.size := World.ownsRow.lt h.1 g rfl
end Go.Proofs.Ytmgndhdikleagaa
