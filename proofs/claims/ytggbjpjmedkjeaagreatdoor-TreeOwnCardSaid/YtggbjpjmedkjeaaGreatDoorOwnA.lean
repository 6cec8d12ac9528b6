/- Rows of nodes of the call's own whose data and paths are written. -/
import Derived.Test.YtggbjpjmedkjeaaGreatDoorKep
import Derived.Test.YtggbjpjmedkjeaaGreatDoorOwnM
set_option linter.unusedVariables false
set_option maxRecDepth 100000
namespace Go.Proofs.YtggbjpjmedkjeaaGreatDoor
open Go.RowKit
open Go.OpenShut
theorem xor_all : ∀ c : Fin 256, bits .xor .u8 (c.val : Int) 255 = ((255 - c.val : Nat) : Int) := by decide +kernel
theorem xor_u8 (c : UInt8) : ∃ c' : UInt8, bits .xor .u8 (c.toNat : Int) 255 = (c'.toNat : Int) := by
  have h := xor_all ⟨c.toNat, c.toNat_lt⟩
  refine ⟨UInt8.ofNat (255 - c.toNat), ?_⟩
  simp only at h
  rw [h, UInt8.toNat_ofNat']
  congr 1
  have := c.toNat_lt
  omega
theorem OwnB.row {w : World} {B : Nat} {v : Value} {l : List UInt8} (h : OwnB w B v l) (hl : 0 < l.length) : ∃ g cap, v = .slice (some ⟨g, 0, none⟩) l.length cap ∧ B ≤ g ∧ g < w.heap.size ∧ l.length ≤ cap ∧ cap ≤ maxLen := by
  have h' := h
  unfold OwnB World.ownsRow at h
  rcases h.2 with ⟨rfl, h0⟩ | ⟨g, cap, cur, rfl, hB, hg, hcap, hm, hs, ht⟩
  · omega
  · exact ⟨g, cap, rfl, hB, (World.ownsRow.lt h' g rfl).2, hcap, hm⟩
theorem OwnB.poke {w : World} {B : Nat} {v : Value} {l : List UInt8} (h : OwnB w B v l) (g j : Nat) (c : UInt8) : ∃ l', l'.length = l.length ∧ OwnB (w.setCell ⟨g, j, none⟩ (.int .u8 (c.toNat : Int))) B v l' := by
  by_cases hv : v.ownBlock = some g
  · have h' := h
    unfold OwnB World.ownsRow at h
    rcases h.2 with ⟨rfl, h0⟩ | ⟨g', cap, cur, rfl, hB, hg, hcap, hm, hs, ht⟩
    · cases hv
    · have e : g' = g := by simpa [Value.ownBlock] using hv
      subst e
      refine ⟨l.set j c, List.length_set, ?_⟩
      have h2 := (World.ownsRow.stored h' j (.int .u8 (c.toNat : Int))).1
      unfold OwnB
      rw [bCells_set] at h2
      rw [List.length_set]; exact h2
  · refine ⟨l, rfl, own_heap h fun g' e => ?_⟩
    exact heap_setCell_other w ⟨g, j, none⟩ g' _ (fun e2 => hv (by rw [e, e2]))
/-- the path of the j-th node is written -/
theorem rowN_setP (xs : List NodP) (j : Nat) (p : List UInt8) (hj : j < xs.length) : (rowN xs).set (j * 12) (.string (bs p)) = rowN (xs.set j ({ xs[j].1 with path := p }, xs[j].2)) := by
  induction xs generalizing j with
  | nil => simp at hj
  | cons x xs ih =>
    have e : ∀ (y : NodP) (ys : List NodP), rowN (y :: ys) = nodV y.1 y.2 ++ rowN ys := fun _ _ => rfl
    rw [e]
    cases j with
    | zero =>
      rw [Nat.zero_mul, List.set_append_left _ _ (by rw [nodV_length]; omega)]
      simp only [List.getElem_cons_zero, List.set_cons_zero]
      rw [e]; rfl
    | succ j =>
      rw [List.set_append_right _ _ (by rw [nodV_length]; omega), nodV_length, show (j + 1) * 12 - 12 = j * 12 by omega]
      simp only [List.getElem_cons_succ, List.set_cons_succ]
      rw [ih j (by simpa using hj), e]
/-- a row of nodes whose data are bytes of the call's own, whatever they are -/
def XS (w0 W : World) (B g cap n : Nat) (xs : List NodP) : Prop :=
  RowN W B (.slice (some ⟨g, 0, none⟩) n cap) xs ∧ xs.length = n ∧ (∀ y ∈ xs, ∃ l', l'.length = y.1.data.length ∧ OwnB W B y.2 l') ∧ Below w0.heap.size w0 W ∧ w0.heap.size ≤ B
theorem OwnN.xs {w W : World} {g cap n : Nat} {xs : List NodP} (h : OwnN W w.heap.size (.slice (some ⟨g, 0, none⟩) n cap) xs) (hn : xs.length = n) (hb : Below w.heap.size w W) : XS w W w.heap.size g cap n xs :=
  ⟨h.1, hn, fun y hy => ⟨y.1.data, rfl, h.2 y hy⟩, hb, Nat.le_refl _⟩
theorem XS.poke {w0 W : World} {B g cap n : Nat} {xs : List NodP} (h : XS w0 W B g cap n xs) {k : Nat} (hk : k < xs.length) {gd : Nat} {m cd : Nat} (hv : xs[k].2 = .slice (some ⟨gd, 0, none⟩) m cd) (j : Nat) (c : UInt8) :
    XS w0 (W.setCell ⟨gd, j, none⟩ (.int .u8 (c.toNat : Int))) B g cap n xs := by
  obtain ⟨h1, h2, h3, h4, h5⟩ := h
  obtain ⟨l0, -, hO⟩ := h3 _ (List.getElem_mem hk)
  have hgd : xs[k].2.ownBlock = some gd := by rw [hv]; rfl
  have hne : gd ≠ g := by
    rintro rfl
    exact own_apart hO h1 gd hgd rfl
  have hB := (World.ownsRow.lt hO gd hgd).1
  refine ⟨own_heap h1 fun g' e => ?_, h2, fun y hy => ?_, Below.set1 h4 (Nat.le_trans h5 hB) _ _, h5⟩
  · have e' : g = g' := by simpa [Value.ownBlock] using e
    subst e'
    exact heap_setCell_other W ⟨gd, j, none⟩ g _ (fun e2 => hne e2.symm)
  · obtain ⟨l1, h6, h7⟩ := h3 y hy
    obtain ⟨l2, h8, h9⟩ := h7.poke gd j c
    exact ⟨l2, by rw [h8, h6], h9⟩
theorem XS.path {w0 W : World} {B g cap n : Nat} {xs : List NodP} (h : XS w0 W B g cap n xs) {k : Nat} (hk : k < xs.length) (p : List UInt8) :
    XS w0 (W.setCell ⟨g, k * 12, none⟩ (.string (bs p))) B g cap n (xs.set k ({ xs[k].1 with path := p }, xs[k].2)) := by
  obtain ⟨h1, h2, h3, h4, h5⟩ := h
  have hgB := h1.above g rfl
  have hst := World.ownsRow.stored (by unfold RowN at h1; rw [h2] at h1; exact h1) (k * 12) (.string (bs p))
  rw [rowN_setP xs k p hk] at hst
  refine ⟨by unfold RowN; rw [List.length_set, h2]; exact hst.1, by rw [List.length_set]; exact h2, fun y hy => ?_, Below.set1 h4 (Nat.le_trans h5 hgB) _ _, h5⟩
  have key : ∀ z ∈ xs, ∃ l', l'.length = z.1.data.length ∧ OwnB (W.setCell ⟨g, k * 12, none⟩ (.string (bs p))) B z.2 l' := fun z hz => by
    obtain ⟨l', e, hO⟩ := h3 z hz
    exact ⟨l', e, hO.grown hst.2 fun g' e1 e2 => own_apart hO h1 g' e1 e2⟩
  rcases List.mem_or_eq_of_mem_set hy with a | a
  · exact key y a
  · have h9 := key xs[k] (List.getElem_mem hk)
    rw [a]; exact h9
/-- a byte of the k-th node's data -/
theorem XS.byte {w0 W : World} {B g cap n : Nat} {xs : List NodP} (h : XS w0 W B g cap n xs) {k : Nat} (hk : k < xs.length) {j : Nat} (hj : j < xs[k].1.data.length) :
    ∃ (gd cd : Nat) (c : UInt8), xs[k].2 = .slice (some ⟨gd, 0, none⟩) xs[k].1.data.length cd ∧ W.cell? ⟨gd, j, none⟩ = some (.int .u8 (c.toNat : Int)) ∧ W.frozen? ⟨gd, j, none⟩ = false ∧ xs[k].1.data.length ≤ cd ∧ cd ≤ maxLen := by
  obtain ⟨h1, h2, h3, h4, h5⟩ := h
  obtain ⟨l, e, hO⟩ := h3 _ (List.getElem_mem hk)
  obtain ⟨gd, cd, hv, -, -, hc1, hc2⟩ := hO.row (by omega)
  have hO' := hO
  rw [hv] at hO'
  unfold OwnB at hO'
  refine ⟨gd, cd, l[j]'(by omega), by rw [hv, e], ?_, World.ownsRow.frozenAt hO' j, by omega, hc2⟩
  rw [World.ownsRow.cellAt hO' j (by omega), bCells_get l j (by omega)]; simp [bInts, show j < l.length by omega]
theorem XS.form {w0 W : World} {B g cap n : Nat} {xs : List NodP} (h : XS w0 W B g cap n xs) {k : Nat} (hk : k < xs.length) : ∃ (A : Option Addr) (c : Nat), xs[k].2 = .slice A xs[k].1.data.length c := by
  obtain ⟨l, e, hO⟩ := h.2.2.1 _ (List.getElem_mem hk)
  obtain ⟨A, c, hv, -⟩ := hO.form
  exact ⟨A, c, by rw [hv, e]⟩
end Go.Proofs.YtggbjpjmedkjeaaGreatDoor
