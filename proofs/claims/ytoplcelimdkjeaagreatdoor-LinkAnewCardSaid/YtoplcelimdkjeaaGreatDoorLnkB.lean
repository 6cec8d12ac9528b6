/- The reference's LinkAnew. -/
import Derived.Test.YtoplcelimdkjeaaGreatDoorLnkA
set_option linter.unusedVariables false
set_option maxRecDepth 100000
namespace Go.Proofs.YtoplcelimdkjeaaGreatDoor
open Go.RowKit
open Go.OpenShut
theorem rowN_same (xs : List NodP) (j : Nat) (z : Int) (hj : j < xs.length) : (rowN xs).set (j * 12 + 2) (.int .i64 z) = rowN (xs.set j ({ xs[j].1 with same := z }, xs[j].2)) := by
  induction xs generalizing j with
  | nil => simp at hj
  | cons x xs ih =>
    have e : ∀ (y : NodP) (ys : List NodP), rowN (y :: ys) = nodV y.1 y.2 ++ rowN ys := fun _ _ => rfl
    rw [e]
    cases j with
    | zero =>
      rw [Nat.zero_mul, Nat.zero_add, List.set_append_left _ _ (by rw [nodV_length]; omega)]
      simp only [List.getElem_cons_zero, List.set_cons_zero]
      rw [e]; rfl
    | succ j =>
      rw [List.set_append_right _ _ (by rw [nodV_length]; omega), nodV_length, show (j + 1) * 12 + 2 - 12 = j * 12 + 2 by omega]
      simp only [List.getElem_cons_succ, List.set_cons_succ]
      rw [ih j (by simpa using hj), e]
/-- writing the hard link of the j-th node -/
theorem OwnN.setSame {w : World} {B g cap n : Nat} {xs : List NodP} (h : OwnN w B (.slice (some ⟨g, 0, none⟩) n cap) xs) (hn : n = xs.length) (j : Nat) (hj : j < xs.length) (z : Int) :
    OwnN (w.setCell ⟨g, j * 12 + 2, none⟩ (.int .i64 z)) B (.slice (some ⟨g, 0, none⟩) n cap) (xs.set j ({ xs[j].1 with same := z }, xs[j].2)) := by
  subst hn
  have hr := h.1
  unfold RowN at hr
  obtain ⟨h1, h2⟩ := World.ownsRow.stored hr (j * 12 + 2) (.int .i64 z)
  rw [rowN_same xs j z hj] at h1
  refine ⟨by unfold RowN; rw [List.length_set]; exact h1, fun x hx => ?_⟩
  rcases List.mem_or_eq_of_mem_set hx with hx | rfl
  · exact (h.2 x hx).grown h2 fun g e e2 => own_apart (h.2 x hx) h.1 g e e2
  · exact (h.2 _ (List.getElem_mem hj)).grown h2 fun g e e2 => own_apart (h.2 _ (List.getElem_mem hj)) h.1 g e e2
theorem OwnN.same_cell {w : World} {B g cap n : Nat} {xs : List NodP} (h : OwnN w B (.slice (some ⟨g, 0, none⟩) n cap) xs) (hn : n = xs.length) (j : Nat) (hj : j < xs.length) :
    w.cell? ⟨g, j * 12 + 2, none⟩ = some (.int .i64 xs[j].1.same) ∧ w.frozen? ⟨g, j * 12 + 2, none⟩ = false := by
  subst hn
  have hr := h.1
  unfold RowN at hr
  refine ⟨?_, World.ownsRow.frozenAt hr _⟩
  rw [World.ownsRow.cellAt hr (j * 12 + 2) (by omega), rowN_get xs j 2 hj (by omega)]; rfl
theorem mix_step {α : Type} (a l : List α) (i : Nat) (ha : i < a.length) (hl : a.length = l.length) : (a.take i ++ l.drop i).set i a[i] = a.take (i + 1) ++ l.drop (i + 1) := by
  rw [List.set_append_right _ _ (by rw [List.length_take]; omega), List.length_take, Nat.min_eq_left (by omega), Nat.sub_self, List.drop_eq_getElem_cons (by omega), List.set_cons_zero, List.take_succ_eq_append_getElem ha, List.append_assoc]; rfl
theorem mix_get {α : Type} (a l : List α) (i : Nat) (ha : i < a.length) (hl : a.length = l.length) (h : i < (a.take i ++ l.drop i).length) : (a.take i ++ l.drop i)[i] = l[i] := by
  rw [List.getElem_append_right (by rw [List.length_take]; omega)]
  simp only [List.getElem_drop, List.length_take]
  congr 1; omega
/-- the nodes ys, the i-th being numbered anew -/
theorem anew_mix {l : List NodeV} {ys : List NodP} {i : Nat} (hi : i < l.length) (hy : ys.map (·.1) = (anewF l).take i ++ l.drop i) (hyi : i < ys.length) : ys[i].1 = l[i] ∧ ∀ d, (ys.set i (anewN l i l[i], d)).map (·.1) = (anewF l).take (i + 1) ++ l.drop (i + 1) := by
  have hl := anewF_len l
  constructor
  · have h1 : (ys.map (·.1))[i]'(by rw [List.length_map]; exact hyi) = l[i] := by
      simp only [hy]
      exact mix_get _ _ _ (by omega) hl _
    rwa [List.getElem_map] at h1
  · intro d
    rw [List.map_set, hy, ← anewF_at l i hi]
    exact mix_step _ _ _ (by omega) hl
theorem anew_len {l : List NodeV} {ys : List NodP} {i n : Nat} (hn : l.length = n) (hi : i ≤ n) (hy : ys.map (·.1) = (anewF l).take i ++ l.drop i) : ys.length = n := by
  have := congrArg List.length hy
  rw [List.length_map, List.length_append, List.length_take, List.length_drop, anewF_len] at this
  omega
theorem fsL_cell {W : World} {A : Option Addr} {l : List NodeV} (h : NumsAt W A (fsL l)) (i : Nat) (hi : i < l.length) : ∃ b o, A = some ⟨b, o, none⟩ ∧ W.cell? ⟨b, o + i, none⟩ = some (.int .i64 ((firstF l i : Nat) : Int)) := by
  obtain ⟨b, o, e, h1⟩ := h i (by rw [fsL_len]; exact hi)
  refine ⟨b, o, e, h1.trans ?_⟩
  congr 2
  unfold fsL
  rw [List.getElem_map, List.getElem_range]
theorem nmL_cell {W : World} {A : Option Addr} {l : List NodeV} (h : NumsAt W A (nmL l)) (i : Nat) (hi : i < l.length) : ∃ b o, A = some ⟨b, o, none⟩ ∧ W.cell? ⟨b, o + i, none⟩ = some (.int .i64 ((namesF l i : Nat) : Int)) := by
  obtain ⟨b, o, e, h1⟩ := h i (by rw [nmL_len]; exact hi)
  refine ⟨b, o, e, h1.trans ?_⟩
  congr 2
  unfold nmL
  rw [List.getElem_map, List.getElem_range]
end Go.Proofs.YtoplcelimdkjeaaGreatDoor
