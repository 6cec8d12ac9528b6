/- Package pax: Read; the reference's. -/
import Derived.Test.YtepjdiocicmjcaaDoorPaxD
import Derived.OwnWalk
set_option linter.unusedVariables false
set_option maxRecDepth 100000
namespace Go.Proofs.YtepjdiocicmjcaaDoor
open Go.RowKit
open Go.OpenShut
/-- a list of records, cell by cell -/
def recC (l : List Rc) : List Value := l.flatMap fun r => [.string (bs r.1), .string (bs r.2)]
theorem recC_length (l : List Rc) : (recC l).length = l.length * 2 := by
  induction l with
  | nil => rfl
  | cons x l ih => unfold recC at *; simp only [List.flatMap_cons, List.length_append, List.length_cons, List.length_nil] at *; omega
theorem recC_app (a b : List Rc) : recC (a ++ b) = recC a ++ recC b := by simp [recC]
theorem recC_one (r : Rc) : recC [r] = [.string (bs r.1), .string (bs r.2)] := rfl
theorem recC_get (l : List Rc) (j : Nat) (h : j < l.length) : (recC l)[j * 2]? = some (.string (bs l[j].1)) ∧ (recC l)[j * 2 + 1]? = some (.string (bs l[j].2)) := by
  induction l generalizing j with
  | nil => cases h
  | cons x l ih =>
    have e : recC (x :: l) = .string (bs x.1) :: .string (bs x.2) :: recC l := rfl
    rw [e]
    cases j with
    | zero => exact ⟨rfl, rfl⟩
    | succ j =>
      have hj : j < l.length := by simpa using h
      have := ih j hj
      rw [show (j + 1) * 2 = j * 2 + 2 by omega]
      simpa using this
/-- a list of records of the call's own -/
def Own (w : World) (B : Nat) (v : Value) (n : Nat) (l : List Rc) : Prop := l.length = n ∧ w.ownsRow B 39 2 v n (recC l)
theorem Own.at {w : World} {B n c : Nat} {A : Option Addr} {l : List Rc} (h : Own w B (.slice A n c) n l) : RecsAt w A l := fun j hj => by
  obtain ⟨hl, ho⟩ := h
  have hb := ho.2
  rcases hb with ⟨e, h0⟩ | ⟨g, cap, cur, e, -⟩
  · omega
  · injection e with e1 e2 e3
    subst e1 e3
    refine ⟨g, 0, rfl, ?_, ?_⟩
    · rw [Nat.zero_add, ho.cellAt (j * 2) (by omega), (recC_get l j hj).1]
    · rw [Nat.zero_add, ho.cellAt (j * 2 + 1) (by omega), (recC_get l j hj).2]
theorem Own.nil (w : World) (B : Nat) : Own w B (.slice none 0 0) 0 [] := ⟨rfl, World.ownsRow_nil _ _ _ _⟩
theorem Own.below {w w' : World} {B : Nat} {v : Value} {n : Nat} {l : List Rc} (h : Own w B v n l) (hb : Below w.heap.size w w') : Own w' B v n l := by
  refine ⟨h.1, own_heap h.2 fun g hg => ?_⟩
  obtain ⟨-, cur, hc⟩ := own_block h.2 g hg
  refine hb.block g ?_
  rcases Nat.lt_or_ge g w.heap.size with h1 | h1
  · exact h1
  · rw [Array.getElem?_eq_none h1] at hc; cases hc
theorem Own.alloc {w : World} {B : Nat} {v : Value} {n : Nat} {l : List Rc} (h : Own w B v n l) (o : Obj) : Own (w.alloc o) B v n l := h.below ((Below.refl _ _).alloc (Nat.le_refl _) o)
/-- the form of an own list -/
theorem Own.form {w : World} {B : Nat} {v : Value} {n : Nat} {l : List Rc} (h : Own w B v n l) : ∃ A c, v = .slice A n c := by
  rcases h.2.2 with ⟨e, h0⟩ | ⟨g, cap, cur, e, -⟩
  · exact ⟨none, 0, by rw [e, h0]⟩
  · exact ⟨_, _, e⟩
theorem Own.above {w : World} {B : Nat} {v : Value} {n : Nat} {l : List Rc} (h : Own w B v n l) : ∀ g0, v.ownBlock = some g0 → B ≤ g0 := fun g0 e => (own_block h.2 g0 e).1
theorem szR_of {l : List Rc} (h : ∀ r ∈ l, chkR r.1 r.2 = 0) : SzR l := fun r hr => by
  obtain ⟨-, h1, h2, -⟩ := chkR_of (h r hr)
  omega
theorem info_rec : (Tryd.prog.info? 39).map (fun i => (i.zero, i.size, i.bytes)) = some (some (.agg #[.string ⟨#[]⟩, .string ⟨#[]⟩]), 2, 32) := by kernel_rfl
theorem str_ne {s : ByteArray} (h : s.size ≠ 0) : s.toList.isEmpty = false := str_some h
theorem list_ne {s : ByteArray} (h : s.size ≠ 0) : s.data.toList ≠ [] := fun e => h (by rw [← sz_list, e]; rfl)
theorem own_push {w6 : World} {B n g' cap' : Nat} {l : List Rc} {r : Rc} (h : l.length = n)
    (hown : w6.ownsRow B 39 2 (.slice (some ⟨g', 0, none⟩) (n + 1) cap') (n + 1) (recC l ++ [.string (bs r.1), .string (bs r.2)])) : Own w6 B (.slice (some ⟨g', 0, none⟩) (n + 1) cap') (n + 1) (l ++ [r]) :=
  ⟨by rw [List.length_append, h]; rfl, by rw [recC_app, recC_one]; exact hown⟩
theorem ok_push {a : List Rc} {r : Rc} (h : ∀ x ∈ a, chkR x.1 x.2 = 0) (hr : chkR r.1 r.2 = 0) : ∀ x ∈ a ++ [r], chkR x.1 x.2 = 0 := fun x hx => by
  rcases List.mem_append.1 hx with h1 | h1
  · exact h x h1
  · obtain rfl : x = r := by simpa using h1
    exact hr
end Go.Proofs.YtepjdiocicmjcaaDoor
