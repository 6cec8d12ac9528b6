/- The reference's plan of a tree. -/
import Derived.Test.YtldffnmoafhidaaGreatDoorEna
import Derived.Test.YtldffnmoafhidaaGreatDoorFlb
set_option linter.unusedVariables false
set_option maxRecDepth 100000
namespace Go.Proofs.YtldffnmoafhidaaGreatDoor
open Go.RowKit
open Go.OpenShut
/-- a row of members of the call's own, whose data may lie anywhere -/
def FineE (w : World) (B : Nat) (v : Value) (xs : List EntP) : Prop := RowE w B v xs ∧ ∀ y ∈ xs, DatOk w y.2 y.1.data
theorem FineE.nil (w : World) (B : Nat) : FineE w B (.slice none 0 0) [] := ⟨RowE.nil _ _, fun x hx => by simp at hx⟩
theorem FineE.at {w : World} {B : Nat} {v : Value} {xs : List EntP} (h : FineE w B v xs) : ∃ A c, v = .slice A xs.length c ∧ SlOk A xs.length c ∧ EntsAt w A (xs.map (·.1)) := h.1.at h.2
theorem FineE.below {w w' : World} {B : Nat} {v : Value} {xs : List EntP} (h : FineE w B v xs) (hb : Below w.heap.size w w') : FineE w' B v xs := ⟨h.1.below hb, fun y hy => (h.2 y hy).below hb⟩
theorem FineE.mono {w : World} {B B' : Nat} {v : Value} {xs : List EntP} (h : FineE w B v xs) (hB : B' ≤ B) : FineE w B' v xs := ⟨h.1.mono hB, h.2⟩
/-- is the k-th node of the i-th one's file? -/
def eqP (t : List NodeV) (i k : Nat) : Bool := decide (0 < sameAt t i) && decide (sameAt t k = sameAt t i)
/-- the least of the last d places ahead of i that is of the same file -/
def aimK (t : List NodeV) (i : Nat) : Nat → Option Nat
  | 0 => none
  | d + 1 => if eqP t i (i - (d + 1)) = true then some (i - (d + 1)) else aimK t i d
theorem aimK_spec (t : List NodeV) (i : Nat) : ∀ d, d ≤ i → match aimK t i d with
    | none => ∀ j, i - d ≤ j → j < i → eqP t i j = false
    | some m => i - d ≤ m ∧ m < i ∧ eqP t i m = true ∧ ∀ j, i - d ≤ j → j < m → eqP t i j = false := by
  intro d
  induction d with
  | zero => intro _ ; exact fun j h1 h2 => by omega
  | succ d ih =>
    intro hd
    have h := ih (by omega)
    unfold aimK
    by_cases he : eqP t i (i - (d + 1)) = true
    · rw [if_pos he]
      exact ⟨Nat.le_refl _, by omega, he, fun j h1 h2 => by omega⟩
    · rw [if_neg he]
      have he' : eqP t i (i - (d + 1)) = false := by simpa using he
      cases ha : aimK t i d with
      | none =>
        rw [ha] at h
        intro j h1 h2
        by_cases hj : j = i - (d + 1)
        · rw [hj]; exact he'
        · exact h j (by omega) h2
      | some m =>
        rw [ha] at h
        obtain ⟨a, b, c, e⟩ := h
        refine ⟨by omega, b, c, fun j h1 h2 => ?_⟩
        by_cases hj : j = i - (d + 1)
        · rw [hj]; exact he'
        · exact e j (by omega) h2
theorem eqP_eqF {t : List NodeV} {i : Nat} (h0 : 0 < sameAt t i) (k : Nat) : eqP t i k = eqF t k i := by
  unfold eqP eqF
  rw [decide_eq_true h0, Bool.true_and]
  apply decide_eq_decide.2
  exact ⟨fun h => ⟨by omega, h⟩, fun h => h.2⟩
theorem aimK_first (t : List NodeV) (i : Nat) : aimK t i i = if 0 < sameAt t i ∧ firstF t i < i then some (firstF t i) else none := by
  have h := aimK_spec t i i (Nat.le_refl _)
  by_cases h0 : 0 < sameAt t i
  · cases ha : aimK t i i with
    | none =>
      rw [ha] at h
      have hf : firstF t i = i := firstF_stop (Nat.le_refl _) (fun j hj => by rw [← eqP_eqF h0]; exact h j (by omega) hj) (.inl rfl)
      rw [if_neg (by rw [hf]; omega)]
    | some m =>
      rw [ha] at h
      obtain ⟨-, b, c, e⟩ := h
      have hf : firstF t i = m := firstF_stop (by omega) (fun j hj => by rw [← eqP_eqF h0]; exact e j (by omega) hj) (.inr (by rw [← eqP_eqF h0]; exact c))
      rw [hf, if_pos ⟨h0, b⟩]
  · rw [if_neg (fun h => h0 h.1)]
    cases ha : aimK t i i with
    | none => rfl
    | some m =>
      rw [ha] at h
      have := h.2.2.1
      unfold eqP at this
      rw [decide_eq_false h0] at this
      simp at this
/-- what a member under way holds: as the node, or aimed at an earlier one -/
def LnkSt (t : List NodeV) (x : NodeV) (v : Value) (o : Option Nat) (kd : Int) (tg : List UInt8) (dv : Value) : Prop :=
  match o with
  | none => kd = x.kind ∧ tg = x.target ∧ dv = v
  | some j => kd = 4 ∧ tg = ((t[j]?).map NodeV.path).getD [] ∧ dv = .slice none 0 0
theorem LnkSt.plan {t : List NodeV} {i : Nat} (hi : i < t.length) {v : Value} {kd : Int} {tg : List UInt8} {dv : Value} (h : LnkSt t t[i] v (aimK t i i) kd tg dv) :
    planE t i t[i] = ⟨t[i].path, kd, tg, t[i].md, (planE t i t[i]).data⟩ ∧ ((planE t i t[i]).data = t[i].data ∧ dv = v ∨ (planE t i t[i]).data = [] ∧ dv = .slice none 0 0) := by
  rw [aimK_first, sameAt_at hi] at h
  unfold planE
  by_cases hc : 0 < t[i].same ∧ firstF t i < i
  · rw [if_pos hc] at h ⊢
    obtain ⟨rfl, rfl, rfl⟩ := h
    exact ⟨rfl, .inr ⟨rfl, rfl⟩⟩
  · rw [if_neg hc] at h ⊢
    obtain ⟨rfl, rfl, rfl⟩ := h
    exact ⟨rfl, .inl ⟨rfl, rfl⟩⟩
end Go.Proofs.YtldffnmoafhidaaGreatDoor
