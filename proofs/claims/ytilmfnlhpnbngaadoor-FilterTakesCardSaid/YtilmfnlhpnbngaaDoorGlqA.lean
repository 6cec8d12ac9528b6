/- Function values of the program's patterns: what a sign's function does with the places in a list. Nothing of the program but its types. -/
import Derived.Test.YtilmfnlhpnbngaaDoorGlbA
import Derived.Test.YtilmfnlhpnbngaaDoorPrtA
import Derived.Test.YtilmfnlhpnbngaaDoorGlqM
import Derived.Shelf.Abstract
set_option linter.unusedVariables false
set_option maxRecDepth 100000
namespace Go.Proofs.YtilmfnlhpnbngaaDoor
open Go.RowKit
open Go.OpenShut
/-- a row of places under way: k truths, the others false -/
def frontR (R : Nat → Nat → Bool) (i m k : Nat) : List Bool := (List.range k).map (R i) ++ List.replicate (m + 1 - k) false
theorem frontR_len (R : Nat → Nat → Bool) (i m k : Nat) (hk : k ≤ m + 1) : (frontR R i m k).length = m + 1 := by unfold frontR; simp; omega
theorem frontR_zero (R : Nat → Nat → Bool) (i m : Nat) : frontR R i m 0 = List.replicate (m + 1) false := by unfold frontR; simp
theorem frontR_end (R : Nat → Nat → Bool) (i m : Nat) : frontR R i m (m + 1) = rowR R i m := by unfold frontR rowR; simp
theorem frontR_set (R : Nat → Nat → Bool) (i m k : Nat) (hk : k < m + 1) : (frontR R i m k).set k (R i k) = frontR R i m (k + 1) := by
  unfold frontR
  rw [List.set_append_right _ _ (by simp)]
  simp only [List.length_map, List.length_range, Nat.sub_self]
  obtain ⟨q, hq⟩ : ∃ q, m + 1 - k = q + 1 := ⟨m - k, by omega⟩
  rw [hq, List.replicate_succ, List.set_cons_zero, show m + 1 - (k + 1) = q by omega, List.range_succ, List.map_append]
  simp
theorem frontR_one (R : Nat → Nat → Bool) (i m : Nat) (h : R i 0 = false) : frontR R i m 0 = frontR R i m 1 := by
  rw [← frontR_set R i m 0 (by omega), h, frontR_zero, List.replicate_succ, List.set_cons_zero]
theorem front_cell (R : Nat → Nat → Bool) (i m k j : Nat) (hk : k ≤ m + 1) (hj : j < m + 1) : ∃ b, (bA (frontR R i m k))[j]? = some (.bool b) := by
  have hl := frontR_len R i m k hk
  refine ⟨(frontR R i m k)[j]'(by omega), ?_⟩
  rw [bA_get, List.getElem?_eq_getElem (by omega)]; rfl
theorem app21 (a b p : Value) : (#[a, b] : Array Value) ++ #[p] = #[a, b, p] := by simp
theorem app11 (a p : Value) : (#[a] : Array Value) ++ #[p] = #[a, p] := by simp
theorem app12 (a p q : Value) : (#[a] : Array Value) ++ #[p, q] = #[a, p, q] := by simp
/-- a function value that enters f with what it holds -/
def FnV (v : Value) (f : Nat) (caps : Array Value) : Prop := v = .func (.func f) #[] caps ∧ ∀ args w, (callFunc f args).run Tryd.prog w = .ok (.enter f args) w
/-- what stays of a world: a frame -/
structure Frame (Fr : World → World → Prop) : Prop where
  bel : ∀ w W, Below w.heap.size w W → Fr w W
  tr : ∀ a b c, Fr a b → Fr b c → Fr a c
/-- all that was there stays -/
def frB (w W : World) : Prop := Below w.heap.size w W
theorem frB_frame : Frame frB := ⟨fun _ _ h => h, fun _ _ _ h h2 => Below.trans h (Below.mono h2 (Below.size h))⟩
section
variable {β : Type} (Fr : World → World → Prop) (enc : β → Value) (lim : β → Prop)
/-- a list in memory -/
def ListAt (W : World) (A : Option Addr) (bs : List β) : Prop := ∀ k (h : k < bs.length), ∃ g, A = some ⟨g, 0, none⟩ ∧ W.cell? ⟨g, k, none⟩ = some (enc bs[k])
theorem ListAt.below {enc : β → Value} {w w' : World} {A : Option Addr} {bs : List β} (h : ListAt enc w A bs) (hb : Below w.heap.size w w') : ListAt enc w' A bs := by
  intro j hj
  obtain ⟨b, e, hc⟩ := h j hj
  refine ⟨b, e, ?_⟩
  have hlt : b < w.heap.size := World.block_lt_of_cell? w _ hc
  rw [← hc]
  unfold World.cell?
  simp only [hb.block b hlt]
/-- a function that tells of a thing whether it fits -/
def FitV (w : World) (v : Value) (fit : β → Bool) : Prop :=
  ∃ f caps, FnV v f caps ∧ ∀ W, Fr w W → ∀ x, lim x → ∀ args, args = #[enc x] ++ caps → Calls Tryd.prog f args W fun e w' => e = .returned (.bool (fit x)) ∧ Below W.heap.size W w'
variable {Fr enc lim}
theorem FitV.mono {w w' : World} {v : Value} {fit : β → Bool} (h : FitV Fr enc lim w v fit) (hF : Frame Fr) (hb : Fr w w') : FitV Fr enc lim w' v fit := by
  obtain ⟨f, caps, hf, h⟩ := h
  exact ⟨f, caps, hf, fun W hW => h W (hF.tr _ _ _ hb hW)⟩
variable (Fr enc lim)
/-- from the places ahead of a sign to those behind it -/
def stepR (star : Bool) (fit : β → Bool) (bs : List β) (R : Nat → Nat → Bool) (i : Nat) : Prop :=
  R (i + 1) 0 = (R i 0 && star) ∧ ∀ k, (h : k < bs.length) → R (i + 1) (k + 1) = if star then R i (k + 1) || R (i + 1) k else R i k && fit bs[k]
/-- a sign's function -/
def StepV (w : World) (v : Value) (star : Bool) (fit : β → Bool) : Prop :=
  ∃ f caps, FnV v f caps ∧ ∀ W, Fr w W → ∀ (bs : List β) (A : Option Addr) (c m m1 gr i : Nat) (R : Nat → Nat → Bool), bs.length = m → m1 = m + 1 → m ≤ 1000 → (∀ x ∈ bs, lim x) → ListAt enc W A bs → Blk W gr 4 (bA (rowR R i m)) → stepR star fit bs R i →
    ∀ args, args = #[.slice A m c, .slice (some ⟨gr, 0, none⟩) m1 m1] ++ caps → Calls Tryd.prog f args W fun e w' => ∃ gn, e = .returned (.slice (some ⟨gn, 0, none⟩) m1 m1) ∧ W.heap.size ≤ gn ∧ Blk w' gn 4 (bA (rowR R (i + 1) m)) ∧ Below W.heap.size W w'
variable {Fr enc lim}
theorem StepV.mono {w w' : World} {v : Value} {star : Bool} {fit : β → Bool} (h : StepV Fr enc lim w v star fit) (hF : Frame Fr) (hb : Fr w w') : StepV Fr enc lim w' v star fit := by
  obtain ⟨f, caps, hf, h⟩ := h
  exact ⟨f, caps, hf, fun W hW => h W (hF.tr _ _ _ hb hW)⟩
end
/-- function values in a row of the call's own -/
def Fns (w : World) (B t : Nat) (v : Value) (fs : List Value) : Prop := w.ownsRow B t 1 v fs.length fs
theorem Fns.below {w w' : World} {B t : Nat} {v : Value} {fs : List Value} (h : Fns w B t v fs) (hb : Below w.heap.size w w') : Fns w' B t v fs :=
  World.ownsRow.kept h (grown_below hb none) (by
    by_cases e : v.ownBlock = none
    · exact .inl e
    · exact .inr e)
theorem Fns.any {w : World} {B t : Nat} {v : Value} {fs : List Value} (h : Fns w B t v fs) : ∃ A cap, v = .slice A fs.length cap ∧ ∀ j (hj : j < fs.length), ∃ g, A = some ⟨g, 0, none⟩ ∧ w.cell? ⟨g, j, none⟩ = some fs[j] := by
  have h' := h
  unfold Fns World.ownsRow at h
  rcases h.2 with ⟨rfl, h0⟩ | ⟨g, cap, cur, rfl, hB, hg, hcap, hm, hs, ht⟩
  · exact ⟨none, 0, by rw [h0], fun j hj => by omega⟩
  · refine ⟨some ⟨g, 0, none⟩, cap, rfl, fun j hj => ⟨g, rfl, ?_⟩⟩
    unfold Fns at h'
    rw [h'.cellAt j (by omega), List.getElem?_eq_getElem hj]
end Go.Proofs.YtilmfnlhpnbngaaDoor
