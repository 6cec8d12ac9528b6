/- The reference's tree of members. -/
import Derived.Test.YtoikpnjnljdpaaaGreatDoorEna
import Derived.Test.YtoikpnjnljdpaaaGreatDoorEntG
import Derived.Test.YtoikpnjnljdpaaaGreatDoorTra
set_option linter.unusedVariables false
set_option maxRecDepth 100000
namespace Go.Proofs.YtoikpnjnljdpaaaGreatDoor
open Go.RowKit
open Go.OpenShut
theorem entsE_zero (l : List EntV) : entsE l = 0 ↔ l.length ≤ 40 ∧ ∀ k (hk : k < l.length), eatE (l.take k) l[k] = 0 := by
  unfold entsE
  by_cases h : 40 < l.length
  · rw [if_pos h]; exact ⟨fun e => absurd e (by decide), fun e => by omega⟩
  · rw [if_neg h, ewalkE_all]
    simp only [List.nil_append]
    exact ⟨fun e => ⟨by omega, e⟩, fun e => e.2⟩
theorem findE_take {l : List EntV} {s : List UInt8} {k : Nat} (h : findE (l.take k) s < (l.take k).length) : findE l s = findE (l.take k) s := by
  have h1 : findE (l.take k) s < l.length := by rw [List.length_take] at h; omega
  have h2 := findE_at (l.take k) s h
  rw [List.getElem_take] at h2
  refine findE_stop l s _ h1 ?_ h2
  apply Classical.byContradiction
  intro hc
  have h3 : findE l s < findE (l.take k) s := by omega
  have h4 : findE l s < l.length := by omega
  have h5 := findE_at l s h4
  refine findE_ne (l.take k) s (findE l s) h3 (by omega) ?_
  rw [List.getElem_take]; exact h5
/-- where a link aims -/
theorem aim_at {l : List EntV} (h : entsE l = 0) {i : Nat} (hi : i < l.length) (hk : l[i].kind = 4) : ∃ hf : findE l l[i].target < l.length, findE l l[i].target < i ∧ (l[findE l l[i].target]'hf).kind = 1 ∧ (l[findE l l[i].target]'hf).md = l[i].md := by
  have h1 := ((eatE_zero _ _).1 (((entsE_zero l).1 h).2 i hi)).2.2.2
  unfold aimE at h1
  rw [decide_eq_false (by simp [hk]), Bool.false_or] at h1
  split at h1
  · rename_i hf
    have e := findE_take hf
    rw [List.length_take] at hf
    rw [Bool.and_eq_true, decide_eq_true_eq, decide_eq_true_eq, List.getElem_take] at h1
    refine ⟨by omega, by omega, ?_, ?_⟩
    · simp only [e]; exact h1.1
    · simp only [e]; exact h1.2
  · cases h1
def anyE (l : List EntV) (p : List UInt8) : Bool := l.any fun y => decide (y.kind = 4) && decide (y.target = p)
/-- the number of a file that links aim at -/
def smE (l : List EntV) (i : Nat) (x : EntV) : Int := if x.kind = 1 ∧ anyE l x.path = true then (i : Int) + 1 else 0
theorem smE_snoc (l : List EntV) (i : Nat) (x : EntV) (k : Nat) (hk : k < l.length) (q : Bool) (hq : q = (decide (l[k].kind = 4) && decide (l[k].target = x.path) && decide (x.kind = 1))) :
    smE (l.take (k + 1)) i x = if q = true then (i : Int) + 1 else smE (l.take k) i x := by
  have e : anyE (l.take (k + 1)) x.path = (anyE (l.take k) x.path || (decide (l[k].kind = 4) && decide (l[k].target = x.path))) := by
    unfold anyE
    rw [List.take_succ_eq_append_getElem hk, List.any_append, List.any_cons, List.any_nil, Bool.or_false]
  unfold smE
  rw [e, hq]
  generalize (decide (l[k].kind = 4) && decide (l[k].target = x.path)) = r
  by_cases h : x.kind = 1
  · rw [decide_eq_true h]
    cases r
    · simp [h]
    · simp [h]
  · rw [decide_eq_false h]
    simp [h]
theorem EntV.sz.grow {l : List EntV} (h : ∀ x ∈ l, x.sz) {i : Nat} (hi : i < l.length) : (growE l i l[i]).sz := by
  have hx := h _ (List.getElem_mem hi)
  unfold growE
  by_cases hk : l[i].kind = 4
  · rw [if_pos hk]
    refine ⟨⟨hx.1.1, Nat.zero_le _, ?_⟩, hx.2⟩
    simp only
    cases hd : l[findE l l[i].target]? with
    | none => exact Nat.zero_le _
    | some y => exact (h y (List.mem_of_getElem? hd)).1.2.2
  · rw [if_neg hk]
    exact ⟨⟨hx.1.1, hx.1.2.1, hx.1.2.2⟩, hx.2⟩
/-- what Tree makes of members -/
def growT (l : List EntV) : List NodeV := if entsE l = 0 then growL l else []
end Go.Proofs.YtoikpnjnljdpaaaGreatDoor
