/- Plain mathematics of plans: what is planned of a sound tree is good, and grows into the same tree. Nothing of the program. -/
import Derived.Test.YtoikpnjnljdpaaaGreatDoorEntI
set_option linter.unusedVariables false
namespace Go.Proofs.YtoikpnjnljdpaaaGreatDoor
open Go.RowKit
theorem planE_path (t : List NodeV) (i : Nat) (x : NodeV) : (planE t i x).path = x.path := by unfold planE; split <;> rfl
theorem planE_md (t : List NodeV) (i : Nat) (x : NodeV) : (planE t i x).md = x.md := by unfold planE; split <;> rfl
/-- strictly rising paths of members -/
def RisesE (l : List EntV) : Prop := ∀ i j (hi : i < l.length) (hj : j < l.length), i < j → pcmp l[i].path l[j].path = -1
theorem findE_rise {l : List EntV} (h : RisesE l) {s : List UInt8} (k : Nat) (hk : k < l.length) (e : l[k].path = s) : findE l s = k := by
  refine findE_stop l s k hk ?_ e
  apply Classical.byContradiction
  intro hc
  have h1 : findE l s < l.length := by omega
  have h2 := findE_at l s h1
  have h3 := h (findE l s) k h1 hk (by omega)
  rw [h2, e] at h3
  exact plt_irr _ h3
theorem RisesE.take {l : List EntV} (h : RisesE l) (k : Nat) : RisesE (l.take k) := fun i j hi hj hij => by
  rw [List.length_take] at hi hj
  rw [List.getElem_take, List.getElem_take]
  exact h i j (by omega) (by omega) hij
theorem plan_rises {t : List NodeV} (h : Sound t) : RisesE (planL t) := fun i j hi hj hij => by
  rw [planL_len] at hi hj
  rw [planL_at t i hi, planL_at t j hj, planE_path, planE_path]
  exact rises_get h.rises i j hi hj hij
theorem pathE_ne {p : List UInt8} (h : pathE p = 0) : p ≠ [] := fun e => by
  rw [e] at h
  exact absurd h (by decide +kernel)
/-- the kinds of a good node -/
theorem node_kinds {x : NodeV} (h : nodE x = 0) : (x.kind = 1 ∧ x.target = [] ∧ x.data.length ≤ 2000) ∨ (x.kind = 2 ∧ x.target = [] ∧ x.data = [] ∧ x.same = 0) ∨ (x.kind = 3 ∧ x.target ≠ [] ∧ x.data = [] ∧ x.same = 0 ∧ hasB 0 x.target = false ∧ x.target.length ≤ 400) := by
  have hk := node_kind h
  unfold nodK at hk
  by_cases k1 : x.kind = 1
  · rw [if_pos k1] at hk
    by_cases c1 : x.target ≠ [] ∨ x.same < 0
    · rw [if_pos c1] at hk; cases hk
    · rw [if_neg c1] at hk
      by_cases c2 : 2000 < x.data.length
      · rw [if_pos c2] at hk; cases hk
      · refine .inl ⟨k1, ?_, by omega⟩
        apply Classical.byContradiction
        intro hc
        exact c1 (.inl hc)
  · rw [if_neg k1] at hk
    by_cases k2 : x.kind = 2 ∨ x.kind = 3
    · rw [if_pos k2] at hk
      by_cases c1 : x.data ≠ [] ∨ x.same ≠ 0 ∨ (x.kind = 2 ∧ x.target ≠ []) ∨ (x.kind = 3 ∧ x.target = []) ∨ hasB 0 x.target = true
      · rw [if_pos c1] at hk; cases hk
      · rw [if_neg c1] at hk
        by_cases c2 : 400 < x.target.length
        · rw [if_pos c2] at hk; cases hk
        · have d1 : x.data = [] := Classical.byContradiction fun hc => c1 (.inl hc)
          have d2 : x.same = 0 := Classical.byContradiction fun hc => c1 (.inr (.inl hc))
          have d3 : hasB 0 x.target = false := by
            cases hb : hasB 0 x.target with
            | false => rfl
            | true => exact absurd (.inr (.inr (.inr (.inr hb)))) c1
          rcases k2 with k2 | k3
          · exact .inr (.inl ⟨k2, Classical.byContradiction fun hc => c1 (.inr (.inr (.inl ⟨k2, hc⟩))), d1, d2⟩)
          · exact .inr (.inr ⟨k3, fun hc => c1 (.inr (.inr (.inr (.inl ⟨k3, hc⟩)))), d1, d2, d3, by omega⟩)
    · rw [if_neg k2] at hk; cases hk
theorem node_path' {x : NodeV} (h : nodE x = 0) : pathE x.path = 0 ∧ metE x.md = 0 := by
  unfold nodE at h
  by_cases hp : pathE x.path ≠ 0
  · rw [if_pos hp] at h; exact absurd h hp
  · rw [if_neg hp] at h
    by_cases hm : metE x.md ≠ 0
    · rw [if_pos hm] at h; exact absurd h hm
    · exact ⟨by simpa using hp, by simpa using hm⟩
theorem node_ent {x : NodeV} (h : nodE x = 0) : entE x.ent = 0 := by
  have hp := node_path' h
  have hk := node_kinds h
  have e : entE x.ent = entK x.ent := entE_kind hp.1 hp.2
  rw [e]
  unfold entK NodeV.ent
  simp only
  rcases hk with ⟨k, t, d⟩ | ⟨k, t, d, -⟩ | ⟨k, t, d, -, b, l⟩
  · rw [k, t]
    rw [if_neg (by omega), if_neg (by simp), if_neg (by simp; omega), if_neg (by omega), if_neg (by decide)]
  · rw [k, t, d]
    rw [if_neg (by omega), if_neg (by simp), if_neg (by simp), if_neg (by omega), if_neg (by decide)]
  · rw [k, d]
    rw [if_neg (by omega), if_neg (by simp [t]), if_neg (by simp; omega), if_neg (by omega), if_neg (by rw [b]; decide)]
/-- where the i-th node is a link: at what -/
theorem link_at {t : List NodeV} (h : Sound t) {i : Nat} (hi : i < t.length) (hl : 0 < t[i].same ∧ firstF t i < i) :
    ∃ hf : firstF t i < t.length, (t[firstF t i]'hf).kind = 1 ∧ (t[firstF t i]'hf).md = t[i].md ∧ (t[firstF t i]'hf).data = t[i].data ∧ (t[firstF t i]'hf).same = t[i].same ∧ firstF t (firstF t i) = firstF t i ∧ t[i].kind = 1 ∧ t[i].target = [] := by
  have hf : firstF t i < t.length := by omega
  have he := (firstF_spec t i).2.1 hl.2
  obtain ⟨h1, h2⟩ := eqF_data h hf hi he
  have he2 : sameAt t i ≠ 0 ∧ sameAt t (firstF t i) = sameAt t i := of_decide_eq_true he
  rw [sameAt_at hi, sameAt_at hf] at he2
  have hk := (node_same (h.node _ (List.getElem_mem hf))).2 (by rw [he2.2]; exact he2.1)
  have hk2 := (node_same (h.node _ (List.getElem_mem hi))).2 he2.1
  refine ⟨hf, hk, h1, h2, he2.2, firstF_first t i, hk2, ?_⟩
  rcases node_kinds (h.node _ (List.getElem_mem hi)) with ⟨-, a, -⟩ | ⟨a, -⟩ | ⟨a, -⟩
  · exact a
  · rw [hk2] at a; cases a
  · rw [hk2] at a; cases a
theorem planE_link {t : List NodeV} {i : Nat} (hi : i < t.length) (hl : 0 < t[i].same ∧ firstF t i < i) : planE t i t[i] = ⟨t[i].path, 4, (t[firstF t i]'(by omega)).path, t[i].md, []⟩ := by
  unfold planE
  rw [if_pos hl, List.getElem?_eq_getElem (by omega)]; rfl
theorem planE_self {t : List NodeV} {i : Nat} (hi : i < t.length) (hl : ¬ (0 < t[i].same ∧ firstF t i < i)) : planE t i t[i] = t[i].ent := by
  unfold planE; rw [if_neg hl]
theorem plan_ent {t : List NodeV} (h : Sound t) {i : Nat} (hi : i < t.length) : entE (planE t i t[i]) = 0 := by
  by_cases hl : 0 < t[i].same ∧ firstF t i < i
  · rw [planE_link hi hl]
    obtain ⟨hf, -⟩ := link_at h hi hl
    have hn := h.node _ (List.getElem_mem hi)
    have hp := (node_path' (h.node _ (List.getElem_mem hf))).1
    rw [entE_kind (n := ⟨_, _, _, _, _⟩) (node_path' hn).1 (node_path' hn).2]
    unfold entK
    simp only
    have h1 := pathE_ne hp
    have h2 := pathE_len hp
    rw [if_neg (by omega), if_neg (by simp [h1]), if_neg (by simp; omega), if_pos trivial, hp]
  · rw [planE_self hi hl]
    exact node_ent (h.node _ (List.getElem_mem hi))
theorem plan_good {t : List NodeV} (h : Sound t) (h40 : t.length ≤ 40) : entsE (planL t) = 0 := by
  rw [entsE_zero]
  refine ⟨by rw [planL_len]; exact h40, fun k hk => ?_⟩
  have hkt : k < t.length := by rwa [planL_len] at hk
  have hr := plan_rises h
  rw [planL_at t k hkt, eatE_zero]
  refine ⟨plan_ent h hkt, fun y hy => ?_, ?_, ?_⟩
  · obtain ⟨h0, e⟩ := (elast_take (planL t) k hk y).1 hy
    subst e
    rw [planE_path, planL_at t (k - 1) (by omega), planE_path]
    exact rises_get h.rises (k - 1) k (by omega) hkt (by omega)
  · rw [planE_path]
    unfold upE
    by_cases hu : upL t[k].path = []
    · rw [decide_eq_true hu, Bool.true_or]
    · rw [decide_eq_false hu, Bool.false_or]
      rcases h.up _ (List.getElem_mem hkt) with e | ⟨d, hd, e1, e2⟩
      · exact absurd e hu
      · have hd2 := rises_ahead h.rises k hkt d hd (by rw [e1]; exact up_before hu)
        obtain ⟨j, hj, hjd⟩ := List.mem_take_iff_getElem.1 hd2
        have hjt : j < t.length := by omega
        have hj2 : j < ((planL t).take k).length := by rw [List.length_take, planL_len]; omega
        have hg : ((planL t).take k)[j] = planE t j t[j] := by rw [List.getElem_take, planL_at t j hjt]
        have hf := findE_rise (hr.take k) j hj2 (s := upL t[k].path) (by rw [hg, planE_path, hjd, e1])
        have hs : t[j].same = 0 := by
          rcases node_kinds (h.node _ (List.getElem_mem hjt)) with ⟨a, -⟩ | ⟨-, -, -, a⟩ | ⟨a, -⟩
          · rw [hjd, e2] at a; cases a
          · exact a
          · rw [hjd, e2] at a; cases a
        rw [dif_pos (by rw [hf]; exact hj2)]
        simp only [hf, hg]
        rw [planE_self hjt (by rw [hs]; omega)]
        show decide (t[j].kind = 2) = true
        rw [hjd]; exact decide_eq_true e2
  · unfold aimE
    by_cases hl : 0 < t[k].same ∧ firstF t k < k
    · obtain ⟨hf, b1, b2, b3, b4, b5, -, -⟩ := link_at h hkt hl
      rw [planE_link hkt hl]
      simp only
      rw [decide_eq_false (by simp), Bool.false_or]
      have hj2 : firstF t k < ((planL t).take k).length := by rw [List.length_take, planL_len]; omega
      have hg : ((planL t).take k)[firstF t k] = planE t (firstF t k) t[firstF t k] := by rw [List.getElem_take, planL_at t _ hf]
      have hfd := findE_rise (hr.take k) (firstF t k) hj2 (s := t[firstF t k].path) (by rw [hg, planE_path])
      have hself : planE t (firstF t k) t[firstF t k] = t[firstF t k].ent := planE_self hf (by rw [b5]; omega)
      rw [dif_pos (by rw [hfd]; exact hj2)]
      simp only [hfd, hg, hself]
      show (decide (t[firstF t k].kind = 1) && decide (t[firstF t k].md = t[k].md)) = true
      rw [decide_eq_true b1, decide_eq_true b2]; rfl
    · rw [planE_self hkt hl]
      have : t[k].ent.kind ≠ 4 := by
        show t[k].kind ≠ 4
        rcases node_kinds (h.node _ (List.getElem_mem hkt)) with ⟨a, -⟩ | ⟨a, -⟩ | ⟨a, -⟩ <;> rw [a] <;> decide
      rw [decide_eq_true this, Bool.true_or]
/-- is the i-th node planned as a link? -/
def isL (t : List NodeV) (i : Nat) : Prop := ∃ hi : i < t.length, 0 < t[i].same ∧ firstF t i < i
theorem grow_link {t : List NodeV} (h : Sound t) {i : Nat} (hi : i < t.length) (hl : 0 < t[i].same ∧ firstF t i < i) :
    (growL (planL t))[i]'(by rw [growL_len, planL_len]; exact hi) = { t[i] with same := (firstF t i : Int) + 1 } := by
  obtain ⟨hf, b1, b2, b3, b4, b5, b6, b7⟩ := link_at h hi hl
  have hpi : i < (planL t).length := by rw [planL_len]; exact hi
  have hpf : firstF t i < (planL t).length := by rw [planL_len]; exact hf
  rw [growL_at (planL t) i hpi, planL_at t i hi, planE_link hi hl]
  have hg : (planL t)[firstF t i] = t[firstF t i].ent := by rw [planL_at t _ hf]; exact planE_self hf (by rw [b5]; omega)
  have hfd := findE_rise (plan_rises h) (firstF t i) hpf (s := t[firstF t i].path) (by rw [hg]; rfl)
  unfold growE
  rw [if_pos rfl]
  simp only
  rw [hfd, List.getElem?_eq_getElem hpf, hg]
  generalize t[firstF t i] = y at b1 b2 b3
  generalize t[i] = x at *
  obtain ⟨xp, xk, xs, xt, xm, xd⟩ := x
  simp only at b3 b6 b7
  subst b6 b7
  show (⟨xp, 1, _, [], xm, y.data⟩ : NodeV) = ⟨xp, 1, _, [], xm, xd⟩
  rw [b3]
theorem any_link {t : List NodeV} (h : Sound t) {i : Nat} (hi : i < t.length) :
    ((planL t).any fun y => decide (y.kind = 4) && decide (y.target = t[i].path)) = true ↔ ∃ j, isL t j ∧ firstF t j = i := by
  rw [List.any_eq_true]
  constructor
  · rintro ⟨y, hy, e⟩
    rw [Bool.and_eq_true, decide_eq_true_eq, decide_eq_true_eq] at e
    obtain ⟨j, hj, rfl⟩ := List.getElem_of_mem hy
    have hjt : j < t.length := by rwa [planL_len] at hj
    rw [planL_at t j hjt] at e
    by_cases hl : 0 < t[j].same ∧ firstF t j < j
    · rw [planE_link hjt hl] at e
      refine ⟨j, ⟨hjt, hl⟩, ?_⟩
      have hf : firstF t j < t.length := by omega
      have e2 : t[firstF t j].path = t[i].path := e.2
      rcases Nat.lt_trichotomy (firstF t j) i with a | a | a
      · have := rises_get h.rises _ _ hf hi a
        rw [e2] at this; exact absurd this (plt_irr _)
      · exact a
      · have := rises_get h.rises _ _ hi hf a
        rw [e2] at this; exact absurd this (plt_irr _)
    · rw [planE_self hjt hl] at e
      exfalso
      have e1 : t[j].kind = 4 := e.1
      rcases node_kinds (h.node _ (List.getElem_mem hjt)) with ⟨a, -⟩ | ⟨a, -⟩ | ⟨a, -⟩ <;> (rw [e1] at a; cases a)
  · rintro ⟨j, ⟨hjt, hl⟩, rfl⟩
    refine ⟨(planL t)[j]'(by rw [planL_len]; exact hjt), List.getElem_mem _, ?_⟩
    rw [planL_at t j hjt, planE_link hjt hl]
    simp
theorem grow_self {t : List NodeV} (h : Sound t) {i : Nat} (hi : i < t.length) (hl : ¬ (0 < t[i].same ∧ firstF t i < i)) :
    ∃ z : Int, (growL (planL t))[i]'(by rw [growL_len, planL_len]; exact hi) = { t[i] with same := z } ∧ ((z = (i : Int) + 1 ∧ ∃ j, isL t j ∧ firstF t j = i) ∨ (z = 0 ∧ ¬ (t[i].kind = 1 ∧ ∃ j, isL t j ∧ firstF t j = i))) := by
  have hpi : i < (planL t).length := by rw [planL_len]; exact hi
  have hk4 : t[i].kind ≠ 4 := by
    rcases node_kinds (h.node _ (List.getElem_mem hi)) with ⟨a, -⟩ | ⟨a, -⟩ | ⟨a, -⟩ <;> rw [a] <;> decide
  have hany := any_link h hi
  rw [growL_at (planL t) i hpi, planL_at t i hi, planE_self hi hl]
  unfold growE
  rw [if_neg (show ¬ t[i].ent.kind = 4 from hk4)]
  refine ⟨_, rfl, ?_⟩
  by_cases hc : t[i].ent.kind = 1 ∧ ((planL t).any fun y => decide (y.kind = 4) && decide (y.target = t[i].ent.path)) = true
  · rw [if_pos hc]
    exact .inl ⟨rfl, hany.1 hc.2⟩
  · rw [if_neg hc]
    refine .inr ⟨rfl, fun hx => hc ⟨hx.1, hany.2 hx.2⟩⟩
theorem same_grow {t : List NodeV} {i : Nat} (hi : i < t.length) {z : Int} (e : (growL (planL t))[i]'(by rw [growL_len, planL_len]; exact hi) = { t[i] with same := z }) : sameAt (growL (planL t)) i = z := by
  rw [sameAt_at (by rw [growL_len, planL_len]; exact hi), e]
/-- planned and grown again, a sound tree is alike -/
theorem grow_alike {t : List NodeV} (h : Sound t) : alikeF (growL (planL t)) t := by
  have h0 := fun i => h.pos i
  refine ⟨by rw [growL_len, planL_len], fun i h1 h2 => ?_, fun i k hk hi => ?_⟩
  · by_cases hl : 0 < t[i].same ∧ firstF t i < i
    · rw [grow_link h h2 hl]
    · obtain ⟨z, e, -⟩ := grow_self h h2 hl
      rw [e]
  · rw [growL_len, planL_len] at hi
    have hkt : k < t.length := by omega
    have hL : ∀ j (hj : j < t.length), sameAt (growL (planL t)) j = (firstF t j : Int) + 1 ∨ sameAt (growL (planL t)) j = 0 := fun j hj => by
      by_cases hl : 0 < t[j].same ∧ firstF t j < j
      · exact .inl (same_grow hj (grow_link h hj hl))
      · obtain ⟨z, e, d⟩ := grow_self h hj hl
        rcases d with ⟨d, m, -, hm⟩ | ⟨d, -⟩
        · left
          rw [same_grow hj e, d]
          have : firstF t j = j := by rw [← hm, firstF_first]
          rw [this]
        · right
          rw [same_grow hj e, d]
    constructor
    · rintro ⟨a, b⟩
      rcases hL i hi with c | c
      · rcases hL k hkt with d | d
        · have hf : firstF t k = firstF t i := by omega
          have hI := (firstF_eq h0 i k).1 hf
          unfold isF at hI
          rw [Bool.or_eq_true, decide_eq_true_eq, Bool.and_eq_true, decide_eq_true_eq, decide_eq_true_eq] at hI
          rcases hI with e | ⟨e1, e2⟩
          · omega
          · exact ⟨e1, e2.symm⟩
        · omega
      · omega
    · rintro ⟨a, b⟩
      have hI : isF t i k = true := by
        unfold isF
        rw [Bool.or_eq_true, Bool.and_eq_true]
        exact .inr ⟨decide_eq_true a, decide_eq_true b.symm⟩
      have hf := (firstF_eq h0 i k).2 hI
      have hfk := (firstF_spec t k).1
      have ha := a
      rw [sameAt_at hi] at ha
      have hli : 0 < t[i].same ∧ firstF t i < i := ⟨ha, by omega⟩
      have e1 := same_grow hi (grow_link h hi hli)
      have hka : 0 < t[k].same := by rw [sameAt_at hi, sameAt_at hkt] at b; omega
      have e2 : sameAt (growL (planL t)) k = (firstF t i : Int) + 1 := by
        by_cases hl : 0 < t[k].same ∧ firstF t k < k
        · rw [same_grow hkt (grow_link h hkt hl), hf]
        · obtain ⟨z, e, d⟩ := grow_self h hkt hl
          have hkk : firstF t k = k := by
            rcases Nat.lt_or_eq_of_le hfk with q | q
            · exact absurd ⟨hka, q⟩ hl
            · exact q
          rcases d with ⟨d, -⟩ | ⟨-, d⟩
          · rw [same_grow hkt e, d, ← hf, hkk]
          · exact absurd ⟨(node_same (h.node _ (List.getElem_mem hkt))).2 (by omega), i, ⟨hi, hli⟩, by rw [← hf, hkk]⟩ d
      exact ⟨by omega, by omega⟩
end Go.Proofs.YtoikpnjnljdpaaaGreatDoor
