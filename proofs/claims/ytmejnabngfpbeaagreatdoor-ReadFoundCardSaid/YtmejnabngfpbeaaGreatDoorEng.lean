/- Texts of one kind, in one file: EntG, EntI, EntN. -/
import Derived.Test.YtmejnabngfpbeaaGreatDoorEna
import Derived.Test.YtmejnabngfpbeaaGreatDoorNod
import Derived.Test.YtmejnabngfpbeaaGreatDoorTra
set_option linter.unusedVariables false
set_option maxRecDepth 100000
namespace Go.Proofs.YtmejnabngfpbeaaGreatDoor
open Go.RowKit
open Go.OpenShut
def entA (x : EntV) (D : Option Addr) (c : Nat) : Array Value := #[.string (bs x.path), .int .i64 x.kind, .string (bs x.target), .int .i64 x.md.mode, .int .i64 x.md.uid, .int .i64 x.md.gid, .string (bs x.md.user), .string (bs x.md.group), .int .i64 x.md.second, .int .i64 x.md.nano, .slice D x.data.length c]
def RdE (wr : World) (g : Nat) (x : EntV) (D : Option Addr) (c : Nat) (W : World) : Prop := Blk W g 34 (entA x D c) ∧ Below wr.heap.size wr W
theorem RdE.below {wr W W' : World} {g : Nat} {x : EntV} {D : Option Addr} {c : Nat} (h : RdE wr g x D c W) (hb : Below W.heap.size W W') : RdE wr g x D c W' := ⟨h.1.below hb h.1.lt, h.2.trans (hb.mono h.2.size)⟩
theorem RdE.drew {wr W : World} {g : Nat} {x : EntV} {D : Option Addr} {c : Nat} (h : RdE wr g x D c W) : RdE wr g x D c W.drew := ⟨h.1.drew_, h.2.drew⟩
theorem RdE.drewN {wr W : World} {g : Nat} {x : EntV} {D : Option Addr} {c : Nat} (h : RdE wr g x D c W) (q : Nat) : RdE wr g x D c (W.drewN q) := ⟨h.1.drewN q, below_drewN h.2 q⟩
def RdF (wr : World) (g : Nat) (x : EntV) (D : Option Addr) (c b q : Nat) (P : ByteArray) (W : World) : Prop := RdE wr g x D c W ∧ W.cell? ⟨b, q, none⟩ = some (.string P)
theorem RdF.below {wr W W' : World} {g : Nat} {x : EntV} {D : Option Addr} {c b q : Nat} {P : ByteArray} (h : RdF wr g x D c b q P W) (hb : Below W.heap.size W W') : RdF wr g x D c b q P W' :=
 ⟨h.1.below hb, (hb.cell (p := ⟨b, q, none⟩) (World.block_lt_of_cell? W _ h.2)).trans h.2⟩
theorem RdF.drew {wr W : World} {g : Nat} {x : EntV} {D : Option Addr} {c b q : Nat} {P : ByteArray} (h : RdF wr g x D c b q P W) : RdF wr g x D c b q P W.drew := ⟨h.1.drew, h.2⟩
theorem ents_good {t : List EntV} (h : ewalkE [] t = 0) : ∀ x ∈ t, entE x = 0 := fun x hx => by
 obtain ⟨j, hj, rfl⟩ := List.getElem_of_mem hx
 exact ((eatE_zero _ _).1 ((ewalkE_all t []).1 h j hj)).1
theorem pathE_len {p : List UInt8} (h : pathE p = 0) : p.length ≤ 400 := by
 unfold pathE at h
 split at h
 ·exact absurd h (by decide)
 ·omega
theorem eatE_node {t : List EntV} {n : EntV} (h : entE n ≠ 0) : eatE t n = entE n := if_pos h
theorem eatE_twice {t : List EntV} {n : EntV} (h : entE n = 0) (x : EntV) (hl : t.getLast? = some x) (h2 : pcmp x.path n.path ≠ -1) : eatE t n = 6 := by
 unfold eatE; rw [if_neg (by simp [h]), hl]; simp only; rw [if_pos (by simp [h2])]
theorem eatE_up {t : List EntV} {n : EntV} (h : entE n = 0) (hl : ∀ x, t.getLast? = some x → pcmp x.path n.path = -1) (hu : upE t n.path = false) : eatE t n = 10 := by
 unfold eatE
 rw [if_neg (by simp [h]), if_neg, if_pos hu]
 cases e : t.getLast? with
 | none => simp
 | some x => simp [hl x e]
theorem eatE_link {t : List EntV} {n : EntV} (h : entE n = 0) (hl : ∀ x, t.getLast? = some x → pcmp x.path n.path = -1) (hu : upE t n.path = true) (hk : aimE t n = false) : eatE t n = 11 := by
 unfold eatE
 rw [if_neg (by simp [h]), if_neg, if_neg (by simp [hu]), if_pos hk]
 cases e : t.getLast? with
 | none => simp
 | some x => simp [hl x e]
theorem elast_take (l : List EntV) (k : Nat) (hk : k < l.length) (x : EntV) : (l.take k).getLast? = some x ↔ ∃ h : 0 < k, l[k - 1] = x := by
 cases k with
 | zero => simp
 | succ k =>
  rw [List.take_succ_eq_append_getElem (by omega), List.getLast?_append]
  simp
theorem entsE_zero (l : List EntV) : entsE l = 0 ↔ l.length ≤ 40 ∧ ∀ k (hk : k < l.length), eatE (l.take k) l[k] = 0 := by
 unfold entsE
 by_cases h : 40 < l.length
 ·rw [if_pos h]; exact ⟨fun e => absurd e (by decide), fun e => by omega⟩
 ·rw [if_neg h, ewalkE_all]
  simp only [List.nil_append]
  exact ⟨fun e => ⟨by omega, e⟩, fun e => e.2⟩
def anyE (l : List EntV) (p : List UInt8) : Bool := l.any fun y => decide (y.kind = 4) && decide (y.target = p)
def smE (l : List EntV) (i : Nat) (x : EntV) : Int := if x.kind = 1 ∧ anyE l x.path = true then (i : Int) + 1 else 0
theorem EntV.sz.grow {l : List EntV} (h : ∀ x ∈ l, x.sz) {i : Nat} (hi : i < l.length) : (growE l i l[i]).sz := by
 have hx := h _ (List.getElem_mem hi)
 unfold growE
 by_cases hk : l[i].kind = 4
 ·rw [if_pos hk]
  refine ⟨⟨hx.1.1, Nat.zero_le _, ?_⟩, hx.2⟩
  simp only
  cases hd : l[findE l l[i].target]? with
  | none => exact Nat.zero_le _
  | some y => exact (h y (List.mem_of_getElem? hd)).1.2.2
 ·rw [if_neg hk]
  exact ⟨⟨hx.1.1, hx.1.2.1, hx.1.2.2⟩, hx.2⟩
def growT (l : List EntV) : List NodeV := if entsE l = 0 then growL l else []
end Go.Proofs.YtmejnabngfpbeaaGreatDoor
namespace Go.Proofs.YtmejnabngfpbeaaGreatDoor
open Go.RowKit
theorem planE_path (t : List NodeV) (i : Nat) (x : NodeV) : (planE t i x).path = x.path := by unfold planE; split <;> rfl
def RisesE (l : List EntV) : Prop := ∀ i j (hi : i < l.length) (hj : j < l.length), i < j → pcmp l[i].path l[j].path = -1
theorem findE_rise {l : List EntV} (h : RisesE l) {s : List UInt8} (k : Nat) (hk : k < l.length) (e : l[k].path = s) : findE l s = k := by
 refine findE_stop l s k hk ?_ e
 apply Classical.byContradiction
 intro hc
 have h1 : findE l s < l.length := by omega
 have h2 := findE_at l s h1
 have h3 := h (findE l s) k h1 hk (by omega)
 rw [h2, e] at h3
 exact plt_irr _ h3
theorem RisesE.take {l : List EntV} (h : RisesE l) (k : Nat) : RisesE (l.take k) := fun i j hi hj hij => by
 rw [List.length_take] at hi hj
 rw [List.getElem_take, List.getElem_take]
 exact h i j (by omega) (by omega) hij
theorem plan_rises {t : List NodeV} (h : Sound t) : RisesE (planL t) := fun i j hi hj hij => by
 rw [planL_len] at hi hj
 rw [planL_at t i hi, planL_at t j hj, planE_path, planE_path]
 exact rises_get h.rises i j hi hj hij
theorem pathE_ne {p : List UInt8} (h : pathE p = 0) : p ≠ [] := fun e => by
 rw [e] at h
 exact absurd h (by decide +kernel)
theorem node_kinds {x : NodeV} (h : nodE x = 0) : (x.kind = 1 ∧ x.target = [] ∧ x.data.length ≤ 2000) ∨ (x.kind = 2 ∧ x.target = [] ∧ x.data = [] ∧ x.same = 0) ∨ (x.kind = 3 ∧ x.target ≠ [] ∧ x.data = [] ∧ x.same = 0 ∧ hasB 0 x.target = false ∧ x.target.length ≤ 400) := by
 have hk := node_kind h
 unfold nodK at hk
 by_cases k1 : x.kind = 1
 ·rw [if_pos k1] at hk
  by_cases c1 : x.target ≠ [] ∨ x.same < 0
  ·rw [if_pos c1] at hk; cases hk
  ·rw [if_neg c1] at hk
   by_cases c2 : 2000 < x.data.length
   ·rw [if_pos c2] at hk; cases hk
   ·refine .inl ⟨k1, ?_, by omega⟩
    apply Classical.byContradiction
    intro hc
    exact c1 (.inl hc)
 ·rw [if_neg k1] at hk
  by_cases k2 : x.kind = 2 ∨ x.kind = 3
  ·rw [if_pos k2] at hk
   by_cases c1 : x.data ≠ [] ∨ x.same ≠ 0 ∨ (x.kind = 2 ∧ x.target ≠ []) ∨ (x.kind = 3 ∧ x.target = []) ∨ hasB 0 x.target = true
   ·rw [if_pos c1] at hk; cases hk
   ·rw [if_neg c1] at hk
    by_cases c2 : 400 < x.target.length
    ·rw [if_pos c2] at hk; cases hk
    ·have d1 : x.data = [] := Classical.byContradiction fun hc => c1 (.inl hc)
     have d2 : x.same = 0 := Classical.byContradiction fun hc => c1 (.inr (.inl hc))
     have d3 : hasB 0 x.target = false := by
      cases hb : hasB 0 x.target with
      | false => rfl
      | true => exact absurd (.inr (.inr (.inr (.inr hb)))) c1
     rcases k2 with k2 | k3
     ·exact .inr (.inl ⟨k2, Classical.byContradiction fun hc => c1 (.inr (.inr (.inl ⟨k2, hc⟩))), d1, d2⟩)
     ·exact .inr (.inr ⟨k3, fun hc => c1 (.inr (.inr (.inr (.inl ⟨k3, hc⟩)))), d1, d2, d3, by omega⟩)
  ·rw [if_neg k2] at hk; cases hk
theorem node_path' {x : NodeV} (h : nodE x = 0) : pathE x.path = 0 ∧ metE x.md = 0 := by
 unfold nodE at h
 by_cases hp : pathE x.path ≠ 0
 ·rw [if_pos hp] at h; exact absurd h hp
 ·rw [if_neg hp] at h
  by_cases hm : metE x.md ≠ 0
  ·rw [if_pos hm] at h; exact absurd h hm
  ·exact ⟨by simpa using hp, by simpa using hm⟩
theorem node_ent {x : NodeV} (h : nodE x = 0) : entE x.ent = 0 := by
 have hp := node_path' h
 have hk := node_kinds h
 have e : entE x.ent = entK x.ent := entE_kind hp.1 hp.2
 rw [e]
 unfold entK NodeV.ent
 simp only
 rcases hk with ⟨k, t, d⟩ | ⟨k, t, d, -⟩ | ⟨k, t, d, -, b, l⟩
 ·rw [k, t]
  rw [if_neg (by omega), if_neg (by simp), if_neg (by simp; omega), if_neg (by omega), if_neg (by decide)]
 ·rw [k, t, d]
  rw [if_neg (by omega), if_neg (by simp), if_neg (by simp), if_neg (by omega), if_neg (by decide)]
 ·rw [k, d]
  rw [if_neg (by omega), if_neg (by simp [t]), if_neg (by simp; omega), if_neg (by omega), if_neg (by rw [b]; decide)]
theorem link_at {t : List NodeV} (h : Sound t) {i : Nat} (hi : i < t.length) (hl : 0 < t[i].same ∧ firstF t i < i) :
  ∃ hf : firstF t i < t.length, (t[firstF t i]'hf).kind = 1 ∧ (t[firstF t i]'hf).md = t[i].md ∧ (t[firstF t i]'hf).data = t[i].data ∧ (t[firstF t i]'hf).same = t[i].same ∧ firstF t (firstF t i) = firstF t i ∧ t[i].kind = 1 ∧ t[i].target = [] := by
 have hf : firstF t i < t.length := by omega
 have he := (firstF_spec t i).2.1 hl.2
 obtain ⟨h1, h2⟩ := eqF_data h hf hi he
 have he2 : sameAt t i ≠ 0 ∧ sameAt t (firstF t i) = sameAt t i := of_decide_eq_true he
 rw [sameAt_at hi, sameAt_at hf] at he2
 have hk := (node_same (h.node _ (List.getElem_mem hf))).2 (by rw [he2.2]; exact he2.1)
 have hk2 := (node_same (h.node _ (List.getElem_mem hi))).2 he2.1
 refine ⟨hf, hk, h1, h2, he2.2, firstF_first t i, hk2, ?_⟩
 rcases node_kinds (h.node _ (List.getElem_mem hi)) with ⟨-, a, -⟩ | ⟨a, -⟩ | ⟨a, -⟩
 ·exact a
 ·rw [hk2] at a; cases a
 ·rw [hk2] at a; cases a
theorem planE_link {t : List NodeV} {i : Nat} (hi : i < t.length) (hl : 0 < t[i].same ∧ firstF t i < i) : planE t i t[i] = ⟨t[i].path, 4, (t[firstF t i]'(by omega)).path, t[i].md, []⟩ := by
 unfold planE
 rw [if_pos hl, List.getElem?_eq_getElem (by omega)]; rfl
theorem planE_self {t : List NodeV} {i : Nat} (hi : i < t.length) (hl : ¬ (0 < t[i].same ∧ firstF t i < i)) : planE t i t[i] = t[i].ent := by
 unfold planE; rw [if_neg hl]
theorem plan_ent {t : List NodeV} (h : Sound t) {i : Nat} (hi : i < t.length) : entE (planE t i t[i]) = 0 := by
 by_cases hl : 0 < t[i].same ∧ firstF t i < i
 ·rw [planE_link hi hl]
  obtain ⟨hf, -⟩ := link_at h hi hl
  have hn := h.node _ (List.getElem_mem hi)
  have hp := (node_path' (h.node _ (List.getElem_mem hf))).1
  rw [entE_kind (n := ⟨_, _, _, _, _⟩) (node_path' hn).1 (node_path' hn).2]
  unfold entK
  simp only
  have h1 := pathE_ne hp
  have h2 := pathE_len hp
  rw [if_neg (by omega), if_neg (by simp [h1]), if_neg (by simp; omega), if_pos trivial, hp]
 ·rw [planE_self hi hl]
  exact node_ent (h.node _ (List.getElem_mem hi))
theorem plan_good {t : List NodeV} (h : Sound t) (h40 : t.length ≤ 40) : entsE (planL t) = 0 := by
 rw [entsE_zero]
 refine ⟨by rw [planL_len]; exact h40, fun k hk => ?_⟩
 have hkt : k < t.length := by rwa [planL_len] at hk
 have hr := plan_rises h
 rw [planL_at t k hkt, eatE_zero]
 refine ⟨plan_ent h hkt, fun y hy => ?_, ?_, ?_⟩
 ·obtain ⟨h0, e⟩ := (elast_take (planL t) k hk y).1 hy
  subst e
  rw [planE_path, planL_at t (k - 1) (by omega), planE_path]
  exact rises_get h.rises (k - 1) k (by omega) hkt (by omega)
 ·rw [planE_path]
  unfold upE
  by_cases hu : upL t[k].path = []
  ·rw [decide_eq_true hu, Bool.true_or]
  ·rw [decide_eq_false hu, Bool.false_or]
   rcases h.up _ (List.getElem_mem hkt) with e | ⟨d, hd, e1, e2⟩
   ·exact absurd e hu
   ·have hd2 := rises_ahead h.rises k hkt d hd (by rw [e1]; exact up_before hu)
    obtain ⟨j, hj, hjd⟩ := List.mem_take_iff_getElem.1 hd2
    have hjt : j < t.length := by omega
    have hj2 : j < ((planL t).take k).length := by rw [List.length_take, planL_len]; omega
    have hg : ((planL t).take k)[j] = planE t j t[j] := by rw [List.getElem_take, planL_at t j hjt]
    have hf := findE_rise (hr.take k) j hj2 (s := upL t[k].path) (by rw [hg, planE_path, hjd, e1])
    have hs : t[j].same = 0 := by
     rcases node_kinds (h.node _ (List.getElem_mem hjt)) with ⟨a, -⟩ | ⟨-, -, -, a⟩ | ⟨a, -⟩
     ·rw [hjd, e2] at a; cases a
     ·exact a
     ·rw [hjd, e2] at a; cases a
    rw [dif_pos (by rw [hf]; exact hj2)]
    simp only [hf, hg]
    rw [planE_self hjt (by rw [hs]; omega)]
    show decide (t[j].kind = 2) = true
    rw [hjd]; exact decide_eq_true e2
 ·unfold aimE
  by_cases hl : 0 < t[k].same ∧ firstF t k < k
  ·obtain ⟨hf, b1, b2, b3, b4, b5, -, -⟩ := link_at h hkt hl
   rw [planE_link hkt hl]
   simp only
   rw [decide_eq_false (by simp), Bool.false_or]
   have hj2 : firstF t k < ((planL t).take k).length := by rw [List.length_take, planL_len]; omega
   have hg : ((planL t).take k)[firstF t k] = planE t (firstF t k) t[firstF t k] := by rw [List.getElem_take, planL_at t _ hf]
   have hfd := findE_rise (hr.take k) (firstF t k) hj2 (s := t[firstF t k].path) (by rw [hg, planE_path])
   have hself : planE t (firstF t k) t[firstF t k] = t[firstF t k].ent := planE_self hf (by rw [b5]; omega)
   rw [dif_pos (by rw [hfd]; exact hj2)]
   simp only [hfd, hg, hself]
   show (decide (t[firstF t k].kind = 1) && decide (t[firstF t k].md = t[k].md)) = true
   rw [decide_eq_true b1, decide_eq_true b2]; rfl
  ·rw [planE_self hkt hl]
   have : t[k].ent.kind ≠ 4 := by
    show t[k].kind ≠ 4
    rcases node_kinds (h.node _ (List.getElem_mem hkt)) with ⟨a, -⟩ | ⟨a, -⟩ | ⟨a, -⟩ <;> rw [a] <;> decide
   rw [decide_eq_true this, Bool.true_or]
def isL (t : List NodeV) (i : Nat) : Prop := ∃ hi : i < t.length, 0 < t[i].same ∧ firstF t i < i
end Go.Proofs.YtmejnabngfpbeaaGreatDoor
