/- Plain mathematics of stable sorting in place, second part: searches by halving, insertions, the merging step; nothing of the program. -/
import Derived.Test.YtmgndhdikleagaaStbM
set_option linter.unusedVariables false
namespace Go.Proofs.Ytmgndhdikleagaa
open Go.RowKit
/-- the path at a place -/
def pa (t : List NodeV) (h : Nat) : List UInt8 := match t[h]? with | some x => x.path | none => []
theorem pa_get (t : List NodeV) (h : Nat) (hh : h < t.length) : pa t h = t[h].path := by unfold pa; rw [List.getElem?_eq_getElem hh]
/-- a node on its way through a row, k places gone -/
def mvR (P : List NodeV) (x : NodeV) (Y S : List NodeV) (k : Nat) : List NodeV := P ++ (Y.take k ++ x :: (Y.drop k ++ S))
theorem mvR_len (P : List NodeV) (x : NodeV) (Y S : List NodeV) (k : Nat) : (mvR P x Y S k).length = P.length + 1 + Y.length + S.length := by
  unfold mvR; simp only [List.length_append, List.length_cons, List.length_take, List.length_drop]; omega
theorem mvR_zero (P : List NodeV) (x : NodeV) (Y S : List NodeV) : mvR P x Y S 0 = P ++ x :: Y ++ S := by unfold mvR; simp
theorem mvR_all (P : List NodeV) (x : NodeV) (Y S : List NodeV) {n : Nat} (h : Y.length = n) : mvR P x Y S n = P ++ (Y ++ [x]) ++ S := by
  unfold mvR; rw [List.take_of_length_le (by omega), List.drop_eq_nil_of_le (by omega)]; simp
theorem mvR_right (P : List NodeV) (x : NodeV) (Y S : List NodeV) {k : Nat} (hk : k < Y.length) : swT (mvR P x Y S k) (P.length + k) (P.length + k + 1) = mvR P x Y S (k + 1) := by
  have h1 : Y.drop k = Y[k] :: Y.drop (k + 1) := List.drop_eq_getElem_cons hk
  have e1 : mvR P x Y S k = (P ++ Y.take k) ++ x :: ([] ++ Y[k] :: (Y.drop (k + 1) ++ S)) := by unfold mvR; rw [h1]; simp only [List.append_assoc, List.cons_append, List.nil_append]
  have e2 : mvR P x Y S (k + 1) = (P ++ Y.take k) ++ Y[k] :: ([] ++ x :: (Y.drop (k + 1) ++ S)) := by unfold mvR; rw [List.take_succ_eq_append_getElem hk]; simp only [List.append_assoc, List.cons_append, List.nil_append]
  rw [e1, e2]
  exact swT_at (by rw [List.length_append, List.length_take]; omega) (by simp)
theorem mvR_left (P : List NodeV) (x : NodeV) (Y S : List NodeV) {k : Nat} (hk : k < Y.length) : swT (mvR P x Y S (k + 1)) (P.length + k + 1) (P.length + k) = mvR P x Y S k := by
  have h1 : Y.drop k = Y[k] :: Y.drop (k + 1) := List.drop_eq_getElem_cons hk
  have e1 : mvR P x Y S k = (P ++ Y.take k) ++ x :: ([] ++ Y[k] :: (Y.drop (k + 1) ++ S)) := by unfold mvR; rw [h1]; simp only [List.append_assoc, List.cons_append, List.nil_append]
  have e2 : mvR P x Y S (k + 1) = (P ++ Y.take k) ++ Y[k] :: ([] ++ x :: (Y.drop (k + 1) ++ S)) := by unfold mvR; rw [List.take_succ_eq_append_getElem hk]; simp only [List.append_assoc, List.cons_append, List.nil_append]
  rw [swT_comm, e1, e2]
  exact swT_at (by rw [List.length_append, List.length_take]; omega) (by simp)
theorem mvR_at (P : List NodeV) (x : NodeV) (Y S : List NodeV) {k : Nat} (hk : k ≤ Y.length) : pa (mvR P x Y S k) (P.length + k) = x.path := by
  have e : mvR P x Y S k = (P ++ Y.take k) ++ x :: (Y.drop k ++ S) := by unfold mvR; simp
  have hl : (P ++ Y.take k).length = P.length + k := by rw [List.length_append, List.length_take]; omega
  unfold pa
  rw [e, ← hl, List.getElem?_append_right (Nat.le_refl _), Nat.sub_self]; rfl
theorem mvR_before (P : List NodeV) (x : NodeV) (Y S : List NodeV) {k : Nat} (hk : k < Y.length) : pa (mvR P x Y S (k + 1)) (P.length + k) = Y[k].path := by
  have e : mvR P x Y S (k + 1) = (P ++ Y.take k) ++ Y[k] :: (x :: (Y.drop (k + 1) ++ S)) := by unfold mvR; rw [List.take_succ_eq_append_getElem hk]; simp only [List.append_assoc, List.cons_append, List.nil_append]
  have hl : (P ++ Y.take k).length = P.length + k := by rw [List.length_append, List.length_take]; omega
  unfold pa
  rw [e, ← hl, List.getElem?_append_right (Nat.le_refl _), Nat.sub_self]; rfl
/-- a node put in from behind stands behind all that are no greater -/
theorem ins_left {Z : List NodeV} (hZ : Sorts Z) (y : NodeV) (k : Nat) (hk : k ≤ Z.length) (h1 : ∀ j (hj : j < Z.length), j + 1 = k → pcmp Z[j].path y.path ≤ 0) (h2 : ∀ z ∈ Z.drop k, pcmp y.path z.path < 0) :
    sortT (Z ++ [y]) = Z.take k ++ y :: Z.drop k := by
  have hle : ∀ x ∈ Z.take k, pcmp x.path y.path ≤ 0 := fun x hx => by
    obtain ⟨i, hi, rfl⟩ := List.mem_take_iff_getElem.1 hx
    obtain ⟨j, hj⟩ : ∃ j, j + 1 = k := ⟨k - 1, by omega⟩
    exact pcmp_trans _ _ _ (sorts_get hZ i j (by omega) (by omega) (by omega)) (h1 j (by omega) hj)
  have hZ' : Sorts (Z.take k ++ Z.drop k) := by rw [List.take_append_drop]; exact hZ
  have hm := merge_at (X1 := Z.take k) (X2 := Z.drop k) (Y1 := [y]) (Y2 := []) hZ' (by simp [Sorts]) (fun _ _ _ h => by simp at h) fun x hx y' hy => by
    obtain rfl : y' = y := by simpa using hy
    exact h2 x hx
  rw [List.take_append_drop, List.append_nil, List.append_nil] at hm
  have hs : Sorts (Z.take k ++ [y]) := app_sorts (sorts_app hZ').1 (by simp [Sorts]) fun x hx y' hy => by
    obtain rfl : y' = y := by simpa using hy
    exact hle x hx
  rw [hm, sortT_sorted (sorts_app hZ').2.1, sortT_sorted hs, List.append_assoc, List.singleton_append]
/-- a node put in from the front stands in front of all that are no less -/
theorem ins_right {Y : List NodeV} (hY : Sorts Y) (x : NodeV) (k : Nat) (hk : k ≤ Y.length) (h1 : ∀ j (hj : j < Y.length), j + 1 = k → pcmp Y[j].path x.path < 0) (h2 : ∀ (hj : k < Y.length), ¬ pcmp Y[k].path x.path < 0) :
    sortT (x :: Y) = Y.take k ++ x :: Y.drop k := by
  have hlt : ∀ z ∈ Y.take k, pcmp z.path x.path < 0 := fun z hz => by
    obtain ⟨i, hi, rfl⟩ := List.mem_take_iff_getElem.1 hz
    obtain ⟨j, hj⟩ : ∃ j, j + 1 = k := ⟨k - 1, by omega⟩
    exact pcmp_le_lt (sorts_get hY i j (by omega) (by omega) (by omega)) (h1 j (by omega) hj)
  have hge : ∀ z ∈ Y.drop k, pcmp x.path z.path ≤ 0 := fun z hz => by
    obtain ⟨i, hi, rfl⟩ := List.mem_drop_iff_getElem.1 hz
    have h3 := h2 (by omega)
    have h4 := sorts_get hY k (k + i) (by omega) (by omega) (by omega)
    have h5 := pcmp_neg Y[k].path x.path
    exact pcmp_trans _ _ _ (by omega) h4
  have hY' : Sorts (Y.take k ++ Y.drop k) := by rw [List.take_append_drop]; exact hY
  have hm := merge_at (X1 := []) (X2 := [x]) (Y1 := Y.take k) (Y2 := Y.drop k) (by simp [Sorts]) hY' (fun _ h => by simp at h) fun x' hx y hy => by
    obtain rfl : x' = x := by simpa using hx
    exact hlt y hy
  rw [List.take_append_drop] at hm
  have hs : Sorts ([x] ++ Y.drop k) := app_sorts (by simp [Sorts]) (sorts_app hY').2.1 fun x' hx y hy => by
    obtain rfl : x' = x := by simpa using hx
    exact hge y hy
  rw [show x :: Y = [] ++ [x] ++ Y from rfl, hm, List.nil_append, sortT_sorted (sorts_app hY').1, sortT_sorted hs, List.singleton_append]
/-- the end of a search by halving -/
def Srch (f : Nat → Bool) (lo hi i j : Nat) : Prop := lo ≤ i ∧ i ≤ j ∧ j ≤ hi ∧ (i = lo ∨ f (i - 1) = true) ∧ (j = hi ∨ f j = false)
theorem Srch.start (f : Nat → Bool) {lo hi : Nat} (h : lo ≤ hi) : Srch f lo hi lo hi := ⟨Nat.le_refl _, h, Nat.le_refl _, .inl rfl, .inl rfl⟩
theorem Srch.up {f : Nat → Bool} {lo hi i j h : Nat} (hs : Srch f lo hi i j) (h1 : i ≤ h) (h2 : h < j) (hf : f h = true) : Srch f lo hi (h + 1) j :=
  ⟨by have := hs.1; omega, h2, hs.2.2.1, .inr hf, hs.2.2.2.2⟩
theorem Srch.down {f : Nat → Bool} {lo hi i j h : Nat} (hs : Srch f lo hi i j) (h1 : i ≤ h) (h2 : h < j) (hf : f h = false) : Srch f lo hi i h :=
  ⟨hs.1, h1, by have := hs.2.2.1; omega, hs.2.2.2.1, .inr hf⟩
/-- the merging step: where the search ends, both halves may be merged by themselves -/
theorem sym_step {t : List NodeV} {a m b s : Nat} (ham : a < m) (hmb : m < b) (hb : b ≤ t.length) (hX : Sorts (rng t a m)) (hY : Sorts (rng t m b))
    (hs : Srch (fun c => !decide (pcmp (pa t ((a + b) / 2 + m - 1 - c)) (pa t c) < 0)) (if (a + b) / 2 < m then (a + b) / 2 + m - b else a) (if (a + b) / 2 < m then (a + b) / 2 else m) s s) :
    ∃ P X1 X2 Y1 Y2 S e, e = (a + b) / 2 + m - s ∧ t = P ++ X1 ++ X2 ++ Y1 ++ Y2 ++ S ∧ P.length = a ∧ a ≤ s ∧ s ≤ m ∧ s ≤ (a + b) / 2 ∧ m ≤ e ∧ (a + b) / 2 ≤ e ∧ e ≤ b ∧ X1.length = s - a ∧ X2.length = m - s ∧ Y1.length = e - m ∧ Y2.length = b - e ∧
      Sorts X1 ∧ Sorts X2 ∧ Sorts Y1 ∧ Sorts Y2 ∧ sortT (rng t a b) = sortT (X1 ++ Y1) ++ sortT (X2 ++ Y2) := by
  obtain ⟨h1, -, h2, h3, h4⟩ := hs
  have hlo : a ≤ s ∧ s ≤ m ∧ s ≤ (a + b) / 2 ∧ m ≤ (a + b) / 2 + m - s ∧ (a + b) / 2 ≤ (a + b) / 2 + m - s ∧ (a + b) / 2 + m - s ≤ b := by
    split at h1 <;> split at h2 <;> omega
  obtain ⟨e, he⟩ : ∃ e, e = (a + b) / 2 + m - s := ⟨_, rfl⟩
  rw [← he] at hlo
  obtain ⟨q1, q2, q3, q4, q5, q6⟩ := hlo
  have hc : t = t.take a ++ rng t a s ++ rng t s m ++ rng t m e ++ rng t e b ++ t.drop b := by
    have e1 : t.take a ++ rng t a s = t.take s := by
      unfold rng
      have h1 : t.take a = (t.take s).take a := by rw [List.take_take, Nat.min_eq_left q1]
      rw [h1, List.take_append_drop]
    have e2 : t.take s ++ rng t s m = t.take m := by
      unfold rng
      have h1 : t.take s = (t.take m).take s := by rw [List.take_take, Nat.min_eq_left q2]
      rw [h1, List.take_append_drop]
    have e3 : t.take m ++ rng t m e = t.take e := by
      unfold rng
      have h1 : t.take m = (t.take e).take m := by rw [List.take_take, Nat.min_eq_left q4]
      rw [h1, List.take_append_drop]
    have e4 : t.take e ++ rng t e b = t.take b := by
      unfold rng
      have h1 : t.take e = (t.take b).take e := by rw [List.take_take, Nat.min_eq_left q6]
      rw [h1, List.take_append_drop]
    rw [e1, e2, e3, e4, List.take_append_drop]
  have l0 : (t.take a).length = a := by rw [List.length_take]; omega
  have l1 := rng_len t a s (by omega)
  have l2 := rng_len t s m (by omega)
  have l3 := rng_len t m e (by omega)
  have l4 := rng_len t e b (by omega)
  have d1 : t = t.take a ++ (rng t a s ++ rng t s m) ++ (rng t m e ++ rng t e b ++ t.drop b) := by
    conv => lhs; rw [hc]
    simp only [List.append_assoc]
  have d2 : t = t.take a ++ rng t a s ++ rng t s m ++ (rng t m e ++ rng t e b) ++ t.drop b := by
    conv => lhs; rw [hc]
    simp only [List.append_assoc]
  have d3 : t = t.take a ++ (rng t a s ++ rng t s m ++ (rng t m e ++ rng t e b)) ++ t.drop b := by
    conv => lhs; rw [hc]
    simp only [List.append_assoc]
  have c1 : rng t a m = rng t a s ++ rng t s m := rng_eq d1 l0 (by rw [List.length_append]; omega)
  have c2 : rng t m b = rng t m e ++ rng t e b := rng_eq d2 (by simp only [List.length_append]; omega) (by simp only [List.length_append]; omega)
  have c3 : rng t a b = rng t a s ++ rng t s m ++ (rng t m e ++ rng t e b) := rng_eq d3 l0 (by simp only [List.length_append]; omega)
  rw [c1] at hX
  rw [c2] at hY
  obtain ⟨sX1, sX2, -⟩ := sorts_app hX
  obtain ⟨sY1, sY2, -⟩ := sorts_app hY
  refine ⟨_, _, _, _, _, _, e, he, hc, l0, q1, q2, q3, q4, q5, q6, l1, l2, l3, l4, sX1, sX2, sY1, sY2, ?_⟩
  rw [c3]
  refine merge_at hX hY (fun x hx y hy => ?_) fun x hx y hy => ?_
  · obtain ⟨i, hi, rfl⟩ := List.getElem_of_mem hx
    obtain ⟨j, hj, rfl⟩ := List.getElem_of_mem hy
    have hs0 : ¬ s = if (a + b) / 2 < m then (a + b) / 2 + m - b else a := by
      intro hq
      split at hq <;> omega
    have hf := h3.resolve_left hs0
    have hf2 : ¬ pcmp (pa t ((a + b) / 2 + m - 1 - (s - 1))) (pa t (s - 1)) < 0 := by simpa using hf
    have hidx : (a + b) / 2 + m - 1 - (s - 1) = e := by omega
    rw [hidx, pa_get t e (by omega), pa_get t (s - 1) (by omega)] at hf2
    have hn := pcmp_neg (t[e]'(by omega)).path (t[s - 1]'(by omega)).path
    have g1 := sorts_get sX1 i (s - 1 - a) hi (by omega) (by omega)
    have g2 := sorts_get sY2 0 j (by omega) hj (by omega)
    rw [rng_get t a s (s - 1 - a) (by omega) (by omega)] at g1
    rw [rng_get t e b 0 (by omega) (by omega)] at g2
    simp only [show a + (s - 1 - a) = s - 1 by omega] at g1
    simp only [Nat.add_zero] at g2
    exact pcmp_trans _ _ _ g1 (pcmp_trans _ _ _ (by omega) g2)
  · obtain ⟨i, hi, rfl⟩ := List.getElem_of_mem hx
    obtain ⟨j, hj, rfl⟩ := List.getElem_of_mem hy
    have hs0 : ¬ s = if (a + b) / 2 < m then (a + b) / 2 else m := by
      intro hq
      split at hq <;> omega
    have hf := h4.resolve_left hs0
    have hf2 : pcmp (pa t ((a + b) / 2 + m - 1 - s)) (pa t s) < 0 := by simpa using hf
    have hidx : (a + b) / 2 + m - 1 - s = e - 1 := by omega
    rw [hidx, pa_get t (e - 1) (by omega), pa_get t s (by omega)] at hf2
    have g1 := sorts_get sX2 0 i (by omega) hi (by omega)
    have g2 := sorts_get sY1 j (e - 1 - m) hj (by omega) (by omega)
    rw [rng_get t s m 0 (by omega) (by omega)] at g1
    rw [rng_get t m e (e - 1 - m) (by omega) (by omega)] at g2
    simp only [show m + (e - 1 - m) = e - 1 by omega] at g2
    simp only [Nat.add_zero] at g1
    exact pcmp_le_lt g2 (pcmp_lt_le hf2 g1)
end Go.Proofs.Ytmgndhdikleagaa
