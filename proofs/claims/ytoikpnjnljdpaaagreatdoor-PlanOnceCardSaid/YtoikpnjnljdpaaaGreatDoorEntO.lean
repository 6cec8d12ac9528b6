/- How package plan grows a tree: the nodes when i members have been turned; a map of the members' places. -/
import Derived.Test.YtoikpnjnljdpaaaGreatDoorEntR
import Derived.Test.YtoikpnjnljdpaaaGreatDoorLnp
set_option linter.unusedVariables false
set_option maxRecDepth 100000
namespace Go.Proofs.YtoikpnjnljdpaaaGreatDoor
open Go.RowKit
open Go.OpenShut
def growP (l : List EntV) (i j : Nat) (x : EntV) : NodeV :=
  if x.kind = 4 then growE l j x else ⟨x.path, x.kind, smE (l.take i) j x, x.target, x.md, x.data⟩
def growK (l : List EntV) (i : Nat) : List NodeV := (l.take i).mapIdx fun j x => growP l i j x
theorem growK_len (l : List EntV) (i : Nat) (h : i ≤ l.length) : (growK l i).length = i := by unfold growK; rw [List.length_mapIdx, List.length_take]; omega
theorem growK_at (l : List EntV) (i j : Nat) (h : i ≤ l.length) (hj : j < i) : (growK l i)[j]'(by rw [growK_len l i h]; exact hj) = growP l i j (l[j]'(by omega)) := by
  unfold growK; rw [List.getElem_mapIdx, List.getElem_take]
theorem growK_zero (l : List EntV) : growK l 0 = [] := rfl
theorem growK_all (l : List EntV) : growK l l.length = growL l := by
  apply List.ext_getElem
  · rw [growK_len l _ (Nat.le_refl _), growL_len]
  · intro j h1 h2
    rw [growL_len] at h2
    rw [growK_at l _ j (Nat.le_refl _) h2, growL_at l j h2]
    unfold growP growE smE anyE
    rw [List.take_length]
    split
    · rfl
    · rfl
theorem find_self {l : List EntV} (h : ewalkE [] l = 0) {k : Nat} (hk : k < l.length) : findE l l[k].path = k := by
  refine findE_stop l _ k hk ?_ rfl
  have h1 := find_new h hk
  apply Classical.byContradiction
  intro hc
  have h2 : findE l l[k].path < k := by omega
  have h3 := findE_at l l[k].path (by omega)
  refine findE_ne (l.take k) l[k].path (findE l l[k].path) (by rw [h1]; exact h2) (by rw [List.length_take]; omega) ?_
  rw [List.getElem_take]; exact h3
theorem growK_link {l : List EntV} (h : entsE l = 0) {i : Nat} (hi : i < l.length) (hk : l[i].kind = 4) (hf : findE l l[i].target < i) (hg : findE l l[i].target < (growK l i).length) :
    growK l (i + 1) = ((growK l i).set (findE l l[i].target) { (growK l i)[findE l l[i].target] with same := ((findE l l[i].target : Nat) : Int) + 1 }) ++ [growE l i l[i]] := by
  have hw : ewalkE [] l = 0 := by
    unfold entsE at h
    split at h
    · cases h
    · exact h
  obtain ⟨hfl, -, hf1, hfm⟩ := aim_at h hi hk
  have hft := findE_at l l[i].target hfl
  apply List.ext_getElem
  · rw [growK_len l _ (by omega), List.length_append, List.length_set, growK_len l _ (by omega)]; rfl
  · intro j h1 h2
    rw [growK_len l _ (by omega)] at h1
    rw [growK_at l (i + 1) j (by omega) h1]
    by_cases hji : j = i
    · subst hji
      rw [List.getElem_append_right (by rw [List.length_set, growK_len l _ (by omega)]; exact Nat.le_refl _)]
      simp only [List.length_set, growK_len l j (by omega), Nat.sub_self, List.getElem_cons_zero]
      unfold growP; rw [if_pos hk]
    · have hlt : j < i := by omega
      rw [List.getElem_append_left (by rw [List.length_set, growK_len l _ (by omega)]; exact hlt), List.getElem_set]
      have hsm := smE_snoc l j l[j] i hi _ rfl
      rw [decide_eq_true hk, Bool.true_and] at hsm
      by_cases hjf : findE l l[i].target = j
      · rw [if_pos hjf]
        subst hjf
        simp only [growK_at l i _ (by omega) hlt]
        unfold growP
        rw [if_neg (by rw [hf1]; decide), if_neg (by rw [hf1]; decide)]
        rw [hsm, decide_eq_true hft.symm, decide_eq_true hf1]
        rfl
      · rw [if_neg hjf, growK_at l i j (by omega) hlt]
        unfold growP
        have hne : l[i].target ≠ l[j].path := fun e => hjf (by rw [e]; exact find_self hw (by omega))
        rw [hsm, decide_eq_false hne]
        rfl
theorem growK_plain {l : List EntV} (h : entsE l = 0) {i : Nat} (hi : i < l.length) (hk : l[i].kind ≠ 4) :
    growK l (i + 1) = growK l i ++ [⟨l[i].path, l[i].kind, 0, l[i].target, l[i].md, l[i].data⟩] := by
  have hw : ewalkE [] l = 0 := by
    unfold entsE at h
    split at h
    · cases h
    · exact h
  apply List.ext_getElem
  · rw [growK_len l _ (by omega), List.length_append, growK_len l _ (by omega)]; rfl
  · intro j h1 h2
    rw [growK_len l _ (by omega)] at h1
    rw [growK_at l (i + 1) j (by omega) h1]
    by_cases hji : j = i
    · subst hji
      rw [List.getElem_append_right (by rw [growK_len l _ (by omega)]; exact Nat.le_refl _)]
      simp only [growK_len l j (by omega), Nat.sub_self, List.getElem_cons_zero]
      unfold growP; rw [if_neg hk]
      have h0 : smE (l.take (j + 1)) j l[j] = 0 := by
        unfold smE
        rw [if_neg]
        rintro ⟨-, ha⟩
        unfold anyE at ha
        obtain ⟨y, hy, hy2⟩ := List.any_eq_true.1 ha
        rw [Bool.and_eq_true, decide_eq_true_eq, decide_eq_true_eq] at hy2
        obtain ⟨k, hkl, rfl⟩ := List.getElem_of_mem hy
        rw [List.length_take] at hkl
        rw [List.getElem_take] at hy2
        have hkj : k ≠ j := fun e => by subst e; exact hk hy2.1
        obtain ⟨-, a2, -⟩ := aim_at h (i := k) (by omega) hy2.1
        rw [hy2.2, find_self hw hi] at a2
        omega
      rw [h0]
    · have hlt : j < i := by omega
      rw [List.getElem_append_left (by rw [growK_len l _ (by omega)]; exact hlt), growK_at l i j (by omega) hlt]
      unfold growP
      have hsm := smE_snoc l j l[j] i hi _ rfl
      rw [decide_eq_false hk, Bool.false_and] at hsm
      rw [hsm]
      rfl
theorem MapS.far {w : World} {r : Nat} {f : ByteArray → Option Value} (h : MapS w r f) {p : Addr} (hp : r ≠ p.block) (u : Value) : MapS (w.setCell p u) r f := h.stays (Below.heap_setCell w p u r hp)
theorem row_map_ne {w : World} {B e size n r : Nat} {v : Value} {xs : List Value} {f : ByteArray → Option Value} (h : w.ownsRow B e size v n xs) (hm : MapS w r f) : ∀ g, v.ownBlock = some g → g ≠ r := by
  intro g hg e
  subst e
  obtain ⟨es, clock, hr, -⟩ := hm
  obtain ⟨-, cur, hc⟩ := own_block h g hg
  rw [hc] at hr
  cases hr
theorem MapS.grown {w w' : World} {B e size n r : Nat} {v : Value} {xs : List Value} {f : ByteArray → Option Value} (hm : MapS w r f) (h : w.ownsRow B e size v n xs) (hg : w.grownBy w' v.ownBlock) : MapS w' r f :=
  hm.stays (hg.block r hm.lt fun e => row_map_ne h hm r e.symm rfl)
/-- a map of the places of the members met, by their paths -/
def PlcE (w : World) (r : Nat) (t : List EntV) : Prop :=
  ∃ f, MapS w r f ∧ ∀ s : List UInt8, f (bs s) = if findE t s < t.length then some (.int .i64 ((findE t s : Nat) : Int)) else none
theorem PlcE.below {w w' : World} {r : Nat} {t : List EntV} (h : PlcE w r t) (hb : Below w.heap.size w w') : PlcE w' r t := by
  obtain ⟨f, h1, h2⟩ := h
  exact ⟨f, h1.below hb, h2⟩
theorem PlcE.far {w : World} {r : Nat} {t : List EntV} (h : PlcE w r t) {p : Addr} (hp : r ≠ p.block) (u : Value) : PlcE (w.setCell p u) r t := by
  obtain ⟨f, h1, h2⟩ := h
  exact ⟨f, h1.far hp u, h2⟩
theorem PlcE.row_ne {w : World} {r : Nat} {t : List EntV} (h : PlcE w r t) {B e size n : Nat} {v : Value} {xs : List Value} (h' : w.ownsRow B e size v n xs) : ∀ g, v.ownBlock = some g → g ≠ r := by
  obtain ⟨f, h1, h2⟩ := h
  exact row_map_ne h' h1
theorem PlcE.grown {w w' : World} {r : Nat} {t : List EntV} (h : PlcE w r t) {B e size n : Nat} {v : Value} {xs : List Value} (h' : w.ownsRow B e size v n xs) (hg : w.grownBy w' v.ownBlock) : PlcE w' r t := by
  obtain ⟨f, h1, h2⟩ := h
  exact ⟨f, h1.grown h' hg, h2⟩
theorem PlcE.lt {w : World} {r : Nat} {t : List EntV} (h : PlcE w r t) : r < w.heap.size := by
  obtain ⟨f, h1, h2⟩ := h
  exact h1.lt
theorem PlcE.new (w : World) : PlcE (w.alloc (.map #[] 0)) w.heap.size [] := ⟨_, MapS.new w, fun s => by rw [if_neg (by simp)]⟩
theorem PlcE.look {w : World} {r : Nat} {t : List EntV} (h : PlcE w r t) (s : List UInt8) (hf : findE t s < t.length) :
    (Instr.lookup 69 (.map (some r)) (.string (bs s)) false).run Tryz.prog w = .ok (.int .i64 ((findE t s : Nat) : Int)) w := by
  obtain ⟨f, h1, h2⟩ := h
  have hl := MapS.look (P := Tryz.prog) (et := 3) Tryz.underlying69 Tryz.underlying9 h1 (bs s) (z := .int .i64 0) (fun W => by kernel_rfl) false
  rw [if_neg (by decide), h2 s, if_pos hf] at hl
  exact hl
theorem PlcE.put {w : World} {r : Nat} {t : List EntV} (h : PlcE w r t) (x : EntV) (hx : findE t x.path = t.length) :
    ∃ w', (Instr.mapUpdate 69 (.map (some r)) (.string (bs x.path)) (.int .i64 (t.length : Int))).run Tryz.prog w = .ok () w' ∧ (∀ w0 B, B ≤ r → Below B w0 w → Below B w0 w') ∧
      (∀ (g : Nat), g ≠ r → w'.heap[g]? = w.heap[g]?) ∧ PlcE w' r (t ++ [x]) := by
  obtain ⟨f, h1, h2⟩ := h
  have hn : f (bs x.path) = none := by
    rw [h2 x.path, if_neg (by omega)]
  obtain ⟨w', a1, a2, a3, -, a5⟩ := MapS.put (P := Tryz.prog) (et := 3) Tryz.underlying69 Tryz.underlying9 h1 (bs x.path) (.int .i64 (t.length : Int)) (fun v' e => by rw [hn] at e; cases e)
  refine ⟨w', a1, a2, a3, _, a5, fun s => ?_⟩
  have h3 := h2 s
  have hll : (t ++ [x]).length = t.length + 1 := by simp
  by_cases hf : findE t s < t.length
  · rw [if_pos hf] at h3
    have hs := find_snoc_yes x hf
    have hne : ¬ bs s = bs x.path := fun e => by
      rw [bs_inj e] at hf; omega
    show (if bs s = bs x.path then some (Value.int .i64 (t.length : Int)) else f (bs s)) = _
    rw [if_neg hne, h3, if_pos (by rw [hs, hll]; omega), hs]
  · rw [if_neg hf] at h3
    have hs := find_snoc_no x hf
    by_cases e : x.path = s
    · rw [if_pos e] at hs
      show (if bs s = bs x.path then some (Value.int .i64 (t.length : Int)) else f (bs s)) = _
      rw [if_pos (by rw [e]), if_pos (by rw [hs, hll]; omega), hs]
    · rw [if_neg e] at hs
      have hne : ¬ bs s = bs x.path := fun e' => e (bs_inj e').symm
      show (if bs s = bs x.path then some (Value.int .i64 (t.length : Int)) else f (bs s)) = _
      rw [if_neg hne, h3, if_neg (by rw [hs, hll]; omega)]
end Go.Proofs.YtoikpnjnljdpaaaGreatDoor
