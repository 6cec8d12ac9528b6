/- Members met: the one with a path; a map of them. -/
import Derived.Test.YtdcbmjihpjnbbaaDoorEntP
import Derived.Test.YtdcbmjihpjnbbaaDoorEntI
import Derived.Test.YtdcbmjihpjnbbaaDoorMps
import Derived.Test.YtdcbmjihpjnbbaaDoorNod
set_option linter.unusedVariables false
set_option maxRecDepth 100000
namespace Go.Proofs.YtdcbmjihpjnbbaaDoor
open Go.RowKit
open Go.OpenShut
theorem ents_rise (l : List EntV) (h : ewalkE [] l = 0) : ∀ k, k ≤ l.length → Rises ((l.take k).map EntV.nod) := by
  intro k
  induction k with
  | zero => intro _; rw [List.take_zero]; exact List.Pairwise.nil
  | succ k ih =>
    intro hk
    have hk1 : k < l.length := by omega
    rw [List.take_succ_eq_append_getElem hk1, List.map_append]
    refine rises_snoc (ih (by omega)) fun x hx => ?_
    rw [List.getLast?_map] at hx
    have h1 := ((ewalkE_all l []).1 h k hk1)
    rw [List.nil_append] at h1
    have h2 := ((eatE_zero _ _).1 h1).2.1
    cases hg : (l.take k).getLast? with
    | none => rw [hg] at hx; cases hx
    | some y =>
      rw [hg] at hx
      injection hx with hx
      rw [← hx]
      exact h2 y hg
/-- a member with a path of its own behind sound ones: no member ahead has it -/
theorem find_new {l : List EntV} (h : ewalkE [] l = 0) {k : Nat} (hk : k < l.length) : findE (l.take k) l[k].path = k := by
  have hr := ents_rise l h (k + 1) (by omega)
  rw [List.take_succ_eq_append_getElem hk, List.map_append, List.map_singleton, Rises, List.pairwise_append] at hr
  have hl := findE_le (l.take k) l[k].path
  rw [List.length_take] at hl
  apply Classical.byContradiction
  intro hc
  have hlt : findE (l.take k) l[k].path < (l.take k).length := by rw [List.length_take]; omega
  have h1 := findE_at _ _ hlt
  have h2 := hr.2.2 _ (List.mem_map.2 ⟨_, List.getElem_mem hlt, rfl⟩) _ (List.mem_singleton.2 rfl)
  have h3 : pcmp (l.take k)[findE (l.take k) l[k].path].path l[k].path = -1 := h2
  rw [h1, pcmp_self] at h3
  cases h3
/-- the member with a path, or none -/
def gotE (t : List EntV) (s : List UInt8) : EntV := if h : findE t s < t.length then t[findE t s]'h else default
theorem got_yes {t : List EntV} {s : List UInt8} (h : findE t s < t.length) : gotE t s = t[findE t s]'h := dif_pos h
theorem got_no {t : List EntV} {s : List UInt8} (h : ¬ findE t s < t.length) : gotE t s = default := dif_neg h
theorem upE_got (t : List EntV) (p : List UInt8) : upE t p = (decide (upL p = []) || decide ((gotE t (upL p)).kind = 2)) := by
  unfold upE
  by_cases h : findE t (upL p) < t.length
  · rw [dif_pos h, got_yes h]
  · rw [dif_neg h, got_no h]
    rfl
theorem aimE_got (t : List EntV) (x : EntV) : aimE t x = (decide (x.kind ≠ 4) || (decide ((gotE t x.target).kind = 1) && decide ((gotE t x.target).md = x.md))) := by
  unfold aimE
  by_cases h : findE t x.target < t.length
  · rw [dif_pos h, got_yes h]
  · rw [dif_neg h, got_no h]
    rfl
theorem find_snoc_yes {t : List EntV} {s : List UInt8} (x : EntV) (h : findE t s < t.length) : findE (t ++ [x]) s = findE t s := by
  have h2 := findE_at t s h
  refine findE_stop (t ++ [x]) s _ (by rw [List.length_append]; omega) ?_ (by rw [List.getElem_append_left h]; exact h2)
  apply Classical.byContradiction
  intro hc
  have h3 : findE (t ++ [x]) s < findE t s := by omega
  have h4 : findE (t ++ [x]) s < t.length := by omega
  have h5 := findE_at (t ++ [x]) s (by rw [List.length_append]; omega)
  rw [List.getElem_append_left h4] at h5
  exact findE_ne t s _ h3 h4 h5
theorem find_snoc_no {t : List EntV} {s : List UInt8} (x : EntV) (h : ¬ findE t s < t.length) : findE (t ++ [x]) s = if x.path = s then t.length else t.length + 1 := by
  have hge : t.length ≤ findE (t ++ [x]) s := by
    apply Classical.byContradiction
    intro hc
    have h4 : findE (t ++ [x]) s < t.length := by omega
    have h5 := findE_at (t ++ [x]) s (by rw [List.length_append]; omega)
    rw [List.getElem_append_left h4] at h5
    exact h (by
      have := findE_le t s
      rcases Nat.lt_or_eq_of_le this with a | a
      · exact a
      · exact absurd h5 (findE_ne t s _ (by omega) h4))
  have hle := findE_le (t ++ [x]) s
  rw [List.length_append, List.length_singleton] at hle
  have hl : t.length < (t ++ [x]).length := by simp
  have hx : (t ++ [x])[t.length]'hl = x := by simp
  by_cases e : x.path = s
  · rw [if_pos e]
    exact findE_stop (t ++ [x]) s _ hl hge (by rw [hx]; exact e)
  · rw [if_neg e]
    have := findE_step (t ++ [x]) s _ hl hge (by rw [hx]; exact e)
    omega
/-- a map of the members met, by their paths -/
def MetE (w : World) (r : Nat) (t : List EntV) : Prop :=
  ∃ f, MapS w r f ∧ ∀ s : List UInt8, if findE t s < t.length then ∃ D c, f (bs s) = some (.agg (entC (gotE t s) D c).toArray) else f (bs s) = none
theorem MetE.below {w w' : World} {r : Nat} {t : List EntV} (h : MetE w r t) (hb : Below w.heap.size w w') : MetE w' r t := by
  obtain ⟨f, h1, h2⟩ := h
  exact ⟨f, h1.below hb, h2⟩
theorem MetE.lt {w : World} {r : Nat} {t : List EntV} (h : MetE w r t) : r < w.heap.size := by
  obtain ⟨f, h1, h2⟩ := h
  exact h1.lt
theorem MetE.new (w : World) : MetE (w.alloc (.map #[] 0)) w.heap.size [] := ⟨_, MapS.new w, fun s => by rw [if_neg (by simp)]⟩
theorem zero_ent (W : World) : (zeroValue 30).run Tryd.prog W = .ok (.agg (entC default none 0).toArray) W := by kernel_rfl
theorem MetE.look {w : World} {r : Nat} {t : List EntV} (h : MetE w r t) (s : List UInt8) :
    ∃ D c, (Instr.lookup 73 (.map (some r)) (.string (bs s)) false).run Tryd.prog w = .ok (.agg (entC (gotE t s) D c).toArray) w := by
  obtain ⟨f, h1, h2⟩ := h
  have hl := MapS.look (P := Tryd.prog) Tryd.underlying73 Tryd.underlying9 h1 (bs s) zero_ent false
  rw [if_neg (by decide)] at hl
  have h3 := h2 s
  by_cases hf : findE t s < t.length
  · rw [if_pos hf] at h3
    obtain ⟨D, c, h4⟩ := h3
    rw [h4] at hl
    exact ⟨D, c, hl⟩
  · rw [if_neg hf] at h3
    rw [h3] at hl
    rw [got_no hf]
    exact ⟨none, 0, hl⟩
theorem bs_inj {a b : List UInt8} (h : bs a = bs b) : a = b := by
  have := congrArg (fun s : ByteArray => s.data.toList) h
  simpa [bs_list] using this
theorem MetE.put {w : World} {r : Nat} {t : List EntV} (h : MetE w r t) (x : EntV) (D : Option Addr) (c : Nat) (hx : findE t x.path = t.length) :
    ∃ w', (Instr.mapUpdate 73 (.map (some r)) (.string (bs x.path)) (.agg (entC x D c).toArray)).run Tryd.prog w = .ok () w' ∧ (∀ w0 B, B ≤ r → Below B w0 w → Below B w0 w') ∧ MetE w' r (t ++ [x]) := by
  obtain ⟨f, h1, h2⟩ := h
  have hn : f (bs x.path) = none := by
    have := h2 x.path
    rwa [if_neg (by omega)] at this
  obtain ⟨w', a1, a2, -, -, a5⟩ := MapS.put (P := Tryd.prog) Tryd.underlying73 Tryd.underlying9 h1 (bs x.path) (.agg (entC x D c).toArray) (fun v' e => by rw [hn] at e; cases e)
  refine ⟨w', a1, a2, _, a5, fun s => ?_⟩
  have h3 := h2 s
  have hll : (t ++ [x]).length = t.length + 1 := by simp
  by_cases hf : findE t s < t.length
  · rw [if_pos hf] at h3
    have hs := find_snoc_yes x hf
    have hne : ¬ bs s = bs x.path := fun e => by
      rw [bs_inj e] at hf; omega
    have hg : gotE (t ++ [x]) s = gotE t s := by
      rw [got_yes hf, got_yes (by rw [hs, hll]; omega)]
      simp only [hs]
      rw [List.getElem_append_left hf]
    rw [if_pos (by rw [hs, hll]; omega), hg]
    simp only [if_neg hne]
    exact h3
  · rw [if_neg hf] at h3
    have hs := find_snoc_no x hf
    by_cases e : x.path = s
    · rw [if_pos e] at hs
      have hg : gotE (t ++ [x]) s = x := by
        rw [got_yes (by rw [hs, hll]; omega)]
        simp only [hs]
        simp
      rw [if_pos (by rw [hs, hll]; omega), hg]
      refine ⟨D, c, ?_⟩
      simp only [e, if_true]
    · rw [if_neg e] at hs
      have hne : ¬ bs s = bs x.path := fun e' => e (bs_inj e').symm
      rw [if_neg (by rw [hs, hll]; omega)]
      simp only [if_neg hne]
      exact h3
end Go.Proofs.YtdcbmjihpjnbbaaDoor
