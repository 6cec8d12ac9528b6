/- The program's pathSteps. -/
import Derived.Test.YtilmfnlhpnbngaaDoorGlqF
import Derived.Test.YtilmfnlhpnbngaaDoorGlqS
import Derived.Test.YtilmfnlhpnbngaaDoorSplA
set_option linter.unusedVariables false
set_option maxRecDepth 100000
namespace Go.Proofs.YtilmfnlhpnbngaaDoor
open Go.RowKit
open Go.OpenShut
theorem frP_grown {w w' : World} {row : Option Nat} (h : w.grownBy w' row) (hr : ∀ g, row = some g → ∃ cs fr, w.heap[g]? = some (.cells cs 63 fr)) : frP w w' := fun g cs t fr hg h1 => by
  refine (h.block g (gq_lt hg) ?_).trans hg
  intro e
  obtain ⟨cs2, fr2, h3⟩ := hr g e.symm
  rw [h3] at hg
  injection hg with hg
  injection hg with _ hg
  exact h1 hg.symm
set_option maxHeartbeats 8000000 in
theorem pathSteps_any (p : ByteArray) (hp : p.size ≤ 1000) (w : World) : Calls Tryd.prog 30 #[.string p] w fun e w' => ∃ (v : Value) (fs : List Value), e = .returned v ∧ Fns w' w.heap.size 63 v fs ∧ fs.length = (pp p.data.toList).length ∧
    (∀ j (hj : j < fs.length) (hj2 : j < (pp p.data.toList).length), StepV frP (fun l => strV l) limS w' fs[j] (twoStars (pp p.data.toList)[j]) (partF (pp p.data.toList)[j])) ∧ Below w.heap.size w w' := by
  have hpl : p.data.toList.length = p.size := by simp
  have hgl : ∀ k, ((pp p.data.toList).getD k []).length ≤ 1000 := fun k => by
    by_cases h0 : p.data.toList = []
    · rw [h0, pp_nil]; simp
    · rw [pp_ne h0]
      have := partsL_getD 47 p.data.toList k
      omega
  have hnl : (pp p.data.toList).length ≤ 1001 := by
    by_cases h0 : p.data.toList = []
    · rw [h0, pp_nil]; simp
    · rw [pp_ne h0]
      have := partsL_le 47 p.data.toList
      omega
  have hpa := fun W => Parts_any p W (by omega)
  generalize pp p.data.toList = ls at hgl hnl hpa ⊢
  have HPA := Lib.hid hpa
  have HGL := Lib.hid hgl
  obtain ⟨n, Hn⟩ := hid_name ls.length
  rw [Hn.out] at hnl
  clear hpl hgl hpa
  go_enter Tryd.func30, Tryd.ntmps30
  go_wp2_with fail
  refine (HPA.out _).mono ?_; rintro e w1 ⟨v, rfl, hT, hB⟩
  obtain ⟨A, ca, rfl, hA⟩ := hT.any
  have HA := Lib.hid hA
  have HB1 := Lib.hid hB
  clear hA hT hB
  rw [Hn.out]
  go_wp2_with fail
  go_loopw [3, 9] (fun lv iv wr => ∃ (k : Nat) (fs : List Value), k ≤ n ∧ iv = .int .i64 k ∧ Hid (fs.length = k) ∧ Hid (Fns wr w1.heap.size 63 lv fs) ∧ Hid (∀ j (hj : j < fs.length) (hj2 : j < ls.length), StepV frP (fun l => strV l) limS wr fs[j] (twoStars ls[j]) (partF ls[j])) ∧ Hid (Below w1.heap.size w1 wr)) (fun _ iv _ => n - (intOf iv).toNat)
  case atStart => exact ⟨0, [], Nat.zero_le _, rfl, rfl, World.ownsRow_nil _ _ _ _, (fun j hj => by cases hj), Below.refl _ _⟩
  case round =>
    obtain ⟨k, fs, hk, rfl, HFl, HF, HS, HW⟩ := hrel
    obtain ⟨v0, hv0⟩ : ∃ v0, v0 = u3 := ⟨_, rfl⟩
    subst hv0
    by_cases hlt : k < n
    · have hkl : k < ls.length := by rw [Hn.out]; exact hlt
      obtain ⟨g, rfl, _, hg, hc⟩ := HA.out k hkl
      have hc' : wr.cell? ⟨g, k, none⟩ = some (strV (ls.getD k [])) := by rw [HW.out.cell (p := ⟨g, k, none⟩) hg]; exact hc
      have hgd : ls.getD k [] = ls[k] := by rw [List.getD_eq_getElem?_getD, List.getElem?_eq_getElem hkl]; rfl
      have hxl := HGL.out k
      rw [hgd] at hc' hxl
      obtain ⟨x, Hx⟩ := hid_name ls[k]
      rw [Hx.out] at hc' hxl
      unfold strV at hc'
      have h2 := two_is x
      have hpf := fun W => partFits_any ⟨x.toArray⟩ (by rw [size_mk]; exact hxl) W
      obtain ⟨sx, Hsx⟩ := hid_name (⟨x.toArray⟩ : ByteArray)
      rw [Hsx.out] at hc' h2 hpf
      have hxs : sx.data.toList = x := by rw [← Hsx.out]
      rw [hxs] at hpf
      have HPF := Lib.hid hpf
      have hfl : fs.length ≤ 1000000 := by rw [HFl.out]; omega
      have HFb := Lib.hid hfl
      have HAp : Hid (∀ (w2 : World) (u : Value), Below wr.heap.size wr w2 → Fns (w2.alloc (.cells #[u] 63)) w1.heap.size 63 v0 fs ∧ w1.heap.size ≤ (w2.alloc (.cells #[u] 63)).heap.size) := fun w2 u hb => by
        have h0 : Below w1.heap.size w1 w2 := HW.out.trans (hb.mono HW.out.size)
        exact ⟨(HF.out.below hb).alloc _, (h0.alloc h0.size _).size⟩
      have HFin : Hid (∀ (w2 : World) (u v9 : Value) (w9 : World), Below wr.heap.size wr w2 → StepV frP (fun l => strV l) limS w2 u (twoStars x) (partF x) → Fns w9 w1.heap.size 63 v9 (fs ++ [u]) → (w2.alloc (.cells #[u] 63)).grownBy w9 v0.ownBlock →
          (fs ++ [u]).length = k + 1 ∧ (∀ j (hj : j < (fs ++ [u]).length) (hj2 : j < ls.length), StepV frP (fun l => strV l) limS w9 (fs ++ [u])[j] (twoStars ls[j]) (partF ls[j])) ∧ Below w1.heap.size w1 w9) := fun w2 u v9 w9 hb hu ho hg => by
        have h0 : Below w1.heap.size w1 w2 := HW.out.trans (hb.mono HW.out.size)
        have hA2 := (HAp.out w2 u hb).1
        have hrow : ∀ g0, v0.ownBlock = some g0 → ∃ cs fr, (w2.alloc (.cells #[u] 63)).heap[g0]? = some (.cells cs 63 fr) := fun g0 e => by
          obtain ⟨_, cur, hcur⟩ := own_block hA2 g0 e
          exact ⟨cur, (0, 0), hcur⟩
        have hf1 := frP_frame.tr _ _ _ (frP_frame.bel _ _ ((Below.refl _ w2).alloc (Nat.le_refl _) (.cells #[u] 63))) (frP_grown hg hrow)
        have hf2 := frP_frame.tr _ _ _ (frP_frame.bel _ _ hb) hf1
        refine ⟨by rw [List.length_append, HFl.out]; rfl, fun j hj hj2 => ?_, (h0.alloc h0.size _).grown hg (h0.alloc h0.size _).size fun g0 e => (own_block hA2 g0 e).1⟩
        by_cases hjl : j < fs.length
        · rw [List.getElem_append_left hjl]
          exact (HS.out j hjl hj2).mono frP_frame hf2
        · have ej : j = fs.length := by rw [List.length_append] at hj; simp at hj; omega
          subst ej
          rw [List.getElem_append_right (Nat.le_refl _)]
          have e9 : ls[fs.length] = x := by rw [← Hx.out]; congr 1
          rw [e9]
          simp only [Nat.sub_self, List.getElem_cons_zero]
          exact hu.mono frP_frame hf1
      clear hc hgd hxl hpf hxs hfl
      rcases hb2 : twoStars x with _ | _
      · rw [hb2] at h2 HFin
        clear hb2
        go_wp2_with fail
        refine (HPF.out _).mono ?_; rintro e w2 ⟨fv, rfl, hfv, hB2⟩
        have HB2 : Hid (Below wr.heap.size wr w2) := hB2
        have HFv := Lib.hid hfv
        clear hB2 hfv
        go_wp2_with fail
        refine (oneS_any frP frP_frame (fun _ _ _ _ => frP_blk (by decide)) (fun l => strV l) limS fv (partF x) _ HFv.out).mono ?_; rintro e w3 ⟨u, rfl, -, -, hu, hB3⟩
        have HB3 : Hid (Below wr.heap.size wr w3) := HB2.out.trans (hB3.mono HB2.out.size)
        have HU := Lib.hid hu
        obtain ⟨fn, caps, ⟨rfl, -⟩, -⟩ := hu
        clear hB3 HB2 HFv
        go_wp2_with (at_builtin; refine Stay.go ?_)
        refine Stay.on ?_
        refine append_fnS rfl (.tmp 19) (.tmp 23) rfl w1.heap.size v0 fs rfl (HAp.out w3 (.func (.func fn) #[] caps) HB3.out).1 w3.heap.size 1 (.func (.func fn) #[] caps) rfl ((Blk.new w3 63 #[.func (.func fn) #[] caps]).cell 0) rfl HFb.out (HAp.out w3 (.func (.func fn) #[] caps) HB3.out).2 ?_
        intro v9 w9 ho9 hg9
        have HO9 := Lib.hid ho9
        have HE9 := Lib.hid (HFin.out _ _ _ _ HB3.out HU.out ho9 hg9)
        clear ho9 hg9
        go_wp2_with fail
        go_roundw
        case rel => exact ⟨k + 1, _, by omega, by go_num, HE9.out.1, HO9.out, HE9.out.2.1, HE9.out.2.2⟩
        case measure => simp [intOf]; omega
      · rw [hb2] at h2 HFin
        clear hb2
        go_wp2_with fail
        refine (starS_any frP (fun l => strV l) limS (partF x) _).mono ?_; rintro e w3 ⟨u, rfl, -, -, hu, rfl⟩
        have HB3 : Hid (Below wr.heap.size wr wr) := Below.refl _ _
        have HU := Lib.hid hu
        obtain ⟨fn, caps, ⟨rfl, -⟩, -⟩ := hu
        go_wp2_with (at_builtin; refine Stay.go ?_)
        refine Stay.on ?_
        refine append_fnS rfl (.tmp 15) (.tmp 17) rfl w1.heap.size v0 fs rfl (HAp.out wr (.func (.func fn) #[] caps) HB3.out).1 wr.heap.size 1 (.func (.func fn) #[] caps) rfl ((Blk.new wr 63 #[.func (.func fn) #[] caps]).cell 0) rfl HFb.out (HAp.out wr (.func (.func fn) #[] caps) HB3.out).2 ?_
        intro v9 w9 ho9 hg9
        have HO9 := Lib.hid ho9
        have HE9 := Lib.hid (HFin.out _ _ _ _ HB3.out HU.out ho9 hg9)
        clear ho9 hg9
        go_wp2_with fail
        go_roundw
        case rel => exact ⟨k + 1, _, by omega, by go_num, HE9.out.1, HO9.out, HE9.out.2.1, HE9.out.2.2⟩
        case measure => simp [intOf]; omega
    · obtain rfl : k = n := by omega
      have HOw := Lib.hid (own_mono HF.out HB1.out.size)
      go_wp2_with fail
      go_ret
      exact ⟨v0, fs, rfl, HOw.out, HFl.out.trans Hn.out.symm, HS.out, HB1.out.trans (HW.out.mono HB1.out.size)⟩
end Go.Proofs.YtilmfnlhpnbngaaDoor
