/- Contracts of package glob: Check and Fits. -/
import Derived.Test.YtilmfnlhpnbngaaDoorGlqG
import Derived.Test.YtilmfnlhpnbngaaDoorSplB
import Derived.Test.YtilmfnlhpnbngaaDoorGlbF
set_option linter.unusedVariables false
set_option maxRecDepth 100000
namespace Go.Proofs.YtilmfnlhpnbngaaDoor
open Go.RowKit
open Go.OpenShut
theorem gCheck_size (p : ByteArray) (w : World) (hp : p.size ≤ maxLen) (h : p.size < 1 ∨ 400 < p.size) : Calls Tryd.prog 8 #[.string p] w fun e w' => e = .returned (.int .i64 1) ∧ w = w' := by
  unfold maxLen at hp
  rcases h with h | h
  · have h1 : ((p.size : Int) < 1) := by omega
    go_enter Tryd.func8, Tryd.ntmps8
    go_wp2_with fail
    go_ret
    exact ⟨rfl, rfl⟩
  · have h1 : ¬ ((p.size : Int) < 1) := by omega
    have h2 : (400 : Int) < (p.size : Int) := by omega
    go_enter Tryd.func8, Tryd.ntmps8
    go_wp2_with fail
    go_ret
    exact ⟨rfl, rfl⟩
set_option maxHeartbeats 2000000 in
theorem gCheck_parts (p : ByteArray) (w : World) (h1 : 1 ≤ p.size) (h2 : p.size ≤ 400) : Calls Tryd.prog 8 #[.string p] w fun e w' => e = .returned (.int .i64 (partsE (partsL 47 p.data.toList))) ∧ Below w.heap.size w w' := by
  have h1' : ¬ ((p.size : Int) < 1) := by omega
  have h2' : ¬ ((400 : Int) < (p.size : Int)) := by omega
  have hpl : p.data.toList.length = p.size := by simp
  have hne : p.data.toList ≠ [] := fun h => by rw [h] at hpl; simp at hpl; omega
  have hpa := fun W => Parts_any p W (by omega)
  rw [pp_ne hne] at hpa
  have HPA := Lib.hid hpa
  have hgl : ∀ k, ((partsL 47 p.data.toList).getD k []).length ≤ 400 := fun k => by
    have := partsL_getD 47 p.data.toList k
    omega
  obtain ⟨ls, Hls⟩ := hid_name (partsL 47 p.data.toList)
  have hll : ls.length ≤ 401 := by
    have h3 := partsL_le 47 p.data.toList
    rw [Hls.out] at h3; omega
  rw [Hls.out] at hgl HPA
  have HGL := Lib.hid hgl
  obtain ⟨n, Hn⟩ := hid_name ls.length
  rw [Hn.out] at hll
  rw [Hls.out]
  clear hgl hpl hne hpa
  go_enter Tryd.func8, Tryd.ntmps8
  go_wp2_with fail
  refine (HPA.out _).mono ?_; rintro e w1 ⟨v, rfl, hT, hB⟩
  obtain ⟨A, ca, rfl, hA⟩ := hT.any
  have HA := Lib.hid hA
  have HB1 := Lib.hid hB
  clear hA hT hB
  rw [Hn.out]
  go_wp2_with fail
  go_loopw [18] (fun i wr => ∃ k : Nat, i = .int .i64 k ∧ k ≤ n ∧ Hid (partsE ls = partsE (ls.drop k)) ∧ Hid (Below w1.heap.size w1 wr)) (fun i _ => n - (intOf i).toNat)
  case atStart => exact ⟨0, rfl, Nat.zero_le _, rfl, Below.refl _ _⟩
  case round =>
    obtain ⟨k, rfl, hk, HE, HW⟩ := hrel
    by_cases hlt : k < n
    · obtain ⟨g, rfl, _, hg, hc⟩ := HA.out k (by rw [Hn.out]; exact hlt)
      have hc' : wr.cell? ⟨g, k, none⟩ = some (strV (ls.getD k [])) := by rw [HW.out.cell (p := ⟨g, k, none⟩) hg]; exact hc
      have hD := getD_drop ls k (by rw [Hn.out]; exact hlt)
      have hE := HE.out
      rw [hD, partsE_cons] at hE
      have hxl := HGL.out k
      clear hc hD
      unfold strV at hc'
      generalize ls.getD k [] = x at hc' hE hxl
      have hxs : (⟨x.toArray⟩ : ByteArray).size ≤ 400 := by rw [size_mk]; exact hxl
      obtain ⟨sx, Hsx⟩ := hid_name (⟨x.toArray⟩ : ByteArray)
      rw [Hsx.out] at hc' hxs
      have hx : sx.data.toList = x := by rw [← Hsx.out]
      by_cases hn : x = []
      · rw [if_pos hn] at hE
        have HR := Lib.hid hE
        have g0 : sx.toList = [] := toList_nil (by rw [hx]; exact hn)
        clear hE hn hx
        go_wp2_with fail
        go_ret
        exact ⟨ret_int HR.out.symm, HB1.out.trans (HW.out.mono HB1.out.size)⟩
      · rw [if_neg hn] at hE
        have g0 : sx.toList.isEmpty = false := toList_ne (by rw [hx]; exact hn)
        have htk := pieces_any sx (by omega) wr
        rw [hx, ← pieceF_none] at htk
        have HTK := Lib.hid htk
        rcases hs : (tokL x).isSome with _ | _
        · rw [Option.isSome_eq_false_iff.1 hs] at hE
          rw [hs] at HTK
          have HR : Hid (partsE ls = 3) := hE
          clear hE hn hx htk hs
          go_wp2_with fail
          refine HTK.out.mono ?_; rintro e w2 ⟨v, rfl, -, hB2⟩
          have HB2 := Lib.hid hB2
          clear hB2
          go_wp2_with fail
          go_ret
          exact ⟨ret_int HR.out.symm, HB1.out.trans ((HW.out.trans (HB2.out.mono HW.out.size)).mono HB1.out.size)⟩
        · rw [show (tokL x).isNone = false from by rw [← Option.not_isSome, hs]; rfl] at hE
          rw [hs] at HTK
          have HR : Hid (partsE ls = partsE (ls.drop (k + 1))) := hE
          clear hE hn hx htk hs
          go_wp2_with fail
          refine HTK.out.mono ?_; rintro e w2 ⟨v, rfl, -, hB2⟩
          have HB2 := Lib.hid (HW.out.trans (hB2.mono HW.out.size))
          clear hB2
          go_wp2_with fail
          go_roundw
          case rel => exact ⟨k + 1, by go_num, by omega, HR.out, HB2.out⟩
          case measure => simp [intOf]; omega
    · obtain rfl : k = n := by omega
      have HR : Hid (partsE ls = 0) := by
        have := HE.out
        rwa [List.drop_eq_nil_of_le (by rw [Hn.out]; exact Nat.le_refl _)] at this
      go_wp2_with fail
      go_ret
      exact ⟨ret_int HR.out.symm, HB1.out.trans (HW.out.mono HB1.out.size)⟩
theorem gCheck_any (p : ByteArray) (w : World) (hp : p.size ≤ maxLen) : Calls Tryd.prog 8 #[.string p] w fun e w' => e = .returned (.int .i64 (globE p.data.toList)) ∧ Below w.heap.size w w' := by
  have hl : p.data.toList.length = p.size := by simp
  by_cases h : p.size < 1 ∨ 400 < p.size
  · rw [globE_size (by
      rcases h with h | h
      · exact .inl (nil_of_size h)
      · exact .inr (by omega))]
    exact (gCheck_size p w hp h).mono fun e w' ⟨a, b⟩ => ⟨a, b ▸ Below.refl _ _⟩
  · rw [globE_parts (by
      rintro (h2 | h2)
      · exact ne_of_size (by omega) h2
      · omega)]
    exact gCheck_parts p w (by omega) (by omega)
set_option maxHeartbeats 4000000 in
theorem gFits_any (p s : ByteArray) (w : World) (hp : p.size ≤ maxLen) (hs : s.size ≤ maxLen) : Calls Tryd.prog 19 #[.string p, .string s] w fun e w' => e = .returned (.tuple #[.bool (fitsB p.data.toList s.data.toList), .int .i64 (fitsE p.data.toList s.data.toList)]) ∧ Below w.heap.size w w' := by
  have hgf := fun W => gCheck_any p W hp
  have hpf := fun W => Check_any s W hs
  have HG := Lib.hid hgf
  have HP := Lib.hid hpf
  clear hgf hpf
  by_cases hE : globE p.data.toList = 0
  · rw [hE] at HG
    by_cases hE2 : pathE s.data.toList = 0
    · rw [hE2] at HP
      have hfe : fitsE p.data.toList s.data.toList = 0 := by unfold fitsE; rw [if_pos hE, hE2]
      have hfb : fitsB p.data.toList s.data.toList = globF p.data.toList s.data.toList := by unfold fitsB; rw [hfe, decide_eq_true rfl, Bool.true_and]
      rw [hfe, hfb]
      have hpl : p.data.toList.length = p.size := by simp
      have hsl : s.data.toList.length = s.size := by simp
      have hp4 : p.size ≤ 400 := by
        apply Classical.byContradiction
        intro hc
        rw [globE_size (.inr (by omega))] at hE; cases hE
      have hs4 : s.size ≤ 400 := by
        apply Classical.byContradiction
        intro hc
        rw [pathE_size (.inr (by omega))] at hE2; cases hE2
      have hpn : p.data.toList ≠ [] := fun h => by rw [globE_size (.inl h)] at hE; cases hE
      have hsn : s.data.toList ≠ [] := fun h => by rw [pathE_size (.inl (by rw [h]; decide))] at hE2; cases hE2
      have hgd : globF p.data.toList s.data.toList = fitL twoStars partF (pp p.data.toList) (pp s.data.toList) := by rw [pp_ne hpn, pp_ne hsn]; rfl
      rw [hgd]
      have hst := fun W => pathSteps_any p (by omega) W
      have hpa := fun W => Parts_any s W (by omega)
      have hln : (pp p.data.toList).length ≤ 401 := by
        rw [pp_ne hpn]
        have := partsL_le 47 p.data.toList
        omega
      have hlm : (pp s.data.toList).length ≤ 401 := by
        rw [pp_ne hsn]
        have := partsL_le 47 s.data.toList
        omega
      have hlx : ∀ x ∈ pp s.data.toList, x.length ≤ 1000 := fun x hx => by
        rw [pp_ne hsn] at hx
        obtain ⟨k, hk, rfl⟩ := List.mem_iff_getElem.1 hx
        have := partsL_getD 47 s.data.toList k
        rw [List.getD_eq_getElem?_getD, List.getElem?_eq_getElem hk, Option.getD_some] at this
        omega
      generalize pp p.data.toList = us at hst hln ⊢
      generalize pp s.data.toList = bs at hpa hlm hlx ⊢
      have HST := Lib.hid hst
      have HPA := Lib.hid hpa
      have HLX := Lib.hid hlx
      clear hE hE2 hfe hfb hgd hpl hsl hst hpa hlx hpn hsn
      go_enter Tryd.func19, Tryd.ntmps19
      go_wp2_with fail
      refine (HG.out _).mono ?_; rintro e w1 ⟨rfl, hB1⟩
      have HB1 := Lib.hid hB1
      clear hB1
      go_wp2_with fail
      refine (HP.out _).mono ?_; rintro e w2 ⟨rfl, hB2⟩
      have HB2 := Lib.hid (HB1.out.trans (hB2.mono HB1.out.size))
      clear hB2 HB1
      go_wp2_with fail
      refine (HST.out _).mono ?_; rintro e w3 ⟨v, fs, rfl, hF, hfl, hS, hB3⟩
      have HB3 := Lib.hid (HB2.out.trans (hB3.mono HB2.out.size))
      have HF3 := Lib.hid hF
      have HS3 := Lib.hid hS
      have HFl := Lib.hid hfl
      obtain ⟨A, ca, rfl, -⟩ := hF.any
      obtain ⟨n, Hn⟩ := hid_name us.length
      have hn1 : fs.length = n := by rw [hfl]; exact Hn.out
      rw [hn1] at HF3 ⊢
      clear hB3 hF hS hfl HB2
      go_wp2_with fail
      refine (HPA.out _).mono ?_; rintro e w4 ⟨v, rfl, hT, hB4⟩
      have HB4 := Lib.hid (HB3.out.trans (hB4.mono HB3.out.size))
      obtain ⟨A', ca', rfl, hA'⟩ := hT.any
      have hF4 := HF3.out.below hB4
      have HLd := leadsS_any frP frP_frame (fun l => strV l) limS twoStars partF us bs [] [] fs n A A' ca ca' bs.length Hn.out hn1 (by have := Hn.out; omega) rfl (by omega) HLX.out w4 (fun j hj => by
        exact (HS3.out j (by omega) (by rw [Hn.out]; exact hj)).mono frP_frame (frP_frame.bel _ _ hB4)) (fun j hj => by
        obtain ⟨A9, c9, e9, h9⟩ := hF4.any
        injection e9 with e9 _ _
        subst e9
        exact h9 j (by omega)) (fun k hk => by
        obtain ⟨g, e, -, -, hc⟩ := hA' k hk
        refine ⟨g, e, ?_⟩
        rwa [List.getD_eq_getElem?_getD, List.getElem?_eq_getElem hk, Option.getD_some] at hc)
      have HL := Lib.hid HLd
      obtain ⟨m, Hm⟩ := hid_name bs.length
      rw [Hm.out] at HL ⊢
      clear hB4 hT hA' hF4 HLd HF3 hn1
      go_wp2_with fail
      refine HL.out.mono ?_; rintro e w5 ⟨rfl, hB5⟩
      have HB5 := Lib.hid (HB4.out.trans (hB5.mono HB4.out.size))
      clear hB5
      go_wp2_with fail
      refine bodyPost_ret (v := .tuple #[.bool (fitL twoStars partF us bs), .int .i64 0]) (by simp [results, Tryd.results19, go_sem, *]) rfl ?_
      exact ⟨rfl, HB5.out⟩
    · have hfe : fitsE p.data.toList s.data.toList = pathE s.data.toList := by unfold fitsE; rw [if_pos hE]
      have hfb : fitsB p.data.toList s.data.toList = false := by unfold fitsB; rw [hfe, decide_eq_false hE2, Bool.false_and]
      rw [hfe, hfb]
      obtain ⟨E, HEE⟩ := hid_name (pathE s.data.toList)
      rw [HEE.out] at HP hE2 ⊢
      have hne : (E == 0) = false := by simpa using hE2
      clear hfe hfb hE hE2
      go_enter Tryd.func19, Tryd.ntmps19
      go_wp2_with fail
      refine (HG.out _).mono ?_; rintro e w1 ⟨rfl, hB1⟩
      have HB1 := Lib.hid hB1
      clear hB1
      go_wp2_with fail
      refine (HP.out _).mono ?_; rintro e w2 ⟨rfl, hB2⟩
      have HB2 := Lib.hid (HB1.out.trans (hB2.mono HB1.out.size))
      clear hB2 HB1
      go_wp2_with fail
      refine bodyPost_ret (v := .tuple #[.bool false, .int .i64 E]) (by simp [results, Tryd.results19, go_sem, *]) rfl ?_
      exact ⟨rfl, HB2.out⟩
  · have hfe : fitsE p.data.toList s.data.toList = globE p.data.toList := by unfold fitsE; rw [if_neg hE]
    have hfb : fitsB p.data.toList s.data.toList = false := by unfold fitsB; rw [hfe, decide_eq_false hE, Bool.false_and]
    rw [hfe, hfb]
    obtain ⟨E, HEE⟩ := hid_name (globE p.data.toList)
    rw [HEE.out] at HG hE ⊢
    have hne : (E == 0) = false := by simpa using hE
    clear hfe hfb hE
    go_enter Tryd.func19, Tryd.ntmps19
    go_wp2_with fail
    refine (HG.out _).mono ?_; rintro e w1 ⟨rfl, hB1⟩
    have HB1 := Lib.hid hB1
    clear hB1
    go_wp2_with fail
    refine bodyPost_ret (v := .tuple #[.bool false, .int .i64 E]) (by simp [results, Tryd.results19, go_sem, *]) rfl ?_
    exact ⟨rfl, HB1.out⟩
end Go.Proofs.YtilmfnlhpnbngaaDoor
