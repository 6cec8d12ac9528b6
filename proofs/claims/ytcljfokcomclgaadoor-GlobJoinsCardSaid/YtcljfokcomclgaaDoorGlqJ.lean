/- The law of patterns behind one another on drawn paths and drawn rules: GlobJoins. -/
import Derived.Test.YtcljfokcomclgaaDoorGlqH
import Derived.Test.YtcljfokcomclgaaDoorRulA
set_option linter.unusedVariables false
set_option maxRecDepth 100000
namespace Go.Proofs.YtcljfokcomclgaaDoor
open Go.RowKit
open Go.OpenShut
/-- what is said of parts, by their pieces -/
def partsP : List (List UInt8) → Int
  | [] => 0
  | s :: l => if s = [] then 9 else if (pieceF s).isNone then 3 else partsP l
theorem partsP_eq (l : List (List UInt8)) : partsE l = partsP l := by
  induction l with
  | nil => rfl
  | cons s l ih =>
    rw [partsE_cons, partsP, ih, ← Option.not_isSome, pieceF_none, Option.not_isSome]
theorem pats_ok : ∀ p ∈ patsL, partsP (partsL 47 p) = 0 ∧ p ≠ [] ∧ p.length ≤ 9 := by decide +kernel
theorem partsE_app (a b : List (List UInt8)) (h : partsE a = 0) : partsE (a ++ b) = partsE b := by
  induction a with
  | nil => rfl
  | cons s a ih =>
    rw [partsE_cons] at h
    rw [List.cons_append, partsE_cons]
    by_cases h1 : s = []
    · rw [if_pos h1] at h; cases h
    · rw [if_neg h1] at h ⊢
      by_cases h2 : (tokL s).isNone = true
      · rw [if_pos h2] at h; cases h
      · rw [if_neg h2] at h ⊢; exact ih h
theorem globE_pat {p : List UInt8} (h : p ∈ patsL) : globE p = 0 := by
  obtain ⟨h1, h2, h3⟩ := pats_ok p h
  rw [globE_parts (by rintro (h4 | h4); exact h2 h4; omega), partsP_eq, h1]
theorem globE_pats {p q : List UInt8} (h : p ∈ patsL) (h' : q ∈ patsL) : globE (p ++ 47 :: q) = 0 := by
  obtain ⟨h1, h2, h3⟩ := pats_ok p h
  obtain ⟨k1, k2, k3⟩ := pats_ok q h'
  rw [globE_parts (by
    rintro (h4 | h4)
    · simp at h4
    · rw [List.length_append, List.length_cons] at h4; omega), partsL_app, partsE_app _ _ (by rw [partsP_eq, h1]), partsP_eq, k1]
theorem pathE_split {s : List UInt8} (h : pathE s = 0) : (1 ≤ s.length ∧ s.length ≤ 400) ∧ hasB 0 s = false ∧ (partsL 47 s).all nameB = true := by
  refine ⟨?_, ?_⟩
  · apply Classical.byContradiction
    intro hc
    rw [pathE_size (by omega)] at h; cases h
  · unfold pathE at h
    split at h
    · exact absurd h (by decide)
    · split at h
      · exact absurd h (by decide)
      · rename_i hh
        split at h
        · rename_i ha; exact ⟨by simpa using hh, ha⟩
        · exact absurd h (by decide)
theorem pathE_join {s t : List UInt8} (h : pathE s = 0) (h' : pathE t = 0) (hl : s.length + t.length < 400) : pathE (s ++ 47 :: t) = 0 := by
  obtain ⟨h1, h2, h3⟩ := pathE_split h
  obtain ⟨k1, k2, k3⟩ := pathE_split h'
  refine pathE_ok (by rw [List.length_append, List.length_cons]; omega) ?_ ?_
  · rw [hasB_append, h2, hasB_cons, k2]; rfl
  · rw [partsL_app, List.all_append, h3, k3]; rfl
/-- two patterns, two paths -/
theorem join_fits {p q s t : List UInt8} (hp : p ∈ patsL) (hq : q ∈ patsL) (hs : pathE s = 0) (ht : pathE t = 0) (hl : s.length + t.length < 400) :
    fitsE p s = 0 ∧ fitsE q t = 0 ∧ fitsE (p ++ 47 :: q) (s ++ 47 :: t) = 0 ∧ (fitsB p s = true → fitsB q t = true → fitsB (p ++ 47 :: q) (s ++ 47 :: t) = true) := by
  have e1 : fitsE p s = 0 := by unfold fitsE; rw [if_pos (globE_pat hp), hs]
  have e2 : fitsE q t = 0 := by unfold fitsE; rw [if_pos (globE_pat hq), ht]
  have e3 : fitsE (p ++ 47 :: q) (s ++ 47 :: t) = 0 := by unfold fitsE; rw [if_pos (globE_pats hp hq), pathE_join hs ht hl]
  refine ⟨e1, e2, e3, fun h1 h2 => ?_⟩
  unfold fitsB at h1 h2 ⊢
  rw [e1] at h1; rw [e2] at h2; rw [e3]
  exact globF_join p q s t h1 h2
/-- the pattern that is fitted last -/
theorem last_fits : fitsE [91, 97, 45, 99, 93, 63, 42] [98, 120, 121] = 0 ∧ fitsB [91, 97, 45, 99, 93, 63, 42] [98, 120, 121] = true := by
  have hg : globE [91, 97, 45, 99, 93, 63, 42] = 0 := by
    rw [globE_parts (by decide), partsP_eq]; decide +kernel
  have hp : pathE [98, 120, 121] = 0 := by decide +kernel
  have he : fitsE [91, 97, 45, 99, 93, 63, 42] [98, 120, 121] = 0 := by unfold fitsE; rw [if_pos hg, hp]
  refine ⟨he, ?_⟩
  unfold fitsB
  rw [he, decide_eq_true rfl, Bool.true_and, globF_single (by decide) (by decide) (by decide)]
  have hps : pieceF [91, 97, 45, 99, 93, 63, 42] = some [[91, 97, 45, 99, 93], [63], [42]] := by decide +kernel
  have hset : setT [97, 45, 99] 98 = true := by
    unfold setT
    rw [show notS [97, 45, 99] = false from rfl, if_neg (by decide), setM_rng, setM_nil]; decide
  unfold partF
  rw [tokL_pieceF, hps, Option.map_some, Option.getD_some, List.map_cons, List.map_cons, List.map_cons, List.map_nil]
  rw [pieceT_set (by decide), pieceT_one, pieceT_one, if_neg (by decide), if_pos rfl, if_pos rfl]
  rw [show innL [91, 97, 45, 99, 93] = [97, 45, 99] from rfl]
  rw [fitL_cons_cons, if_neg (by intro h; cases h), show tokFits (false, setT [97, 45, 99]) 98 = true from hset, Bool.true_and, fitL_cons_cons, if_neg (by intro h; cases h)]
  exact fitL_one_star rfl _
theorem str3 (p q : ByteArray) : (p ++ ⟨#[47]⟩ ++ q : ByteArray).data.toList = p.data.toList ++ 47 :: q.data.toList := by
  rw [ByteArray.data_append, Array.toList_append, ByteArray.data_append, Array.toList_append, List.append_assoc]; rfl
set_option maxHeartbeats 8000001 in
theorem GlobJoins_walk (A : Option Addr) (n c : Nat) (rs : List RawV) (A1 : Option Addr) (n1 c1 : Nat) (rs1 : List RawV) (a1 a2 : Int) (hn : rs.length = n) (hn2 : n ≤ 140737488355328) (hwf : ∀ r ∈ rs, r.wf) (hn1 : rs1.length = n1) (hn12 : n1 ≤ 140737488355328) (hwf1 : ∀ r ∈ rs1, r.wf) (w1 : (Lit.int .i64 a1).wf = true) (w2 : (Lit.int .i64 a2).wf = true) (w : World) (hA : RawsAt w A rs) (hA1 : RawsAt w A1 rs1) :
    Calls Tryd.prog 6 #[.slice A n c, .slice A1 n1 c1, .int .i64 a1, .int .i64 a2] w fun e w' => e = .returned (.bool true) ∧ Below w.heap.size w w' := by
  have HCP := Lib.hid (pathsN_any 10 (by omega) A n c rs hn hn2 hwf w hA)
  have HRu := Lib.hid fun W (h : Below w.heap.size w W) => Rules_any 3 (by omega) A n c rs hn hn2 hwf W (hA.below h)
  have HRu1 := Lib.hid fun W (h : Below w.heap.size w W) => Rules_any 3 (by omega) A1 n1 c1 rs1 hn1 hn12 hwf1 W (hA1.below h)
  clear hwf hA hn hwf1 hA1 hn1
  have HW1 := Lib.hid w1
  have HW2 := Lib.hid w2
  clear w1 w2
  go_enter Tryd.func6, Tryd.ntmps6
  go_wp2_with fail
  refine HCP.out.mono ?_; rintro e w4 ⟨v, L, rfl, hT, hL1, hL2, hL3, hB⟩
  have HT := Lib.hid hT
  have HB := Lib.hid hB
  have HL := Lib.hid hL3
  clear hT hB hL3
  obtain ⟨g, cap, rfl, hg, hgl⟩ := HT.out.form hL1
  obtain ⟨np, Hnp⟩ := hid_name L.length
  rw [Hnp.out] at hL1 hL2 ⊢
  obtain ⟨p1, hp1, HP1⟩ := pk_any np hL1 (by omega) a1 HW1.out
  obtain ⟨p2, hp2, HP2⟩ := pk_any np hL1 (by omega) a2 HW2.out
  have hs : ∀ p : Nat, p < np → ∃ s : ByteArray, s.size ≤ 400 ∧ (s.data.toList = [97] ∨ ∃ n ∈ (treeS 10 rs).1, n.path = s.data.toList) ∧ w4.cell? ⟨g, p, none⟩ = some (.string s) := fun p hp => by
    have hpl : p < L.length := by rw [Hnp.out]; exact hp
    have e : L.getD p [] = L[p] := by rw [List.getD_eq_getElem?_getD, List.getElem?_eq_getElem hpl]; rfl
    have h8 := HL.out _ (List.getElem_mem hpl)
    refine ⟨⟨(L.getD p []).toArray⟩, ?_, ?_, by have h9 := HT.out; rw [Hnp.out] at h9; exact h9.cell Hnp.out p hp⟩
    · rw [size_mk, e]; exact h8.1
    · rw [e]; exact h8.2
  obtain ⟨s, hs4, hsd, hsc⟩ := hs p1 hp1
  obtain ⟨t, ht4, htd, htc⟩ := hs p2 hp2
  clear hs
  have h10 : (0 : Int) ≤ (p1 : Int) := by omega
  have h11 : (p1 : Int) < (np : Int) := by omega
  have h20 : (0 : Int) ≤ (p2 : Int) := by omega
  have h21 : (p2 : Int) < (np : Int) := by omega
  have HP1' := Lib.hid HP1
  have HP2' := Lib.hid HP2
  have Hs := Lib.hid (drawn_path hsd).1
  have Ht := Lib.hid (drawn_path htd).1
  clear HP1 HP2 hsd htd
  go_upto_region 2 with fail
  go_cut [10, 11] (fun s10 s11 wx => s10 = .string s ∧ s11 = .string t ∧ ∃ q, wx = w4.drewN q)
  case first =>
    go_quiet ((first
      | (go_at_call 14; with_reducible exact Calls.quiet_of_same (HP1'.out _))
      | (go_at_call 14; with_reducible exact Calls.quiet_of_same (HP2'.out _))))
    go_wp2_with fail
    go_meet
    exact ⟨rfl, rfl, _, rfl⟩
  case rest =>
  obtain ⟨rfl, rfl, q, hq⟩ := hcut
  have HB5 : Hid (Below w.heap.size w wc) := by unfold Hid; rw [hq]; exact below_drewN HB.out _
  clear hq hsc htc HP1' HP2'
  have hsl : s.data.toList.length = s.size := by simp
  have htl : t.data.toList.length = t.size := by simp
  by_cases hlen : 400 ≤ s.size + t.size
  · have HC : Hid (∀ W, Calls Tryd.prog 15 #[.string s] W fun e w' => e = .returned (.int .i64 0) ∧ Below W.heap.size W w') := fun W => by
      have := Check_any s W (by unfold maxLen; omega)
      rwa [Hs.out] at this
    have hl' : (400 : Int) ≤ (s.size : Int) + (t.size : Int) := by omega
    clear hsl htl
    go_wp2_with fail
    refine (HC.out _).mono ?_; rintro e w5 ⟨rfl, hb⟩
    have HB6 := Lib.hid (HB5.out.trans (hb.mono HB5.out.size))
    clear hb
    go_wp2_with fail
    go_ret
    exact ⟨rfl, HB6.out⟩
  · have hl' : ¬ (400 : Int) ≤ (s.size : Int) + (t.size : Int) := by omega
    have HLt : Hid (s.data.toList.length + t.data.toList.length < 400) := by unfold Hid; omega
    clear hsl htl
    go_wp2_with fail
    refine (HRu1.out _ HB5.out).mono ?_; rintro e wA ⟨v, rfl, hR, hb⟩
    have HBA := Lib.hid (HB5.out.trans (hb.mono HB5.out.size))
    have hmA : ∀ q ∈ (rs1.take 3).map ruleT, q.2 ∈ patsL := fun q hq => by
      obtain ⟨r, -, rfl⟩ := List.mem_map.1 hq
      exact ruleT_mem r
    have hlA : ((rs1.take 3).map ruleT).length ≤ 3 := by rw [List.length_map, List.length_take]; omega
    generalize (rs1.take 3).map ruleT = qa at hR hmA hlA
    have HRA := Lib.hid hR
    have HMA := Lib.hid hmA
    obtain ⟨AA, cA, rfl, -⟩ := hR.any
    obtain ⟨na, Hna⟩ := hid_name qa.length
    rw [Hna.out] at hlA HRA ⊢
    clear hb hR hmA HB5 HB
    go_wp2_with fail
    go_loopw [52] (fun iv wr => ∃ k : Nat, k ≤ na ∧ iv = .int .i64 k ∧ Hid (Below wA.heap.size wA wr)) (fun iv _ => na - (intOf iv).toNat)
    case atStart => exact ⟨0, Nat.zero_le _, rfl, Below.refl _ _⟩
    case round =>
      obtain ⟨k, hk, rfl, HW⟩ := hrel
      have hRk := HRA.out.below HW.out
      rw [← Hna.out] at hRk
      obtain ⟨A9, c9, e9, hcells⟩ := hRk.any
      by_cases hlt : k < na
      · have hkq : k < qa.length := by rw [Hna.out]; exact hlt
        obtain ⟨gA, hgA, hc1, hc2⟩ := hcells k hkq
        injection e9 with e9 _ e9c
        subst e9 e9c
        subst hgA
        have hmem := HMA.out qa[k] (List.getElem_mem ..)
        generalize qa[k] = qk at hc1 hc2 hmem
        obtain ⟨ba, pa⟩ := qk
        simp only at hc1 hc2 hmem
        unfold strV at hc2
        obtain ⟨P, HP⟩ := hid_name (⟨pa.toArray⟩ : ByteArray)
        rw [HP.out] at hc2
        have hPl : P.data.toList = pa := by rw [← HP.out]
        have hPs : P.size ≤ 9 := by
          have h1 : P.data.toList.length = P.size := by simp
          have h2 := (pats_ok pa hmem).2.2
          rw [hPl] at h1; omega
        have HMP : Hid (P.data.toList ∈ patsL) := by unfold Hid; rw [hPl]; exact hmem
        have HBr := Lib.hid (Blk.new wr 36 #[.bool ba, .string P])
        have HW2 := Lib.hid (belowA HW.out (.cells #[.bool ba, .string P] 36))
        clear hmem hPl HP hRk hcells hkq
        go_upto_region 8 with fail
        clear hc1 hc2
        obtain ⟨b13, hb13⟩ : ∃ b13, b13 = wr.heap.size := ⟨_, rfl⟩
        rw [← hb13] at HBr ⊢
        clear hb13
        generalize wr.alloc (.cells #[.bool ba, .string P] 36) = wr1 at HBr HW2 ⊢
        go_wp2_with fail
        refine (HRu.out _ (HBA.out.trans (HW2.out.mono HBA.out.size))).mono ?_; rintro e wB ⟨v, rfl, hR, hb⟩
        have HWB := Lib.hid (HW2.out.trans (hb.mono HW2.out.size))
        have HBrB : Hid (Blk wB b13 36 #[.bool ba, .string P]) := HBr.out.below hb HBr.out.lt
        have hmB : ∀ q ∈ (rs.take 3).map ruleT, q.2 ∈ patsL := fun q hq => by
          obtain ⟨r, -, rfl⟩ := List.mem_map.1 hq
          exact ruleT_mem r
        have hlB : ((rs.take 3).map ruleT).length ≤ 3 := by rw [List.length_map, List.length_take]; omega
        generalize (rs.take 3).map ruleT = qb at hR hmB hlB
        have HRB := Lib.hid hR
        have HMB := Lib.hid hmB
        obtain ⟨AB, cB, rfl, -⟩ := hR.any
        obtain ⟨nb, Hnb⟩ := hid_name qb.length
        rw [Hnb.out] at hlB HRB ⊢
        clear hb hR hmB HBr HW2
        go_wp2_with fail
        go_loopw [59] (fun iv wx => ∃ j : Nat, j ≤ nb ∧ iv = .int .i64 j ∧ Hid (Below wB.heap.size wB wx)) (fun iv _ => nb - (intOf iv).toNat)
        case atStart => exact ⟨0, Nat.zero_le _, rfl, Below.refl _ _⟩
        case round =>
          obtain ⟨j, hj, rfl, HX⟩ := hrel
          rename World => wx
          have hRj := HRB.out.below HX.out
          rw [← Hnb.out] at hRj
          obtain ⟨A8, c8, e8, hcells⟩ := hRj.any
          by_cases hlt2 : j < nb
          · have hjq : j < qb.length := by rw [Hnb.out]; exact hlt2
            obtain ⟨gB, hgB, hc1, hc2⟩ := hcells j hjq
            injection e8 with e8 _ e8c
            subst e8 e8c
            subst hgB
            have hmem := HMB.out qb[j] (List.getElem_mem ..)
            generalize qb[j] = qj at hc1 hc2 hmem
            obtain ⟨bb, pb⟩ := qj
            simp only at hc1 hc2 hmem
            unfold strV at hc2
            obtain ⟨Q, HQ⟩ := hid_name (⟨pb.toArray⟩ : ByteArray)
            rw [HQ.out] at hc2
            have hQl : Q.data.toList = pb := by rw [← HQ.out]
            have hQs : Q.size ≤ 9 := by
              have h1 : Q.data.toList.length = Q.size := by simp
              have h2 := (pats_ok pb hmem).2.2
              rw [hQl] at h1; omega
            have hjf := join_fits HMP.out (by rw [hQl]; exact hmem : Q.data.toList ∈ patsL) Hs.out Ht.out HLt.out
            obtain ⟨hE1, hE2, hE3, hJ⟩ := hjf
            rw [← str3, ← str3] at hE3 hJ
            obtain ⟨x, hx⟩ : ∃ x, fitsB P.data.toList s.data.toList = x := ⟨_, rfl⟩
            obtain ⟨y, hy⟩ : ∃ y, fitsB Q.data.toList t.data.toList = y := ⟨_, rfl⟩
            obtain ⟨z, hz⟩ : ∃ z, fitsB (P ++ ⟨#[47]⟩ ++ Q : ByteArray).data.toList (s ++ ⟨#[47]⟩ ++ t : ByteArray).data.toList = z := ⟨_, rfl⟩
            rw [hx, hy, hz] at hJ
            have F1 := Lib.hid fun W => fits_val P s x 0 hx hE1 (by unfold maxLen; omega) (by unfold maxLen; omega) W
            have F2 := Lib.hid fun W => fits_val Q t y 0 hy hE2 (by unfold maxLen; omega) (by unfold maxLen; omega) W
            have F3 := Lib.hid fun W => fits_val (P ++ ⟨#[47]⟩ ++ Q) (s ++ ⟨#[47]⟩ ++ t) z 0 hz hE3 (by rw [ByteArray.size_append, ByteArray.size_append]; show P.size + 1 + Q.size ≤ _; unfold maxLen; omega) (by rw [ByteArray.size_append, ByteArray.size_append]; show s.size + 1 + t.size ≤ _; unfold maxLen; omega) W
            have HJ := Lib.hid hJ
            have HBq := Lib.hid (Blk.new wx 36 #[.bool bb, .string Q])
            have HX2 := Lib.hid (belowA HX.out (.cells #[.bool bb, .string Q] 36))
            have HBp : Hid (Blk (wx.alloc (.cells #[.bool bb, .string Q] 36)) b13 36 #[.bool ba, .string P]) := (HBrB.out.below HX.out HBrB.out.lt).alloc _
            clear hmem hQl HQ hRj hcells hjq hE1 hE2 hE3 hJ hx hy hz
            go_upto_region 11 with fail
            clear hc1 hc2
            obtain ⟨b15, hb15⟩ : ∃ b15, b15 = wx.heap.size := ⟨_, rfl⟩
            rw [← hb15] at HBq ⊢
            clear hb15
            generalize wx.alloc (.cells #[.bool bb, .string Q] 36) = wx1 at HBq HX2 HBp ⊢
            have d1 : wx1.cell? ⟨b13, 1, none⟩ = some (.string P) := HBp.out.cell 1
            go_wp2_with fail
            refine (F1.out _).mono ?_; rintro e wx2 ⟨rfl, hb⟩
            have HX3 := Lib.hid (HX2.out.trans (hb.mono HX2.out.size))
            have HBq3 := Lib.hid (HBq.out.below hb HBq.out.lt)
            have HBp3 := Lib.hid (HBp.out.below hb HBp.out.lt)
            clear hb d1 HBq HBp HX2
            have d2 : wx2.cell? ⟨b15, 1, none⟩ = some (.string Q) := HBq3.out.cell 1
            go_wp2_with fail
            refine (F2.out _).mono ?_; rintro e wx3 ⟨rfl, hb⟩
            have HX4 := Lib.hid (HX3.out.trans (hb.mono HX3.out.size))
            have HBq4 := Lib.hid (HBq3.out.below hb HBq3.out.lt)
            have HBp4 := Lib.hid (HBp3.out.below hb HBp3.out.lt)
            clear hb d2 HBq3 HBp3 HX3
            have d1 : wx3.cell? ⟨b13, 1, none⟩ = some (.string P) := HBp4.out.cell 1
            have d2 : wx3.cell? ⟨b15, 1, none⟩ = some (.string Q) := HBq4.out.cell 1
            go_wp2_with fail
            refine (F3.out _).mono ?_; rintro e wx4 ⟨rfl, hb⟩
            have HX5 := Lib.hid (HX4.out.trans (hb.mono HX4.out.size))
            clear hb d1 d2 HBq4 HBp4 HX4
            have hz := HJ.out
            clear F1 F2 F3
            cases x with
            | false =>
              go_wp2_with fail
              go_roundw
              case rel => exact ⟨j + 1, by omega, by go_num, HX5.out⟩
              case measure => simp [intOf]; omega
            | true =>
              cases y with
              | false =>
                go_wp2_with fail
                go_roundw
                case rel => exact ⟨j + 1, by omega, by go_num, HX5.out⟩
                case measure => simp [intOf]; omega
              | true =>
                have hz2 := hz rfl rfl
                subst hz2
                clear hz
                go_wp2_with fail
                go_roundw
                case rel => exact ⟨j + 1, by omega, by go_num, HX5.out⟩
                case measure => simp [intOf]; omega
          · obtain rfl : j = nb := by omega
            clear hcells e8 hRj
            go_wp2_with fail
            go_roundw
            case rel => exact ⟨k + 1, by omega, by go_num, HWB.out.trans (HX.out.mono HWB.out.size)⟩
            case measure => simp [intOf]; omega
      · obtain rfl : k = na := by omega
        clear hcells e9 hRk
        have FL := Lib.hid fun W => fits_val ⟨#[91, 97, 45, 99, 93, 63, 42]⟩ ⟨#[98, 120, 121]⟩ true 0 last_fits.2 last_fits.1 (by decide) (by decide) W
        go_wp2_with fail
        refine (FL.out _).mono ?_; rintro e w9 ⟨rfl, hb⟩
        have HBF := Lib.hid ((HBA.out.trans (HW.out.mono HBA.out.size)).trans (hb.mono (HBA.out.trans (HW.out.mono HBA.out.size)).size))
        clear hb
        go_wp2_with fail
        go_ret
        exact ⟨rfl, HBF.out⟩
end Go.Proofs.YtcljfokcomclgaaDoor
