/- Package order: names, depth. -/
import Derived.Test.YtmgndhdikleagaaDoorOrdA
set_option linter.unusedVariables false
set_option maxRecDepth 100000
namespace Go.Proofs.YtmgndhdikleagaaDoor
open Go.RowKit
open Go.OpenShut
/-- what is said of a directory of a tree -/
def dirE (t : List NodeV) (d : List UInt8) : Int := if d = [] then 0 else match t[findL t d]? with | none => 5 | some x => if x.kind = 2 then 0 else 10
theorem dirE_top {t : List NodeV} : dirE t [] = 0 := if_pos rfl
theorem dirE_none {t : List NodeV} {d : List UInt8} (hd : d ≠ []) (hf : findL t d = t.length) : dirE t d = 5 := by
  unfold dirE; rw [if_neg hd, hf, List.getElem?_eq_none (Nat.le_refl _)]
theorem dirE_up {t : List NodeV} {d : List UInt8} (hd : d ≠ []) (hf : findL t d < t.length) (hk : (t[findL t d]'hf).kind ≠ 2) : dirE t d = 10 := by
  unfold dirE; rw [if_neg hd, List.getElem?_eq_getElem hf]; exact if_neg hk
theorem dirE_ok {t : List NodeV} {d : List UInt8} (hd : d ≠ []) (hf : findL t d < t.length) (hk : (t[findL t d]'hf).kind = 2) : dirE t d = 0 := by
  unfold dirE; rw [if_neg hd, List.getElem?_eq_getElem hf]; exact if_pos hk
theorem namesE_dir {t : List NodeV} {d : List UInt8} (h : treeE t = 0) : namesE t d = dirE t d := by unfold namesE; rw [if_neg (by simp [h])]; rfl
set_option maxHeartbeats 4000000 in
theorem checkDir_any (A : Option Addr) (n c : Nat) (l : List NodeV) (s : ByteArray) (hn : l.length = n) (h40 : n ≤ 40) (hsz : ∀ x ∈ l, x.sz) (w : World) (hA : NodesAt w A l) :
    Calls Tryd.prog 13 #[.slice A n c, .string s] w fun e w' => e = .returned (.int .i64 (dirE l s.data.toList)) ∧ Below w.heap.size w w' := by
  by_cases hd : s.data.toList = []
  · have e0 : s.toList = [] := toList_nil hd
    rw [hd, dirE_top]
    clear hd hA hsz
    go_enter Tryd.func13, Tryd.ntmps13
    go_wp2_with fail
    go_ret
    exact ⟨rfl, Below.refl _ _⟩
  · have hd1 : s.toList.isEmpty = false := toList_ne hd
    have hd2 : ¬ s.toList = [] := by rw [eq_const]; exact hd
    have HF := Lib.hid (Find_any A n c l s hn (by omega) hsz w hA)
    have hle := findL_le l s.data.toList
    rw [hn] at hle
    by_cases hlt0 : findL l s.data.toList < n
    · have hf1 : findL l s.data.toList < l.length := by rw [hn]; exact hlt0
      rw [if_pos hlt0] at HF
      have HKc : Hid (∀ W : World, Below w.heap.size w W → ∃ (b o : Nat), A = some ⟨b, o, none⟩ ∧ W.cell? ⟨b, o + findL l s.data.toList * 12 + 1, none⟩ = some (.int .i64 (l[findL l s.data.toList]'hf1).kind)) := fun W hW => by
        obtain ⟨b, o, E, cc, hbo, -, -, -, hcl⟩ := hA.cells2 _ hf1
        exact ⟨b, o, hbo, (hcl W hW).2.1⟩
      by_cases hk2 : (l[findL l s.data.toList]'hf1).kind = 2
      · have HE := Lib.hid (dirE_ok hd hf1 hk2)
        rw [HE.out]
        rw [hk2] at HKc
        generalize findL l s.data.toList = fi at *
        clear HE hk2 hA hsz hd hf1 hle
        go_enter Tryd.func13, Tryd.ntmps13
        go_wp2_with fail
        refine HF.out.mono ?_; rintro e w1 ⟨rfl, hb⟩
        have HB := Lib.hid hb
        obtain ⟨bq, oq, hAq, hcq⟩ := HKc.out _ hb
        subst hAq
        clear hb HF
        go_wp2_with fail
        go_ret
        exact ⟨rfl, HB.out⟩
      · have HE := Lib.hid (dirE_up hd hf1 hk2)
        rw [HE.out]
        obtain ⟨kd, hkd⟩ : ∃ kd, kd = (l[findL l s.data.toList]'hf1).kind := ⟨_, rfl⟩
        rw [← hkd] at hk2 HKc
        have hk3 : (kd != 2) = true := by simpa using hk2
        generalize findL l s.data.toList = fi at *
        clear HE hkd hA hsz hd hf1 hle
        go_enter Tryd.func13, Tryd.ntmps13
        go_wp2_with fail
        refine HF.out.mono ?_; rintro e w1 ⟨rfl, hb⟩
        have HB := Lib.hid hb
        obtain ⟨bq, oq, hAq, hcq⟩ := HKc.out _ hb
        subst hAq
        clear hb HF
        go_wp2_with fail
        go_ret
        exact ⟨rfl, HB.out⟩
    · have HE := Lib.hid (dirE_none hd (show findL l s.data.toList = l.length by omega))
      rw [HE.out]
      rw [if_neg hlt0] at HF
      generalize findL l s.data.toList = fi at *
      clear HE hA hsz hd hle hlt0
      go_enter Tryd.func13, Tryd.ntmps13
      go_wp2_with fail
      refine HF.out.mono ?_; rintro e w1 ⟨rfl, hb⟩
      have HB := Lib.hid hb
      clear hb HF
      go_wp2_with fail
      go_ret
      exact ⟨rfl, HB.out⟩
theorem namesT_step (t : List NodeV) (d : List UInt8) (ks : List NodeV) (hks : ks = kids t d) : namesT t d = ks.map fun x => baseL x.path := by rw [hks]; rfl
theorem map_step (ks : List NodeV) (k : Nat) (hk : k < ks.length) : ((ks.take (k + 1)).map fun x => baseL x.path) = ((ks.take k).map fun x => baseL x.path) ++ [baseL ks[k].path] := by
  rw [List.take_succ_eq_append_getElem hk, List.map_append]; rfl
set_option maxHeartbeats 8000000 in
theorem Names_any (A : Option Addr) (n c : Nat) (l : List NodeV) (s : ByteArray) (hn : l.length = n) (hc : SlOk A n c) (hsz : ∀ x ∈ l, x.sz) (w : World) (hA : NodesAt w A l) :
    Calls Tryd.prog 5 #[.slice A n c, .string s] w fun e w' => ∃ v, e = .returned (.tuple #[v, .int .i64 (namesE l s.data.toList)]) ∧ Texts w' w.heap.size v (namesR l s.data.toList) ∧ Below w.heap.size w w' := by
  have HA := Lib.hid hA
  have HCk := Lib.hid fun W h => trCheck_any A n c l hn hc hsz W h
  by_cases h0 : treeE l = 0
  · have h40 : n ≤ 40 := by have := ((treeE_zero l).1 h0).1; omega
    have HSH := Lib.hid fun x hx => ((treeE_zero l).1 h0).2.short (x := x) hx
    have HDr := Lib.hid fun W h => checkDir_any A n c l s hn h40 hsz W h
    have HNd := Lib.hid fun W h => nodesIn_any A n c l s hn h40 (fun x hx => HSH.out x hx) W h
    have HKm : Hid (∀ x ∈ kids l s.data.toList, x ∈ l) := fun x hx => (mem_kids.1 hx).1
    have hKl : (kids l s.data.toList).length ≤ 40 := by have := kids_len l s.data.toList; omega
    rw [namesE_dir h0]
    by_cases hd : dirE l s.data.toList = 0
    · have HV : Hid (namesR l s.data.toList = (kids l s.data.toList).map fun x => baseL x.path) := by unfold Hid; rw [namesR_ok (by rw [namesE_dir h0]; exact hd)]; rfl
      rw [hd] at HDr ⊢
      rw [h0] at HCk
      rw [HV.out]
      generalize hK : kids l s.data.toList = K at *
      clear h0 hd hA hn hsz hc HV hK
      go_enter Tryd.func5, Tryd.ntmps5
      go_wp2_with fail
      refine (HCk.out _ HA.out).mono ?_; rintro e w1 ⟨rfl, hb⟩
      have HB1 := Lib.hid hb
      clear hb
      go_wp2_with fail
      refine (HDr.out _ (HA.out.below HB1.out)).mono ?_; rintro e w2 ⟨rfl, hb⟩
      have HB2 := Lib.hid (HB1.out.trans (hb.mono HB1.out.size))
      clear hb
      go_wp2_with fail
      refine (HNd.out _ (HA.out.below HB2.out)).mono ?_; rintro e w3 ⟨v3, ys, rfl, hys, hR, hDt, hb⟩
      have HB3 := Lib.hid (HB2.out.trans (hb.mono HB2.out.size))
      obtain ⟨A3, c3, he3, hs3, hat3⟩ := hR.at hDt
      rw [hys] at hat3
      have hyl : ys.length = K.length := by rw [← hys, List.length_map]
      rw [hyl] at he3
      obtain ⟨m, hm⟩ : ∃ m, K.length = m := ⟨_, rfl⟩
      rw [hm] at he3 hKl
      subst he3
      have HA3 := Lib.hid hat3
      have HM := Lib.hid hm
      clear hb hR hDt hs3 hat3 hys hyl hm HCk HDr HNd
      go_wp2_with fail
      go_loopw [8, 26] (fun ov iv wr => ∃ (k : Nat), k ≤ m ∧ iv = .int .i64 k ∧ Hid (Texts wr w3.heap.size ov ((K.take k).map fun x => baseL x.path)) ∧ Hid (Below w3.heap.size w3 wr)) (fun _ iv _ => m - (intOf iv).toNat)
      case atStart => exact ⟨0, Nat.zero_le _, rfl, by rw [List.take_zero]; exact Texts.nil _ _, Below.refl _ _⟩
      case round =>
        obtain ⟨k, hk, rfl, HT, HBa3⟩ := hrel
        by_cases hlt : k < m
        · have hk1 : k < K.length := by rw [HM.out]; exact hlt
          obtain ⟨b, o, E, cc, hbo, hb1, hSl, hE, hcl⟩ := HA3.out.cells2 k hk1
          subst hbo
          obtain ⟨c0, c1, c2', c4', ⟨c4, c5, c6, c7, c8, c9, cA⟩, cB⟩ := hcl wr HBa3.out
          have HST := Lib.hid (map_step K k hk1)
          have hsh := HSH.out _ (HKm.out _ (List.getElem_mem hk1))
          have hlen : ((K.take k).map fun x => baseL x.path).length ≤ 40 := by rw [List.length_map, List.length_take]; omega
          generalize hy : K[k] = y at *
          have HP := Lib.hid fun W => Base_any (bs y.path) W (by rw [bs_size]; omega)
          simp only [bs_list] at HP
          clear hy hcl hSl hE hb1
          go_upto_region 11 with fail
          have HBl := Lib.hid (Blk.new wr 40 #[.string (bs y.path), .int .i64 y.kind, .int .i64 y.same, .string (bs y.target), .int .i64 y.md.mode, .int .i64 y.md.uid, .int .i64 y.md.gid, .string (bs y.md.user), .string (bs y.md.group), .int .i64 y.md.second, .int .i64 y.md.nano, .slice E y.data.length cc])
          have HBc := Lib.hid (belowA HBa3.out (.cells #[.string (bs y.path), .int .i64 y.kind, .int .i64 y.same, .string (bs y.target), .int .i64 y.md.mode, .int .i64 y.md.uid, .int .i64 y.md.gid, .string (bs y.md.user), .string (bs y.md.group), .int .i64 y.md.second, .int .i64 y.md.nano, .slice E y.data.length cc] 40))
          have HTa := Lib.hid (HT.out.alloc (.cells #[.string (bs y.path), .int .i64 y.kind, .int .i64 y.same, .string (bs y.target), .int .i64 y.md.mode, .int .i64 y.md.uid, .int .i64 y.md.gid, .string (bs y.md.user), .string (bs y.md.group), .int .i64 y.md.second, .int .i64 y.md.nano, .slice E y.data.length cc] 40))
          generalize hwa : wr.alloc _ = wa at HBl HBc HTa ⊢
          obtain ⟨⟨e0, e1, e2, e3, e4, e5, e6, e7, e8, e9, eA, eB⟩, -⟩ := blk12 HBl.out
          clear hwa c0 c1 c2' c4' c4 c5 c6 c7 c8 c9 cA cB
          go_wp2_with fail
          refine (HP.out _).mono ?_; rintro e w6 ⟨rfl, hb⟩
          have HC6 := Lib.hid (HBc.out.trans (hb.mono HBc.out.size))
          have HT6 := Lib.hid (HTa.out.below hb)
          clear hb e0 e1 e2 e3 e4 e5 e6 e7 e8 e9 eA eB
          go_wp2_with (at_builtin; refine Stay.go ?_)
          refine Stay.on ?_
          refine append_text rfl (.tmp 30) (.tmp 34) rfl w3.heap.size _ _ rfl (HT6.out.alloc _) w6.heap.size (baseL y.path) rfl (by rw [World.cell?_alloc_at (hn := rfl)]; rfl) (by omega) (by simp; have := HC6.out.size; omega) ?_
          intro v7 w7 ho7 hg7
          have HT7 : Hid (Texts w7 w3.heap.size v7 ((K.take (k + 1)).map fun x => baseL x.path)) := by unfold Hid; rw [HST.out]; exact ho7
          have HC7 : Hid (Below w3.heap.size w3 w7) := (HC6.out.alloc HC6.out.size _).grown hg7 (by rw [hszA]; have := HC6.out.size; omega) HT6.out.above
          clear ho7 hg7
          go_wp2_with fail
          go_roundw
          case rel => exact ⟨k + 1, by omega, by go_num, HT7, HC7⟩
          case measure => simp [intOf]; omega
        · obtain rfl : k = m := by omega
          have h2 := HT.out
          rw [List.take_of_length_le (by rw [HM.out]; omega)] at h2
          have HTl := Lib.hid h2
          clear h2
          go_wp2_with fail
          go_ret2
          exact ⟨_, rfl, own_mono HTl.out HB3.out.size, HB3.out.trans (HBa3.out.mono HB3.out.size)⟩
    · have HV := Lib.hid (namesR_no (t := l) (d := s.data.toList) (by rw [namesE_dir h0]; exact hd))
      rw [HV.out]
      rw [h0] at HCk
      have h1 : (dirE l s.data.toList != 0) = true := by simpa using hd
      generalize dirE l s.data.toList = t at *
      clear h0 hd hA hn hsz hc HV
      go_enter Tryd.func5, Tryd.ntmps5
      go_wp2_with fail
      refine (HCk.out _ HA.out).mono ?_; rintro e w1 ⟨rfl, hb⟩
      have HB1 := Lib.hid hb
      clear hb
      go_wp2_with fail
      refine (HDr.out _ (HA.out.below HB1.out)).mono ?_; rintro e w2 ⟨rfl, hb⟩
      have HB2 := Lib.hid (HB1.out.trans (hb.mono HB1.out.size))
      clear hb
      go_wp2_with fail
      go_ret2
      exact ⟨_, rfl, Texts.nil _ _, HB2.out⟩
  · have HE := Lib.hid (namesE_bad (d := s.data.toList) h0)
    have HV := Lib.hid (namesR_no (t := l) (d := s.data.toList) (by rw [HE.out]; exact h0))
    have h1 : (treeE l != 0) = true := by simpa using h0
    rw [HE.out, HV.out]
    clear HE HV
    generalize treeE l = t at *
    clear h0 hA hn hsz hc
    go_enter Tryd.func5, Tryd.ntmps5
    go_wp2_with fail
    refine (HCk.out _ HA.out).mono ?_; rintro e w1 ⟨rfl, hb⟩
    have HB1 := Lib.hid hb
    clear hb
    go_wp2_with fail
    go_ret2
    exact ⟨_, rfl, Texts.nil _ _, HB1.out⟩
set_option maxHeartbeats 4000000 in
theorem Depth_any (A : Option Addr) (n c : Nat) (l : List NodeV) (hn : l.length = n) (hc : SlOk A n c) (hsz : ∀ x ∈ l, x.sz) (w : World) (hA : NodesAt w A l) :
    Calls Tryd.prog 9 #[.slice A n c] w fun e w' => e = .returned (.tuple #[.int .i64 (deepR l : Nat), .int .i64 (treeE l)]) ∧ Below w.heap.size w w' := by
  have HA := Lib.hid hA
  have HN := Lib.hid hn
  have HCk := Lib.hid fun W h => trCheck_any A n c l hn hc hsz W h
  by_cases h0 : treeE l = 0
  · have h40 : n ≤ 40 := by have := ((treeE_zero l).1 h0).1; omega
    have HSH := Lib.hid fun x hx => ((treeE_zero l).1 h0).2.short (x := x) hx
    have HNE := Lib.hid fun x hx => ((treeE_zero l).1 h0).2.ne (x := x) hx
    have HV := Lib.hid (deepR_ok h0)
    rw [h0] at HCk ⊢
    clear h0 hA hn hsz hc
    go_enter Tryd.func9, Tryd.ntmps9
    go_wp2_with fail
    refine (HCk.out _ HA.out).mono ?_; rintro e w1 ⟨rfl, hb⟩
    have HB1 := Lib.hid hb
    clear hb
    go_wp2_with fail
    go_loopw [5, 15] (fun ov iv wr => ∃ (k m : Nat), k ≤ n ∧ m ≤ 401 ∧ ov = .int .i64 m ∧ iv = .int .i64 k ∧ Hid (deepT (l.take k) = m) ∧ Hid (Below w.heap.size w wr)) (fun _ iv _ => n - (intOf iv).toNat)
    case atStart => exact ⟨0, 0, Nat.zero_le _, by omega, rfl, rfl, by rw [List.take_zero]; rfl, HB1.out⟩
    case round =>
      obtain ⟨k, m, hk, hm, rfl, rfl, HT, HB⟩ := hrel
      by_cases hlt : k < n
      · have hk1 : k < l.length := by rw [HN.out]; exact hlt
        obtain ⟨b, o, E, cc, rfl, hb1, hSl, hE, hcl⟩ := HA.out.cells2 k hk1
        obtain ⟨c0, c1, c2', c3, ⟨c4, c5, c6, c7, c8, c9, cA⟩, cB⟩ := hcl wr HB.out
        have HST := Lib.hid (deepT_step l k hk1)
        have hsh := HSH.out _ (List.getElem_mem hk1)
        have hne := HNE.out _ (List.getElem_mem hk1)
        generalize hy : l[k] = y at *
        have HP := Lib.hid fun W => Parts_any (bs y.path) W (by rw [bs_size]; omega)
        simp only [bs_list] at HP
        obtain ⟨q, hq⟩ : ∃ q, q = (partsL 47 y.path).length := ⟨_, rfl⟩
        have hq2 : q ≤ 401 := by rw [hq]; have := partsL_le 47 y.path; omega
        have hpp : (pp y.path).length = q := by rw [hq]; unfold pp; rw [if_neg hne]
        rw [HT.out, ← hq] at HST
        clear hy hcl hSl hE hb1 hne
        go_upto_region 8 with fail
        have HBl := Lib.hid (Blk.new wr 40 #[.string (bs y.path), .int .i64 y.kind, .int .i64 y.same, .string (bs y.target), .int .i64 y.md.mode, .int .i64 y.md.uid, .int .i64 y.md.gid, .string (bs y.md.user), .string (bs y.md.group), .int .i64 y.md.second, .int .i64 y.md.nano, .slice E y.data.length cc])
        have HBa := Lib.hid (belowA HB.out (.cells #[.string (bs y.path), .int .i64 y.kind, .int .i64 y.same, .string (bs y.target), .int .i64 y.md.mode, .int .i64 y.md.uid, .int .i64 y.md.gid, .string (bs y.md.user), .string (bs y.md.group), .int .i64 y.md.second, .int .i64 y.md.nano, .slice E y.data.length cc] 40))
        generalize hwa : wr.alloc _ = wa at HBl HBa ⊢
        obtain ⟨⟨e0, e1, e2, e3, e4, e5, e6, e7, e8, e9, eA, eB⟩, -⟩ := blk12 HBl.out
        clear hwa c0 c1 c2' c3 c4 c5 c6 c7 c8 c9 cA cB
        go_wp2_with fail
        refine (HP.out _).mono ?_; rintro e w6 ⟨v, rfl, ht, hb⟩
        obtain ⟨A6, c6, rfl, -⟩ := ht.any
        rw [hpp]
        have HB6 := Lib.hid (HBa.out.trans (hb.mono HBa.out.size))
        clear hb ht hq hpp e0 e1 e2 e3 e4 e5 e6 e7 e8 e9 eA eB
        by_cases hlt2 : m < q
        · have HT6 : Hid (deepT (l.take (k + 1)) = q) := by unfold Hid; rw [HST.out]; omega
          go_wp2_with fail
          go_roundw
          case rel => exact ⟨k + 1, q, by omega, hq2, by first | rfl | go_num | (congr 1; omega), by go_num, HT6, HB6⟩
          case measure => simp [intOf]; omega
        · have HT6 : Hid (deepT (l.take (k + 1)) = m) := by unfold Hid; rw [HST.out]; omega
          go_wp2_with fail
          go_roundw
          case rel => exact ⟨k + 1, m, by omega, hm, by first | rfl | go_num | (congr 1; omega), by go_num, HT6, HB6⟩
          case measure => simp [intOf]; omega
      · obtain rfl : k = n := by omega
        have h2 := HT.out
        rw [List.take_of_length_le (by rw [HN.out]; omega), ← HV.out] at h2
        subst h2
        go_wp2_with fail
        go_ret2
        exact ⟨rfl, HB.out⟩
  · have HV := Lib.hid (deepR_no h0)
    have h1 : (treeE l != 0) = true := by simpa using h0
    generalize treeE l = t at *
    clear h0 hA hn hsz hc
    go_enter Tryd.func9, Tryd.ntmps9
    go_wp2_with fail
    refine (HCk.out _ HA.out).mono ?_; rintro e w1 ⟨rfl, hb⟩
    have HB1 := Lib.hid hb
    clear hb
    go_wp2_with fail
    go_ret2
    exact ⟨by rw [HV.out]; rfl, HB1.out⟩
end Go.Proofs.YtmgndhdikleagaaDoor
