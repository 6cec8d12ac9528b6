/- slices.DeleteFunc; tree.Remove. -/
import Derived.Test.YtggbjpjmedkjeaaGreatDoorTrgK
import Derived.Deep.DeepCutAuto
set_option linter.unusedVariables false
set_option maxRecDepth 100000
namespace Go.Proofs.YtggbjpjmedkjeaaGreatDoor
open Go.RowKit
open Go.OpenShut
set_option maxHeartbeats 8000000 in
theorem Delete_any (f : Nat) (p : Value) (P : NodeV → Bool) (I : World → Prop) (g : Nat) (hI : ∀ W W', I W → Below W.heap.size W W' → I W') (hI2 : ∀ W o vs, I W → I (W.setCells g o vs))
    (hf : ∀ (x : NodeV) (D : Option Addr) (c : Nat) (W : World), I W → x.sz → Calls Tryz.prog f #[.agg (nodC x D c).toArray, p] W fun e w' => e = .returned (.bool (P x)) ∧ Below W.heap.size W w')
    (ef : ∀ args w, (callFunc f args).run Tryz.prog w = .ok (.enter f args) w)
    (B n cap : Nat) (xs : List NodP) (hn : xs.length = n) (hm : n ≤ 1000) (hsz : ∀ y ∈ xs, y.1.sz) (w : World) (h : OwnN w B (.slice (some ⟨g, 0, none⟩) n cap) xs) (hB : B ≤ w.heap.size) (hw : I w) :
    Calls Tryz.prog 40 #[.slice (some ⟨g, 0, none⟩) n cap, .func (.func f) #[] #[p]] w fun e w' => ∃ v' xs', e = .returned v' ∧ xs'.map (·.1) = (xs.map (·.1)).filter (fun x => !P x) ∧ OwnN w' B v' xs' ∧ Below B w w' := by
  obtain ⟨A, c0, e0, hs0, hat0⟩ := h.at
  rw [hn] at e0
  injection e0 with e1 _ e3
  subst e1 e3
  have hgB := h.1.above g rfl
  have hcap : n ≤ cap := by have := hs0.1; omega
  have hmx := hs0.2.1
  unfold maxLen at hmx
  have HIx := Lib.hid (IndexFunc_any f p P I hI hf ef (some ⟨g, 0, none⟩) n cap (xs.map (·.1)) (by rw [List.length_map]; exact hn) (by omega) (fun x hx => by
    obtain ⟨y, hy, rfl⟩ := List.mem_map.1 hx
    exact hsz y hy) w hw hat0)
  have HN := Lib.hid hn
  have HO := Lib.hid h
  have HF := Lib.hid hf
  have HI := Lib.hid hI
  have HI2 := Lib.hid hI2
  have HW := Lib.hid hw
  have HSZ := Lib.hid hsz
  have hle := idx_le P (xs.map (·.1))
  rw [List.length_map, hn] at hle
  clear hn h hf hI hI2 hw hsz hs0 hat0
  rcases Nat.lt_or_eq_of_le hle with hlt | heq
  · obtain ⟨i, hi⟩ : ∃ i, i = (xs.map (·.1)).findIdx P := ⟨_, rfl⟩
    have hin : i < n := by omega
    have HK0 := Lib.hid (keep_start (P := P) (xs := xs) (i := i) (by rw [HN.out]; exact hin) hi.symm)
    rw [idxI_yes (by rw [List.length_map, HN.out]; exact hlt), ← hi] at HIx
    have hne1 : ((i : Int) == -1) = false := by first | (simp; done) | (simp; omega)
    clear hle hlt hi
    go_enter Tryz.func40, Tryz.ntmps40
    go_wp2_with fail
    refine HIx.out.mono ?_; rintro e w1 ⟨rfl, hb⟩
    have HB1 : Hid (Below B w w1) := hb.mono hB
    have HO1 := Lib.hid (HO.out.below hb)
    have HW1 := Lib.hid (HI.out _ _ HW.out hb)
    clear hb HIx
    go_wp2_with fail
    go_loopw [5, 6] (fun iv jv wr => ∃ (i j : Nat) (xs' : List NodP), iv = .int .i64 i ∧ jv = .int .i64 j ∧ i < j ∧ j ≤ n ∧ Hid (RowN wr B (.slice (some ⟨g, 0, none⟩) n cap) xs') ∧ Hid (xs'.length = n) ∧ Hid (xs'.take i = (xs.take j).filter (keepP P)) ∧ Hid (xs'.drop j = xs.drop j) ∧ Hid (∀ y ∈ xs, OwnB wr B y.2 y.1.data) ∧ Hid (Below B w wr) ∧ Hid (I wr) ∧ Hid (∀ y ∈ xs'.take i, y ∈ xs)) (fun _ jv _ => n - (intOf jv).toNat)
    case atStart => exact ⟨i, i + 1, xs, rfl, by go_num, by omega, by omega, HO1.out.1, HN.out, HK0.out, rfl, HO1.out.2, HB1.out, HW1.out, fun y hy => List.mem_of_mem_take hy⟩
    case round =>
      obtain ⟨i, j, xs', rfl, rfl, hij, hjn, HR, HL, HT, HD, HDT, HB, HIw, HM⟩ := hrel
      have hBw : B ≤ wr.heap.size := by
        have := (World.ownsRow.lt HR.out g rfl)
        omega
      by_cases hlt : j < n
      · have hj1 : j < xs.length := by rw [HN.out]; exact hlt
        have hj2 : j < xs'.length := by rw [HL.out]; exact hlt
        have hi2 : i < xs'.length := by omega
        obtain ⟨⟨c0, c1, c2, c3, c4, c5, c6, c7, c8, c9, cA, cB⟩, -⟩ := HR.out.cells12 HL.out j hj2
        rw [drop_get hj1 hj2 HD.out] at c0 c1 c2 c3 c4 c5 c6 c7 c8 c9 cA cB
        have hmem : xs[j] ∈ xs := List.getElem_mem hj1
        obtain ⟨E, cc, he, -, -⟩ := (HDT.out _ hmem).form
        have HY := Lib.hid fun hk => keep_yes (P := P) hj1 hij (by rw [HL.out, HN.out]) HT.out hk
        have HNo := Lib.hid fun hk => keep_no (P := P) hj1 HT.out hk
        have HSy := HSZ.out _ hmem
        have HRs : Hid (∀ W, RowN W B (.slice (some ⟨g, 0, none⟩) n cap) xs' → RowN (W.setCells g (i * 12) (nodV xs[j].1 xs[j].2)) B (.slice (some ⟨g, 0, none⟩) n cap) (xs'.set i xs[j])) := fun W hW => hW.setNode HL.out i hi2 _
        have HMs : Hid (∀ y ∈ (xs'.set i xs[j]).take (i + 1), y ∈ xs) := fun y hy => by
          rw [List.take_succ_eq_append_getElem (by rw [List.length_set]; exact hi2), List.getElem_set_self, List.take_set_of_le (Nat.le_refl i)] at hy
          rcases List.mem_append.1 hy with a | a
          · exact HM.out y a
          · simp at a; subst a; exact hmem
        have HDs := Lib.hid (drop_set (j := j) hij HD.out xs[j])
        have HDn := Lib.hid (drop_next HD.out)
        generalize hyy : xs[j] = yy at *
        obtain ⟨y, yv⟩ := yy
        simp only at c0 c1 c2 c3 c4 c5 c6 c7 c8 c9 cA cB he HSy HY HNo HRs
        subst he
        have HC := Lib.hid fun W hW => HF.out y E cc W hW HSy
        unfold nodC at HC
        unfold nodV at HRs
        clear hyy hmem
        obtain ⟨q, hq⟩ : ∃ q, q = P y := ⟨_, rfl⟩
        rw [← hq] at HC HY HNo
        clear hq HSy
        go_upto_region 8 with fail
        have HBl := Lib.hid (Blk.new wr 32 #[.string (bs y.path), .int .i64 y.kind, .int .i64 y.same, .string (bs y.target), .int .i64 y.md.mode, .int .i64 y.md.uid, .int .i64 y.md.gid, .string (bs y.md.user), .string (bs y.md.group), .int .i64 y.md.second, .int .i64 y.md.nano, .slice E y.data.length cc])
        have hBa : Below wr.heap.size wr (wr.alloc (.cells #[.string (bs y.path), .int .i64 y.kind, .int .i64 y.same, .string (bs y.target), .int .i64 y.md.mode, .int .i64 y.md.uid, .int .i64 y.md.gid, .string (bs y.md.user), .string (bs y.md.group), .int .i64 y.md.second, .int .i64 y.md.nano, .slice E y.data.length cc] 32)) := belowA (Below.refl _ _) _
        have HBa := Lib.hid hBa
        clear hBa
        generalize hwa : wr.alloc _ = wa at HBl HBa ⊢
        obtain ⟨⟨e0, e1, e2, e3, e4, e5, e6, e7, e8, e9, eA, eB⟩, -⟩ := blk12 HBl.out
        have HIa := Lib.hid (HI.out _ _ HIw.out HBa.out)
        clear hwa c0 c1 c2 c3 c4 c5 c6 c7 c8 c9 cA cB
        go_wp2_with fail
        refine (HC.out _ HIa.out).mono ?_; rintro e w5 ⟨rfl, hb5⟩
        have HB5 : Hid (Below wr.heap.size wr w5) := HBa.out.trans (hb5.mono HBa.out.size)
        have HBl5 := Lib.hid (HBl.out.below hb5 HBl.out.lt)
        have HI5 := Lib.hid (HI.out _ _ HIa.out hb5)
        have HR5 := Lib.hid (HR.out.below HB5.out)
        have HDT5 : Hid (∀ y ∈ xs, OwnB w5 B y.2 y.1.data) := fun y hy => (HDT.out y hy).below HB5.out
        have HBw5 : Hid (Below B w w5) := HB.out.trans (HB5.out.mono hBw)
        clear hb5 e0 e1 e2 e3 e4 e5 e6 e7 e8 e9 eA eB
        cases q with
        | true =>
          have HT2 := Lib.hid (HNo.out rfl)
          clear HY HNo
          go_wp2_with fail
          go_roundw
          case rel => exact ⟨i, j + 1, xs', rfl, by go_num, by omega, by omega, HR5, HL, HT2, HDn, HDT5, HBw5, HI5, HM⟩
          case measure => simp [intOf]; omega
        | false =>
          have HT2 := Lib.hid (HY.out rfl)
          clear HY HNo
          obtain ⟨⟨e0, e1, e2, e3, e4, e5, e6, e7, e8, e9, eA, eB⟩, -⟩ := blk12 HBl5.out
          obtain ⟨⟨c0, c1, c2, c3, c4, c5, c6, c7, c8, c9, cA, cB⟩, g0, g1, g2, g3, g4, g5, g6, g7, g8, g9, gA, gB⟩ := HR5.out.cells12 HL.out i hi2
          have HR6 := Lib.hid (HRs.out _ HR5.out)
          have HI6 := Lib.hid (HI2.out w5 (i * 12) [.string (bs y.path), .int .i64 y.kind, .int .i64 y.same, .string (bs y.target), .int .i64 y.md.mode, .int .i64 y.md.uid, .int .i64 y.md.gid, .string (bs y.md.user), .string (bs y.md.group), .int .i64 y.md.second, .int .i64 y.md.nano, .slice E y.data.length cc] HI5.out)
          have HB6 := Lib.hid (Below.setMany hgB [.string (bs y.path), .int .i64 y.kind, .int .i64 y.same, .string (bs y.target), .int .i64 y.md.mode, .int .i64 y.md.uid, .int .i64 y.md.gid, .string (bs y.md.user), .string (bs y.md.group), .int .i64 y.md.second, .int .i64 y.md.nano, .slice E y.data.length cc] w5 (i * 12) HBw5.out)
          have HDT6 : Hid (∀ z ∈ xs, OwnB (w5.setCells g (i * 12) [.string (bs y.path), .int .i64 y.kind, .int .i64 y.same, .string (bs y.target), .int .i64 y.md.mode, .int .i64 y.md.uid, .int .i64 y.md.gid, .string (bs y.md.user), .string (bs y.md.group), .int .i64 y.md.second, .int .i64 y.md.nano, .slice E y.data.length cc]) B z.2 z.1.data) := fun z hz => (HDT5.out z hz).setAway HR5.out _ _
          have hin : i < n := by omega
          rw [← set_outer] at HR6 HI6 HB6 HDT6
          go_wp2_with fail
          go_roundw
          case rel => exact ⟨i + 1, j + 1, xs'.set i (y, .slice E y.data.length cc), by go_num, by go_num, by omega, by omega, HR6, by unfold Hid; rw [List.length_set]; exact HL.out, HT2, HDs, HDT6, HB6, HI6, HMs⟩
          case measure => simp [intOf]; omega
      · obtain rfl : j = n := by omega
        have hxl := HL.out
        have hcut : cutN (some ⟨g, 0, none⟩) cap i = some ⟨g, i * 12, none⟩ := by
          unfold cutN
          rw [if_neg (by omega), Option.map_some, Addr.add_lit, Nat.zero_add]
        have s1 := fun W => nslice_from W (some ⟨g, 0, none⟩) j cap i (by omega)
        rw [hcut] at s1
        have hR0 := HR.out
        unfold RowN at hR0
        rw [hxl] at hR0
        have hcl : ∀ ty, (Builtin.clear_ #[23] ty #[.slice (some ⟨g, i * 12, none⟩) (j - i) (cap - i)]).run Tryz.prog wr = .ok (.tuple #[]) (wr.setCells g (i * 12) (Builtin.zeroCells zeroN (j - i)).toList) :=
          fun ty => run_clear_nodes wr ty g (i * 12) (j - i) (cap - i) (by omega) (fun q hq => by
            rw [World.ownsRow.cellAt hR0 (i * 12 + q) (by omega), List.getElem?_eq_getElem (by rw [rowN_length, hxl]; omega)]; rfl) (fun q hq => World.ownsRow.frozenAt hR0 _)
        have s2 := fun W => nslice_to W (some ⟨g, 0, none⟩) j cap i (by omega)
        have HRf := Lib.hid ((HR.out.short hxl i (by omega)).setFar (by rw [List.length_take, hxl]; omega) (i * 12) (Nat.le_refl _) (Builtin.zeroCells zeroN (j - i)).toList)
        have HDf : Hid (∀ y ∈ xs'.take i, OwnB (wr.setCells g (i * 12) (Builtin.zeroCells zeroN (j - i)).toList) B y.2 y.1.data) := fun y hy => (HDT.out y (HM.out y hy)).setAway HR.out _ _
        have HBf := Lib.hid (Below.setMany hgB (Builtin.zeroCells zeroN (j - i)).toList wr (i * 12) HB.out)
        have HV : Hid ((xs'.take i).map (·.1) = (xs.map (·.1)).filter (fun x => !P x)) := by
          unfold Hid
          rw [HT.out, List.take_of_length_le (by rw [HN.out]; omega), keep_map]
        obtain ⟨Z, hZ⟩ := hid_name (Builtin.zeroCells zeroN (j - i)).toList
        obtain ⟨jm, hjm⟩ := hid_name (j - i)
        obtain ⟨cm, hcm⟩ := hid_name (cap - i)
        rw [hZ.out] at HRf HDf HBf
        simp only [hjm.out, hcm.out] at s1
        simp only [hZ.out] at hcl
        simp only [hjm.out, hcm.out] at hcl
        clear hcut hR0 hxl
        go_wp2_with fail
        go_ret
        exact ⟨_, rfl, xs'.take i, HV.out, ⟨HRf.out, HDf.out⟩, HBf.out⟩
  · have HV := Lib.hid (keep_all (P := P) (xs := xs) (by rw [HN.out]; exact heq))
    rw [idxI_no (by rw [List.length_map, HN.out]; exact heq)] at HIx
    clear hle heq
    go_enter Tryz.func40, Tryz.ntmps40
    go_wp2_with fail
    refine HIx.out.mono ?_; rintro e w1 ⟨rfl, hb⟩
    have HB1 : Hid (Below B w w1) := hb.mono hB
    have HO1 := Lib.hid (HO.out.below hb)
    clear hb
    go_wp2_with fail
    go_ret
    exact ⟨_, xs, rfl, HV.out.symm, HO1.out, HB1.out⟩
theorem remT_bad {l : List NodeV} {s : List UInt8} (h : treeE l ≠ 0) : remT l s = ([], treeE l) := if_pos h
theorem remT_none {l : List NodeV} {s : List UInt8} (h : treeE l = 0) (h2 : findL l s = l.length) : remT l s = ([], 5) := by unfold remT; rw [if_neg (by simp [h]), if_pos h2]
theorem remT_ok {l : List NodeV} {s : List UInt8} (h : treeE l = 0) (h2 : findL l s ≠ l.length) : remT l s = (remL l s, 0) := by unfold remT; rw [if_neg (by simp [h]), if_neg h2]
theorem cell_far (b g : Nat) (hne : b ≠ g) (v : Value) (W : World) (o : Nat) (vs : List Value) (h : W.cell? ⟨b, 0, none⟩ = some v) : (W.setCells g o vs).cell? ⟨b, 0, none⟩ = some v := by
  rw [World.cell?_setCells_out g vs o W ⟨b, 0, none⟩ (fun e => absurd e hne)]; exact h
set_option maxHeartbeats 4000000 in
theorem Remove_any (A : Option Addr) (n c : Nat) (l : List NodeV) (s : ByteArray) (hn : l.length = n) (hm : n * 144 ≤ 140737488351232) (hc : SlOk A n c) (hsz : ∀ x ∈ l, x.sz) (hs : s.size ≤ maxLen) (w : World) (hA : NodesAt w A l) :
    Calls Tryz.prog 12 #[.slice A n c, .string s] w fun e w' => ∃ v xs, e = .returned (.tuple #[v, .int .i64 (remT l s.data.toList).2]) ∧ xs.map (·.1) = (remT l s.data.toList).1 ∧ OwnN w' w.heap.size v xs ∧ Below w.heap.size w w' := by
  have HA := Lib.hid hA
  have HN := Lib.hid hn
  have HCk := Lib.hid fun W h => trCheck_any A n c l hn hc hsz W h
  have HFd := Lib.hid fun W h => Find_any A n c l s hn (by omega) hsz W h
  have HCp := Lib.hid fun W h => Copy_any A n c l hn hm hsz W h
  have HSZ := Lib.hid hsz
  have hle := findL_le l s.data.toList
  rw [hn] at hle
  by_cases h0 : treeE l = 0
  · have h40 : n ≤ 40 := by have := ((treeE_zero l).1 h0).1; omega
    by_cases hlt : findL l s.data.toList < n
    · have HV := Lib.hid (remT_ok (s := s.data.toList) h0 (by rw [hn]; omega))
      have hn0 : 0 < n := by omega
      simp only [if_pos hlt] at HFd
      rw [h0] at HCk
      generalize findL l s.data.toList = fi at *
      clear h0 hA hn hsz hc hle hlt
      go_enter Tryz.func12, Tryz.ntmps12
      go_wp2_with fail
      refine (HCk.out _ HA.out).mono ?_; rintro e w1 ⟨rfl, hb⟩
      have HB1 := Lib.hid hb
      clear hb
      go_wp2_with fail
      refine (HFd.out _ (HA.out.below HB1.out)).mono ?_; rintro e w2 ⟨rfl, hb⟩
      have HB2 := Lib.hid (HB1.out.trans (hb.mono HB1.out.size))
      clear hb
      go_wp2_with fail
      refine (HCp.out _ (HA.out.below HB2.out)).mono ?_; rintro e w3 ⟨v3, xs3, rfl, hx3, hO3, hb⟩
      have HB3 := Lib.hid (HB2.out.trans (hb.mono HB2.out.size))
      have hl3 : xs3.length = n := by rw [← HN.out, ← hx3, List.length_map]
      obtain ⟨g, cap, rfl, hgB, hgl, -, -⟩ := hO3.1.row (by omega)
      rw [hl3] at hO3 ⊢
      have HX3 := Lib.hid hx3
      have HO3 : Hid (OwnN (w3.alloc (.cells #[.string s] 9)) w.heap.size (.slice (some ⟨g, 0, none⟩) n cap) xs3) := (hO3.mono HB2.out.size).alloc _
      have HB4 := Lib.hid (belowA HB3.out (.cells #[.string s] 9))
      have hne : w3.heap.size ≠ g := by omega
      have HDl := Lib.hid (Delete_any 67 (.pointer (some ⟨w3.heap.size, 0, none⟩)) (fun x => decide (x.path = s.data.toList) || inB x.path s.data.toList) (fun W => W.cell? ⟨w3.heap.size, 0, none⟩ = some (.string s)) g (below_cell _ _) (cell_far _ _ hne _) (fun x D c W h hx => orIn1_any s hs _ x hx D c W h) (enters_of Tryz.func67 (by kernel_rfl) rfl)
        w.heap.size n cap xs3 hl3 (by omega) (fun y hy => HSZ.out y.1 (by rw [← HX3.out]; exact List.mem_map_of_mem hy)) (w3.alloc (.cells #[.string s] 9)) HO3.out HB4.out.size (Blk.new w3 9 #[.string s] |>.cell 0))
      clear hx3 hO3 hb hgB hgl hl3 hne
      go_wp2_with fail
      refine (orInf_any s _).mono ?_; rintro e w4 ⟨rfl, rfl⟩
      go_wp2_with fail
      refine HDl.out.mono ?_; rintro e w5 ⟨v5, xs5, rfl, hx5, hO5, hb⟩
      have HX5 := Lib.hid hx5
      have HO5 := Lib.hid hO5
      have HB5 := Lib.hid (HB4.out.trans hb)
      clear hx5 hO5 hb
      go_wp2_with fail
      go_ret2
      exact ⟨_, xs5, by rw [HV.out]; rfl, by rw [HV.out, HX5.out, HX3.out]; rfl, HO5.out, HB5.out⟩
    · have HV := Lib.hid (remT_none (s := s.data.toList) h0 (by rw [hn]; omega))
      simp only [if_neg hlt] at HFd
      rw [h0] at HCk
      clear h0 hA hn hsz hc hle hlt HCp
      go_enter Tryz.func12, Tryz.ntmps12
      go_wp2_with fail
      refine (HCk.out _ HA.out).mono ?_; rintro e w1 ⟨rfl, hb⟩
      have HB1 := Lib.hid hb
      clear hb
      go_wp2_with fail
      refine (HFd.out _ (HA.out.below HB1.out)).mono ?_; rintro e w2 ⟨rfl, hb⟩
      have HB2 := Lib.hid (HB1.out.trans (hb.mono HB1.out.size))
      clear hb
      go_wp2_with fail
      go_ret2
      exact ⟨_, [], by rw [HV.out]; rfl, by rw [HV.out]; rfl, OwnN.nil _ _, HB2.out⟩
  · have HV := Lib.hid (remT_bad (s := s.data.toList) h0)
    have h1 : (treeE l != 0) = true := by simpa using h0
    generalize treeE l = t at *
    clear h0 hA hn hsz hc hle HCp HFd
    go_enter Tryz.func12, Tryz.ntmps12
    go_wp2_with fail
    refine (HCk.out _ HA.out).mono ?_; rintro e w1 ⟨rfl, hb⟩
    have HB1 := Lib.hid hb
    clear hb
    go_wp2_with fail
    go_ret2
    exact ⟨_, [], by rw [HV.out]; rfl, by rw [HV.out]; rfl, OwnN.nil _ _, HB1.out⟩
end Go.Proofs.YtggbjpjmedkjeaaGreatDoor
