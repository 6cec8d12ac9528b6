/- The reference's header text, whole; the law of writing. -/
import Derived.Test.YtjklgadigcobcaaHedR
set_option linter.unusedVariables false
set_option maxRecDepth 100000
namespace Go.Proofs.Ytjklgadigcobcaa
open Go.RowKit
open Go.OpenShut
theorem strV_bs (s : ByteArray) (l : List UInt8) (h : s.data.toList = l) : s = bs l := by rw [← h, bs_of]
theorem conv_one (W : World) (c : UInt8) : (convert 37 9 (.slice (some ⟨W.heap.size, 0, none⟩) 1 1)).run Try.prog (W.alloc (.cells #[.int .u8 (c.toNat : Int)] 5)) = .ok (.string (bs [c])) (W.alloc (.cells #[.int .u8 (c.toNat : Int)] 5)) := by
  have hc : (W.alloc (.cells #[.int .u8 (c.toNat : Int)] 5)).heap[W.heap.size]? = some (.cells #[.int .u8 (c.toNat : Int)] 5 (0, 0)) := heap_alloc_new W _
  have h := run_convert_bytes_arg (P := Try.prog) (W.alloc (.cells #[.int .u8 (c.toNat : Int)] 5)) 37 5 Try.underlying37 Try.underlying5 W.heap.size 0 1 1 (bInts [c]) (by simp) (fun i hi => by
    obtain rfl : i = 0 := by simpa using hi
    rw [Lib.cell_of_heap hc]; rfl) 9 Try.underlying9
  rw [strOfNums_bytes] at h
  exact h
theorem rHText_kind (h : HeadV) (w : World) (ht : typB h.typ = false) : Calls Try.prog 10 #[.agg (headC h)] w fun e w' => e = .returned (.tuple #[.string ⟨#[]⟩, .int .i64 2]) ∧ Below w.heap.size w w' := by
  have hgk : (w.alloc (.cells (headC h) 27)).heap[w.heap.size]? = some (.cells (headC h) 27 (0, 0)) := heap_alloc_new w _
  have c8 : (w.alloc (.cells (headC h) 27)).cell? ⟨w.heap.size, 8, none⟩ = some (.int .u8 (h.typ.toNat : Int)) := by rw [Lib.cell_of_heap hgk]; rfl
  have hb0 := Lib.hid ((Below.refl w.heap.size w).alloc (Nat.le_refl _) (.cells (headC h) 27))
  have HT : Hid (hasB h.typ (⟨#[48, 49, 50, 53, 120]⟩ : ByteArray).data.toList = false) := ht
  clear hgk ht
  go_enter Try.func10, Try.ntmps10
  go_wp2_with fail
  refine (has_any ⟨#[48, 49, 50, 53, 120]⟩ _ h.typ _ (by decide) rfl).mono ?_; rintro e w' ⟨rfl, rfl⟩
  rw [HT.out]
  go_wp2_with fail
  go_ret2
  exact ⟨rfl, hb0.out⟩
set_option maxHeartbeats 4000000 in
theorem rHText_in (h : HeadV) (w : World) (ht : typB h.typ = true)
    (hn : h.name.length ≤ 140737488351232) (hp : h.pre.length ≤ 140737488351232) (hk : h.link.length ≤ 140737488351232) (hu : h.user.length ≤ 140737488351232) (hg : h.group.length ≤ 140737488351232) :
    Calls Try.prog 10 #[.agg (headC h)] w fun e w' => e = .returned (.tuple #[.string (headW h).1, .int .i64 (headW h).2]) ∧ Below w.heap.size w w' := by
  have hgk : (w.alloc (.cells (headC h) 27)).heap[w.heap.size]? = some (.cells (headC h) 27 (0, 0)) := heap_alloc_new w _
  have c8 : (w.alloc (.cells (headC h) 27)).cell? ⟨w.heap.size, 8, none⟩ = some (.int .u8 (h.typ.toNat : Int)) := by rw [Lib.cell_of_heap hgk]; rfl
  have hb0 := (Below.refl w.heap.size w).alloc (Nat.le_refl _) (.cells (headC h) 27)
  have HT : Hid (hasB h.typ (⟨#[48, 49, 50, 53, 120]⟩ : ByteArray).data.toList = true) := ht
  have hE := headE_eq ht
  have H0 : Hid (Rt w.heap.size h w 0 [] 0 (((w.alloc (.cells (headC h) 27)).alloc (.cells #[.int .i64 0] 22)).alloc (.cells #[.string ⟨#[]⟩] 9))) := by
    unfold Hid
    refine ⟨?_, ?_, ?_, (hb0.alloc (by simp) _).alloc (by simp; omega) _, Nat.zero_le _⟩
    · rw [Lib.alloc_old _ _ _ (by simp; omega), Lib.alloc_old _ _ _ (by simp)]; exact hgk
    · rw [Lib.alloc_old _ _ _ (by simp)]
      have := heap_alloc_new (w.alloc (.cells (headC h) 27)) (.cells #[.int .i64 0] 22)
      simpa using this
    · have := heap_alloc_new ((w.alloc (.cells (headC h) 27)).alloc (.cells #[.int .i64 0] 22)) (.cells #[.string ⟨#[]⟩] 9)
      refine Eq.trans ?_ (rfl : some (Obj.cells #[Value.string ⟨#[]⟩] 9 (0, 0)) = some (Obj.cells #[Value.string (bs [])] 9 (0, 0)))
      simpa using this
  clear hgk ht hb0
  go_enter Try.func10, Try.ntmps10
  go_wp2_with fail
  refine (has_any ⟨#[48, 49, 50, 53, 120]⟩ _ h.typ _ (by decide) rfl).mono ?_; rintro e w' ⟨rfl, rfl⟩
  rw [HT.out]
  clear c8
  obtain ⟨w0, W0⟩ : ∃ w0, Hid (w0 = ((w.alloc (.cells (headC h) 27)).alloc (.cells #[.int .i64 0] 22)).alloc (.cells #[.string ⟨#[]⟩] 9)) := ⟨_, rfl⟩
  have d0 : (headC h)[0]? = some (.string (bs h.name)) := rfl
  go_wp2_with fail
  clear d0
  rw [← W0.out] at H0 ⊢
  have H0 : Rt w.heap.size h w 0 [] 0 w0 := H0.out
  refine (rtText H0 (by omega) h.name 100 true hn).mono ?_; rintro e w1 ⟨rfl, H1⟩
  clear H0
  have c1 := H1.cell 3 (.int .i64 h.mode) rfl
  go_wp2_with fail
  refine (rtNumber H1 (by omega) h.mode 8).mono ?_; rintro e w2 ⟨rfl, H2⟩
  clear H1 c1
  have c2 := H2.cell 4 (.int .i64 h.uid) rfl
  go_wp2_with fail
  refine (rtNumber H2 (by omega) h.uid 8).mono ?_; rintro e w3 ⟨rfl, H3⟩
  clear H2 c2
  have c3 := H3.cell 5 (.int .i64 h.gid) rfl
  go_wp2_with fail
  refine (rtNumber H3 (by omega) h.gid 8).mono ?_; rintro e w4 ⟨rfl, H4⟩
  clear H3 c3
  have c4 := H4.cell 6 (.int .i64 h.size) rfl
  go_wp2_with fail
  refine (rtNumber H4 (by omega) h.size 12).mono ?_; rintro e w5 ⟨rfl, H5⟩
  clear H4 c4
  have c5 := H5.cell 7 (.int .i64 h.time) rfl
  go_wp2_with fail
  refine (rtNumber H5 (by omega) h.time 12).mono ?_; rintro e w6 ⟨rfl, H6⟩
  clear H5 c5
  obtain ⟨E6, l6, n6, hE6, hl6, hm6, G6⟩ := H6.open
  have hn6 : n6 ≤ 6 := by omega
  clear hm6 H6
  have HE6 := Lib.hid hE6
  have Hl6 := Lib.hid hl6
  have c6 := G6.cell 8 (.int .u8 (h.typ.toNat : Int)) rfl
  obtain ⟨e2, f2⟩ := G6.cText
  have hlt := G6.lt
  have hcv := conv_one w6 h.typ
  have H7' := (G6.text (List.replicate 8 32 ++ [h.typ]) (by simp)).alloc (.cells #[.int .u8 (h.typ.toNat : Int)] 5)
  have hsz := G6.sz (by omega)
  obtain ⟨A1, hA1⟩ : ∃ A1, (⟨#[32, 32, 32, 32, 32, 32, 32, 32]⟩ : ByteArray) ++ bs [h.typ] = A1 := ⟨_, rfl⟩
  obtain ⟨LL, hLL⟩ : ∃ LL, bs l6 ++ A1 = LL := ⟨_, rfl⟩
  have zA : A1.size = 9 := by rw [← hA1, ByteArray.size_append]; rfl
  have p1 := add_to hA1 (by show 8 + 1 ≤ _; omega)
  have p2 := add_to hLL (by omega)
  have HX : Hid (LL = bs (l6 ++ (List.replicate 8 32 ++ [h.typ]))) := by unfold Hid; rw [← hLL, ← hA1, ← bs_app, ← bs_app]; rfl
  obtain ⟨L, HL⟩ := hid_name (bs l6)
  rw [HL.out] at e2 p2
  rw [← HX.out] at H7'
  have H7' := Lib.hid H7'
  clear hE6 hl6 hA1 hLL zA hsz G6
  go_upto_region 14 with fail
  obtain ⟨w7, W7⟩ : ∃ w7, w7 = (w6.setCell ⟨w.heap.size + 1 + 1, 0, none⟩ (.string LL)).alloc (.cells #[.int .u8 (h.typ.toNat : Int)] 5) := ⟨_, rfl⟩
  rw [← W7] at H7' ⊢
  have H7 := H7'.out
  clear H7' W7 c6 e2 f2 hlt hcv p1 p2 HX HL
  have c7 := H7.cell 2 (.string (bs h.link)) rfl
  go_wp2_with fail
  refine (rtText H7 (by omega) h.link 100 true hk).mono ?_; rintro e w8 ⟨rfl, H8⟩
  clear H7 c7
  obtain ⟨E8, l8, n8, hE8, hl8, hm8, G8⟩ := H8.open
  have hn8 : n8 ≤ 8 := by omega
  clear hm8 H8
  have HE8 := Lib.hid hE8
  have Hl8 := Lib.hid hl8
  obtain ⟨e2, f2⟩ := G8.cText
  have H9' := (G8.text magicL (by simp [magicL])).drew
  have hsz := G8.sz (by omega)
  have z1 : (zer 1).size = 1 := zer_size 1
  obtain ⟨A1, hA1⟩ : ∃ A1, (⟨#[117, 115, 116, 97, 114]⟩ : ByteArray) ++ zer 1 = A1 := ⟨_, rfl⟩
  obtain ⟨A2, hA2⟩ : ∃ A2, A1 ++ (⟨#[48, 48]⟩ : ByteArray) = A2 := ⟨_, rfl⟩
  have zA1 : A1.size = 6 := by rw [← hA1, ByteArray.size_append, z1]; rfl
  have zA2 : A2.size = 8 := by rw [← hA2, ByteArray.size_append, zA1]; rfl
  have p1 := add_to hA1 (by rw [z1]; decide)
  have p2 := add_to hA2 (by rw [zA1]; decide)
  have eA : A2 = bs magicL := by rw [← hA2, ← hA1]; rfl
  obtain ⟨LL, hLL⟩ : ∃ LL, bs l8 ++ A2 = LL := ⟨_, rfl⟩
  have p3 := add_to hLL (by omega)
  have HX : Hid (LL = bs (l8 ++ magicL)) := by unfold Hid; rw [← hLL, eA, ← bs_app]
  obtain ⟨L, HL⟩ := hid_name (bs l8)
  rw [HL.out] at e2 p3
  rw [← HX.out] at H9'
  have H9' := Lib.hid H9'
  clear z1 hA1 hA2 zA1 eA
  clear hE8 hl8 hLL zA2 hsz G8
  go_upto_region 15 with fail
  go_still_tail 5, (by kernel_rfl)
  still_call (flip_same (zeros_any 1 1 _ rfl (by omega)))
  repeat still_step
  refine wpStill_nil ?_
  change wpList _ _ _ _ _ w8.drew
  go_upto_region 16 with fail
  obtain ⟨w9, W9⟩ : ∃ w9, w9 = (w8.setCell ⟨w.heap.size + 1 + 1, 0, none⟩ (.string LL)).drew := ⟨_, rfl⟩
  rw [← W9] at H9' ⊢
  have H9 := H9'.out
  clear H9' W9 e2 f2 p1 p2 p3 HX HL
  have c9 := H9.cell 9 (.string (bs h.user)) rfl
  go_wp2_with fail
  refine (rtText H9 (by omega) h.user 32 false hu).mono ?_; rintro e w10 ⟨rfl, H10⟩
  clear H9 c9
  have c10 := H10.cell 10 (.string (bs h.group)) rfl
  go_wp2_with fail
  refine (rtText H10 (by omega) h.group 32 false hg).mono ?_; rintro e w11 ⟨rfl, H11⟩
  clear H10 c10
  go_wp2_with fail
  refine (rtNumber H11 (by omega) 0 8).mono ?_; rintro e w12 ⟨rfl, H12⟩
  clear H11
  go_wp2_with fail
  refine (rtNumber H12 (by omega) 0 8).mono ?_; rintro e w13 ⟨rfl, H13⟩
  clear H12
  have c13 := H13.cell 1 (.string (bs h.pre)) rfl
  go_wp2_with fail
  refine (rtText H13 (by omega) h.pre 155 true hp).mono ?_; rintro e w14 ⟨rfl, H14⟩
  clear H13 c13
  obtain ⟨E14, l14, n14, hE14, hl14, hm14, G14⟩ := H14.open
  have hn14 : n14 ≤ 14 := by omega
  clear hm14 H14
  have HE14 := Lib.hid hE14
  have Hl14 := Lib.hid hl14
  obtain ⟨e2, f2⟩ := G14.cText
  have H15' := (G14.text (List.replicate 12 0) (by simp)).drew
  have hsz := G14.sz (by omega)
  obtain ⟨A2, eA⟩ : ∃ A2, A2 = zer 12 := ⟨_, rfl⟩
  have zA2 : A2.size = 12 := by rw [eA]; exact zer_size 12
  obtain ⟨LL, hLL⟩ : ∃ LL, bs l14 ++ A2 = LL := ⟨_, rfl⟩
  have p3 := add_to hLL (by omega)
  have HX : Hid (LL = bs (l14 ++ (List.replicate 12 0))) := by unfold Hid; rw [← hLL, eA, ← bs_app]; rfl
  obtain ⟨L, HL⟩ := hid_name (bs l14)
  rw [HL.out] at e2 p3
  rw [← HX.out] at H15'
  have H15' := Lib.hid H15'
  rw [eA] at p3
  clear eA
  clear hE14 hl14 hLL zA2 hsz G14
  go_upto_region 21 with fail
  go_still_tail 3, (by kernel_rfl)
  still_call (flip_same (zeros_any 12 12 _ rfl (by omega)))
  repeat still_step
  refine wpStill_nil ?_
  change wpList _ _ _ _ _ w14.drew
  go_upto_region 22 with fail
  obtain ⟨w15, W15⟩ : ∃ w15, w15 = (w14.setCell ⟨w.heap.size + 1 + 1, 0, none⟩ (.string LL)).drew := ⟨_, rfl⟩
  rw [← W15] at H15' ⊢
  have H15 := H15'.out
  clear H15' W15 e2 f2 p3 HX HL
  obtain ⟨E, l, n, hE15, hl15, -, G15⟩ := H15.open
  clear H15
  have hE' : headE h = E := by rw [hE15, HE14.out, HE8.out, HE6.out, hE]; rfl
  have hl' : l = allL h := by rw [hl15, Hl14.out, Hl8.out, Hl6.out]; unfold allL frontH backH; simp only [List.nil_append, List.append_assoc, List.singleton_append, List.cons_append]
  subst hl'
  obtain ⟨e1, -⟩ := G15.cErr
  obtain ⟨e2, -⟩ := G15.cText
  have HB := Lib.hid G15.2.2.2.1
  have HE := Lib.hid hE'
  clear hE hE15 hl15 hE' G15 HE14 HE8 HE6 Hl14 Hl8 Hl6
  by_cases h0 : E = 0
  · subst h0
    have hz := HE.out
    have hlen := allL_len hz
    have HS := Lib.hid (allL_sum hz)
    have hlt := sumH_lt (allL h) hlen
    have HV := Lib.hid (sumV_ok hlen)
    have HF := Lib.hid (allL_front hz)
    have HK := Lib.hid (allL_back hz)
    have HO := Lib.hid (headW_ok hz)
    have hfl := front_len hz
    have hbl := back_len hz
    obtain ⟨S, HN⟩ : ∃ S, Hid (bs (allL h) = S) := ⟨_, rfl⟩
    rw [HN.out] at e2
    obtain ⟨N, HM⟩ := hid_name (sumH (allL h))
    rw [HM.out] at hlt
    obtain ⟨F, HFN⟩ := hid_name (bs (frontH h))
    obtain ⟨K, HKN⟩ := hid_name (bs (backH h))
    obtain ⟨T, HTN⟩ := hid_name (bs (D N 6 ++ [0]))
    have hS : S.size = 512 := by rw [← HN.out, bs_size, hlen]
    have HSz := Lib.hid hS
    have y1 : 148 ≤ S.size := by omega
    have y2 : 156 ≤ S.size := by omega
    have y3 : S.size ≤ 512 := by omega
    have x1 : S.extract 0 148 = F := by rw [← HN.out, ← HFN.out]; exact HF.out
    have x2 : S.extract 156 S.size = K := by rw [HSz.out, ← HN.out, ← HKN.out]; exact HK.out
    have zF : F.size = 148 := by rw [← HFN.out, bs_size, hfl]
    have zK : K.size = 356 := by rw [← HKN.out, bs_size, hbl]
    have zT : T.size = 7 := by rw [← HTN.out, bs_size]; simp
    have hsl : S.data.toList = allL h := by rw [← HN.out]; rfl
    have HD : Hid (∀ W, Calls Try.prog 7 #[.string S] W fun e w' => e = .returned (.tuple #[.int .i64 (N : Int), .int .i64 0]) ∧ W = w') := by
      intro W
      have := rSum_any S W (by unfold maxLen; omega)
      rw [hsl, HV.out, HM.out] at this
      exact this
    have HQ : Hid (∀ W, Calls Try.prog 22 #[.int .i64 (N : Int), .int .i64 7] W fun e w' => e = .returned (.tuple #[.string T, .int .i64 0]) ∧ W = w') := by
      intro W
      have := rText_any (N : Int) 7 W
      rw [octW_ck N hlt, HTN.out] at this
      exact this
    obtain ⟨B1, hB1⟩ : ∃ B1, F ++ T = B1 := ⟨_, rfl⟩
    obtain ⟨B2, hB2⟩ : ∃ B2, B1 ++ (⟨#[32]⟩ : ByteArray) = B2 := ⟨_, rfl⟩
    obtain ⟨B3, hB3⟩ : ∃ B3, B2 ++ K = B3 := ⟨_, rfl⟩
    have z1 : B1.size = 155 := by rw [← hB1, ByteArray.size_append]; omega
    have z2 : B2.size = 156 := by rw [← hB2, ByteArray.size_append, z1]; rfl
    have p1 := add_to hB1 (by omega)
    have p2 := add_to hB2 (by rw [z1]; decide)
    have p3 := add_to hB3 (by omega)
    have HR : Hid (B3 = (headW h).1) := by
      unfold Hid
      rw [HO.out, ← hB3, ← hB2, ← hB1, ← HFN.out, ← HTN.out, ← HKN.out, ← HS.out, HM.out]
      show bs _ ++ bs _ ++ bs [32] ++ bs _ = bs _
      rw [bs_app, bs_app, bs_app, ckL]
      simp only [List.append_assoc]
    clear hz hlen hlt hS hsl hfl hbl zF zK zT HF HK hB1 hB2 hB3 z1 z2
    go_wp2_with fail
    refine (HD.out _).mono ?_; rintro e w16 ⟨rfl, rfl⟩
    go_wp2_with fail
    refine (HQ.out _).mono ?_; rintro e w16 ⟨rfl, rfl⟩
    go_wp2_with fail
    go_quiet (fail)
    go_wp2_with fail
    go_ret2
    exact ⟨ret_strint2 HR.out (by rw [HO.out]), below_drewN HB.out _⟩
  · have hb : (E != 0) = true := by simpa using h0
    have HO := Lib.hid (headW_no (h := h) (by rw [HE.out]; exact h0))
    clear h0
    go_wp2_with fail
    go_quiet (fail)
    go_wp2_with fail
    go_ret2
    exact ⟨ret_strint2 (by rw [HO.out]) (by rw [HO.out]; exact HE.out.symm), below_drewN HB.out _⟩
theorem rHText_any (h : HeadV) (w : World)
    (hn : h.name.length ≤ 140737488351232) (hp : h.pre.length ≤ 140737488351232) (hk : h.link.length ≤ 140737488351232) (hu : h.user.length ≤ 140737488351232) (hg : h.group.length ≤ 140737488351232) :
    Calls Try.prog 10 #[.agg (headC h)] w fun e w' => e = .returned (.tuple #[.string (headW h).1, .int .i64 (headW h).2]) ∧ Below w.heap.size w w' := by
  cases ht : typB h.typ
  · have e := headE_kind ht
    rw [headW_no (by rw [e]; decide), e]
    exact rHText_kind h w ht
  · exact rHText_in h w ht hn hp hk hu hg
theorem head_cells {w : World} {g : Nat} {h : HeadV} (H : w.heap[g]? = some (.cells (headC h) 27 (0, 0))) :
    w.cell? ⟨g, 0, none⟩ = some (.string (bs h.name)) ∧ w.cell? ⟨g, 1, none⟩ = some (.string (bs h.pre)) ∧ w.cell? ⟨g, 2, none⟩ = some (.string (bs h.link)) ∧ w.cell? ⟨g, 3, none⟩ = some (.int .i64 h.mode) ∧ w.cell? ⟨g, 4, none⟩ = some (.int .i64 h.uid) ∧ w.cell? ⟨g, 5, none⟩ = some (.int .i64 h.gid) ∧
    w.cell? ⟨g, 6, none⟩ = some (.int .i64 h.size) ∧ w.cell? ⟨g, 7, none⟩ = some (.int .i64 h.time) ∧ w.cell? ⟨g, 8, none⟩ = some (.int .u8 (h.typ.toNat : Int)) ∧ w.cell? ⟨g, 9, none⟩ = some (.string (bs h.user)) ∧ w.cell? ⟨g, 10, none⟩ = some (.string (bs h.group)) := by
  refine ⟨?_, ?_, ?_, ?_, ?_, ?_, ?_, ?_, ?_, ?_, ?_⟩ <;> (rw [Lib.cell_of_heap H]; rfl)
set_option maxHeartbeats 2000000 in
theorem HeadWrites_walk (a0 : HeadV) (w0 : a0.wf) (w : World) :
    Calls Try.prog 4 #[.agg (headC a0)] w fun e w' => e = .returned (.bool true) ∧ Below w.heap.size w w' := by
  obtain ⟨⟨hn, hp, hk, hu, hg⟩, -⟩ := w0
  have e0 := heap_alloc_new w (.cells (headC a0) 27)
  have hb0 := (Below.refl w.heap.size w).alloc (Nat.le_refl _) (.cells (headC a0) 27)
  have hz : (w.alloc (.cells (headC a0) 27)).heap.size = w.heap.size + 1 := by simp
  have d0 : (headC a0)[0]? = some (.string (bs a0.name)) := rfl
  have d1 : (headC a0)[1]? = some (.string (bs a0.pre)) := rfl
  have d2 : (headC a0)[2]? = some (.string (bs a0.link)) := rfl
  have d3 : (headC a0)[3]? = some (.int .i64 a0.mode) := rfl
  have d4 : (headC a0)[4]? = some (.int .i64 a0.uid) := rfl
  have d5 : (headC a0)[5]? = some (.int .i64 a0.gid) := rfl
  have d6 : (headC a0)[6]? = some (.int .i64 a0.size) := rfl
  have d7 : (headC a0)[7]? = some (.int .i64 a0.time) := rfl
  have d8 : (headC a0)[8]? = some (.int .u8 (a0.typ.toNat : Int)) := rfl
  have d9 : (headC a0)[9]? = some (.string (bs a0.user)) := rfl
  have dA : (headC a0)[10]? = some (.string (bs a0.group)) := rfl
  have HC := Lib.hid (hCheck_any a0 (w.alloc (.cells (headC a0) 27)) hn hp hk hu hg)
  have HB := Lib.hid hb0
  have HE := Lib.hid e0
  have HZ := Lib.hid hz
  clear e0 hb0 hz
  go_enter Try.func4, Try.ntmps4
  go_wp2_with fail
  refine HC.out.mono ?_; rintro e w1 ⟨rfl, hb1⟩
  have E1 := (hb1.block w.heap.size (by rw [HZ.out]; omega)).trans HE.out
  have HB1 := Lib.hid (HB.out.trans (hb1.mono HB.out.size))
  clear hb1 d0 d1 d2 d3 d4 d5 d6 d7 d8 d9 dA
  obtain ⟨c0, c1, c2, c3, c4, c5, c6, c7, c8, c9, cA⟩ := head_cells E1
  have HE1 := Lib.hid E1
  have hlt1 : Hid (w.heap.size < w1.heap.size) := by
    unfold Hid
    rcases Nat.lt_or_ge w.heap.size w1.heap.size with h' | h'
    · exact h'
    · rw [Array.getElem?_eq_none h'] at E1; cases E1
  clear E1
  go_wp2_with fail
  refine (hWrite_any a0 w1 hn hp hk hu hg).mono ?_; rintro e w2 ⟨rfl, hb2⟩
  have E2 := (hb2.block w.heap.size hlt1.out).trans HE1.out
  have HB2 := Lib.hid (HB1.out.trans (hb2.mono HB1.out.size))
  clear hb2 c0 c1 c2 c3 c4 c5 c6 c7 c8 c9 cA
  obtain ⟨c0, c1, c2, c3, c4, c5, c6, c7, c8, c9, cA⟩ := head_cells E2
  clear E2
  go_wp2_with fail
  refine (rHText_any a0 w2 hn hp hk hu hg).mono ?_; rintro e w3 ⟨rfl, hb3⟩
  have HB3 := Lib.hid (HB2.out.trans (hb3.mono HB2.out.size))
  clear hb3 c0 c1 c2 c3 c4 c5 c6 c7 c8 c9 cA
  go_wp2_with fail
  go_ret
  exact ⟨rfl, HB3.out⟩
end Go.Proofs.Ytjklgadigcobcaa

