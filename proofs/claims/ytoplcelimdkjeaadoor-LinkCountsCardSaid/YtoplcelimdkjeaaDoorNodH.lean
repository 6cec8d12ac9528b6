/- The reference's fault of a tree. -/
import Derived.Test.YtoplcelimdkjeaaDoorNodG
import Derived.Test.YtoplcelimdkjeaaDoorNodD
import Derived.Test.YtoplcelimdkjeaaDoorPrtA
import Derived.Test.YtoplcelimdkjeaaDoorNodE
import Derived.Deep.RegionHeld3
import Derived.Deep.DeepCutAuto
import Derived.Deep.QuietTactic
import Derived.BigQuiet
set_option linter.unusedVariables false
set_option maxRecDepth 100000
namespace Go.Proofs.YtoplcelimdkjeaaDoor
open Go.RowKit
open Go.OpenShut
set_option maxHeartbeats 8000000 in
theorem rTree_any (A : Option Addr) (n c : Nat) (l : List NodeV) (hn : l.length = n) (hc : SlOk A n c) (hsz : ∀ x ∈ l, x.sz) (w : World) (hA : NodesAt w A l) :
    Calls Tryd.prog 19 #[.slice A n c] w fun e w' => e = .returned (.int .i64 (treeE l)) ∧ Below w.heap.size w w' := by
  have HN := Lib.hid hn
  have HA := Lib.hid hA
  have HSZ := Lib.hid hsz
  have hcap := hc.1
  have hmx := hc.2.1
  unfold maxLen at hmx
  clear hn hA hsz hc
  by_cases h40 : 40 < n
  · have HV : Hid (treeE l = 1) := by unfold Hid treeE; rw [HN.out, if_pos h40]
    go_enter Tryd.func19, Tryd.ntmps19
    go_wp2_with fail
    go_ret
    exact ⟨ret_int (by rw [HV.out]), Below.refl _ _⟩
  · have HT : Hid (treeE l = walkE [] l) := by unfold Hid treeE; rw [HN.out, if_neg h40]
    have h41 : n ≤ 40 := by omega
    go_enter Tryd.func19, Tryd.ntmps19
    go_wp2_with fail
    go_loopw [3] (fun i wr => ∃ k : Nat, k ≤ n ∧ i = .int .i64 k ∧ Hid (walkE [] (l.take k) = 0) ∧ Hid (Below w.heap.size w wr)) (fun i _ => n - (intOf i).toNat)
    case atStart => exact ⟨0, Nat.zero_le _, rfl, by unfold Hid; rw [List.take_zero]; rfl, Below.refl _ _⟩
    case round =>
      obtain ⟨k, hk, rfl, HW, HB⟩ := hrel
      by_cases hlt : k < n
      · have hk1 : k < l.length := by rw [HN.out]; exact hlt
        obtain ⟨b, o, D, cc, rfl, c0, c1, c2', c3, ⟨c4, c5, c6, c7, c8, c9, cA⟩, cB, -, hD⟩ := (HA.out.below HB.out).cells k hk1
        have hb1 : b < wr.heap.size := World.block_lt_of_cell? wr _ c0
        have hxsz := HSZ.out _ (List.getElem_mem hk1)
        have HST := Lib.hid fun he => walkE_stop l k hk1 HW.out he
        have HSP := Lib.hid fun he => walkE_step l k hk1 HW.out he
        generalize hx : l[k] = x at *
        have HNd := Lib.hid fun W => rNode_any x D cc hxsz W
        unfold nodC at HNd
        have HD := Lib.hid hD
        have hps : (bs x.path).size ≤ 140737488351232 := by rw [bs_size]; exact hxsz.1.1
        clear hD hxsz
        go_upto_region 7 with fail
        have HBl := Lib.hid (Blk.new wr 39 (nodA x D cc))
        have HBa : Hid (Below wr.heap.size wr (wr.alloc (.cells (nodA x D cc) 39))) := (Below.refl _ _).alloc (Nat.le_refl _) _
        unfold nodA at HBl HBa
        generalize hwa : wr.alloc _ = wa at HBl HBa ⊢
        obtain ⟨e0, e1, e2, e3, e4, e5, e6, e7, e8, e9, eA, eB⟩ := blk12 HBl.out
        clear hwa c0 c1 c2' c3 c4 c5 c6 c7 c8 c9 cA cB
        by_cases hne : nodE x = 0
        · rw [hne] at HNd
          go_wp2_with fail
          refine (HNd.out _).mono ?_; rintro e' w4 ⟨rfl, hb4⟩
          have HS4 : Hid (RdS w wr wr.heap.size x D cc w4) := ⟨HBl.out.below hb4 HBl.out.lt, HBa.out.trans (hb4.mono HBa.out.size)⟩
          clear hb4 e0 e1 e2 e3 e4 e5 e6 e7 e8 e9 eA eB
          go_upto_region 10 with fail
          obtain ⟨q, hq⟩ : ∃ q : Bool, q = (match (l.take k).getLast? with | some y => !decide (pcmp y.path x.path = -1) | none => false) := ⟨_, rfl⟩
          have HQ := Lib.hid hq
          clear hq
          go_cut [41] (fun s41 wx => s41 = .bool q ∧ RdS w wr wr.heap.size x D cc wx)
          case first =>
            by_cases hk0 : 0 < k
            · have hd0 : decide (0 < k) = true := decide_eq_true hk0
              obtain ⟨k1, hk1'⟩ : ∃ k1, k1 = k - 1 := ⟨_, rfl⟩
              have hsub : IntKind.i64.wrap ((k : Int) - 1) = (k1 : Int) := by rw [IntKind.wrap_i64]; omega
              have hk2 : k1 < l.length := by omega
              obtain ⟨b', o', D', cc', e', f0, -⟩ := (HA.out.below (HB.out.trans (HS4.out.2.mono HB.out.size))).cells k1 hk2
              injection e' with e'
              injection e' with e1' e2' _
              subst e1' e2'
              have hlast : (l.take k).getLast? = some l[k1] := (last_take l k (by omega) l[k1]).2 ⟨hk0, by simp only [hk1']⟩
              have hps2 : (bs l[k1].path).size ≤ 400 := by rw [bs_size]; exact path_len (((walk_sound _).1 HW.out).node _ (List.mem_take_iff_getElem.2 ⟨k1, by omega, rfl⟩))
              have hps3 : (bs x.path).size ≤ 400 := by rw [bs_size]; exact path_len hne
              have HO := Lib.hid fun W => rOrder_any (bs l[k1].path) (bs x.path) W
              rw [bs_list, bs_list] at HO
              have hq2 := HQ.out
              rw [hlast] at hq2
              simp only at hq2
              obtain ⟨pc, hpc⟩ : ∃ pc, pc = pcmp l[k1].path x.path := ⟨_, rfl⟩
              rw [← hpc] at HO hq2
              have HQ2 : Hid ((pc != -1) = q) := by unfold Hid; rw [hq2]; by_cases e : pc = -1 <;> simp [e]
              obtain ⟨P, hP⟩ := hid_name (bs l[k1].path)
              obtain ⟨X, hX⟩ := hid_name (bs x.path)
              rw [hP.out, hX.out] at HO
              rw [hP.out] at f0 hps2
              rw [hX.out] at hps hps3
              have hS0 : RdP w wr wr.heap.size x D cc b (o + k1 * 12) P w4 := ⟨HS4.out, f0⟩
              have r0 : ∀ W : World, RdP w wr wr.heap.size x D cc b (o + k1 * 12) P W → W.cell? ⟨wr.heap.size, 0, none⟩ = some (.string X) := fun W h => by rw [← hX.out]; exact (blk12 h.1.1).1.1
              have r1 : ∀ W : World, RdP w wr wr.heap.size x D cc b (o + k1 * 12) P W → W.cell? ⟨b, o + k1 * 12, none⟩ = some (.string P) := fun W h => h.2
              have hk1n : (k1 : Int) < (n : Int) := by omega
              have hk10 : (0 : Int) ≤ (k1 : Int) := by omega
              have HOr := Lib.hid fun W => HO.out W (by omega) (by omega)
              clear hq2 hlast hpc hk1' f0 HO
              go_region_held3 (fun W => RdP w wr wr.heap.size x D cc b (o + k1 * 12) P W)
                (first
                  | (with_reducible assumption)
                  | (with_reducible refine RdP.drew ?_; with_reducible assumption)
                  | (with_reducible exact RdP.below (by with_reducible assumption) (by with_reducible assumption)))
                (first
                  | (go_at_call 43; refine (HOr.out _).mono ?_; rintro e w5 ⟨rfl, hbO⟩))
              all_goals
                go_wp2_with fail
                go_meet
                exact ⟨by rw [HQ2.out], (RdP.below hS0.drew hbO).1⟩
            · have hd0 : decide (0 < k) = false := decide_eq_false hk0
              have hq2 := HQ.out
              have hk00 : k = 0 := by omega
              rw [show (l.take k).getLast? = none by rw [hk00]; simp] at hq2
              simp only at hq2
              subst hq2
              clear hk00
              go_quiet (fail)
              go_wp2_with fail
              go_meet
              exact ⟨rfl, HS4.out.drewN _⟩
          case rest =>
            obtain ⟨rfl, hSc⟩ := hcut
            have HSc := Lib.hid hSc
            clear hSc HS4
            have HSnd := Lib.hid ((walk_sound _).1 HW.out)
            cases q with
            | true =>
              have HV : Hid (treeE l = 6) := by
                unfold Hid
                have ha : atE (l.take k) x = 6 := by
                  have h0 := HQ.out
                  cases e : (l.take k).getLast? with
                  | none => rw [e] at h0; cases h0
                  | some y => rw [e] at h0; exact atE_twice hne y e (by simpa using h0)
                rw [HT.out, HST.out (by rw [ha]; decide), ha]
              go_wp2_with fail
              go_ret
              exact ⟨ret_int (by rw [HV.out]), HB.out.trans (HSc.out.2.mono HB.out.size)⟩
            | false =>
              have HL : Hid (∀ y, (l.take k).getLast? = some y → pcmp y.path x.path = -1) := fun y e => by
                have h0 := HQ.out
                rw [e] at h0
                simpa using h0.symm
              have hx4 := path_len hne
              have HPs := Lib.hid fun W => rSplit_any (bs x.path) W (by rw [bs_size]; omega)
              rw [bs_list] at HPs
              have HFd := Lib.hid fun W h => rFind_any (some ⟨b, o, none⟩) k c (l.take k) (upL x.path) (by rw [List.length_take]; omega) (by omega) W h
              unfold bs at HFd
              have hfl := findL_le (l.take k) (upL x.path)
              rw [List.length_take, Nat.min_eq_left (by omega)] at hfl
              obtain ⟨f, hf⟩ : ∃ f, f = findL (l.take k) (upL x.path) := ⟨_, rfl⟩
              rw [← hf] at HFd hfl
              have HU : Hid (upOk (l.take k) x.path = (decide (upL x.path = []) || if hk : f < (l.take k).length then decide (((l.take k)[f]'hk).kind = 2) else false)) := by
                unfold Hid; rw [upOk_first HSnd.out]; subst hf; rfl
              clear hf
              obtain ⟨X, hX⟩ := hid_name (bs x.path)
              rw [hX.out] at HPs
              obtain ⟨⟨c0, -⟩, -⟩ := blk12 HSc.out.1
              rw [hX.out] at c0
              go_upto_region 12 with fail
              go_wp2_with fail
              refine (HPs.out _).mono ?_; rintro e' w5 ⟨rfl, hb5⟩
              have HS5 := Lib.hid (HSc.out.below hb5)
              clear hb5 c0
              obtain ⟨U, hU⟩ := hid_name (⟨(upL x.path).toArray⟩ : ByteArray)
              rw [hU.out] at HFd
              rw [hU.out]
              have HAk := Lib.hid ((HA.out.below (HB.out.trans (HS5.out.2.mono HB.out.size))).take k)
              go_wp2_with fail
              refine (HFd.out _ HAk.out).mono ?_; rintro e' w6 ⟨rfl, rfl⟩
              go_upto_region 14 with fail
              obtain ⟨q2, hq2⟩ : ∃ q2 : Bool, upOk (l.take k) x.path = !q2 := ⟨!upOk (l.take k) x.path, by simp⟩
              have HQ2 := Lib.hid hq2
              rw [hq2] at HU
              clear hq2
              go_cut [67] (fun s67 wx => s67 = .bool q2 ∧ wx = w5)
              case first =>
                by_cases hu0 : upL x.path = []
                · have hu1 := HU.out
                  rw [decide_eq_true hu0, Bool.true_or] at hu1
                  obtain rfl : q2 = false := by revert hu1; cases q2 <;> decide
                  obtain rfl : U = ⟨#[]⟩ := by rw [← hU.out, hu0]
                  clear hu1 hu0
                  go_wp2_with fail
                  go_meet
                  exact ⟨rfl, rfl⟩
                · have hu1 := HU.out
                  rw [decide_eq_false hu0, Bool.false_or] at hu1
                  have hun : ¬ U.toList = [] := fun e => hu0 (by rw [← hU.out, ByteArray.toList_eq] at e; exact e)
                  have hun2 : (U.toList == []) = false := by simpa using hun
                  by_cases hfk : f = k
                  · rw [dif_neg (by rw [List.length_take]; omega)] at hu1
                    obtain rfl : q2 = true := by revert hu1; cases q2 <;> decide
                    have hfk2 : ((f : Int) == (k : Int)) = true := by simp [hfk]
                    clear hu1 hu0 hfk
                    go_wp2_with fail
                    go_meet
                    exact ⟨rfl, rfl⟩
                  · have hfk2 : ((f : Int) == (k : Int)) = false := by simp; omega
                    have hfl2 : f < (l.take k).length := by rw [List.length_take]; omega
                    have hfln : f < n := by omega
                    rw [dif_pos hfl2] at hu1
                    obtain ⟨b', o', D', cc', e', -, f1, -⟩ := HAk.out.cells f hfl2
                    injection e' with e'
                    injection e' with e1' e2' _
                    subst e1' e2'
                    generalize (l.take k)[f].kind = kd at f1 hu1
                    clear hfk hu0
                    by_cases hkd : kd = 2
                    · rw [decide_eq_true hkd] at hu1
                      obtain rfl : q2 = false := by revert hu1; cases q2 <;> decide
                      subst hkd
                      clear hu1
                      go_wp2_with fail
                      go_meet
                      exact ⟨rfl, rfl⟩
                    · rw [decide_eq_false hkd] at hu1
                      obtain rfl : q2 = true := by revert hu1; cases q2 <;> decide
                      have hkd2 : (kd != 2) = true := by simpa using hkd
                      clear hu1 hkd
                      go_wp2_with fail
                      go_meet
                      exact ⟨rfl, rfl⟩
              case rest =>
                obtain ⟨rfl, rfl⟩ := hcut
                cases q2 with
                | true =>
                  have HV : Hid (treeE l = 10) := by
                    unfold Hid
                    have ha : atE (l.take k) x = 10 := atE_up hne HL.out (by rw [HQ2.out]; rfl)
                    rw [HT.out, HST.out (by rw [ha]; decide), ha]
                  go_wp2_with fail
                  go_ret
                  exact ⟨ret_int (by rw [HV.out]), HB.out.trans (HS5.out.2.mono HB.out.size)⟩
                | false =>
                  obtain ⟨⟨c0, c1, c2', c3, c4, c5, c6, c7, c8, c9, cA, cB⟩, -⟩ := blk12 HS5.out.1
                  have HUp : Hid (upOk (l.take k) x.path = true) := by unfold Hid; rw [HQ2.out]; rfl
                  go_upto_region 16 with fail
                  by_cases hs0 : x.same = 0
                  · have HV : Hid (walkE [] (l.take (k + 1)) = 0) := HSP.out ((atE_zero _ _).2 ⟨hne, HL.out, HUp.out, by unfold linkNo; rw [hs0]; simp⟩)
                    have hs1 : (x.same == 0) = true := by simp [hs0]
                    clear hs0
                    go_wp2_with fail
                    go_roundw
                    case rel => exact ⟨k + 1, by omega, by go_num, HV, HB.out.trans (HS5.out.2.mono HB.out.size)⟩
                    case measure => simp [intOf]; omega
                  · have hs1 : (x.same == 0) = false := by simpa using hs0
                    have HLk : Hid (linkNo (l.take k) x = (l.take k).any fun y => decide (y.same = x.same) && !(decide (y.md = x.md) && decide (y.data = x.data))) := by
                      unfold Hid linkNo; rw [decide_eq_true hs0, Bool.true_and]
                    clear hs0
                    go_wp2_with fail
                    go_loopw [9] (fun i2 wx => ∃ j : Nat, j ≤ k ∧ i2 = .int .i64 j ∧ Hid ((((l.take k).take j).any fun y => decide (y.same = x.same) && !(decide (y.md = x.md) && decide (y.data = x.data))) = false) ∧ Hid (RdS w wr wr.heap.size x D cc wx)) (fun i2 _ => k - (intOf i2).toNat)
                    case atStart => exact ⟨0, Nat.zero_le _, rfl, by unfold Hid; rw [List.take_zero]; rfl, HS5⟩
                    case round =>
                      obtain ⟨j, hj, rfl, HJ, HS⟩ := hrel
                      by_cases hjk : j < k
                      · have hj1 : j < l.length := by have := HN.out; omega
                        obtain ⟨b', o', D', cc', e', -, -, g2, -, ⟨g4, g5, g6, g7, g8, g9, gA⟩, gB, -, hDy⟩ := (HA.out.below (HB.out.trans (HS.out.2.mono HB.out.size))).cells j hj1
                        injection e' with e'
                        injection e' with e1' e2' _
                        subst e1' e2'
                        obtain ⟨⟨c0, c1, c2', c3, c4, c5, c6, c7, c8, c9, cA, cB⟩, -⟩ := blk12 HS.out.1
                        have hDx := HD.out.below HS.out.2
                        have hcx := hDx.convD cc (fun e => by subst e; exact hDx.none_nil)
                        have hcy := hDy.convD cc' (fun e => by subst e; exact hDy.none_nil)
                        have hmem : l[j] ∈ l.take k := List.mem_take_iff_getElem.2 ⟨j, by omega, rfl⟩
                        have htk : (l.take k).take (j + 1) = (l.take k).take j ++ [l[j]] := by
                          rw [List.take_succ_eq_append_getElem (by rw [List.length_take]; omega), List.getElem_take]
                        have HJ2 : Hid ((decide (l[j].same = x.same) && !(decide (l[j].md = x.md) && decide (l[j].data = x.data))) = false → (((l.take k).take (j + 1)).any fun y => decide (y.same = x.same) && !(decide (y.md = x.md) && decide (y.data = x.data))) = false) := fun h => by
                          rw [htk, List.any_append, HJ.out, List.any_cons, h]; rfl
                        have HV : Hid ((decide (l[j].same = x.same) && !(decide (l[j].md = x.md) && decide (l[j].data = x.data))) = true → treeE l = 11) := fun h => by
                          have ha : atE (l.take k) x = 11 := atE_link hne HL.out HUp.out (by rw [HLk.out]; exact List.any_eq_true.2 ⟨l[j], hmem, h⟩)
                          rw [HT.out, HST.out (by rw [ha]; decide), ha]
                        clear hmem htk hDx hDy
                        have hq := meta_neq l[j].md x.md
                        have hdq := bs_eq (a := l[j].data) (b := x.data)
                        generalize hyy : l[j] = y at *
                        unfold metB at hq
                        unfold metA at hq
                        obtain ⟨YD, hYD⟩ := hid_name (bs y.data)
                        obtain ⟨XD, hXD⟩ := hid_name (bs x.data)
                        rw [hYD.out] at hdq
                        simp only [hYD.out] at hcy
                        rw [hXD.out] at hdq
                        simp only [hXD.out] at hcx
                        clear hyy
                        by_cases h1 : y.same = x.same
                        · rw [decide_eq_true h1, Bool.true_and] at HJ2 HV
                          have h1b : (y.same == x.same) = true := by simpa using h1
                          rw [h1] at g2
                          by_cases h2 : y.md = x.md
                          · rw [decide_eq_true h2, Bool.true_and] at HJ2 HV
                            rw [decide_eq_true h2] at hq
                            by_cases h3 : y.data = x.data
                            · have HJ2 := Lib.hid (HJ2.out (by rw [decide_eq_true h3]; rfl))
                              rw [decide_eq_true h3] at hdq
                              have hdn : (YD.toList != XD.toList) = false := by rw [bne, hdq]; rfl
                              clear h1 h2 h3 HV
                              go_upto_region 20 with fail
                              go_quiet (fail)
                              go_wp2_with fail
                              go_roundw
                              case rel => exact ⟨j + 1, by omega, by go_num, HJ2, HS.out.drewN _⟩
                              case measure => simp [intOf]; omega
                            · have HV := Lib.hid (HV.out (by rw [decide_eq_false h3]; rfl))
                              rw [decide_eq_false h3] at hdq
                              have hdn : (YD.toList != XD.toList) = true := by rw [bne, hdq]; rfl
                              clear h1 h2 h3 HJ2
                              go_upto_region 20 with fail
                              go_quiet (fail)
                              go_wp2_with fail
                              go_ret
                              exact ⟨ret_int (by rw [HV.out]), HB.out.trans ((HS.out.drewN _).2.mono HB.out.size)⟩
                          · rw [decide_eq_false h2, Bool.false_and] at HJ2 HV
                            rw [decide_eq_false h2] at hq
                            have HV := Lib.hid (HV.out rfl)
                            clear h1 h2 HJ2
                            go_upto_region 20 with fail
                            go_quiet (fail)
                            go_wp2_with fail
                            go_ret
                            exact ⟨ret_int (by rw [HV.out]), HB.out.trans ((HS.out.drewN _).2.mono HB.out.size)⟩
                        · have HJ2 := Lib.hid (HJ2.out (by rw [decide_eq_false h1]; rfl))
                          have h1b : (y.same == x.same) = false := by simpa using h1
                          clear h1 HV
                          go_upto_region 20 with fail
                          go_quiet (fail)
                          go_wp2_with fail
                          go_roundw
                          case rel => exact ⟨j + 1, by omega, by go_num, HJ2, HS.out.drewN _⟩
                          case measure => simp [intOf]; omega
                      · obtain rfl : j = k := by omega
                        have HV : Hid (walkE [] (l.take (j + 1)) = 0) := HSP.out ((atE_zero _ _).2 ⟨hne, HL.out, HUp.out, by
                          rw [HLk.out]
                          have := HJ.out
                          rwa [List.take_of_length_le (by rw [List.length_take]; omega)] at this⟩)
                        go_wp2_with fail
                        go_roundw
                        case rel => exact ⟨j + 1, by omega, by go_num, HV, HB.out.trans (HS.out.2.mono HB.out.size)⟩
                        case measure => simp [intOf]; omega
        · have hne2 : (nodE x != 0) = true := by simpa using hne
          have HV : Hid (treeE l = nodE x) := by
            unfold Hid
            have ha := atE_node (t := l.take k) hne
            rw [HT.out, HST.out (by rw [ha]; exact hne), ha]
          generalize nodE x = ex at *
          clear hne
          go_wp2_with fail
          refine (HNd.out _).mono ?_; rintro e' w4 ⟨rfl, hb4⟩
          have HB4 := Lib.hid (HB.out.trans ((HBa.out.trans (hb4.mono HBa.out.size)).mono HB.out.size))
          clear hb4 e0 e1 e2 e3 e4 e5 e6 e7 e8 e9 eA eB
          go_wp2_with fail
          go_ret
          exact ⟨ret_int (by rw [HV.out]), HB4.out⟩
      · obtain rfl : k = n := by omega
        have HV : Hid (treeE l = 0) := by
          have := HW.out
          rw [List.take_of_length_le (by rw [HN.out]; omega)] at this
          unfold Hid; rw [HT.out, this]
        go_wp2_with fail
        go_ret
        exact ⟨ret_int (by rw [HV.out]), HB.out⟩
end Go.Proofs.YtoplcelimdkjeaaDoor
