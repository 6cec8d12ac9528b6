/- tree.Check. -/
import Derived.Test.YtoikpnjnljdpaaaGreatDoorTrb
import Derived.Test.YtoikpnjnljdpaaaGreatDoorNod
import Derived.Test.YtoikpnjnljdpaaaGreatDoorMth
import Derived.Deep.RegionHeld3
import Derived.Deep.RegionWith
import Derived.Deep.DeepCutAuto
import Derived.Deep.QuietTactic
import Derived.BigQuiet
set_option linter.unusedVariables false
set_option maxRecDepth 100000
namespace Go.Proofs.YtoikpnjnljdpaaaGreatDoor
open Go.RowKit
open Go.OpenShut
theorem Compare_below (a b : ByteArray) (ha : a.size ≤ 400) (hb : b.size ≤ 400) (w : World) : Calls Tryz.prog 36 #[.string a, .string b] w fun e w' => e = .returned (.int .i64 (pcmp a.data.toList b.data.toList)) ∧ Below w.heap.size w w' :=
  (Compare_any a b w (by unfold maxLen; omega) (by unfold maxLen; omega)).mono fun e w' ⟨h1, n, h2⟩ => ⟨h1, h2 ▸ below_drewN (Below.refl _ _) n⟩
theorem RdS.map {w wr W : World} {g : Nat} {x : NodeV} {D : Option Addr} {c : Nat} (h : RdS w wr g x D c W) {r : Nat} {t : List NodeV} (hm : MapN wr r t) : MapN W r t := hm.below h.2
set_option maxHeartbeats 8000000 in
theorem trCheck_any (A : Option Addr) (n c : Nat) (l : List NodeV) (hn : l.length = n) (hc : SlOk A n c) (hsz : ∀ x ∈ l, x.sz) (w : World) (hA : NodesAt w A l) :
    Calls Tryz.prog 38 #[.slice A n c] w fun e w' => e = .returned (.int .i64 (treeE l)) ∧ Below w.heap.size w w' := by
  have HN := Lib.hid hn
  have HA := Lib.hid hA
  have HSZ := Lib.hid hsz
  have hcap := hc.1
  have hmx := hc.2.1
  unfold maxLen at hmx
  clear hn hA hsz hc
  by_cases h40 : 40 < n
  · have HV : Hid (treeE l = 1) := by unfold Hid treeE; rw [HN.out, if_pos h40]
    go_enter Tryz.func38, Tryz.ntmps38
    go_wp2_with fail
    go_ret
    exact ⟨ret_int (by rw [HV.out]), Below.refl _ _⟩
  · have HT : Hid (treeE l = walkE [] l) := by unfold Hid treeE; rw [HN.out, if_neg h40]
    have h41 : n ≤ 40 := by omega
    have hmk : ∀ W : World, (Instr.makeMap 108 none).run Tryz.prog W = .ok (.map (some W.heap.size)) (W.alloc (.map #[] 0)) := fun W => rfl
    have HM0 := Lib.hid (MapN.new w)
    go_enter Tryz.func38, Tryz.ntmps38
    go_wp2_with fail
    go_loopw [16] (fun i wr => ∃ k : Nat, k ≤ n ∧ i = .int .i64 k ∧ Hid (walkE [] (l.take k) = 0) ∧ Hid (MapN wr w.heap.size (l.take k)) ∧ Hid (Below w.heap.size w wr)) (fun i _ => n - (intOf i).toNat)
    case atStart => exact ⟨0, Nat.zero_le _, rfl, by unfold Hid; rw [List.take_zero]; rfl, by unfold Hid; rw [List.take_zero]; exact HM0.out, belowA (Below.refl _ _) _⟩
    case round =>
      obtain ⟨k, hk, rfl, HW, HM, HB⟩ := hrel
      by_cases hlt : k < n
      · have hk1 : k < l.length := by rw [HN.out]; exact hlt
        obtain ⟨b, o, D, cc, rfl, c0, c1, c2', c3, ⟨c4, c5, c6, c7, c8, c9, cA⟩, cB, -, hD⟩ := (HA.out.below HB.out).cells k hk1
        have hb1 : b < wr.heap.size := World.block_lt_of_cell? wr _ c0
        have hxsz := HSZ.out _ (List.getElem_mem hk1)
        have HST := Lib.hid fun he => walkE_stop l k hk1 HW.out he
        have HSP := Lib.hid fun he => walkE_step l k hk1 HW.out he
        have HTK : Hid (l.take (k + 1) = l.take k ++ [l[k]]) := List.take_succ_eq_append_getElem hk1
        generalize hx : l[k] = x at *
        have HNd := Lib.hid fun W => Right_any x D cc hxsz W
        unfold nodC at HNd
        have HD := Lib.hid hD
        have hps : (bs x.path).size ≤ 140737488351232 := by rw [bs_size]; exact hxsz.1.1
        clear hD hxsz
        go_upto_region 7 with fail
        have HBl := Lib.hid (Blk.new wr 51 (nodA x D cc))
        have HBa : Hid (Below wr.heap.size wr (wr.alloc (.cells (nodA x D cc) 51))) := (Below.refl _ _).alloc (Nat.le_refl _) _
        unfold nodA at HBl HBa
        generalize hwa : wr.alloc _ = wa at HBl HBa ⊢
        obtain ⟨e0, e1, e2, e3, e4, e5, e6, e7, e8, e9, eA, eB⟩ := blk12 HBl.out
        clear hwa c0 c1 c2' c3 c4 c5 c6 c7 c8 c9 cA cB
        by_cases hne : nodE x = 0
        · rw [hne] at HNd
          go_wp2_with fail
          refine (HNd.out _).mono ?_; rintro e' w4 ⟨rfl, hb4⟩
          have HS4 : Hid (RdS w wr wr.heap.size x D cc w4) := ⟨HBl.out.below hb4 HBl.out.lt, HBa.out.trans (hb4.mono HBa.out.size)⟩
          clear hb4 e0 e1 e2 e3 e4 e5 e6 e7 e8 e9 eA eB
          go_upto_region 10 with fail
          obtain ⟨q, hq⟩ : ∃ q : Bool, q = (match (l.take k).getLast? with | some y => !decide (pcmp y.path x.path = -1) | none => false) := ⟨_, rfl⟩
          have HQ := Lib.hid hq
          clear hq
          go_cut [39] (fun s39 wx => s39 = .bool q ∧ RdS w wr wr.heap.size x D cc wx)
          case first =>
            by_cases hk0 : 0 < k
            · have hd0 : decide (0 < k) = true := decide_eq_true hk0
              obtain ⟨k1, hk1'⟩ : ∃ k1, k1 = k - 1 := ⟨_, rfl⟩
              have hsub : IntKind.i64.wrap ((k : Int) - 1) = (k1 : Int) := by rw [IntKind.wrap_i64]; omega
              have hk2 : k1 < l.length := by omega
              obtain ⟨b', o', D', cc', e', f0, -⟩ := (HA.out.below (HB.out.trans (HS4.out.2.mono HB.out.size))).cells k1 hk2
              injection e' with e'
              injection e' with e1' e2' _
              subst e1' e2'
              have hlast : (l.take k).getLast? = some l[k1] := (last_take l k (by omega) l[k1]).2 ⟨hk0, by simp only [hk1']⟩
              have hps2 : (bs l[k1].path).size ≤ 400 := by rw [bs_size]; exact path_len (((walk_sound _).1 HW.out).node _ (List.mem_take_iff_getElem.2 ⟨k1, by omega, rfl⟩))
              have hps3 : (bs x.path).size ≤ 400 := by rw [bs_size]; exact path_len hne
              have HO := Lib.hid fun W => Compare_below (bs l[k1].path) (bs x.path) hps2 hps3 W
              rw [bs_list, bs_list] at HO
              have hq2 := HQ.out
              rw [hlast] at hq2
              simp only at hq2
              have hpb := pcmp_bd l[k1].path x.path
              obtain ⟨pc, hpc⟩ : ∃ pc, pc = pcmp l[k1].path x.path := ⟨_, rfl⟩
              rw [← hpc] at HO hq2 hpb
              have HQ2 : Hid (decide (0 ≤ pc) = q) := by
                unfold Hid; rw [hq2]
                rcases (show pc = -1 ∨ 0 ≤ pc by omega) with e | e
                · subst e; rfl
                · have e2 : pc ≠ -1 := by omega
                  simp [e, e2]
              obtain ⟨P, hP⟩ := hid_name (bs l[k1].path)
              obtain ⟨X, hX⟩ := hid_name (bs x.path)
              rw [hP.out, hX.out] at HO
              rw [hP.out] at f0 hps2
              rw [hX.out] at hps hps3
              have hS0 : RdP w wr wr.heap.size x D cc b (o + k1 * 12) P w4 := ⟨HS4.out, f0⟩
              have r0 : ∀ W : World, RdP w wr wr.heap.size x D cc b (o + k1 * 12) P W → W.cell? ⟨wr.heap.size, 0, none⟩ = some (.string X) := fun W h => by rw [← hX.out]; exact (blk12 h.1.1).1.1
              have r1 : ∀ W : World, RdP w wr wr.heap.size x D cc b (o + k1 * 12) P W → W.cell? ⟨b, o + k1 * 12, none⟩ = some (.string P) := fun W h => h.2
              have hk1n : (k1 : Int) < (n : Int) := by omega
              have hk10 : (0 : Int) ≤ (k1 : Int) := by omega
              clear hq2 hlast hpc hpb hk1' f0
              go_region_held3 (fun W => RdP w wr wr.heap.size x D cc b (o + k1 * 12) P W)
                (first
                  | (with_reducible assumption)
                  | (with_reducible refine RdP.drew ?_; with_reducible assumption)
                  | (with_reducible exact RdP.below (by with_reducible assumption) (by with_reducible assumption)))
                (first
                  | (go_at_call 36; refine (HO.out _).mono ?_; rintro e w5 ⟨rfl, hbO⟩))
              all_goals
                go_wp2_with fail
                go_meet
                exact ⟨by rw [HQ2.out], (RdP.below hS0.drew hbO).1⟩
            · have hd0 : decide (0 < k) = false := decide_eq_false hk0
              have hq2 := HQ.out
              have hk00 : k = 0 := by omega
              rw [show (l.take k).getLast? = none by rw [hk00]; simp] at hq2
              simp only at hq2
              subst hq2
              clear hk00
              go_quiet (fail)
              go_wp2_with fail
              go_meet
              exact ⟨rfl, HS4.out.drewN _⟩
          case rest =>
            obtain ⟨rfl, hSc⟩ := hcut
            have HSc := Lib.hid hSc
            clear hSc HS4
            have HSnd := Lib.hid ((walk_sound _).1 HW.out)
            cases q with
            | true =>
              have HV : Hid (treeE l = 6) := by
                unfold Hid
                have ha : atE (l.take k) x = 6 := by
                  have h0 := HQ.out
                  cases e : (l.take k).getLast? with
                  | none => rw [e] at h0; cases h0
                  | some y => rw [e] at h0; exact atE_twice hne y e (by simpa using h0)
                rw [HT.out, HST.out (by rw [ha]; decide), ha]
              go_wp2_with fail
              go_ret
              exact ⟨ret_int (by rw [HV.out]), HB.out.trans (HSc.out.2.mono HB.out.size)⟩
            | false =>
              have HL : Hid (∀ y, (l.take k).getLast? = some y → pcmp y.path x.path = -1) := fun y e => by
                have h0 := HQ.out
                rw [e] at h0
                simpa using h0.symm
              have hx4 := path_len hne
              have HPs := Lib.hid fun W => Up_any (bs x.path) W (by rw [bs_size]; omega)
              rw [bs_list] at HPs
              obtain ⟨X, hX⟩ := hid_name (bs x.path)
              rw [hX.out] at HPs
              obtain ⟨⟨c0, -⟩, -⟩ := blk12 HSc.out.1
              rw [hX.out] at c0
              go_upto_region 12 with fail
              go_wp2_with fail
              refine (HPs.out _).mono ?_; rintro e' w5 ⟨rfl, hb5⟩
              have HS5 := Lib.hid (HSc.out.below hb5)
              clear hb5 c0
              obtain ⟨U, hU⟩ := hid_name (⟨(upL x.path).toArray⟩ : ByteArray)
              rw [hU.out]
              have hUl : upL x.path = U.data.toList := by rw [← hU.out]
              have hb5 : Below w5.heap.size w5 (w5.drew.alloc (.cells #[.string U] 9)) := ((Below.refl w5.heap.size w5).drew).alloc (Nat.le_refl _) _
              have HCt := Lib.hid (Contains_dir U w5.heap.size (some ⟨b, o, none⟩) k c (l.take k) (by rw [List.length_take]; omega) (by omega) (fun y hy => HSZ.out y (List.mem_of_mem_take hy)) (w5.drew.alloc (.cells #[.string U] 9)) (Blk.new w5.drew 9 #[.string U] |>.cell 0) (((HA.out.below (HB.out.trans (HS5.out.2.mono HB.out.size))).take k).below hb5))
              have HB5 := Lib.hid hb5
              clear hb5
              obtain ⟨q2, hq2⟩ : ∃ q2 : Bool, upOk (l.take k) x.path = !q2 := ⟨!upOk (l.take k) x.path, by simp⟩
              have HQ2 := Lib.hid hq2
              have HU : Hid (upOk (l.take k) x.path = (decide (upL x.path = []) || (l.take k).any fun n => decide (n.path = U.data.toList) && decide (n.kind = 2))) := by unfold Hid upOk; rw [hUl]
              rw [hq2] at HU
              clear hq2
              go_upto_region 13 with fail
              go_cut [53] (fun s53 wx => s53 = .bool q2 ∧ RdS w wr wr.heap.size x D cc wx)
              case first =>
                by_cases hu0 : upL x.path = []
                · have hu1 := HU.out
                  rw [decide_eq_true hu0, Bool.true_or] at hu1
                  obtain rfl : q2 = false := by revert hu1; cases q2 <;> decide
                  have hun : U.toList = [] := by rw [ByteArray.toList_eq, ← hUl]; exact hu0
                  have hun2 : (U.toList != []) = false := by simp [hun]
                  clear hu1 hu0 HCt hUl
                  go_quiet (fail)
                  go_wp2_with fail
                  go_meet
                  exact ⟨rfl, HS5.out.drewN _⟩
                · have hu1 := HU.out
                  rw [decide_eq_false hu0, Bool.false_or] at hu1
                  have hun : ¬ U.toList = [] := fun e => hu0 (by rw [hUl, ← ByteArray.toList_eq]; exact e)
                  have hun2 : (U.toList != []) = true := by simpa using hun
                  have hun3 : (U.toList == []) = false := by simpa using hun
                  have hun4 : decide (U.toList = []) = false := by simpa using hun
                  rw [← hu1] at HCt
                  clear hu1 hu0 hUl HU
                  go_region_with
                    (first
                      | (go_at_call 68; refine (dirAtf_any _ _).mono ?_; rintro e w6 ⟨rfl, rfl⟩)
                      | (go_at_call 67; refine HCt.out.mono ?_; rintro e w7 ⟨rfl, hb7⟩))
                  all_goals
                    go_wp2_with fail
                    go_meet
                    exact ⟨by simp, (HS5.out.below HB5.out).below hb7⟩
              case rest =>
                obtain ⟨rfl, hSd⟩ := hcut
                have HSd := Lib.hid hSd
                clear hSd HS5 HCt HB5 hUl
                cases q2 with
                | true =>
                  have HV : Hid (treeE l = 10) := by
                    unfold Hid
                    have ha : atE (l.take k) x = 10 := atE_up hne HL.out (by rw [HQ2.out]; rfl)
                    rw [HT.out, HST.out (by rw [ha]; decide), ha]
                  go_wp2_with fail
                  go_ret
                  exact ⟨ret_int (by rw [HV.out]), HB.out.trans (HSd.out.2.mono HB.out.size)⟩
                | false =>
                  have HUp : Hid (upOk (l.take k) x.path = true) := by unfold Hid; rw [HQ2.out]; rfl
                  obtain ⟨⟨c0, c1, c2', c3, c4, c5, c6, c7, c8, c9, cA, cB⟩, -⟩ := blk12 HSd.out.1
                  go_upto_region 15 with fail
                  by_cases hs0 : x.same = 0
                  · have HV : Hid (walkE [] (l.take (k + 1)) = 0) := HSP.out ((atE_zero _ _).2 ⟨hne, HL.out, HUp.out, linkNo_zero hs0⟩)
                    have HMn : Hid (MapN wc w.heap.size (l.take (k + 1))) := by
                      unfold Hid; rw [HTK.out]; exact (HSd.out.map HM.out).skip x hs0
                    have hs1 : (x.same == 0) = true := by simp [hs0]
                    clear hs0
                    go_wp2_with fail
                    go_roundw
                    case rel => exact ⟨k + 1, by omega, by go_num, HV, HMn, HB.out.trans (HSd.out.2.mono HB.out.size)⟩
                    case measure => simp [intOf]; omega
                  · have hs1 : (x.same == 0) = false := by simpa using hs0
                    have HMd := Lib.hid (HSd.out.map HM.out)
                    have hB0 : w.heap.size ≤ wr.heap.size := HB.out.size
                    rcases HMd.out.look x.same with ⟨y, E, d, hy, hys, hE, hlk⟩ | ⟨hno, hlk⟩
                    · have HLk := Lib.hid (linkNo_one HSnd.out hy hys hs0)
                      have HI := Lib.hid fun W h h' => isSame_any y x E D d cc W h h'
                      have HE := Lib.hid hE
                      unfold nodC at hlk HI
                      obtain ⟨r, hr⟩ : ∃ r : Bool, r = (decide (y.md = x.md) && decide (y.data = x.data)) := ⟨_, rfl⟩
                      rw [← hr] at HLk HI
                      clear hr hE hy hys
                      go_upto_region 17 with fail
                      have HBl2 := Lib.hid (Blk.new wc 51 (nodA y E d))
                      have HBb : Hid (Below wc.heap.size wc (wc.alloc (.cells (nodA y E d) 51))) := (Below.refl _ _).alloc (Nat.le_refl _) _
                      unfold nodA at HBl2 HBb
                      generalize hwb : wc.alloc _ = wb at HBl2 HBb ⊢
                      have HSb := Lib.hid (HSd.out.below HBb.out)
                      clear hwb c0 c1 c2' c3 c4 c5 c6 c7 c8 c9 cA cB hlk
                      obtain ⟨⟨c0, c1, c2', c3, c4, c5, c6, c7, c8, c9, cA, cB⟩, -⟩ := blk12 HSb.out.1
                      obtain ⟨⟨g0, g1, g2, g3, g4, g5, g6, g7, g8, g9, gA, gB⟩, -⟩ := blk12 HBl2.out
                      have HIw := Lib.hid (HI.out wb (HE.out.below HBb.out) (HD.out.below HSb.out.2))
                      cases r with
                      | true =>
                        have HV : Hid (walkE [] (l.take (k + 1)) = 0) := HSP.out ((atE_zero _ _).2 ⟨hne, HL.out, HUp.out, by rw [HLk.out]; rfl⟩)
                        go_wp2_with fail
                        refine HIw.out.mono ?_; rintro e w8 ⟨rfl, hb8⟩
                        have HS8 := Lib.hid (HSb.out.below hb8)
                        clear c0 c1 c2' c3 c4 c5 c6 c7 c8 c9 cA cB g0 g1 g2 g3 g4 g5 g6 g7 g8 g9 gA gB hb8
                        obtain ⟨⟨c0, c1, c2', c3, c4, c5, c6, c7, c8, c9, cA, cB⟩, -⟩ := blk12 HS8.out.1
                        obtain ⟨w9, hput, hbel, -, hmp⟩ := (HS8.out.map HM.out).put x D cc (HD.out.below HS8.out.2)
                        rw [← HTK.out] at hmp
                        have HM9 := Lib.hid hmp
                        have HB9 := Lib.hid (hbel w _ (Nat.le_refl _) (HB.out.trans (HS8.out.2.mono HB.out.size)))
                        unfold nodC at hput
                        clear hmp hbel
                        go_wp2_with fail
                        go_roundw
                        case rel => exact ⟨k + 1, by omega, by go_num, HV, HM9, HB9⟩
                        case measure => simp [intOf]; omega
                      | false =>
                        have HV : Hid (treeE l = 11) := by
                          unfold Hid
                          have ha : atE (l.take k) x = 11 := atE_link hne HL.out HUp.out (by rw [HLk.out]; rfl)
                          rw [HT.out, HST.out (by rw [ha]; decide), ha]
                        go_wp2_with fail
                        refine HIw.out.mono ?_; rintro e w8 ⟨rfl, hb8⟩
                        have HS8 := Lib.hid (HSb.out.below hb8)
                        clear c0 c1 c2' c3 c4 c5 c6 c7 c8 c9 cA cB g0 g1 g2 g3 g4 g5 g6 g7 g8 g9 gA gB hb8
                        go_wp2_with fail
                        go_ret
                        exact ⟨ret_int (by rw [HV.out]), HB.out.trans (HS8.out.2.mono HB.out.size)⟩
                    · have HV : Hid (walkE [] (l.take (k + 1)) = 0) := HSP.out ((atE_zero _ _).2 ⟨hne, HL.out, HUp.out, linkNo_none (fun y hy e => hno y hy (by rw [e]; exact hs0) e)⟩)
                      unfold nodC at hlk
                      clear hno
                      go_upto_region 17 with fail
                      generalize hwb : wc.alloc _ = wb
                      have HBb : Hid (Below wc.heap.size wc wb) := by rw [← hwb]; exact (Below.refl _ _).alloc (Nat.le_refl _) _
                      have HSb := Lib.hid (HSd.out.below HBb.out)
                      clear hwb c0 c1 c2' c3 c4 c5 c6 c7 c8 c9 cA cB hlk
                      obtain ⟨⟨c0, c1, c2', c3, c4, c5, c6, c7, c8, c9, cA, cB⟩, -⟩ := blk12 HSb.out.1
                      obtain ⟨w9, hput, hbel, -, hmp⟩ := (HSb.out.map HM.out).put x D cc (HD.out.below HSb.out.2)
                      rw [← HTK.out] at hmp
                      have HM9 := Lib.hid hmp
                      have HB9 := Lib.hid (hbel w _ (Nat.le_refl _) (HB.out.trans (HSb.out.2.mono HB.out.size)))
                      unfold nodC at hput
                      clear hmp hbel
                      go_wp2_with fail
                      go_roundw
                      case rel => exact ⟨k + 1, by omega, by go_num, HV, HM9, HB9⟩
                      case measure => simp [intOf]; omega
        · have hne2 : (nodE x != 0) = true := by simpa using hne
          have HV : Hid (treeE l = nodE x) := by
            unfold Hid
            have ha := atE_node (t := l.take k) hne
            rw [HT.out, HST.out (by rw [ha]; exact hne), ha]
          generalize nodE x = ex at *
          clear hne
          go_wp2_with fail
          refine (HNd.out _).mono ?_; rintro e' w4 ⟨rfl, hb4⟩
          have HB4 := Lib.hid (HB.out.trans ((HBa.out.trans (hb4.mono HBa.out.size)).mono HB.out.size))
          clear hb4 e0 e1 e2 e3 e4 e5 e6 e7 e8 e9 eA eB
          go_wp2_with fail
          go_ret
          exact ⟨ret_int (by rw [HV.out]), HB4.out⟩
      · obtain rfl : k = n := by omega
        have HV : Hid (treeE l = 0) := by
          have := HW.out
          rw [List.take_of_length_le (by rw [HN.out]; omega)] at this
          unfold Hid; rw [HT.out, this]
        go_wp2_with fail
        go_ret
        exact ⟨ret_int (by rw [HV.out]), HB.out⟩
end Go.Proofs.YtoikpnjnljdpaaaGreatDoor
