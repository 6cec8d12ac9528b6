/- plan.Check. -/
import Derived.Test.YtdcbmjihpjnbbaaDoorEntQ
set_option linter.unusedVariables false
set_option maxRecDepth 100000
namespace Go.Proofs.YtdcbmjihpjnbbaaDoor
open Go.RowKit
open Go.OpenShut
theorem Compare_low (a b : ByteArray) (ha : a.size ≤ 400) (hb : b.size ≤ 400) (w : World) : Calls Tryd.prog 54 #[.string a, .string b] w fun e w' => e = .returned (.int .i64 (pcmp a.data.toList b.data.toList)) ∧ Below w.heap.size w w' :=
  (Compare_any a b w (by unfold maxLen; omega) (by unfold maxLen; omega)).mono fun e w' ⟨h1, n, h2⟩ => ⟨h1, h2 ▸ below_drewN (Below.refl _ _) n⟩
set_option maxHeartbeats 8000000 in
theorem entPPCheck_any (A : Option Addr) (n c : Nat) (l : List EntV) (hn : l.length = n) (hc : SlOk A n c) (hsz : ∀ x ∈ l, x.sz) (w : World) (hA : EntsAt w A l) :
    Calls Tryd.prog 31 #[.slice A n c] w fun e w' => e = .returned (.int .i64 (entsE l)) ∧ Below w.heap.size w w' := by
  have HN := Lib.hid hn
  have HA := Lib.hid hA
  have HSZ := Lib.hid hsz
  have hcap := hc.1
  have hmx := hc.2.1
  unfold maxLen at hmx
  clear hn hA hsz hc
  by_cases h40 : 40 < n
  · have HV : Hid (entsE l = 1) := by unfold Hid entsE; rw [HN.out, if_pos h40]
    go_enter Tryd.func31, Tryd.ntmps31
    go_wp2_with fail
    go_ret
    exact ⟨ret_int (by rw [HV.out]), Below.refl _ _⟩
  · have HT : Hid (entsE l = ewalkE [] l) := by unfold Hid entsE; rw [HN.out, if_neg h40]
    have h41 : n ≤ 40 := by omega
    have hmk : ∀ W : World, (Instr.makeMap 73 none).run Tryd.prog W = .ok (.map (some W.heap.size)) (W.alloc (.map #[] 0)) := fun W => rfl
    have HM0 := Lib.hid (MetE.new w)
    go_enter Tryd.func31, Tryd.ntmps31
    go_wp2_with fail
    go_loopw [14] (fun i wr => ∃ k : Nat, k ≤ n ∧ i = .int .i64 k ∧ Hid (ewalkE [] (l.take k) = 0) ∧ Hid (MetE wr w.heap.size (l.take k)) ∧ Hid (Below w.heap.size w wr)) (fun i _ => n - (intOf i).toNat)
    case atStart => exact ⟨0, Nat.zero_le _, rfl, by unfold Hid; rw [List.take_zero]; rfl, by unfold Hid; rw [List.take_zero]; exact HM0.out, belowA (Below.refl _ _) _⟩
    case round =>
      obtain ⟨k, hk, rfl, HW, HM, HB⟩ := hrel
      by_cases hlt : k < n
      · have hk1 : k < l.length := by rw [HN.out]; exact hlt
        obtain ⟨b, o, D, cc, rfl, c0, c1, c3, ⟨c4, c5, c6, c7, c8, c9, cA⟩, cB, -, -⟩ := (HA.out.below HB.out).cells k hk1
        have hb1 : b < wr.heap.size := World.block_lt_of_cell? wr _ c0
        have hxsz := HSZ.out _ (List.getElem_mem hk1)
        have HST := Lib.hid fun he => ewalkE_stop l k hk1 HW.out he
        have HSP := Lib.hid fun he => ewalkE_step l k hk1 HW.out he
        have HTK : Hid (l.take (k + 1) = l.take k ++ [l[k]]) := List.take_succ_eq_append_getElem hk1
        have HFN : Hid (ewalkE [] (l.take (k + 1)) = 0 → findE (l.take k) l[k].path = (l.take k).length) := fun he => by
          have h1 := find_new (l := l.take (k + 1)) he (k := k) (by rw [List.length_take]; omega)
          rw [List.take_take, Nat.min_eq_left (by omega), List.getElem_take] at h1
          rw [h1, List.length_take]; omega
        generalize hx : l[k] = x at *
        have HNd := Lib.hid fun W => pRight_any x D cc hxsz W
        have HAh := Lib.hid fun W h => pAhead_any w.heap.size (l.take k) x hxsz D cc W h
        have HEQ : Hid (∀ hne : entE x = 0, (∀ y, (l.take k).getLast? = some y → pcmp y.path x.path = -1) → eatE (l.take k) x = aheadE (l.take k) x) := fun hne hl => by
          unfold aheadE
          by_cases h1 : upE (l.take k) x.path = false
          · rw [if_pos h1]; exact eatE_up hne hl h1
          · rw [if_neg h1]
            have h1' : upE (l.take k) x.path = true := by simpa using h1
            by_cases h2 : aimE (l.take k) x = false
            · rw [if_pos h2]; exact eatE_link hne hl h1' h2
            · rw [if_neg h2]; exact (eatE_zero _ _).2 ⟨hne, hl, h1', by simpa using h2⟩
        have HPT := Lib.hid fun W h => MetE.put (w := W) (r := w.heap.size) (t := l.take k) h x D cc
        unfold entC at HNd HAh HPT
        have hps : (bs x.path).size ≤ 140737488351232 := by rw [bs_size]; exact hxsz.1.1
        clear hxsz
        go_upto_region 7 with fail
        have HBl := Lib.hid (Blk.new wr 30 (entA x D cc))
        have HBa : Hid (Below wr.heap.size wr (wr.alloc (.cells (entA x D cc) 30))) := (Below.refl _ _).alloc (Nat.le_refl _) _
        unfold entA at HBl HBa
        generalize hwa : wr.alloc _ = wa at HBl HBa ⊢
        obtain ⟨⟨e0, e1, e3, e4, e5, e6, e7, e8, e9, eA, eB⟩, -⟩ := blk11 HBl.out
        clear hwa c0 c1 c3 c4 c5 c6 c7 c8 c9 cA cB
        by_cases hne : entE x = 0
        · rw [hne] at HNd
          go_wp2_with fail
          refine (HNd.out _).mono ?_; rintro e' w4 ⟨rfl, hb4⟩
          have HS4 : Hid (RdE wr wr.heap.size x D cc w4) := ⟨HBl.out.below hb4 HBl.out.lt, HBa.out.trans (hb4.mono HBa.out.size)⟩
          clear hb4 e0 e1 e3 e4 e5 e6 e7 e8 e9 eA eB
          go_upto_region 10 with fail
          obtain ⟨q, hq⟩ : ∃ q : Bool, q = (match (l.take k).getLast? with | some y => !decide (pcmp y.path x.path = -1) | none => false) := ⟨_, rfl⟩
          have HQ := Lib.hid hq
          clear hq
          go_cut [37] (fun s37 wx => s37 = .bool q ∧ RdE wr wr.heap.size x D cc wx)
          case first =>
            by_cases hk0 : 0 < k
            · have hd0 : decide (0 < k) = true := decide_eq_true hk0
              obtain ⟨k1, hk1'⟩ : ∃ k1, k1 = k - 1 := ⟨_, rfl⟩
              have hsub : IntKind.i64.wrap ((k : Int) - 1) = (k1 : Int) := by rw [IntKind.wrap_i64]; omega
              have hk2 : k1 < l.length := by omega
              obtain ⟨b', o', D', cc', e', f0, -⟩ := (HA.out.below (HB.out.trans (HS4.out.2.mono HB.out.size))).cells k1 hk2
              injection e' with e'
              injection e' with e1' e2' _
              subst e1' e2'
              have hlast : (l.take k).getLast? = some l[k1] := (elast_take l k (by omega) l[k1]).2 ⟨hk0, by simp only [hk1']⟩
              have hps2 : (bs l[k1].path).size ≤ 400 := by rw [bs_size]; exact pathE_len (entE_parts (ents_good HW.out _ (List.mem_take_iff_getElem.2 ⟨k1, by omega, rfl⟩))).1
              have hps3 : (bs x.path).size ≤ 400 := by rw [bs_size]; exact pathE_len (entE_parts hne).1
              have HO := Lib.hid fun W => Compare_low (bs l[k1].path) (bs x.path) hps2 hps3 W
              rw [bs_list, bs_list] at HO
              have hq2 := HQ.out
              rw [hlast] at hq2
              simp only at hq2
              have hpb := pcmp_bd l[k1].path x.path
              obtain ⟨pc, hpc⟩ : ∃ pc, pc = pcmp l[k1].path x.path := ⟨_, rfl⟩
              rw [← hpc] at HO hq2 hpb
              have HQ2 : Hid (decide (0 ≤ pc) = q) := by
                unfold Hid; rw [hq2]
                rcases (show pc = -1 ∨ 0 ≤ pc by omega) with e | e
                · subst e; rfl
                · have e2 : pc ≠ -1 := by omega
                  simp [e, e2]
              obtain ⟨P, hP⟩ := hid_name (bs l[k1].path)
              obtain ⟨X, hX⟩ := hid_name (bs x.path)
              rw [hP.out, hX.out] at HO
              rw [hP.out] at f0 hps2
              rw [hX.out] at hps hps3
              have hS0 : RdF wr wr.heap.size x D cc b (o + k1 * 11) P w4 := ⟨HS4.out, f0⟩
              have r0 : ∀ W : World, RdF wr wr.heap.size x D cc b (o + k1 * 11) P W → W.cell? ⟨wr.heap.size, 0, none⟩ = some (.string X) := fun W h => by rw [← hX.out]; exact (blk11 h.1.1).1.1
              have r1 : ∀ W : World, RdF wr wr.heap.size x D cc b (o + k1 * 11) P W → W.cell? ⟨b, o + k1 * 11, none⟩ = some (.string P) := fun W h => h.2
              have hk1n : (k1 : Int) < (n : Int) := by omega
              have hk10 : (0 : Int) ≤ (k1 : Int) := by omega
              clear hq2 hlast hpc hpb hk1' f0
              go_region_held3 (fun W => RdF wr wr.heap.size x D cc b (o + k1 * 11) P W)
                (first
                  | (with_reducible assumption)
                  | (with_reducible refine RdF.drew ?_; with_reducible assumption)
                  | (with_reducible exact RdF.below (by with_reducible assumption) (by with_reducible assumption)))
                (first
                  | (go_at_call 54; refine (HO.out _).mono ?_; rintro e w5 ⟨rfl, hbO⟩))
              all_goals
                go_wp2_with fail
                go_meet
                exact ⟨by rw [HQ2.out], (RdF.below hS0.drew hbO).1⟩
            · have hd0 : decide (0 < k) = false := decide_eq_false hk0
              have hq2 := HQ.out
              have hk00 : k = 0 := by omega
              rw [show (l.take k).getLast? = none by rw [hk00]; simp] at hq2
              simp only at hq2
              subst hq2
              clear hk00
              go_quiet (fail)
              go_wp2_with fail
              go_meet
              exact ⟨rfl, HS4.out.drewN _⟩
          case rest =>
            obtain ⟨rfl, hSc⟩ := hcut
            have HSc := Lib.hid hSc
            clear hSc HS4
            cases q with
            | true =>
              have HV : Hid (entsE l = 6) := by
                unfold Hid
                have ha : eatE (l.take k) x = 6 := by
                  have h0 := HQ.out
                  cases e : (l.take k).getLast? with
                  | none => rw [e] at h0; cases h0
                  | some y => rw [e] at h0; exact eatE_twice hne y e (by simpa using h0)
                rw [HT.out, HST.out (by rw [ha]; decide), ha]
              go_wp2_with fail
              go_ret
              exact ⟨ret_int (by rw [HV.out]), HB.out.trans (HSc.out.2.mono HB.out.size)⟩
            | false =>
              have HL : Hid (∀ y, (l.take k).getLast? = some y → pcmp y.path x.path = -1) := fun y e => by
                have h0 := HQ.out
                rw [e] at h0
                simpa using h0.symm
              have HEq := Lib.hid (HEQ.out hne HL.out)
              have HMc := Lib.hid (HM.out.below HSc.out.2)
              obtain ⟨⟨c0, c1, c3, c4, c5, c6, c7, c8, c9, cA, cB⟩, -⟩ := blk11 HSc.out.1
              obtain ⟨hd, hhd⟩ : ∃ h, h = aheadE (l.take k) x := ⟨_, rfl⟩
              rw [← hhd] at HAh HEq
              clear hhd
              go_upto_region 12 with fail
              go_wp2_with fail
              refine (HAh.out _ HMc.out).mono ?_; rintro e' w5 ⟨rfl, hb5⟩
              have HS5 := Lib.hid (HSc.out.below hb5)
              have HM5 := Lib.hid (HMc.out.below hb5)
              clear hb5 c0 c1 c3 c4 c5 c6 c7 c8 c9 cA cB
              by_cases h0 : hd = 0
              · subst h0
                have HV : Hid (ewalkE [] (l.take (k + 1)) = 0) := HSP.out HEq.out
                obtain ⟨w6, hput, hB6, hM6⟩ := HPT.out w5 HM5.out (HFN.out HV.out)
                have HB6 := Lib.hid (hB6 w w.heap.size (Nat.le_refl _) (HB.out.trans (HS5.out.2.mono HB.out.size)))
                have HM6 : Hid (MetE w6 w.heap.size (l.take (k + 1))) := by unfold Hid; rw [HTK.out]; exact hM6
                clear hB6 hM6
                obtain ⟨⟨c0, c1, c3, c4, c5, c6, c7, c8, c9, cA, cB⟩, -⟩ := blk11 HS5.out.1
                go_wp2_with fail
                go_roundw
                case rel => exact ⟨k + 1, by omega, by go_num, HV.out, HM6.out, HB6.out⟩
                case measure => simp [intOf]; omega
              · have HV : Hid (entsE l = hd) := by
                  unfold Hid
                  rw [HT.out, HST.out (by rw [HEq.out]; exact h0), HEq.out]
                have h0b : (hd == 0) = false := by simpa using h0
                clear h0
                go_wp2_with fail
                go_ret
                exact ⟨ret_int (by rw [HV.out]), HB.out.trans (HS5.out.2.mono HB.out.size)⟩
        · have hne2 : (entE x != 0) = true := by simpa using hne
          have HV : Hid (entsE l = entE x) := by
            unfold Hid
            have ha := eatE_node (t := l.take k) hne
            rw [HT.out, HST.out (by rw [ha]; exact hne), ha]
          generalize entE x = ex at *
          clear hne
          go_wp2_with fail
          refine (HNd.out _).mono ?_; rintro e' w4 ⟨rfl, hb4⟩
          have HB4 := Lib.hid (HB.out.trans ((HBa.out.trans (hb4.mono HBa.out.size)).mono HB.out.size))
          clear hb4 e0 e1 e3 e4 e5 e6 e7 e8 e9 eA eB
          go_wp2_with fail
          go_ret
          exact ⟨ret_int (by rw [HV.out]), HB4.out⟩
      · obtain rfl : k = n := by omega
        have HV : Hid (entsE l = 0) := by
          have := HW.out
          rw [List.take_of_length_le (by rw [HN.out]; omega)] at this
          unfold Hid; rw [HT.out, this]
        go_wp2_with fail
        go_ret
        exact ⟨ret_int (by rw [HV.out]), HB.out⟩
end Go.Proofs.YtdcbmjihpjnbbaaDoor
