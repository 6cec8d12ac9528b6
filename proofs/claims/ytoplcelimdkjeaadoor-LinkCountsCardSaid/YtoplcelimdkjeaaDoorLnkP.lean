/- Contracts of package link: Firsts, Names, Anew. -/
import Derived.Test.YtoplcelimdkjeaaDoorLnkB
import Derived.Test.YtoplcelimdkjeaaDoorMth
import Derived.Test.YtoplcelimdkjeaaDoorMpi
import Derived.Test.YtoplcelimdkjeaaDoorTrgD
set_option linter.unusedVariables false
set_option maxRecDepth 100000
namespace Go.Proofs.YtoplcelimdkjeaaDoor
open Go.RowKit
open Go.OpenShut
theorem own_map_ne {w : World} {B : Nat} {v : Value} {l : List Int} {r : Nat} {f : Int → Option Int} (h : OwnI w B v l) (hm : MapI w r f) : ∀ g, v.ownBlock = some g → g ≠ r := by
  intro g hg e
  subst e
  obtain ⟨es, clock, hr, -⟩ := hm
  unfold OwnI World.ownsRow at h
  rcases h.2 with ⟨rfl, -⟩ | ⟨g', cap, cur, rfl, hB, hg', -⟩
  · cases hg
  · have : g' = g := by simpa [Value.ownBlock] using hg
    subst this
    rw [hg'] at hr
    cases hr
theorem MapI.grown {w w' : World} {B : Nat} {v : Value} {l : List Int} {r : Nat} {f : Int → Option Int} (hm : MapI w r f) (h : OwnI w B v l) (hg : w.grownBy w' v.ownBlock) : MapI w' r f := by
  have hne : some r ≠ v.ownBlock := fun e => own_map_ne h hm r e.symm rfl
  have hlt := hm.lt
  obtain ⟨es, clock, hr, h1, h2⟩ := hm
  exact ⟨es, clock, (hg.block r hlt hne).trans hr, h1, h2⟩
set_option maxHeartbeats 4000000 in
theorem lFirsts_ok (A : Option Addr) (n c : Nat) (l : List NodeV) (hn : l.length = n) (hc : SlOk A n c) (hsz : ∀ x ∈ l, x.sz) (h40 : n ≤ 40) (w : World) (hA : NodesAt w A l) (ht : treeE l = 0) :
    Calls Tryd.prog 7 #[.slice A n c] w fun e w' => ∃ v, e = .returned (.tuple #[v, .int .i64 0]) ∧ OwnI w' w.heap.size v (fsL l) ∧ Below w.heap.size w w' := by
  have H1 := Lib.hid (trCheck_any A n c l hn hc hsz w hA)
  rw [ht] at H1
  have HP := Lib.hid fun i => ((treeE_zero l).1 ht).2.pos i
  have HN := Lib.hid hn
  have HA := Lib.hid hA
  obtain ⟨i0, hi, hz0, hz1, hz2⟩ := info_parts info_int
  obtain ⟨M, hmk, hown⟩ := madeI_room w n (by omega) i0 hi hz0 hz1 hz2
  have HK := Lib.hid hmk
  have HO := Lib.hid hown
  clear hn hc hsz hA ht hmk hown hi hz0 hz1 hz2
  go_enter Tryd.func7, Tryd.ntmps7
  go_wp2_with fail
  refine H1.out.mono ?_; rintro e x1 ⟨rfl, hb⟩
  have hk1 := HK.out x1
  have ho1 := HO.out x1 w.heap.size hb.size
  have hb1 := hb.alloc hb.size (.cells M 3)
  generalize hv1 : Value.slice (some ⟨x1.heap.size, 0, none⟩) 0 n = v1 at hk1 ho1
  generalize hx2 : x1.alloc (.cells M 3) = x2 at hk1 ho1 hb1
  have hk2 : (Instr.makeMap 42 none).run Tryd.prog x2 = .ok (.map (some x2.heap.size)) (x2.alloc (.map #[] 0)) := rfl
  have hm3 := MapI.new x2
  have ho3 := ho1.alloc (.map #[] 0)
  have hb3 := hb1.alloc hb1.size (.map #[] 0)
  have hr3 : w.heap.size ≤ x2.heap.size := hb1.size
  generalize x2.heap.size = r at hk2 hm3 hr3
  generalize x2.alloc (.map #[] 0) = x3 at hk2 hm3 ho3 hb3
  have HO3 := Lib.hid ho3
  have HM3 : Hid (MapI x3 r (seenF l 0)) := by unfold Hid; rw [seenF_zero]; exact hm3
  have HB3 := Lib.hid hb3
  have HR3 := Lib.hid hr3
  clear hb ho1 hb1 hv1 hx2 hm3 ho3 hb3 hr3 H1 HK HO
  go_wp2_with fail
  go_loopw [5, 22] (fun ov iv wr => ∃ i : Nat, i ≤ n ∧ iv = .int .i64 i ∧ Hid (OwnI wr w.heap.size ov ((List.range i).map fun j => ((firstF l j : Nat) : Int))) ∧ Hid (MapI wr r (seenF l i)) ∧ Hid (Below w.heap.size w wr)) (fun _ iv _ => n - (intOf iv).toNat)
  case atStart => exact ⟨0, Nat.zero_le _, rfl, HO3.out, HM3.out, HB3.out⟩
  case round =>
    obtain ⟨i, hi, rfl, HR, HM, HB⟩ := hrel
    by_cases hlt : i < n
    · have i1 : i < l.length := by rw [HN.out]; exact hlt
      obtain ⟨b, o, D, cc, rfl, c0, c1, c2', c3, ⟨c4, c5, c6, c7, c8, c9, cA⟩, cB, -, hD⟩ := (HA.out.below HB.out).cells i i1
      have hb1 : b < wr.heap.size := World.block_lt_of_cell? wr _ c0
      have hsa := sameAt_at i1
      have HX : Hid ((List.range i).map (fun j => ((firstF l j : Nat) : Int)) ++ [((firstF l i : Nat) : Int)] = (List.range (i + 1)).map fun j => ((firstF l j : Nat) : Int)) := (range_snoc _ _).symm
      have HSa := Lib.hid (HP.out i)
      obtain ⟨F, hF⟩ : ∃ F : Nat, F = firstF l i := ⟨_, rfl⟩
      have hFi : F ≤ i := by rw [hF]; exact (firstF_spec l i).1
      have HF := Lib.hid hF
      rw [← hF] at HX
      generalize l[i] = x at *
      clear hD hF
      go_upto_region 9 with fail
      have HBl := Lib.hid (Blk.new wr 39 (nodA x D cc))
      have HBa : Hid (Below wr.heap.size wr (wr.alloc (.cells (nodA x D cc) 39))) := (Below.refl _ _).alloc (Nat.le_refl _) _
      unfold nodA at HBl HBa
      generalize hwa : wr.alloc _ = wa at HBl HBa ⊢
      have e2 := (blk12 HBl.out).1.2.2.1
      have HMa := Lib.hid (HM.out.below HBa.out)
      have HRa := Lib.hid (HR.out.below HBa.out)
      have HBb := Lib.hid (HB.out.trans (HBa.out.mono HB.out.size))
      clear hwa c0 c1 c2' c3 c4 c5 c6 c7 c8 c9 cA cB
      have hlk := HMa.out.look (sameAt l i)
      have HSp : Hid (0 < sameAt l i → seenF l (i + 1) = fun s => if s = sameAt l i then some ((firstF l i : Nat) : Int) else seenF l i s) := seenF_put
      have HSn : Hid (¬ 0 < sameAt l i → seenF l (i + 1) = seenF l i) := seenF_skip
      have HZ : Hid (¬ 0 < sameAt l i → firstF l i = i) := fun h => firstF_zero h HSa.out
      have HS1 : Hid (∀ v, seenF l i (sameAt l i) = some v → v = (F : Int)) := fun v h => by rw [HF.out]; exact seenF_some HSa.out h
      have HS0 : Hid (seenF l i (sameAt l i) = none → F = i) := fun h => by rw [HF.out]; exact seenF_none HSa.out h
      rw [hsa] at hlk HSp HSn HS1 HS0 HZ
      clear hsa
      by_cases hpos : 0 < x.same
      · have hSp := HSp.out hpos
        rw [← HF.out] at hSp
        have hne2 : ∀ v', seenF l i x.same = some v' → v' = (F : Int) := HS1.out
        obtain ⟨w9, hput, hbel, hkeep, hs9, hm9⟩ := HMa.out.put x.same (F : Int) hne2
        rw [← hSp] at hm9
        have HM9 := Lib.hid hm9
        clear hSp
        cases hq : seenF l i x.same with
        | some v =>
          obtain rfl := HS1.out v hq
          rw [hq] at hlk
          simp only [Option.getD_some, Option.isSome_some] at hlk
          clear hq hne2
          have HR9 : Hid (OwnI w9 w.heap.size u5 ((List.range i).map fun j => ((firstF l j : Nat) : Int))) := HRa.out.stays fun g hg => hkeep g (own_map_ne HRa.out HMa.out g hg)
          have HB9 := Lib.hid (hbel w _ HR3.out HBb.out)
          clear hm9 hkeep hbel hs9
          go_wp2_with (at_builtin; refine Stay.go ?_)
          refine Stay.on ?_
          refine append_int rfl (.tmp 44) (.tmp 46) rfl w.heap.size _ _ rfl (HR9.out.alloc _) w9.heap.size 1 (F : Int) rfl ((Blk.new _ 3 #[.int .i64 (F : Int)]).cell 0) (by rw [range_mlen]; omega) (by rw [hszA]; exact Nat.le_trans HB9.out.size (Nat.le_succ _)) ?_
          intro v7 w7 ho7 hg7
          rw [HX.out] at ho7
          have HR7 := Lib.hid ho7
          have HM7 := Lib.hid ((HM9.out.below ((Below.refl _ _).alloc (Nat.le_refl _) _)).grown (HR9.out.alloc _) hg7)
          have HB7 : Hid (Below w.heap.size w w7) := (HB9.out.alloc HB9.out.size _).grown hg7 (by rw [hszA]; exact Nat.le_trans HB9.out.size (Nat.le_succ _)) fun g e => (World.ownsRow.lt HR9.out g e).1
          clear ho7 hg7
          go_wp2_with fail
          go_roundw
          case rel => exact ⟨i + 1, by omega, by go_num, HR7.out, HM7.out, HB7.out⟩
          case measure => simp [intOf]; omega
        | none =>
          have hiF : i = F := (HS0.out hq).symm
          subst hiF
          rw [hq] at hlk
          simp only [Option.getD_none, Option.isSome_none] at hlk
          clear hq hne2
          have HR9 : Hid (OwnI w9 w.heap.size u5 ((List.range i).map fun j => ((firstF l j : Nat) : Int))) := HRa.out.stays fun g hg => hkeep g (own_map_ne HRa.out HMa.out g hg)
          have HB9 := Lib.hid (hbel w _ HR3.out HBb.out)
          clear hm9 hkeep hbel hs9
          go_wp2_with (at_builtin; refine Stay.go ?_)
          refine Stay.on ?_
          refine append_int rfl (.tmp 44) (.tmp 46) rfl w.heap.size _ _ rfl (HR9.out.alloc _) w9.heap.size 1 (i : Int) rfl ((Blk.new _ 3 #[.int .i64 (i : Int)]).cell 0) (by rw [range_mlen]; omega) (by rw [hszA]; exact Nat.le_trans HB9.out.size (Nat.le_succ _)) ?_
          intro v7 w7 ho7 hg7
          rw [HX.out] at ho7
          have HR7 := Lib.hid ho7
          have HM7 := Lib.hid ((HM9.out.below ((Below.refl _ _).alloc (Nat.le_refl _) _)).grown (HR9.out.alloc _) hg7)
          have HB7 : Hid (Below w.heap.size w w7) := (HB9.out.alloc HB9.out.size _).grown hg7 (by rw [hszA]; exact Nat.le_trans HB9.out.size (Nat.le_succ _)) fun g e => (World.ownsRow.lt HR9.out g e).1
          clear ho7 hg7
          go_wp2_with fail
          go_roundw
          case rel => exact ⟨i + 1, by omega, by go_num, HR7.out, HM7.out, HB7.out⟩
          case measure => simp [intOf]; omega
      · have hSn := HSn.out hpos
        have hq : seenF l i x.same = none := by unfold seenF; rw [if_neg hpos]
        have hiF : i = F := (HS0.out hq).symm
        subst hiF
        rw [hq] at hlk
        simp only [Option.getD_none, Option.isSome_none] at hlk
        have HM9 : Hid (MapI wa r (seenF l (i + 1))) := by unfold Hid; rw [hSn]; exact HMa.out
        have hpos2 : ¬ x.same > 0 := hpos
        clear hq hSn
        go_wp2_with (at_builtin; refine Stay.go ?_)
        refine Stay.on ?_
        refine append_int rfl (.tmp 44) (.tmp 46) rfl w.heap.size _ _ rfl (HRa.out.alloc _) wa.heap.size 1 (i : Int) rfl ((Blk.new _ 3 #[.int .i64 (i : Int)]).cell 0) (by rw [range_mlen]; omega) (by rw [hszA]; exact Nat.le_trans HBb.out.size (Nat.le_succ _)) ?_
        intro v7 w7 ho7 hg7
        rw [HX.out] at ho7
        have HR7 := Lib.hid ho7
        have HM7 := Lib.hid ((HM9.out.below ((Below.refl _ _).alloc (Nat.le_refl _) _)).grown (HRa.out.alloc _) hg7)
        have HB7 : Hid (Below w.heap.size w w7) := (HBb.out.alloc HBb.out.size _).grown hg7 (by rw [hszA]; exact Nat.le_trans HBb.out.size (Nat.le_succ _)) fun g e => (World.ownsRow.lt HRa.out g e).1
        clear ho7 hg7
        go_wp2_with fail
        go_roundw
        case rel => exact ⟨i + 1, by omega, by go_num, HR7.out, HM7.out, HB7.out⟩
        case measure => simp [intOf]; omega
    · obtain rfl : i = n := by omega
      have hR := HR.out
      rw [← HN.out] at hR
      have HV : Hid (OwnI wr w.heap.size u5 (fsL l)) := hR
      clear hR
      go_wp2_with fail
      refine bodyPost_ret (v := .tuple #[u5, .int .i64 0]) (by simp [results, Tryd.results7, go_sem, *]) rfl ?_
      exact ⟨_, rfl, HV.out, HB.out⟩
theorem lFirsts_any (A : Option Addr) (n c : Nat) (l : List NodeV) (hn : l.length = n) (hc : SlOk A n c) (hsz : ∀ x ∈ l, x.sz) (w : World) (hA : NodesAt w A l) :
    Calls Tryd.prog 7 #[.slice A n c] w fun e w' => ∃ v, e = .returned (.tuple #[v, .int .i64 (treeE l)]) ∧ OwnI w' w.heap.size v (if treeE l = 0 then fsL l else []) ∧ Below w.heap.size w w' := by
  by_cases ht : treeE l = 0
  · rw [if_pos ht, ht]
    have h40 := (sound_path' ht)
    exact lFirsts_ok A n c l hn hc hsz (by omega) w hA ht
  · rw [if_neg ht]
    have H1 := Lib.hid (trCheck_any A n c l hn hc hsz w hA)
    obtain ⟨E, HEE⟩ := hid_name (treeE l)
    rw [HEE.out] at H1 ht ⊢
    have hne : (E == 0) = false := by simpa using ht
    clear hn hc hsz hA ht
    go_enter Tryd.func7, Tryd.ntmps7
    go_wp2_with fail
    refine H1.out.mono ?_; rintro e x1 ⟨rfl, hb⟩
    have HB1 := Lib.hid hb
    clear hb
    go_wp2_with fail
    refine bodyPost_ret (v := .tuple #[.slice none 0 0, .int .i64 E]) (by simp [results, Tryd.results7, go_sem, *]) rfl ?_
    exact ⟨_, rfl, OwnI.nil _ _, HB1.out⟩
theorem OwnI.mono {w : World} {B B' : Nat} {v : Value} {l : List Int} (h : OwnI w B v l) (hB : B' ≤ B) : OwnI w B' v l := own_mono h hB
set_option maxHeartbeats 4000000 in
theorem lNames_ok (A : Option Addr) (n c : Nat) (l : List NodeV) (hn : l.length = n) (hc : SlOk A n c) (hsz : ∀ x ∈ l, x.sz) (h40 : n ≤ 40) (w : World) (hA : NodesAt w A l) (ht : treeE l = 0) :
    Calls Tryd.prog 8 #[.slice A n c] w fun e w' => ∃ v, e = .returned (.tuple #[v, .int .i64 0]) ∧ OwnI w' w.heap.size v (nmL l) ∧ Below w.heap.size w w' := by
  have H1 := Lib.hid (lFirsts_ok A n c l hn hc hsz h40 w hA ht)
  have HP := Lib.hid fun i => ((treeE_zero l).1 ht).2.pos i
  have HN := Lib.hid hn
  obtain ⟨i0, hi, hz0, hz1, hz2⟩ := info_parts info_int
  obtain ⟨M, hmk, hown⟩ := madeI_room w n (by omega) i0 hi hz0 hz1 hz2
  have HK := Lib.hid hmk
  have HOR := Lib.hid hown
  obtain ⟨M0, hmk0, hown0⟩ := madeI_zeros w n (by omega) i0 hi hz0 hz1 hz2
  have HK0 := Lib.hid hmk0
  have HO0 := Lib.hid hown0
  clear hn hc hsz hA ht hmk hown hi hz0 hz1 hz2 hmk0 hown0
  go_enter Tryd.func8, Tryd.ntmps8
  go_wp2_with fail
  refine H1.out.mono ?_; rintro e x1 ⟨v1, rfl, ho, hb⟩
  have HB1 := Lib.hid hb
  obtain ⟨A1, c1, hv1, hN1⟩ := ho.at
  rw [fsL_len, HN.out] at hv1
  subst hv1
  have HF1 := Lib.hid hN1
  have hk1 := HK0.out x1
  have ho1 := HO0.out x1 x1.heap.size (Nat.le_refl _)
  rw [← cntL_zero l n] at ho1
  have hb1 := (Below.refl x1.heap.size x1).alloc (Nat.le_refl _) (.cells M0 3)
  obtain ⟨g, hg⟩ : ∃ g, g = x1.heap.size := ⟨_, rfl⟩
  have HG : Hid (x1.heap.size ≤ g) := by unfold Hid; rw [hg]; exact Nat.le_refl _
  rw [← hg] at hk1
  rw [show (Value.slice (some ⟨x1.heap.size, 0, none⟩) n n) = Value.slice (some ⟨g, 0, none⟩) n n by rw [hg]] at ho1
  generalize x1.alloc (.cells M0 3) = x2 at hk1 ho1 hb1
  have HO1 := Lib.hid ho1
  have HB2 := Lib.hid hb1
  clear ho hb hN1 H1 ho1 hb1 hg HK0 HO0
  go_wp2_with fail
  go_loopw [25] (fun iv wr => ∃ i : Nat, i ≤ n ∧ iv = .int .i64 i ∧ Hid (OwnI wr x1.heap.size (.slice (some ⟨g, 0, none⟩) n n) (cntL l n i)) ∧ Hid (Below x1.heap.size x1 wr)) (fun iv _ => n - (intOf iv).toNat)
  case atStart => exact ⟨0, Nat.zero_le _, rfl, HO1.out, HB2.out⟩
  case round =>
    obtain ⟨i, hi, rfl, HO, HB⟩ := hrel
    by_cases hlt : i < n
    · have i1 : i < l.length := by rw [HN.out]; exact hlt
      obtain ⟨b, o, rfl, e1⟩ := fsL_cell (HF1.out.below HB.out) i i1
      have hF : firstF l i < n := firstF_lt hlt
      obtain ⟨e2, f2⟩ := HO.out.cell (cntL_len l n i).symm (firstF l i) (by rw [cntL_len]; exact hF)
      rw [cntL_at] at e2
      have hm := cntF_le l i (firstF l i)
      have hs := HO.out.set (cntL_len l n i).symm (firstF l i) (((cntF l i (firstF l i) : Nat) : Int) + 1)
      rw [cntL_step] at hs
      have HS := Lib.hid hs
      have HBs := Lib.hid (Below.set1 HB.out HG.out (firstF l i) (.int .i64 (((cntF l i (firstF l i) : Nat) : Int) + 1)))
      have h1 : (i : Int) < (n : Int) := by omega
      have h2 : (0 : Int) ≤ (i : Int) := by omega
      have HCL := Lib.hid (cntL_len l n i)
      clear hs
      generalize firstF l i = F at e1 e2 f2 hF hm HS HBs
      generalize cntF l i F = m at e2 hm HS HBs
      have h3 : (F : Int) < (n : Int) := by omega
      have h4 : (0 : Int) ≤ (F : Int) := by omega
      go_wp2_with fail
      go_roundw
      case rel => exact ⟨i + 1, by omega, by go_num, HS.out, HBs.out⟩
      case measure => simp [intOf]; omega
    · obtain rfl : i = n := by omega
      have hk2 := HK.out wr
      have ho2 := HOR.out wr wr.heap.size (Nat.le_refl _)
      have hb2 := (Below.refl wr.heap.size wr).alloc (Nat.le_refl _) (.cells M 3)
      generalize hv2 : Value.slice (some ⟨wr.heap.size, 0, none⟩) 0 i = v2 at hk2 ho2
      generalize wr.alloc (.cells M 3) = x5 at hk2 ho2 hb2
      have HO5 := Lib.hid ho2
      have HB5 := Lib.hid hb2
      have HFr := Lib.hid (HF1.out.below HB.out)
      clear ho2 hb2 hv2 HK HOR
      go_wp2_with fail
      go_loopw [9, 41] (fun ov kv wz => ∃ k : Nat, k ≤ i ∧ kv = .int .i64 k ∧ Hid (OwnI wz wr.heap.size ov ((List.range k).map fun j => ((namesF l j : Nat) : Int))) ∧ Hid (Below wr.heap.size wr wz)) (fun _ kv _ => i - (intOf kv).toNat)
      case atStart => exact ⟨0, Nat.zero_le _, rfl, HO5.out, HB5.out⟩
      case round =>
        obtain ⟨k, hk, rfl, HR, HZ⟩ := hrel
        rename World => wz
        by_cases hlt2 : k < i
        · have k1 : k < l.length := by rw [HN.out]; exact hlt2
          obtain ⟨b, o, rfl, e1⟩ := fsL_cell (HFr.out.below HZ.out) k k1
          have hF : firstF l k < i := firstF_lt hlt2
          obtain ⟨e2, -⟩ := HO.out.cell (cntL_len l i i).symm (firstF l k) (by rw [cntL_len]; exact hF)
          have hgl := World.block_lt_of_cell? wr _ e2
          have e2 := (HZ.out.cell (p := ⟨g, firstF l k, none⟩) hgl).trans e2
          rw [cntL_at] at e2
          have hm := cntF_le l i (firstF l k)
          have hnm : cntF l i (firstF l k) = namesF l k := by rw [← HN.out]; exact cntF_names HP.out k
          have HX : Hid ((List.range k).map (fun j => ((namesF l j : Nat) : Int)) ++ [((namesF l k : Nat) : Int)] = (List.range (k + 1)).map fun j => ((namesF l j : Nat) : Int)) := (range_snoc _ _).symm
          rw [← hnm] at HX
          generalize cntF l i (firstF l k) = m at e2 hm HX
          generalize firstF l k = F at e1 e2 hF
          have h1 : (k : Int) < (i : Int) := by omega
          have h2 : (0 : Int) ≤ (k : Int) := by omega
          have h3 : (F : Int) < (i : Int) := by omega
          have h4 : (0 : Int) ≤ (F : Int) := by omega
          clear hnm hgl
          go_wp2_with (at_builtin; refine Stay.go ?_)
          refine Stay.on ?_
          refine append_int rfl (.tmp 45) (.tmp 50) rfl wr.heap.size _ _ rfl (HR.out.alloc _) wz.heap.size 1 (m : Int) rfl ((Blk.new _ 3 #[.int .i64 (m : Int)]).cell 0) (by rw [range_mlen]; omega) (by rw [hszA]; exact Nat.le_trans HZ.out.size (Nat.le_succ _)) ?_
          intro v7 w7 ho7 hg7
          rw [HX.out] at ho7
          have HR7 := Lib.hid ho7
          have HB7 : Hid (Below wr.heap.size wr w7) := (HZ.out.alloc HZ.out.size _).grown hg7 (by rw [hszA]; exact Nat.le_trans HZ.out.size (Nat.le_succ _)) fun g e => (World.ownsRow.lt HR.out g e).1
          clear ho7 hg7 e1 e2 HX
          go_wp2_with fail
          go_roundw
          case rel => exact ⟨k + 1, by omega, by go_num, HR7.out, HB7.out⟩
          case measure => simp [intOf]; omega
        · obtain rfl : k = i := by omega
          have hR := HR.out
          rw [← HN.out] at hR
          have HV : Hid (OwnI wz w.heap.size u9 (nmL l)) := OwnI.mono hR (Nat.le_trans HB1.out.size HB.out.size)
          have HB9 := Lib.hid ((HB1.out.trans (HB.out.mono HB1.out.size)).trans (HZ.out.mono (Nat.le_trans HB1.out.size HB.out.size)))
          clear hR
          go_wp2_with fail
          refine bodyPost_ret (v := .tuple #[u9, .int .i64 0]) (by simp [results, Tryd.results8, go_sem, *]) rfl ?_
          exact ⟨_, rfl, HV.out, HB9.out⟩
theorem lNames_any (A : Option Addr) (n c : Nat) (l : List NodeV) (hn : l.length = n) (hc : SlOk A n c) (hsz : ∀ x ∈ l, x.sz) (w : World) (hA : NodesAt w A l) :
    Calls Tryd.prog 8 #[.slice A n c] w fun e w' => ∃ v, e = .returned (.tuple #[v, .int .i64 (treeE l)]) ∧ OwnI w' w.heap.size v (if treeE l = 0 then nmL l else []) ∧ Below w.heap.size w w' := by
  by_cases ht : treeE l = 0
  · rw [if_pos ht, ht]
    have h40 := (sound_path' ht)
    exact lNames_ok A n c l hn hc hsz (by omega) w hA ht
  · rw [if_neg ht]
    have H1 := Lib.hid (lFirsts_any A n c l hn hc hsz w hA)
    rw [if_neg ht] at H1
    obtain ⟨E, HEE⟩ := hid_name (treeE l)
    rw [HEE.out] at H1 ht ⊢
    have hne : (E == 0) = false := by simpa using ht
    clear hn hc hsz hA ht
    go_enter Tryd.func8, Tryd.ntmps8
    go_wp2_with fail
    refine H1.out.mono ?_; rintro e x1 ⟨v, rfl, ho, hb⟩
    have HB1 := Lib.hid hb
    clear ho hb
    go_wp2_with fail
    refine bodyPost_ret (v := .tuple #[.slice none 0 0, .int .i64 E]) (by simp [results, Tryd.results8, go_sem, *]) rfl ?_
    exact ⟨_, rfl, OwnI.nil _ _, HB1.out⟩
set_option maxHeartbeats 4000000 in
theorem lAnew_ok (A : Option Addr) (n c : Nat) (l : List NodeV) (hn : l.length = n) (hc : SlOk A n c) (hsz : ∀ x ∈ l, x.sz) (h40 : n ≤ 40) (w : World) (hA : NodesAt w A l) (ht : treeE l = 0) :
    Calls Tryd.prog 12 #[.slice A n c] w fun e w' => ∃ v xs, e = .returned (.tuple #[v, .int .i64 0]) ∧ xs.map (·.1) = anewF l ∧ OwnN w' w.heap.size v xs ∧ Below w.heap.size w w' := by
  have H1 := Lib.hid (lFirsts_ok A n c l hn hc hsz h40 w hA ht)
  have H2 := Lib.hid fun W (h : Below w.heap.size w W) => lNames_ok A n c l hn hc hsz h40 W (hA.below h) ht
  have H3 := Lib.hid fun W (h : Below w.heap.size w W) => Copy_any A n c l hn (by omega) hsz W (hA.below h)
  have HN := Lib.hid hn
  clear hn hc hsz hA ht
  go_enter Tryd.func12, Tryd.ntmps12
  go_wp2_with fail
  refine H1.out.mono ?_; rintro e x1 ⟨v1, rfl, ho, hb⟩
  have HB1 := Lib.hid hb
  obtain ⟨A1, c1, hv1, hN1⟩ := ho.at
  rw [fsL_len, HN.out] at hv1
  subst hv1
  have HF1 := Lib.hid hN1
  clear ho hb hN1 H1
  go_wp2_with fail
  refine (H2.out _ HB1.out).mono ?_; rintro e x2 ⟨v2, rfl, ho, hb⟩
  have HB2 := Lib.hid (HB1.out.trans (hb.mono HB1.out.size))
  have HF2 := Lib.hid (HF1.out.below hb)
  obtain ⟨A2, c2, hv2, hN2⟩ := ho.at
  rw [nmL_len, HN.out] at hv2
  subst hv2
  have HM2 := Lib.hid hN2
  clear ho hb hN2 H2 HF1 HB1
  go_wp2_with fail
  refine (H3.out _ HB2.out).mono ?_; rintro e x3 ⟨v3, zs, rfl, hz, ho, hb⟩
  obtain ⟨A3, c3, hv3, hs3⟩ := ho.1.form
  have hzl : zs.length = n := by rw [← HN.out, ← hz, List.length_map]
  rw [hzl] at hv3 hs3
  subst hv3
  have HO3 := Lib.hid ho
  have HB3 := Lib.hid hb
  have HZ3 : Hid (zs.map (·.1) = (anewF l).take 0 ++ l.drop 0) := by
    unfold Hid
    rw [hz]; rfl
  clear ho hb hz hzl hs3 H3
  go_wp2_with fail
  go_loopw [29] (fun iv wr => ∃ i : Nat, i ≤ n ∧ iv = .int .i64 i ∧ ∃ ys : List NodP, Hid (OwnN wr x2.heap.size (.slice A3 n c3) ys) ∧ Hid (ys.map (·.1) = (anewF l).take i ++ l.drop i) ∧ Hid (Below x2.heap.size x2 wr)) (fun iv _ => n - (intOf iv).toNat)
  case atStart => exact ⟨0, Nat.zero_le _, rfl, zs, HO3.out, HZ3.out, HB3.out⟩
  case round =>
    obtain ⟨i, hi, rfl, ys, HO, HY, HB⟩ := hrel
    by_cases hlt : i < n
    · have i1 : i < l.length := by rw [HN.out]; exact hlt
      have hyl := anew_len HN.out hi HY.out
      obtain ⟨hy1, hy2⟩ := anew_mix i1 HY.out (by omega)
      obtain ⟨g, cap, hv, hgB, hgl, hcap1, hcap2⟩ := HO.out.1.row (by omega)
      injection hv with hv1 hv2 hv3
      subst hv1 hv3
      clear hv2
      obtain ⟨e0, f0⟩ := HO.out.same_cell hyl.symm i (by omega)
      have HS1 := Lib.hid (HO.out.setSame hyl.symm i (by omega) 0)
      have HBS := Lib.hid (Below.set1 HB.out hgB (i * 12 + 2) (.int .i64 0))
      have h3 : (i : Int) < (n : Int) := by omega
      have h4 : (0 : Int) ≤ (i : Int) := by omega
      obtain ⟨b1, o1, rfl, e1⟩ := fsL_cell (HF2.out.below HBS.out) i i1
      obtain ⟨b2, o2, rfl, e2⟩ := nmL_cell (HM2.out.below HBS.out) i i1
      have hys : (ys.set i ({ ys[i].1 with same := 0 }, ys[i].2)).length = n := by rw [List.length_set]; exact hyl
      have hE3 := HS1.out.same_cell hys.symm i (by omega)
      simp only [List.getElem_set_self] at hE3
      obtain ⟨e3, f3⟩ := hE3
      have HYL := Lib.hid hyl
      have HYS := Lib.hid hys
      by_cases hg : 1 < namesF l i
      · have HY1 : Hid ((ys.set i (anewN l i l[i], ys[i].2)).map (·.1) = (anewF l).take (i + 1) ++ l.drop (i + 1)) := hy2 _
        have HS2 : Hid (OwnN ((wr.setCell ⟨g, i * 12 + 2, none⟩ (.int .i64 0)).setCell ⟨g, i * 12 + 2, none⟩ (.int .i64 ((firstF l i : Nat) + 1))) x2.heap.size (.slice (some ⟨g, 0, none⟩) n c3) (ys.set i (anewN l i l[i], ys[i].2))) := by
          have h1 := HS1.out.setSame hys.symm i (by omega) (((firstF l i : Nat) : Int) + 1)
          simp only [List.getElem_set_self, List.set_set] at h1
          have h2 : anewN l i l[i] = { ys[i].1 with same := ((firstF l i : Nat) : Int) + 1 } := by
            unfold anewN
            rw [if_pos hg, hy1]
          unfold Hid
          rw [h2]
          exact h1
        have HB2 := Lib.hid (Below.set1 HBS.out hgB (i * 12 + 2) (.int .i64 ((firstF l i : Nat) + 1)))
        have hfi : firstF l i ≤ i := (firstF_spec l i).1
        generalize firstF l i = f at e1 HS2 HB2 hfi
        generalize namesF l i = m at e2 hg
        have hm1 : (1 : Int) < (m : Int) := by omega
        generalize ys[i].1.same = z0 at e0
        generalize ys.set i (anewN l i l[i], ys[i].2) = zs1 at HS2 HY1
        clear hy1 hy2 hcap1 hcap2 hgl
        go_wp2_with fail
        go_roundw
        case rel => exact ⟨i + 1, by omega, by go_num, _, HS2.out, HY1.out, HB2.out⟩
        case measure => simp [intOf]; omega
      · have HY1 : Hid ((ys.set i (anewN l i l[i], ys[i].2)).map (·.1) = (anewF l).take (i + 1) ++ l.drop (i + 1)) := hy2 _
        have HS2 : Hid (OwnN (wr.setCell ⟨g, i * 12 + 2, none⟩ (.int .i64 0)) x2.heap.size (.slice (some ⟨g, 0, none⟩) n c3) (ys.set i (anewN l i l[i], ys[i].2))) := by
          have h2 : anewN l i l[i] = { ys[i].1 with same := 0 } := by
            unfold anewN
            rw [if_neg hg, hy1]
          unfold Hid
          rw [h2]
          exact HS1.out
        generalize namesF l i = m at e2 hg
        have hm1 : ¬ (1 : Int) < (m : Int) := by omega
        generalize ys[i].1.same = z0 at e0
        generalize ys.set i (anewN l i l[i], ys[i].2) = zs1 at HS2 HY1
        clear hy1 hy2 hcap1 hcap2 hgl
        go_wp2_with fail
        go_roundw
        case rel => exact ⟨i + 1, by omega, by go_num, _, HS2.out, HY1.out, HBS.out⟩
        case measure => simp [intOf]; omega
    · obtain rfl : i = n := by omega
      have hY := HY.out
      rw [List.take_of_length_le (by rw [anewF_len, HN.out]; exact Nat.le_refl _), List.drop_of_length_le (by rw [HN.out]; exact Nat.le_refl _), List.append_nil] at hY
      have HY9 := Lib.hid hY
      have HO9 := Lib.hid (HO.out.mono HB2.out.size)
      have HB9 := Lib.hid (HB2.out.trans (HB.out.mono HB2.out.size))
      clear hY
      go_wp2_with fail
      refine bodyPost_ret (v := .tuple #[.slice A3 i c3, .int .i64 0]) (by simp [results, Tryd.results12, go_sem, *]) rfl ?_
      exact ⟨_, ys, rfl, HY9.out, HO9.out, HB9.out⟩
theorem lAnew_any (A : Option Addr) (n c : Nat) (l : List NodeV) (hn : l.length = n) (hc : SlOk A n c) (hsz : ∀ x ∈ l, x.sz) (w : World) (hA : NodesAt w A l) :
    Calls Tryd.prog 12 #[.slice A n c] w fun e w' => ∃ v xs, e = .returned (.tuple #[v, .int .i64 (treeE l)]) ∧ xs.map (·.1) = (if treeE l = 0 then anewF l else []) ∧ OwnN w' w.heap.size v xs ∧ Below w.heap.size w w' := by
  by_cases ht : treeE l = 0
  · rw [if_pos ht, ht]
    have h40 := (sound_path' ht)
    exact lAnew_ok A n c l hn hc hsz (by omega) w hA ht
  · rw [if_neg ht]
    have H1 := Lib.hid (lFirsts_any A n c l hn hc hsz w hA)
    rw [if_neg ht] at H1
    obtain ⟨E, HEE⟩ := hid_name (treeE l)
    rw [HEE.out] at H1 ht ⊢
    have hne : (E == 0) = false := by simpa using ht
    clear hn hc hsz hA ht
    go_enter Tryd.func12, Tryd.ntmps12
    go_wp2_with fail
    refine H1.out.mono ?_; rintro e x1 ⟨v, rfl, ho, hb⟩
    have HB1 := Lib.hid hb
    clear ho hb
    go_wp2_with fail
    refine bodyPost_ret (v := .tuple #[.slice none 0 0, .int .i64 E]) (by simp [results, Tryd.results12, go_sem, *]) rfl ?_
    exact ⟨_, [], rfl, rfl, OwnN.nil _ _, HB1.out⟩
end Go.Proofs.YtoplcelimdkjeaaDoor
