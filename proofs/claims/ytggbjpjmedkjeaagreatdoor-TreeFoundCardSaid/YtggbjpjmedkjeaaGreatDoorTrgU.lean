/- The property TreeFound. -/
import Derived.Test.YtggbjpjmedkjeaaGreatDoorKep
import Derived.Deep.RegionHeld3
import Derived.Deep.DeepCutAuto
import Derived.Deep.QuietTactic
import Derived.BigQuiet
set_option linter.unusedVariables false
set_option maxRecDepth 100000
namespace Go.Proofs.YtggbjpjmedkjeaaGreatDoor
open Go.RowKit
open Go.OpenShut
/-- what comes behind a world -/
def FS (wz W : World) : Prop := Below wz.heap.size wz W
theorem FS.drew {wz W : World} (h : FS wz W) : FS wz W.drew := Below.drew h
theorem FS.drewN {wz W : World} (h : FS wz W) (q : Nat) : FS wz (W.drewN q) := below_drewN h q
theorem FS.below {wz W W' : World} (h : FS wz W) (hb : Below W.heap.size W W') : FS wz W' := Below.trans h (hb.mono (Below.size h))
set_option maxHeartbeats 16000000 in
theorem TreeFound_walk (A0 : Option Addr) (n0 c0 : Nat) (rs0 : List RawV) (A1 : Option Addr) (n1 c1 : Nat) (rs1 : List RawV) (hn0 : rs0.length = n0) (hm0 : n0 ≤ 140737488355328) (hf0 : ∀ r ∈ rs0, r.wf) (hn1 : rs1.length = n1) (hm1 : n1 ≤ 140737488355328) (hf1 : ∀ r ∈ rs1, r.wf) (w : World) (hr0 : RawsAt w A0 rs0) (hr1 : RawsAt w A1 rs1) :
    Calls Tryz.prog 4 #[.slice A0 n0 c0, .slice A1 n1 c1] w fun e w' => e = .returned (.bool true) ∧ Below w.heap.size w w' := by
  have HT := Lib.hid (drawn_any A0 n0 c0 rs0 hn0 hm0 hf0 20 (by decide) w hr0)
  have HT1 := Lib.hid fun W h => drawn_any A1 n1 c1 rs1 hn1 hm1 hf1 6 (by decide) W h
  have HRaw := Lib.hid hr1
  clear hn0 hm0 hf0 hr0 hn1 hm1 hf1 hr1
  go_enter Tryz.func4, Tryz.ntmps4
  go_wp2_with fail
  refine HT.out.mono ?_; rintro e wa ⟨l, T, n, d, rfl, hl, -, hs, hat, h20, hsd, hsz, hb⟩
  have HA := Lib.hid hat
  have HL := Lib.hid hl
  have HS := Lib.hid hs
  have HSD := Lib.hid hsd
  have HSZ := Lib.hid hsz
  have HBa := Lib.hid hb
  have hcap := hs.1
  have hmx := hs.2.1
  unfold maxLen at hmx
  clear hat hl hs hsd hsz hb HT
  go_wp2_with fail
  refine (grows_any _).mono ?_; rintro e wb ⟨rfl, hb⟩
  have HB := Lib.hid (HBa.out.trans (hb.mono HBa.out.size))
  have HAb := Lib.hid (HA.out.below hb)
  have HT1c := Lib.hid (HT1.out _ (HRaw.out.below HB.out))
  clear hb HA HBa HT1
  go_wp2_with fail
  refine HT1c.out.mono ?_; rintro e wd ⟨l2, T2, n2, d2, rfl, hl2, -, hs2, hat2, h6, hsd2, hsz2, hb⟩
  have HBd := Lib.hid (HB.out.trans (hb.mono HB.out.size))
  have HAd := Lib.hid (HAb.out.below hb)
  have HA2 := Lib.hid hat2
  have HL2 := Lib.hid hl2
  have HSZ2 := Lib.hid hsz2
  have hcap2 := hs2.1
  have hmx2 := hs2.2.1
  unfold maxLen at hmx2
  clear hb HAb HT1c hat2 hl2 hsz2 hs2 hsd2
  go_wp2_with fail
  go_loopw [23] (fun iv wr => ∃ (j : Nat), j ≤ n2 ∧ iv = .int .i64 j ∧ Hid (Below w.heap.size w wr) ∧ Hid (Below wd.heap.size wd wr)) (fun iv _ => n2 - (intOf iv).toNat)
  case atStart => exact ⟨0, Nat.zero_le _, rfl, HBd.out, Below.refl _ _⟩
  case round =>
    obtain ⟨j, hj, rfl, HBr, HBs⟩ := hrel
    obtain ⟨wo, hwo⟩ : ∃ wo, wo = wr := ⟨_, rfl⟩
    subst hwo
    by_cases hlt : j < n2
    · have hj1 : j < l2.length := by rw [HL2.out]; exact hlt
      obtain ⟨b, o, E, cc, rfl, x0, x1, x2, x3, ⟨x4, x5, x6, x7, x8, x9, xA⟩, xB, hsl, hE⟩ := (HA2.out.below HBs.out).cells j hj1
      have HP := Lib.hid fun W h h' => Put_at HL.out T d HS.out HSZ.out (l2[j]'hj1) E cc (HSZ2.out _ (List.getElem_mem hj1)) hsl W h h'
      generalize hy : l2[j] = y at *
      have HGo := Lib.hid fun h => putT_good (l := l) (x := y) h
      have HEd := Lib.hid hE
      unfold nodC at HP
      obtain ⟨Q, hQ⟩ := hid_name (bs y.path)
      rw [hQ.out] at HP x0
      clear hy hsl hE
      go_upto_region 7 with fail
      have HBl := Lib.hid (Blk.new wo 32 #[.string Q, .int .i64 y.kind, .int .i64 y.same, .string (bs y.target), .int .i64 y.md.mode, .int .i64 y.md.uid, .int .i64 y.md.gid, .string (bs y.md.user), .string (bs y.md.group), .int .i64 y.md.second, .int .i64 y.md.nano, .slice E y.data.length cc])
      have HBx := Lib.hid (belowA (Below.refl wo.heap.size wo) (.cells #[.string Q, .int .i64 y.kind, .int .i64 y.same, .string (bs y.target), .int .i64 y.md.mode, .int .i64 y.md.uid, .int .i64 y.md.gid, .string (bs y.md.user), .string (bs y.md.group), .int .i64 y.md.second, .int .i64 y.md.nano, .slice E y.data.length cc] 32))
      generalize hwa : wo.alloc _ = wx at HBl HBx ⊢
      obtain ⟨⟨e0, e1, e2, e3, e4, e5, e6, e7, e8, e9, eA, eB⟩, -⟩ := blk12 HBl.out
      clear hwa x0 x1 x2 x3 x4 x5 x6 x7 x8 x9 xA xB
      have HB1 := Lib.hid (HBr.out.trans (HBx.out.mono HBr.out.size))
      have HB2 := Lib.hid (HBs.out.trans (HBx.out.mono HBs.out.size))
      have HE1 := Lib.hid (HEd.out.below HBx.out)
      have HPx := Lib.hid (HP.out wx (HAd.out.below HB2.out) HE1.out)
      obtain ⟨pe, hpe⟩ : ∃ pe, pe = (putT l y).2 := ⟨_, rfl⟩
      rw [← hpe] at HPx HGo
      clear HBx HEd HP hpe
      by_cases hz : pe = 0
      · subst hz
        have hgo := HGo.out rfl
        have hg1 := hgo.1
        have hg2 := hgo.2.1
        rw [hg2] at hg1 HPx
        obtain ⟨h40, hsdp⟩ := (treeE_zero (putL l y)).1 hg1
        have HFd := Lib.hid (put_found hsdp.rises)
        have HSP := Lib.hid hsdp
        clear hgo HGo hg1 hg2 hsdp
        generalize putL l y = lp at *
        go_wp2_with fail
        refine HPx.out.mono ?_; rintro e wy ⟨R, k2, r, rfl, hk2, hsr, hatr, hb⟩
        have HB3 := Lib.hid (HB1.out.trans (hb.mono HB1.out.size))
        have HB4 := Lib.hid (HB2.out.trans (hb.mono HB2.out.size))
        have HBl2 := Lib.hid (HBl.out.below hb HBl.out.lt)
        have HE2 := Lib.hid (HE1.out.below hb)
        have HK2 := Lib.hid hk2
        have HR := Lib.hid hatr
        have hcapr := hsr.1
        have hmxr := hsr.2.1
        unfold maxLen at hmxr
        have HF := Lib.hid fun q W h => Find_at hk2 (by omega) (fun x hx => nodE_sz (HSP.out.node x hx)) R r q W h
        clear hb e0 e1 e2 e3 e4 e5 e6 e7 e8 e9 eA eB hk2 hsr hatr HPx HBl HE1
        obtain ⟨⟨e0, e1, e2, e3, e4, e5, e6, e7, e8, e9, eA, eB⟩, -⟩ := blk12 HBl2.out
        obtain ⟨hf1, hf2⟩ := HFd.out.1
        have HFq := Lib.hid (HF.out y.path wy HR.out)
        rw [if_pos (by rw [← HK2.out]; exact hf1), hQ.out] at HFq
        have hf3 := hf1
        rw [HK2.out] at hf3
        obtain ⟨f, hf⟩ : ∃ f, f = findL lp y.path := ⟨_, rfl⟩
        have hf4 : f < lp.length := by rw [hf]; exact hf1
        have hf5 : lp[f] = y := by simp only [hf]; exact hf2
        rw [← hf] at HFq hf3
        clear hf hf1 hf2
        go_wp2_with fail
        refine HFq.out.mono ?_; rintro e wz ⟨rfl, hb⟩
        have HB5 := Lib.hid (HB3.out.trans (hb.mono HB3.out.size))
        have HB6 := Lib.hid (HB4.out.trans (hb.mono HB4.out.size))
        have HBl3 := Lib.hid (HBl2.out.below hb HBl2.out.lt)
        have HE3 := Lib.hid (HE2.out.below hb)
        have HRz := Lib.hid (HR.out.below hb)
        clear hb e0 e1 e2 e3 e4 e5 e6 e7 e8 e9 eA eB HFq HBl2 HE2 HR
        have HBw : Hid (∀ W, FS wz W → Blk W wo.heap.size 32 #[.string Q, .int .i64 y.kind, .int .i64 y.same, .string (bs y.target), .int .i64 y.md.mode, .int .i64 y.md.uid, .int .i64 y.md.gid, .string (bs y.md.user), .string (bs y.md.group), .int .i64 y.md.second, .int .i64 y.md.nano, .slice E y.data.length cc]) := fun W h => HBl3.out.below h HBl3.out.lt
        go_upto_region 10 with fail
        go_cut [52] (fun s52 wx => s52 = .bool false ∧ FS wz wx)
        case first =>
          obtain ⟨b', o', D', cx', hR', -, -, hD', hcl⟩ := HRz.out.cells2 f hf4
          rw [hf5] at hD' hcl
          rw [hQ.out] at hcl
          subst hR'
          have HKs := Lib.hid fun W (h : FS wz W) => keepSame_any y y D' E cx' cc W (hD'.below h) (HE3.out.below h)
          rw [decide_eq_true rfl] at HKs
          unfold nodC at HKs
          rw [hQ.out] at HKs
          have rA0 := fun W (h : FS wz W) => (hcl W h).1
          have rA1 := fun W (h : FS wz W) => (hcl W h).2.1
          have rA2 := fun W (h : FS wz W) => (hcl W h).2.2.1
          have rA3 := fun W (h : FS wz W) => (hcl W h).2.2.2.1
          have rA4 := fun W (h : FS wz W) => (hcl W h).2.2.2.2.1.1
          have rA5 := fun W (h : FS wz W) => (hcl W h).2.2.2.2.1.2.1
          have rA6 := fun W (h : FS wz W) => (hcl W h).2.2.2.2.1.2.2.1
          have rA7 := fun W (h : FS wz W) => (hcl W h).2.2.2.2.1.2.2.2.1
          have rA8 := fun W (h : FS wz W) => (hcl W h).2.2.2.2.1.2.2.2.2.1
          have rA9 := fun W (h : FS wz W) => (hcl W h).2.2.2.2.1.2.2.2.2.2.1
          have rA10 := fun W (h : FS wz W) => (hcl W h).2.2.2.2.1.2.2.2.2.2.2
          have rA11 := fun W (h : FS wz W) => (hcl W h).2.2.2.2.2
          have rB0 := fun W (h : FS wz W) => (blk12 (HBw.out W h)).1.1
          have rB1 := fun W (h : FS wz W) => (blk12 (HBw.out W h)).1.2.1
          have rB2 := fun W (h : FS wz W) => (blk12 (HBw.out W h)).1.2.2.1
          have rB3 := fun W (h : FS wz W) => (blk12 (HBw.out W h)).1.2.2.2.1
          have rB4 := fun W (h : FS wz W) => (blk12 (HBw.out W h)).1.2.2.2.2.1
          have rB5 := fun W (h : FS wz W) => (blk12 (HBw.out W h)).1.2.2.2.2.2.1
          have rB6 := fun W (h : FS wz W) => (blk12 (HBw.out W h)).1.2.2.2.2.2.2.1
          have rB7 := fun W (h : FS wz W) => (blk12 (HBw.out W h)).1.2.2.2.2.2.2.2.1
          have rB8 := fun W (h : FS wz W) => (blk12 (HBw.out W h)).1.2.2.2.2.2.2.2.2.1
          have rB9 := fun W (h : FS wz W) => (blk12 (HBw.out W h)).1.2.2.2.2.2.2.2.2.2.1
          have rB10 := fun W (h : FS wz W) => (blk12 (HBw.out W h)).1.2.2.2.2.2.2.2.2.2.2.1
          have rB11 := fun W (h : FS wz W) => (blk12 (HBw.out W h)).1.2.2.2.2.2.2.2.2.2.2.2
          have hS0 : FS wz wz := Below.refl _ _
          clear hcl hD' hf5
          go_region_held3 (fun W => FS wz W)
            (first
              | (with_reducible assumption)
              | (with_reducible refine FS.drew ?_; with_reducible assumption)
              | (with_reducible exact FS.below (by with_reducible assumption) (by with_reducible assumption)))
            (first
              | (go_at_call 15; refine (HKs.out _ (by with_reducible assumption)).mono ?_; rintro e wq ⟨rfl, hbQ⟩))
          all_goals
            go_wp2_with fail
            go_meet
            exact ⟨rfl, FS.below (FS.drew hS0) hbQ⟩
        case rest =>
          obtain ⟨rfl, hFS⟩ := hcut
          have HFS := Lib.hid hFS
          clear hFS hf3 hf4 hf5
          go_wp2_with fail
          go_loopw [55] (fun iv wr => ∃ (i : Nat), i ≤ n ∧ iv = .int .i64 i ∧ Hid (FS wz wr)) (fun iv _ => n - (intOf iv).toNat)
          case atStart => exact ⟨0, Nat.zero_le _, rfl, HFS.out⟩
          case round =>
            obtain ⟨i, hi, rfl, HV⟩ := hrel
            by_cases hin : i < n
            · have hi1 : i < l.length := by rw [HL.out]; exact hin
              obtain ⟨b2, o2, E2, cc2, rfl, x0, x1, x2, x3, ⟨x4, x5, x6, x7, x8, x9, xA⟩, xB, -, hE2⟩ := (HAd.out.below (HB6.out.trans (HV.out.mono HB6.out.size))).cells i hi1
              have hzf := HFd.out.2 l[i] (List.getElem_mem hi1)
              have hqq := bs_eq (a := l[i].path) (b := y.path)
              rw [hQ.out] at hqq
              generalize hzz : l[i] = z at *
              obtain ⟨Z, hZ⟩ := hid_name (bs z.path)
              rw [hZ.out] at x0 hqq
              have HEz := Lib.hid hE2
              clear hzz hE2
              go_upto_region 15 with fail
              have HZl := Lib.hid (Blk.new wr 32 #[.string Z, .int .i64 z.kind, .int .i64 z.same, .string (bs z.target), .int .i64 z.md.mode, .int .i64 z.md.uid, .int .i64 z.md.gid, .string (bs z.md.user), .string (bs z.md.group), .int .i64 z.md.second, .int .i64 z.md.nano, .slice E2 z.data.length cc2])
              have HVx := Lib.hid (FS.below HV.out (belowA (Below.refl wr.heap.size wr) (.cells #[.string Z, .int .i64 z.kind, .int .i64 z.same, .string (bs z.target), .int .i64 z.md.mode, .int .i64 z.md.uid, .int .i64 z.md.gid, .string (bs z.md.user), .string (bs z.md.group), .int .i64 z.md.second, .int .i64 z.md.nano, .slice E2 z.data.length cc2] 32)))
              have HEx := Lib.hid (HEz.out.below (belowA (Below.refl wr.heap.size wr) (.cells #[.string Z, .int .i64 z.kind, .int .i64 z.same, .string (bs z.target), .int .i64 z.md.mode, .int .i64 z.md.uid, .int .i64 z.md.gid, .string (bs z.md.user), .string (bs z.md.group), .int .i64 z.md.second, .int .i64 z.md.nano, .slice E2 z.data.length cc2] 32)))
              generalize hwv : wr.alloc _ = wu at HZl HVx HEx ⊢
              obtain ⟨⟨e0, e1, e2, e3, e4, e5, e6, e7, e8, e9, eA, eB⟩, -⟩ := blk12 HZl.out
              clear hwv x0 x1 x2 x3 x4 x5 x6 x7 x8 x9 xA xB HEz
              obtain ⟨hk1, hk2⟩ := hzf
              have HFz := Lib.hid (HF.out z.path wu (HRz.out.below HVx.out))
              rw [if_pos (by rw [← HK2.out]; exact hk1), hZ.out] at HFz
              have hk3 := hk1
              rw [HK2.out] at hk3
              obtain ⟨k, hk⟩ : ∃ k, k = findL lp z.path := ⟨_, rfl⟩
              have hk4 : k < lp.length := by rw [hk]; exact hk1
              have hk5 : z.path ≠ y.path → lp[k] = z := fun h => by simp only [hk]; exact hk2 h
              rw [← hk] at HFz hk3
              have HK5 := Lib.hid hk5
              clear hk hk1 hk2 hk5
              go_wp2_with fail
              refine HFz.out.mono ?_; rintro e wf ⟨rfl, hb⟩
              have HVf := Lib.hid (FS.below HVx.out hb)
              have HZf := Lib.hid (HZl.out.below hb HZl.out.lt)
              have HEf := Lib.hid (HEx.out.below hb)
              have HYf := Lib.hid (HBw.out wf HVf.out)
              clear hb e0 e1 e2 e3 e4 e5 e6 e7 e8 e9 eA eB HFz HZl HEx
              go_upto_region 16 with fail
              go_cut [83] (fun s83 wx => s83 = .bool false ∧ FS wf wx)
              case first =>
                by_cases hzy : z.path = y.path
                · rw [decide_eq_true hzy] at hqq
                  have hqn : (Z.toList != Q.toList) = false := by rw [bne, hqq]; rfl
                  obtain ⟨⟨z0, -⟩, -⟩ := blk12 HZf.out
                  obtain ⟨⟨y0, -⟩, -⟩ := blk12 HYf.out
                  clear hzy
                  go_quiet (fail)
                  go_wp2_with fail
                  go_meet
                  exact ⟨rfl, FS.drewN (Below.refl _ _) _⟩
                · rw [decide_eq_false hzy] at hqq
                  have hqn : (Z.toList != Q.toList) = true := by rw [bne, hqq]; rfl
                  obtain ⟨b', o', D', cx', hR', -, -, hD', hcl⟩ := HRz.out.cells2 k hk4
                  rw [HK5.out hzy] at hD' hcl
                  rw [hZ.out] at hcl
                  subst hR'
                  have hcl2 : ∀ W, FS wf W → _ := fun W h => hcl W (FS.below HVf.out h)
                  have HKs := Lib.hid fun W (h : FS wf W) => keepSame_any z z D' E2 cx' cc2 W (hD'.below (FS.below HVf.out h)) (HEf.out.below h)
                  rw [decide_eq_true rfl] at HKs
                  unfold nodC at HKs
                  rw [hZ.out] at HKs
                  have HZw : Hid (∀ W, FS wf W → Blk W wr.heap.size 32 #[.string Z, .int .i64 z.kind, .int .i64 z.same, .string (bs z.target), .int .i64 z.md.mode, .int .i64 z.md.uid, .int .i64 z.md.gid, .string (bs z.md.user), .string (bs z.md.group), .int .i64 z.md.second, .int .i64 z.md.nano, .slice E2 z.data.length cc2]) := fun W h => HZf.out.below h HZf.out.lt
                  have HYw : Hid (∀ W, FS wf W → Blk W wo.heap.size 32 #[.string Q, .int .i64 y.kind, .int .i64 y.same, .string (bs y.target), .int .i64 y.md.mode, .int .i64 y.md.uid, .int .i64 y.md.gid, .string (bs y.md.user), .string (bs y.md.group), .int .i64 y.md.second, .int .i64 y.md.nano, .slice E y.data.length cc]) := fun W h => HYf.out.below h HYf.out.lt
                  have rA0 := fun W (h : FS wf W) => (hcl2 W h).1
                  have rA1 := fun W (h : FS wf W) => (hcl2 W h).2.1
                  have rA2 := fun W (h : FS wf W) => (hcl2 W h).2.2.1
                  have rA3 := fun W (h : FS wf W) => (hcl2 W h).2.2.2.1
                  have rA4 := fun W (h : FS wf W) => (hcl2 W h).2.2.2.2.1.1
                  have rA5 := fun W (h : FS wf W) => (hcl2 W h).2.2.2.2.1.2.1
                  have rA6 := fun W (h : FS wf W) => (hcl2 W h).2.2.2.2.1.2.2.1
                  have rA7 := fun W (h : FS wf W) => (hcl2 W h).2.2.2.2.1.2.2.2.1
                  have rA8 := fun W (h : FS wf W) => (hcl2 W h).2.2.2.2.1.2.2.2.2.1
                  have rA9 := fun W (h : FS wf W) => (hcl2 W h).2.2.2.2.1.2.2.2.2.2.1
                  have rA10 := fun W (h : FS wf W) => (hcl2 W h).2.2.2.2.1.2.2.2.2.2.2
                  have rA11 := fun W (h : FS wf W) => (hcl2 W h).2.2.2.2.2
                  have rB0 := fun W (h : FS wf W) => (blk12 (HZw.out W h)).1.1
                  have rB1 := fun W (h : FS wf W) => (blk12 (HZw.out W h)).1.2.1
                  have rB2 := fun W (h : FS wf W) => (blk12 (HZw.out W h)).1.2.2.1
                  have rB3 := fun W (h : FS wf W) => (blk12 (HZw.out W h)).1.2.2.2.1
                  have rB4 := fun W (h : FS wf W) => (blk12 (HZw.out W h)).1.2.2.2.2.1
                  have rB5 := fun W (h : FS wf W) => (blk12 (HZw.out W h)).1.2.2.2.2.2.1
                  have rB6 := fun W (h : FS wf W) => (blk12 (HZw.out W h)).1.2.2.2.2.2.2.1
                  have rB7 := fun W (h : FS wf W) => (blk12 (HZw.out W h)).1.2.2.2.2.2.2.2.1
                  have rB8 := fun W (h : FS wf W) => (blk12 (HZw.out W h)).1.2.2.2.2.2.2.2.2.1
                  have rB9 := fun W (h : FS wf W) => (blk12 (HZw.out W h)).1.2.2.2.2.2.2.2.2.2.1
                  have rB10 := fun W (h : FS wf W) => (blk12 (HZw.out W h)).1.2.2.2.2.2.2.2.2.2.2.1
                  have rB11 := fun W (h : FS wf W) => (blk12 (HZw.out W h)).1.2.2.2.2.2.2.2.2.2.2.2
                  have rC := fun W (h : FS wf W) => (blk12 (HYw.out W h)).1.1
                  have hS0 : FS wf wf := Below.refl _ _
                  clear hcl hcl2 hD' hzy
                  go_region_held3 (fun W => FS wf W)
                    (first
                      | (with_reducible assumption)
                      | (with_reducible refine FS.drew ?_; with_reducible assumption)
                      | (with_reducible exact FS.below (by with_reducible assumption) (by with_reducible assumption)))
                    (first
                      | (go_at_call 15; refine (HKs.out _ (by with_reducible assumption)).mono ?_; rintro e wq ⟨rfl, hbQ⟩))
                  all_goals
                    go_wp2_with fail
                    go_meet
                    exact ⟨rfl, FS.below (FS.drew hS0) hbQ⟩
              case rest =>
                obtain ⟨rfl, hFS2⟩ := hcut
                have HFS2 := Lib.hid (FS.below HVf.out hFS2)
                clear hFS2 hk3
                go_wp2_with fail
                go_roundw
                case rel => exact ⟨i + 1, by omega, by go_num, HFS2⟩
                case measure => simp [intOf]; omega
            · obtain rfl : i = n := by omega
              go_wp2_with fail
              go_roundw
              case rel => exact ⟨j + 1, by omega, by go_num, HB5.out.trans (HV.out.mono HB5.out.size), HB6.out.trans (HV.out.mono HB6.out.size)⟩
              case measure => simp [intOf]; omega
      · have hz1 : (pe != 0) = true := by simpa using hz
        clear hz HGo
        go_wp2_with fail
        refine HPx.out.mono ?_; rintro e wz ⟨R, k2, r, rfl, hk2, hsr, hatr, hb⟩
        have HB5 := Lib.hid (HB1.out.trans (hb.mono HB1.out.size))
        have HB6 := Lib.hid (HB2.out.trans (hb.mono HB2.out.size))
        clear hb e0 e1 e2 e3 e4 e5 e6 e7 e8 e9 eA eB hk2 hsr hatr
        go_wp2_with fail
        go_roundw
        case rel => exact ⟨j + 1, by omega, by go_num, HB5, HB6⟩
        case measure => simp [intOf]; omega
    · obtain rfl : j = n2 := by omega
      go_wp2_with fail
      go_ret
      exact ⟨rfl, HBr.out⟩
end Go.Proofs.YtggbjpjmedkjeaaGreatDoor
