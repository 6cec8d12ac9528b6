/- The laws of selections: FilterLess, FilterEach. -/
import Derived.Test.YtilmfnlhpnbngaaGreatDoorFltK
import Derived.Test.YtilmfnlhpnbngaaGreatDoorFltP
import Derived.Deep.RegionHeld3
set_option linter.unusedVariables false
set_option maxRecDepth 100000
namespace Go.Proofs.YtilmfnlhpnbngaaGreatDoor
open Go.RowKit
open Go.OpenShut
def FZ (wz W : World) : Prop := Below wz.heap.size wz W
theorem FZ.drew {wz W : World} (h : FZ wz W) : FZ wz W.drew := Below.drew h
theorem FZ.below {wz W W' : World} (h : FZ wz W) (hb : Below W.heap.size W W') : FZ wz W' := Below.trans h (hb.mono (Below.size h))
set_option maxHeartbeats 16000000 in
theorem FilterLess_walk (A0 : Option Addr) (n0 c0 : Nat) (rs0 : List RawV) (A1 : Option Addr) (n1 c1 : Nat) (rs1 : List RawV) (hn0 : rs0.length = n0) (hm0 : n0 ≤ 140737488355328) (hf0 : ∀ r ∈ rs0, r.wf) (hn1 : rs1.length = n1) (hm1 : n1 ≤ 140737488355328) (hf1 : ∀ r ∈ rs1, r.wf) (w : World) (hr0 : RawsAt w A0 rs0) (hr1 : RawsAt w A1 rs1) :
    Calls Tryz.prog 5 #[.slice A0 n0 c0, .slice A1 n1 c1] w fun e w' => e = .returned (.bool true) ∧ Below w.heap.size w w' := by
  have HD := Lib.hid (drawn_any A0 n0 c0 rs0 hn0 hm0 hf0 20 (by omega) w hr0)
  have HRu := Lib.hid fun W (h : Below w.heap.size w W) => Rules_any 5 (by omega) A1 n1 c1 rs1 hn1 hm1 hf1 W (hr1.below h)
  have hqs := pats_drawn 5 rs1
  have hql : ((rs1.take 5).map ruleT).length ≤ 5 := by rw [List.length_map, List.length_take]; omega
  generalize (rs1.take 5).map ruleT = qs at HRu hqs hql
  have HQ := Lib.hid hqs
  clear hn0 hf0 hn1 hf1 hr0 hr1 hqs
  go_enter Tryz.func5, Tryz.ntmps5
  go_wp2_with fail
  refine HD.out.mono ?_; rintro e w1 ⟨l, T, k, d, rfl, hk, -, hS, hN, hk20, hSo, hsz, hB⟩
  have ht := sound_tree hSo (by omega)
  have htX := sel_tree ht qs
  have hagain := sel_again l qs
  have hlX : (selF l qs).length ≤ 20 := by
    have := List.length_filter_le (fun x : NodeV => allF qs x.path) l
    unfold selF; omega
  have hmX : ∀ x ∈ selF l qs, x ∈ l := fun x hx => (List.mem_filter.1 hx).1
  have HRun := Lib.hid fun (A2 : Option Addr) (n2 c2 : Nat) (X : List NodeV) (hX : treeE X = 0) (hXl : X.length = n2) (hS2 : SlOk A2 n2 c2) (hXs : ∀ x ∈ X, x.sz) (A : Option Addr) (n c : Nat) (hn : qs.length = n) (W : World) (hN2 : NodesAt W A2 X) (hA : RulesAt W A qs) => by
    have h := fRun_any A2 n2 c2 X hXl hS2 hXs A n c qs hn (by omega) (okR_pats qs HQ.out) W hN2 hA
    obtain ⟨e1, e2⟩ := run_pats hX HQ.out (by omega)
    rw [e1, e2] at h
    exact h
  have hfd : ∀ x ∈ selF l qs, ∃ hk : findL l x.path < l.length, l[findL l x.path] = x := fun x hx => findL_mem hSo.rises (hmX x hx)
  have hszX : ∀ x ∈ selF l qs, x.sz := fun x hx => hsz x (hmX x hx)
  have HB1 := Lib.hid hB
  have HN1 := Lib.hid hN
  have HK := Lib.hid hk
  have HT0 := Lib.hid ht
  have HTX := Lib.hid htX
  have HAg := Lib.hid hagain
  have HFd := Lib.hid hfd
  have HSz := Lib.hid hsz
  have HSzX := Lib.hid hszX
  have HS := Lib.hid hS
  clear hB hN hk hS hSo hsz ht htX hagain hmX hfd hszX
  go_wp2_with fail
  refine (HRu.out _ HB1.out).mono ?_; rintro e w2 ⟨v, rfl, hR, hb⟩
  have HC2 := Lib.hid hb
  obtain ⟨AR, cR, rfl, -⟩ := hR.any
  have HRa := Lib.hid hR.at
  obtain ⟨nq, Hnq⟩ := hid_name qs.length
  rw [Hnq.out]
  clear hR hb
  go_wp2_with fail
  refine (HRun.out T k d l HT0.out HK.out HS.out HSz.out AR nq cR Hnq.out w2 (HN1.out.below HC2.out) HRa.out).mono ?_; rintro e w3 ⟨v, xs, rfl, hm, ho, hb⟩
  obtain ⟨Ax, cx, rfl, hSx, hNx⟩ := own_sel ho hm
  obtain ⟨X, HX⟩ := hid_name (selF l qs)
  rw [HX.out] at HTX HAg HFd HSzX hNx hSx hlX ⊢
  obtain ⟨nx, Hnx⟩ := hid_name X.length
  rw [Hnx.out] at hSx hlX ⊢
  have HC3 := Lib.hid (HC2.out.trans (hb.mono HC2.out.size))
  have HNx := Lib.hid hNx
  have HSx := Lib.hid hSx
  have HRa3 := Lib.hid (HRa.out.below hb)
  clear hm ho hb hNx hSx HRa
  go_wp2_with fail
  refine (HRun.out Ax nx cx X HTX.out Hnx.out HSx.out HSzX.out AR nq cR Hnq.out w3 HNx.out HRa3.out).mono ?_; rintro e w4 ⟨v, ys, rfl, hm, ho, hb⟩
  rw [HAg.out] at hm
  obtain ⟨Ay, cy, rfl, -, hNy⟩ := own_sel ho hm
  rw [Hnx.out]
  have HC4 := Lib.hid hb
  have HNy := Lib.hid hNy
  clear hm ho hb hNy HRa3 HRun HAg
  go_wp2_with fail
  refine (small_any _).mono ?_; rintro e w5 ⟨g, rfl, hN5, hb⟩
  have HC5 := Lib.hid hb
  have hone := one_rule w5 false ⟨#[42, 42, 47, 98]⟩
  have ha := (Below.refl w5.heap.size w5).alloc (Nat.le_refl _) (.cells #[.bool false, .string ⟨#[42, 42, 47, 98]⟩] 33)
  have HRs := Lib.hid (fRun_any (some ⟨g, 0, none⟩) 3 3 [smA, smB, smC] rfl ⟨Nat.le_refl _, by decide, fun e => by cases e⟩ sm_sz (some ⟨w5.heap.size, 0, none⟩) 1 1 [(false, [42, 42, 47, 98])] rfl (by omega) (okR_pats _ (by intro q hq; simp at hq; subst hq; decide)) (w5.alloc (.cells #[.bool false, .string ⟨#[42, 42, 47, 98]⟩] 33)) (hN5.below ha) hone)
  obtain ⟨e1, e2⟩ := run_pats (l := [smA, smB, smC]) (qs := [(false, [42, 42, 47, 98])]) sm_tree2 (by intro q hq; simp at hq; subst hq; decide) (by simp)
  rw [e1, e2, sel_b] at HRs
  have HCa := Lib.hid (HC5.out.alloc HC5.out.size (.cells #[.bool false, .string ⟨#[42, 42, 47, 98]⟩] 33))
  clear hN5 hb hone ha e1 e2
  go_wp2_with fail
  refine HRs.out.mono ?_; rintro e w6 ⟨v, os, rfl, hm, ho, hb⟩
  obtain ⟨Ao, co, rfl, -, -⟩ := own_sel ho hm
  have HC6 := Lib.hid (HCa.out.trans (hb.mono HCa.out.size))
  have HNy6 := Lib.hid (HNy.out.below HC6.out)
  have HNx6 := Lib.hid (HNx.out.below (HC4.out.trans (HC6.out.mono HC4.out.size)))
  have HC16 := Lib.hid (HC3.out.trans ((HC4.out.trans (HC6.out.mono HC4.out.size)).mono HC3.out.size))
  have HST := Lib.hid (keepTree_any Ax Ay nx cx nx cy X X Hnx.out Hnx.out (by omega) (by omega) w6 HNx6.out HNy6.out)
  rw [decide_eq_true rfl] at HST
  have HCk := Lib.hid fun W (h : Below w6.heap.size w6 W) => trCheck_any Ax nx cx X Hnx.out HSx.out HSzX.out W (HNx6.out.below h)
  rw [HTX.out] at HCk
  clear hm ho hb HRs HCa HNy HNx HC3 HC4 HC5
  go_wp2_with fail
  refine HST.out.mono ?_; rintro e w7 ⟨rfl, hb⟩
  have HC7 := Lib.hid hb
  clear hb
  go_wp2_with fail
  refine (HCk.out _ HC7.out).mono ?_; rintro e w8 ⟨rfl, hb⟩
  have HC8 := Lib.hid (HC7.out.trans (hb.mono HC7.out.size))
  have HNx8 := Lib.hid (HNx6.out.below HC8.out)
  have HC18 := Lib.hid (HC16.out.trans (HC8.out.mono HC16.out.size))
  have HN8 := Lib.hid (HN1.out.below HC18.out)
  have HBf := Lib.hid (HB1.out.trans (HC18.out.mono HB1.out.size))
  clear hb HST HCk HC7 HC8 HC16 HNx6 HNy6 HN1 HC18
  go_wp2_with fail
  go_loopw [68] (fun iv wr => ∃ j : Nat, j ≤ nx ∧ iv = .int .i64 j ∧ Hid (Below w8.heap.size w8 wr)) (fun iv _ => nx - (intOf iv).toNat)
  case atStart => exact ⟨0, Nat.zero_le _, rfl, Below.refl _ _⟩
  case round =>
    obtain ⟨j, hj, rfl, HV⟩ := hrel
    by_cases hlt : j < nx
    · have hj1 : j < X.length := by rw [Hnx.out]; exact hlt
      obtain ⟨b, o, E, cc, hbo, hb1, hSl, hE, hcl⟩ := (HNx8.out.below HV.out).cells2 j hj1
      subst hbo
      obtain ⟨c0, c1, c2', c3, ⟨c4, c5, c6, c7, c8, c9, cA⟩, cB⟩ := hcl wr (Below.refl _ _)
      obtain ⟨hf1, hf2⟩ := HFd.out _ (List.getElem_mem hj1)
      generalize hy : X[j] = y at *
      obtain ⟨Q, hQ⟩ := hid_name (bs y.path)
      have hf3 := hf1
      rw [HK.out] at hf3
      have hFq : ∀ W, Below w8.heap.size w8 W → Calls Tryz.prog 15 #[.slice T k d, .string (bs y.path)] W fun e w' => e = .returned (.tuple #[.int .i64 (findL l y.path : Nat), .int .i64 0]) ∧ Below W.heap.size W w' := fun W h => by
        have h1 := Find_any T k d l (bs y.path) HK.out (by omega) HSz.out W (HN8.out.below h)
        rw [if_pos (by rw [bs_list]; exact hf3), bs_list] at h1
        exact h1
      rw [hQ.out] at hFq
      rw [hQ.out] at c0
      obtain ⟨f, hf⟩ : ∃ f, f = findL l y.path := ⟨_, rfl⟩
      have hf4 : f < l.length := by rw [hf]; exact hf1
      have hf5 : l[f] = y := by simp only [hf]; exact hf2
      rw [← hf] at hFq hf3
      have HFq := Lib.hid hFq
      clear hFq
      have HE0 := Lib.hid hE
      clear hf hf1 hf2 hy hcl hSl hE hb1
      go_upto_region 10 with fail
      have HBl := Lib.hid (Blk.new wr 41 #[.string Q, .int .i64 y.kind, .int .i64 y.same, .string (bs y.target), .int .i64 y.md.mode, .int .i64 y.md.uid, .int .i64 y.md.gid, .string (bs y.md.user), .string (bs y.md.group), .int .i64 y.md.second, .int .i64 y.md.nano, .slice E y.data.length cc])
      have HBa := Lib.hid (HV.out.alloc HV.out.size (.cells #[.string Q, .int .i64 y.kind, .int .i64 y.same, .string (bs y.target), .int .i64 y.md.mode, .int .i64 y.md.uid, .int .i64 y.md.gid, .string (bs y.md.user), .string (bs y.md.group), .int .i64 y.md.second, .int .i64 y.md.nano, .slice E y.data.length cc] 41))
      have HEa := Lib.hid (HE0.out.below (belowA (Below.refl wr.heap.size wr) (.cells #[.string Q, .int .i64 y.kind, .int .i64 y.same, .string (bs y.target), .int .i64 y.md.mode, .int .i64 y.md.uid, .int .i64 y.md.gid, .string (bs y.md.user), .string (bs y.md.group), .int .i64 y.md.second, .int .i64 y.md.nano, .slice E y.data.length cc] 41)))
      generalize hwa : wr.alloc _ = wa at HBl HBa HEa ⊢
      obtain ⟨gn, hgn⟩ : ∃ gn, gn = wr.heap.size := ⟨_, rfl⟩
      rw [← hgn] at HBl ⊢
      obtain ⟨⟨e0, e1, e2, e3, e4, e5, e6, e7, e8, e9, eA, eB⟩, -⟩ := blk12 HBl.out
      clear hwa hgn c0 c1 c2' c3 c4 c5 c6 c7 c8 c9 cA cB HE0
      go_wp2_with fail
      refine (HFq.out _ HBa.out).mono ?_; rintro e wz ⟨rfl, hb⟩
      have HB5 := Lib.hid (HBa.out.trans (hb.mono HBa.out.size))
      have HBl3 := Lib.hid (HBl.out.below hb HBl.out.lt)
      have HE3 := Lib.hid (HEa.out.below hb)
      have HNz := Lib.hid (HN8.out.below HB5.out)
      clear hb e0 e1 e2 e3 e4 e5 e6 e7 e8 e9 eA eB HFq HBl HEa
      have HBw : Hid (∀ W, FZ wz W → Blk W gn 41 #[.string Q, .int .i64 y.kind, .int .i64 y.same, .string (bs y.target), .int .i64 y.md.mode, .int .i64 y.md.uid, .int .i64 y.md.gid, .string (bs y.md.user), .string (bs y.md.group), .int .i64 y.md.second, .int .i64 y.md.nano, .slice E y.data.length cc]) := fun W h => HBl3.out.below h HBl3.out.lt
      go_upto_region 11 with fail
      go_cut [89] (fun s89 wx => s89 = .bool false ∧ FZ wz wx)
      case first =>
        obtain ⟨b', o', D', cx', hR', -, -, hD', hcl⟩ := HNz.out.cells2 f hf4
        rw [hf5] at hD' hcl
        rw [hQ.out] at hcl
        subst hR'
        have HKs := Lib.hid fun W (h : FZ wz W) => keepSame_any y y D' E cx' cc W (hD'.below h) (HE3.out.below h)
        rw [decide_eq_true rfl] at HKs
        unfold nodC at HKs
        rw [hQ.out] at HKs
        have rA0 := fun W (h : FZ wz W) => (hcl W h).1
        have rA1 := fun W (h : FZ wz W) => (hcl W h).2.1
        have rA2 := fun W (h : FZ wz W) => (hcl W h).2.2.1
        have rA3 := fun W (h : FZ wz W) => (hcl W h).2.2.2.1
        have rA4 := fun W (h : FZ wz W) => (hcl W h).2.2.2.2.1.1
        have rA5 := fun W (h : FZ wz W) => (hcl W h).2.2.2.2.1.2.1
        have rA6 := fun W (h : FZ wz W) => (hcl W h).2.2.2.2.1.2.2.1
        have rA7 := fun W (h : FZ wz W) => (hcl W h).2.2.2.2.1.2.2.2.1
        have rA8 := fun W (h : FZ wz W) => (hcl W h).2.2.2.2.1.2.2.2.2.1
        have rA9 := fun W (h : FZ wz W) => (hcl W h).2.2.2.2.1.2.2.2.2.2.1
        have rA10 := fun W (h : FZ wz W) => (hcl W h).2.2.2.2.1.2.2.2.2.2.2
        have rA11 := fun W (h : FZ wz W) => (hcl W h).2.2.2.2.2
        have rB0 := fun W (h : FZ wz W) => (blk12 (HBw.out W h)).1.1
        have rB1 := fun W (h : FZ wz W) => (blk12 (HBw.out W h)).1.2.1
        have rB2 := fun W (h : FZ wz W) => (blk12 (HBw.out W h)).1.2.2.1
        have rB3 := fun W (h : FZ wz W) => (blk12 (HBw.out W h)).1.2.2.2.1
        have rB4 := fun W (h : FZ wz W) => (blk12 (HBw.out W h)).1.2.2.2.2.1
        have rB5 := fun W (h : FZ wz W) => (blk12 (HBw.out W h)).1.2.2.2.2.2.1
        have rB6 := fun W (h : FZ wz W) => (blk12 (HBw.out W h)).1.2.2.2.2.2.2.1
        have rB7 := fun W (h : FZ wz W) => (blk12 (HBw.out W h)).1.2.2.2.2.2.2.2.1
        have rB8 := fun W (h : FZ wz W) => (blk12 (HBw.out W h)).1.2.2.2.2.2.2.2.2.1
        have rB9 := fun W (h : FZ wz W) => (blk12 (HBw.out W h)).1.2.2.2.2.2.2.2.2.2.1
        have rB10 := fun W (h : FZ wz W) => (blk12 (HBw.out W h)).1.2.2.2.2.2.2.2.2.2.2.1
        have rB11 := fun W (h : FZ wz W) => (blk12 (HBw.out W h)).1.2.2.2.2.2.2.2.2.2.2.2
        have hS0 : FZ wz wz := Below.refl _ _
        clear hcl hD' hf5
        go_region_held3 (fun W => FZ wz W)
          (first
            | (with_reducible assumption)
            | (with_reducible refine FZ.drew ?_; with_reducible assumption)
            | (with_reducible exact FZ.below (by with_reducible assumption) (by with_reducible assumption)))
          (first
            | (go_at_call 16; refine (HKs.out _ (by with_reducible assumption)).mono ?_; rintro e wq ⟨rfl, hbQ⟩))
        all_goals
          go_wp2_with fail
          go_meet
          exact ⟨rfl, FZ.below (FZ.drew hS0) hbQ⟩
      case rest =>
        obtain ⟨rfl, hFS⟩ := hcut
        have HFS := Lib.hid (HB5.out.trans (Below.mono hFS HB5.out.size))
        clear hFS hf3 hf4 hf5
        go_wp2_with fail
        go_roundw
        case rel => exact ⟨j + 1, by omega, by go_num, HFS.out⟩
        case measure => simp [intOf]; omega
    · obtain rfl : j = nx := by omega
      go_wp2_with fail
      go_ret
      exact ⟨rfl, HBf.out.trans (HV.out.mono HBf.out.size)⟩
theorem take_valid {qs : List RuleV} {s : List UInt8} (hq : rulesE qs = 0) (hs : pathE s = 0) : takeE qs s = 0 ∧ takeB qs s = takenF qs s := by
  have e : takeE qs s = 0 := by unfold takeE; rw [if_pos hq, hs]
  exact ⟨e, by unfold takeB; rw [e]; rfl⟩
theorem take_one : takeE [(false, [97])] [97] = 0 ∧ takeB [(false, [97])] [97] = false := by
  have hq : rulesE [(false, [97])] = 0 := rulesE_pats _ (by intro q hq; simp at hq; subst hq; decide) (by simp)
  obtain ⟨e1, e2⟩ := take_valid hq small_path.1
  exact ⟨e1, by rw [e2, taken_a small_path.1]; rfl⟩
set_option maxHeartbeats 16000000 in
theorem FilterEach_walk (A0 : Option Addr) (n0 c0 : Nat) (rs0 : List RawV) (A1 : Option Addr) (n1 c1 : Nat) (rs1 : List RawV) (hn0 : rs0.length = n0) (hm0 : n0 ≤ 140737488355328) (hf0 : ∀ r ∈ rs0, r.wf) (hn1 : rs1.length = n1) (hm1 : n1 ≤ 140737488355328) (hf1 : ∀ r ∈ rs1, r.wf) (w : World) (hr0 : RawsAt w A0 rs0) (hr1 : RawsAt w A1 rs1) :
    Calls Tryz.prog 6 #[.slice A0 n0 c0, .slice A1 n1 c1] w fun e w' => e = .returned (.bool true) ∧ Below w.heap.size w w' := by
  have HD := Lib.hid (drawn_any A0 n0 c0 rs0 hn0 hm0 hf0 20 (by omega) w hr0)
  have HRu := Lib.hid fun W (h : Below w.heap.size w W) => Rules_any 5 (by omega) A1 n1 c1 rs1 hn1 hm1 hf1 W (hr1.below h)
  have hqs := pats_drawn 5 rs1
  have hql : ((rs1.take 5).map ruleT).length ≤ 5 := by rw [List.length_map, List.length_take]; omega
  generalize (rs1.take 5).map ruleT = qs at HRu hqs hql
  have HQ := Lib.hid hqs
  have HQE := Lib.hid (rulesE_pats qs hqs (by omega))
  clear hn0 hf0 hn1 hf1 hr0 hr1 hqs
  go_enter Tryz.func6, Tryz.ntmps6
  go_wp2_with fail
  refine HD.out.mono ?_; rintro e w1 ⟨l, T, k, d, rfl, hk, -, hS, hN, hk20, hSo, hsz, hB⟩
  have ht := sound_tree hSo (by omega)
  obtain ⟨hr1, hr2⟩ := run_pats ht HQ.out (by omega)
  have hlX : (selF l qs).length ≤ 20 := by
    have := List.length_filter_le (fun x : NodeV => allF qs x.path) l
    unfold selF; omega
  have hmX : ∀ x ∈ selF l qs, x ∈ l := fun x hx => (List.mem_filter.1 hx).1
  have HRun := Lib.hid fun (A : Option Addr) (n c : Nat) (hn : qs.length = n) (W : World) (hN2 : NodesAt W T l) (hA : RulesAt W A qs) => by
    have h := fRun_any T k d l hk hS hsz A n c qs hn (by omega) (okR_pats qs HQ.out) W hN2 hA
    rw [hr1, hr2] at h
    exact h
  have hfd : ∀ x ∈ l, decide (findL (selF l qs) x.path < (selF l qs).length) = allF qs x.path := fun x hx => sel_found hSo qs hx
  have hnp : ∀ x ∈ l, pathE x.path = 0 := fun x hx => node_path (hSo.node x hx)
  have hszX : ∀ x ∈ selF l qs, x.sz := fun x hx => hsz x (hmX x hx)
  have HB1 := Lib.hid hB
  have HN1 := Lib.hid hN
  have HK := Lib.hid hk
  have HFd := Lib.hid hfd
  have HNp := Lib.hid hnp
  have HSzX := Lib.hid hszX
  clear hB hN hk hS hSo hsz ht hmX hfd hszX hr1 hr2 hnp
  go_wp2_with fail
  refine (HRu.out _ HB1.out).mono ?_; rintro e w2 ⟨v, rfl, hR, hb⟩
  have HC2 := Lib.hid hb
  obtain ⟨AR, cR, rfl, -⟩ := hR.any
  have HRa := Lib.hid hR.at
  obtain ⟨nq, Hnq⟩ := hid_name qs.length
  rw [Hnq.out]
  clear hR hb
  go_wp2_with fail
  refine (HRun.out AR nq cR Hnq.out w2 (HN1.out.below HC2.out) HRa.out).mono ?_; rintro e w3 ⟨v, xs, rfl, hm, ho, hb⟩
  obtain ⟨Ax, cx, rfl, hSx, hNx⟩ := own_sel ho hm
  obtain ⟨X, HX⟩ := hid_name (selF l qs)
  rw [HX.out] at HFd HSzX hNx hSx hlX ⊢
  obtain ⟨nx, Hnx⟩ := hid_name X.length
  rw [Hnx.out] at hSx hlX HFd ⊢
  have HC3 := Lib.hid (HC2.out.trans (hb.mono HC2.out.size))
  have HNx := Lib.hid hNx
  have HRa3 := Lib.hid (HRa.out.below hb)
  have hone := one_rule w3 false ⟨#[97]⟩
  have ha := (Below.refl w3.heap.size w3).alloc (Nat.le_refl _) (.cells #[.bool false, .string ⟨#[97]⟩] 33)
  have hT1 := fTakes_any (some ⟨w3.heap.size, 0, none⟩) 1 1 [(false, [97])] rfl (by omega) (okR_pats _ (by intro q hq; simp at hq; subst hq; decide)) ⟨#[97]⟩ (by decide) (w3.alloc (.cells #[.bool false, .string ⟨#[97]⟩] 33)) hone
  rw [show (⟨#[97]⟩ : ByteArray).data.toList = [97] from rfl, take_one.1, take_one.2] at hT1
  have HT1 := Lib.hid hT1
  have HCa := Lib.hid ha
  clear hm ho hb hNx hSx HRa hone ha hT1 HRun
  go_wp2_with fail
  refine HT1.out.mono ?_; rintro e w4 ⟨rfl, hb⟩
  have HC4 := Lib.hid (HCa.out.trans (hb.mono HCa.out.size))
  have HNx4 := Lib.hid (HNx.out.below HC4.out)
  have HR4 := Lib.hid (HRa3.out.below HC4.out)
  have HC14 := Lib.hid (HC3.out.trans (HC4.out.mono HC3.out.size))
  have HN4 := Lib.hid (HN1.out.below HC14.out)
  have HBf := Lib.hid (HB1.out.trans (HC14.out.mono HB1.out.size))
  clear hb HT1 HCa HC4 HC3 HC14 HRa3 HNx HN1
  go_wp2_with fail
  go_loopw [46] (fun iv wr => ∃ j : Nat, j ≤ k ∧ iv = .int .i64 j ∧ Hid (Below w4.heap.size w4 wr)) (fun iv _ => k - (intOf iv).toNat)
  case atStart => exact ⟨0, Nat.zero_le _, rfl, Below.refl _ _⟩
  case round =>
    obtain ⟨j, hj, rfl, HV⟩ := hrel
    by_cases hlt : j < k
    · have hj1 : j < l.length := by rw [HK.out]; exact hlt
      obtain ⟨b, o, E, cc, hbo, hb1, hSl, hE, hcl⟩ := (HN4.out.below HV.out).cells2 j hj1
      subst hbo
      obtain ⟨c0, c1, c2', c3, ⟨c4, c5, c6, c7, c8, c9, cA⟩, cB⟩ := hcl wr (Below.refl _ _)
      have hfd := HFd.out _ (List.getElem_mem hj1)
      have hnp := HNp.out _ (List.getElem_mem hj1)
      generalize hy : l[j] = y at *
      have HFd1 := Lib.hid hfd
      have HPy := Lib.hid hnp
      have hpl : y.path.length ≤ 400 := (pathE_split hnp).1.2
      obtain ⟨Q, hQ⟩ := hid_name (bs y.path)
      have hQl : Q.data.toList = y.path := by rw [← hQ.out]; exact bs_list _
      have hQs : Q.size ≤ 400 := by rw [← hQ.out, bs_size]; exact hpl
      have HQl := Lib.hid hQl
      rw [hQ.out] at c0
      clear hy hcl hSl hE hb1 hfd hnp hQl
      go_upto_region 9 with fail
      have HBl := Lib.hid (Blk.new wr 41 #[.string Q, .int .i64 y.kind, .int .i64 y.same, .string (bs y.target), .int .i64 y.md.mode, .int .i64 y.md.uid, .int .i64 y.md.gid, .string (bs y.md.user), .string (bs y.md.group), .int .i64 y.md.second, .int .i64 y.md.nano, .slice E y.data.length cc])
      have HBa := Lib.hid (HV.out.alloc HV.out.size (.cells #[.string Q, .int .i64 y.kind, .int .i64 y.same, .string (bs y.target), .int .i64 y.md.mode, .int .i64 y.md.uid, .int .i64 y.md.gid, .string (bs y.md.user), .string (bs y.md.group), .int .i64 y.md.second, .int .i64 y.md.nano, .slice E y.data.length cc] 41))
      generalize hwa : wr.alloc _ = wa at HBl HBa ⊢
      obtain ⟨gn, hgn⟩ : ∃ gn, gn = wr.heap.size := ⟨_, rfl⟩
      rw [← hgn] at HBl ⊢
      have e0 : wa.cell? ⟨gn, 0, none⟩ = some (.string Q) := (blk12 HBl.out).1.1
      clear hwa hgn c0 c1 c2' c3 c4 c5 c6 c7 c8 c9 cA cB
      go_upto_region 11 with fail
      clear e0
      go_wp2_with fail
      go_loopw [13, 14] (fun bv sv wy => ∃ (want : Bool) (s : ByteArray), bv = .bool want ∧ sv = .string s ∧ s.size ≤ 400 ∧ Hid (allF qs y.path = (want && allF qs s.data.toList)) ∧ Hid (s.data.toList = [] ∨ pathE s.data.toList = 0) ∧ Hid (Below wa.heap.size wa wy)) (fun _ sv _ => strLen sv)
      case atStart => exact ⟨true, Q, rfl, rfl, hQs, (by unfold Hid; rw [HQl.out, Bool.true_and]), .inr (by rw [HQl.out]; exact HPy.out), Below.refl _ _⟩
      case round =>
        obtain ⟨want, s, rfl, rfl, hss, HI, HPs, HY⟩ := hrel
        rename World => wy
        have hsl : s.data.toList.length = s.size := by simp
        by_cases hlt2 : 0 < s.size
        · have hne : s.data.toList ≠ [] := fun h => by rw [h] at hsl; simp at hsl; omega
          have f0 : s.toList.isEmpty = false := toList_ne hne
          have hps : pathE s.data.toList = 0 := by
            rcases HPs.out with h | h
            · exact absurd h hne
            · exact h
          have hst := allF_step qs hne
          have hul := up_less hne
          have hup := pathE_up hps
          have hI := HI.out
          rw [hst] at hI
          obtain ⟨t1, t2⟩ := take_valid (qs := qs) HQE.out hps
          have htk := fTakes_any AR nq cR qs Hnq.out (by have := Hnq.out; omega) (okR_pats qs HQ.out) s (by unfold maxLen; omega) wy (HR4.out.below (HBa.out.trans (HY.out.mono HBa.out.size)))
          rw [t1, t2] at htk
          have HUp := Lib.hid fun W => Up_any s W (by omega)
          obtain ⟨U, HU⟩ := hid_name (⟨(upL s.data.toList).toArray⟩ : ByteArray)
          rw [HU.out] at HUp
          have hUl : U.data.toList = upL s.data.toList := by rw [← HU.out]
          have hUs : U.size < s.size := by
            have h1 : U.data.toList.length = U.size := by simp
            rw [hUl] at h1; omega
          rw [← hUl] at hI hup
          have HUp2 := Lib.hid hup
          obtain ⟨tk, Htk⟩ := hid_name (takenF qs s.data.toList)
          rw [Htk.out] at htk hI
          have HTk := Lib.hid htk
          cases want with
          | true =>
            rw [Bool.true_and] at hI
            have HI2 := Lib.hid hI
            clear hI hst hul hUl hne hsl hps t1 t2 htk hup
            go_wp2_with fail
            refine HTk.out.mono ?_; rintro e w6 ⟨rfl, hb⟩
            have HY6 := Lib.hid (HY.out.trans (hb.mono HY.out.size))
            clear hb
            go_wp2_with fail
            refine (HUp.out _).mono ?_; rintro e w7 ⟨rfl, hb⟩
            have HY7 := Lib.hid (HY6.out.trans (hb.mono HY6.out.size))
            clear hb
            go_wp2_with fail
            go_roundw
            case rel => exact ⟨tk, U, rfl, rfl, by omega, HI2.out, HUp2.out, HY7.out⟩
            case measure => simp only [strLen]; omega
          | false =>
            rw [Bool.false_and] at hI
            have HI2 := Lib.hid hI
            clear hI hst hul hUl hne hsl hps t1 t2 htk hup
            go_wp2_with fail
            refine HTk.out.mono ?_; rintro e w6 ⟨rfl, hb⟩
            have HY6 := Lib.hid (HY.out.trans (hb.mono HY.out.size))
            clear hb
            go_wp2_with fail
            refine (HUp.out _).mono ?_; rintro e w7 ⟨rfl, hb⟩
            have HY7 := Lib.hid (HY6.out.trans (hb.mono HY6.out.size))
            clear hb
            go_wp2_with fail
            go_roundw
            case rel => exact ⟨false, U, rfl, rfl, by omega, (by unfold Hid; rw [HI2.out, Bool.false_and]), HUp2.out, HY7.out⟩
            case measure => simp only [strLen]; omega
        · have hnil : s.data.toList = [] := List.eq_nil_of_length_eq_zero (by omega)
          have f0 : s.toList = [] := toList_nil hnil
          have hI := HI.out
          rw [hnil, allF_nil, Bool.and_true] at hI
          have HB6 := Lib.hid (HBa.out.trans (HY.out.mono HBa.out.size))
          have e0 : wy.cell? ⟨gn, 0, none⟩ = some (.string Q) := (blk12 (HBl.out.below HY.out HBl.out.lt)).1.1
          have hFq := Find_any Ax nx cx X Q Hnx.out (by omega) HSzX.out wy (HNx4.out.below HB6.out)
          rw [HQl.out] at hFq
          have hfd := HFd1.out
          rw [hI] at hfd
          clear hnil hsl hI
          cases want with
          | true =>
            rw [if_pos (of_decide_eq_true hfd)] at hFq
            generalize findL X y.path = f at hFq
            have HFq := Lib.hid hFq
            clear hFq hfd
            go_wp2_with fail
            refine HFq.out.mono ?_; rintro e w8 ⟨rfl, hb⟩
            have HB8 := Lib.hid (HB6.out.trans (hb.mono HB6.out.size))
            clear hb e0
            go_wp2_with fail
            go_roundw
            case rel => exact ⟨j + 1, by omega, by go_num, HB8.out⟩
            case measure => simp [intOf]; omega
          | false =>
            rw [if_neg (of_decide_eq_false hfd)] at hFq
            have HFq := Lib.hid hFq
            clear hFq hfd
            go_wp2_with fail
            refine HFq.out.mono ?_; rintro e w8 ⟨rfl, hb⟩
            have HB8 := Lib.hid (HB6.out.trans (hb.mono HB6.out.size))
            clear hb e0
            go_wp2_with fail
            go_roundw
            case rel => exact ⟨j + 1, by omega, by go_num, HB8.out⟩
            case measure => simp [intOf]; omega
    · obtain rfl : j = k := by omega
      go_wp2_with fail
      go_ret
      exact ⟨rfl, HBf.out.trans (HV.out.mono HBf.out.size)⟩
end Go.Proofs.YtilmfnlhpnbngaaGreatDoor
