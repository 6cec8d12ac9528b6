/- Contracts of filter.hasUp, filter.Run. -/
import Derived.Test.YtoikpnjnljdpaaaGreatDoorFlb
import Derived.Test.YtoikpnjnljdpaaaGreatDoorFltP
import Derived.Test.YtoikpnjnljdpaaaGreatDoorTrgD
import Derived.Deep.RegionWith
set_option linter.unusedVariables false
set_option maxRecDepth 100000
namespace Go.Proofs.YtoikpnjnljdpaaaGreatDoor
open Go.RowKit
open Go.OpenShut
theorem hasUp_any (A : Option Addr) (n c : Nat) (l : List NodeV) (s : ByteArray) (hs : s.size ≤ 1000) (hn : l.length = n) (hm : n ≤ 140737488355328) (hsz : ∀ x ∈ l, x.sz) (w : World) (hA : NodesAt w A l) :
    Calls Tryz.prog 40 #[.slice A n c, .string s] w fun e w' => e = .returned (.bool (decide (upL s.data.toList = []) || decide (findL l (upL s.data.toList) < n))) ∧ Below w.heap.size w w' := by
  have HU := Lib.hid fun W => Up_any s W (by omega)
  have HF := Lib.hid fun (U : ByteArray) W (h : Below w.heap.size w W) => Find_any A n c l U hn hm hsz W (hA.below h)
  clear hn hsz hA
  obtain ⟨U, hU⟩ := hid_name (⟨(upL s.data.toList).toArray⟩ : ByteArray)
  rw [hU.out] at HU
  have hUl : upL s.data.toList = U.data.toList := by rw [← hU.out]
  rw [hUl]
  have HF1 := Lib.hid (HF.out U)
  clear HF
  by_cases h0 : U.data.toList = []
  · rw [decide_eq_true h0, Bool.true_or]
    have f0 : U.toList = [] := toList_nil h0
    clear HF1 hUl h0
    go_enter Tryz.func40, Tryz.ntmps40
    go_wp2_with fail
    refine (HU.out _).mono ?_; rintro e w1 ⟨rfl, hb⟩
    have HB1 := Lib.hid hb
    clear hb
    go_wp2_with fail
    go_ret
    exact ⟨rfl, HB1.out⟩
  · rw [decide_eq_false h0, Bool.false_or]
    have f0 : U.toList.isEmpty = false := toList_ne h0
    obtain ⟨k, hk⟩ : ∃ k, k = findL l U.data.toList := ⟨_, rfl⟩
    rw [← hk] at HF1 ⊢
    clear hUl h0 hk
    by_cases hlt : k < n
    · rw [if_pos hlt] at HF1
      rw [decide_eq_true hlt]
      clear hlt
      go_enter Tryz.func40, Tryz.ntmps40
      go_wp2_with fail
      refine (HU.out _).mono ?_; rintro e w1 ⟨rfl, hb⟩
      have HB1 := Lib.hid hb
      clear hb
      go_wp2_with fail
      refine (HF1.out _ HB1.out).mono ?_; rintro e w2 ⟨rfl, hb⟩
      have HB2 := Lib.hid (HB1.out.trans (hb.mono HB1.out.size))
      clear hb
      go_wp2_with fail
      go_ret
      exact ⟨rfl, HB2.out⟩
    · rw [if_neg hlt] at HF1
      rw [decide_eq_false hlt]
      clear hlt
      go_enter Tryz.func40, Tryz.ntmps40
      go_wp2_with fail
      refine (HU.out _).mono ?_; rintro e w1 ⟨rfl, hb⟩
      have HB1 := Lib.hid hb
      clear hb
      go_wp2_with fail
      refine (HF1.out _ HB1.out).mono ?_; rintro e w2 ⟨rfl, hb⟩
      have HB2 := Lib.hid (HB1.out.trans (hb.mono HB1.out.size))
      clear hb
      go_wp2_with fail
      go_ret
      exact ⟨rfl, HB2.out⟩
set_option maxHeartbeats 8000000 in
theorem fRun_ok (A : Option Addr) (n c : Nat) (l : List NodeV) (hn : l.length = n) (hc : SlOk A n c) (hsz : ∀ x ∈ l, x.sz) (h40 : n ≤ 40) (hp : ∀ x ∈ l, x.path.length ≤ 1000) (A1 : Option Addr) (n1 c1 : Nat) (qs : List RuleV) (hn1 : qs.length = n1) (hn12 : n1 ≤ 140737488355328) (hok : okR qs) (w : World) (hA : NodesAt w A l) (hA1 : RulesAt w A1 qs) (ht : treeE l = 0) (hr : rulesE qs = 0) :
    Calls Tryz.prog 17 #[.slice A n c, .slice A1 n1 c1] w fun e w' => ∃ v xs, e = .returned (.tuple #[v, .int .i64 0]) ∧ xs.map (·.1) = l.filter (fun x => allF qs x.path) ∧ OwnN w' w.heap.size v xs ∧ Below w.heap.size w w' := by
  have H1 := Lib.hid fun W (h : Below w.heap.size w W) => trCheck_any A n c l hn hc hsz W (hA.below h)
  rw [ht] at H1
  have H2 := Lib.hid fun W (h : Below w.heap.size w W) => fCheck_any A1 n1 c1 qs hn1 hn12 hok W (hA1.below h)
  rw [hr] at H2
  have H3 := Lib.hid fun (s : ByteArray) (hs : s.size ≤ 1000) W (h : Below w.heap.size w W) => isTaken_any A1 n1 c1 qs hn1 hn12 hok s (by unfold maxLen; omega) W (hA1.below h)
  have HS := Lib.hid ((treeE_zero l).1 ht).2
  have HSz := Lib.hid hsz
  have HFin : Hid (∀ (v : Value) (xs : List NodP) (W : World), RowN W w.heap.size v xs → xs.map (·.1) = l.filter (fun x => allF qs x.path) → (∀ y ∈ xs, DatOk w y.2 y.1.data) → Below w.heap.size w W → Calls Tryz.prog 33 #[v] W fun e w' => ∃ v xs, e = .returned v ∧ xs.map (·.1) = l.filter (fun x => allF qs x.path) ∧ OwnN w' w.heap.size v xs ∧ Below w.heap.size w w') := fun v xs W hR hmap hdy hB => by
    obtain ⟨A9, c9, rfl, hs9, hN9⟩ := hR.at fun y hy => (hdy y hy).below hB
    have hxl : xs.length ≤ 40 := by
      have h1 := congrArg List.length hmap
      rw [List.length_map] at h1
      have := List.length_filter_le (fun x : NodeV => allF qs x.path) l
      omega
    refine (Copy_any A9 xs.length c9 (xs.map (·.1)) (by rw [List.length_map]) (by omega) (fun x hx9 => by
      rw [hmap] at hx9
      exact hsz x (List.mem_filter.1 hx9).1) W hN9).mono ?_
    rintro e w' ⟨v, zs, rfl, h1, h2, h3⟩
    exact ⟨v, zs, rfl, by rw [h1, hmap], h2.mono hB.size, hB.trans (h3.mono hB.size)⟩
  have HUp : Hid (∀ (v : Value) (xs : List NodP) (W : World) (k : Nat) (hk : k < l.length) (s : ByteArray), s.size ≤ 1000 → s.data.toList = l[k].path → RowN W w.heap.size v xs → xs.map (·.1) = (l.take k).filter (fun x => allF qs x.path) → (∀ y ∈ xs, DatOk w y.2 y.1.data) → Below w.heap.size w W →
      Calls Tryz.prog 40 #[v, .string s] W fun e w' => e = .returned (.bool (allF qs (upL l[k].path))) ∧ Below W.heap.size W w') := fun v xs W k hk s hs1 hs2 hR hmap hdy hB => by
    obtain ⟨A9, c9, rfl, hs9, hN9⟩ := hR.at fun y hy => (hdy y hy).below hB
    have hlen : xs.length = ((l.take k).filter fun x => allF qs x.path).length := by rw [← hmap, List.length_map]
    have hle : ((l.take k).filter fun x => allF qs x.path).length ≤ l.length := Nat.le_trans (List.length_filter_le _ _) (by rw [List.length_take]; omega)
    refine (hasUp_any A9 xs.length c9 (xs.map (·.1)) s hs1 (by rw [List.length_map]) (by omega) (fun x hx9 => by
      rw [hmap] at hx9
      exact hsz x (List.mem_of_mem_take (List.mem_filter.1 hx9).1)) W hN9).mono ?_
    rintro e w' ⟨rfl, h3⟩
    refine ⟨?_, h3⟩
    rw [hs2, hmap]
    by_cases hu : upL l[k].path = []
    · rw [decide_eq_true hu, Bool.true_or, hu, allF_nil]
    · rw [kept_up HS.out qs k hk hu _ hlen.symm, decide_eq_false hu, Bool.false_or]
  have HN := Lib.hid hn
  have HA := Lib.hid hA
  have HP := Lib.hid hp
  clear hn hc hsz hp hn1 hok hA hA1 ht hr
  go_enter Tryz.func17, Tryz.ntmps17
  go_wp2_with fail
  refine (H1.out _ (Below.refl _ _)).mono ?_; rintro e x1 ⟨rfl, hb⟩
  have HB1 := Lib.hid hb
  clear hb
  go_wp2_with fail
  refine (H2.out _ HB1.out).mono ?_; rintro e x2 ⟨rfl, hb⟩
  have HB2 := Lib.hid (HB1.out.trans (hb.mono HB1.out.size))
  clear hb HB1
  go_wp2_with fail
  go_loopw [8, 23] (fun ov iv wr => ∃ (k : Nat) (xs : List NodP), k ≤ n ∧ iv = .int .i64 k ∧ xs.length ≤ k ∧ Hid (RowN wr w.heap.size ov xs) ∧ Hid (xs.map (·.1) = (l.take k).filter fun x => allF qs x.path) ∧ Hid (∀ y ∈ xs, DatOk w y.2 y.1.data) ∧ Hid (Below w.heap.size w wr)) (fun _ iv _ => n - (intOf iv).toNat)
  case atStart => exact ⟨0, [], Nat.zero_le _, rfl, Nat.zero_le _, RowN.nil _ _, (by unfold Hid; rw [List.take_zero]; rfl), (fun y hy => by cases hy), HB2.out⟩
  case round =>
    obtain ⟨k, xs, hk, rfl, hxl, HR, HM, HDT, HB⟩ := hrel
    by_cases hlt : k < n
    · have hk1 : k < l.length := by rw [HN.out]; exact hlt
      obtain ⟨b, o, E, cc, hbo, hb1, hSl, hE, hcl⟩ := HA.out.cells2 k hk1
      subst hbo
      obtain ⟨c0, c1, c2', c3, ⟨c4, c5, c6, c7, c8, c9, cA⟩, cB⟩ := hcl wr HB.out
      have hfs := filter_snoc (fun x : NodeV => allF qs x.path) l k hk1
      have hpl := HP.out _ (List.getElem_mem hk1)
      have hU2 := fun W s h1 h2 h3 h4 => HUp.out u8 xs W k hk1 s h1 h2 h3 HM.out HDT.out h4
      have hne : l[k].path ≠ [] := fun h => by
        have h1 := node_path (HS.out.node _ (List.getElem_mem hk1))
        rw [h] at h1
        exact absurd h1 (by decide +kernel)
      have hst := allF_step qs hne
      generalize hy : l[k] = y at *
      have HFs := Lib.hid hfs
      have HST := Lib.hid hst
      have HU2 := Lib.hid hU2
      have HYD : Hid (DatOk w (.slice E y.data.length cc) y.data) := ⟨E, cc, rfl, hSl, hE⟩
      clear hy hcl hSl hE hb1 hfs hU2 hst hne
      go_upto_region 11 with fail
      have HBl := Lib.hid (Blk.new wr 51 #[.string (bs y.path), .int .i64 y.kind, .int .i64 y.same, .string (bs y.target), .int .i64 y.md.mode, .int .i64 y.md.uid, .int .i64 y.md.gid, .string (bs y.md.user), .string (bs y.md.group), .int .i64 y.md.second, .int .i64 y.md.nano, .slice E y.data.length cc])
      have HBa := Lib.hid (belowA HB.out (.cells #[.string (bs y.path), .int .i64 y.kind, .int .i64 y.same, .string (bs y.target), .int .i64 y.md.mode, .int .i64 y.md.uid, .int .i64 y.md.gid, .string (bs y.md.user), .string (bs y.md.group), .int .i64 y.md.second, .int .i64 y.md.nano, .slice E y.data.length cc] 51))
      have HRa := Lib.hid (RowN.alloc HR.out (.cells #[.string (bs y.path), .int .i64 y.kind, .int .i64 y.same, .string (bs y.target), .int .i64 y.md.mode, .int .i64 y.md.uid, .int .i64 y.md.gid, .string (bs y.md.user), .string (bs y.md.group), .int .i64 y.md.second, .int .i64 y.md.nano, .slice E y.data.length cc] 51))
      generalize hwa : wr.alloc _ = wa at HBl HBa HRa ⊢
      obtain ⟨g, hg⟩ : ∃ g, g = wr.heap.size := ⟨_, rfl⟩
      rw [← hg] at HBl ⊢
      have hps : (bs y.path).size ≤ 1000 := by rw [bs_size]; exact hpl
      have HU3 := Lib.hid fun W (h : Below wa.heap.size wa W) => HU2.out W (bs y.path) hps (by rw [bs_list]) (HRa.out.below h) (HBa.out.trans (h.mono HBa.out.size))
      have HT3 := Lib.hid fun W (h : Below wa.heap.size wa W) => H3.out (bs y.path) hps W (HBa.out.trans (h.mono HBa.out.size))
      rw [bs_list] at HT3
      have hd0 : ∀ W, Below wa.heap.size wa W → W.cell? ⟨g, 0, none⟩ = some (.string (bs y.path)) := fun W h => (HBl.out.below h HBl.out.lt).cell 0
      have HD0 := Lib.hid hd0
      obtain ⟨Y, HY⟩ := hid_name (bs y.path)
      obtain ⟨q, hq⟩ : ∃ q, q = allF qs y.path := ⟨_, rfl⟩
      rw [← hq] at HST HFs
      obtain ⟨u, hu⟩ : ∃ u, u = allF qs (upL y.path) := ⟨_, rfl⟩
      rw [← hu] at HST HU3
      obtain ⟨tk, htk⟩ : ∃ tk, tk = takenF qs y.path := ⟨_, rfl⟩
      rw [← htk] at HST HT3
      rw [HY.out] at HD0 HU3 HT3
      clear hwa hg c0 c1 c2' c3 c4 c5 c6 c7 c8 c9 cA cB hd0 hq hu htk hps
      have d0 := HD0.out wa (Below.refl _ _)
      cases u with
      | false =>
        have hq : q = false := by have := HST.out; rw [Bool.and_false] at this; exact this
        subst hq
        have hfs := HFs.out
        rw [if_neg (by decide), List.append_nil] at hfs
        have HM7 : Hid (xs.map (·.1) = (l.take (k + 1)).filter fun x => allF qs x.path) := by unfold Hid; rw [hfs, HM.out]
        clear HST HFs HT3 hfs
        go_wp2_with fail
        refine (HU3.out _ (Below.refl _ _)).mono ?_; rintro e w6 ⟨rfl, hb6⟩
        have HB6 := Lib.hid (HBa.out.trans (hb6.mono HBa.out.size))
        have HR6 := Lib.hid (HRa.out.below hb6)
        clear hb6 d0
        go_wp2_with fail
        go_roundw
        case rel => exact ⟨k + 1, xs, by omega, by go_num, by omega, HR6.out, HM7.out, HDT.out, HB6.out⟩
        case measure => simp [intOf]; omega
      | true =>
        have hq : q = tk := by have := HST.out; rw [Bool.and_true] at this; exact this
        subst hq
        cases q with
        | false =>
          have hfs := HFs.out
          rw [if_neg (by decide), List.append_nil] at hfs
          have HM7 : Hid (xs.map (·.1) = (l.take (k + 1)).filter fun x => allF qs x.path) := by unfold Hid; rw [hfs, HM.out]
          clear HST HFs hfs
          go_wp2_with fail
          refine (HU3.out _ (Below.refl _ _)).mono ?_; rintro e w6 ⟨rfl, hb6⟩
          have HBx := Lib.hid hb6
          have d1 := HD0.out w6 hb6
          clear hb6 d0
          go_wp2_with fail
          refine (HT3.out _ HBx.out).mono ?_; rintro e w7 ⟨rfl, hb7⟩
          have HBy := Lib.hid (HBx.out.trans (hb7.mono HBx.out.size))
          have HB6 := Lib.hid (HBa.out.trans (HBy.out.mono HBa.out.size))
          have HR6 := Lib.hid (HRa.out.below HBy.out)
          clear hb7 d1
          go_wp2_with fail
          go_roundw
          case rel => exact ⟨k + 1, xs, by omega, by go_num, by omega, HR6.out, HM7.out, HDT.out, HB6.out⟩
          case measure => simp [intOf]; omega
        | true =>
          have hfs := HFs.out
          rw [if_pos rfl] at hfs
          have HST := Lib.hid hfs
          clear HFs hfs
          go_wp2_with fail
          refine (HU3.out _ (Below.refl _ _)).mono ?_; rintro e w6 ⟨rfl, hb6⟩
          have HBx := Lib.hid hb6
          have d1 := HD0.out w6 hb6
          clear hb6 d0
          go_wp2_with fail
          refine (HT3.out _ HBx.out).mono ?_; rintro e w7 ⟨rfl, hb7⟩
          have HBy := Lib.hid (HBx.out.trans (hb7.mono HBx.out.size))
          have HB6 := Lib.hid (HBa.out.trans (HBy.out.mono HBa.out.size))
          have HR6 := Lib.hid (HRa.out.below HBy.out)
          have HBl6 := Lib.hid (HBl.out.below HBy.out HBl.out.lt)
          clear hb7 d1
          obtain ⟨⟨e0, e1, e2, e3, e4, e5, e6, e7, e8, e9, eA, eB⟩, -⟩ := blk12 HBl6.out
          go_wp2_with (at_builtin; refine Stay.go ?_)
          refine Stay.on ?_
          refine append_nodes rfl (.tmp 37) (.tmp 39) rfl w.heap.size _ xs rfl (HR6.out.alloc _) (some ⟨w7.heap.size, 0, none⟩) 1 1 [(y, .slice E y.data.length cc)] rfl rfl (cells_new w7 (y, .slice E y.data.length cc)) (by simp [Value.oneCell']) (fun e => by cases e) (by omega) (by simp; have := HB6.out.size; omega) ?_
          intro v8 w8 ho7 hg7
          have HR7 := Lib.hid ho7
          have HB7 : Hid (Below w.heap.size w w8) := (HB6.out.alloc HB6.out.size _).grown hg7 (by rw [hszA]; have := HB6.out.size; omega) HR6.out.above
          have HM7 : Hid ((xs ++ [((y, .slice E y.data.length cc) : NodP)]).map (·.1) = (l.take (k + 1)).filter fun x => allF qs x.path) := by
            unfold Hid; rw [HST.out, List.map_append, HM.out]; rfl
          have HD7 : Hid (∀ z ∈ xs ++ [((y, .slice E y.data.length cc) : NodP)], DatOk w z.2 z.1.data) := fun z hz => by
            rcases List.mem_append.1 hz with a | a
            · exact HDT.out z a
            · obtain rfl : z = (y, .slice E y.data.length cc) := by simpa using a
              exact HYD.out
          have hl7 : (xs ++ [((y, .slice E y.data.length cc) : NodP)]).length ≤ k + 1 := by rw [List.length_append, List.length_singleton]; omega
          clear ho7 hg7 e0 e1 e2 e3 e4 e5 e6 e7 e8 e9 eA eB
          go_wp2_with fail
          go_roundw
          case rel => exact ⟨k + 1, _, by omega, by go_num, hl7, HR7.out, HM7.out, HD7.out, HB7.out⟩
          case measure => simp [intOf]; omega
    · obtain rfl : k = n := by omega
      have hm9 := HM.out
      rw [List.take_of_length_le (by rw [HN.out]; omega)] at hm9
      have HC := Lib.hid (HFin.out _ xs _ HR.out hm9 HDT.out HB.out)
      clear hm9
      go_wp2_with fail
      refine HC.out.mono ?_; rintro e w9 ⟨v, xs, rfl, h1, h2, h3⟩
      have HV := Lib.hid (And.intro h1 (And.intro h2 h3))
      clear h1 h2 h3
      go_wp2_with fail
      refine bodyPost_ret (v := .tuple #[v, .int .i64 0]) (by simp [results, Tryz.results17, go_sem, *]) rfl ?_
      exact ⟨v, xs, rfl, HV.out.1, HV.out.2.1, HV.out.2.2⟩
theorem fRun_any (A : Option Addr) (n c : Nat) (l : List NodeV) (hn : l.length = n) (hc : SlOk A n c) (hsz : ∀ x ∈ l, x.sz) (A1 : Option Addr) (n1 c1 : Nat) (qs : List RuleV) (hn1 : qs.length = n1) (hn12 : n1 ≤ 140737488355328) (hok : okR qs) (w : World) (hA : NodesAt w A l) (hA1 : RulesAt w A1 qs) :
    Calls Tryz.prog 17 #[.slice A n c, .slice A1 n1 c1] w fun e w' => ∃ v xs, e = .returned (.tuple #[v, .int .i64 (runE l qs)]) ∧ xs.map (·.1) = runL l qs ∧ OwnN w' w.heap.size v xs ∧ Below w.heap.size w w' := by
  have H1 := Lib.hid fun W (h : Below w.heap.size w W) => trCheck_any A n c l hn hc hsz W (hA.below h)
  have H2 := Lib.hid fun W (h : Below w.heap.size w W) => fCheck_any A1 n1 c1 qs hn1 hn12 hok W (hA1.below h)
  by_cases ht : treeE l = 0
  · by_cases hr : rulesE qs = 0
    · have hE : runE l qs = 0 := by unfold runE; rw [if_pos ht, hr]
      rw [hE, show runL l qs = l.filter (fun x => allF qs x.path) from if_pos hE]
      obtain ⟨s1, s2⟩ := sound_path ht
      exact fRun_ok A n c l hn hc hsz (by omega) (fun x hx => by have := (s2 x hx).2; omega) A1 n1 c1 qs hn1 hn12 hok w hA hA1 ht hr
    · have hE : runE l qs = rulesE qs := by unfold runE; rw [if_pos ht]
      rw [hE, show runL l qs = [] from if_neg (by rw [hE]; exact hr)]
      rw [ht] at H1
      obtain ⟨E, HEE⟩ := hid_name (rulesE qs)
      rw [HEE.out] at H2 hr ⊢
      have hne : (E == 0) = false := by simpa using hr
      clear hn hc hsz hn1 hok hA hA1 ht hr hE
      go_enter Tryz.func17, Tryz.ntmps17
      go_wp2_with fail
      refine (H1.out _ (Below.refl _ _)).mono ?_; rintro e x1 ⟨rfl, hb⟩
      have HB1 := Lib.hid hb
      clear hb
      go_wp2_with fail
      refine (H2.out _ HB1.out).mono ?_; rintro e x2 ⟨rfl, hb⟩
      have HB2 := Lib.hid (HB1.out.trans (hb.mono HB1.out.size))
      clear hb HB1
      go_wp2_with fail
      refine bodyPost_ret (v := .tuple #[.slice none 0 0, .int .i64 E]) (by simp [results, Tryz.results17, go_sem, *]) rfl ?_
      exact ⟨_, [], rfl, rfl, OwnN.nil _ _, HB2.out⟩
  · have hE : runE l qs = treeE l := by unfold runE; rw [if_neg ht]
    rw [hE, show runL l qs = [] from if_neg (by rw [hE]; exact ht)]
    obtain ⟨E, HEE⟩ := hid_name (treeE l)
    rw [HEE.out] at H1 ht ⊢
    have hne : (E == 0) = false := by simpa using ht
    clear hn hc hsz hn1 hok hA hA1 ht hE
    go_enter Tryz.func17, Tryz.ntmps17
    go_wp2_with fail
    refine (H1.out _ (Below.refl _ _)).mono ?_; rintro e x1 ⟨rfl, hb⟩
    have HB1 := Lib.hid hb
    clear hb
    go_wp2_with fail
    refine bodyPost_ret (v := .tuple #[.slice none 0 0, .int .i64 E]) (by simp [results, Tryz.results17, go_sem, *]) rfl ?_
    exact ⟨_, [], rfl, rfl, OwnN.nil _ _, HB1.out⟩
end Go.Proofs.YtoikpnjnljdpaaaGreatDoor
