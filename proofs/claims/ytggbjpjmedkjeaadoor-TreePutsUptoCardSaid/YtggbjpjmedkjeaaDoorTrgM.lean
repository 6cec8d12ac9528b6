/- The reference's removing; the laws on tree.Copy, tree.Put and tree.Remove. -/
import Derived.Test.YtggbjpjmedkjeaaDoorTrgL
import Derived.Test.YtggbjpjmedkjeaaDoorTrgJ
set_option linter.unusedVariables false
set_option maxRecDepth 100000
namespace Go.Proofs.YtggbjpjmedkjeaaDoor
open Go.RowKit
open Go.OpenShut
theorem remL_len (t : List NodeV) (s : List UInt8) : (remL t s).length ≤ t.length := (remL_sub t s).length_le
set_option maxHeartbeats 8000000 in
theorem rRemove_any (A : Option Addr) (n c : Nat) (l : List NodeV) (s : ByteArray) (hn : l.length = n) (hc : SlOk A n c) (hsz : ∀ x ∈ l, x.sz) (hs : s.size ≤ maxLen) (w : World) (hA : NodesAt w A l) :
    Calls Tryd.prog 19 #[.slice A n c, .string s] w fun e w' => ∃ v xs, e = .returned (.tuple #[v, .int .i64 (remT l s.data.toList).2]) ∧ xs.map (·.1) = (remT l s.data.toList).1 ∧ OwnN w' w.heap.size v xs ∧ Below w.heap.size w w' := by
  have HA := Lib.hid hA
  have HN := Lib.hid hn
  have HCk := Lib.hid fun W h => rTree_any A n c l hn hc hsz W h
  have HSZ := Lib.hid hsz
  have hle := findL_le l s.data.toList
  rw [hn] at hle
  by_cases h0 : treeE l = 0
  · have h40 : n ≤ 40 := by have := ((treeE_zero l).1 h0).1; omega
    have HFd := Lib.hid fun W h => rFind_any A n c l s.data.toList hn (by omega) W h
    rw [bs_of] at HFd
    by_cases hlt : findL l s.data.toList < n
    · have HV := Lib.hid (remT_ok (s := s.data.toList) h0 (by rw [hn]; omega))
      rw [h0] at HCk
      have HIn := Lib.hid fun (q : List UInt8) (hq : q.length ≤ 140737488351232) W => rIn_any (bs q) s W (by rw [bs_size]; unfold maxLen; omega) hs
      simp only [bs_list] at HIn
      generalize findL l s.data.toList = fi at *
      have hfe2 : ((fi : Int) == (n : Int)) = false := by simp; omega
      have HXS := Lib.hid fun x hx => (hsz x hx).1.1
      clear h0 hA hn hsz hc hle
      go_enter Tryd.func19, Tryd.ntmps19
      go_wp2_with fail
      refine (HCk.out _ HA.out).mono ?_; rintro e w1 ⟨rfl, hb⟩
      have HB1 := Lib.hid hb
      clear hb
      go_wp2_with fail
      refine (HFd.out _ (HA.out.below HB1.out)).mono ?_; rintro e w2 ⟨rfl, rfl⟩
      go_wp2_with fail
      go_loopw [7, 23] (fun ov iv wr => ∃ (k : Nat) (xs : List NodP), k ≤ n ∧ iv = .int .i64 k ∧ Hid (RowN wr w.heap.size ov xs) ∧ Hid (xs.map (·.1) = remL (l.take k) s.data.toList) ∧ Hid (∀ y ∈ xs, DatOk w y.2 y.1.data) ∧ Hid (Below w.heap.size w wr)) (fun _ iv _ => n - (intOf iv).toNat)
      case atStart => exact ⟨0, [], Nat.zero_le _, rfl, RowN.nil _ _, by unfold Hid; rw [List.take_zero]; rfl, fun y hy => by (cases hy), HB1.out⟩
      case round =>
        obtain ⟨k, xs, hk, rfl, HR, HM, HDT, HB⟩ := hrel
        by_cases hlt : k < n
        · have hk1 : k < l.length := by rw [HN.out]; exact hlt
          obtain ⟨b, o, E, cc, rfl, hb1, hSl, hE, hcl⟩ := HA.out.cells2 k hk1
          obtain ⟨c0, c1, c2', c3, ⟨c4, c5, c6, c7, c8, c9, cA⟩, cB⟩ := hcl wr HB.out
          have hlen : xs.length ≤ k := by
            have h2 := congrArg List.length HM.out
            have h3 := remL_len (l.take k) s.data.toList
            rw [List.length_map] at h2
            rw [List.length_take] at h3
            omega
          have HST := Lib.hid (remL_step l s.data.toList k hk1)
          have HO := Lib.hid (HIn.out l[k].path (HXS.out _ (List.getElem_mem hk1)))
          have HYD : Hid (DatOk w (.slice E l[k].data.length cc) l[k].data) := ⟨E, cc, rfl, hSl, hE⟩
          have hqp := bs_eq (a := l[k].path) (b := s.data.toList)
          rw [bs_of] at hqp
          generalize hy : l[k] = y at *
          obtain ⟨Q, hQ⟩ := hid_name (bs y.path)
          rw [hQ.out] at HO c0 hqp
          obtain ⟨r1, hr1⟩ : ∃ r1, r1 = decide (y.path = s.data.toList) := ⟨_, rfl⟩
          obtain ⟨r2, hr2⟩ : ∃ r2, r2 = inB y.path s.data.toList := ⟨_, rfl⟩
          rw [← hr1] at HST hqp
          rw [← hr2] at HST HO
          clear hy hr1 hr2 hcl hSl hE hb1
          go_upto_region 10 with fail
          have HBl := Lib.hid (Blk.new wr 26 #[.string Q, .int .i64 y.kind, .int .i64 y.same, .string (bs y.target), .int .i64 y.md.mode, .int .i64 y.md.uid, .int .i64 y.md.gid, .string (bs y.md.user), .string (bs y.md.group), .int .i64 y.md.second, .int .i64 y.md.nano, .slice E y.data.length cc])
          have HBa := Lib.hid (belowA HB.out (.cells #[.string Q, .int .i64 y.kind, .int .i64 y.same, .string (bs y.target), .int .i64 y.md.mode, .int .i64 y.md.uid, .int .i64 y.md.gid, .string (bs y.md.user), .string (bs y.md.group), .int .i64 y.md.second, .int .i64 y.md.nano, .slice E y.data.length cc] 26))
          have HRa := Lib.hid (HR.out.alloc (.cells #[.string Q, .int .i64 y.kind, .int .i64 y.same, .string (bs y.target), .int .i64 y.md.mode, .int .i64 y.md.uid, .int .i64 y.md.gid, .string (bs y.md.user), .string (bs y.md.group), .int .i64 y.md.second, .int .i64 y.md.nano, .slice E y.data.length cc] 26))
          generalize hwa : wr.alloc _ = wa at HBl HBa HRa ⊢
          obtain ⟨⟨e0, e1, e2, e3, e4, e5, e6, e7, e8, e9, eA, eB⟩, -⟩ := blk12 HBl.out
          clear hwa c0 c1 c2' c3 c4 c5 c6 c7 c8 c9 cA cB
          have h40' : xs.length ≤ 41 := by omega
          cases r1 with
          | true =>
            have hqn : (Q.toList != s.toList) = false := by rw [bne, hqp]; rfl
            have HM2 : Hid (xs.map (·.1) = remL (l.take (k + 1)) s.data.toList) := by
              unfold Hid; rw [HST.out, ← HM.out]; simp
            clear HST HO
            go_wp2_with fail
            go_roundw
            case rel => exact ⟨k + 1, xs, by omega, by go_num, HRa, HM2, HDT, HBa⟩
            case measure => simp [intOf]; omega
          | false =>
            have hqn : (Q.toList != s.toList) = true := by rw [bne, hqp]; rfl
            cases r2 with
            | true =>
              have HM2 : Hid (xs.map (·.1) = remL (l.take (k + 1)) s.data.toList) := by
                unfold Hid; rw [HST.out, ← HM.out]; simp
              clear HST
              go_wp2_with fail
              refine (HO.out _).mono ?_; rintro e w4 ⟨rfl, rfl⟩
              go_wp2_with fail
              go_roundw
              case rel => exact ⟨k + 1, xs, by omega, by go_num, HRa, HM2, HDT, HBa⟩
              case measure => simp [intOf]; omega
            | false =>
              have HM2 : Hid ((xs ++ [((y, .slice E y.data.length cc) : NodP)]).map (·.1) = remL (l.take (k + 1)) s.data.toList) := by
                unfold Hid; rw [HST.out, ← HM.out, List.map_append]; simp
              clear HST
              go_wp2_with fail
              refine (HO.out _).mono ?_; rintro e w4 ⟨rfl, rfl⟩
              go_wp2_with (at_builtin; refine Stay.go ?_)
              refine Stay.on ?_
              refine append_nodes rfl (.tmp 38) (.tmp 40) rfl w.heap.size _ xs rfl (HRa.out.alloc _) (some ⟨wa.heap.size, 0, none⟩) 1 1 [(y, .slice E y.data.length cc)] rfl rfl (by rw [← hQ.out]; exact cells_new wa (y, .slice E y.data.length cc)) (by simp [Value.oneCell']) (fun e => by cases e) (by omega) (by simp; have := HBa.out.size; omega) ?_
              intro v6 w6 ho6 hg6
              have HR6 : Hid (RowN w6 w.heap.size v6 (xs ++ [((y, .slice E y.data.length cc) : NodP)])) := ho6
              have HB6 : Hid (Below w.heap.size w w6) := (HBa.out.alloc HBa.out.size _).grown hg6 (by rw [hszA]; have := HBa.out.size; omega) HRa.out.above
              have HD6 : Hid (∀ z ∈ xs ++ [((y, .slice E y.data.length cc) : NodP)], DatOk w z.2 z.1.data) := fun z hz => by
                rcases List.mem_append.1 hz with a | a
                · exact HDT.out z a
                · obtain rfl : z = (y, .slice E y.data.length cc) := by simpa using a
                  exact HYD.out
              clear ho6 hg6 e0 e1 e2 e3 e4 e5 e6 e7 e8 e9 eA eB
              go_wp2_with fail
              go_roundw
              case rel => exact ⟨k + 1, _, by omega, by go_num, HR6, HM2, HD6, HB6⟩
              case measure => simp [intOf]; omega
        · obtain rfl : k = n := by omega
          have HMl : Hid (xs.map (·.1) = remL l s.data.toList) := by
            have h2 := HM.out
            rw [List.take_of_length_le (by rw [HN.out]; omega)] at h2
            exact h2
          obtain ⟨A3, c3, he3, hs3, hat3⟩ := HR.out.at fun y hy => (HDT.out y hy).below HB.out
          have hlen3 : xs.length = (remL l s.data.toList).length := by rw [← HMl.out, List.length_map]
          have hpl : (remL l s.data.toList).length ≤ 40 := by have := remL_len l s.data.toList; have := HN.out; omega
          rw [HMl.out] at hat3
          rw [hlen3] at hs3 he3
          subst he3
          have HCp2 := Lib.hid fun W h => rCopy_any A3 _ c3 (remL l s.data.toList) rfl (by omega) (fun y hy => HSZ.out y (mem_remL.1 hy).1) W h
          have HA3 := Lib.hid hat3
          obtain ⟨pl, hplv⟩ := hid_name (remL l s.data.toList).length
          rw [hplv.out] at HCp2 hpl
          try rw [hplv.out]
          clear hs3 hat3 hlen3
          go_wp2_with fail
          refine (HCp2.out _ HA3.out).mono ?_; rintro e5 wB ⟨v5, xs5, rfl, hxs5, hO5, hb5⟩
          have HB5 := Lib.hid (HB.out.trans (hb5.mono HB.out.size))
          have HO5 := Lib.hid (hO5.mono HB.out.size)
          have HX5 := Lib.hid hxs5
          clear hb5 hO5 hxs5
          go_wp2_with fail
          go_ret2
          exact ⟨_, xs5, by rw [HV.out]; rfl, by rw [HV.out]; exact HX5.out, HO5.out, HB5.out⟩
    · have HV := Lib.hid (remT_none (s := s.data.toList) h0 (by rw [hn]; omega))
      obtain ⟨fi, hfi⟩ : ∃ fi, fi = findL l s.data.toList := ⟨_, rfl⟩
      rw [← hfi] at HFd hle hlt
      obtain rfl : fi = n := by omega
      rw [h0] at HCk
      clear h0 hA hn hsz hc hle hlt hfi
      go_enter Tryd.func19, Tryd.ntmps19
      go_wp2_with fail
      refine (HCk.out _ HA.out).mono ?_; rintro e w1 ⟨rfl, hb⟩
      have HB1 := Lib.hid hb
      clear hb
      go_wp2_with fail
      refine (HFd.out _ (HA.out.below HB1.out)).mono ?_; rintro e w2 ⟨rfl, rfl⟩
      go_wp2_with fail
      go_ret2
      exact ⟨_, [], by rw [HV.out]; rfl, by rw [HV.out]; rfl, OwnN.nil _ _, HB1.out⟩
  · have HV := Lib.hid (remT_bad (s := s.data.toList) h0)
    have h1 : (treeE l != 0) = true := by simpa using h0
    generalize treeE l = t at *
    clear h0 hA hn hsz hc hle
    go_enter Tryd.func19, Tryd.ntmps19
    go_wp2_with fail
    refine (HCk.out _ HA.out).mono ?_; rintro e w1 ⟨rfl, hb⟩
    have HB1 := Lib.hid hb
    clear hb
    go_wp2_with fail
    go_ret2
    exact ⟨_, [], by rw [HV.out]; rfl, by rw [HV.out]; rfl, OwnN.nil _ _, HB1.out⟩
end Go.Proofs.YtggbjpjmedkjeaaDoor
