/- Package order: the nodes of a directory, names, depth. -/
import Derived.Test.YtmgndhdikleagaaDoorOrdR
import Derived.Test.YtmgndhdikleagaaDoorTrgD
import Derived.Test.YtmgndhdikleagaaDoorTrgE
import Derived.Lib.MinMax
set_option linter.unusedVariables false
set_option maxRecDepth 100000
namespace Go.Proofs.YtmgndhdikleagaaDoor
open Go.RowKit
open Go.OpenShut
theorem kids_step (t : List NodeV) (d : List UInt8) (k : Nat) (hk : k < t.length) : kids (t.take (k + 1)) d = if upL t[k].path = d then kids (t.take k) d ++ [t[k]] else kids (t.take k) d := by
  unfold kids
  rw [List.take_succ_eq_append_getElem hk, List.filter_append]
  by_cases h : upL t[k].path = d <;> simp [h]
theorem kids_len (t : List NodeV) (d : List UInt8) : (kids t d).length ≤ t.length := by unfold kids; exact List.length_filter_le _ _
set_option maxHeartbeats 8000000 in
theorem nodesIn_any (A : Option Addr) (n c : Nat) (l : List NodeV) (s : ByteArray) (hn : l.length = n) (h40 : n ≤ 40) (hsz : ∀ x ∈ l, x.path.length ≤ 400) (w : World) (hA : NodesAt w A l) :
    Calls Tryd.prog 14 #[.slice A n c, .string s] w fun e w' => ∃ v ys, e = .returned v ∧ ys.map (·.1) = kids l s.data.toList ∧ RowN w' w.heap.size v ys ∧ (∀ y ∈ ys, DatOk w' y.2 y.1.data) ∧ Below w.heap.size w w' := by
  have HA := Lib.hid hA
  have HN := Lib.hid hn
  have HSH := Lib.hid hsz
  clear hA hn hsz
  go_enter Tryd.func14, Tryd.ntmps14
  go_wp2_with fail
  go_loopw [5, 10] (fun ov iv wr => ∃ (k : Nat) (xs : List NodP), k ≤ n ∧ iv = .int .i64 k ∧ xs.length ≤ 40 ∧ Hid (RowN wr w.heap.size ov xs) ∧ Hid (xs.map (·.1) = kids (l.take k) s.data.toList) ∧ Hid (∀ y ∈ xs, DatOk w y.2 y.1.data) ∧ Hid (Below w.heap.size w wr)) (fun _ iv _ => n - (intOf iv).toNat)
  case atStart => exact ⟨0, [], Nat.zero_le _, rfl, Nat.zero_le _, RowN.nil _ _, by unfold Hid; rw [List.take_zero]; rfl, fun y hy => by (cases hy), Below.refl _ _⟩
  case round =>
    obtain ⟨k, xs, hk, rfl, hxl, HR, HM, HDT, HB⟩ := hrel
    by_cases hlt : k < n
    · have hk1 : k < l.length := by rw [HN.out]; exact hlt
      obtain ⟨b, o, E, cc, hbo, hb1, hSl, hE, hcl⟩ := HA.out.cells2 k hk1
      subst hbo
      obtain ⟨c0, c1, c2', c3, ⟨c4, c5, c6, c7, c8, c9, cA⟩, cB⟩ := hcl wr HB.out
      have HST := Lib.hid (kids_step l s.data.toList k hk1)
      have hsh := HSH.out _ (List.getElem_mem hk1)
      have hKL := kids_len (l.take (k + 1)) s.data.toList
      rw [List.length_take] at hKL
      generalize hy : l[k] = y at *
      have HYD : Hid (DatOk w (.slice E y.data.length cc) y.data) := ⟨E, cc, rfl, hSl, hE⟩
      have HP := Lib.hid fun W => Up_any (bs y.path) W (by rw [bs_size]; omega)
      simp only [bs_list] at HP
      have hqp : ((⟨(upL y.path).toArray⟩ : ByteArray).toList == s.toList) = decide (upL y.path = s.data.toList) := by
        have := bs_eq (a := upL y.path) (b := s.data.toList)
        rw [bs_of] at this; exact this
      obtain ⟨U, HU⟩ := hid_name (⟨(upL y.path).toArray⟩ : ByteArray)
      rw [HU.out] at HP hqp
      clear hy hcl hSl hE hb1
      go_upto_region 5 with fail
      have HBl := Lib.hid (Blk.new wr 40 #[.string (bs y.path), .int .i64 y.kind, .int .i64 y.same, .string (bs y.target), .int .i64 y.md.mode, .int .i64 y.md.uid, .int .i64 y.md.gid, .string (bs y.md.user), .string (bs y.md.group), .int .i64 y.md.second, .int .i64 y.md.nano, .slice E y.data.length cc])
      have HBa := Lib.hid (belowA HB.out (.cells #[.string (bs y.path), .int .i64 y.kind, .int .i64 y.same, .string (bs y.target), .int .i64 y.md.mode, .int .i64 y.md.uid, .int .i64 y.md.gid, .string (bs y.md.user), .string (bs y.md.group), .int .i64 y.md.second, .int .i64 y.md.nano, .slice E y.data.length cc] 40))
      have HRa := Lib.hid (RowN.alloc HR.out (.cells #[.string (bs y.path), .int .i64 y.kind, .int .i64 y.same, .string (bs y.target), .int .i64 y.md.mode, .int .i64 y.md.uid, .int .i64 y.md.gid, .string (bs y.md.user), .string (bs y.md.group), .int .i64 y.md.second, .int .i64 y.md.nano, .slice E y.data.length cc] 40))
      generalize hwa : wr.alloc _ = wa at HBl HBa HRa ⊢
      obtain ⟨⟨e0, e1, e2, e3, e4, e5, e6, e7, e8, e9, eA, eB⟩, -⟩ := blk12 HBl.out
      clear hwa c0 c1 c2' c3 c4 c5 c6 c7 c8 c9 cA cB
      go_wp2_with fail
      refine (HP.out _).mono ?_; rintro e w6 ⟨rfl, hb⟩
      have HB6 := Lib.hid (HBa.out.trans (hb.mono HBa.out.size))
      have HR6 := Lib.hid (HRa.out.below hb)
      have HBl6 := Lib.hid (HBl.out.below hb HBl.out.lt)
      clear hb e0 e1 e2 e3 e4 e5 e6 e7 e8 e9 eA eB
      by_cases hu : upL y.path = s.data.toList
      · rw [decide_eq_true hu] at hqp
        rw [if_pos hu] at HST
        have hxl2 : xs.length + 1 ≤ 40 := by
          have h1 := congrArg List.length HST.out
          have h2 := congrArg List.length HM.out
          rw [List.length_append, List.length_singleton] at h1
          rw [List.length_map] at h2
          omega
        clear hu
        obtain ⟨⟨e0, e1, e2, e3, e4, e5, e6, e7, e8, e9, eA, eB⟩, -⟩ := blk12 HBl6.out
        go_wp2_with (at_builtin; refine Stay.go ?_)
        refine Stay.on ?_
        refine append_nodes rfl (.tmp 19) (.tmp 21) rfl w.heap.size _ xs rfl (HR6.out.alloc _) (some ⟨w6.heap.size, 0, none⟩) 1 1 [(y, .slice E y.data.length cc)] rfl rfl (cells_new w6 (y, .slice E y.data.length cc)) (by simp [Value.oneCell']) (fun e => by cases e) (by omega) (by simp; have := HB6.out.size; omega) ?_
        intro v7 w7 ho7 hg7
        have HR7 := Lib.hid ho7
        have HB7 : Hid (Below w.heap.size w w7) := (HB6.out.alloc HB6.out.size _).grown hg7 (by rw [hszA]; have := HB6.out.size; omega) HR6.out.above
        have HM7 : Hid ((xs ++ [((y, .slice E y.data.length cc) : NodP)]).map (·.1) = kids (l.take (k + 1)) s.data.toList) := by
          unfold Hid; rw [HST.out, List.map_append, HM.out]; rfl
        have HD7 : Hid (∀ z ∈ xs ++ [((y, .slice E y.data.length cc) : NodP)], DatOk w z.2 z.1.data) := fun z hz => by
          rcases List.mem_append.1 hz with a | a
          · exact HDT.out z a
          · obtain rfl : z = (y, .slice E y.data.length cc) := by simpa using a
            exact HYD.out
        have hl7 : (xs ++ [((y, .slice E y.data.length cc) : NodP)]).length ≤ 40 := by rw [List.length_append, List.length_singleton]; omega
        clear ho7 hg7 e0 e1 e2 e3 e4 e5 e6 e7 e8 e9 eA eB
        go_wp2_with fail
        go_roundw
        case rel => exact ⟨k + 1, _, by omega, by go_num, hl7, HR7, HM7, HD7, HB7⟩
        case measure => simp [intOf]; omega
      · rw [decide_eq_false hu] at hqp
        rw [if_neg hu] at HST
        have h7 := HM.out
        rw [← HST.out] at h7
        have HM7 := Lib.hid h7
        clear hu h7
        go_wp2_with fail
        go_roundw
        case rel => exact ⟨k + 1, xs, by omega, by go_num, hxl, HR6, HM7, HDT, HB6⟩
        case measure => simp [intOf]; omega
    · obtain rfl : k = n := by omega
      have h2 := HM.out
      rw [List.take_of_length_le (by rw [HN.out]; omega)] at h2
      have HMl := Lib.hid h2
      clear h2
      go_wp2_with fail
      go_ret
      exact ⟨_, xs, rfl, HMl.out, HR.out, fun y hy => (HDT.out y hy).below HB.out, HB.out⟩
end Go.Proofs.YtmgndhdikleagaaDoor
