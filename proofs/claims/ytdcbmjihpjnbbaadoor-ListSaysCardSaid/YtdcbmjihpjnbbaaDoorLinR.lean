/- Package list: All. -/
import Derived.Test.YtdcbmjihpjnbbaaDoorLinP
import Derived.Test.YtdcbmjihpjnbbaaDoorLinD
import Derived.Test.YtdcbmjihpjnbbaaDoorEntR
import Derived.MakeChecks
set_option linter.unusedVariables false
set_option maxRecDepth 100000
namespace Go.Proofs.YtdcbmjihpjnbbaaDoor
open Go.RowKit
open Go.OpenShut
theorem thirds_in {l : List (String × DataW Unit)} {w : World} (h : laidMetH Tryd.prog l w) (hp : (l.all fun x => x.2.handleName?.isNone) = true) (hm : ("creel/meta.thirds", Rows.laid_creel_meta_thirds) ∈ l) : Thirds w := by
  rw [MakeChecks.laidMetH_plain _ _ _ hp] at h
  obtain ⟨r, hr⟩ := mon_mem h hm
  rw [show (Rows.laid_creel_meta_thirds : DataW Unit) = .agg (thirdL.map fun z => .lit (.string z)) by kernel_rfl] at hr
  obtain ⟨ps, ⟨g', t', cs, fuel, p, q, hg', ht', hvar, hd, _, _⟩, _⟩ := hr
  obtain rfl := Option.some.inj (gThirds_is.symm.trans hg')
  obtain rfl := Option.some.inj ((show (Tryd.prog.globals[0]?).map (·.type) = some 60 by kernel_rfl).symm.trans ht')
  unfold Thirds
  have h5 := strs_of_tab Tryd.underlying60 Tryd.underlying9 (by kernel_rfl) (by kernel_rfl) hd
  rw [hvar, show cs = cs.toList.toArray by simp, h5]; rfl
/-- an empty row of texts with room for n -/
theorem madeT_room (n : Nat) (hn : n * 16 ≤ 140737488355328) (i0 : TypeInfo) (hi : Tryd.prog.info? 9 = some i0) (hz0 : i0.zero = some (.string ⟨#[]⟩)) (hz1 : i0.size = 1) (hz2 : i0.bytes = 16) :
    ∃ M : Array Value, (∀ W : World, (Instr.makeSlice 34 (.int .i64 0) (.int .i64 (n : Int))).run Tryd.prog W = .ok (.slice (some ⟨W.heap.size, 0, none⟩) 0 n) (W.alloc (.cells M 9))) ∧
      ∀ (W : World) (B : Nat), B ≤ W.heap.size → Texts (W.alloc (.cells M 9)) B (.slice (some ⟨W.heap.size, 0, none⟩) 0 n) [] := by
  obtain ⟨M, hM⟩ : ∃ M, M = madeCells (Value.string ⟨#[]⟩).cells (((n : Nat) : Int).toNat * i0.size) := ⟨_, rfl⟩
  have hMs : M.size = n := by rw [hM, hz1, Nat.mul_one, Int.toNat_natCast]; simp [madeCells]
  refine ⟨M, fun W => ?_, fun W B hB => ?_⟩
  · have h := run_make (P := Tryd.prog) W 34 9 i0 (.string ⟨#[]⟩) Tryd.underlying34 hi hz0 .i64 .i64 0 (n : Int) (by omega) (by omega) (by rw [hz2]; omega) (by omega)
    rw [← hM] at h
    simpa using h
  · exact ⟨rfl, .inr ⟨W.heap.size, n, M, rfl, hB, heap_alloc_new W _, Nat.zero_le _, by unfold maxLen; omega, by rw [hMs, Nat.mul_one], rfl⟩⟩
set_option maxHeartbeats 4000000 in
theorem lAll_any (A : Option Addr) (n c : Nat) (l : List EntV) (hn : l.length = n) (hc : SlOk A n c) (hsz : ∀ x ∈ l, x.sz) (w : World) (T : Tab w) (Th : Thirds w) (M : Months w) (hA : EntsAt w A l) :
    Calls Tryd.prog 11 #[.slice A n c] w fun e w' => ∃ v, e = .returned (.tuple #[v, .int .i64 (entsE l)]) ∧ Texts w' w.heap.size v (linesO l) ∧ Below w.heap.size w w' := by
  have H1 := Lib.hid (entPPCheck_any A n c l hn hc hsz w hA)
  by_cases h0 : entsE l = 0
  · have h40 := ents_few h0
    rw [hn] at h40
    have HG := Lib.hid (ents_each h0)
    have HV : Hid (linesO l = l.map lineX) := if_pos h0
    rw [h0] at H1 ⊢
    obtain ⟨i0, hi, hz0, hz1, hz2⟩ := info_parts info_str
    obtain ⟨Mm, hmk, hown⟩ := madeT_room n (by omega) i0 hi hz0 hz1 hz2
    have HO := Lib.hid hown
    have HN := Lib.hid hn
    have HA := Lib.hid hA
    have HSz := Lib.hid hsz
    have HT := Lib.hid T
    have HTh := Lib.hid Th
    have HM := Lib.hid M
    clear hn hc hsz hA T Th M h0 hown hi hz0 hz1 hz2
    go_enter Tryd.func11, Tryd.ntmps11
    go_wp2_with fail
    refine H1.out.mono ?_; rintro e x1 ⟨rfl, hb⟩
    have HB1 := Lib.hid hb
    have HX1 := Lib.hid (HO.out x1 w.heap.size hb.size)
    have HW1 := Lib.hid (hb.alloc hb.size (.cells Mm 9))
    clear hb H1 HO
    go_wp2_with fail
    go_loopw [5, 20] (fun ov iv wr => ∃ i : Nat, iv = .int .i64 (i : Int) ∧ i ≤ n ∧ Hid (Texts wr w.heap.size ov ((l.take i).map lineX)) ∧ Hid (Below w.heap.size w wr)) (fun _ iv _ => n - (intOf iv).toNat)
    case atStart => exact ⟨0, rfl, Nat.zero_le _, HX1.out, HW1.out⟩
    case round =>
      obtain ⟨i, rfl, hi, HX, HW⟩ := hrel
      by_cases hin : i < n
      · have hil : i < l.length := by rw [HN.out]; exact hin
        obtain ⟨b, o, D, cc, e9, c0, c1, c2, ⟨c3, c4, c5, c6, c7, c8, c9x⟩, cB, -, -⟩ := (HA.out.below HW.out).cells i hil
        subst e9
        have HL := Lib.hid fun W (h : Below w.heap.size w W) => lLine_any (l[i]'hil) D cc (HSz.out _ (List.getElem_mem hil)) W (HT.out.below h) (HTh.out.below h) (HM.out.below h)
        have hg := HG.out _ (List.getElem_mem hil)
        have hlo : lineO (l[i]'hil) = lineX (l[i]'hil) := if_pos hg
        rw [hlo, hg] at HL
        have HNx : Hid ((l.take (i + 1)).map lineX = (l.take i).map lineX ++ [lineX (l[i]'hil)]) := by
          unfold Hid
          rw [List.take_succ_eq_append_getElem hil, List.map_append]; rfl
        have hlen : ((l.take i).map lineX).length ≤ 40 := by rw [List.length_map, List.length_take]; omega
        obtain ⟨p, hp⟩ : ∃ p, lineX (l[i]'hil) = p := ⟨_, rfl⟩
        rw [hp] at HL HNx
        have HY : Hid (∀ (y : EntV) D c, (entC y D c).toArray = #[.string (bs y.path), .int .i64 y.kind, .string (bs y.target), .int .i64 y.md.mode, .int .i64 y.md.uid, .int .i64 y.md.gid, .string (bs y.md.user), .string (bs y.md.group), .int .i64 y.md.second, .int .i64 y.md.nano, .slice D y.data.length c]) := fun _ _ _ => rfl
        rw [HY.out] at HL
        clear hlo hg hp HY
        generalize l[i] = y at *
        obtain ⟨dl, HDL⟩ := hid_name y.data.length
        rw [HDL.out] at HL cB
        have HBx := Lib.hid (HW.out.alloc HW.out.size (.cells #[.string (bs y.path), .int .i64 y.kind, .string (bs y.target), .int .i64 y.md.mode, .int .i64 y.md.uid, .int .i64 y.md.gid, .string (bs y.md.user), .string (bs y.md.group), .int .i64 y.md.second, .int .i64 y.md.nano, .slice D dl cc] 30))
        have HXx := Lib.hid (HX.out.below ((Below.refl wr.heap.size wr).alloc (Nat.le_refl _) (.cells #[.string (bs y.path), .int .i64 y.kind, .string (bs y.target), .int .i64 y.md.mode, .int .i64 y.md.uid, .int .i64 y.md.gid, .string (bs y.md.user), .string (bs y.md.group), .int .i64 y.md.second, .int .i64 y.md.nano, .slice D dl cc] 30)))
        have HEx := Lib.hid (Blk.new wr 30 #[.string (bs y.path), .int .i64 y.kind, .string (bs y.target), .int .i64 y.md.mode, .int .i64 y.md.uid, .int .i64 y.md.gid, .string (bs y.md.user), .string (bs y.md.group), .int .i64 y.md.second, .int .i64 y.md.nano, .slice D dl cc])
        go_upto_region 8 with fail
        clear c0 c1 c2 c3 c4 c5 c6 c7 c8 c9x cB
        generalize wr.alloc (.cells #[.string (bs y.path), .int .i64 y.kind, .string (bs y.target), .int .i64 y.md.mode, .int .i64 y.md.uid, .int .i64 y.md.gid, .string (bs y.md.user), .string (bs y.md.group), .int .i64 y.md.second, .int .i64 y.md.nano, .slice D dl cc] 30) = x3 at HBx HEx HXx ⊢
        obtain ⟨⟨c0, c1, c2, c3, c4, c5, c6, c7, c8, c9, cA⟩, -⟩ := blk11 HEx.out
        go_wp2_with fail
        refine (HL.out _ HBx.out).mono ?_; rintro e x2 ⟨rfl, hb⟩
        have HX2 := Lib.hid (HXx.out.below hb)
        have HW2 := Lib.hid (HBx.out.trans (hb.mono HBx.out.size))
        clear hb HL c0 c1 c2 c3 c4 c5 c6 c7 c8 c9 cA HBx HXx HEx
        go_wp2_with (at_builtin; refine Stay.go ?_)
        refine Stay.on ?_
        refine append_text rfl (.tmp 29) (.tmp 31) rfl w.heap.size _ _ rfl (HX2.out.alloc _) x2.heap.size p rfl ((Blk.new x2 9 #[.string (bs p)]).cell 0) (by omega) (by first | (rw [hszA]; have := HW2.out.size; omega) | (simp; have := HW2.out.size; omega)) ?_
        intro v7 w7 ho7 hg7
        have HX7 : Hid (Texts w7 w.heap.size v7 ((l.take (i + 1)).map lineX)) := by unfold Hid; rw [HNx.out]; exact ho7
        have HW7 : Hid (Below w.heap.size w w7) := (HW2.out.alloc HW2.out.size _).grown hg7 (by rw [hszA]; have := HW2.out.size; omega) HX2.out.above
        clear ho7 hg7 HX2 HW2 HNx
        go_wp2_with fail
        go_roundw
        case rel => exact ⟨i + 1, by go_num, by omega, HX7.out, HW7.out⟩
        case measure => simp [intOf]; omega
      · obtain rfl : i = n := by omega
        have HX9 : Hid (Texts wr w.heap.size u5 (linesO l)) := by
          have h := HX.out
          rw [List.take_of_length_le (by rw [HN.out]; exact Nat.le_refl _)] at h
          unfold Hid; rw [HV.out]; exact h
        go_wp2_with fail
        refine bodyPost_ret (v := .tuple #[u5, .int .i64 0]) (by simp [results, Tryd.results11, go_sem, *]) rfl ?_
        exact ⟨_, rfl, HX9.out, HW.out⟩
  · have HV : Hid (linesO l = []) := if_neg h0
    rw [HV.out]
    obtain ⟨E, HE⟩ := hid_name (entsE l)
    rw [HE.out] at H1 h0 ⊢
    have hne : (E != 0) = true := by simpa using h0
    clear hn hc hsz hA T Th M h0
    go_enter Tryd.func11, Tryd.ntmps11
    go_wp2_with fail
    refine H1.out.mono ?_; rintro e x1 ⟨rfl, hb⟩
    have HB1 := Lib.hid hb
    clear hb H1
    go_wp2_with fail
    refine bodyPost_ret (v := .tuple #[.slice none 0 0, .int .i64 E]) (by simp [results, Tryd.results11, go_sem, *]) rfl ?_
    exact ⟨_, rfl, Texts.nil _ _, HB1.out⟩
end Go.Proofs.YtdcbmjihpjnbbaaDoor
