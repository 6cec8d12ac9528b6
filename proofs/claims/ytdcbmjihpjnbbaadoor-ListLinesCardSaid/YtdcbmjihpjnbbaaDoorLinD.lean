/- The reference's lines: LinesOf. (Stage 20, ahead.) -/
import Derived.Test.YtdcbmjihpjnbbaaDoorLinC
import Derived.Test.YtdcbmjihpjnbbaaDoorOrdR
import Derived.Test.YtdcbmjihpjnbbaaDoorEntG
import Derived.Test.YtdcbmjihpjnbbaaDoorArcM
set_option linter.unusedVariables false
set_option maxRecDepth 100000
namespace Go.Proofs.YtdcbmjihpjnbbaaDoor
open Go.RowKit
open Go.OpenShut
/-- all members' lines, or none -/
noncomputable def linesO (l : List EntV) : List (List UInt8) := if entsE l = 0 then l.map lineX else []
theorem linesO_len {l : List EntV} : (linesO l).length ≤ 40 := by
  unfold linesO
  split
  · rename_i h; rw [List.length_map]; exact ents_few h
  · exact Nat.zero_le _
set_option maxHeartbeats 4000000 in
theorem rLines_any (A : Option Addr) (n c : Nat) (l : List EntV) (hn : l.length = n) (hc : SlOk A n c) (hsz : ∀ x ∈ l, x.sz) (w : World) (T : Tab w) (hA : EntsAt w A l) :
    Calls Tryd.prog 13 #[.slice A n c] w fun e w' => ∃ v, e = .returned (.tuple #[v, .int .i64 (entsE l)]) ∧ Texts w' w.heap.size v (linesO l) ∧ Below w.heap.size w w' := by
  have H1 := Lib.hid (rEnts_any A n c l hn hc hsz w hA)
  by_cases h0 : entsE l = 0
  · have h40 := ents_few h0
    rw [hn] at h40
    have HG := Lib.hid (ents_each h0)
    have HV : Hid (linesO l = l.map lineX) := if_pos h0
    rw [h0] at H1 ⊢
    have HN := Lib.hid hn
    have HA := Lib.hid hA
    have HSz := Lib.hid hsz
    have HT := Lib.hid T
    clear hn hc hsz hA T h0
    go_enter Tryd.func13, Tryd.ntmps13
    go_wp2_with fail
    refine H1.out.mono ?_; rintro e x1 ⟨rfl, hb⟩
    have HB1 := Lib.hid hb
    clear hb H1
    go_wp2_with fail
    go_loopw [5, 6] (fun ov iv wr => ∃ i : Nat, iv = .int .i64 (i : Int) ∧ i ≤ n ∧ Hid (Texts wr w.heap.size ov ((l.take i).map lineX)) ∧ Hid (Below w.heap.size w wr)) (fun _ iv _ => n - (intOf iv).toNat)
    case atStart => exact ⟨0, rfl, Nat.zero_le _, Texts.nil _ _, HB1.out⟩
    case round =>
      obtain ⟨i, rfl, hi, HX, HW⟩ := hrel
      by_cases hin : i < n
      · have hil : i < l.length := by rw [HN.out]; exact hin
        obtain ⟨b, o, D, cc, e9, c0, c1, c2, ⟨c3, c4, c5, c6, c7, c8, c9x⟩, cB, -, -⟩ := (HA.out.below HW.out).cells i hil
        subst e9
        have HL := Lib.hid (rLine_any (l[i]'hil) D cc (HSz.out _ (List.getElem_mem hil)) wr (HT.out.below HW.out))
        have hg := HG.out _ (List.getElem_mem hil)
        have hlo : lineO (l[i]'hil) = lineX (l[i]'hil) := if_pos hg
        rw [hlo, hg] at HL
        have HNx : Hid ((l.take (i + 1)).map lineX = (l.take i).map lineX ++ [lineX (l[i]'hil)]) := by
          unfold Hid
          rw [List.take_succ_eq_append_getElem hil, List.map_append]; rfl
        have hlen : ((l.take i).map lineX).length ≤ 40 := by rw [List.length_map, List.length_take]; omega
        obtain ⟨p, hp⟩ : ∃ p, lineX (l[i]'hil) = p := ⟨_, rfl⟩
        rw [hp] at HL HNx
        have HY : Hid (∀ (y : EntV) D c, (entC y D c).toArray = #[.string (bs y.path), .int .i64 y.kind, .string (bs y.target), .int .i64 y.md.mode, .int .i64 y.md.uid, .int .i64 y.md.gid, .string (bs y.md.user), .string (bs y.md.group), .int .i64 y.md.second, .int .i64 y.md.nano, .slice D y.data.length c]) := fun _ _ _ => rfl
        rw [HY.out] at HL
        clear hlo hg hp HY
        generalize l[i] = y at *
        go_wp2_with fail
        refine HL.out.mono ?_; rintro e x2 ⟨rfl, hb⟩
        have HX2 := Lib.hid (HX.out.below hb)
        have HW2 := Lib.hid (HW.out.trans (hb.mono HW.out.size))
        clear hb HL c0 c1 c2 c3 c4 c5 c6 c7 c8 c9x cB
        go_wp2_with (at_builtin; refine Stay.go ?_)
        refine Stay.on ?_
        refine append_text rfl (.tmp 28) (.tmp 30) rfl w.heap.size _ _ rfl (HX2.out.alloc _) x2.heap.size p rfl ((Blk.new x2 9 #[.string (bs p)]).cell 0) (by omega) (by first | (rw [hszA]; have := HW2.out.size; omega) | (simp; have := HW2.out.size; omega)) ?_
        intro v7 w7 ho7 hg7
        have HX7 : Hid (Texts w7 w.heap.size v7 ((l.take (i + 1)).map lineX)) := by unfold Hid; rw [HNx.out]; exact ho7
        have HW7 : Hid (Below w.heap.size w w7) := (HW2.out.alloc HW2.out.size _).grown hg7 (by rw [hszA]; have := HW2.out.size; omega) HX2.out.above
        clear ho7 hg7 HX2 HW2 HNx
        go_wp2_with fail
        go_roundw
        case rel => exact ⟨i + 1, by go_num, by omega, HX7.out, HW7.out⟩
        case measure => simp [intOf]; omega
      · obtain rfl : i = n := by omega
        have HX9 : Hid (Texts wr w.heap.size u5 (linesO l)) := by
          have h := HX.out
          rw [List.take_of_length_le (by rw [HN.out]; exact Nat.le_refl _)] at h
          unfold Hid; rw [HV.out]; exact h
        go_wp2_with fail
        refine bodyPost_ret (v := .tuple #[u5, .int .i64 0]) (by simp [results, Tryd.results13, go_sem, *]) rfl ?_
        exact ⟨_, rfl, HX9.out, HW.out⟩
  · have HV : Hid (linesO l = []) := if_neg h0
    rw [HV.out]
    obtain ⟨E, HE⟩ := hid_name (entsE l)
    rw [HE.out] at H1 h0 ⊢
    have hne : (E != 0) = true := by simpa using h0
    clear hn hc hsz hA T h0
    go_enter Tryd.func13, Tryd.ntmps13
    go_wp2_with fail
    refine H1.out.mono ?_; rintro e x1 ⟨rfl, hb⟩
    have HB1 := Lib.hid hb
    clear hb H1
    go_wp2_with fail
    refine bodyPost_ret (v := .tuple #[.slice none 0 0, .int .i64 E]) (by simp [results, Tryd.results13, go_sem, *]) rfl ?_
    exact ⟨_, rfl, Texts.nil _ _, HB1.out⟩
end Go.Proofs.YtdcbmjihpjnbbaaDoor
