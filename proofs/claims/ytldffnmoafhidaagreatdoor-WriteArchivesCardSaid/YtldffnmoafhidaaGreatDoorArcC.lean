/- The reference's places in archives; the law WriteArchives. -/
import Derived.Test.YtldffnmoafhidaaGreatDoorAra
import Derived.Test.YtldffnmoafhidaaGreatDoorLaid
set_option linter.unusedVariables false
set_option maxRecDepth 100000
namespace Go.Proofs.YtldffnmoafhidaaGreatDoor
open Go.RowKit
open Go.OpenShut
theorem elem_ents : Tryz.prog.underlying 47 = some (.slice (Tryz.prog.elem 47)) := by kernel_rfl
theorem size_ent : ∀ W, (sizeOf (Tryz.prog.elem 47)).run Tryz.prog W = .ok 11 W := by
  intro W
  have e : Tryz.prog.elem 47 = 26 := by kernel_rfl
  rw [e]; exact Tryz.sizeOf26 W
/-- the first k members -/
theorem eslice_to (W : World) (A : Option Addr) (n c k : Nat) (h : k ≤ c) : (Instr.slice 47 (.slice A n c) none (some (.int .i64 (k : Int))) none).run Tryz.prog W = .ok (.slice A k c) W := by
  rw [run_slice_h W 47 A n c elem_ents .i64 (k : Int) (by omega) (by omega), size_ent]
  cases A with
  | none => simp [Result.andThen, sliced]
  | some ad => simp [Result.andThen, sliced, Addr.add]
theorem row_one (W : World) (z : Int) (B : Nat) (hB : B ≤ W.heap.size) : OwnI (W.alloc (.cells #[.int .i64 z] 3)) B (.slice (some ⟨W.heap.size, 0, none⟩) 1 1) [z] :=
  World.ownsRow_lit (base := B) (e := 3) (size := 1) W #[.int .i64 z] 1 hB (by decide) rfl
set_option maxHeartbeats 4000000 in
theorem rPlac_any (A : Option Addr) (n c : Nat) (l : List EntV) (hn : l.length = n) (hc : SlOk A n c) (hsz : ∀ x ∈ l, x.sz) (w : World) (T : Tab w) (hA : EntsAt w A l) :
    Calls Tryz.prog 20 #[.slice A n c] w fun e w' => ∃ v, e = .returned (.tuple #[v, .int .i64 (entsE l)]) ∧ OwnI w' w.heap.size v (plcA l) ∧ Below w.heap.size w w' := by
  have HC := Lib.hid (rEnts_any A n c l hn hc hsz w hA)
  by_cases h0 : entsE l = 0
  · have h40 := ents_few h0
    have HF := Lib.hid fun k => ents_front h0 k
    have HL := Lib.hid (plcA_ok h0)
    have HBd := Lib.hid fun k => arc_bd h0 k
    rw [h0] at HC ⊢
    have HN := Lib.hid hn
    have HA := Lib.hid hA
    have HSZ := Lib.hid hsz
    have HSO := Lib.hid hc
    have h41 : n ≤ 40 := by omega
    have hcap := hc.1
    have hmx := hc.2.1
    unfold maxLen at hmx
    clear hn hA hsz hc h0 h40
    go_enter Tryz.func20, Tryz.ntmps20
    go_wp2_with fail
    refine HC.out.mono ?_; rintro e x1 ⟨rfl, hb1⟩
    have HO1 := Lib.hid (row_one x1 0 w.heap.size hb1.size)
    rw [← plcN_one l] at HO1
    have HB1 := Lib.hid (hb1.alloc hb1.size (.cells #[.int .i64 0] 3))
    clear hb1 HC
    go_wp2_with fail
    go_loopw [5, 6] (fun lv iv wr => ∃ i : Nat, i ≤ n ∧ iv = .int .i64 ((i : Int) + 1) ∧ Hid (OwnI wr w.heap.size lv (plcN l (i + 1))) ∧ Hid (Below w.heap.size w wr)) (fun _ iv _ => n + 1 - (intOf iv).toNat)
    case atStart => exact ⟨0, Nat.zero_le _, rfl, HO1.out, HB1.out⟩
    case round =>
      obtain ⟨i, hi, rfl, HO, HB⟩ := hrel
      obtain ⟨k, hk⟩ : ∃ k, k = i + 1 := ⟨_, rfl⟩
      have hki : ((i : Int) + 1) = (k : Int) := by omega
      rw [hki]
      rw [← hk] at HO
      by_cases hlt : k ≤ n
      · have hpl := plcN_len l k
        have HPn := Lib.hid (plcN_next l k)
        have hs := eslice_to wr A n c k (by omega)
        have HFk := HF.out k
        have hlen := arcE_len HFk
        have hbd := HBd.out k
        have HR := Lib.hid (rArc_any A k c (l.take k) (by rw [List.length_take, HN.out]; omega) ⟨by omega, HSO.out.2⟩ (fun x hx => HSZ.out x (List.mem_of_mem_take hx)) wr (T.below HB.out) ((HA.out.below HB.out).take k))
        rw [HFk, hlen] at HR
        obtain ⟨p, hp⟩ : ∃ p, p = (arcB (l.take k)).length := ⟨_, rfl⟩
        rw [← hp] at HR hbd HPn
        clear hk hp hlen HFk
        go_wp2_with fail
        refine HR.out.mono ?_; rintro e x2 ⟨D, d, rfl, -, -, hb⟩
        have HO2 := Lib.hid (HO.out.below hb)
        have HB2 := Lib.hid (HB.out.trans (hb.mono HB.out.size))
        have hsub : IntKind.i64.wrap (((p + 1024 : Nat) : Int) - 1024) = (p : Int) := by rw [IntKind.wrap_i64]; omega
        clear hb HR hs
        go_wp2_with (at_builtin; refine Stay.go ?_)
        refine Stay.on ?_
        refine append_int rfl (.tmp 28) (.tmp 32) rfl w.heap.size _ _ rfl (HO2.out.alloc _) x2.heap.size 1 (p : Int) rfl ((Blk.new _ 3 #[.int .i64 (p : Int)]).cell 0) (by rw [hpl]; omega) (by rw [hszA]; exact Nat.le_trans HB2.out.size (Nat.le_succ _)) ?_
        intro v7 w7 ho7 hg7
        rw [← HPn.out] at ho7
        have HO7 := Lib.hid ho7
        have HB7 : Hid (Below w.heap.size w w7) := (HB2.out.alloc HB2.out.size _).grown hg7 (by rw [hszA]; exact Nat.le_trans HB2.out.size (Nat.le_succ _)) fun g e => (World.ownsRow.lt HO2.out g e).1
        clear ho7 hg7
        go_wp2_with fail
        go_roundw
        case rel => exact ⟨k, hlt, by go_num, HO7.out, HB7.out⟩
        case measure => simp [intOf] <;> omega
      · have HV : Hid (plcN l k = plcA l) := by unfold Hid; rw [HL.out, HN.out]; congr 1; omega
        have HO9 := HO.out
        rw [HV.out] at HO9
        have HO9 := Lib.hid HO9
        clear HO hk
        go_wp2_with fail
        go_ret2
        exact ⟨_, rfl, HO9.out, HB.out⟩
  · have hne : (entsE l != 0) = true := by simpa using h0
    rw [plcA_no h0]
    generalize entsE l = E at HC hne ⊢
    clear h0 hn hA hsz hc
    go_enter Tryz.func20, Tryz.ntmps20
    go_wp2_with fail
    refine HC.out.mono ?_; rintro e x1 ⟨rfl, hb1⟩
    have HB1 := Lib.hid hb1
    clear hb1
    go_wp2_with fail
    go_ret2
    exact ⟨_, rfl, OwnI.nil _ _, HB1.out⟩
set_option maxHeartbeats 1000000 in
theorem WriteArchives_walk (A0 : Option Addr) (n0 c0 : Nat) (rs0 : List EntV) (hn0 : rs0.length = n0) (hm0 : n0 * 136 ≤ 140737488351232) (hf0 : ∀ r ∈ rs0, r.wf) (hc0 : SlOk A0 n0 c0) (w : World) (hr0 : EntsAt w A0 rs0) (hL : laidMetH Tryz.prog Rows.writeArchivesRow.laid w) :
    Calls Tryz.prog 5 #[.slice A0 n0 c0] w fun e w' => e = .returned (.bool true) ∧ Below w.heap.size w w' := by
  have T : Tab w := tab_of_laid hL (by kernel_rfl) (by simp [Rows.writeArchivesRow])
  have hz : ∀ x ∈ rs0, x.sz := fun x hx => (hf0 x hx).sz
  have H1 := Lib.hid (wArch_any A0 n0 c0 rs0 hn0 hc0 hz w T hr0)
  have H2 := Lib.hid fun W (h : Below w.heap.size w W) => wPlac_any A0 n0 c0 rs0 hn0 hc0 hz W (T.below h) (hr0.below h)
  have H3 := Lib.hid fun W (h : Below w.heap.size w W) => rArc_any A0 n0 c0 rs0 hn0 hc0 hz W (T.below h) (hr0.below h)
  have H4 := Lib.hid fun W (h : Below w.heap.size w W) => rPlac_any A0 n0 c0 rs0 hn0 hc0 hz W (T.below h) (hr0.below h)
  have hl : (plcA rs0).length ≤ 100 := by
    by_cases h0 : entsE rs0 = 0
    · rw [plcA_len _ h0]; have := ents_few h0; omega
    · rw [plcA_no h0]; simp
  clear hn0 hc0 hf0 hr0 hz hL hm0
  generalize entsE rs0 = E at H1 H2 H3 H4
  generalize arcE rs0 = R at H1 H3
  generalize plcA rs0 = P at H2 H4 hl
  obtain ⟨nr, HNR⟩ := hid_name R.length
  obtain ⟨np, HNP⟩ := hid_name P.length
  rw [HNR.out] at H3
  rw [HNP.out] at hl
  go_enter Tryz.func5, Tryz.ntmps5
  go_wp2_with fail
  refine H1.out.mono ?_; rintro e w1 ⟨v1, rfl, ho, hb⟩
  obtain ⟨B1, b1, rfl, -, hB1⟩ := ho.form
  rw [HNR.out]
  have HR1 := Lib.hid hB1
  have HX1 := Lib.hid hb
  clear ho hb hB1 H1
  go_wp2_with fail
  refine (H2.out _ HX1.out).mono ?_; rintro e w2 ⟨v2, rfl, ho, hb⟩
  obtain ⟨P1, p1, rfl, hP1⟩ := ho.at
  rw [HNP.out]
  have HP2 := Lib.hid hP1
  have HR2 := Lib.hid (HR1.out.below hb)
  have HX2 := Lib.hid (HX1.out.trans (hb.mono HX1.out.size))
  clear ho hb hP1 H2 HR1 HX1
  go_wp2_with fail
  refine (H3.out _ HX2.out).mono ?_; rintro e w3 ⟨B2, b2, rfl, -, hB2, hb⟩
  have HQ3 := Lib.hid hB2
  have HP3 := Lib.hid (HP2.out.below hb)
  have HR3 := Lib.hid (HR2.out.below hb)
  have HX3 := Lib.hid (HX2.out.trans (hb.mono HX2.out.size))
  clear hb hB2 H3 HR2 HX2 HP2
  go_wp2_with fail
  refine (H4.out _ HX3.out).mono ?_; rintro e w4 ⟨v4, rfl, ho, hb⟩
  obtain ⟨P2, p2, rfl, hP2⟩ := ho.at
  rw [HNP.out]
  have HS := Lib.hid (same_any B1 B2 nr b1 nr b2 R R HNR.out HNR.out w4 (HR3.out.below hb) (HQ3.out.below hb))
  rw [show (R == R) = true by simp] at HS
  have HP4 := Lib.hid (HP3.out.below hb)
  have HP5 := Lib.hid hP2
  have HX4 := Lib.hid (HX3.out.trans (hb.mono HX3.out.size))
  clear ho hb hP2 H4 HR3 HX3 HP3 HQ3
  go_wp2_with fail
  refine HS.out.mono ?_; rintro e w' ⟨rfl, rfl⟩
  have HI := Lib.hid (sameInts_any P1 P2 np p1 np p2 P P HNP.out HNP.out (by omega) (by omega) w4 HP4.out HP5.out)
  rw [decide_eq_true (rfl : P = P)] at HI
  clear HS HP4 HP5
  go_wp2_with fail
  refine HI.out.mono ?_; rintro e w6 ⟨rfl, hb⟩
  have HX6 := Lib.hid (HX4.out.trans (hb.mono HX4.out.size))
  clear hb
  go_wp2_with fail
  go_ret
  exact ⟨rfl, HX6.out⟩
end Go.Proofs.YtldffnmoafhidaaGreatDoor
