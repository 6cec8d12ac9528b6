/- slices.Grow, slices.Concat at slices of bytes; the property PadBack. -/
import Derived.Test.YtmcojkgknffccaaPadE
import Derived.Lib.AppendZeros
set_option linter.unusedVariables false
set_option maxRecDepth 100000
namespace Go.Proofs.Ytmcojkgknffccaa
open Go.RowKit
open Go.OpenShut
set_option maxHeartbeats 1000000 in
theorem bGrow_nil (n : Nat) (hn : n ≤ 140737488351232) (w : World) :
    Calls Try.prog 23 #[.slice none 0 0, .int .i64 n] w fun e w' => ∃ v, e = .returned v ∧ OwnB w' w.heap.size v [] ∧ Below w.heap.size w w' := by
  obtain ⟨i0, hi, hz0, hz1, hz2⟩ := info_parts oinfo_u8
  by_cases h0 : n = 0
  · subst h0
    go_enter Try.func23, Try.ntmps23
    go_wp2_with fail
    go_ret
    exact ⟨_, rfl, OwnB.nil _ _, Below.refl _ _⟩
  · have hrz : ∀ ty, (Builtin.append_ #[22, 3] ty #[.slice none 0 0, .int .i64 n]).run Try.prog w = .ok (.slice (some ⟨w.heap.size, 0, none⟩) n (grownCap w n 0 5)) (w.drew.alloc (.cells (Builtin.zeroCells (Value.int .u8 0).cells n ++ Builtin.zeroCells (Value.int .u8 0).cells (grownCap w n 0 5 - n)) 5)) :=
      fun ty => Lib.run_append_nil_zeros w 22 3 ty 5 i0 _ .i64 .i64 Try.underlying22 Try.underlying3 hi hz0 n (by omega) (by omega) (by omega) (by rw [hz2]; omega)
    have hG1 : n ≤ grownCap w n 0 5 := grownCap_ge w _ _ _
    have hG2 : grownCap w n 0 5 ≤ maxLen := grownCap_le_maxLen w _ _ _ (by unfold maxLen; omega)
    obtain ⟨G, hG⟩ := hid_name (grownCap w n 0 5)
    rw [hG.out] at hG1 hG2
    simp only [hG.out] at hrz
    obtain ⟨Z, hZ⟩ := hid_name (Builtin.zeroCells (Value.int .u8 0).cells n ++ Builtin.zeroCells (Value.int .u8 0).cells (G - n))
    have hZs : Z.size = G * 1 := by
      rw [← hZ.out, Array.size_append, size_zeroCells, size_zeroCells]
      show n * 1 + (G - n) * 1 = G * 1
      omega
    simp only [hZ.out] at hrz
    have HO : Hid (OwnB (w.drew.alloc (.cells Z 5)) w.heap.size (.slice (some ⟨w.heap.size, 0, none⟩) 0 G) []) :=
      ⟨rfl, .inr ⟨w.heap.size, G, Z, rfl, Nat.le_refl _, heap_alloc_new w.drew _, Nat.zero_le _, hG2, hZs, rfl⟩⟩
    have HB : Hid (Below w.heap.size w (w.drew.alloc (.cells Z 5))) := ((Below.refl w.heap.size w).drew).alloc (Nat.le_refl _) _
    have hG63 : G ≤ 9223372036854775807 := by unfold maxLen at hG2; omega
    clear hZs hG hZ
    go_enter Try.func23, Try.ntmps23
    go_wp2_with (at_builtin; refine Lib.wpList_append_run _ rfl _ _ _ _ rfl _ _ rfl rfl _ _ (hrz _) ?_)
    go_ret
    exact ⟨_, rfl, HO.out, HB.out⟩
set_option maxHeartbeats 2000000 in
theorem bConcat_two (A1 A2 : Option Addr) (n1 n2 c1 c2 : Nat) (l1 l2 : List UInt8) (hn1 : l1.length = n1) (hn2 : l2.length = n2) (hbig : n1 + n2 ≤ 140737488351232) (hc1 : A1 = none → c1 = 0) (hc2 : A2 = none → c2 = 0) (g : Nat) (w : World) (hb : Blk w g 22 #[.slice A1 n1 c1, .slice A2 n2 c2]) (h1 : BytsAt w A1 l1) (h2 : BytsAt w A2 l2) :
    Calls Try.prog 17 #[.slice (some ⟨g, 0, none⟩) 2 2] w fun e w' => ∃ v, e = .returned v ∧ OwnB w' w.heap.size v (l1 ++ l2) ∧ Below w.heap.size w w' := by
  have N1 := Lib.hid hn1
  have N2 := Lib.hid hn2
  have H1 := Lib.hid h1
  have H2 := Lib.hid h2
  have HB := Lib.hid hb
  have HG := Lib.hid fun W => bGrow_nil (n1 + n2) (by omega) W
  obtain ⟨⟨x0, x1⟩, -⟩ := blk2 hb
  have k1 : n1 ≤ 140737488351232 := by omega
  have k2 : n2 ≤ 140737488351232 := by omega
  clear h1 h2 hb hn1 hn2
  go_enter Try.func17, Try.ntmps17
  go_wp2_with fail
  go_loop [3, 11] (fun sz i => (i = .int .i64 0 ∧ sz = .int .i64 0) ∨ (i = .int .i64 1 ∧ sz = .int .i64 n1) ∨ (i = .int .i64 2 ∧ sz = .int .i64 (n1 + n2 : Nat))) (fun _ i => 2 - (intOf i).toNat)
  case atStart => exact .inl ⟨rfl, rfl⟩
  case round =>
    rcases hrel with ⟨rfl, rfl⟩ | ⟨rfl, rfl⟩ | ⟨rfl, rfl⟩
    · go_wp2_with fail
      go_round
      case rel => exact .inr (.inl ⟨by go_num, by go_num⟩)
      case measure => simp [intOf]
    · go_wp2_with fail
      go_round
      case rel => exact .inr (.inr ⟨by go_num, by go_num⟩)
      case measure => simp [intOf]
    · go_wp2_with fail
      refine (HG.out _).mono ?_; rintro e w1 ⟨v, rfl, hO, hb⟩
      have HO0 := Lib.hid hO
      have HB0 := Lib.hid hb
      clear hO hb
      go_wp2_with fail
      go_loopw [6, 27] (fun v i wr => ∃ (l : List UInt8), Hid (OwnB wr w.heap.size v l) ∧ Hid (Below w.heap.size w wr) ∧ ((i = .int .i64 0 ∧ l = []) ∨ (i = .int .i64 1 ∧ l = l1) ∨ (i = .int .i64 2 ∧ l = l1 ++ l2))) (fun _ i _ => 2 - (intOf i).toNat)
      case atStart => exact ⟨[], HO0.out, HB0.out, .inl ⟨rfl, rfl⟩⟩
      case round =>
        obtain ⟨l, HO, HW, hc⟩ := hrel
        have hws : w.heap.size ≤ wr.heap.size := HW.out.size
        have hgl := HB.out.lt
        obtain ⟨⟨y0, y1⟩, -⟩ := blk2 (HB.out.below HW.out hgl)
        have HA1 := Lib.hid (H1.out.below HW.out)
        have HA2 := Lib.hid (H2.out.below HW.out)
        clear x0 x1
        rcases hc with ⟨rfl, rfl⟩ | ⟨rfl, rfl⟩ | ⟨rfl, rfl⟩
        · go_wp2_with (at_builtin; refine Stay.go ?_)
          refine Stay.on ?_
          refine append_byts rfl (.tmp 31) (.tmp 32) rfl w.heap.size _ _ rfl HO.out A1 n1 c1 l1 rfl N1.out HA1.out hc1 (by simp; omega) hws ?_
          intro v6 w6 ho6 hb6
          have HO6 : Hid (OwnB w6 w.heap.size v6 l1) := ho6
          have HW6 := Lib.hid (hb6 _ HW.out)
          clear ho6 hb6
          go_wp2_with fail
          go_roundw
          case rel => exact ⟨_, HO6.out, HW6.out, .inr (.inl ⟨by go_num, rfl⟩)⟩
          case measure => simp [intOf]
        · go_wp2_with (at_builtin; refine Stay.go ?_)
          refine Stay.on ?_
          refine append_byts rfl (.tmp 31) (.tmp 32) rfl w.heap.size _ _ rfl HO.out A2 n2 c2 l2 rfl N2.out HA2.out hc2 (by rw [N1.out]; omega) hws ?_
          intro v6 w6 ho6 hb6
          have HO6 := Lib.hid ho6
          have HW6 := Lib.hid (hb6 _ HW.out)
          clear ho6 hb6
          go_wp2_with fail
          go_roundw
          case rel => exact ⟨_, HO6.out, HW6.out, .inr (.inr ⟨by go_num, rfl⟩)⟩
          case measure => simp [intOf]
        · go_wp2_with fail
          go_ret
          exact ⟨_, rfl, HO.out, HW.out⟩
set_option maxHeartbeats 2000000 in
theorem PadBack_walk (A0 : Option Addr) (n0 c0 : Nat) (l0 : List UInt8) (A1 : Option Addr) (n1 c1 : Nat) (l1 : List UInt8) (hn0 : l0.length = n0) (hm0 : n0 ≤ 140737488351232) (hc0 : n0 ≤ c0 ∧ c0 ≤ maxLen ∧ (A0 = none → c0 = 0)) (hn1 : l1.length = n1) (hm1 : n1 ≤ 140737488351232) (hc1 : n1 ≤ c1 ∧ c1 ≤ maxLen ∧ (A1 = none → c1 = 0)) (hb : n0 + n1 ≤ 1048576) (w : World) (hr0 : BytsAt w A0 l0) (hr1 : BytsAt w A1 l1) :
    Calls Try.prog 5 #[.slice A0 n0 c0, .slice A1 n1 c1] w fun e w' => e = .returned (.bool true) ∧ Below w.heap.size w w' := by
  have hge := padN_ge n0
  have hlt := padN_lt n0
  have hF := Lib.hid (Fill_any A0 n0 c0 l0 hn0 hm0 w hr0)
  have hcut := padC_padF l0 l1 (by omega)
  rw [hn0] at hcut
  have HFl : Hid ((padF l0).length = 512 * padN n0) := by unfold Hid; rw [padF_length, hn0]
  have HBl := Lib.hid fun W => Blocks_any (n0 : Int) W
  rw [padB_ok ⟨by omega, by omega⟩, Int.toNat_natCast] at HBl
  simp only at HBl
  obtain ⟨p, hp⟩ := hid_name (padN n0)
  rw [hp.out] at hge hlt HFl HBl
  obtain ⟨F, HX⟩ := hid_name (padF l0)
  rw [HX.out] at hF hcut HFl
  have hfl := HFl.out
  have hmul : IntKind.i64.wrap ((p : Int) * 512) = ((512 * p : Nat) : Int) := by rw [IntKind.wrap_i64]; omega
  have HCc := Lib.hid fun Af cf (hcf : Af = none → cf = 0) g W hb h h' => bConcat_two Af A1 (512 * p) n1 cf c1 F l1 hfl hn1 (by omega) hcf hc1.2.2 g W hb h h'
  have HCu : Hid (∀ A c W, SlOk A (F ++ l1).length c → BytsAt W A (F ++ l1) → Calls Try.prog 13 #[.slice A (F ++ l1).length c, .int .i64 n0] W fun e w' => ∃ v1 v2, e = .returned (.tuple #[v1, v2, .int .i64 0]) ∧ OwnB w' W.heap.size v1 l0 ∧ OwnB w' W.heap.size v2 l1 ∧ Below W.heap.size W w') := fun A c W hs h => by
    have h1 := Cut_any A (F ++ l1).length c (F ++ l1) (n0 : Int) rfl (by rw [List.length_append, hfl, hn1]; omega) hs W h
    rw [hcut] at h1; exact h1
  obtain ⟨q, hq⟩ := hid_name (512 * p)
  rw [hq.out] at hmul hfl HCc
  have HL := Lib.hid hfl
  obtain ⟨L, hL⟩ := hid_name (F ++ l1).length
  rw [hL.out] at HCu
  have HA0 := Lib.hid hr0
  have HA1 := Lib.hid hr1
  have HN0 := Lib.hid hn0
  have HN1 := Lib.hid hn1
  have Hc0 := Lib.hid hc0.2.2
  have Hc1 := Lib.hid hc1.2.2
  clear hr0 hr1 hn0 hn1 hc0 hc1 hcut hge hlt hfl hm0 hm1
  go_enter Try.func5, Try.ntmps5
  go_wp2_with fail
  refine hF.out.mono ?_; rintro e wa ⟨v, rfl, hO, hb1⟩
  obtain ⟨Af, cf, rfl, hcf, hatf⟩ := hO.form
  rw [HL.out]
  have HB1 := Lib.hid (belowA hb1 (.cells #[.slice Af q cf, .slice A1 n1 c1] 22))
  have HAf := Lib.hid (hatf.below ((Below.refl _ wa).alloc (Nat.le_refl _) (.cells #[.slice Af q cf, .slice A1 n1 c1] 22)))
  have HA1' := Lib.hid (HA1.out.below HB1.out)
  have HA0' := Lib.hid (HA0.out.below HB1.out)
  have HK := Lib.hid (HCc.out Af cf hcf.2.2 _ _ (Blk.new wa 22 #[.slice Af q cf, .slice A1 n1 c1]) HAf.out HA1'.out)
  clear hO hb1 hcf hatf
  go_wp2_with fail
  refine HK.out.mono ?_; rintro e wb ⟨v2, rfl, hO2, hb2⟩
  have HB2 := Lib.hid (HB1.out.trans (hb2.mono HB1.out.size))
  have HA0b := Lib.hid (HA0'.out.below hb2)
  have HA1b := Lib.hid (HA1'.out.below hb2)
  obtain ⟨A2, c2, rfl, hs2, hat2⟩ := hO2.form
  have HK2 := Lib.hid (HCu.out A2 c2 wb (by rw [← hL.out]; exact hs2) hat2)
  rw [hL.out]
  clear hO2 hb2 hs2 hat2
  go_wp2_with fail
  refine HK2.out.mono ?_; rintro e wc ⟨v3, v4, rfl, hO3, hO4, hb3⟩
  have HB3 := Lib.hid (HB2.out.trans (hb3.mono HB2.out.size))
  obtain ⟨A3, c3, rfl, -, hat3⟩ := hO3.form
  obtain ⟨A4, c4, rfl, -, hat4⟩ := hO4.form
  have k1 := hat3.conv c3 (fun e => by subst e; exact hat3.none_nil)
  have k2 := hat4.conv c4 (fun e => by subst e; exact hat4.none_nil)
  have hA0 := HA0b.out.below hb3
  have hA1 := HA1b.out.below hb3
  have k3 := hA0.conv c0 (fun e => by subst e; exact hA0.none_nil)
  have k4 := hA1.conv c1 (fun e => by subst e; exact hA1.none_nil)
  rw [HN0.out] at k1 k3 ⊢
  rw [HN1.out] at k2 k4 ⊢
  obtain ⟨S0, hS0⟩ := hid_name (bs l0)
  obtain ⟨S1, hS1⟩ := hid_name (bs l1)
  rw [hS0.out] at k1 k3
  rw [hS1.out] at k2 k4
  clear hO3 hO4 hb3 hat3 hat4 hA0 hA1
  go_wp2_with fail
  refine (HBl.out _).mono ?_; rintro e w' ⟨rfl, rfl⟩
  go_wp2_with fail
  refine (End_any _).mono ?_; rintro e wd ⟨v5, rfl, hO5, hb5⟩
  have HB5 := Lib.hid (HB3.out.trans (hb5.mono HB3.out.size))
  obtain ⟨A5, c5, rfl, -, -⟩ := hO5.form
  rw [List.length_replicate]
  clear hO5 hb5 k1 k2 k3 k4
  go_wp2_with fail
  go_ret
  exact ⟨ret_bool (by simp), HB5.out⟩
end Go.Proofs.Ytmcojkgknffccaa
