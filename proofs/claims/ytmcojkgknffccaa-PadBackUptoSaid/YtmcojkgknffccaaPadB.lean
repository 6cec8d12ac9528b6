/- Package pad: the reference's filling up; the laws PadFills, PadFew. -/
import Derived.Test.YtmcojkgknffccaaPadA
import Derived.Test.YtmcojkgknffccaaOctA
set_option linter.unusedVariables false
set_option maxRecDepth 100000
namespace Go.Proofs.Ytmcojkgknffccaa
open Go.RowKit
open Go.OpenShut
def slLen : Value → Nat | .slice _ n _ => n | _ => 0
set_option maxHeartbeats 1000000 in
theorem rFill_any (A : Option Addr) (n c : Nat) (l : List UInt8) (hn : l.length = n) (hn2 : n ≤ 140737488351232) (hc : A = none → c = 0) (w : World) (hA : BytsAt w A l) :
    Calls Try.prog 11 #[.slice A n c] w fun e w' => ∃ v, e = .returned v ∧ OwnB w' w.heap.size v (padF l) ∧ Below w.heap.size w w' := by
  obtain ⟨i0, hi, hz0, hz1, hz2⟩ := info_parts oinfo_u8
  have hlt := padN_lt n
  have hge := padN_ge n
  obtain ⟨p, hp⟩ := hid_name (padN n)
  rw [hp.out] at hlt hge
  have HN := Lib.hid hn
  have HO : Hid ((w.alloc (.cells #[] 5)).ownsRow w.heap.size 5 1 (.slice (some ⟨w.heap.size, 0, none⟩) 0 0) 0 []) := World.ownsRow_lit (e := 5) (size := 1) w #[] 0 (Nat.le_refl _) (by decide) rfl
  have HB : Hid (Below w.heap.size w (w.alloc (.cells #[] 5))) := (Below.refl _ _).alloc (Nat.le_refl _) _
  have HA1 := Lib.hid (hA.below HB.out)
  have HZ : Hid (padN n * 512 < n + 512) := by unfold Hid; have := padN_lt n; omega
  have hb0 : OwnB (w.alloc (.cells #[] 5)) w.heap.size (.slice (some ⟨w.heap.size, 0, none⟩) 0 0) [] := HO.out
  have HO1 := Lib.hid hb0
  clear hn hA hb0 HO
  go_enter Try.func11, Try.ntmps11
  go_wp2_with (at_builtin; refine Stay.go ?_)
  refine Stay.on ?_
  refine append_byts rfl (.tmp 4) (.tmp 5) rfl w.heap.size _ _ rfl HO1.out A n c l rfl HN.out HA1.out hc (by simp; omega) (by simp) ?_
  intro v6 w6 ho6 hb6
  have HO6 : Hid (OwnB w6 w.heap.size v6 l) := ho6
  have HB6 := Lib.hid (hb6 w HB.out)
  clear ho6 hb6
  go_wp2_with fail
  go_loopw [3] (fun v wr => ∃ (m : Nat) (L : List UInt8), Hid (L.length = m) ∧ m ≤ 512 * p ∧ Hid (OwnB wr w.heap.size v L) ∧ Hid (padF L = padF l) ∧ Hid (Below w.heap.size w wr)) (fun v _ => 512 * p - slLen v)
  case atStart => exact ⟨n, l, HN.out, hge, HO6.out, rfl, HB6.out⟩
  case round =>
    obtain ⟨m, L, HL, hm, HO, HF, HB⟩ := hrel
    have hws : w.heap.size ≤ wr.heap.size := HB.out.size
    obtain ⟨A', c', rfl, -, -⟩ := HO.out.form
    rw [HL.out]
    by_cases h0 : m % 512 = 0
    · have HW : Hid (padF L = L) := padF_whole L (m / 512) (by rw [HL.out]; omega)
      have h1 : ((m : Int) % 512) = 0 := by omega
      go_wp2_with fail
      go_ret
      exact ⟨_, rfl, by rw [← HF.out, HW.out, ← HL.out]; exact HO.out, HB.out⟩
    · have HS : Hid (padF (L ++ [0]) = padF L) := padF_step L (by rw [HL.out]; exact h0)
      have h1 : ¬ ((m : Int) % 512) = 0 := by omega
      have hm2 : m + 1 ≤ 512 * p := by omega
      have HOa := Lib.hid (HO.out.alloc (.cells #[.int .u8 0] 5))
      have HBa := Lib.hid (HB.out.alloc hws (.cells #[.int .u8 0] 5))
      have HNw : Hid (BytsAt (wr.alloc (.cells #[.int .u8 0] 5)) (some ⟨wr.heap.size, 0, none⟩) [0]) := fun j hj => by
        obtain rfl : j = 0 := by simpa using hj
        exact ⟨_, _, rfl, cell_of_row _ wr.heap.size 0 #[.int .u8 0] 5 (0, 0) (heap_alloc_new wr _)⟩
      rw [HL.out] at HOa
      go_wp2_with (at_builtin; refine Stay.go ?_)
      refine Stay.on ?_
      refine append_byts rfl (.tmp 11) (.tmp 12) rfl w.heap.size _ _ rfl HOa.out (some ⟨wr.heap.size, 0, none⟩) 1 1 [0] rfl rfl HNw.out (fun e => by cases e) (by rw [HL.out]; omega) (by simp; omega) ?_
      intro v7 w7 ho7 hb7
      have HO7 := Lib.hid ho7
      have HB7 := Lib.hid (hb7 w HBa.out)
      obtain ⟨A7, c7, e7, -, -⟩ := ho7.form
      rw [List.length_append, HL.out] at e7
      subst e7
      clear ho7 hb7
      go_wp2_with fail
      go_roundw
      case rel => exact ⟨m + 1, L ++ [0], by unfold Hid; rw [List.length_append, HL.out]; rfl, hm2, HO7, by unfold Hid; rw [HS.out, HF.out], HB7⟩
      case measure => simp [slLen]; omega
set_option maxHeartbeats 1000000 in
theorem PadFills_walk (a0 : Int) (A1 : Option Addr) (n1 c1 : Nat) (l1 : List UInt8) (w0 : (Lit.int .i64 a0).wf = true) (hn1 : l1.length = n1) (hm1 : n1 ≤ 140737488351232) (hc1 : n1 ≤ c1 ∧ c1 ≤ maxLen ∧ (A1 = none → c1 = 0)) (w : World) (hr1 : BytsAt w A1 l1) :
    Calls Try.prog 3 #[.int .i64 a0, .slice A1 n1 c1] w fun e w' => e = .returned (.bool true) ∧ Below w.heap.size w w' := by
  have HF := Lib.hid fun W (h : BytsAt W A1 l1) => Fill_any A1 n1 c1 l1 hn1 hm1 W h
  have HR := Lib.hid fun W (h : BytsAt W A1 l1) => rFill_any A1 n1 c1 l1 hn1 hm1 hc1.2.2 W h
  have HA := Lib.hid hr1
  have HP := Lib.hid (padF_length l1)
  obtain ⟨F, HX⟩ := hid_name (padF l1)
  rw [HX.out] at HF HR HP
  clear hr1 hn1 hc1 w0
  go_enter Try.func3, Try.ntmps3
  go_wp2_with fail
  refine (Blocks_any _ _).mono ?_; rintro e w' ⟨rfl, rfl⟩
  go_wp2_with fail
  refine (HF.out _ HA.out).mono ?_; rintro e wa ⟨va, rfl, hO1, hb1⟩
  have HB1 := Lib.hid hb1
  have HA1 := Lib.hid (HA.out.below hb1)
  have HO1 := Lib.hid hO1
  obtain ⟨Aa, ca, rfl, -, -⟩ := hO1.form
  clear hO1 hb1
  go_wp2_with fail
  refine (rBlocks_any _ _).mono ?_; rintro e w' ⟨rfl, rfl⟩
  go_wp2_with fail
  refine (HR.out _ HA1.out).mono ?_; rintro e wb ⟨vb, rfl, hO2, hb2⟩
  have HB2 := Lib.hid (HB1.out.trans (hb2.mono HB1.out.size))
  have HO2 := Lib.hid hO2
  have HO1' := Lib.hid (HO1.out.below hb2)
  obtain ⟨Ab, cb, rfl, -, hat2⟩ := hO2.form
  obtain ⟨_, _, e1, -, hat1⟩ := HO1'.out.form
  injection e1 with e1 _ e3
  subst e1 e3
  have HS := Lib.hid (same_any Aa Ab _ ca _ cb F F rfl rfl wb hat1 hat2)
  clear hO2 hb2 hat1 hat2
  go_wp2_with fail
  refine HS.out.mono ?_; rintro e w' ⟨rfl, rfl⟩
  go_wp2_with fail
  go_ret
  exact ⟨ret_bool (by simp), HB2.out⟩
set_option maxHeartbeats 1000000 in
theorem PadFew_walk (a0 a1 : Int) (w0 : (Lit.int .i64 a0).wf = true) (w1 : (Lit.int .i64 a1).wf = true) (w : World) :
    Calls Try.prog 6 #[.int .i64 a0, .int .i64 a1] w fun e w' => e = .returned (.bool true) ∧ Below w.heap.size w w' := by
  obtain ⟨p1, p2⟩ := pick_bd a0 2147483648 (by omega)
  obtain ⟨q1, q2⟩ := pick_bd a1 2147483648 (by omega)
  have HP := Lib.hid fun W => picked_any a0 2147483648 W w0 (by omega)
  have HQ := Lib.hid fun W => picked_any a1 2147483648 W w1 (by omega)
  obtain ⟨x, hx⟩ : ∃ x : Nat, pick a0 2147483648 = x := ⟨(pick a0 2147483648).toNat, by omega⟩
  obtain ⟨y, hy⟩ : ∃ y : Nat, pick a1 2147483648 = y := ⟨(pick a1 2147483648).toNat, by omega⟩
  rw [hx] at HP p1 p2
  rw [hy] at HQ q1 q2
  have hk : ∀ k : Nat, (k : Int) < 8589934592 → ∀ W, Calls Try.prog 8 #[.int .i64 (k : Int)] W fun e w' => e = .returned (.tuple #[.int .i64 (padN k : Nat), .int .i64 0]) ∧ W = w' := fun k hk W => by
    have h := Blocks_any (k : Int) W
    rw [padB_ok ⟨by omega, hk⟩, Int.toNat_natCast] at h; exact h
  have H1 := Lib.hid (hk x (by omega))
  have H2 := Lib.hid (hk y (by omega))
  have H3 := Lib.hid (hk (x + y) (by omega))
  have H4 : Hid (∀ W, Calls Try.prog 8 #[.int .i64 1] W fun e w' => e = .returned (.tuple #[.int .i64 1, .int .i64 0]) ∧ W = w') := hk 1 (by omega)
  have g1 := padN_ge x
  have g2 := padN_lt x
  have g3 := padN_lt y
  have g4 := (padN_add x y).1
  have g5 := (padN_add x y).2
  obtain ⟨X, hX⟩ := hid_name (padN x)
  obtain ⟨Y, hY⟩ := hid_name (padN y)
  obtain ⟨Z, hZ⟩ := hid_name (padN (x + y))
  rw [hX.out] at H1 g1 g2 g4 g5
  rw [hY.out] at H2 g3 g4 g5
  rw [hZ.out] at H3 g4 g5
  have hxy : IntKind.i64.wrap ((x : Int) + (y : Int)) = ((x + y : Nat) : Int) := by rw [IntKind.wrap_i64]; omega
  obtain ⟨u, hu⟩ : ∃ u : Nat, u = x + y := ⟨_, rfl⟩
  rw [← hu] at hxy H3
  obtain ⟨s, hs⟩ : ∃ s : Int, s = (X : Int) + Y := ⟨_, rfl⟩
  obtain ⟨r, hr⟩ : ∃ r : Int, r = s - 1 := ⟨_, rfl⟩
  obtain ⟨m, hm⟩ : ∃ m : Int, m = (X : Int) * 512 := ⟨_, rfl⟩
  obtain ⟨v, hv⟩ : ∃ v : Int, v = (x : Int) + 512 := ⟨_, rfl⟩
  obtain ⟨zi, hzi⟩ : ∃ zi : Int, zi = (Z : Int) := ⟨_, rfl⟩
  obtain ⟨xi, hxi⟩ : ∃ xi : Int, xi = (x : Int) := ⟨_, rfl⟩
  have e1 : IntKind.i64.wrap ((X : Int) + Y) = s := by rw [IntKind.wrap_i64]; omega
  have e2 : IntKind.i64.wrap (s - 1) = r := by rw [IntKind.wrap_i64]; omega
  have e3 : IntKind.i64.wrap ((X : Int) * 512) = m := by rw [IntKind.wrap_i64]; omega
  have e4 : IntKind.i64.wrap (xi + 512) = v := by rw [IntKind.wrap_i64]; omega
  have b1 : zi ≤ s := by omega
  have b2 : r ≤ zi := by omega
  have b3 : xi ≤ m := by omega
  have b4 : m < v := by omega
  rw [← hxi] at HP H1 hxy
  rw [← hzi] at H3
  clear hk hx hy w0 w1 hs hr hm hv hzi hxi g1 g2 g3 g4 g5 p1 p2 q1 q2 hu
  go_enter Try.func6, Try.ntmps6
  go_wp2_with fail
  refine (HP.out _).mono ?_; rintro e w' ⟨rfl, rfl⟩
  go_wp2_with fail
  refine (HQ.out _).mono ?_; rintro e w' ⟨rfl, rfl⟩
  go_wp2_with fail
  refine (H1.out _).mono ?_; rintro e w' ⟨rfl, rfl⟩
  go_wp2_with fail
  refine (H2.out _).mono ?_; rintro e w' ⟨rfl, rfl⟩
  go_wp2_with fail
  refine (H3.out _).mono ?_; rintro e w' ⟨rfl, rfl⟩
  go_wp2_with fail
  refine (H4.out _).mono ?_; rintro e w' ⟨rfl, rfl⟩
  go_wp2_with fail
  go_ret
  exact ⟨rfl, Below.refl _ _⟩
end Go.Proofs.Ytmcojkgknffccaa
