/- Package meta: a text as a mode. -/
import Derived.Test.YthdkfpknblinfaaDoorMetT
import Derived.Test.YthdkfpknblinfaaDoorMetQ
set_option linter.unusedVariables false
set_option maxRecDepth 100000
namespace Go.Proofs.YthdkfpknblinfaaDoor
open Go.RowKit
open Go.OpenShut

theorem size_list' (s : ByteArray) : s.data.toList.length = s.size := by simp
theorem k0_lt (v : Nat) (h : v < 16) : kOf v 64 2048 < 4096 := by have := k_lt ⟨v, h⟩ 0 0; simp only at this; omega
theorem or_at1 (a v : Nat) (ha : a < 16) (hv : v < 16) : bits .or .i64 ((kOf a 64 2048 : Nat) : Int) ((kOf v 8 1024 : Nat) : Int) = ((kOf a 64 2048 + kOf v 8 1024 : Nat) : Int) := by
  have h := k_lt ⟨a, ha⟩ ⟨v, hv⟩ 0
  have h2 := or_01 ⟨a, ha⟩ ⟨v, hv⟩
  simp only at h h2
  rw [or_nat _ _ (by omega) (by omega), h2]
theorem or_at2 (a b v : Nat) (ha : a < 16) (hb : b < 16) (hv : v < 16) : bits .or .i64 ((kOf a 64 2048 + kOf b 8 1024 : Nat) : Int) ((kOf v 1 512 : Nat) : Int) = ((kOf a 64 2048 + kOf b 8 1024 + kOf v 1 512 : Nat) : Int) := by
  have h := k_lt ⟨a, ha⟩ ⟨b, hb⟩ ⟨v, hv⟩
  have h2 := or_012 ⟨a, ha⟩ ⟨b, hb⟩ ⟨v, hv⟩
  simp only at h h2
  rw [or_nat _ _ (by omega) (by omega), h2]
theorem Parse_size (s : ByteArray) (w : World) (hs : s.size ≤ maxLen) (h : s.size ≠ 9) : Calls Tryd.prog 10 #[.string s] w fun e w' => e = .returned (.tuple #[.int .i64 0, .int .i64 1]) ∧ w = w' := by
  unfold maxLen at hs
  have h' : ((s.size : Int) != 9) = true := by simp; omega
  clear h
  go_enter Tryd.func10, Tryd.ntmps10
  go_wp2_with fail
  go_ret2
  exact ⟨rfl, rfl⟩
theorem byte_at {s : ByteArray} {l : List UInt8} (hl : s.data.toList = l) (k : Nat) (c : UInt8) (hc : l[k]? = some c) : ∀ W : World, (Instr.index 9 (.string s) (.int .i64 (k : Int))).run Tryd.prog W = .ok (.int .u8 (c.toNat : Int)) W := by
  subst hl
  intro W
  obtain ⟨hk, he⟩ := List.getElem?_eq_some_iff.1 hc
  have hk2 : k < s.size := by simpa using hk
  rw [run_index_string (P := Tryd.prog) W 9 s .i64 (k : Int) Tryd.underlying9, dif_pos ⟨by omega, by omega⟩]
  congr 2
  have e2 : s[k] = c := he
  simp [e2]
theorem IndexByte_of (s : ByteArray) (c : UInt8) (r : Int) (h : Lib.indexByte s.data.toList c = r) (w : World) : Calls Tryd.prog 15 #[.string s, .int .u8 (c.toNat : Int)] w fun e w' => e = .returned (.int .i64 r) ∧ w = w' := by
  refine (IndexByte_any s (c.toNat : Int) w).mono ?_; rintro e w' ⟨rfl, rfl⟩
  exact ⟨ret_int (by rw [← h, show (((c.toNat : Int)).toNat).toUInt8 = c by simp]), rfl⟩
set_option maxHeartbeats 4000000 in
theorem Parse_nine (s : ByteArray) (w : World) (T : Thirds w) (b0 b1 b2 b3 b4 b5 b6 b7 b8 : UInt8) (hl : s.data.toList = [b0, b1, b2, b3, b4, b5, b6, b7, b8]) : Calls Tryd.prog 10 #[.string s] w fun e w' => e = .returned (.tuple #[.int .i64 (mdR s.data.toList).1, .int .i64 (mdR s.data.toList).2]) ∧ Below w.heap.size w w' := by
  have hz : s.size = 9 := by rw [← size_list' s, hl]; rfl
  have x0 := byte_at hl 0 b0 rfl
  have x1 := byte_at hl 1 b1 rfl
  have x2 := byte_at hl 2 b2 rfl
  have x3 := byte_at hl 3 b3 rfl
  have x4 := byte_at hl 4 b4 rfl
  have x5 := byte_at hl 5 b5 rfl
  have x6 := byte_at hl 6 b6 rfl
  have x7 := byte_at hl 7 b7 rfl
  have x8 := byte_at hl 8 b8 rfl
  simp only [show ((0 : Nat) : Int) = 0 from rfl, show ((1 : Nat) : Int) = 1 from rfl, show ((2 : Nat) : Int) = 2 from rfl, show ((3 : Nat) : Int) = 3 from rfl, show ((4 : Nat) : Int) = 4 from rfl, show ((5 : Nat) : Int) = 5 from rfl, show ((6 : Nat) : Int) = 6 from rfl, show ((7 : Nat) : Int) = 7 from rfl, show ((8 : Nat) : Int) = 8 from rfl] at x0 x1 x2 x3 x4 x5 x6 x7 x8
  obtain ⟨c0, c1, c2⟩ := T.cells
  have HL := Lib.hid hl
  clear hl
  go_enter Tryd.func10, Tryd.ntmps10
  go_wp2_with fail
  go_loopw [4, 16] (fun m i wr => Hid (Below w.heap.size w wr) ∧ (i = .int .i64 0 ∧ m = .int .i64 0 ∨ (∃ a : Nat, a < 16 ∧ Hid (un3 [b0, b1, b2] false = some a) ∧ i = .int .i64 1 ∧ m = .int .i64 (kOf a 64 2048 : Nat)) ∨
    (∃ a b : Nat, a < 16 ∧ b < 16 ∧ Hid (un3 [b0, b1, b2] false = some a) ∧ Hid (un3 [b3, b4, b5] false = some b) ∧ i = .int .i64 2 ∧ m = .int .i64 (kOf a 64 2048 + kOf b 8 1024 : Nat)) ∨
    (∃ a b c : Nat, a < 16 ∧ b < 16 ∧ c < 16 ∧ Hid (un3 [b0, b1, b2] false = some a) ∧ Hid (un3 [b3, b4, b5] false = some b) ∧ Hid (un3 [b6, b7, b8] true = some c) ∧ i = .int .i64 3 ∧ m = .int .i64 (kOf a 64 2048 + kOf b 8 1024 + kOf c 1 512 : Nat)))) (fun _ i _ => 3 - (intOf i).toNat)
  case atStart => exact ⟨Below.refl _ _, .inl ⟨rfl, rfl⟩⟩
  case round =>
    obtain ⟨HB2, hd0⟩ := hrel
    rcases hd0 with ⟨rfl, rfl⟩ | ⟨a, ha, HA, rfl, rfl⟩ | ⟨a, b, ha, hb, HA, HBb, rfl, rfl⟩ | ⟨a, b, c, ha, hb, hc, HA, HBb, HC, rfl, rfl⟩
    · obtain ⟨r, p, q, hr, hp, hq, hd⟩ := places b0 b1 b2 false
      have HR := Lib.hid fun W => IndexByte_of ⟨#[45, 114]⟩ b0 r hr W
      have HP := Lib.hid fun W => IndexByte_of ⟨#[45, 119]⟩ b1 p hp W
      have HQ : Hid (∀ W, Calls Tryd.prog 15 #[.string (bs [45, 120, 83, 115]), .int .u8 (b2.toNat : Int)] W fun e w' => e = .returned (.int .i64 q) ∧ W = w') := Lib.hid fun W => IndexByte_of (bs [45, 120, 83, 115]) b2 q hq W
      clear hr hp hq
      have t0 := fun W => third_0 W (bs [45, 120, 83, 115]) (bs [45, 120, 83, 115]) (bs [45, 120, 84, 116])
      rcases hd with ⟨hn, hd⟩ | ⟨⟨g1, g2, g3⟩, v, hv, hu, E0, E1, E2⟩
      · have HV : Hid (mdR s.data.toList = (0, 3)) := by unfold Hid; rw [HL.out]; exact mdR_form rfl (.inl hn)
        clear hn
        rcases hd with d | ⟨d1, d2⟩ | ⟨d1, d2, d3⟩
        · go_wp2_with fail
          refine (HR.out _).mono ?_; rintro e w' ⟨rfl, rfl⟩
          go_wp2_with fail
          refine (HP.out _).mono ?_; rintro e w' ⟨rfl, rfl⟩
          go_wp2_with fail
          refine (HQ.out _).mono ?_; rintro e w' ⟨rfl, rfl⟩
          go_wp2_with fail
          go_ret2
          exact ⟨ret_2int (by rw [HV.out]) (by rw [HV.out]), HB2.out⟩
        · go_wp2_with fail
          refine (HR.out _).mono ?_; rintro e w' ⟨rfl, rfl⟩
          go_wp2_with fail
          refine (HP.out _).mono ?_; rintro e w' ⟨rfl, rfl⟩
          go_wp2_with fail
          refine (HQ.out _).mono ?_; rintro e w' ⟨rfl, rfl⟩
          go_wp2_with fail
          go_ret2
          exact ⟨ret_2int (by rw [HV.out]) (by rw [HV.out]), HB2.out⟩
        · go_wp2_with fail
          refine (HR.out _).mono ?_; rintro e w' ⟨rfl, rfl⟩
          go_wp2_with fail
          refine (HP.out _).mono ?_; rintro e w' ⟨rfl, rfl⟩
          go_wp2_with fail
          refine (HQ.out _).mono ?_; rintro e w' ⟨rfl, rfl⟩
          go_wp2_with fail
          go_ret2
          exact ⟨ret_2int (by rw [HV.out]) (by rw [HV.out]), HB2.out⟩
      · have HE := Lib.hid E0
        have HU := Lib.hid hu
        clear E0 E1 E2 hu
        go_wp2_with fail
        refine (HR.out _).mono ?_; rintro e w' ⟨rfl, rfl⟩
        go_wp2_with fail
        refine (HP.out _).mono ?_; rintro e w' ⟨rfl, rfl⟩
        go_wp2_with fail
        refine (HQ.out _).mono ?_; rintro e w' ⟨rfl, rfl⟩
        go_upto_region 13 with fail
        go_quiet (fail)
        go_wp2_with fail
        go_roundw
        case rel =>
          have hbl := below_drewN HB2.out nq
          refine ⟨hbl, .inr (.inl ⟨v, hv, HU, rfl, by rw [← or_0 (kOf v 64 2048) (k0_lt v hv), ← HE.out]; rfl⟩)⟩
        case measure => simp [intOf]
    · obtain ⟨r, p, q, hr, hp, hq, hd⟩ := places b3 b4 b5 false
      have HR := Lib.hid fun W => IndexByte_of ⟨#[45, 114]⟩ b3 r hr W
      have HP := Lib.hid fun W => IndexByte_of ⟨#[45, 119]⟩ b4 p hp W
      have HQ : Hid (∀ W, Calls Tryd.prog 15 #[.string (bs [45, 120, 83, 115]), .int .u8 (b5.toNat : Int)] W fun e w' => e = .returned (.int .i64 q) ∧ W = w') := Lib.hid fun W => IndexByte_of (bs [45, 120, 83, 115]) b5 q hq W
      clear hr hp hq
      have t0 := fun W => third_1 W (bs [45, 120, 83, 115]) (bs [45, 120, 83, 115]) (bs [45, 120, 84, 116])
      rcases hd with ⟨hn, hd⟩ | ⟨⟨g1, g2, g3⟩, v, hv, hu, E0, E1, E2⟩
      · have HV : Hid (mdR s.data.toList = (0, 3)) := by unfold Hid; rw [HL.out]; exact mdR_form rfl (.inr (.inl hn))
        clear hn
        rcases hd with d | ⟨d1, d2⟩ | ⟨d1, d2, d3⟩
        · go_wp2_with fail
          refine (HR.out _).mono ?_; rintro e w' ⟨rfl, rfl⟩
          go_wp2_with fail
          refine (HP.out _).mono ?_; rintro e w' ⟨rfl, rfl⟩
          go_wp2_with fail
          refine (HQ.out _).mono ?_; rintro e w' ⟨rfl, rfl⟩
          go_wp2_with fail
          go_ret2
          exact ⟨ret_2int (by rw [HV.out]) (by rw [HV.out]), HB2.out⟩
        · go_wp2_with fail
          refine (HR.out _).mono ?_; rintro e w' ⟨rfl, rfl⟩
          go_wp2_with fail
          refine (HP.out _).mono ?_; rintro e w' ⟨rfl, rfl⟩
          go_wp2_with fail
          refine (HQ.out _).mono ?_; rintro e w' ⟨rfl, rfl⟩
          go_wp2_with fail
          go_ret2
          exact ⟨ret_2int (by rw [HV.out]) (by rw [HV.out]), HB2.out⟩
        · go_wp2_with fail
          refine (HR.out _).mono ?_; rintro e w' ⟨rfl, rfl⟩
          go_wp2_with fail
          refine (HP.out _).mono ?_; rintro e w' ⟨rfl, rfl⟩
          go_wp2_with fail
          refine (HQ.out _).mono ?_; rintro e w' ⟨rfl, rfl⟩
          go_wp2_with fail
          go_ret2
          exact ⟨ret_2int (by rw [HV.out]) (by rw [HV.out]), HB2.out⟩
      · have HE := Lib.hid E1
        have HU := Lib.hid hu
        clear E0 E1 E2 hu
        go_wp2_with fail
        refine (HR.out _).mono ?_; rintro e w' ⟨rfl, rfl⟩
        go_wp2_with fail
        refine (HP.out _).mono ?_; rintro e w' ⟨rfl, rfl⟩
        go_wp2_with fail
        refine (HQ.out _).mono ?_; rintro e w' ⟨rfl, rfl⟩
        go_upto_region 13 with fail
        go_quiet (fail)
        go_wp2_with fail
        go_roundw
        case rel =>
          have hbl := below_drewN HB2.out nq
          refine ⟨hbl, .inr (.inr (.inl ⟨a, v, ha, hv, HA, HU, rfl, by rw [← or_at1 a v ha hv, ← HE.out]; rfl⟩))⟩
        case measure => simp [intOf]
    · obtain ⟨r, p, q, hr, hp, hq, hd⟩ := places b6 b7 b8 true
      have HR := Lib.hid fun W => IndexByte_of ⟨#[45, 114]⟩ b6 r hr W
      have HP := Lib.hid fun W => IndexByte_of ⟨#[45, 119]⟩ b7 p hp W
      have HQ : Hid (∀ W, Calls Tryd.prog 15 #[.string (bs [45, 120, 84, 116]), .int .u8 (b8.toNat : Int)] W fun e w' => e = .returned (.int .i64 q) ∧ W = w') := Lib.hid fun W => IndexByte_of (bs [45, 120, 84, 116]) b8 q hq W
      clear hr hp hq
      have t0 := fun W => third_2 W (bs [45, 120, 83, 115]) (bs [45, 120, 83, 115]) (bs [45, 120, 84, 116])
      rcases hd with ⟨hn, hd⟩ | ⟨⟨g1, g2, g3⟩, v, hv, hu, E0, E1, E2⟩
      · have HV : Hid (mdR s.data.toList = (0, 3)) := by unfold Hid; rw [HL.out]; exact mdR_form rfl (.inr (.inr hn))
        clear hn
        rcases hd with d | ⟨d1, d2⟩ | ⟨d1, d2, d3⟩
        · go_wp2_with fail
          refine (HR.out _).mono ?_; rintro e w' ⟨rfl, rfl⟩
          go_wp2_with fail
          refine (HP.out _).mono ?_; rintro e w' ⟨rfl, rfl⟩
          go_wp2_with fail
          refine (HQ.out _).mono ?_; rintro e w' ⟨rfl, rfl⟩
          go_wp2_with fail
          go_ret2
          exact ⟨ret_2int (by rw [HV.out]) (by rw [HV.out]), HB2.out⟩
        · go_wp2_with fail
          refine (HR.out _).mono ?_; rintro e w' ⟨rfl, rfl⟩
          go_wp2_with fail
          refine (HP.out _).mono ?_; rintro e w' ⟨rfl, rfl⟩
          go_wp2_with fail
          refine (HQ.out _).mono ?_; rintro e w' ⟨rfl, rfl⟩
          go_wp2_with fail
          go_ret2
          exact ⟨ret_2int (by rw [HV.out]) (by rw [HV.out]), HB2.out⟩
        · go_wp2_with fail
          refine (HR.out _).mono ?_; rintro e w' ⟨rfl, rfl⟩
          go_wp2_with fail
          refine (HP.out _).mono ?_; rintro e w' ⟨rfl, rfl⟩
          go_wp2_with fail
          refine (HQ.out _).mono ?_; rintro e w' ⟨rfl, rfl⟩
          go_wp2_with fail
          go_ret2
          exact ⟨ret_2int (by rw [HV.out]) (by rw [HV.out]), HB2.out⟩
      · have HE := Lib.hid E2
        have HU := Lib.hid hu
        clear E0 E1 E2 hu
        go_wp2_with fail
        refine (HR.out _).mono ?_; rintro e w' ⟨rfl, rfl⟩
        go_wp2_with fail
        refine (HP.out _).mono ?_; rintro e w' ⟨rfl, rfl⟩
        go_wp2_with fail
        refine (HQ.out _).mono ?_; rintro e w' ⟨rfl, rfl⟩
        go_upto_region 13 with fail
        go_quiet (fail)
        go_wp2_with fail
        go_roundw
        case rel =>
          have hbl := below_drewN HB2.out nq
          refine ⟨hbl, .inr (.inr (.inr ⟨a, b, v, ha, hb, hv, HA, HBb, HU, rfl, by rw [← or_at2 a b v ha hb hv, ← HE.out]; rfl⟩))⟩
        case measure => simp [intOf]
    · have HV : Hid (mdR s.data.toList = (((kOf a 64 2048 + kOf b 8 1024 + kOf c 1 512 : Nat) : Int), 0)) := by
        unfold Hid
        rw [HL.out, mdR_ok rfl (show un3 ([b0, b1, b2, b3, b4, b5, b6, b7, b8].take 3) false = some a from HA.out) (show un3 (([b0, b1, b2, b3, b4, b5, b6, b7, b8].drop 3).take 3) false = some b from HBb.out) (show un3 ([b0, b1, b2, b3, b4, b5, b6, b7, b8].drop 6) true = some c from HC.out)]
        congr 2
        simp only [kOf, Nat.mul_one]
      go_wp2_with fail
      go_ret2
      exact ⟨ret_2int (by rw [HV.out]) (by rw [HV.out]), HB2.out⟩
theorem Parse_any (s : ByteArray) (w : World) (T : Thirds w) (hs : s.size ≤ maxLen) : Calls Tryd.prog 10 #[.string s] w fun e w' => e = .returned (.tuple #[.int .i64 (mdR s.data.toList).1, .int .i64 (mdR s.data.toList).2]) ∧ Below w.heap.size w w' := by
  by_cases h : s.size = 9
  · have hl : s.data.toList.length = 9 := by rw [size_list']; exact h
    generalize hg : s.data.toList = l at hl
    match l, hl with
    | [b0, b1, b2, b3, b4, b5, b6, b7, b8], _ =>
      rw [← hg]
      exact Parse_nine s w T b0 b1 b2 b3 b4 b5 b6 b7 b8 hg
  · rw [mdR_size (by rw [size_list']; exact h)]
    exact (Parse_size s w hs h).mono fun e w' ⟨he, hw⟩ => ⟨he, by rw [← hw]; exact Below.refl _ _⟩
end Go.Proofs.YthdkfpknblinfaaDoor
