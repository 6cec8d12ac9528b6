/- The reference's reading of a mode. -/
import Derived.Test.YthdkfpknblinfaaDoorMetR
import Derived.Test.YthdkfpknblinfaaDoorMetP
set_option linter.unusedVariables false
set_option maxRecDepth 100000
namespace Go.Proofs.YthdkfpknblinfaaDoor
open Go.RowKit
open Go.OpenShut
theorem rOf_size (s : ByteArray) (w : World) (hs : s.size ≤ maxLen) (h : s.size ≠ 9) : Calls Tryd.prog 11 #[.string s] w fun e w' => e = .returned (.tuple #[.int .i64 0, .int .i64 1]) ∧ w = w' := by
  unfold maxLen at hs
  have h' : ((s.size : Int) != 9) = true := by simp; omega
  clear h
  go_enter Tryd.func11, Tryd.ntmps11
  go_wp2_with fail
  go_ret2
  exact ⟨rfl, rfl⟩
theorem un3_hit (j : Nat) (h : j < 16) (t : Bool) : un3 (md3 (j % 8) (j / 8) t) t = some j := by
  have h1 := un3_md3 ⟨j % 8, Nat.mod_lt _ (by omega)⟩ ⟨j / 8, by omega⟩ t
  simp only at h1
  rw [h1]; congr 1; omega
theorem hit_yes (j : Nat) (hj : j < 16) (l : List UInt8) (t : Bool) (h : un3 l t = some j) : ((bs (md3 (j % 8) (j / 8) t)).toList == (bs l).toList) = true := by
  rw [str_eq, (un3_of h).2]; simp
theorem hit_no (j : Nat) (hj : j < 16) (l : List UInt8) (t : Bool) (h : un3 l t ≠ some j) : ((bs (md3 (j % 8) (j / 8) t)).toList == (bs l).toList) = false := by
  rw [str_eq, decide_eq_false_iff_not]
  intro e
  have e2 : md3 (j % 8) (j / 8) t = l := congrArg (fun b : ByteArray => b.data.toList) e
  exact h (by rw [← e2]; exact un3_hit j hj t)
theorem none_of (l : List UInt8) (t : Bool) (h : ∀ v, v < 16 → un3 l t ≠ some v) : un3 l t = none := by
  rcases e : un3 l t with _ | v
  · rfl
  · exact absurd e (h v (un3_of e).1)
theorem txt2 : ∀ j : Fin 16, (mdL (kOf j 64 2048)).take 3 = md3 (j.val % 8) (j.val / 8) false := by decide +kernel
theorem txt1 : ∀ j : Fin 16, ((mdL (kOf j 8 1024)).take 6).drop 3 = md3 (j.val % 8) (j.val / 8) false := by decide +kernel
theorem txt0 : ∀ j : Fin 16, ((mdL (kOf j 1 512)).take 9).drop 6 = md3 (j.val % 8) (j.val / 8) true := by decide +kernel
theorem ext_bs (l : List UInt8) (a b : Nat) : (bs l).extract a b = bs ((l.take b).drop a) := by
  apply ByteArray.ext; apply Array.toList_inj.1
  rw [ByteArray.data_extract, Array.toList_extract]; simp [List.extract, List.drop_take, bs]
theorem txt_2 (j : Nat) (h : j < 16) : (bs (mdL (kOf j 64 2048))).extract 0 3 = bs (md3 (j % 8) (j / 8) false) := by
  rw [ext_bs, List.drop_zero, txt2 ⟨j, h⟩]
theorem txt_1 (j : Nat) (h : j < 16) : (bs (mdL (kOf j 8 1024))).extract 3 6 = bs (md3 (j % 8) (j / 8) false) := by
  rw [ext_bs, txt1 ⟨j, h⟩]
theorem txt_0 (j : Nat) (h : j < 16) : (bs (mdL (kOf j 1 512))).extract 6 9 = bs (md3 (j % 8) (j / 8) true) := by
  rw [ext_bs, txt0 ⟨j, h⟩]
theorem k2_lt (v : Nat) (h : v < 16) : kOf v 64 2048 < 4096 := by have := k_lt ⟨v, h⟩ 0 0; simp only at this; omega
theorem k1_lt (v : Nat) (h : v < 16) : kOf v 8 1024 < 4096 := by have := k_lt 0 ⟨v, h⟩ 0; simp only at this; omega
theorem k0_lt' (v : Nat) (h : v < 16) : kOf v 1 512 < 4096 := by have := k_lt 0 0 ⟨v, h⟩; simp only at this; omega
theorem k21_lt (a v : Nat) (ha : a < 16) (h : v < 16) : kOf a 64 2048 + kOf v 8 1024 < 4096 := by have := k_lt ⟨a, ha⟩ ⟨v, h⟩ 0; simp only at this; omega
set_option maxHeartbeats 8000000 in
theorem rOf_nine (s : ByteArray) (w : World) (b0 b1 b2 b3 b4 b5 b6 b7 b8 : UInt8) (hl : s.data.toList = [b0, b1, b2, b3, b4, b5, b6, b7, b8]) : Calls Tryd.prog 11 #[.string s] w fun e w' => e = .returned (.tuple #[.int .i64 (mdR s.data.toList).1, .int .i64 (mdR s.data.toList).2]) ∧ Below w.heap.size w w' := by
  have hz : s.size = 9 := by rw [← size_list' s, hl]; rfl
  have hsb : s = bs [b0, b1, b2, b3, b4, b5, b6, b7, b8] := by rw [← hl, bs_of]
  have hx2 : s.extract 0 3 = bs [b0, b1, b2] := by rw [hsb, ext_bs]; rfl
  have hx1 : s.extract 3 6 = bs [b3, b4, b5] := by rw [hsb, ext_bs]; rfl
  have hx0 : s.extract 6 9 = bs [b6, b7, b8] := by rw [hsb, ext_bs]; rfl
  have HL := Lib.hid hl
  clear hl hsb
  go_enter Tryd.func11, Tryd.ntmps11
  go_wp2_with fail
  go_loopw [4, 5] (fun m i wr => Hid (Below w.heap.size w wr) ∧ (i = .int .i64 2 ∧ m = .int .i64 (0 : Nat) ∨ (∃ a : Nat, a < 16 ∧ Hid (un3 [b0, b1, b2] false = some a) ∧ i = .int .i64 1 ∧ m = .int .i64 (kOf a 64 2048 : Nat)) ∨
    (∃ a b : Nat, a < 16 ∧ b < 16 ∧ Hid (un3 [b0, b1, b2] false = some a) ∧ Hid (un3 [b3, b4, b5] false = some b) ∧ i = .int .i64 0 ∧ m = .int .i64 (kOf a 64 2048 + kOf b 8 1024 : Nat)) ∨
    (∃ a b c : Nat, a < 16 ∧ b < 16 ∧ c < 16 ∧ Hid (un3 [b0, b1, b2] false = some a) ∧ Hid (un3 [b3, b4, b5] false = some b) ∧ Hid (un3 [b6, b7, b8] true = some c) ∧ i = .int .i64 (-1) ∧ m = .int .i64 (kOf a 64 2048 + kOf b 8 1024 + kOf c 1 512 : Nat)))) (fun _ i _ => (intOf i + 1).toNat)
  case atStart => exact ⟨Below.refl _ _, .inl ⟨rfl, rfl⟩⟩
  case round =>
    obtain ⟨HB2, hd0⟩ := hrel
    rcases hd0 with ⟨rfl, rfl⟩ | ⟨a, ha, HA, rfl, rfl⟩ | ⟨a, b, ha, hb, HA, HBb, rfl, rfl⟩ | ⟨a, b, c, ha, hb, hc, HA, HBb, HC, rfl, rfl⟩
    · obtain ⟨S3, hS3⟩ := hid_name (bs [b0, b1, b2])
      have hx := Lib.hid hx2
      have hx : s.extract 0 3 = S3 := by rw [hx.out, hS3.out]
      have HPw := Lib.hid fun W => power_any 2 W (by omega) (by omega)
      have HT := Lib.hid fun W j h => rText_yes (kOf j 64 2048) W (k2_lt j h)
      clear hx2 hx1 hx0
      go_wp2_with fail
      go_loopw [4, 7, 8] (fun m f x wr => ∃ j : Nat, j ≤ 16 ∧ x = .int .i64 j ∧ Hid (Below w.heap.size w wr) ∧ (m = .int .i64 (0 : Nat) ∧ f = .bool false ∧ Hid (∀ v, v < j → un3 [b0, b1, b2] false ≠ some v) ∨ ∃ v : Nat, v < j ∧ Hid (un3 [b0, b1, b2] false = some v) ∧ m = .int .i64 (0 + kOf v 64 2048 : Nat) ∧ f = .bool true)) (fun _ _ x _ => 16 - (intOf x).toNat)
      case atStart => exact ⟨0, by omega, rfl, HB2, .inl ⟨rfl, rfl, fun v hv => absurd hv (by omega)⟩⟩
      case round =>
        obtain ⟨j, hj, rfl, HB3, hd⟩ := hrel
        by_cases hlt : j < 16
        · have hE : (j : Int) % 8 * 64 + (j : Int) / 8 * 512 * 4 = ((kOf j 64 2048 : Nat) : Int) := by unfold kOf; omega
          have hk := k2_lt j hlt
          have hex := txt_2 j hlt
          have HT2 := Lib.hid fun W => HT.out W j hlt
          have HM := Lib.hid (fun h => hit_yes j hlt [b0, b1, b2] false h)
          have HO := Lib.hid (fun h => hit_no j hlt [b0, b1, b2] false h)
          obtain ⟨T, hT⟩ := hid_name (bs (mdL (kOf j 64 2048)))
          obtain ⟨T3, hT3⟩ := hid_name (bs (md3 (j % 8) (j / 8) false))
          have hTs : T.size = 9 := by rw [← hT.out]; rfl
          rw [hT.out, hT3.out] at hex
          rw [hT.out] at HT2
          rw [hT3.out, hS3.out] at HM HO
          obtain ⟨K, hK⟩ := hid_name (kOf j 64 2048)
          rw [hK.out] at hE hk HT2
          rcases hd with ⟨rfl, rfl, HN⟩ | ⟨v, hv, HU, rfl, rfl⟩
          · by_cases hu : un3 [b0, b1, b2] false = some j
            · have heq := HM.out hu
              have HU := Lib.hid hu
              clear hu
              go_upto_region 12 with fail
              go_quiet ((go_at_call 14; exact Calls.quiet_of_same (flip_same (HPw.out _))))
              go_upto_region 13 with fail
              try rw [hE]
              go_wp2_with fail
              refine (HT2.out _).mono ?_; rintro e w4 ⟨rfl, hb4⟩
              have HB4 := Lib.hid ((below_drewN HB3.out _).trans (hb4.mono (below_drewN HB3.out _).size))
              clear hb4
              go_wp2_with fail
              go_roundw
              case rel => exact ⟨j + 1, by omega, by go_num, HB4, .inr ⟨j, by omega, HU, by first | (rw [hK.out]; done) | (rw [hK.out]; congr 1; done) | (rw [hK.out]; congr 1; omega), rfl⟩⟩
              case measure => simp [intOf]; omega
            · have hne := HO.out hu
              have HN2 : Hid (∀ v, v < j + 1 → un3 [b0, b1, b2] false ≠ some v) := fun v hv e => by
                rcases Nat.lt_or_ge v j with h' | h'
                · exact HN.out v h' e
                · obtain rfl : v = j := by omega
                  exact hu e
              clear hu
              go_upto_region 12 with fail
              go_quiet ((go_at_call 14; exact Calls.quiet_of_same (flip_same (HPw.out _))))
              go_upto_region 13 with fail
              try rw [hE]
              go_wp2_with fail
              refine (HT2.out _).mono ?_; rintro e w4 ⟨rfl, hb4⟩
              have HB4 := Lib.hid ((below_drewN HB3.out _).trans (hb4.mono (below_drewN HB3.out _).size))
              clear hb4
              go_wp2_with fail
              go_roundw
              case rel => exact ⟨j + 1, by omega, by go_num, HB4, .inl ⟨rfl, rfl, HN2⟩⟩
              case measure => simp [intOf]; omega
          · have hne := HO.out (fun e => by rw [HU.out] at e; injection e with e; omega)
            go_upto_region 12 with fail
            go_quiet ((go_at_call 14; exact Calls.quiet_of_same (flip_same (HPw.out _))))
            go_upto_region 13 with fail
            try rw [hE]
            go_wp2_with fail
            refine (HT2.out _).mono ?_; rintro e w4 ⟨rfl, hb4⟩
            have HB4 := Lib.hid ((below_drewN HB3.out _).trans (hb4.mono (below_drewN HB3.out _).size))
            clear hb4
            go_wp2_with fail
            go_roundw
            case rel => exact ⟨j + 1, by omega, by go_num, HB4, .inr ⟨v, by omega, HU, by first | rfl | rw [Nat.zero_add], rfl⟩⟩
            case measure => simp [intOf]; omega
        · obtain rfl : j = 16 := by omega
          clear HT HPw
          rcases hd with ⟨rfl, rfl, HN⟩ | ⟨v, hv, HU, rfl, rfl⟩
          · have HV : Hid (mdR s.data.toList = (0, 3)) := by unfold Hid; rw [HL.out]; exact mdR_form rfl (.inl (none_of _ _ HN.out))
            go_wp2_with fail
            go_ret2
            exact ⟨ret_2int (by rw [HV.out]) (by rw [HV.out]), HB3.out⟩
          · go_wp2_with fail
            go_roundw
            case rel => exact ⟨HB3, .inr (.inl ⟨v, hv, HU, rfl, by first | rfl | rw [Nat.zero_add]⟩)⟩
            case measure => simp [intOf]
    · obtain ⟨S3, hS3⟩ := hid_name (bs [b3, b4, b5])
      have hx := Lib.hid hx1
      have hx : s.extract 3 6 = S3 := by rw [hx.out, hS3.out]
      have HPw := Lib.hid fun W => power_any 1 W (by omega) (by omega)
      have HT := Lib.hid fun W j h => rText_yes (kOf j 8 1024) W (k1_lt j h)
      obtain ⟨M0, hM0, HM0⟩ : ∃ M : Nat, M < 4096 ∧ Hid (kOf a 64 2048 = M) := ⟨_, k2_lt a ha, rfl⟩
      rw [HM0.out]
      clear hx2 hx1 hx0
      go_wp2_with fail
      go_loopw [4, 7, 8] (fun m f x wr => ∃ j : Nat, j ≤ 16 ∧ x = .int .i64 j ∧ Hid (Below w.heap.size w wr) ∧ (m = .int .i64 (M0 : Nat) ∧ f = .bool false ∧ Hid (∀ v, v < j → un3 [b3, b4, b5] false ≠ some v) ∨ ∃ v : Nat, v < j ∧ Hid (un3 [b3, b4, b5] false = some v) ∧ m = .int .i64 (M0 + kOf v 8 1024 : Nat) ∧ f = .bool true)) (fun _ _ x _ => 16 - (intOf x).toNat)
      case atStart => exact ⟨0, by omega, rfl, HB2, .inl ⟨rfl, rfl, fun v hv => absurd hv (by omega)⟩⟩
      case round =>
        obtain ⟨j, hj, rfl, HB3, hd⟩ := hrel
        by_cases hlt : j < 16
        · have hE : (j : Int) % 8 * 8 + (j : Int) / 8 * 512 * 2 = ((kOf j 8 1024 : Nat) : Int) := by unfold kOf; omega
          have hk := k1_lt j hlt
          have hex := txt_1 j hlt
          have HT2 := Lib.hid fun W => HT.out W j hlt
          have HM := Lib.hid (fun h => hit_yes j hlt [b3, b4, b5] false h)
          have HO := Lib.hid (fun h => hit_no j hlt [b3, b4, b5] false h)
          obtain ⟨T, hT⟩ := hid_name (bs (mdL (kOf j 8 1024)))
          obtain ⟨T3, hT3⟩ := hid_name (bs (md3 (j % 8) (j / 8) false))
          have hTs : T.size = 9 := by rw [← hT.out]; rfl
          rw [hT.out, hT3.out] at hex
          rw [hT.out] at HT2
          rw [hT3.out, hS3.out] at HM HO
          obtain ⟨K, hK⟩ := hid_name (kOf j 8 1024)
          rw [hK.out] at hE hk HT2
          rcases hd with ⟨rfl, rfl, HN⟩ | ⟨v, hv, HU, rfl, rfl⟩
          · by_cases hu : un3 [b3, b4, b5] false = some j
            · have heq := HM.out hu
              have HU := Lib.hid hu
              clear hu
              go_upto_region 12 with fail
              go_quiet ((go_at_call 14; exact Calls.quiet_of_same (flip_same (HPw.out _))))
              go_upto_region 13 with fail
              try rw [hE]
              go_wp2_with fail
              refine (HT2.out _).mono ?_; rintro e w4 ⟨rfl, hb4⟩
              have HB4 := Lib.hid ((below_drewN HB3.out _).trans (hb4.mono (below_drewN HB3.out _).size))
              clear hb4
              go_wp2_with fail
              go_roundw
              case rel => exact ⟨j + 1, by omega, by go_num, HB4, .inr ⟨j, by omega, HU, by first | (rw [hK.out]; done) | (rw [hK.out]; congr 1; done) | (rw [hK.out]; congr 1; omega), rfl⟩⟩
              case measure => simp [intOf]; omega
            · have hne := HO.out hu
              have HN2 : Hid (∀ v, v < j + 1 → un3 [b3, b4, b5] false ≠ some v) := fun v hv e => by
                rcases Nat.lt_or_ge v j with h' | h'
                · exact HN.out v h' e
                · obtain rfl : v = j := by omega
                  exact hu e
              clear hu
              go_upto_region 12 with fail
              go_quiet ((go_at_call 14; exact Calls.quiet_of_same (flip_same (HPw.out _))))
              go_upto_region 13 with fail
              try rw [hE]
              go_wp2_with fail
              refine (HT2.out _).mono ?_; rintro e w4 ⟨rfl, hb4⟩
              have HB4 := Lib.hid ((below_drewN HB3.out _).trans (hb4.mono (below_drewN HB3.out _).size))
              clear hb4
              go_wp2_with fail
              go_roundw
              case rel => exact ⟨j + 1, by omega, by go_num, HB4, .inl ⟨rfl, rfl, HN2⟩⟩
              case measure => simp [intOf]; omega
          · have hne := HO.out (fun e => by rw [HU.out] at e; injection e with e; omega)
            go_upto_region 12 with fail
            go_quiet ((go_at_call 14; exact Calls.quiet_of_same (flip_same (HPw.out _))))
            go_upto_region 13 with fail
            try rw [hE]
            go_wp2_with fail
            refine (HT2.out _).mono ?_; rintro e w4 ⟨rfl, hb4⟩
            have HB4 := Lib.hid ((below_drewN HB3.out _).trans (hb4.mono (below_drewN HB3.out _).size))
            clear hb4
            go_wp2_with fail
            go_roundw
            case rel => exact ⟨j + 1, by omega, by go_num, HB4, .inr ⟨v, by omega, HU, by first | rfl | rw [Nat.zero_add], rfl⟩⟩
            case measure => simp [intOf]; omega
        · obtain rfl : j = 16 := by omega
          clear HT HPw
          rcases hd with ⟨rfl, rfl, HN⟩ | ⟨v, hv, HU, rfl, rfl⟩
          · have HV : Hid (mdR s.data.toList = (0, 3)) := by unfold Hid; rw [HL.out]; exact mdR_form rfl (.inr (.inl (none_of _ _ HN.out)))
            go_wp2_with fail
            go_ret2
            exact ⟨ret_2int (by rw [HV.out]) (by rw [HV.out]), HB3.out⟩
          · go_wp2_with fail
            go_roundw
            case rel => exact ⟨HB3, .inr (.inr (.inl ⟨a, v, ha, hv, HA, HU, rfl, by rw [← HM0.out]⟩))⟩
            case measure => simp [intOf]
    · obtain ⟨S3, hS3⟩ := hid_name (bs [b6, b7, b8])
      have hx := Lib.hid hx0
      have hx : s.extract 6 9 = S3 := by rw [hx.out, hS3.out]
      have HPw := Lib.hid fun W => power_any 0 W (by omega) (by omega)
      have HT := Lib.hid fun W j h => rText_yes (kOf j 1 512) W (k0_lt' j h)
      obtain ⟨M0, hM0, HM0⟩ : ∃ M : Nat, M < 4096 ∧ Hid (kOf a 64 2048 + kOf b 8 1024 = M) := ⟨_, k21_lt a b ha hb, rfl⟩
      rw [HM0.out]
      clear hx2 hx1 hx0
      go_wp2_with fail
      go_loopw [4, 7, 8] (fun m f x wr => ∃ j : Nat, j ≤ 16 ∧ x = .int .i64 j ∧ Hid (Below w.heap.size w wr) ∧ (m = .int .i64 (M0 : Nat) ∧ f = .bool false ∧ Hid (∀ v, v < j → un3 [b6, b7, b8] true ≠ some v) ∨ ∃ v : Nat, v < j ∧ Hid (un3 [b6, b7, b8] true = some v) ∧ m = .int .i64 (M0 + kOf v 1 512 : Nat) ∧ f = .bool true)) (fun _ _ x _ => 16 - (intOf x).toNat)
      case atStart => exact ⟨0, by omega, rfl, HB2, .inl ⟨rfl, rfl, fun v hv => absurd hv (by omega)⟩⟩
      case round =>
        obtain ⟨j, hj, rfl, HB3, hd⟩ := hrel
        by_cases hlt : j < 16
        · have hE : (j : Int) % 8 + (j : Int) / 8 * 512 = ((kOf j 1 512 : Nat) : Int) := by unfold kOf; omega
          have hk := k0_lt' j hlt
          have hex := txt_0 j hlt
          have HT2 := Lib.hid fun W => HT.out W j hlt
          have HM := Lib.hid (fun h => hit_yes j hlt [b6, b7, b8] true h)
          have HO := Lib.hid (fun h => hit_no j hlt [b6, b7, b8] true h)
          obtain ⟨T, hT⟩ := hid_name (bs (mdL (kOf j 1 512)))
          obtain ⟨T3, hT3⟩ := hid_name (bs (md3 (j % 8) (j / 8) true))
          have hTs : T.size = 9 := by rw [← hT.out]; rfl
          rw [hT.out, hT3.out] at hex
          rw [hT.out] at HT2
          rw [hT3.out, hS3.out] at HM HO
          obtain ⟨K, hK⟩ := hid_name (kOf j 1 512)
          rw [hK.out] at hE hk HT2
          rcases hd with ⟨rfl, rfl, HN⟩ | ⟨v, hv, HU, rfl, rfl⟩
          · by_cases hu : un3 [b6, b7, b8] true = some j
            · have heq := HM.out hu
              have HU := Lib.hid hu
              clear hu
              go_upto_region 12 with fail
              go_quiet ((go_at_call 14; exact Calls.quiet_of_same (flip_same (HPw.out _))))
              go_upto_region 13 with fail
              try rw [hE]
              go_wp2_with fail
              refine (HT2.out _).mono ?_; rintro e w4 ⟨rfl, hb4⟩
              have HB4 := Lib.hid ((below_drewN HB3.out _).trans (hb4.mono (below_drewN HB3.out _).size))
              clear hb4
              go_wp2_with fail
              go_roundw
              case rel => exact ⟨j + 1, by omega, by go_num, HB4, .inr ⟨j, by omega, HU, by first | (rw [hK.out]; done) | (rw [hK.out]; congr 1; done) | (rw [hK.out]; congr 1; omega), rfl⟩⟩
              case measure => simp [intOf]; omega
            · have hne := HO.out hu
              have HN2 : Hid (∀ v, v < j + 1 → un3 [b6, b7, b8] true ≠ some v) := fun v hv e => by
                rcases Nat.lt_or_ge v j with h' | h'
                · exact HN.out v h' e
                · obtain rfl : v = j := by omega
                  exact hu e
              clear hu
              go_upto_region 12 with fail
              go_quiet ((go_at_call 14; exact Calls.quiet_of_same (flip_same (HPw.out _))))
              go_upto_region 13 with fail
              try rw [hE]
              go_wp2_with fail
              refine (HT2.out _).mono ?_; rintro e w4 ⟨rfl, hb4⟩
              have HB4 := Lib.hid ((below_drewN HB3.out _).trans (hb4.mono (below_drewN HB3.out _).size))
              clear hb4
              go_wp2_with fail
              go_roundw
              case rel => exact ⟨j + 1, by omega, by go_num, HB4, .inl ⟨rfl, rfl, HN2⟩⟩
              case measure => simp [intOf]; omega
          · have hne := HO.out (fun e => by rw [HU.out] at e; injection e with e; omega)
            go_upto_region 12 with fail
            go_quiet ((go_at_call 14; exact Calls.quiet_of_same (flip_same (HPw.out _))))
            go_upto_region 13 with fail
            try rw [hE]
            go_wp2_with fail
            refine (HT2.out _).mono ?_; rintro e w4 ⟨rfl, hb4⟩
            have HB4 := Lib.hid ((below_drewN HB3.out _).trans (hb4.mono (below_drewN HB3.out _).size))
            clear hb4
            go_wp2_with fail
            go_roundw
            case rel => exact ⟨j + 1, by omega, by go_num, HB4, .inr ⟨v, by omega, HU, by first | rfl | rw [Nat.zero_add], rfl⟩⟩
            case measure => simp [intOf]; omega
        · obtain rfl : j = 16 := by omega
          clear HT HPw
          rcases hd with ⟨rfl, rfl, HN⟩ | ⟨v, hv, HU, rfl, rfl⟩
          · have HV : Hid (mdR s.data.toList = (0, 3)) := by unfold Hid; rw [HL.out]; exact mdR_form rfl (.inr (.inr (none_of _ _ HN.out)))
            go_wp2_with fail
            go_ret2
            exact ⟨ret_2int (by rw [HV.out]) (by rw [HV.out]), HB3.out⟩
          · go_wp2_with fail
            go_roundw
            case rel => exact ⟨HB3, .inr (.inr (.inr ⟨a, b, v, ha, hb, hv, HA, HBb, HU, rfl, by rw [← HM0.out]⟩))⟩
            case measure => simp [intOf]
    · have HV : Hid (mdR s.data.toList = (((kOf a 64 2048 + kOf b 8 1024 + kOf c 1 512 : Nat) : Int), 0)) := by
        unfold Hid
        rw [HL.out, mdR_ok rfl (show un3 ([b0, b1, b2, b3, b4, b5, b6, b7, b8].take 3) false = some a from HA.out) (show un3 (([b0, b1, b2, b3, b4, b5, b6, b7, b8].drop 3).take 3) false = some b from HBb.out) (show un3 ([b0, b1, b2, b3, b4, b5, b6, b7, b8].drop 6) true = some c from HC.out)]
        congr 2
        simp only [kOf, Nat.mul_one]
      clear hx2 hx1 hx0
      go_wp2_with fail
      go_ret2
      exact ⟨ret_2int (by rw [HV.out]) (by rw [HV.out]), HB2.out⟩
theorem rOf_any (s : ByteArray) (w : World) (hs : s.size ≤ maxLen) : Calls Tryd.prog 11 #[.string s] w fun e w' => e = .returned (.tuple #[.int .i64 (mdR s.data.toList).1, .int .i64 (mdR s.data.toList).2]) ∧ Below w.heap.size w w' := by
  by_cases h : s.size = 9
  · have hl : s.data.toList.length = 9 := by rw [size_list']; exact h
    generalize hg : s.data.toList = l at hl
    match l, hl with
    | [b0, b1, b2, b3, b4, b5, b6, b7, b8], _ =>
      rw [← hg]
      exact rOf_nine s w b0 b1 b2 b3 b4 b5 b6 b7 b8 hg
  · rw [mdR_size (by rw [size_list']; exact h)]
    exact (rOf_size s w hs h).mono fun e w' ⟨he, hw⟩ => ⟨he, by rw [← hw]; exact Below.refl _ _⟩
end Go.Proofs.YthdkfpknblinfaaDoor
