/- The laws on modes. -/
import Derived.Test.YthdkfpknblinfaaDoorMetS
set_option linter.unusedVariables false
set_option maxRecDepth 100000
namespace Go.Proofs.YthdkfpknblinfaaDoor
open Go.RowKit
open Go.OpenShut
theorem mdW_text {n : Nat} (h : n < 4096) : mdW (n : Int) = (bs (mdL n), 0) := by rw [mdW_ok ⟨by omega, by omega⟩, Int.toNat_natCast]
theorem Text_any (n : Int) (w : World) (T : Thirds w) : Calls Tryd.prog 8 #[.int .i64 n] w fun e w' => e = .returned (.tuple #[.string (mdW n).1, .int .i64 (mdW n).2]) ∧ Below w.heap.size w w' := by
  rcases h : mdB n with _ | _
  · rw [mdW_no (mdB_off h)]
    exact (Text_no n w h).mono fun e w' ⟨he, hw⟩ => ⟨he, by rw [← hw]; exact Below.refl _ _⟩
  · obtain ⟨h1, h2⟩ := mdB_of h
    obtain ⟨m, rfl⟩ := Int.eq_ofNat_of_zero_le h1
    rw [mdW_text (by omega)]
    exact Text_yes m w T (by omega)
theorem rText_any (n : Int) (w : World) : Calls Tryd.prog 9 #[.int .i64 n] w fun e w' => e = .returned (.tuple #[.string (mdW n).1, .int .i64 (mdW n).2]) ∧ Below w.heap.size w w' := by
  rcases h : mdB n with _ | _
  · rw [mdW_no (mdB_off h)]
    exact (rText_no n w h).mono fun e w' ⟨he, hw⟩ => ⟨he, by rw [← hw]; exact Below.refl _ _⟩
  · obtain ⟨h1, h2⟩ := mdB_of h
    obtain ⟨m, rfl⟩ := Int.eq_ofNat_of_zero_le h1
    rw [mdW_text (by omega)]
    exact rText_yes m w (by omega)
theorem mdR_zero (l : List UInt8) (h : (mdR l).2 ≠ 0) : (mdR l).1 = 0 := by
  unfold mdR at h ⊢
  split
  · rename_i hl
    rw [if_pos hl] at h
    split
    · rename_i a b c e1 e2 e3
      rw [e1, e2, e3] at h
      exact absurd rfl h
    · rfl
  · rfl
theorem pl_case {x : Int} (b : Nat) (hb : b < 2) (c : UInt8) (hx : x = (b : Int)) : x = 0 ∧ (if b = 1 then c else 45) = (45 : UInt8) ∨ x = 1 ∧ (if b = 1 then c else 45) = c := by
  rcases (show b = 0 ∨ b = 1 by omega) with rfl | rfl
  · exact .inl ⟨hx, rfl⟩
  · exact .inr ⟨hx, rfl⟩
set_option maxHeartbeats 1000000 in
theorem MetaTells_walk (a0 : Int) (w0 : (Lit.int .i64 a0).wf = true) (w : World) (hL : laidMetH Tryd.prog Rows.metaTellsRow.laid w) :
    Calls Tryd.prog 3 #[.int .i64 a0] w fun e w' => e = .returned (.bool true) ∧ Below w.heap.size w w' := by
  have T : Thirds w := thirds_of_laid hL (by kernel_rfl) rfl
  clear hL w0
  have H1 := Lib.hid fun W T => Text_any a0 W T
  have H2 := Lib.hid fun W => rText_any a0 W
  obtain ⟨R, HR⟩ := hid_name (mdW a0)
  rw [HR.out] at H1 H2
  obtain ⟨S, c⟩ := R
  simp only at H1 H2
  go_enter Tryd.func3, Tryd.ntmps3
  go_wp2_with fail
  refine (H1.out _ T).mono ?_; rintro e w1 ⟨rfl, hb1⟩
  have HB1 := Lib.hid hb1
  clear hb1
  go_wp2_with fail
  refine (H2.out _).mono ?_; rintro e w2 ⟨rfl, hb2⟩
  have HB2 := Lib.hid (HB1.out.trans (hb2.mono HB1.out.size))
  clear hb2
  go_wp2_with fail
  go_ret
  exact ⟨rfl, HB2.out⟩
set_option maxHeartbeats 1000000 in
theorem MetaParses_walk (a0 : ByteArray) (w0 : a0.size ≤ maxLen) (r0 : a0.size ≤ 140737488351232) (w : World) (hL : laidMetH Tryd.prog Rows.metaParsesRow.laid w) :
    Calls Tryd.prog 4 #[.string a0] w fun e w' => e = .returned (.bool true) ∧ Below w.heap.size w w' := by
  have T : Thirds w := thirds_of_laid hL (by kernel_rfl) rfl
  clear hL
  have H1 := Lib.hid fun W T => Parse_any a0 W T w0
  have H2 := Lib.hid fun W => rOf_any a0 W w0
  obtain ⟨R, HR⟩ := hid_name (mdR a0.data.toList)
  rw [HR.out] at H1 H2
  obtain ⟨n, c⟩ := R
  simp only at H1 H2
  go_enter Tryd.func4, Tryd.ntmps4
  go_wp2_with fail
  refine (H1.out _ T).mono ?_; rintro e w1 ⟨rfl, hb1⟩
  have HB1 := Lib.hid hb1
  clear hb1
  go_wp2_with fail
  refine (H2.out _).mono ?_; rintro e w2 ⟨rfl, hb2⟩
  have HB2 := Lib.hid (HB1.out.trans (hb2.mono HB1.out.size))
  clear hb2
  go_wp2_with fail
  go_ret
  exact ⟨rfl, HB2.out⟩
set_option maxHeartbeats 1000000 in
theorem MetaBack_walk (a0 : Int) (w0 : (Lit.int .i64 a0).wf = true) (w : World) (hL : laidMetH Tryd.prog Rows.metaBackRow.laid w) :
    Calls Tryd.prog 5 #[.int .i64 a0] w fun e w' => e = .returned (.bool true) ∧ Below w.heap.size w w' := by
  have T : Thirds w := thirds_of_laid hL (by kernel_rfl) rfl
  clear hL
  have HP := Lib.hid fun W => picked_any a0 4096 W w0 (by omega)
  obtain ⟨q1, q2⟩ := pick_bd a0 4096 (by omega)
  obtain ⟨m, hm⟩ : ∃ m : Nat, pick a0 4096 = m := ⟨(pick a0 4096).toNat, by omega⟩
  rw [hm] at HP q1 q2
  have HT := Lib.hid fun W T => Text_yes m W T (by omega)
  have HR := Lib.hid fun W T => Parse_any (bs (mdL m)) W T (by rw [bs_size, mdL_length]; decide)
  rw [bs_list, mdR_mdL m (by omega)] at HR
  simp only at HR
  obtain ⟨S, HS⟩ := hid_name (bs (mdL m))
  have hs : S.size = 9 := by rw [← HS.out]; rfl
  rw [HS.out] at HT HR
  clear hm w0
  go_enter Tryd.func5, Tryd.ntmps5
  go_wp2_with fail
  refine (HP.out _).mono ?_; rintro e w' ⟨rfl, rfl⟩
  go_wp2_with fail
  refine (HT.out _ T).mono ?_; rintro e w1 ⟨rfl, hb1⟩
  have HB1 := Lib.hid hb1
  clear hb1
  go_wp2_with fail
  refine (HR.out _ (T.below HB1.out)).mono ?_; rintro e w2 ⟨rfl, hb2⟩
  have HB2 := Lib.hid (HB1.out.trans (hb2.mono HB1.out.size))
  clear hb2
  go_wp2_with fail
  go_ret
  exact ⟨rfl, HB2.out⟩
set_option maxHeartbeats 1000000 in
theorem MetaTurns_walk (a0 : ByteArray) (w0 : a0.size ≤ maxLen) (r0 : a0.size ≤ 140737488351232) (w : World) (hL : laidMetH Tryd.prog Rows.metaTurnsRow.laid w) :
    Calls Tryd.prog 6 #[.string a0] w fun e w' => e = .returned (.bool true) ∧ Below w.heap.size w w' := by
  have T : Thirds w := thirds_of_laid hL (by kernel_rfl) rfl
  clear hL
  have H1 := Lib.hid fun W T => Parse_any a0 W T w0
  have H2 := Lib.hid fun W T => Parse_any ⟨#[114, 119, 115, 114, 45, 120, 45, 45, 84]⟩ W T (by decide)
  have e2 : mdR (⟨#[114, 119, 115, 114, 45, 120, 45, 45, 84]⟩ : ByteArray).data.toList = (3048, 0) := by decide +kernel
  rw [e2] at H2
  simp only at H2
  by_cases hc : (mdR a0.data.toList).2 = 0
  · obtain ⟨n, hn⟩ : ∃ n : Int, mdR a0.data.toList = (n, 0) := ⟨_, Prod.ext rfl hc⟩
    obtain ⟨m, rfl, hm, hl⟩ := mdL_mdR hn
    rw [hn] at H1
    simp only at H1
    have HT := Lib.hid fun W T => Text_yes m W T hm
    rw [hl, bs_of] at HT
    clear hc hn hl e2
    go_enter Tryd.func6, Tryd.ntmps6
    go_wp2_with fail
    refine (H1.out _ T).mono ?_; rintro e w1 ⟨rfl, hb1⟩
    have HB1 := Lib.hid hb1
    clear hb1
    go_wp2_with fail
    refine (H2.out _ (T.below HB1.out)).mono ?_; rintro e w2 ⟨rfl, hb2⟩
    have HB2 := Lib.hid (HB1.out.trans (hb2.mono HB1.out.size))
    clear hb2
    go_wp2_with fail
    refine (HT.out _ (T.below HB2.out)).mono ?_; rintro e w3 ⟨rfl, hb3⟩
    have HB3 := Lib.hid (HB2.out.trans (hb3.mono HB2.out.size))
    clear hb3
    go_wp2_with fail
    go_ret
    exact ⟨rfl, HB3.out⟩
  · have h0 : (mdR a0.data.toList).1 = 0 := mdR_zero _ hc
    rw [h0] at H1
    obtain ⟨c, hcc⟩ : ∃ c, c = (mdR a0.data.toList).2 := ⟨_, rfl⟩
    rw [← hcc] at H1 hc
    have hcb : (c == 0) = false := by simpa using hc
    have hcn : (c != 0) = true := by simpa using hc
    clear hcc h0 hc e2
    go_enter Tryd.func6, Tryd.ntmps6
    go_wp2_with fail
    refine (H1.out _ T).mono ?_; rintro e w1 ⟨rfl, hb1⟩
    have HB1 := Lib.hid hb1
    clear hb1
    go_wp2_with fail
    refine (H2.out _ (T.below HB1.out)).mono ?_; rintro e w2 ⟨rfl, hb2⟩
    have HB2 := Lib.hid (HB1.out.trans (hb2.mono HB1.out.size))
    clear hb2
    go_wp2_with fail
    go_ret
    exact ⟨rfl, HB2.out⟩
/-- each sign of a mode without the three highest bits -/
theorem plain_at (n : Nat) (hn : n < 512) (k : Nat) (hk : k < 9) : ∃ (b : Int) (c : UInt8), (n : Int) / ((2 ^ (8 - k) : Nat) : Int) % 2 = b ∧ (∀ W : World, (Instr.index 9 (.string (bs (mdL n))) (.int .i64 (k : Int))).run Tryd.prog W = .ok (.int .u8 (c.toNat : Int)) W) ∧
    (b = 0 ∧ c = 45 ∨ b = 1 ∧ c = ([114, 119, 120, 114, 119, 120, 114, 119, 120] : List UInt8).getD k 0) := by
  refine ⟨_, (mdL n).getD k 0, rfl, byte_at (bs_list _) k _ (by rw [List.getD_eq_getElem?_getD, List.getElem?_eq_getElem (by rw [mdL_length]; exact hk)]; rfl), ?_⟩
  have s1 : n / 2048 % 2 = 0 := by omega
  have s2 : n / 1024 % 2 = 0 := by omega
  have s3 : n / 512 % 2 = 0 := by omega
  unfold mdL
  rw [s1, s2, s3]
  match k, hk with
  | 0, _ => exact pl_case (n / 64 % 8 / 4 % 2) (by omega) 114 (by show (n : Int) / 256 % 2 = _; omega)
  | 1, _ => exact pl_case (n / 64 % 8 / 2 % 2) (by omega) 119 (by show (n : Int) / 128 % 2 = _; omega)
  | 2, _ => exact pl_case (n / 64 % 8 % 2) (by omega) 120 (by show (n : Int) / 64 % 2 = _; omega)
  | 3, _ => exact pl_case (n / 8 % 8 / 4 % 2) (by omega) 114 (by show (n : Int) / 32 % 2 = _; omega)
  | 4, _ => exact pl_case (n / 8 % 8 / 2 % 2) (by omega) 119 (by show (n : Int) / 16 % 2 = _; omega)
  | 5, _ => exact pl_case (n / 8 % 8 % 2) (by omega) 120 (by show (n : Int) / 8 % 2 = _; omega)
  | 6, _ => exact pl_case (n % 8 / 4 % 2) (by omega) 114 (by show (n : Int) / 4 % 2 = _; omega)
  | 7, _ => exact pl_case (n % 8 / 2 % 2) (by omega) 119 (by show (n : Int) / 2 % 2 = _; omega)
  | 8, _ => exact pl_case (n % 8 % 2) (by omega) 120 (by show (n : Int) / 1 % 2 = _; omega)
set_option maxHeartbeats 4000000 in
theorem MetaPlain_walk (a0 : Int) (w0 : (Lit.int .i64 a0).wf = true) (w : World) (hL : laidMetH Tryd.prog Rows.metaPlainRow.laid w) :
    Calls Tryd.prog 7 #[.int .i64 a0] w fun e w' => e = .returned (.bool true) ∧ Below w.heap.size w w' := by
  have T : Thirds w := thirds_of_laid hL (by kernel_rfl) rfl
  clear hL
  have HP := Lib.hid fun W => picked_any a0 512 W w0 (by omega)
  obtain ⟨q1, q2⟩ := pick_bd a0 512 (by omega)
  obtain ⟨m, hm⟩ : ∃ m : Nat, pick a0 512 = m := ⟨(pick a0 512).toNat, by omega⟩
  rw [hm] at HP q1 q2
  have HT := Lib.hid fun W T => Text_yes m W T (by omega)
  have HA := Lib.hid fun k hk => plain_at m (by omega) k hk
  obtain ⟨S, HS⟩ := hid_name (bs (mdL m))
  have hs : S.size = 9 := by rw [← HS.out]; rfl
  rw [HS.out] at HT HA
  clear hm w0
  go_enter Tryd.func7, Tryd.ntmps7
  go_wp2_with fail
  refine (HP.out _).mono ?_; rintro e w' ⟨rfl, rfl⟩
  go_wp2_with fail
  refine (HT.out _ T).mono ?_; rintro e w1 ⟨rfl, hb1⟩
  have HB1 := Lib.hid hb1
  clear hb1
  go_wp2_with fail
  go_loop [21] (fun i => i = .int .i64 0 ∨ i = .int .i64 1 ∨ i = .int .i64 2 ∨ i = .int .i64 3 ∨ i = .int .i64 4 ∨ i = .int .i64 5 ∨ i = .int .i64 6 ∨ i = .int .i64 7 ∨ i = .int .i64 8 ∨ i = .int .i64 9) (fun i => 9 - (intOf i).toNat)
  case atStart => exact .inl rfl
  case round =>
    rcases hrel with rfl | rfl | rfl | rfl | rfl | rfl | rfl | rfl | rfl | rfl
    · obtain ⟨b, c, f1, f2, f3⟩ := HA.out 0 (by omega)
      have y0 : ∀ W : World, (Instr.index 9 (.string ⟨#[114, 119, 120, 114, 119, 120, 114, 119, 120]⟩) (.int .i64 0)).run Tryd.prog W = .ok (.int .u8 114) W := fun W => by kernel_rfl
      simp only [show ((0 : Nat) : Int) = 0 from rfl, show ((2 ^ (8 - 0) : Nat) : Int) = 256 from rfl] at f1 f2
      rcases f3 with ⟨rfl, rfl⟩ | ⟨rfl, rfl⟩
      · have z0 : ∀ W : World, (Instr.index 9 (.string S) (.int .i64 0)).run Tryd.prog W = .ok (.int .u8 45) W := f2
        clear f2
        go_wp2_with fail
        go_round
        case rel => exact .inr (.inl rfl)
        case measure => simp [intOf]
      · have z0 : ∀ W : World, (Instr.index 9 (.string S) (.int .i64 0)).run Tryd.prog W = .ok (.int .u8 114) W := f2
        clear f2
        go_wp2_with fail
        go_round
        case rel => exact .inr (.inl rfl)
        case measure => simp [intOf]
    · obtain ⟨b, c, f1, f2, f3⟩ := HA.out 1 (by omega)
      have y0 : ∀ W : World, (Instr.index 9 (.string ⟨#[114, 119, 120, 114, 119, 120, 114, 119, 120]⟩) (.int .i64 1)).run Tryd.prog W = .ok (.int .u8 119) W := fun W => by kernel_rfl
      simp only [show ((1 : Nat) : Int) = 1 from rfl, show ((2 ^ (8 - 1) : Nat) : Int) = 128 from rfl] at f1 f2
      rcases f3 with ⟨rfl, rfl⟩ | ⟨rfl, rfl⟩
      · have z0 : ∀ W : World, (Instr.index 9 (.string S) (.int .i64 1)).run Tryd.prog W = .ok (.int .u8 45) W := f2
        clear f2
        go_wp2_with fail
        go_round
        case rel => exact .inr (.inr (.inl rfl))
        case measure => simp [intOf]
      · have z0 : ∀ W : World, (Instr.index 9 (.string S) (.int .i64 1)).run Tryd.prog W = .ok (.int .u8 119) W := f2
        clear f2
        go_wp2_with fail
        go_round
        case rel => exact .inr (.inr (.inl rfl))
        case measure => simp [intOf]
    · obtain ⟨b, c, f1, f2, f3⟩ := HA.out 2 (by omega)
      have y0 : ∀ W : World, (Instr.index 9 (.string ⟨#[114, 119, 120, 114, 119, 120, 114, 119, 120]⟩) (.int .i64 2)).run Tryd.prog W = .ok (.int .u8 120) W := fun W => by kernel_rfl
      simp only [show ((2 : Nat) : Int) = 2 from rfl, show ((2 ^ (8 - 2) : Nat) : Int) = 64 from rfl] at f1 f2
      rcases f3 with ⟨rfl, rfl⟩ | ⟨rfl, rfl⟩
      · have z0 : ∀ W : World, (Instr.index 9 (.string S) (.int .i64 2)).run Tryd.prog W = .ok (.int .u8 45) W := f2
        clear f2
        go_wp2_with fail
        go_round
        case rel => exact .inr (.inr (.inr (.inl rfl)))
        case measure => simp [intOf]
      · have z0 : ∀ W : World, (Instr.index 9 (.string S) (.int .i64 2)).run Tryd.prog W = .ok (.int .u8 120) W := f2
        clear f2
        go_wp2_with fail
        go_round
        case rel => exact .inr (.inr (.inr (.inl rfl)))
        case measure => simp [intOf]
    · obtain ⟨b, c, f1, f2, f3⟩ := HA.out 3 (by omega)
      have y0 : ∀ W : World, (Instr.index 9 (.string ⟨#[114, 119, 120, 114, 119, 120, 114, 119, 120]⟩) (.int .i64 3)).run Tryd.prog W = .ok (.int .u8 114) W := fun W => by kernel_rfl
      simp only [show ((3 : Nat) : Int) = 3 from rfl, show ((2 ^ (8 - 3) : Nat) : Int) = 32 from rfl] at f1 f2
      rcases f3 with ⟨rfl, rfl⟩ | ⟨rfl, rfl⟩
      · have z0 : ∀ W : World, (Instr.index 9 (.string S) (.int .i64 3)).run Tryd.prog W = .ok (.int .u8 45) W := f2
        clear f2
        go_wp2_with fail
        go_round
        case rel => exact .inr (.inr (.inr (.inr (.inl rfl))))
        case measure => simp [intOf]
      · have z0 : ∀ W : World, (Instr.index 9 (.string S) (.int .i64 3)).run Tryd.prog W = .ok (.int .u8 114) W := f2
        clear f2
        go_wp2_with fail
        go_round
        case rel => exact .inr (.inr (.inr (.inr (.inl rfl))))
        case measure => simp [intOf]
    · obtain ⟨b, c, f1, f2, f3⟩ := HA.out 4 (by omega)
      have y0 : ∀ W : World, (Instr.index 9 (.string ⟨#[114, 119, 120, 114, 119, 120, 114, 119, 120]⟩) (.int .i64 4)).run Tryd.prog W = .ok (.int .u8 119) W := fun W => by kernel_rfl
      simp only [show ((4 : Nat) : Int) = 4 from rfl, show ((2 ^ (8 - 4) : Nat) : Int) = 16 from rfl] at f1 f2
      rcases f3 with ⟨rfl, rfl⟩ | ⟨rfl, rfl⟩
      · have z0 : ∀ W : World, (Instr.index 9 (.string S) (.int .i64 4)).run Tryd.prog W = .ok (.int .u8 45) W := f2
        clear f2
        go_wp2_with fail
        go_round
        case rel => exact .inr (.inr (.inr (.inr (.inr (.inl rfl)))))
        case measure => simp [intOf]
      · have z0 : ∀ W : World, (Instr.index 9 (.string S) (.int .i64 4)).run Tryd.prog W = .ok (.int .u8 119) W := f2
        clear f2
        go_wp2_with fail
        go_round
        case rel => exact .inr (.inr (.inr (.inr (.inr (.inl rfl)))))
        case measure => simp [intOf]
    · obtain ⟨b, c, f1, f2, f3⟩ := HA.out 5 (by omega)
      have y0 : ∀ W : World, (Instr.index 9 (.string ⟨#[114, 119, 120, 114, 119, 120, 114, 119, 120]⟩) (.int .i64 5)).run Tryd.prog W = .ok (.int .u8 120) W := fun W => by kernel_rfl
      simp only [show ((5 : Nat) : Int) = 5 from rfl, show ((2 ^ (8 - 5) : Nat) : Int) = 8 from rfl] at f1 f2
      rcases f3 with ⟨rfl, rfl⟩ | ⟨rfl, rfl⟩
      · have z0 : ∀ W : World, (Instr.index 9 (.string S) (.int .i64 5)).run Tryd.prog W = .ok (.int .u8 45) W := f2
        clear f2
        go_wp2_with fail
        go_round
        case rel => exact .inr (.inr (.inr (.inr (.inr (.inr (.inl rfl))))))
        case measure => simp [intOf]
      · have z0 : ∀ W : World, (Instr.index 9 (.string S) (.int .i64 5)).run Tryd.prog W = .ok (.int .u8 120) W := f2
        clear f2
        go_wp2_with fail
        go_round
        case rel => exact .inr (.inr (.inr (.inr (.inr (.inr (.inl rfl))))))
        case measure => simp [intOf]
    · obtain ⟨b, c, f1, f2, f3⟩ := HA.out 6 (by omega)
      have y0 : ∀ W : World, (Instr.index 9 (.string ⟨#[114, 119, 120, 114, 119, 120, 114, 119, 120]⟩) (.int .i64 6)).run Tryd.prog W = .ok (.int .u8 114) W := fun W => by kernel_rfl
      simp only [show ((6 : Nat) : Int) = 6 from rfl, show ((2 ^ (8 - 6) : Nat) : Int) = 4 from rfl] at f1 f2
      rcases f3 with ⟨rfl, rfl⟩ | ⟨rfl, rfl⟩
      · have z0 : ∀ W : World, (Instr.index 9 (.string S) (.int .i64 6)).run Tryd.prog W = .ok (.int .u8 45) W := f2
        clear f2
        go_wp2_with fail
        go_round
        case rel => exact .inr (.inr (.inr (.inr (.inr (.inr (.inr (.inl rfl)))))))
        case measure => simp [intOf]
      · have z0 : ∀ W : World, (Instr.index 9 (.string S) (.int .i64 6)).run Tryd.prog W = .ok (.int .u8 114) W := f2
        clear f2
        go_wp2_with fail
        go_round
        case rel => exact .inr (.inr (.inr (.inr (.inr (.inr (.inr (.inl rfl)))))))
        case measure => simp [intOf]
    · obtain ⟨b, c, f1, f2, f3⟩ := HA.out 7 (by omega)
      have y0 : ∀ W : World, (Instr.index 9 (.string ⟨#[114, 119, 120, 114, 119, 120, 114, 119, 120]⟩) (.int .i64 7)).run Tryd.prog W = .ok (.int .u8 119) W := fun W => by kernel_rfl
      simp only [show ((7 : Nat) : Int) = 7 from rfl, show ((2 ^ (8 - 7) : Nat) : Int) = 2 from rfl] at f1 f2
      rcases f3 with ⟨rfl, rfl⟩ | ⟨rfl, rfl⟩
      · have z0 : ∀ W : World, (Instr.index 9 (.string S) (.int .i64 7)).run Tryd.prog W = .ok (.int .u8 45) W := f2
        clear f2
        go_wp2_with fail
        go_round
        case rel => exact .inr (.inr (.inr (.inr (.inr (.inr (.inr (.inr (.inl rfl))))))))
        case measure => simp [intOf]
      · have z0 : ∀ W : World, (Instr.index 9 (.string S) (.int .i64 7)).run Tryd.prog W = .ok (.int .u8 119) W := f2
        clear f2
        go_wp2_with fail
        go_round
        case rel => exact .inr (.inr (.inr (.inr (.inr (.inr (.inr (.inr (.inl rfl))))))))
        case measure => simp [intOf]
    · obtain ⟨b, c, f1, f2, f3⟩ := HA.out 8 (by omega)
      have y0 : ∀ W : World, (Instr.index 9 (.string ⟨#[114, 119, 120, 114, 119, 120, 114, 119, 120]⟩) (.int .i64 8)).run Tryd.prog W = .ok (.int .u8 120) W := fun W => by kernel_rfl
      simp only [show ((8 : Nat) : Int) = 8 from rfl, show ((2 ^ (8 - 8) : Nat) : Int) = 1 from rfl, Int.ediv_one] at f1 f2
      rcases f3 with ⟨rfl, rfl⟩ | ⟨rfl, rfl⟩
      · have z0 : ∀ W : World, (Instr.index 9 (.string S) (.int .i64 8)).run Tryd.prog W = .ok (.int .u8 45) W := f2
        clear f2
        go_wp2_with fail
        go_round
        case rel => exact .inr (.inr (.inr (.inr (.inr (.inr (.inr (.inr (.inr (rfl)))))))))
        case measure => simp [intOf]
      · have z0 : ∀ W : World, (Instr.index 9 (.string S) (.int .i64 8)).run Tryd.prog W = .ok (.int .u8 120) W := f2
        clear f2
        go_wp2_with fail
        go_round
        case rel => exact .inr (.inr (.inr (.inr (.inr (.inr (.inr (.inr (.inr (rfl)))))))))
        case measure => simp [intOf]
    · go_wp2_with fail
      go_ret
      exact ⟨rfl, HB1.out⟩
end Go.Proofs.YthdkfpknblinfaaDoor
