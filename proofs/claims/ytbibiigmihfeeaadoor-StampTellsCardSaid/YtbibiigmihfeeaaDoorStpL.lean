/- The laws of time stamps. -/
import Derived.Test.YtbibiigmihfeeaaDoorStpE
import Derived.Test.YtbibiigmihfeeaaDoorLaid
import Derived.Test.YtbibiigmihfeeaaDoorOctA
import Derived.Test.YtbibiigmihfeeaaDoorPthA
set_option linter.unusedVariables false
set_option maxRecDepth 100000
namespace Go.Proofs.YtbibiigmihfeeaaDoor
open Go.RowKit
open Go.OpenShut
set_option maxHeartbeats 400000 in
theorem StampTells_walk (a0 a1 : Int) (w0 : (Lit.int .i64 a0).wf = true) (w1 : (Lit.int .i64 a1).wf = true) (w : World) (hL : laidMetH Tryd.prog Rows.stampTellsRow.laid w) :
    Calls Tryd.prog 3 #[.int .i64 a0, .int .i64 a1] w fun e w' => e = .returned (.bool true) ∧ Below w.heap.size w w' := by
  have T : Tab w := tab_of_laid hL (by kernel_rfl) (by simp [Rows.stampTellsRow])
  clear hL
  have H1 := Lib.hid fun W => tCheck_any a0 a1 W
  have H2 := Lib.hid fun W => rFault_time a0 a1 W
  have H3 := Lib.hid fun W T => Text_any a0 a1 W T
  have H4 := Lib.hid fun W T => rText_any a0 a1 W T
  generalize tText a0 a1 = tt at *
  generalize (if inT a0 a1 = true then (0 : Int) else 4) = f at *
  go_enter Tryd.func3, Tryd.ntmps3
  go_wp2_with fail
  refine (H1.out _).mono ?_; rintro e w' ⟨rfl, rfl⟩
  go_wp2_with fail
  refine (H3.out _ T).mono ?_; rintro e w1 ⟨rfl, hb1⟩
  have T1 := T.below hb1
  have HB1 := Lib.hid hb1
  clear hb1
  go_wp2_with fail
  refine (H2.out _).mono ?_; rintro e w' ⟨rfl, rfl⟩
  go_wp2_with fail
  refine (H4.out _ T1).mono ?_; rintro e w2 ⟨rfl, hb2⟩
  have HB2 := Lib.hid (HB1.out.trans (hb2.mono HB1.out.size))
  clear hb2
  go_wp2_with fail
  go_ret
  exact ⟨rfl, HB2.out⟩
set_option maxHeartbeats 400000 in
theorem StampParses_walk (a0 : ByteArray) (w0 : a0.size ≤ maxLen) (r0 : a0.size ≤ 140737488351232) (w : World) (hL : laidMetH Tryd.prog Rows.stampParsesRow.laid w) :
    Calls Tryd.prog 4 #[.string a0] w fun e w' => e = .returned (.bool true) ∧ Below w.heap.size w w' := by
  have S : Std w := std_of_laid hL (by kernel_rfl) (by simp [Rows.stampParsesRow]) (by simp [Rows.stampParsesRow]) (by simp [Rows.stampParsesRow])
  clear hL
  have H1 := Lib.hid fun W S => Parse_any a0 W S r0
  have H2 := Lib.hid fun W T => rOf_any a0 W T w0
  generalize tparse a0.data.toList = tp at *
  go_enter Tryd.func4, Tryd.ntmps4
  go_wp2_with fail
  refine (H1.out _ S).mono ?_; rintro e w1 ⟨rfl, hb1⟩
  have S1 := S.below hb1
  have HB1 := Lib.hid hb1
  clear hb1
  go_wp2_with fail
  refine (H2.out _ S1.tab).mono ?_; rintro e w2 ⟨rfl, hb2⟩
  have HB2 := Lib.hid (HB1.out.trans (hb2.mono HB1.out.size))
  clear hb2
  go_wp2_with fail
  go_ret
  exact ⟨rfl, HB2.out⟩
theorem textL_len (a b : Int) (h : inT a b = true) : (textL a b).length ≤ 25 := by
  obtain ⟨m, n, hm, hn, ⟨h0, e, -, -⟩ | ⟨h0, e, -⟩⟩ := textL_abs a b h
  · have := absT_len m n hm; rw [e, List.length_cons]; omega
  · have := absT_len m n hm; rw [e]; omega
set_option maxHeartbeats 400000 in
theorem StampBack_walk (a0 a1 : Int) (w0 : (Lit.int .i64 a0).wf = true) (w1 : (Lit.int .i64 a1).wf = true) (w : World) (hL : laidMetH Tryd.prog Rows.stampBackRow.laid w) :
    Calls Tryd.prog 5 #[.int .i64 a0, .int .i64 a1] w fun e w' => e = .returned (.bool true) ∧ Below w.heap.size w w' := by
  have S : Std w := std_of_laid hL (by kernel_rfl) (by simp [Rows.stampBackRow]) (by simp [Rows.stampBackRow]) (by simp [Rows.stampBackRow])
  have b1 := pick_bd a0 2199023255553 (by omega)
  have b2 := pick_bd a1 1000000000 (by omega)
  have HPA := Lib.hid fun W => picked_any a0 2199023255553 W w0 (by omega)
  have HPB := Lib.hid fun W => picked_any a1 1000000000 W w1 (by omega)
  generalize pick a0 2199023255553 = pa at *
  generalize pick a1 1000000000 = pb at *
  have hi : inT (pa - 1099511627776) pb = true := inT_mk (by omega)
  have H3 := Lib.hid fun W T => Text_any (pa - 1099511627776) pb W T
  have HT := Lib.hid fun W S => Parse_any (bs (textL (pa - 1099511627776) pb)) W S (by have := textL_len _ _ hi; rw [bs_size]; omega)
  rw [bs_list, tparse_text _ _ hi] at HT
  rw [tText_yes hi] at H3
  clear hL w0 w1 hi
  obtain ⟨X, HX⟩ := hid_name (bs (textL (pa - 1099511627776) pb))
  rw [HX.out] at HT H3
  go_enter Tryd.func5, Tryd.ntmps5
  go_wp2_with fail
  refine (HPA.out _).mono ?_; rintro e w' ⟨rfl, rfl⟩
  go_wp2_with fail
  refine (HPB.out _).mono ?_; rintro e w' ⟨rfl, rfl⟩
  go_wp2_with fail
  refine (H3.out _ S.tab).mono ?_; rintro e w1 ⟨rfl, hb1⟩
  have S1 := S.below hb1
  have HB1 := Lib.hid hb1
  clear hb1
  go_wp2_with fail
  refine (HT.out _ S1).mono ?_; rintro e w2 ⟨rfl, hb2⟩
  have HB2 := Lib.hid (HB1.out.trans (hb2.mono HB1.out.size))
  clear hb2
  go_wp2_with fail
  go_ret
  exact ⟨rfl, HB2.out⟩
theorem half_is : textL (-1) 500000000 = [45, 48, 46, 53] := by decide +kernel
theorem Parse_half (w : World) (S : Std w) : Calls Tryd.prog 12 #[.string ⟨#[45, 48, 46, 53]⟩] w fun e w' => e = .returned (.tuple #[.int .i64 (-1), .int .i64 500000000, .int .i64 0]) ∧ Below w.heap.size w w' := by
  have h := Parse_any ⟨#[45, 48, 46, 53]⟩ w S (by decide)
  have e : tparse (⟨#[45, 48, 46, 53]⟩ : ByteArray).data.toList = (-1, 500000000, 0) := by
    rw [show (⟨#[45, 48, 46, 53]⟩ : ByteArray).data.toList = [45, 48, 46, 53] from rfl, ← half_is]; exact tparse_text _ _ (by decide)
  rw [e] at h; exact h
set_option maxHeartbeats 400000 in
theorem StampTurns_walk (a0 : ByteArray) (w0 : a0.size ≤ maxLen) (r0 : a0.size ≤ 140737488351232) (w : World) (hL : laidMetH Tryd.prog Rows.stampTurnsRow.laid w) :
    Calls Tryd.prog 7 #[.string a0] w fun e w' => e = .returned (.bool true) ∧ Below w.heap.size w w' := by
  have S : Std w := std_of_laid hL (by kernel_rfl) (by simp [Rows.stampTurnsRow]) (by simp [Rows.stampTurnsRow]) (by simp [Rows.stampTurnsRow])
  have H1 := Lib.hid fun W S => Parse_any a0 W S r0
  clear hL
  rcases tparse_cases a0.data.toList with ⟨a, b, h1, h2, h3⟩ | ⟨h1, -⟩
  · have HX := Lib.hid fun W T => Text_any a b W T
    rw [tText_yes h1, h2, bs_of] at HX
    rw [h3] at H1
    clear h1 h2 h3
    go_enter Tryd.func7, Tryd.ntmps7
    go_wp2_with fail
    refine (H1.out _ S).mono ?_; rintro e w1 ⟨rfl, hb1⟩
    have S1 := S.below hb1
    have HB1 := Lib.hid hb1
    clear hb1
    go_wp2_with fail
    refine (Parse_half _ S1).mono ?_; rintro e w2 ⟨rfl, hb2⟩
    have S2 := S1.below hb2
    have HB2 := Lib.hid (HB1.out.trans (hb2.mono HB1.out.size))
    clear hb2
    go_wp2_with fail
    refine (HX.out _ S2.tab).mono ?_; rintro e w3 ⟨rfl, hb3⟩
    have HB3 := Lib.hid (HB2.out.trans (hb3.mono HB2.out.size))
    clear hb3
    go_wp2_with fail
    go_ret
    exact ⟨rfl, HB3.out⟩
  · rw [h1] at H1
    clear h1
    go_enter Tryd.func7, Tryd.ntmps7
    go_wp2_with fail
    refine (H1.out _ S).mono ?_; rintro e w1 ⟨rfl, hb1⟩
    have S1 := S.below hb1
    have HB1 := Lib.hid hb1
    clear hb1
    go_wp2_with fail
    refine (Parse_half _ S1).mono ?_; rintro e w2 ⟨rfl, hb2⟩
    have HB2 := Lib.hid (HB1.out.trans (hb2.mono HB1.out.size))
    clear hb2
    go_wp2_with fail
    go_ret
    exact ⟨rfl, HB2.out⟩
/-- what StampPlain looks at: the digits ahead of the dot -/
def wholeOk (l : List UInt8) : Prop := l = [48] ∨ ∃ c r, l = c :: r ∧ c ≠ 48
theorem whole_ok (m : Nat) : wholeOk (Lib.decDigits m) := by
  by_cases h : m = 0
  · subst h; left; rw [Lib.decDigits, dif_pos (by decide)]; rfl
  · obtain ⟨c, r, e, -, -, h3⟩ := decDigits_cons m
    exact .inr ⟨c, r, e, fun e2 => h3 (by omega) (by rw [e2]; rfl)⟩
theorem plain_facts (a b : Int) (h : inT a b = true) : ∃ W P : ByteArray, wholeOk W.data.toList ∧ W.size ≤ 100 ∧ P.size ≤ 9 ∧ ((b = 0 ∧ P.data.toList = []) ∨ (0 < b ∧ ∃ r c, P.data.toList = r ++ [c] ∧ c ≠ 48)) ∧
    Lib.hasPrefix (textL a b) [45] = decide (a < 0) ∧ wholeL (Lib.trimPrefix (textL a b) [45]) = W.data.toList ∧ digsL (Lib.trimPrefix (textL a b) [45]) = P.data.toList ∧ hasB 46 (Lib.trimPrefix (textL a b) [45]) = decide (0 < b) := by
  obtain ⟨m, n, hm, hn, hc⟩ := textL_abs a b h
  have hr := inT_of h
  have e14 : (10 : Nat) ^ 14 = 100000000000000 := by decide
  have e9 : (10 : Nat) ^ 9 = 1000000000 := by decide
  have key : (n = 0 ↔ b = 0) ∧ Lib.hasPrefix (textL a b) [45] = decide (a < 0) ∧ Lib.trimPrefix (textL a b) [45] = absT m n := by
    rw [hasPre_minus, trimPre_minus]
    rcases hc with ⟨h0, e, e2, e3⟩ | ⟨h0, e, e2⟩
    · refine ⟨?_, by rw [e, decide_eq_true h0]; rfl, by rw [e]; rfl⟩
      have q2 : (negV a b).2 = (n : Int) := by rw [e3]
      unfold negV at q2
      by_cases hb : b = 0
      · rw [if_pos hb] at q2; have q2 : 0 = (n : Int) := q2; omega
      · rw [if_neg hb] at q2; have q2 : 1000000000 - b = (n : Int) := q2; omega
    · obtain ⟨e4, e5⟩ := Prod.mk.inj e2
      refine ⟨by omega, by rw [e, minusL_abs, decide_eq_false (by omega)], by rw [e]; unfold sizeL; rw [minusL_abs]; rfl⟩
  obtain ⟨k1, k2, k3⟩ := key
  refine ⟨bs (Lib.decDigits m), bs (fr 9 n), by rw [bs_list]; exact whole_ok m, by have := decDigits_len m 13 hm; rw [bs_size]; omega, by rw [bs_size]; exact fr_len 9 n, ?_, k2, by rw [k3, (absT_parts m n).1, bs_list], by rw [k3, (absT_parts m n).2, bs_list], ?_⟩
  · rw [bs_list]
    by_cases hn0 : n = 0
    · left; exact ⟨k1.1 hn0, by rw [hn0, fr_zero]⟩
    · right
      obtain ⟨r, c, e, hc⟩ := fr_last 9 n hn hn0
      exact ⟨by have : b ≠ 0 := fun x => hn0 (k1.2 x); omega, r, c, e, fun x => hc (by rw [x]; rfl)⟩
  · rw [k3]
    have h1 : hasB 46 (Lib.decDigits m) = false := hasB_dig _ (decDigits_dig m) 46 (by decide)
    rw [absT, hasB_app, h1, Bool.false_or]
    unfold fracL
    split
    · rename_i e; rw [decide_eq_false (by have := k1.1 e; omega)]; rfl
    · rename_i e; rw [decide_eq_true (by have : b ≠ 0 := fun x => e (k1.2 x); omega)]; rfl
theorem last_byte (s : ByteArray) (r : List UInt8) (c : UInt8) (h : s.data.toList = r ++ [c]) (hc : c ≠ 48) (k : Nat) (hk : k + 1 = s.size) (hk2 : k < s.size) : ((s[k].toNat : Int) != 48) = true := by
  have hl : s.size = r.length + 1 := by rw [← size_list, h, List.length_append]; rfl
  obtain rfl : k = r.length := by omega
  have h2 := drop_cons s r.length hk2
  rw [h, List.drop_append, List.drop_of_length_le (Nat.le_refl _), Nat.sub_self, List.nil_append, List.drop_zero] at h2
  injection h2 with e _
  rw [← e]; simp only [bne_iff_ne, ne_eq]
  intro x; exact hc (UInt8.toNat_inj.1 (show c.toNat = 48 by omega))
set_option maxHeartbeats 1600000 in
theorem StampPlain_walk (a0 a1 : Int) (w0 : (Lit.int .i64 a0).wf = true) (w1 : (Lit.int .i64 a1).wf = true) (w : World) (hL : laidMetH Tryd.prog Rows.stampPlainRow.laid w) :
    Calls Tryd.prog 6 #[.int .i64 a0, .int .i64 a1] w fun e w' => e = .returned (.bool true) ∧ Below w.heap.size w w' := by
  have T : Tab w := tab_of_laid hL (by kernel_rfl) (by simp [Rows.stampPlainRow])
  have b1 := pick_bd a0 2199023255553 (by omega)
  have b2 := pick_bd a1 1000000000 (by omega)
  have HPA := Lib.hid fun W => picked_any a0 2199023255553 W w0 (by omega)
  have HPB := Lib.hid fun W => picked_any a1 1000000000 W w1 (by omega)
  generalize pick a0 2199023255553 = pa at *
  generalize pick a1 1000000000 = pb at *
  have hi : inT (pa - 1099511627776) pb = true := inT_mk (by omega)
  have H3 := Lib.hid fun W T => Text_any (pa - 1099511627776) pb W T
  obtain ⟨WB, PB, f1, f2, f3, f4, f5, f6, f7, f8⟩ := plain_facts _ _ hi
  rw [tText_yes hi] at H3
  have htr := fun W => Tryd.strings_TrimPrefix (bs (textL (pa - 1099511627776) pb)) ⟨#[45]⟩ W
  have hhp := fun W => Tryd.strings_HasPrefix (bs (textL (pa - 1099511627776) pb)) ⟨#[45]⟩ W
  rw [bs_list, show (⟨#[45]⟩ : ByteArray).data.toList = [45] from rfl] at htr hhp
  have hcut := fun W => Cut_one ⟨(Lib.trimPrefix (textL (pa - 1099511627776) pb) [45]).toArray⟩ 46 W (by
    have h1 := Lib.trimPrefix_le (textL (pa - 1099511627776) pb) [45]
    have h2 := textL_len _ _ hi
    show (Lib.trimPrefix (textL (pa - 1099511627776) pb) [45]).length ≤ maxLen
    unfold maxLen; omega)
  have hcut2 : ∀ W, Calls Tryd.prog 15 #[.string ⟨(Lib.trimPrefix (textL (pa - 1099511627776) pb) [45]).toArray⟩, .string ⟨#[46]⟩] W fun e w' => e = .returned (.tuple #[.string (bs (wholeL (Lib.trimPrefix (textL (pa - 1099511627776) pb) [45]))), .string (bs (digsL (Lib.trimPrefix (textL (pa - 1099511627776) pb) [45]))), .bool (hasB 46 (Lib.trimPrefix (textL (pa - 1099511627776) pb) [45]))]) ∧ ∃ n, w' = W.drewN n := hcut
  rw [f6, f7, f8, bs_of, bs_of] at hcut2
  rw [f5] at hhp
  generalize (⟨(Lib.trimPrefix (textL (pa - 1099511627776) pb) [45]).toArray⟩ : ByteArray) = Tr at htr hcut2
  generalize bs (textL (pa - 1099511627776) pb) = X at htr hhp H3
  have HTr := Lib.hid htr
  have HH := Lib.hid hhp
  have HC := Lib.hid hcut2
  clear hL w0 w1 hi hcut hcut2 htr hhp f5 f6 f7 f8
  have hw0 : WB.toList.isEmpty = false := by
    rw [ByteArray.toList_eq, ← Bool.not_eq_true, List.isEmpty_iff]; intro e
    rcases f1 with h | ⟨c, r, h, -⟩ <;> (rw [e] at h; cases h)
  have hws : 1 ≤ WB.size := by
    rw [← size_list]
    rcases f1 with h | ⟨c, r, h, -⟩ <;> (rw [h]; simp)
  rcases f1 with h | ⟨c, r, h, hc⟩
  · have hw1 : (WB.toList == [48]) = true := by rw [ByteArray.toList_eq, h]; rfl
    clear h
    rcases f4 with ⟨rfl, h⟩ | ⟨h4, r, c, h, hc⟩
    · clear h
      by_cases hA : pa - 1099511627776 < 0
      · rw [decide_eq_true hA] at HH
        go_enter Tryd.func6, Tryd.ntmps6
        go_wp2_with fail
        refine (HPA.out _).mono ?_; rintro e w' ⟨rfl, rfl⟩
        go_wp2_with fail
        refine (HPB.out _).mono ?_; rintro e w' ⟨rfl, rfl⟩
        go_wp2_with fail
        refine (H3.out _ T).mono ?_; rintro e w1 ⟨rfl, hb1⟩
        have HB1 := Lib.hid hb1
        clear hb1
        go_wp2_with fail
        refine (HTr.out _).mono ?_; rintro e w2 ⟨rfl, rfl⟩
        go_wp2_with fail
        refine (HC.out _).mono ?_; rintro e w2 ⟨rfl, nn, rfl⟩
        go_wp2_with fail
        refine (HH.out _).mono ?_; rintro e w2 ⟨rfl, rfl⟩
        go_wp2_with fail
        go_ret
        first
          | exact ⟨rfl, below_drewN HB1.out nn⟩
          | exact ⟨ret_bool (by rw [decide_eq_false (by omega)]; rfl), below_drewN HB1.out nn⟩
          | exact ⟨ret_bool (by rw [decide_eq_true (by omega)]; rfl), below_drewN HB1.out nn⟩
      · rw [decide_eq_false hA] at HH
        go_enter Tryd.func6, Tryd.ntmps6
        go_wp2_with fail
        refine (HPA.out _).mono ?_; rintro e w' ⟨rfl, rfl⟩
        go_wp2_with fail
        refine (HPB.out _).mono ?_; rintro e w' ⟨rfl, rfl⟩
        go_wp2_with fail
        refine (H3.out _ T).mono ?_; rintro e w1 ⟨rfl, hb1⟩
        have HB1 := Lib.hid hb1
        clear hb1
        go_wp2_with fail
        refine (HTr.out _).mono ?_; rintro e w2 ⟨rfl, rfl⟩
        go_wp2_with fail
        refine (HC.out _).mono ?_; rintro e w2 ⟨rfl, nn, rfl⟩
        go_wp2_with fail
        refine (HH.out _).mono ?_; rintro e w2 ⟨rfl, rfl⟩
        go_wp2_with fail
        go_ret
        first
          | exact ⟨rfl, below_drewN HB1.out nn⟩
          | exact ⟨ret_bool (by rw [decide_eq_false (by omega)]; rfl), below_drewN HB1.out nn⟩
          | exact ⟨ret_bool (by rw [decide_eq_true (by omega)]; rfl), below_drewN HB1.out nn⟩
    · have hp0 : PB.toList.isEmpty = false := by
        rw [ByteArray.toList_eq, ← Bool.not_eq_true, List.isEmpty_iff]; intro e; rw [e] at h; cases r <;> cases h
      have hps : PB.size = r.length + 1 := by rw [← size_list, h, List.length_append]; rfl
      have hlast := last_byte PB r c h hc
      obtain ⟨k, hk⟩ : ∃ k, Hid (k = PB.size - 1) := ⟨_, rfl⟩
      have hk2 : (PB.size : Int) - 1 = (k : Int) := by have := hk.out; omega
      have hk3 : k < PB.size := by have := hk.out; omega
      have hlast2 := hlast k (by have := hk.out; omega) hk3
      clear h hps hlast
      rw [decide_eq_true h4] at HC
      by_cases hA : pa - 1099511627776 < 0
      · rw [decide_eq_true hA] at HH
        go_enter Tryd.func6, Tryd.ntmps6
        go_wp2_with fail
        refine (HPA.out _).mono ?_; rintro e w' ⟨rfl, rfl⟩
        go_wp2_with fail
        refine (HPB.out _).mono ?_; rintro e w' ⟨rfl, rfl⟩
        go_wp2_with fail
        refine (H3.out _ T).mono ?_; rintro e w1 ⟨rfl, hb1⟩
        have HB1 := Lib.hid hb1
        clear hb1
        go_wp2_with fail
        refine (HTr.out _).mono ?_; rintro e w2 ⟨rfl, rfl⟩
        go_wp2_with fail
        refine (HC.out _).mono ?_; rintro e w2 ⟨rfl, nn, rfl⟩
        go_wp2_with fail
        refine (HH.out _).mono ?_; rintro e w2 ⟨rfl, rfl⟩
        go_wp2_with fail
        go_ret
        first
          | exact ⟨rfl, below_drewN HB1.out nn⟩
          | exact ⟨ret_bool (by rw [decide_eq_false (by omega)]; rfl), below_drewN HB1.out nn⟩
          | exact ⟨ret_bool (by rw [decide_eq_true (by omega)]; rfl), below_drewN HB1.out nn⟩
      · rw [decide_eq_false hA] at HH
        go_enter Tryd.func6, Tryd.ntmps6
        go_wp2_with fail
        refine (HPA.out _).mono ?_; rintro e w' ⟨rfl, rfl⟩
        go_wp2_with fail
        refine (HPB.out _).mono ?_; rintro e w' ⟨rfl, rfl⟩
        go_wp2_with fail
        refine (H3.out _ T).mono ?_; rintro e w1 ⟨rfl, hb1⟩
        have HB1 := Lib.hid hb1
        clear hb1
        go_wp2_with fail
        refine (HTr.out _).mono ?_; rintro e w2 ⟨rfl, rfl⟩
        go_wp2_with fail
        refine (HC.out _).mono ?_; rintro e w2 ⟨rfl, nn, rfl⟩
        go_wp2_with fail
        refine (HH.out _).mono ?_; rintro e w2 ⟨rfl, rfl⟩
        go_wp2_with fail
        go_ret
        first
          | exact ⟨rfl, below_drewN HB1.out nn⟩
          | exact ⟨ret_bool (by rw [decide_eq_false (by omega)]; rfl), below_drewN HB1.out nn⟩
          | exact ⟨ret_bool (by rw [decide_eq_true (by omega)]; rfl), below_drewN HB1.out nn⟩
  · have hw1 : (WB.toList == [48]) = false := by
      rw [ByteArray.toList_eq, h, beq_eq_false_iff_ne]; intro e; injection e with e _; exact hc e
    have hw2 : ((WB[0].toNat : Int) != 48) = true := by
      have := drop_cons WB 0 (by omega)
      rw [List.drop_zero, h] at this
      injection this with e _
      rw [← e]; simp only [bne_iff_ne, ne_eq]
      intro x; exact hc (UInt8.toNat_inj.1 (show c.toNat = 48 by omega))
    clear h
    rcases f4 with ⟨rfl, h⟩ | ⟨h4, r, c, h, hc⟩
    · clear h
      by_cases hA : pa - 1099511627776 < 0
      · rw [decide_eq_true hA] at HH
        go_enter Tryd.func6, Tryd.ntmps6
        go_wp2_with fail
        refine (HPA.out _).mono ?_; rintro e w' ⟨rfl, rfl⟩
        go_wp2_with fail
        refine (HPB.out _).mono ?_; rintro e w' ⟨rfl, rfl⟩
        go_wp2_with fail
        refine (H3.out _ T).mono ?_; rintro e w1 ⟨rfl, hb1⟩
        have HB1 := Lib.hid hb1
        clear hb1
        go_wp2_with fail
        refine (HTr.out _).mono ?_; rintro e w2 ⟨rfl, rfl⟩
        go_wp2_with fail
        refine (HC.out _).mono ?_; rintro e w2 ⟨rfl, nn, rfl⟩
        go_wp2_with fail
        refine (HH.out _).mono ?_; rintro e w2 ⟨rfl, rfl⟩
        go_wp2_with fail
        go_ret
        first
          | exact ⟨rfl, below_drewN HB1.out nn⟩
          | exact ⟨ret_bool (by rw [decide_eq_false (by omega)]; rfl), below_drewN HB1.out nn⟩
          | exact ⟨ret_bool (by rw [decide_eq_true (by omega)]; rfl), below_drewN HB1.out nn⟩
      · rw [decide_eq_false hA] at HH
        go_enter Tryd.func6, Tryd.ntmps6
        go_wp2_with fail
        refine (HPA.out _).mono ?_; rintro e w' ⟨rfl, rfl⟩
        go_wp2_with fail
        refine (HPB.out _).mono ?_; rintro e w' ⟨rfl, rfl⟩
        go_wp2_with fail
        refine (H3.out _ T).mono ?_; rintro e w1 ⟨rfl, hb1⟩
        have HB1 := Lib.hid hb1
        clear hb1
        go_wp2_with fail
        refine (HTr.out _).mono ?_; rintro e w2 ⟨rfl, rfl⟩
        go_wp2_with fail
        refine (HC.out _).mono ?_; rintro e w2 ⟨rfl, nn, rfl⟩
        go_wp2_with fail
        refine (HH.out _).mono ?_; rintro e w2 ⟨rfl, rfl⟩
        go_wp2_with fail
        go_ret
        first
          | exact ⟨rfl, below_drewN HB1.out nn⟩
          | exact ⟨ret_bool (by rw [decide_eq_false (by omega)]; rfl), below_drewN HB1.out nn⟩
          | exact ⟨ret_bool (by rw [decide_eq_true (by omega)]; rfl), below_drewN HB1.out nn⟩
    · have hp0 : PB.toList.isEmpty = false := by
        rw [ByteArray.toList_eq, ← Bool.not_eq_true, List.isEmpty_iff]; intro e; rw [e] at h; cases r <;> cases h
      have hps : PB.size = r.length + 1 := by rw [← size_list, h, List.length_append]; rfl
      have hlast := last_byte PB r c h hc
      obtain ⟨k, hk⟩ : ∃ k, Hid (k = PB.size - 1) := ⟨_, rfl⟩
      have hk2 : (PB.size : Int) - 1 = (k : Int) := by have := hk.out; omega
      have hk3 : k < PB.size := by have := hk.out; omega
      have hlast2 := hlast k (by have := hk.out; omega) hk3
      clear h hps hlast
      rw [decide_eq_true h4] at HC
      by_cases hA : pa - 1099511627776 < 0
      · rw [decide_eq_true hA] at HH
        go_enter Tryd.func6, Tryd.ntmps6
        go_wp2_with fail
        refine (HPA.out _).mono ?_; rintro e w' ⟨rfl, rfl⟩
        go_wp2_with fail
        refine (HPB.out _).mono ?_; rintro e w' ⟨rfl, rfl⟩
        go_wp2_with fail
        refine (H3.out _ T).mono ?_; rintro e w1 ⟨rfl, hb1⟩
        have HB1 := Lib.hid hb1
        clear hb1
        go_wp2_with fail
        refine (HTr.out _).mono ?_; rintro e w2 ⟨rfl, rfl⟩
        go_wp2_with fail
        refine (HC.out _).mono ?_; rintro e w2 ⟨rfl, nn, rfl⟩
        go_wp2_with fail
        refine (HH.out _).mono ?_; rintro e w2 ⟨rfl, rfl⟩
        go_wp2_with fail
        go_ret
        first
          | exact ⟨rfl, below_drewN HB1.out nn⟩
          | exact ⟨ret_bool (by rw [decide_eq_false (by omega)]; rfl), below_drewN HB1.out nn⟩
          | exact ⟨ret_bool (by rw [decide_eq_true (by omega)]; rfl), below_drewN HB1.out nn⟩
      · rw [decide_eq_false hA] at HH
        go_enter Tryd.func6, Tryd.ntmps6
        go_wp2_with fail
        refine (HPA.out _).mono ?_; rintro e w' ⟨rfl, rfl⟩
        go_wp2_with fail
        refine (HPB.out _).mono ?_; rintro e w' ⟨rfl, rfl⟩
        go_wp2_with fail
        refine (H3.out _ T).mono ?_; rintro e w1 ⟨rfl, hb1⟩
        have HB1 := Lib.hid hb1
        clear hb1
        go_wp2_with fail
        refine (HTr.out _).mono ?_; rintro e w2 ⟨rfl, rfl⟩
        go_wp2_with fail
        refine (HC.out _).mono ?_; rintro e w2 ⟨rfl, nn, rfl⟩
        go_wp2_with fail
        refine (HH.out _).mono ?_; rintro e w2 ⟨rfl, rfl⟩
        go_wp2_with fail
        go_ret
        first
          | exact ⟨rfl, below_drewN HB1.out nn⟩
          | exact ⟨ret_bool (by rw [decide_eq_false (by omega)]; rfl), below_drewN HB1.out nn⟩
          | exact ⟨ret_bool (by rw [decide_eq_true (by omega)]; rfl), below_drewN HB1.out nn⟩
end Go.Proofs.YtbibiigmihfeeaaDoor
