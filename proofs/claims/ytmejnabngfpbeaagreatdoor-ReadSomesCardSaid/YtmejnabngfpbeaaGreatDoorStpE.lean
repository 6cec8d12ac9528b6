/- The reference's reading of a time. -/
import Derived.Test.YtmejnabngfpbeaaGreatDoorStpD
import Derived.Deep.DeepCutAuto
import Derived.Deep.CutBlock
import Derived.IntWalk
set_option linter.unusedVariables false
set_option maxRecDepth 100000
namespace Go.Proofs.YtmejnabngfpbeaaGreatDoor
open Go.RowKit
open Go.OpenShut
theorem tail_ref (l : List UInt8) (a b : Int) (h : refV l = (a, b)) :
  (tText a b = (bs l, 0) ∧ tparse l = (a, b, 0)) ∨ ((tText a b).2 ≠ 0 ∧ tparse l = (0, 0, 3)) ∨ ((tText a b).2 = 0 ∧ (tText a b).1 ≠ bs l ∧ tparse l = (0, 0, 3)) := by
 have hr := tparse_ref l
 rw [h] at hr
 cases hi : inT a b
 ·refine .inr (.inl ⟨by rw [tText_no hi]; decide, ?_⟩)
  rw [hr, if_neg]; rintro ⟨x, _⟩; rw [hi] at x; cases x
 ·by_cases he : textL a b = l
  ·exact .inl ⟨by rw [tText_yes hi, he], by rw [hr, if_pos ⟨hi, he⟩]⟩
  ·refine .inr (.inr ⟨by rw [tText_yes hi], ?_, by rw [hr, if_neg (fun x => he x.2)]⟩)
   rw [tText_yes hi]
   intro e
   exact he (congrArg (fun s : ByteArray => s.data.toList) e)
theorem drop_cons (R : ByteArray) (k : Nat) (h : k < R.size) : R.data.toList.drop k = R[k] :: R.data.toList.drop (k + 1) := by
 rw [List.drop_eq_getElem_cons (by simpa using h)]; rfl
theorem rdInt_stop (f acc : Nat) (l : List UInt8) (h : ∀ c r, l = c :: r → isD c = false) : rdInt f acc l = (acc, l) := by
 cases f with
 | zero => rfl
 | succ f =>
  cases l with
  | nil => rfl
  | cons c r => rw [rdInt, if_neg (by rw [h c r rfl]; decide)]
theorem rdInt_go (k acc : Nat) (c : UInt8) (r : List UInt8) (hk : k < 14) (hc : isD c = true) : rdInt (14 - k) acc (c :: r) = rdInt (14 - (k + 1)) (10 * acc + (c.toNat - 48)) r := by
 rw [show 14 - k = (14 - (k + 1)) + 1 by omega, rdInt, if_pos hc]
theorem isD_yes {c : UInt8} (h1 : 48 ≤ c.toNat) (h2 : c.toNat ≤ 57) : isD c = true := decide_eq_true ⟨h1, h2⟩
theorem isD_no {c : UInt8} (h : ¬ (48 ≤ c.toNat ∧ c.toNat ≤ 57)) : isD c = false := decide_eq_false h
theorem rdFrac_stop (j acc : Nat) (l : List UInt8) (h : j = 0 ∨ ∀ c r, l = c :: r → isD c = false) : rdFrac j acc l = acc := by
 cases j with
 | zero => rfl
 | succ j =>
  cases l with
  | nil => rfl
  | cons c r =>
   rcases h with h | h
   ·cases h
   ·rw [rdFrac, if_neg (by rw [h c r rfl]; decide)]
theorem rdFrac_lt (j acc : Nat) (l : List UInt8) (h : acc + 10 ^ j ≤ 1000000000) : rdFrac j acc l < 1000000000 := by
 induction j generalizing acc l with
 | zero => simp only [rdFrac]; rw [Nat.pow_zero] at h; omega
 | succ j ih =>
  have hp := pow10_pos j
  rw [Nat.pow_succ] at h
  cases l with
  | nil => simp only [rdFrac]; omega
  | cons c r =>
   rw [rdFrac]
   split
   ·rename_i hc
    have hc2 := (of_decide_eq_true hc).2
    have : 10 ^ j * (c.toNat - 48) ≤ 10 ^ j * 9 := Nat.mul_le_mul_left _ (by omega)
    exact ih _ _ (by omega)
   ·omega
theorem rdInt_lt (f acc k : Nat) (l : List UInt8) (h : acc < 10 ^ k) : (rdInt f acc l).1 < 10 ^ (k + f) := by
 induction f generalizing acc k l with
 | zero => simpa [rdInt] using h
 | succ f ih =>
  have hle : 10 ^ k ≤ 10 ^ (k + (f + 1)) := Nat.pow_le_pow_right (by omega) (by omega)
  cases l with
  | nil => simp only [rdInt]; omega
  | cons c r =>
   rw [rdInt]
   split
   ·rename_i hc
    have hc2 := (of_decide_eq_true hc).2
    have := ih (10 * acc + (c.toNat - 48)) (k + 1) r (by rw [Nat.pow_succ]; omega)
    rw [show k + 1 + f = k + (f + 1) by omega] at this; exact this
   ·show acc < _; omega
theorem afterDot_lt (l : List UInt8) : afterDot l < 1000000000 := by
 cases l with
 | nil => decide
 | cons c r =>
  rw [afterDot]; split
  ·exact rdFrac_lt 9 0 r (by decide)
  ·omega
theorem refV_m0 {l : List UInt8} {acc : Nat} (hm : minusL l = true) (h1 : (rdInt 14 0 (sizeL l)).1 = acc) (h2 : afterDot (rdInt 14 0 (sizeL l)).2 = 0) : refV l = (-(acc : Int), 0) := by
 unfold refV; rw [if_pos hm, if_pos h2, h1]
theorem refV_m1 {l : List UInt8} {acc x : Nat} (hm : minusL l = true) (h1 : (rdInt 14 0 (sizeL l)).1 = acc) (h2 : afterDot (rdInt 14 0 (sizeL l)).2 = x) (hx : 1 ≤ x) : refV l = (-(acc : Int) - 1, 1000000000 - (x : Int)) := by
 unfold refV; rw [if_pos hm, h2, if_neg (by omega), h1]
theorem refV_p {l : List UInt8} {acc x : Nat} (hm : minusL l = false) (h1 : (rdInt 14 0 (sizeL l)).1 = acc) (h2 : afterDot (rdInt 14 0 (sizeL l)).2 = x) : refV l = ((acc : Int), (x : Int)) := by
 unfold refV; rw [if_neg (by rw [hm]; decide), h1, h2]
set_option maxHeartbeats 4000000 in
theorem stpEROf_any (s : ByteArray) (w : World) (T : Tab w) (hs : s.size ≤ maxLen) :
  Calls Tryz.prog 58 #[.string s] w fun e w' => e = .returned (.tuple #[.int .i64 (tparse s.data.toList).1, .int .i64 (tparse s.data.toList).2.1, .int .i64 (tparse s.data.toList).2.2]) ∧ Below w.heap.size w w' := by
 unfold maxLen at hs
 have hlt14 : (rdInt 14 0 (sizeL s.data.toList)).1 < 100000000000000 := by
  have := rdInt_lt 14 0 0 (sizeL s.data.toList) (by decide)
  rw [show (10 : Nat) ^ (0 + 14) = 100000000000000 by decide] at this; exact this
 by_cases h0 : s.data.toList = []
 ·have e0 : s.toList = [] := by rw [ByteArray.toList_eq]; exact h0
  have hsz0 : s.size = 0 := by rw [← size_list, h0]; rfl
  have HM : Hid (minusL s.data.toList = false) := by unfold Hid; rw [h0]; rfl
  have hR : Hid (rdInt 14 0 (sizeL s.data.toList) = ((0 : Nat), [])) := by unfold Hid; rw [h0]; rfl
  have HX : Hid (afterDot [] = 0) := rfl
  clear h0
  go_enter Tryz.func58, Tryz.ntmps58
  go_upto_block 0 with fail
  go_cut [7, 8] (fun s7 s8 wx => s7 = .int .i64 0 ∧ s8 = .int .i64 0 ∧ wx = w)
  case first =>
   go_wp2_with fail
   go_loop [7, 8] (fun o i => o = .int .i64 0 ∧ i = .int .i64 0) (fun _ _ => 0)
   case atStart => exact ⟨rfl, rfl⟩
   case round =>
    obtain ⟨rfl, rfl⟩ := hrel
    go_wp2_with fail
    go_meet
    exact ⟨rfl, rfl, rfl⟩
  case rest =>
   obtain ⟨rfl, rfl, rfl⟩ := hcut
   clear e0
   have hv : refV s.data.toList = (((0 : Nat) : Int), ((0 : Nat) : Int)) := by unfold refV; rw [if_neg (by rw [HM.out]; decide), hR.out]; rfl
   have ht := tail_ref _ _ _ hv
   have HTx := Lib.hid fun W T => stpBRText_any (((0 : Nat) : Int)) (((0 : Nat) : Int)) W T
   rw [bs_of] at ht
   clear hv
   generalize tText (((0 : Nat) : Int)) (((0 : Nat) : Int)) = tt at ht HTx
   obtain ⟨t, te⟩ := tt
   rcases ht with ⟨e1, e3⟩ | ⟨e1, e3⟩ | ⟨e1, e2, e3⟩
   ·have HTP := Lib.hid e3
    clear e3
    obtain ⟨rfl, rfl⟩ := Prod.mk.inj e1
    go_wp2_with fail
    refine (HTx.out _ T).mono ?_; rintro e w4 ⟨rfl, hb4⟩
    have HB4 := Lib.hid hb4
    clear hb4
    go_wp2_with fail
    go_ret3
    exact ⟨by rw [HTP.out]; rfl, HB4.out⟩
   ·have e1' : (te != 0) = true := by simpa using e1
    have HTP := Lib.hid e3
    clear e1 e3
    go_wp2_with fail
    refine (HTx.out _ T).mono ?_; rintro e w4 ⟨rfl, hb4⟩
    have HB4 := Lib.hid hb4
    clear hb4
    go_wp2_with fail
    go_ret3
    exact ⟨by rw [HTP.out]; rfl, HB4.out⟩
   ·obtain rfl : te = 0 := e1
    have e2' : (t.toList == s.toList) = false := by rw [str_eq]; exact decide_eq_false e2
    have HTP := Lib.hid e3
    clear e2 e3
    go_wp2_with fail
    refine (HTx.out _ T).mono ?_; rintro e w4 ⟨rfl, hb4⟩
    have HB4 := Lib.hid hb4
    clear hb4
    go_wp2_with fail
    go_ret3
    exact ⟨by rw [HTP.out]; rfl, HB4.out⟩
 ·have hs1 : 1 ≤ s.size := by
   rcases Nat.eq_zero_or_pos s.size with h | h
   ·exact absurd (List.eq_nil_of_length_eq_zero (by rw [size_list]; exact h)) h0
   ·exact h
  have hne : s.toList.isEmpty = false := by rw [ByteArray.toList_eq, ← Bool.not_eq_true, List.isEmpty_iff]; exact h0
  have hdc := drop_cons s 0 (by omega)
  rw [List.drop_zero] at hdc
  have hq : s[0].toNat < 256 := s[0].toNat_lt
  by_cases hm : s[0] = 45
  ·have hm' : ((s[0].toNat : Int) == 45) = true := by rw [hm]; rfl
   have hmin : minusL s.data.toList = true := by rw [hdc, hm]; rfl
   have hsz : sizeL s.data.toList = s.data.toList.drop 1 := by unfold sizeL; rw [if_pos hmin]
   have HRl0 := Lib.hid ((extract_tail s 1).trans hsz.symm)
   obtain ⟨R, HR⟩ := hid_name (s.extract 1 s.size)
   have HRl : Hid (R.data.toList = sizeL s.data.toList) := by unfold Hid; rw [← HR.out]; exact HRl0.out
   have hRs : R.size ≤ 9223372036854775807 := by rw [← HR.out, ByteArray.size_extract]; omega
   have HM := Lib.hid hmin
   clear hdc h0 hm hmin hsz
   go_enter Tryz.func58, Tryz.ntmps58
   go_upto_region 5 with fail
   rw [HR.out]
   clear hm' hne hq
   go_upto_block 0 with fail
   go_cut [7, 8] (fun s7 s8 wx => ∃ k acc : Nat, s7 = .int .i64 (acc : Int) ∧ s8 = .int .i64 (k : Int) ∧ k ≤ R.size ∧ acc < 100000000000000 ∧ Hid (rdInt 14 0 R.data.toList = (acc, R.data.toList.drop k)) ∧ wx = w)
   case first =>
    go_wp2_with fail
    go_loop [7, 8] (fun o i => ∃ k acc : Nat, k ≤ R.size ∧ k ≤ 14 ∧ o = .int .i64 (acc : Int) ∧ i = .int .i64 (k : Int) ∧ Hid (rdInt (14 - k) acc (R.data.toList.drop k) = rdInt 14 0 R.data.toList) ∧ Hid (acc < 10 ^ k)) (fun _ i => R.size - (intOf i).toNat)
    case atStart => exact ⟨0, 0, by omega, by omega, rfl, rfl, rfl, (by show 0 < 10 ^ 0; decide)⟩
    case round =>
     obtain ⟨k, acc, hk, hk14, rfl, rfl, hR, hA⟩ := hrel
     have hA14 : acc < 100000000000000 := by
      have : (10 : Nat) ^ k ≤ 10 ^ 14 := Nat.pow_le_pow_right (by omega) hk14
      have e : (10 : Nat) ^ 14 = 100000000000000 := by decide
      have := hA.out; omega
     by_cases hlt : k < R.size
     ·have Hd := Lib.hid (drop_cons R k hlt)
      by_cases hc : 48 ≤ R[k].toNat ∧ R[k].toNat ≤ 57
      ·by_cases h14 : k < 14
       ·have hA13 : acc < 10000000000000 := by
         have : (10 : Nat) ^ k ≤ 10 ^ 13 := Nat.pow_le_pow_right (by omega) (by omega)
         have e : (10 : Nat) ^ 13 = 10000000000000 := by decide
         have := hA.out; omega
        obtain ⟨c1, c2⟩ := hc
        have HN : Hid (rdInt (14 - (k + 1)) (10 * acc + (R[k].toNat - 48)) (R.data.toList.drop (k + 1)) = rdInt 14 0 R.data.toList) := by
         unfold Hid; rw [← hR.out, Hd.out, rdInt_go k acc _ _ h14 (isD_yes c1 c2)]
        have HA2 : Hid (10 * acc + (R[k].toNat - 48) < 10 ^ (k + 1)) := by
         unfold Hid; rw [Nat.pow_succ]; have := hA.out; omega
        go_wp2_with fail
        go_round
        case rel => exact ⟨k + 1, 10 * acc + (R[k].toNat - 48), by omega, by omega, by go_num, by go_num, HN, HA2⟩
        case measure => simp [intOf]; omega
       ·obtain rfl : k = 14 := by omega
        obtain ⟨c1, c2⟩ := hc
        have HN : Hid (rdInt 14 0 R.data.toList = (acc, R.data.toList.drop 14)) := hR.out.symm
        go_wp2_with fail
        go_meet
        exact ⟨14, acc, rfl, rfl, hk, hA14, HN, rfl⟩
      ·have HN : Hid (rdInt 14 0 R.data.toList = (acc, R.data.toList.drop k)) := by
        unfold Hid; rw [← hR.out]; exact rdInt_stop _ _ _ fun c r e => by rw [Hd.out] at e; injection e with e _; rw [← e]; exact isD_no hc
       by_cases h48 : 48 ≤ R[k].toNat
       ·have h57 : ¬ R[k].toNat ≤ 57 := fun h => hc ⟨h48, h⟩
        clear hc
        go_wp2_with fail
        go_meet
        exact ⟨k, acc, rfl, rfl, hk, hA14, HN, rfl⟩
       ·clear hc
        go_wp2_with fail
        go_meet
        exact ⟨k, acc, rfl, rfl, hk, hA14, HN, rfl⟩
     ·obtain rfl : k = R.size := by omega
      have HN : Hid (rdInt 14 0 R.data.toList = (acc, R.data.toList.drop R.size)) := by
       unfold Hid; rw [← hR.out]; exact rdInt_stop _ _ _ fun c r e => by rw [List.drop_of_length_le (by simp)] at e; cases e
      go_wp2_with fail
      go_meet
      exact ⟨R.size, acc, rfl, rfl, hk, hA14, HN, rfl⟩
   case rest =>
    obtain ⟨k0, acc, rfl, rfl, hk, hacc, hR, rfl⟩ := hcut
    obtain ⟨x, HX⟩ := hid_name (afterDot (R.data.toList.drop k0))
    have hx9 : x < 1000000000 := by rw [← HX.out]; exact afterDot_lt _
    have hRx : Hid (afterDot (rdInt 14 0 (sizeL s.data.toList)).2 = x) := by unfold Hid; rw [← HRl.out, hR.out]; exact HX.out
    have H1 : Hid ((rdInt 14 0 (sizeL s.data.toList)).1 = acc) := by unfold Hid; rw [← HRl.out, hR.out]
    by_cases hlt : k0 < R.size
    ·have Hd := Lib.hid (drop_cons R k0 hlt)
     by_cases hc : R[k0] = 46
     ·have hc' : ((R[k0].toNat : Int) == 46) = true := by rw [hc]; rfl
      have HX9 : Hid (rdFrac 9 0 (R.data.toList.drop (k0 + 1)) = x) := by
       unfold Hid; rw [← HX.out, Hd.out, afterDot, if_pos hc]
      clear hc
      go_upto_block 2 with fail
      go_cut [9] (fun s9 wx => s9 = .int .i64 (x : Int) ∧ wx = wc)
      case first =>
       go_wp2_with fail
       go_loop [8, 9, 10] (fun i o u => ∃ k j nn : Nat, k ≤ R.size ∧ j ≤ 9 ∧ i = .int .i64 (k : Int) ∧ o = .int .i64 (nn : Int) ∧ u = .int .i64 ((10 ^ j / 10 : Nat) : Int) ∧ Hid (rdFrac j nn (R.data.toList.drop k) = x) ∧ Hid (nn + 10 ^ j ≤ 1000000000)) (fun i _ _ => R.size - (intOf i).toNat)
       case atStart => exact ⟨k0 + 1, 9, 0, by omega, by omega, by go_num, rfl, rfl, HX9.out, (by show 0 + 10 ^ 9 ≤ 1000000000; decide)⟩
       case round =>
        obtain ⟨k, j, nn, hk, hj, rfl, rfl, rfl, hR2, hA⟩ := hrel
        have hnn : nn < 1000000000 := by have := hA.out; have := pow10_pos j; omega
        by_cases hlt2 : k < R.size
        ·have Hd := Lib.hid (drop_cons R k hlt2)
         by_cases hc : 48 ≤ R[k].toNat ∧ R[k].toNat ≤ 57
         ·by_cases hj0 : j = 0
          ·subst hj0
           obtain ⟨c1, c2⟩ := hc
           have HN : Hid (nn = x) := by unfold Hid; rw [← hR2.out]; exact (rdFrac_stop _ _ _ (.inl rfl)).symm
           rw [show 10 ^ 0 / 10 = 0 by decide]
           go_wp2_with fail
           go_meet
           exact ⟨by rw [HN.out], rfl⟩
          ·obtain ⟨i, rfl⟩ : ∃ i, j = i + 1 := ⟨j - 1, by omega⟩
           obtain ⟨c1, c2⟩ := hc
           have e1 : 10 ^ (i + 1) / 10 = 10 ^ i := by rw [Nat.pow_succ, Nat.mul_div_cancel _ (by omega)]
           have hp := pow10_pos i
           have hA2 := hA.out
           rw [Nat.pow_succ] at hA2
           have hmul : 10 ^ i * (R[k].toNat - 48) ≤ 10 ^ i * 9 := Nat.mul_le_mul_left _ (by omega)
           have HN : Hid (rdFrac i (nn + 10 ^ i * (R[k].toNat - 48)) (R.data.toList.drop (k + 1)) = x) := by
            unfold Hid; rw [← hR2.out, Hd.out, rdFrac, if_pos (isD_yes c1 c2)]
           have hi8 : i ≤ 8 := by omega
           rw [e1]
           clear hj hj0 e1
           obtain ⟨u, Hu⟩ := hid_name (10 ^ i)
           rw [Hu.out] at hp hA2 hmul HN ⊢
           have ed : (R[k].toNat : Int) - 48 = ((R[k].toNat - 48 : Nat) : Int) := by omega
           obtain ⟨m, Hm⟩ := hid_name (u * (R[k].toNat - 48))
           have em : (u : Int) * ((R[k].toNat : Int) - 48) = (m : Int) := by rw [ed, ← Hm.out, Int.natCast_mul]
           rw [Hm.out] at hmul HN
           have HA3 : Hid (nn + m + u ≤ 1000000000) := by unfold Hid; omega
           have hm9 : m ≤ 1000000000 := by omega
           have hu9 : u ≤ 1000000000 := by omega
           have hs9 : nn + m ≤ 1000000000 := by omega
           have hmw : IntKind.i64.wrap (m : Int) = (m : Int) := IntWalk.i64_in _ (by omega)
           clear ed hmul hA2
           go_wp2_with fail
           go_round
           case rel => exact ⟨k + 1, i, nn + m, by omega, by omega, by go_num, by go_num, by rw [Hu.out]; go_num, HN, by rw [Hu.out]; exact HA3⟩
           case measure => simp [intOf]; omega
         ·have HN : Hid (nn = x) := by
           unfold Hid; rw [← hR2.out]; exact (rdFrac_stop _ _ _ (.inr fun c r e => by rw [Hd.out] at e; injection e with e _; rw [← e]; exact isD_no hc)).symm
          by_cases h48 : 48 ≤ R[k].toNat
          ·have h57 : ¬ R[k].toNat ≤ 57 := fun h => hc ⟨h48, h⟩
           clear hc
           go_wp2_with fail
           go_meet
           exact ⟨by rw [HN.out], rfl⟩
          ·clear hc
           go_wp2_with fail
           go_meet
           exact ⟨by rw [HN.out], rfl⟩
        ·obtain rfl : k = R.size := by omega
         have HN : Hid (nn = x) := by
          unfold Hid; rw [← hR2.out]; exact (rdFrac_stop _ _ _ (.inr fun c r e => by rw [List.drop_of_length_le (by simp)] at e; cases e)).symm
         go_wp2_with fail
         go_meet
         exact ⟨by rw [HN.out], rfl⟩
      case rest =>
       obtain ⟨rfl, rfl⟩ := hcut
       by_cases hx0 : x = 0
       ·subst hx0
        have hv : refV s.data.toList = (-(acc : Int), 0) := by exact refV_m0 HM.out H1.out hRx.out
        have ht := tail_ref _ _ _ hv
        have HTx := Lib.hid fun W T => stpBRText_any (-(acc : Int)) (0) W T
        rw [bs_of] at ht
        clear hv
        generalize tText (-(acc : Int)) (0) = tt at ht HTx
        obtain ⟨t, te⟩ := tt
        rcases ht with ⟨e1, e3⟩ | ⟨e1, e3⟩ | ⟨e1, e2, e3⟩
        ·have HTP := Lib.hid e3
         clear e3
         obtain ⟨rfl, rfl⟩ := Prod.mk.inj e1
         go_wp2_with fail
         refine (HTx.out _ T).mono ?_; rintro e w4 ⟨rfl, hb4⟩
         have HB4 := Lib.hid hb4
         clear hb4
         go_wp2_with fail
         go_ret3
         exact ⟨by rw [HTP.out]; rfl, HB4.out⟩
        ·have e1' : (te != 0) = true := by simpa using e1
         have HTP := Lib.hid e3
         clear e1 e3
         go_wp2_with fail
         refine (HTx.out _ T).mono ?_; rintro e w4 ⟨rfl, hb4⟩
         have HB4 := Lib.hid hb4
         clear hb4
         go_wp2_with fail
         go_ret3
         exact ⟨by rw [HTP.out]; rfl, HB4.out⟩
        ·obtain rfl : te = 0 := e1
         have e2' : (t.toList == s.toList) = false := by rw [str_eq]; exact decide_eq_false e2
         have HTP := Lib.hid e3
         clear e2 e3
         go_wp2_with fail
         refine (HTx.out _ T).mono ?_; rintro e w4 ⟨rfl, hb4⟩
         have HB4 := Lib.hid hb4
         clear hb4
         go_wp2_with fail
         go_ret3
         exact ⟨by rw [HTP.out]; rfl, HB4.out⟩
       ·have hx1 : 1 ≤ x := by omega
        clear hx0
        have hv : refV s.data.toList = (-(acc : Int) - 1, 1000000000 - (x : Int)) := by exact refV_m1 HM.out H1.out hRx.out hx1
        have ht := tail_ref _ _ _ hv
        have HTx := Lib.hid fun W T => stpBRText_any (-(acc : Int) - 1) (1000000000 - (x : Int)) W T
        rw [bs_of] at ht
        clear hv
        generalize tText (-(acc : Int) - 1) (1000000000 - (x : Int)) = tt at ht HTx
        obtain ⟨t, te⟩ := tt
        rcases ht with ⟨e1, e3⟩ | ⟨e1, e3⟩ | ⟨e1, e2, e3⟩
        ·have HTP := Lib.hid e3
         clear e3
         obtain ⟨rfl, rfl⟩ := Prod.mk.inj e1
         go_wp2_with fail
         refine (HTx.out _ T).mono ?_; rintro e w4 ⟨rfl, hb4⟩
         have HB4 := Lib.hid hb4
         clear hb4
         go_wp2_with fail
         go_ret3
         exact ⟨by rw [HTP.out]; rfl, HB4.out⟩
        ·have e1' : (te != 0) = true := by simpa using e1
         have HTP := Lib.hid e3
         clear e1 e3
         go_wp2_with fail
         refine (HTx.out _ T).mono ?_; rintro e w4 ⟨rfl, hb4⟩
         have HB4 := Lib.hid hb4
         clear hb4
         go_wp2_with fail
         go_ret3
         exact ⟨by rw [HTP.out]; rfl, HB4.out⟩
        ·obtain rfl : te = 0 := e1
         have e2' : (t.toList == s.toList) = false := by rw [str_eq]; exact decide_eq_false e2
         have HTP := Lib.hid e3
         clear e2 e3
         go_wp2_with fail
         refine (HTx.out _ T).mono ?_; rintro e w4 ⟨rfl, hb4⟩
         have HB4 := Lib.hid hb4
         clear hb4
         go_wp2_with fail
         go_ret3
         exact ⟨by rw [HTP.out]; rfl, HB4.out⟩
     ·have hc' : ((R[k0].toNat : Int) == 46) = false := by
       rw [beq_eq_false_iff_ne]; intro h; exact hc (UInt8.toNat_inj.1 (show R[k0].toNat = 46 by omega))
      obtain rfl : x = 0 := by rw [← HX.out, Hd.out, afterDot, if_neg hc]
      clear hc
      have hv : refV s.data.toList = (-(acc : Int), 0) := by exact refV_m0 HM.out H1.out hRx.out
      have ht := tail_ref _ _ _ hv
      have HTx := Lib.hid fun W T => stpBRText_any (-(acc : Int)) (0) W T
      rw [bs_of] at ht
      clear hv
      generalize tText (-(acc : Int)) (0) = tt at ht HTx
      obtain ⟨t, te⟩ := tt
      rcases ht with ⟨e1, e3⟩ | ⟨e1, e3⟩ | ⟨e1, e2, e3⟩
      ·have HTP := Lib.hid e3
       clear e3
       obtain ⟨rfl, rfl⟩ := Prod.mk.inj e1
       go_wp2_with fail
       refine (HTx.out _ T).mono ?_; rintro e w4 ⟨rfl, hb4⟩
       have HB4 := Lib.hid hb4
       clear hb4
       go_wp2_with fail
       go_ret3
       exact ⟨by rw [HTP.out]; rfl, HB4.out⟩
      ·have e1' : (te != 0) = true := by simpa using e1
       have HTP := Lib.hid e3
       clear e1 e3
       go_wp2_with fail
       refine (HTx.out _ T).mono ?_; rintro e w4 ⟨rfl, hb4⟩
       have HB4 := Lib.hid hb4
       clear hb4
       go_wp2_with fail
       go_ret3
       exact ⟨by rw [HTP.out]; rfl, HB4.out⟩
      ·obtain rfl : te = 0 := e1
       have e2' : (t.toList == s.toList) = false := by rw [str_eq]; exact decide_eq_false e2
       have HTP := Lib.hid e3
       clear e2 e3
       go_wp2_with fail
       refine (HTx.out _ T).mono ?_; rintro e w4 ⟨rfl, hb4⟩
       have HB4 := Lib.hid hb4
       clear hb4
       go_wp2_with fail
       go_ret3
       exact ⟨by rw [HTP.out]; rfl, HB4.out⟩
    ·obtain rfl : x = 0 := by rw [← HX.out, List.drop_of_length_le (by rw [size_list]; omega)]; rfl
     have hv : refV s.data.toList = (-(acc : Int), 0) := by exact refV_m0 HM.out H1.out hRx.out
     have ht := tail_ref _ _ _ hv
     have HTx := Lib.hid fun W T => stpBRText_any (-(acc : Int)) (0) W T
     rw [bs_of] at ht
     clear hv
     generalize tText (-(acc : Int)) (0) = tt at ht HTx
     obtain ⟨t, te⟩ := tt
     rcases ht with ⟨e1, e3⟩ | ⟨e1, e3⟩ | ⟨e1, e2, e3⟩
     ·have HTP := Lib.hid e3
      clear e3
      obtain ⟨rfl, rfl⟩ := Prod.mk.inj e1
      go_wp2_with fail
      refine (HTx.out _ T).mono ?_; rintro e w4 ⟨rfl, hb4⟩
      have HB4 := Lib.hid hb4
      clear hb4
      go_wp2_with fail
      go_ret3
      exact ⟨by rw [HTP.out]; rfl, HB4.out⟩
     ·have e1' : (te != 0) = true := by simpa using e1
      have HTP := Lib.hid e3
      clear e1 e3
      go_wp2_with fail
      refine (HTx.out _ T).mono ?_; rintro e w4 ⟨rfl, hb4⟩
      have HB4 := Lib.hid hb4
      clear hb4
      go_wp2_with fail
      go_ret3
      exact ⟨by rw [HTP.out]; rfl, HB4.out⟩
     ·obtain rfl : te = 0 := e1
      have e2' : (t.toList == s.toList) = false := by rw [str_eq]; exact decide_eq_false e2
      have HTP := Lib.hid e3
      clear e2 e3
      go_wp2_with fail
      refine (HTx.out _ T).mono ?_; rintro e w4 ⟨rfl, hb4⟩
      have HB4 := Lib.hid hb4
      clear hb4
      go_wp2_with fail
      go_ret3
      exact ⟨by rw [HTP.out]; rfl, HB4.out⟩
  ·have hm' : ((s[0].toNat : Int) == 45) = false := by
    rw [beq_eq_false_iff_ne]; intro h; exact hm (UInt8.toNat_inj.1 (show s[0].toNat = 45 by omega))
   have hmin : minusL s.data.toList = false := by rw [hdc]; show (s[0] == 45) = false; simpa using hm
   have hsz : sizeL s.data.toList = s.data.toList := by unfold sizeL; rw [if_neg (by rw [hmin]; decide)]
   obtain ⟨R, HR⟩ : ∃ R, Hid (s = R) := ⟨s, rfl⟩
   have HRl : Hid (R.data.toList = sizeL s.data.toList) := by unfold Hid; rw [← HR.out]; exact hsz.symm
   have hRs : R.size ≤ 9223372036854775807 := by rw [← HR.out]; omega
   have HM := Lib.hid hmin
   clear hdc h0 hm hmin hsz
   go_enter Tryz.func58, Tryz.ntmps58
   go_upto_region 5 with fail
   go_cut [5, 7] (fun s5 s7 wx => s5 = .string R ∧ s7 = .int .i64 0 ∧ wx = w)
   case first =>
    go_wp2_with fail
    go_meet
    exact ⟨by rw [HR.out], rfl, rfl⟩
   case rest =>
    obtain ⟨rfl, rfl, rfl⟩ := hcut
    clear hm' hne hq
    go_upto_block 0 with fail
    go_cut [7, 8] (fun s7 s8 wx => ∃ k acc : Nat, s7 = .int .i64 (acc : Int) ∧ s8 = .int .i64 (k : Int) ∧ k ≤ R.size ∧ acc < 100000000000000 ∧ Hid (rdInt 14 0 R.data.toList = (acc, R.data.toList.drop k)) ∧ wx = wc)
    case first =>
     go_wp2_with fail
     go_loop [7, 8] (fun o i => ∃ k acc : Nat, k ≤ R.size ∧ k ≤ 14 ∧ o = .int .i64 (acc : Int) ∧ i = .int .i64 (k : Int) ∧ Hid (rdInt (14 - k) acc (R.data.toList.drop k) = rdInt 14 0 R.data.toList) ∧ Hid (acc < 10 ^ k)) (fun _ i => R.size - (intOf i).toNat)
     case atStart => exact ⟨0, 0, by omega, by omega, rfl, rfl, rfl, (by show 0 < 10 ^ 0; decide)⟩
     case round =>
      obtain ⟨k, acc, hk, hk14, rfl, rfl, hR, hA⟩ := hrel
      have hA14 : acc < 100000000000000 := by
       have : (10 : Nat) ^ k ≤ 10 ^ 14 := Nat.pow_le_pow_right (by omega) hk14
       have e : (10 : Nat) ^ 14 = 100000000000000 := by decide
       have := hA.out; omega
      by_cases hlt : k < R.size
      ·have Hd := Lib.hid (drop_cons R k hlt)
       by_cases hc : 48 ≤ R[k].toNat ∧ R[k].toNat ≤ 57
       ·by_cases h14 : k < 14
        ·have hA13 : acc < 10000000000000 := by
          have : (10 : Nat) ^ k ≤ 10 ^ 13 := Nat.pow_le_pow_right (by omega) (by omega)
          have e : (10 : Nat) ^ 13 = 10000000000000 := by decide
          have := hA.out; omega
         obtain ⟨c1, c2⟩ := hc
         have HN : Hid (rdInt (14 - (k + 1)) (10 * acc + (R[k].toNat - 48)) (R.data.toList.drop (k + 1)) = rdInt 14 0 R.data.toList) := by
          unfold Hid; rw [← hR.out, Hd.out, rdInt_go k acc _ _ h14 (isD_yes c1 c2)]
         have HA2 : Hid (10 * acc + (R[k].toNat - 48) < 10 ^ (k + 1)) := by
          unfold Hid; rw [Nat.pow_succ]; have := hA.out; omega
         go_wp2_with fail
         go_round
         case rel => exact ⟨k + 1, 10 * acc + (R[k].toNat - 48), by omega, by omega, by go_num, by go_num, HN, HA2⟩
         case measure => simp [intOf]; omega
        ·obtain rfl : k = 14 := by omega
         obtain ⟨c1, c2⟩ := hc
         have HN : Hid (rdInt 14 0 R.data.toList = (acc, R.data.toList.drop 14)) := hR.out.symm
         go_wp2_with fail
         go_meet
         exact ⟨14, acc, rfl, rfl, hk, hA14, HN, rfl⟩
       ·have HN : Hid (rdInt 14 0 R.data.toList = (acc, R.data.toList.drop k)) := by
         unfold Hid; rw [← hR.out]; exact rdInt_stop _ _ _ fun c r e => by rw [Hd.out] at e; injection e with e _; rw [← e]; exact isD_no hc
        by_cases h48 : 48 ≤ R[k].toNat
        ·have h57 : ¬ R[k].toNat ≤ 57 := fun h => hc ⟨h48, h⟩
         clear hc
         go_wp2_with fail
         go_meet
         exact ⟨k, acc, rfl, rfl, hk, hA14, HN, rfl⟩
        ·clear hc
         go_wp2_with fail
         go_meet
         exact ⟨k, acc, rfl, rfl, hk, hA14, HN, rfl⟩
      ·obtain rfl : k = R.size := by omega
       have HN : Hid (rdInt 14 0 R.data.toList = (acc, R.data.toList.drop R.size)) := by
        unfold Hid; rw [← hR.out]; exact rdInt_stop _ _ _ fun c r e => by rw [List.drop_of_length_le (by simp)] at e; cases e
       go_wp2_with fail
       go_meet
       exact ⟨R.size, acc, rfl, rfl, hk, hA14, HN, rfl⟩
    case rest =>
     obtain ⟨k0, acc, rfl, rfl, hk, hacc, hR, rfl⟩ := hcut
     obtain ⟨x, HX⟩ := hid_name (afterDot (R.data.toList.drop k0))
     have hx9 : x < 1000000000 := by rw [← HX.out]; exact afterDot_lt _
     have hRx : Hid (afterDot (rdInt 14 0 (sizeL s.data.toList)).2 = x) := by unfold Hid; rw [← HRl.out, hR.out]; exact HX.out
     have H1 : Hid ((rdInt 14 0 (sizeL s.data.toList)).1 = acc) := by unfold Hid; rw [← HRl.out, hR.out]
     by_cases hlt : k0 < R.size
     ·have Hd := Lib.hid (drop_cons R k0 hlt)
      by_cases hc : R[k0] = 46
      ·have hc' : ((R[k0].toNat : Int) == 46) = true := by rw [hc]; rfl
       have HX9 : Hid (rdFrac 9 0 (R.data.toList.drop (k0 + 1)) = x) := by
        unfold Hid; rw [← HX.out, Hd.out, afterDot, if_pos hc]
       clear hc
       go_upto_block 2 with fail
       go_cut [9] (fun s9 wx => s9 = .int .i64 (x : Int) ∧ wx = wc)
       case first =>
        go_wp2_with fail
        go_loop [8, 9, 10] (fun i o u => ∃ k j nn : Nat, k ≤ R.size ∧ j ≤ 9 ∧ i = .int .i64 (k : Int) ∧ o = .int .i64 (nn : Int) ∧ u = .int .i64 ((10 ^ j / 10 : Nat) : Int) ∧ Hid (rdFrac j nn (R.data.toList.drop k) = x) ∧ Hid (nn + 10 ^ j ≤ 1000000000)) (fun i _ _ => R.size - (intOf i).toNat)
        case atStart => exact ⟨k0 + 1, 9, 0, by omega, by omega, by go_num, rfl, rfl, HX9.out, (by show 0 + 10 ^ 9 ≤ 1000000000; decide)⟩
        case round =>
         obtain ⟨k, j, nn, hk, hj, rfl, rfl, rfl, hR2, hA⟩ := hrel
         have hnn : nn < 1000000000 := by have := hA.out; have := pow10_pos j; omega
         by_cases hlt2 : k < R.size
         ·have Hd := Lib.hid (drop_cons R k hlt2)
          by_cases hc : 48 ≤ R[k].toNat ∧ R[k].toNat ≤ 57
          ·by_cases hj0 : j = 0
           ·subst hj0
            obtain ⟨c1, c2⟩ := hc
            have HN : Hid (nn = x) := by unfold Hid; rw [← hR2.out]; exact (rdFrac_stop _ _ _ (.inl rfl)).symm
            rw [show 10 ^ 0 / 10 = 0 by decide]
            go_wp2_with fail
            go_meet
            exact ⟨by rw [HN.out], rfl⟩
           ·obtain ⟨i, rfl⟩ : ∃ i, j = i + 1 := ⟨j - 1, by omega⟩
            obtain ⟨c1, c2⟩ := hc
            have e1 : 10 ^ (i + 1) / 10 = 10 ^ i := by rw [Nat.pow_succ, Nat.mul_div_cancel _ (by omega)]
            have hp := pow10_pos i
            have hA2 := hA.out
            rw [Nat.pow_succ] at hA2
            have hmul : 10 ^ i * (R[k].toNat - 48) ≤ 10 ^ i * 9 := Nat.mul_le_mul_left _ (by omega)
            have HN : Hid (rdFrac i (nn + 10 ^ i * (R[k].toNat - 48)) (R.data.toList.drop (k + 1)) = x) := by
             unfold Hid; rw [← hR2.out, Hd.out, rdFrac, if_pos (isD_yes c1 c2)]
            have hi8 : i ≤ 8 := by omega
            rw [e1]
            clear hj hj0 e1
            obtain ⟨u, Hu⟩ := hid_name (10 ^ i)
            rw [Hu.out] at hp hA2 hmul HN ⊢
            have ed : (R[k].toNat : Int) - 48 = ((R[k].toNat - 48 : Nat) : Int) := by omega
            obtain ⟨m, Hm⟩ := hid_name (u * (R[k].toNat - 48))
            have em : (u : Int) * ((R[k].toNat : Int) - 48) = (m : Int) := by rw [ed, ← Hm.out, Int.natCast_mul]
            rw [Hm.out] at hmul HN
            have HA3 : Hid (nn + m + u ≤ 1000000000) := by unfold Hid; omega
            have hm9 : m ≤ 1000000000 := by omega
            have hu9 : u ≤ 1000000000 := by omega
            have hs9 : nn + m ≤ 1000000000 := by omega
            have hmw : IntKind.i64.wrap (m : Int) = (m : Int) := IntWalk.i64_in _ (by omega)
            clear ed hmul hA2
            go_wp2_with fail
            go_round
            case rel => exact ⟨k + 1, i, nn + m, by omega, by omega, by go_num, by go_num, by rw [Hu.out]; go_num, HN, by rw [Hu.out]; exact HA3⟩
            case measure => simp [intOf]; omega
          ·have HN : Hid (nn = x) := by
            unfold Hid; rw [← hR2.out]; exact (rdFrac_stop _ _ _ (.inr fun c r e => by rw [Hd.out] at e; injection e with e _; rw [← e]; exact isD_no hc)).symm
           by_cases h48 : 48 ≤ R[k].toNat
           ·have h57 : ¬ R[k].toNat ≤ 57 := fun h => hc ⟨h48, h⟩
            clear hc
            go_wp2_with fail
            go_meet
            exact ⟨by rw [HN.out], rfl⟩
           ·clear hc
            go_wp2_with fail
            go_meet
            exact ⟨by rw [HN.out], rfl⟩
         ·obtain rfl : k = R.size := by omega
          have HN : Hid (nn = x) := by
           unfold Hid; rw [← hR2.out]; exact (rdFrac_stop _ _ _ (.inr fun c r e => by rw [List.drop_of_length_le (by simp)] at e; cases e)).symm
          go_wp2_with fail
          go_meet
          exact ⟨by rw [HN.out], rfl⟩
       case rest =>
        obtain ⟨rfl, rfl⟩ := hcut
        have hv : refV s.data.toList = ((acc : Int), (x : Int)) := by exact refV_p HM.out H1.out hRx.out
        have ht := tail_ref _ _ _ hv
        have HTx := Lib.hid fun W T => stpBRText_any ((acc : Int)) ((x : Int)) W T
        rw [bs_of] at ht
        clear hv
        generalize tText ((acc : Int)) ((x : Int)) = tt at ht HTx
        obtain ⟨t, te⟩ := tt
        rcases ht with ⟨e1, e3⟩ | ⟨e1, e3⟩ | ⟨e1, e2, e3⟩
        ·have HTP := Lib.hid e3
         clear e3
         obtain ⟨rfl, rfl⟩ := Prod.mk.inj e1
         go_wp2_with fail
         refine (HTx.out _ T).mono ?_; rintro e w4 ⟨rfl, hb4⟩
         have HB4 := Lib.hid hb4
         clear hb4
         go_wp2_with fail
         go_ret3
         exact ⟨by rw [HTP.out]; rfl, HB4.out⟩
        ·have e1' : (te != 0) = true := by simpa using e1
         have HTP := Lib.hid e3
         clear e1 e3
         go_wp2_with fail
         refine (HTx.out _ T).mono ?_; rintro e w4 ⟨rfl, hb4⟩
         have HB4 := Lib.hid hb4
         clear hb4
         go_wp2_with fail
         go_ret3
         exact ⟨by rw [HTP.out]; rfl, HB4.out⟩
        ·obtain rfl : te = 0 := e1
         have e2' : (t.toList == s.toList) = false := by rw [str_eq]; exact decide_eq_false e2
         have HTP := Lib.hid e3
         clear e2 e3
         go_wp2_with fail
         refine (HTx.out _ T).mono ?_; rintro e w4 ⟨rfl, hb4⟩
         have HB4 := Lib.hid hb4
         clear hb4
         go_wp2_with fail
         go_ret3
         exact ⟨by rw [HTP.out]; rfl, HB4.out⟩
      ·have hc' : ((R[k0].toNat : Int) == 46) = false := by
        rw [beq_eq_false_iff_ne]; intro h; exact hc (UInt8.toNat_inj.1 (show R[k0].toNat = 46 by omega))
       obtain rfl : x = 0 := by rw [← HX.out, Hd.out, afterDot, if_neg hc]
       clear hc
       have hv : refV s.data.toList = ((acc : Int), 0) := by exact refV_p HM.out H1.out hRx.out
       have ht := tail_ref _ _ _ hv
       have HTx := Lib.hid fun W T => stpBRText_any ((acc : Int)) (0) W T
       rw [bs_of] at ht
       clear hv
       generalize tText ((acc : Int)) (0) = tt at ht HTx
       obtain ⟨t, te⟩ := tt
       rcases ht with ⟨e1, e3⟩ | ⟨e1, e3⟩ | ⟨e1, e2, e3⟩
       ·have HTP := Lib.hid e3
        clear e3
        obtain ⟨rfl, rfl⟩ := Prod.mk.inj e1
        go_wp2_with fail
        refine (HTx.out _ T).mono ?_; rintro e w4 ⟨rfl, hb4⟩
        have HB4 := Lib.hid hb4
        clear hb4
        go_wp2_with fail
        go_ret3
        exact ⟨by rw [HTP.out]; rfl, HB4.out⟩
       ·have e1' : (te != 0) = true := by simpa using e1
        have HTP := Lib.hid e3
        clear e1 e3
        go_wp2_with fail
        refine (HTx.out _ T).mono ?_; rintro e w4 ⟨rfl, hb4⟩
        have HB4 := Lib.hid hb4
        clear hb4
        go_wp2_with fail
        go_ret3
        exact ⟨by rw [HTP.out]; rfl, HB4.out⟩
       ·obtain rfl : te = 0 := e1
        have e2' : (t.toList == s.toList) = false := by rw [str_eq]; exact decide_eq_false e2
        have HTP := Lib.hid e3
        clear e2 e3
        go_wp2_with fail
        refine (HTx.out _ T).mono ?_; rintro e w4 ⟨rfl, hb4⟩
        have HB4 := Lib.hid hb4
        clear hb4
        go_wp2_with fail
        go_ret3
        exact ⟨by rw [HTP.out]; rfl, HB4.out⟩
     ·obtain rfl : x = 0 := by rw [← HX.out, List.drop_of_length_le (by rw [size_list]; omega)]; rfl
      have hv : refV s.data.toList = ((acc : Int), 0) := by exact refV_p HM.out H1.out hRx.out
      have ht := tail_ref _ _ _ hv
      have HTx := Lib.hid fun W T => stpBRText_any ((acc : Int)) (0) W T
      rw [bs_of] at ht
      clear hv
      generalize tText ((acc : Int)) (0) = tt at ht HTx
      obtain ⟨t, te⟩ := tt
      rcases ht with ⟨e1, e3⟩ | ⟨e1, e3⟩ | ⟨e1, e2, e3⟩
      ·have HTP := Lib.hid e3
       clear e3
       obtain ⟨rfl, rfl⟩ := Prod.mk.inj e1
       go_wp2_with fail
       refine (HTx.out _ T).mono ?_; rintro e w4 ⟨rfl, hb4⟩
       have HB4 := Lib.hid hb4
       clear hb4
       go_wp2_with fail
       go_ret3
       exact ⟨by rw [HTP.out]; rfl, HB4.out⟩
      ·have e1' : (te != 0) = true := by simpa using e1
       have HTP := Lib.hid e3
       clear e1 e3
       go_wp2_with fail
       refine (HTx.out _ T).mono ?_; rintro e w4 ⟨rfl, hb4⟩
       have HB4 := Lib.hid hb4
       clear hb4
       go_wp2_with fail
       go_ret3
       exact ⟨by rw [HTP.out]; rfl, HB4.out⟩
      ·obtain rfl : te = 0 := e1
       have e2' : (t.toList == s.toList) = false := by rw [str_eq]; exact decide_eq_false e2
       have HTP := Lib.hid e3
       clear e2 e3
       go_wp2_with fail
       refine (HTx.out _ T).mono ?_; rintro e w4 ⟨rfl, hb4⟩
       have HB4 := Lib.hid hb4
       clear hb4
       go_wp2_with fail
       go_ret3
       exact ⟨by rw [HTP.out]; rfl, HB4.out⟩
end Go.Proofs.YtmejnabngfpbeaaGreatDoor
