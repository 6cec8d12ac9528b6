/- The properties of globs: GlobMany. -/
import Derived.Test.YtcljfokcomclgaaDoorGlbP
import Derived.Test.YtcljfokcomclgaaDoorGlbN
import Derived.Test.YtcljfokcomclgaaDoorOctA
import Derived.Test.YtcljfokcomclgaaDoorShelf
import Derived.IntWalk
set_option linter.unusedVariables false
set_option maxRecDepth 100000
namespace Go.Proofs.YtcljfokcomclgaaDoor
open Go.RowKit
open Go.OpenShut
theorem fitsE_ok {p s : List UInt8} (h : globE p = 0) (h2 : pathE s = 0) : fitsE p s = 0 := by unfold fitsE; rw [if_pos h, h2]
theorem fitsE_no {p : List UInt8} (s : List UInt8) (h : globE p ≠ 0) : fitsE p s = globE p := by unfold fitsE; rw [if_neg h]
theorem fitsB_ok {p s : List UInt8} (h : globE p = 0) (h2 : pathE s = 0) : fitsB p s = globF p s := by unfold fitsB; rw [fitsE_ok h h2, decide_eq_true rfl, Bool.true_and]
theorem gpicked_nat (a : Int) (m : Int) (h : 1 ≤ m) (h' : m ≤ 1000) : ∃ n : Nat, 1 + pick a m = (n : Int) ∧ 1 ≤ n ∧ (n : Int) ≤ m := by
  obtain ⟨p1, p2⟩ := pick_bd a m h
  exact ⟨(1 + pick a m).toNat, by omega, by omega, by omega⟩
/-- what Fits says of a text of one sign, and of stars -/
theorem many_ok (n m : Nat) (hn : 1 ≤ n) (hn2 : n ≤ 40) (hm : 1 ≤ m) (hm2 : m ≤ 60) :
    (fitsE (starL 97 n) (List.replicate m 97) = 0 ∧ fitsB (starL 97 n) (List.replicate m 97) = decide (n ≤ m)) ∧ fitsE (starL 97 n ++ [98]) (List.replicate m 97) = 0 ∧ fitsB (starL 97 n ++ [98]) (List.replicate m 97) = false := by
  have hp : plainC 97 := ⟨by decide, by decide, by decide⟩
  have hq : plainC 98 := ⟨by decide, by decide, by decide⟩
  have hne : starL 97 n ≠ [] := fun e => by
    have := starL_len 97 n
    rw [e] at this; simp at this; omega
  have h47 := hasB_starL 97 47 (by decide) (by decide) n
  have t1 : (tokL (starL 97 n)).isSome = true := by
    have e := tokL_stars 97 hp n []
    rw [List.append_nil, tokL] at e
    rw [e]; rfl
  have t2 : (tokL (starL 97 n ++ [98])).isSome = true := by
    rw [tokL_stars 97 hp n [98], tokL_plain [98] (by intro x hx; rw [List.mem_singleton.1 hx]; exact hq)]; rfl
  have g1 : globE (starL 97 n) = 0 := globE_one hne (by rw [starL_len]; omega) h47 t1
  have h47' : hasB 47 (starL 97 n ++ [98]) = false := by rw [hasB_app, h47]; rfl
  have g2 : globE (starL 97 n ++ [98]) = 0 := globE_one (by simp) (by rw [List.length_append, starL_len]; simp; omega) h47' t2
  have hs := hasB_same 97 47 (by decide) m
  have e1 : pathE (List.replicate m 97) = 0 := pathE_one (nameB_rep 97 m hm (by decide)) (by rw [List.length_replicate]; omega) (by rw [List.length_replicate]; omega) hs (hasB_same 97 0 (by decide) m)
  have ne1 : starL 97 n ≠ [42, 42] := by
    obtain ⟨k, rfl⟩ : ∃ k, n = k + 1 := ⟨n - 1, by omega⟩
    intro e
    injection e with _ e
    injection e with e _
    cases e
  have ne2 : starL 97 n ++ [98] ≠ [42, 42] := fun e => by
    have := congrArg List.getLast? e
    rw [List.getLast?_append] at this
    simp at this
  exact ⟨⟨fitsE_ok g1 e1, by rw [fitsB_ok g1 e1, globF_single h47 hs ne1, partF_stars 97 hp n m hn]⟩, fitsE_ok g2 e1, by rw [fitsB_ok g2 e1, globF_single h47' hs ne2, partF_starsNo 97 98 hp hq (by decide) n m]⟩
theorem GlobMany_walk (a0 a1 : Int) (w0 : (Lit.int .i64 a0).wf = true) (w1 : (Lit.int .i64 a1).wf = true) (w : World) :
    Calls Tryd.prog 8 #[.int .i64 a0, .int .i64 a1] w fun e w' => e = .returned (.bool true) ∧ Below w.heap.size w w' := by
  obtain ⟨n, hA, A1, A2⟩ := gpicked_nat a0 40 (by omega) (by omega)
  obtain ⟨m, hB, B1, B2⟩ := gpicked_nat a1 60 (by omega) (by omega)
  have HA := Lib.hid hA
  have HB := Lib.hid hB
  have HPA := Lib.hid fun W => picked_any a0 40 W w0 (by omega)
  have HPB := Lib.hid fun W => picked_any a1 60 W w1 (by omega)
  have b1 := pick_bd a0 40 (by omega)
  have b2 := pick_bd a1 60 (by omega)
  obtain ⟨⟨k1, k2⟩, k3, k4⟩ := many_ok n m A1 (by omega) B1 (by omega)
  generalize pick a0 40 = pa at *
  generalize pick a1 60 = pb at *
  clear hA hB w0 w1
  have HRP : Hid (∀ W, Calls Tryd.prog 18 #[.string ⟨#[42, 97]⟩, .int .i64 (n : Int)] W fun e w' => e = .returned (.string (bs (starL 97 n))) ∧ Below W.heap.size W w') := fun W => by
    refine (Tryd.strings_Repeat ⟨#[42, 97]⟩ n _ (by omega) (by show 2 * n ≤ _; omega)).mono ?_; rintro e w1 ⟨rfl, hb1⟩
    exact ⟨by rw [show (⟨#[42, 97]⟩ : ByteArray).data.toList = [42, 97] from rfl, starL_rep]; rfl, hb1⟩
  have HRS : Hid (∀ W, Calls Tryd.prog 18 #[.string ⟨#[97]⟩, .int .i64 (m : Int)] W fun e w' => e = .returned (.string (bs (List.replicate m 97))) ∧ Below W.heap.size W w') := fun W => by
    refine (Tryd.strings_Repeat ⟨#[97]⟩ m _ (by omega) (by show 1 * m ≤ _; omega)).mono ?_; rintro e w1 ⟨rfl, hb1⟩
    have e1 : Lib.repeatL (⟨#[97]⟩ : ByteArray).data.toList m = List.replicate m 97 := by
      have := Lib.repeatL_replicate 97 1 m
      rw [Nat.mul_one] at this; exact this
    exact ⟨by rw [e1]; rfl, hb1⟩
  obtain ⟨x, Hx⟩ := hid_name (bs (starL 97 n))
  obtain ⟨y, Hy⟩ := hid_name (bs (List.replicate m 97))
  have hx : x.data.toList = starL 97 n := by rw [← Hx.out]; rfl
  have hy : y.data.toList = List.replicate m 97 := by rw [← Hy.out]; rfl
  have hxs : x.size ≤ 80 := by
    have : x.data.toList.length = x.size := by simp
    rw [hx, starL_len] at this; omega
  have hys : y.size ≤ 60 := by
    have : y.data.toList.length = y.size := by simp
    rw [hy, List.length_replicate] at this; omega
  rw [Hx.out] at HRP
  rw [Hy.out] at HRS
  have HF1 : Hid (∀ W, Calls Tryd.prog 11 #[.string x, .string y] W fun e w' => e = .returned (.tuple #[.bool (decide (n ≤ m)), .int .i64 0]) ∧ Below W.heap.size W w') := fun W => by
    have := gFits_any x y W (by unfold maxLen; omega) (by unfold maxLen; omega)
    rw [hx, hy, k1, k2] at this; exact this
  have HF2 : Hid (∀ W, Calls Tryd.prog 11 #[.string (x ++ ⟨#[98]⟩), .string y] W fun e w' => e = .returned (.tuple #[.bool false, .int .i64 0]) ∧ Below W.heap.size W w') := fun W => by
    have := gFits_any (x ++ ⟨#[98]⟩) y W (by rw [ByteArray.size_append]; show x.size + 1 ≤ _; unfold maxLen; omega) (by unfold maxLen; omega)
    have e : (x ++ ⟨#[98]⟩ : ByteArray).data.toList = starL 97 n ++ [98] := by rw [ByteArray.data_append, Array.toList_append, hx]
    rw [e, hy, k3, k4] at this; exact this
  clear hx hy k1 k2 k3 k4
  go_enter Tryd.func8, Tryd.ntmps8
  go_wp2_with fail
  refine (HPA.out _).mono ?_; rintro e w' ⟨rfl, rfl⟩
  go_wp2_with fail
  refine (HPB.out _).mono ?_; rintro e w' ⟨rfl, rfl⟩
  go_wp2_with fail
  rw [HA.out]
  refine (HRP.out _).mono ?_; rintro e x1 ⟨rfl, hb1⟩
  have HB1 := Lib.hid hb1
  clear hb1
  go_wp2_with fail
  rw [HB.out]
  refine (HRS.out _).mono ?_; rintro e x2 ⟨rfl, hb2⟩
  have HB2 := Lib.hid (HB1.out.trans (hb2.mono HB1.out.size))
  clear hb2
  go_wp2_with fail
  refine (HF1.out _).mono ?_; rintro e x3 ⟨rfl, hb3⟩
  have HB3 := Lib.hid (HB2.out.trans (hb3.mono HB2.out.size))
  clear hb3
  go_wp2_with fail
  refine (HF2.out _).mono ?_; rintro e x4 ⟨rfl, hb4⟩
  have HB4 := Lib.hid (HB3.out.trans (hb4.mono HB3.out.size))
  clear hb4
  go_wp2_with fail
  go_ret
  exact ⟨by simp, HB4.out⟩
end Go.Proofs.YtcljfokcomclgaaDoor
