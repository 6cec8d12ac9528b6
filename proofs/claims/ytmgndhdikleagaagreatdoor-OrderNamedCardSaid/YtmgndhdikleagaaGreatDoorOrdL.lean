/- cmp.Less and slices.IsSorted at strings. -/
import Derived.Test.YtmgndhdikleagaaGreatDoorOrdK
import Derived.Test.YtmgndhdikleagaaGreatDoorMth
import Derived.Test.YtmgndhdikleagaaGreatDoorLesA
set_option linter.unusedVariables false
set_option maxRecDepth 100000
namespace Go.Proofs.YtmgndhdikleagaaGreatDoor
open Go.RowKit
open Go.OpenShut
theorem bless_asym (x y : List UInt8) (h : bless x y = true) : bless y x = false := by
  induction x generalizing y with
  | nil => cases y with
    | nil => exact absurd h (by decide)
    | cons b y => rfl
  | cons a x ih => cases y with
    | nil => rw [bless_nil_r] at h; cases h
    | cons b y =>
      by_cases e : a = b
      · subst e; rw [bless_same] at h ⊢; exact ih y h
      · rw [bless_diff _ _ _ _ e] at h
        rw [bless_diff _ _ _ _ (fun q => e q.symm)]
        have h1 := of_decide_eq_true h
        exact decide_eq_false (fun h2 => by
          rw [UInt8.lt_iff_toNat_lt] at h1 h2; omega)
theorem Less_any (a b : ByteArray) (r : Bool) (hr : Op.bytesLess a.toList b.toList = r) (w : World) : Calls Tryz.prog 41 #[.string a, .string b] w fun e w' => e = .returned (.bool r) ∧ w = w' := by
  cases r with
  | true =>
    go_enter Tryz.func41, Tryz.ntmps41
    go_wp2_with (go_at_call 70; refine (isNaNs_any _ _).mono ?_; rintro e w' ⟨rfl, rfl⟩)
    go_ret
    exact ⟨rfl, rfl⟩
  | false =>
    go_enter Tryz.func41, Tryz.ntmps41
    go_wp2_with (go_at_call 70; refine (isNaNs_any _ _).mono ?_; rintro e w' ⟨rfl, rfl⟩)
    go_ret
    exact ⟨rfl, rfl⟩
set_option maxHeartbeats 4000000 in
theorem IsSorted_any (A : Option Addr) (n c B : Nat) (ls : List (List UInt8)) (hn : ls.length = n) (hbig : n ≤ 140737488355328) (hs : ls.Pairwise fun a b => Op.bytesLess a b = true) (w : World) (hT : Texts w B (.slice A n c) ls) :
    Calls Tryz.prog 14 #[.slice A n c] w fun e w' => e = .returned (.bool true) ∧ Below w.heap.size w w' := by
  have HT := Lib.hid hT
  have HN := Lib.hid hn
  have HS := Lib.hid hs
  obtain ⟨z0, hz0⟩ : ∃ z0 : Int, z0 = (n : Int) - 1 := ⟨_, rfl⟩
  have wz : IntKind.i64.wrap ((n : Int) - 1) = z0 := by rw [IntKind.wrap_i64]; omega
  have HZ := Lib.hid hz0
  clear hT hn hs hz0
  go_enter Tryz.func14, Tryz.ntmps14
  go_wp2_with fail
  go_loopw [3] (fun iv wr => ∃ z : Int, iv = .int .i64 z ∧ -1 ≤ z ∧ Hid (z < (n : Int)) ∧ Hid (Below w.heap.size w wr)) (fun iv _ => (intOf iv + 1).toNat)
  case atStart => exact ⟨z0, rfl, by have := HZ.out; omega, by have := HZ.out; unfold Hid; omega, Below.refl _ _⟩
  case round =>
    obtain ⟨z, rfl, hz1, hz2, HB⟩ := hrel
    by_cases hlt : 0 < z
    · obtain ⟨j, hj⟩ : ∃ j : Nat, z = ((j + 1 : Nat) : Int) := ⟨(z - 1).toNat, by omega⟩
      obtain ⟨i, hi⟩ : ∃ i : Nat, i = j + 1 := ⟨_, rfl⟩
      rw [← hi] at hj
      subst hj
      have hin : i < n := by have := hz2.out; omega
      have hjn : j < n := by omega
      obtain ⟨g, rfl, hgl, hc⟩ := (HT.out.room HN.out).2.2 0 (by omega)
      have c1 : wr.cell? ⟨g, i, none⟩ = some (strV (ls.getD i [])) := (HB.out.cell (p := ⟨g, i, none⟩) hgl).trans (hc i hin)
      have c2 : wr.cell? ⟨g, j, none⟩ = some (strV (ls.getD j [])) := (HB.out.cell (p := ⟨g, j, none⟩) hgl).trans (hc j hjn)
      have hil : i < ls.length := by rw [HN.out]; exact hin
      have hjl : j < ls.length := by rw [HN.out]; exact hjn
      have hless := List.pairwise_iff_getElem.1 HS.out j i hjl hil (by omega)
      have e1 : ls.getD i [] = ls[i] := by rw [List.getD_eq_getElem?_getD, List.getElem?_eq_getElem hil]; rfl
      have e2 : ls.getD j [] = ls[j] := by rw [List.getD_eq_getElem?_getD, List.getElem?_eq_getElem hjl]; rfl
      rw [e1] at c1
      rw [e2] at c2
      have hno := bless_asym _ _ hless
      unfold strV at c1 c2
      have HLs := Lib.hid fun W => Less_any (⟨ls[i].toArray⟩ : ByteArray) (⟨ls[j].toArray⟩ : ByteArray) false (by rw [ByteArray.toList_eq, ByteArray.toList_eq]; exact hno) W
      have wj : IntKind.i64.wrap ((i : Int) - 1) = (j : Int) := by rw [IntKind.wrap_i64]; omega
      obtain ⟨P, hP⟩ := hid_name (⟨ls[i].toArray⟩ : ByteArray)
      obtain ⟨Q, hQ⟩ := hid_name (⟨ls[j].toArray⟩ : ByteArray)
      rw [hP.out, hQ.out] at HLs
      rw [hP.out] at c1
      rw [hQ.out] at c2
      have hji : j < i := by omega
      clear hi hgl hc hless e1 e2 hno hP hQ hil hjl HS HT HZ
      go_wp2_with fail
      go_quiet ((go_at_call 41; exact Calls.quiet_of_same (flip_same (HLs.out _))))
      go_wp2_with fail
      go_roundw
      case rel => exact ⟨j, by go_num, by omega, by unfold Hid; omega, below_drewN HB.out _⟩
      case measure => simp [intOf]; omega
    · clear HS HT HZ
      go_wp2_with fail
      go_ret
      exact ⟨rfl, HB.out⟩
end Go.Proofs.YtmgndhdikleagaaGreatDoor
