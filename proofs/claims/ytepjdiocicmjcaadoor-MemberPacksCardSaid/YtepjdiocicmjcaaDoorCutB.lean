/- Contracts of package cut. -/
import Derived.Test.YtepjdiocicmjcaaDoorCutA
import Derived.Test.YtepjdiocicmjcaaDoorFldD
import Derived.Test.YtepjdiocicmjcaaDoorPth
import Derived.Deep.RegionWith
import Derived.IntWalk
set_option linter.unusedVariables false
set_option maxRecDepth 100000
namespace Go.Proofs.YtepjdiocicmjcaaDoor
open Go.RowKit
open Go.OpenShut
set_option maxHeartbeats 1600000 in
theorem Two_short (s : ByteArray) (w : World) (hs : s.size ≤ maxLen) (hs' : s.size ≤ 281474976710656) (hx : s.size ≤ 100 ∨ hasB 0 s.data.toList = true) : Calls Tryd.prog 12 #[.string s] w fun e w' => e = .returned (.tuple #[.string (bs (cutV s.data.toList).1), .string (bs (cutV s.data.toList).2.1), .int .i64 (cutV s.data.toList).2.2]) ∧ Below w.heap.size w w' := by
  have HL := Lib.hid (show s.data.toList.length = s.size by simp)
  have hm : s.size ≤ maxLen := hs
  unfold maxLen at hs
  by_cases h0 : s.data.toList = []
  · have HF := Lib.hid (cutV_form (.inl h0))
    have e0 : s.toList = [] := by rw [ByteArray.toList_eq]; exact h0
    clear h0
    go_enter Tryd.func12, Tryd.ntmps12
    go_wp2_with fail
    go_ret3
    exact ⟨by rw [HF.out]; rfl, Below.refl _ _⟩
  · have e0 : s.toList.isEmpty = false := by rw [ByteArray.toList_eq, ← Bool.not_eq_true, List.isEmpty_iff]; exact h0
    cases hz : hasB 0 s.data.toList
    · have h1 : s.size ≤ 100 := by
        rcases hx with h | h
        · exact h
        · rw [hz] at h; cases h
      have HF := Lib.hid (cutV_short h0 hz (by rw [HL.out]; exact h1))
      have HZ := Lib.hid hz
      clear h0 hz hx
      go_enter Tryd.func12, Tryd.ntmps12
      go_wp2_with fail
      refine (IndexByte_no s _ HZ.out).mono ?_; rintro e w' ⟨rfl, rfl⟩
      go_wp2_with fail
      refine (Clone_any _ _ (by omega)).mono ?_; rintro e w1 ⟨rfl, hb⟩
      go_wp2_with fail
      go_ret3
      exact ⟨by rw [HF.out, bs_of]; rfl, hb⟩
    · have HF := Lib.hid (cutV_form (.inr hz))
      have HZ := Lib.hid hz
      clear h0 hz hx
      go_enter Tryd.func12, Tryd.ntmps12
      go_wp2_with fail
      refine (IndexByte_yes s _ HZ.out).mono ?_; rintro e w' ⟨rfl, rfl⟩
      go_wp2_with fail
      go_ret3
      exact ⟨by rw [HF.out]; rfl, Below.refl _ _⟩
set_option maxHeartbeats 4000000 in
theorem Two_long (s : ByteArray) (w : World) (hs : s.size ≤ maxLen) (hs' : s.size ≤ 281474976710656) (h1 : 100 < s.size) (hz : hasB 0 s.data.toList = false) : Calls Tryd.prog 12 #[.string s] w fun e w' => e = .returned (.tuple #[.string (bs (cutV s.data.toList).1), .string (bs (cutV s.data.toList).2.1), .int .i64 (cutV s.data.toList).2.2]) ∧ Below w.heap.size w w' := by
  have HL := Lib.hid (show s.data.toList.length = s.size by simp)
  have hm : s.size ≤ maxLen := hs
  unfold maxLen at hs
  have e0 : s.toList.isEmpty = false := by
    rw [ByteArray.toList_eq, ← Bool.not_eq_true, List.isEmpty_iff]; intro a
    have := HL.out; rw [a] at this; simp at this; omega
  have HZ := Lib.hid hz
  clear hz
  cases hc : cutAt s.data.toList with
  | none =>
    have HF := Lib.hid (cutV_none HZ.out (by rw [HL.out]; exact h1) hc)
    have HS := Lib.hid (show slashV s.data.toList = -1 by rw [slashV, hc])
    clear hc
    go_enter Tryd.func12, Tryd.ntmps12
    go_wp2_with fail
    refine (IndexByte_no s _ HZ.out).mono ?_; rintro e w' ⟨rfl, rfl⟩
    go_wp2_with fail
    refine (firstSlash_any s _ hm h1).mono ?_; rintro e w' ⟨rfl, rfl⟩
    rw [HS.out]
    go_wp2_with fail
    go_ret3
    exact ⟨by rw [HF.out]; rfl, Below.refl _ _⟩
  | some k =>
    have HF := Lib.hid (cutV_some HZ.out (by rw [HL.out]; exact h1) hc)
    have HS := Lib.hid (show slashV s.data.toList = (k : Int) by rw [slashV, hc])
    have hb := fits_bd (cutAt_bd hc)
    rw [HL.out] at hb
    obtain ⟨b1, b2, b3, b4⟩ := hb
    have HE := Lib.hid (extract_bs s k)
    have z1 : (bs (s.data.toList.take k)).size ≤ 281474976710656 := by rw [bs_size, List.length_take]; omega
    have z2 : (bs (s.data.toList.drop (k + 1))).size ≤ 281474976710656 := by rw [bs_size, List.length_drop, HL.out]; omega
    clear hc
    obtain ⟨p, Hp⟩ := hid_name (bs (s.data.toList.take k))
    obtain ⟨n, Hn⟩ := hid_name (bs (s.data.toList.drop (k + 1)))
    rw [Hp.out] at z1
    rw [Hn.out] at z2
    have y0 : (0 : Int) ≤ (k : Int) := by omega
    have y1 : (k : Int) ≤ (s.size : Int) := by omega
    have y3 : k < s.size := by omega
    have y7 : (0 : Int) ≤ (k : Int) + 1 := by omega
    have ya : ((k : Int) + 1).toNat = k + 1 := by omega
    have yb : IntKind.i64.wrap ((k : Int) + 1) = (k : Int) + 1 := IntWalk.i64_in _ (by omega)
    have y2 : (k : Int) + 1 ≤ (s.size : Int) := by omega
    have x1 := Lib.hid (show s.extract 0 k = p from HE.out.1.trans Hp.out)
    have x2 := Lib.hid (show s.extract (k + 1) s.size = n from HE.out.2.trans Hn.out)
    clear hs'
    have w1 : (s.extract 0 k).size ≤ 281474976710656 := by rw [x1.out]; exact z1
    have w2 : (s.extract (k + 1) s.size).size ≤ 281474976710656 := by rw [x2.out]; exact z2
    go_enter Tryd.func12, Tryd.ntmps12
    go_wp2_with fail
    refine (IndexByte_no s _ HZ.out).mono ?_; rintro e w' ⟨rfl, rfl⟩
    go_wp2_with fail
    refine (firstSlash_any s _ hm h1).mono ?_; rintro e w' ⟨rfl, rfl⟩
    rw [HS.out]
    go_wp2_with fail
    go_upto_region 8 with fail
    go_region_with
      (first
        | (go_at_call 15; (have F1 := hb1); refine (Clone_any _ _ (by assumption)).mono ?_; rintro e w2 ⟨rfl, hb2⟩)
        | (go_at_call 15; refine (Clone_any _ _ (by assumption)).mono ?_; rintro e w1 ⟨rfl, hb1⟩))
    all_goals
      go_wp2_with fail
      go_ret3
      exact ⟨by rw [HF.out, ← HE.out.1, ← HE.out.2]; rfl, ((Below.refl w.heap.size w).drew.trans (show Below w.heap.size w.drew w1 from hb1)).trans (hb2.mono (show w.heap.size ≤ w1.heap.size from hb1.size))⟩
theorem Two_any (s : ByteArray) (w : World) (hs : s.size ≤ maxLen) (hs' : s.size ≤ 281474976710656) : Calls Tryd.prog 12 #[.string s] w fun e w' => e = .returned (.tuple #[.string (bs (cutV s.data.toList).1), .string (bs (cutV s.data.toList).2.1), .int .i64 (cutV s.data.toList).2.2]) ∧ Below w.heap.size w w' := by
  by_cases h : s.size ≤ 100 ∨ hasB 0 s.data.toList = true
  · exact Two_short s w hs hs' h
  · exact Two_long s w hs hs' (by omega) (by rw [← Bool.not_eq_true]; exact fun a => h (.inr a))
theorem join_bs (p n : ByteArray) : p ++ ⟨#[47]⟩ ++ n = bs (p.data.toList ++ [47] ++ n.data.toList) := by
  apply ByteArray.ext; apply Array.toList_inj.1
  simp [bs, ByteArray.data_append]
theorem bs_joinE {p n : ByteArray} (h : p.data.toList = []) : bs (joinP p.data.toList n.data.toList) = n := by rw [joinP, if_pos h, bs_of]
theorem bs_joinN {p n : ByteArray} (h : p.data.toList ≠ []) : p ++ ⟨#[47]⟩ ++ n = bs (joinP p.data.toList n.data.toList) := by rw [joinP, if_neg h, join_bs]
theorem join_le (p n : ByteArray) (hp : p.size ≤ 155) (hn : n.size ≤ 100) : (bs (joinP p.data.toList n.data.toList)).size ≤ 256 := by
  rw [bs_size, joinP]; split
  · have : n.data.toList.length = n.size := by simp
    omega
  · simp; omega
/-- what the tests behind the cutting say -/
theorem one_no {p n : List UInt8} {q m : ByteArray} {f : Int} (h : ¬ (n.length < 1 ∨ 100 < n.length ∨ 155 < p.length)) (hq : bs (cutV (joinP p n)).1 = q) (hm : bs (cutV (joinP p n)).2.1 = m) (hf : (cutV (joinP p n)).2.2 = f)
    (hx : f ≠ 0 ∨ q.data.toList ≠ p ∨ m.data.toList ≠ n) : oneV p n = ([], 3) := by
  refine oneV_form h fun e => ?_
  rw [e] at hq hm hf
  subst hq hm hf
  rcases hx with a | a | a
  · exact a rfl
  · exact a rfl
  · exact a rfl
theorem one_yes {p n : List UInt8} {q m : ByteArray} {f : Int} (h : ¬ (n.length < 1 ∨ 100 < n.length ∨ 155 < p.length)) (hq : bs (cutV (joinP p n)).1 = q) (hm : bs (cutV (joinP p n)).2.1 = m) (hf : (cutV (joinP p n)).2.2 = f)
    (h1 : f = 0) (h2 : q.data.toList = p) (h3 : m.data.toList = n) : oneV p n = (joinP p n, 0) := by
  refine oneV_ok h ?_
  rw [← hq] at h2
  rw [← hm] at h3
  exact Prod.ext h2 (Prod.ext h3 (hf.trans h1))
end Go.Proofs.YtepjdiocicmjcaaDoor
