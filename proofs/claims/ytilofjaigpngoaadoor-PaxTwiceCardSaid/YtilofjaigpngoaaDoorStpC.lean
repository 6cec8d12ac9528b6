/- Package stamp's reading. -/
import Derived.Test.YtilofjaigpngoaaDoorStpB
set_option linter.unusedVariables false
set_option maxRecDepth 100000
namespace Go.Proofs.YtilofjaigpngoaaDoor
open Go.RowKit
open Go.OpenShut
/-- the table that Itoa reads, and the two errors of package strconv -/
structure Std (w : World) : Prop where
  tab : Tab w
  syn : ∃ t p, w.cell? ⟨2, 0, none⟩ = some (.iface t p)
  rng : ∃ t p, w.cell? ⟨3, 0, none⟩ = some (.iface t p)
theorem cell_below {w w' : World} {b : Nat} {v : Value} (h : w.cell? ⟨b, 0, none⟩ = some v) (hb : Below w.heap.size w w') : w'.cell? ⟨b, 0, none⟩ = some v := by
  have hl : b < w.heap.size := by
    rcases Nat.lt_or_ge b w.heap.size with h' | h'
    · exact h'
    · simp [World.cell?, Array.getElem?_eq_none h'] at h
  exact (hb.cell (show (⟨b, 0, none⟩ : Addr).block < w.heap.size from hl)).trans h
theorem Std.below {w w' : World} (h : Std w) (hb : Below w.heap.size w w') : Std w' := by
  obtain ⟨t1, p1, e1⟩ := h.syn
  obtain ⟨t2, p2, e2⟩ := h.rng
  exact ⟨h.tab.below hb, ⟨t1, p1, cell_below e1 hb⟩, ⟨t2, p2, cell_below e2 hb⟩⟩
theorem Std.drewN {w : World} (h : Std w) (n : Nat) : Std (w.drewN n) := h.below (below_drewN (Below.refl _ _) n)
theorem Atoi_ok (s : ByteArray) (v : Int) (w : World) (hs : s.size ≤ 281474976710656) (h : numO (Lib.atoiAll s.data.toList) = some v) :
    Calls Tryd.prog 52 #[.string s] w fun e w' => e = .returned (.tuple #[.int .i64 v, .nilIface]) ∧ Below w.heap.size w w' := by
  rcases ha : Lib.atoiAll s.data.toList with x | _ | _
  · rw [ha] at h
    obtain rfl : x = v := Option.some.inj h
    refine (Any.strconv_Atoi_ok Tryd.laysC172 s (by omega) x ha w).mono ?_; rintro e w' ⟨rfl, hw⟩
    refine ⟨rfl, ?_⟩
    rcases hw with rfl | ⟨t, rfl⟩
    · exact Below.refl _ _
    · exact Lib.bytesWorld_below _ _ _
  · rw [ha] at h; cases h
  · rw [ha] at h; cases h
theorem Atoi_no (s : ByteArray) (w : World) (S : Std w) (hs : s.size ≤ 281474976710656) (h : numO (Lib.atoiAll s.data.toList) = none) :
    Calls Tryd.prog 52 #[.string s] w fun e w' => (∃ (x : Int) (N : Nat), e = .returned (.tuple #[.int .i64 x, .iface 114 (.pointer (some ⟨N, 0, none⟩))])) ∧ Below w.heap.size w w' := by
  rcases ha : Lib.atoiAll s.data.toList with x | _ | _
  · rw [ha] at h; cases h
  · obtain ⟨t, p, e⟩ := S.syn
    refine (Any.strconv_Atoi_syntax Tryd.laysC172 s hs ha _ w e (.inr ⟨_, _, rfl⟩)).mono ?_; rintro e w' ⟨N, rfl, -, -, hb⟩
    exact ⟨⟨_, N, rfl⟩, hb⟩
  · obtain ⟨t, p, e⟩ := S.rng
    refine (Any.strconv_Atoi_range Tryd.laysC172 s hs ha _ w e (.inr ⟨_, _, rfl⟩)).mono ?_; rintro e w' ⟨N, rfl, -, -, hb⟩
    exact ⟨⟨_, N, rfl⟩, hb⟩
theorem cut_hit (s : ByteArray) (k : Nat) : s.extract 0 k = bs (s.data.toList.take k) ∧ s.extract (k + 1) s.size = bs (s.data.toList.drop (k + 1)) := by
  constructor
  · apply ByteArray.ext; apply Array.toList_inj.1
    rw [ByteArray.data_extract, Array.toList_extract, bs_list]; simp [List.extract]
  · apply ByteArray.ext; apply Array.toList_inj.1
    rw [extract_tail, bs_list]
set_option maxHeartbeats 400000 in
theorem lCut_one (s : ByteArray) (c : UInt8) (w : World) (hs : s.size ≤ maxLen) :
    Calls Tryd.prog 65 #[.string s, .string ⟨#[c]⟩] w fun e w' => e = .returned (.tuple #[.string (bs (s.data.toList.take (pos c s.data.toList))), .string (bs (s.data.toList.drop (pos c s.data.toList + 1))), .bool (hasB c s.data.toList)]) ∧ ∃ n, w' = w.drewN n := by
  unfold maxLen at hs
  have hI := fun W => Tryd.stringslite_Index_one s c W
  rw [indexByte_pos] at hI
  have hp := pos_le c s.data.toList
  have hb := hasB_pos c s.data.toList
  rw [size_list] at hp hb
  cases hh : hasB c s.data.toList
  · rw [hh] at hI
    have HI : Hid (∀ W, Calls Tryd.prog 80 #[.string s, .string ⟨#[c]⟩] W fun e w' => e = .returned (.int .i64 (-1)) ∧ w' = W) := hI
    have e1 : pos c s.data.toList = s.size := by rw [hh] at hb; have := of_decide_eq_false hb.symm; omega
    have HX := Lib.hid (show s = bs (s.data.toList.take (pos c s.data.toList)) by rw [e1, ← size_list, List.take_length, bs_of])
    have HY := Lib.hid (show (⟨#[]⟩ : ByteArray) = bs (s.data.toList.drop (pos c s.data.toList + 1)) by rw [e1, ← size_list, List.drop_of_length_le (by omega)]; rfl)
    rw [← HX.out, ← HY.out]
    clear hI hb hh e1
    go_enter Tryd.func65, Tryd.ntmps65
    go_wp2_with fail
    refine (HI.out _).mono ?_; rintro e w1 ⟨rfl, rfl⟩
    go_wp2_with fail
    go_ret3
    exact ⟨rfl, 0, rfl⟩
  · rw [hh] at hI
    have hlt : pos c s.data.toList < s.size := by rw [hh] at hb; exact of_decide_eq_true hb.symm
    obtain ⟨k, Hk⟩ := hid_name (pos c s.data.toList)
    rw [Hk.out] at hI hlt ⊢
    have HI : Hid (∀ W, Calls Tryd.prog 80 #[.string s, .string ⟨#[c]⟩] W fun e w' => e = .returned (.int .i64 (k : Int)) ∧ w' = W) := hI
    obtain ⟨c1, c2⟩ := cut_hit s k
    have h1 : (⟨#[c]⟩ : ByteArray).size = 1 := rfl
    clear hI hb hh hp
    obtain ⟨X, HX⟩ := hid_name (bs (s.data.toList.take k))
    obtain ⟨Y, HY⟩ := hid_name (bs (s.data.toList.drop (k + 1)))
    rw [HX.out] at c1 ⊢
    rw [HY.out] at c2 ⊢
    go_enter Tryd.func65, Tryd.ntmps65
    go_wp2_with fail
    refine (HI.out _).mono ?_; rintro e w1 ⟨rfl, rfl⟩
    go_wp2_with fail
    go_region
    go_wp2_with fail
    go_ret3
    exact ⟨rfl, 1, rfl⟩
theorem Cut_one (s : ByteArray) (c : UInt8) (w : World) (hs : s.size ≤ maxLen) :
    Calls Tryd.prog 50 #[.string s, .string ⟨#[c]⟩] w fun e w' => e = .returned (.tuple #[.string (bs (s.data.toList.take (pos c s.data.toList))), .string (bs (s.data.toList.drop (pos c s.data.toList + 1))), .bool (hasB c s.data.toList)]) ∧ ∃ n, w' = w.drewN n := by
  have HI := Lib.hid fun W => lCut_one s c W hs
  go_enter Tryd.func50, Tryd.ntmps50
  go_wp2_with fail
  refine (HI.out _).mono ?_; rintro e w1 ⟨rfl, n, rfl⟩
  go_wp2_with fail
  go_ret3
  exact ⟨rfl, n, rfl⟩
end Go.Proofs.YtilofjaigpngoaaDoor
