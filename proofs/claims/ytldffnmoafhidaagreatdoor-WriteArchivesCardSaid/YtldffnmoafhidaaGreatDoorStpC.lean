/- Package stamp's reading. -/
import Derived.Test.YtldffnmoafhidaaGreatDoorStp
set_option linter.unusedVariables false
set_option maxRecDepth 100000
namespace Go.Proofs.YtldffnmoafhidaaGreatDoor
open Go.RowKit
open Go.OpenShut
/-- the table that Itoa reads, and the two errors of package strconv -/
structure Std (w : World) : Prop where
  tab : Tab w
  syn : ∃ t p, w.cell? ⟨0, 0, none⟩ = some (.iface t p)
  rng : ∃ t p, w.cell? ⟨1, 0, none⟩ = some (.iface t p)
theorem cell_below {w w' : World} {b : Nat} {v : Value} (h : w.cell? ⟨b, 0, none⟩ = some v) (hb : Below w.heap.size w w') : w'.cell? ⟨b, 0, none⟩ = some v := by
  have hl : b < w.heap.size := by
    rcases Nat.lt_or_ge b w.heap.size with h' | h'
    · exact h'
    · simp [World.cell?, Array.getElem?_eq_none h'] at h
  exact (hb.cell (show (⟨b, 0, none⟩ : Addr).block < w.heap.size from hl)).trans h
theorem Std.below {w w' : World} (h : Std w) (hb : Below w.heap.size w w') : Std w' := by
  obtain ⟨t1, p1, e1⟩ := h.syn
  obtain ⟨t2, p2, e2⟩ := h.rng
  exact ⟨h.tab.below hb, ⟨t1, p1, cell_below e1 hb⟩, ⟨t2, p2, cell_below e2 hb⟩⟩
theorem Std.drewN {w : World} (h : Std w) (n : Nat) : Std (w.drewN n) := h.below (below_drewN (Below.refl _ _) n)
theorem Atoi_ok (s : ByteArray) (v : Int) (w : World) (hs : s.size ≤ 281474976710656) (h : numO (Lib.atoiAll s.data.toList) = some v) :
    Calls Tryz.prog 36 #[.string s] w fun e w' => e = .returned (.tuple #[.int .i64 v, .nilIface]) ∧ Below w.heap.size w w' := by
  rcases ha : Lib.atoiAll s.data.toList with x | _ | _
  · rw [ha] at h
    obtain rfl : x = v := Option.some.inj h
    refine (Any.strconv_Atoi_ok Tryz.laysC172 s (by omega) x ha w).mono ?_; rintro e w' ⟨rfl, hw⟩
    refine ⟨rfl, ?_⟩
    rcases hw with rfl | ⟨t, rfl⟩
    · exact Below.refl _ _
    · exact Lib.bytesWorld_below _ _ _
  · rw [ha] at h; cases h
  · rw [ha] at h; cases h
theorem Atoi_no (s : ByteArray) (w : World) (S : Std w) (hs : s.size ≤ 281474976710656) (h : numO (Lib.atoiAll s.data.toList) = none) :
    Calls Tryz.prog 36 #[.string s] w fun e w' => (∃ (x : Int) (N : Nat), e = .returned (.tuple #[.int .i64 x, .iface 181 (.pointer (some ⟨N, 0, none⟩))])) ∧ Below w.heap.size w w' := by
  rcases ha : Lib.atoiAll s.data.toList with x | _ | _
  · rw [ha] at h; cases h
  · obtain ⟨t, p, e⟩ := S.syn
    refine (Any.strconv_Atoi_syntax Tryz.laysC172 s hs ha _ w e (.inr ⟨_, _, rfl⟩)).mono ?_; rintro e w' ⟨N, rfl, -, -, hb⟩
    exact ⟨⟨_, N, rfl⟩, hb⟩
  · obtain ⟨t, p, e⟩ := S.rng
    refine (Any.strconv_Atoi_range Tryz.laysC172 s hs ha _ w e (.inr ⟨_, _, rfl⟩)).mono ?_; rintro e w' ⟨N, rfl, -, -, hb⟩
    exact ⟨⟨_, N, rfl⟩, hb⟩
theorem cut_hit (s : ByteArray) (k : Nat) : s.extract 0 k = bs (s.data.toList.take k) ∧ s.extract (k + 1) s.size = bs (s.data.toList.drop (k + 1)) := by
  constructor
  · apply ByteArray.ext; apply Array.toList_inj.1
    rw [ByteArray.data_extract, Array.toList_extract, bs_list]; simp [List.extract]
  · apply ByteArray.ext; apply Array.toList_inj.1
    rw [extract_tail, bs_list]
set_option maxHeartbeats 400000 in
theorem lCut_one (s : ByteArray) (c : UInt8) (w : World) (hs : s.size ≤ maxLen) :
    Calls Tryz.prog 257 #[.string s, .string ⟨#[c]⟩] w fun e w' => e = .returned (.tuple #[.string (bs (s.data.toList.take (pos c s.data.toList))), .string (bs (s.data.toList.drop (pos c s.data.toList + 1))), .bool (hasB c s.data.toList)]) ∧ ∃ n, w' = w.drewN n := by
  unfold maxLen at hs
  have hI := fun W => Tryz.stringslite_Index_one s c W
  rw [indexByte_pos] at hI
  have hp := pos_le c s.data.toList
  have hb := hasB_pos c s.data.toList
  rw [size_list] at hp hb
  cases hh : hasB c s.data.toList
  · rw [hh] at hI
    have HI : Hid (∀ W, Calls Tryz.prog 268 #[.string s, .string ⟨#[c]⟩] W fun e w' => e = .returned (.int .i64 (-1)) ∧ w' = W) := hI
    have e1 : pos c s.data.toList = s.size := by rw [hh] at hb; have := of_decide_eq_false hb.symm; omega
    have HX := Lib.hid (show s = bs (s.data.toList.take (pos c s.data.toList)) by rw [e1, ← size_list, List.take_length, bs_of])
    have HY := Lib.hid (show (⟨#[]⟩ : ByteArray) = bs (s.data.toList.drop (pos c s.data.toList + 1)) by rw [e1, ← size_list, List.drop_of_length_le (by omega)]; rfl)
    rw [← HX.out, ← HY.out]
    clear hI hb hh e1
    go_enter Tryz.func257, Tryz.ntmps257
    go_wp2_with fail
    refine (HI.out _).mono ?_; rintro e w1 ⟨rfl, rfl⟩
    go_wp2_with fail
    go_ret3
    exact ⟨rfl, 0, rfl⟩
  · rw [hh] at hI
    have hlt : pos c s.data.toList < s.size := by rw [hh] at hb; exact of_decide_eq_true hb.symm
    obtain ⟨k, Hk⟩ := hid_name (pos c s.data.toList)
    rw [Hk.out] at hI hlt ⊢
    have HI : Hid (∀ W, Calls Tryz.prog 268 #[.string s, .string ⟨#[c]⟩] W fun e w' => e = .returned (.int .i64 (k : Int)) ∧ w' = W) := hI
    obtain ⟨c1, c2⟩ := cut_hit s k
    have h1 : (⟨#[c]⟩ : ByteArray).size = 1 := rfl
    clear hI hb hh hp
    obtain ⟨X, HX⟩ := hid_name (bs (s.data.toList.take k))
    obtain ⟨Y, HY⟩ := hid_name (bs (s.data.toList.drop (k + 1)))
    rw [HX.out] at c1 ⊢
    rw [HY.out] at c2 ⊢
    go_enter Tryz.func257, Tryz.ntmps257
    go_wp2_with fail
    refine (HI.out _).mono ?_; rintro e w1 ⟨rfl, rfl⟩
    go_wp2_with fail
    go_region
    go_wp2_with fail
    go_ret3
    exact ⟨rfl, 1, rfl⟩
theorem Cut_one (s : ByteArray) (c : UInt8) (w : World) (hs : s.size ≤ maxLen) :
    Calls Tryz.prog 208 #[.string s, .string ⟨#[c]⟩] w fun e w' => e = .returned (.tuple #[.string (bs (s.data.toList.take (pos c s.data.toList))), .string (bs (s.data.toList.drop (pos c s.data.toList + 1))), .bool (hasB c s.data.toList)]) ∧ ∃ n, w' = w.drewN n := by
  have HI := Lib.hid fun W => lCut_one s c W hs
  go_enter Tryz.func208, Tryz.ntmps208
  go_wp2_with fail
  refine (HI.out _).mono ?_; rintro e w1 ⟨rfl, n, rfl⟩
  go_wp2_with fail
  go_ret3
  exact ⟨rfl, n, rfl⟩
theorem atoi_bd (l : List UInt8) (hl : l.length ≤ 9) (b : Int) (h : numO (Lib.atoiAll l) = some b) : -1000000000 < b ∧ b < 1000000000 := by
  rw [Lib.atoiAll_short l (by omega)] at h
  cases ha : Lib.atoi l with
  | none => rw [ha] at h; cases h
  | some v =>
    rw [ha] at h
    obtain rfl : v = b := Option.some.inj h
    have key : ∀ (r : List UInt8) (m : Nat), r.length ≤ 9 → Lib.decFrom 0 r = some m → m < 1000000000 := fun r m hr hm => by
      have h1 := Lib.decFrom_lt r 0 m hm
      have h2 : (10 : Nat) ^ r.length ≤ 10 ^ 9 := Nat.pow_le_pow_right (by omega) hr
      have e9 : (10 : Nat) ^ 9 = 1000000000 := by decide
      omega
    obtain ⟨b0, r, rfl, ⟨-, m, -, hm, rfl⟩ | ⟨-, m, -, hm, rfl⟩ | ⟨-, -, m, hm, rfl⟩⟩ := Lib.atoi_cases ha
    · have := key r m (by simp at hl; omega) hm; omega
    · have := key r m (by simp at hl; omega) hm; omega
    · have := key _ m hl hm; omega
theorem fracO_bd (d : List UInt8) (b : Int) (h : fracO d = some b) : -1000000000 < b ∧ b < 1000000000 := by
  unfold fracO at h
  split at h
  · exact atoi_bd _ (by rw [List.length_append, List.length_replicate]; omega) b h
  · cases h
set_option maxHeartbeats 400000 in
theorem parseFraction_any (d : ByteArray) (w : World) (S : Std w) (hd : d.size ≤ maxLen) :
    Calls Tryz.prog 214 #[.string d] w fun e w' => (∃ x : Int, e = .returned (.tuple #[.int .i64 x, .bool (fracO d.data.toList).isSome]) ∧ ∀ b, fracO d.data.toList = some b → x = b) ∧ Below w.heap.size w w' := by
  unfold maxLen at hd
  have HL := Lib.hid (size_list d)
  by_cases hl : d.size ≤ 9
  · obtain ⟨k, hk⟩ : ∃ k : Nat, k = 9 - d.size := ⟨_, rfl⟩
    have hk2 : (9 : Int) - (d.size : Int) = (k : Int) := by omega
    have HR : Hid (∀ W, Calls Tryz.prog 42 #[.string ⟨#[48]⟩, .int .i64 (k : Int)] W fun e w' => e = .returned (.string (bs (List.replicate k 48))) ∧ Below W.heap.size W w') := fun W => by
      have e1 : Lib.repeatL (⟨#[48]⟩ : ByteArray).data.toList k = List.replicate k 48 := by
        have := Lib.repeatL_replicate 48 1 k
        rw [Nat.mul_one] at this; exact this
      have h := Tryz.strings_Repeat ⟨#[48]⟩ k W (by omega) (by show 1 * k ≤ _; omega)
      rw [e1] at h; exact h
    have hrs : (bs (List.replicate k (48 : UInt8))).size ≤ 9 := by rw [bs_size, List.length_replicate]; omega
    have hF : fracO d.data.toList = numO (Lib.atoiAll (d ++ bs (List.replicate k 48)).data.toList) := by
      unfold fracO; rw [HL.out, if_pos hl, ByteArray.data_append, Array.toList_append, bs_list, ← hk]
    obtain ⟨R, HR2⟩ := hid_name (bs (List.replicate k (48 : UInt8)))
    rw [HR2.out] at HR hrs hF
    obtain ⟨D, HD⟩ := hid_name (d ++ R)
    have hds : D.size ≤ 18 := by rw [← HD.out, ByteArray.size_append]; omega
    rw [HD.out] at hF
    rw [hF]
    have hk9 : k ≤ 9 := by omega
    clear hk
    cases ha : numO (Lib.atoiAll D.data.toList) with
    | none =>
      have HA := Lib.hid fun W S => Atoi_no D W S (by omega) ha
      clear hF ha
      go_enter Tryz.func214, Tryz.ntmps214
      go_wp2_with fail
      refine (HR.out _).mono ?_; rintro e w1 ⟨rfl, hb1⟩
      have S1 := S.below hb1
      have HB1 := Lib.hid hb1
      clear hb1
      go_wp2_with fail
      rw [HD.out]
      refine (HA.out _ S1).mono ?_; rintro e w2 ⟨⟨x, N, rfl⟩, hb2⟩
      have HB2 := Lib.hid (HB1.out.trans (hb2.mono HB1.out.size))
      clear hb2
      go_wp2_with fail
      go_quiet (fail)
      go_wp2_with fail
      go_ret2
      exact ⟨⟨_, rfl, fun b h => by cases h⟩, below_drewN HB2.out _⟩
    | some v =>
      have HA := Lib.hid fun W => Atoi_ok D v W (by omega) ha
      clear hF ha
      go_enter Tryz.func214, Tryz.ntmps214
      go_wp2_with fail
      refine (HR.out _).mono ?_; rintro e w1 ⟨rfl, hb1⟩
      have HB1 := Lib.hid hb1
      clear hb1
      go_wp2_with fail
      rw [HD.out]
      refine (HA.out _).mono ?_; rintro e w2 ⟨rfl, hb2⟩
      have HB2 := Lib.hid (HB1.out.trans (hb2.mono HB1.out.size))
      clear hb2
      go_wp2_with fail
      go_quiet (fail)
      go_wp2_with fail
      go_ret2
      exact ⟨⟨_, rfl, fun b h => Option.some.inj h⟩, below_drewN HB2.out _⟩
  · have HF := Lib.hid (show fracO d.data.toList = none by unfold fracO; rw [HL.out, if_neg hl])
    rw [HF.out]
    go_enter Tryz.func214, Tryz.ntmps214
    go_wp2_with fail
    go_ret2
    exact ⟨⟨_, rfl, fun b h => by cases h⟩, Below.refl _ _⟩
end Go.Proofs.YtldffnmoafhidaaGreatDoor
