/- String fields: what is written is read; nothing stands behind a text's end. -/
import Derived.Test.YtjnpmocfmpemhaaDoorFldD
import Derived.Test.YtjnpmocfmpemhaaDoorRep
import Derived.Test.YtjnpmocfmpemhaaDoorOctA
import Derived.Test.YtjnpmocfmpemhaaDoorStr
set_option linter.unusedVariables false
namespace Go.Proofs.YtjnpmocfmpemhaaDoor
open Go.RowKit
open Go.OpenShut
theorem pos_zeros (k : Nat) (l : List UInt8) (h : 1 ≤ k ∨ l = []) : pos 0 (List.replicate k 0 ++ l) = 0 := by
  rcases h with h | rfl
  · obtain ⟨j, rfl⟩ : ∃ j, k = j + 1 := ⟨k - 1, by omega⟩
    rw [List.replicate_succ, List.cons_append, pos_cons, if_pos rfl]
  · rw [List.append_nil]
    cases k with
    | zero => rfl
    | succ j => rw [List.replicate_succ, pos_cons, if_pos rfl]
theorem allZ_app (a b : List UInt8) : allZ (a ++ b) = (allZ a && allZ b) := by simp [allZ]
theorem size_len (s : ByteArray) : s.data.toList.length = s.size := by simp
theorem allZ_nil : allZ [] = true := rfl
theorem allZ_zeros (k : Nat) : allZ (List.replicate k 0) = true := by
  unfold allZ; rw [List.all_eq_true]; intro x hx; rw [(List.mem_replicate.1 hx).2]; rfl
theorem allZ_has (l : List UInt8) (h : hasB 0 l = false) : allZ l = decide (l = []) := by
  cases l with
  | nil => rfl
  | cons a l =>
    rw [hasB_cons, Bool.or_eq_false_iff] at h
    simp only [allZ, List.all_cons, h.1, Bool.false_and]; simp
/-- a text, k bytes 0, and what stands behind them -/
theorem fldR_parts (c m : List UInt8) (k : Nat) (wh : Bool) (hc : hasB 0 c = false) (hk : 1 ≤ k ∨ (m = [] ∧ (wh = true ∨ k ≠ 0))) (hl : 1 ≤ (c ++ (List.replicate k 0 ++ m)).length ∧ (c ++ (List.replicate k 0 ++ m)).length ≤ 512) :
    fldR (c ++ (List.replicate k 0 ++ m)) wh = if allZ m = true then (⟨c.toArray⟩, 0) else (⟨#[]⟩, 3) := by
  have hp : pos 0 (c ++ (List.replicate k 0 ++ m)) = c.length := by
    rw [pos_app _ _ _ hc, pos_zeros k m (by rcases hk with h | h; exact .inl h; exact .inr h.1)]; rfl
  have hd : (c ++ (List.replicate k 0 ++ m)).drop c.length = List.replicate k 0 ++ m := by simp
  have ht : (c ++ (List.replicate k 0 ++ m)).take c.length = c := by simp
  have hz : allZ (List.replicate k 0 ++ m) = allZ m := by rw [allZ_app, allZ_zeros]; rfl
  by_cases hm : allZ m = true
  · rw [if_pos hm, fldR_ok (by omega) ?_ (by rw [hp, hd, hz]; exact hm), hp, ht]
    rintro ⟨rfl, e⟩
    rw [hp] at e
    simp only [List.length_append, List.length_replicate] at e
    rcases hk with h | ⟨_, h | h⟩
    · omega
    · cases h
    · omega
  · rw [if_neg hm, fldR_form (by omega) (.inr (by rw [hp, hd, hz]; simpa using hm))]
theorem fldW_field (c : List UInt8) (n : Nat) (wh : Bool) (hc : hasB 0 c = false) (h1 : 1 ≤ n) (h2 : n ≤ 512) (h : c.length < n ∨ (wh = true ∧ c.length = n)) :
    fldW c n wh = (⟨(c ++ (List.replicate (n - c.length) 0 ++ [])).toArray⟩, 0) := by
  rw [fldW_ok (by omega) ?_ hc, List.append_nil, Int.toNat_natCast]
  rintro (a | ⟨rfl, a⟩)
  · omega
  · rcases h with b | ⟨b, _⟩
    · omega
    · cases b
set_option maxHeartbeats 800000 in
theorem FieldBack_walk (a0 : ByteArray) (a1 : Int) (a2 : Bool) (w0 : a0.size ≤ maxLen) (w1 : (Lit.int .i64 a1).wf = true) (r0 : a0.size ≤ 140737488351232) (w : World) :
    Calls Tryd.prog 3 #[.string a0, .int .i64 a1, .bool a2] w fun e w' => e = .returned (.bool true) ∧ Below w.heap.size w w' := by
  go_enter Tryd.func3, Tryd.ntmps3
  go_wp2_with fail
  refine (picked_any _ _ _ w1 (by omega)).mono ?_; rintro e w' ⟨rfl, rfl⟩
  obtain ⟨p1, p2⟩ := pick_bd a1 512 (by omega)
  generalize pick a1 512 = y at *
  obtain ⟨n, Hx⟩ : ∃ n : Nat, Hid (1 + y = n) := ⟨(1 + y).toNat, show _ = _ by omega⟩
  have x1 : 1 ≤ n := by have := Hx.out; omega
  have x2 : n ≤ 512 := by have := Hx.out; omega
  go_wp2_with fail
  rw [show 1 + y = (n : Int) from Hx.out]
  clear p1 p2
  refine (clean_any a0 100 _ (by omega) (by omega)).mono ?_; rintro e w1 ⟨rfl, hb1⟩
  have hcz := cleanL_has a0.data.toList 100
  have hcl := cleanL_le a0.data.toList 100
  obtain ⟨c, Hc⟩ := hid_name (cleanL a0.data.toList 100)
  rw [Hc.out] at hcz hcl ⊢
  have HZ := Lib.hid hcz
  clear hcz
  obtain ⟨s, Hs⟩ := hid_name (⟨c.toArray⟩ : ByteArray)
  have Hd : Hid (s.data.toList = c) := by unfold Hid; rw [← Hs.out]
  have hss : s.size = c.length := by rw [← Hs.out]; exact size_mk c
  have hs1 : s.size ≤ 100 := by omega
  have HS := Lib.hid hss
  clear hss hcl
  rw [Hs.out]
  go_wp2_with fail
  refine (fWrite_any s n a2 _ (by unfold maxLen; omega)).mono ?_; rintro e w2 ⟨rfl, hb2⟩
  have hb12 := hb1.trans (hb2.mono hb1.size)
  clear hb1 hb2
  rw [Hd.out]
  by_cases hok : c.length < n ∨ (a2 = true ∧ c.length = n)
  · have e1 := Lib.hid (fldW_field c n a2 HZ.out x1 x2 hok)
    obtain ⟨f, Hf⟩ := hid_name (⟨(c ++ (List.replicate (n - c.length) 0 ++ [])).toArray⟩ : ByteArray)
    rw [e1.out, Hf.out]
    have Hfd : Hid (f.data.toList = c ++ (List.replicate (n - c.length) 0 ++ [])) := by unfold Hid; rw [← Hf.out]
    have Hfs : Hid (f.size = n) := by
      unfold Hid; rw [← Hf.out, size_mk]; simp; omega
    have hf1 : f.size ≤ n := Nat.le_of_eq Hfs.out
    have e2 : Hid (fldR f.data.toList a2 = (s, 0)) := by
      unfold Hid
      rw [Hfd.out, fldR_parts c [] (n - c.length) a2 HZ.out (by rcases hok with h | h; exact .inl (by omega); exact .inr ⟨rfl, .inl h.1⟩) ⟨by rw [← Hfd.out]; simp; rw [Hfs.out]; omega, by rw [← Hfd.out]; simp; rw [Hfs.out]; omega⟩, if_pos allZ_nil, Hs.out]
    have hpre : hasPre f s = true := by rw [hasPre_iff, Hfd.out, Hd.out]; exact ⟨_, rfl⟩
    have hleq : ((f.size : Int) == (n : Int)) = true := by rw [Hfs.out]; simp
    clear hok
    go_wp2_with fail
    refine (fRead_any f a2 _ (by unfold maxLen; omega)).mono ?_; rintro e w3 ⟨rfl, hb3⟩
    rw [e2.out]
    have hb := hb12.trans (hb3.mono hb12.size)
    clear hb3 hb12
    go_wp2_with fail
    refine (HasPrefix_any _ _ _ (by unfold maxLen; omega) (by unfold maxLen; omega)).mono ?_; rintro e w' ⟨rfl, rfl⟩
    go_wp2_with fail
    go_ret
    exact ⟨rfl, hb⟩
  · have h1 : n ≤ c.length := by
      rcases Nat.lt_or_ge c.length n with h | h
      · exact absurd (.inl h) hok
      · exact h
    have e1 : Hid (fldW c n a2 = (⟨#[]⟩, 1)) := by
      unfold Hid
      refine fldW_size (by omega) ?_
      rcases Nat.lt_or_eq_of_le h1 with h | h
      · exact .inl (by omega)
      · cases a2
        · exact .inr ⟨rfl, by omega⟩
        · exact absurd (.inr ⟨rfl, h.symm⟩) hok
    have hn : n ≤ s.size := by rw [HS.out]; exact h1
    rw [e1.out]
    clear hok h1
    go_wp2_with fail
    go_ret
    exact ⟨rfl, hb12⟩
set_option maxHeartbeats 1000000 in
theorem FieldStrict_walk (a0 : ByteArray) (a1 : ByteArray) (a2 : Int) (w0 : a0.size ≤ maxLen) (w1 : a1.size ≤ maxLen) (wf2 : (Lit.int .i64 a2).wf = true) (r0 : a0.size ≤ 140737488351232) (r1 : a1.size ≤ 140737488351232) (w : World) :
    Calls Tryd.prog 4 #[.string a0, .string a1, .int .i64 a2] w fun e w' => e = .returned (.bool true) ∧ Below w.heap.size w w' := by
  go_enter Tryd.func4, Tryd.ntmps4
  go_wp2_with fail
  refine (clean_any a0 60 _ (by omega) (by omega)).mono ?_; rintro e w1 ⟨rfl, hb1⟩
  have Hcz := Lib.hid (cleanL_has a0.data.toList 60)
  have hcl := cleanL_le a0.data.toList 60
  obtain ⟨c, Hc⟩ := hid_name (cleanL a0.data.toList 60)
  rw [Hc.out] at Hcz hcl ⊢
  obtain ⟨s, Hs⟩ := hid_name (⟨c.toArray⟩ : ByteArray)
  have Hd : Hid (s.data.toList = c) := by unfold Hid; rw [← Hs.out]
  have HS : Hid (s.size = c.length) := by unfold Hid; rw [← Hs.out]; exact size_mk c
  have hs1 : s.size ≤ 60 := by rw [HS.out]; exact hcl
  rw [Hs.out]
  go_wp2_with fail
  refine (clean_any a1 60 _ (by omega) (by omega)).mono ?_; rintro e w2 ⟨rfl, hb2⟩
  have hb12 := hb1.trans (hb2.mono hb1.size)
  clear hb1 hb2
  have Hmz := Lib.hid (cleanL_has a1.data.toList 60)
  have hml := cleanL_le a1.data.toList 60
  obtain ⟨m, Hm⟩ := hid_name (cleanL a1.data.toList 60)
  rw [Hm.out] at Hmz hml ⊢
  obtain ⟨t, Ht⟩ := hid_name (⟨m.toArray⟩ : ByteArray)
  have Htd : Hid (t.data.toList = m) := by unfold Hid; rw [← Ht.out]
  have HT : Hid (t.size = m.length) := by unfold Hid; rw [← Ht.out]; exact size_mk m
  have ht1 : t.size ≤ 60 := by rw [HT.out]; exact hml
  rw [Ht.out]
  go_wp2_with fail
  refine (picked_any _ _ _ wf2 (by omega)).mono ?_; rintro e w' ⟨rfl, rfl⟩
  obtain ⟨p1, p2⟩ := pick_bd a2 9 (by omega)
  generalize pick a2 9 = y at *
  obtain ⟨k, Hx⟩ : ∃ k : Nat, Hid (1 + y = k) := ⟨(1 + y).toNat, show _ = _ by omega⟩
  have x1 : 1 ≤ k := by have := Hx.out; omega
  have x2 : k ≤ 9 := by have := Hx.out; omega
  go_wp2_with fail
  rw [show 1 + y = (k : Int) from Hx.out]
  clear p1 p2
  refine (Tryd.strings_Repeat ⟨#[0]⟩ k _ (by omega) (by show 1 * k ≤ _; omega)).mono ?_; rintro e w3 ⟨rfl, hb3⟩
  have hb := hb12.trans (hb3.mono hb12.size)
  clear hb12 hb3
  have Hrz : Hid ((⟨(Lib.repeatL (⟨#[0]⟩ : ByteArray).data.toList k).toArray⟩ : ByteArray) = zer k) := by
    have := Lib.repeatL_replicate 0 1 k
    rw [Nat.mul_one] at this
    unfold Hid zer; rw [← this]; rfl
  rw [Hrz.out]
  have hzs : (zer k).size ≤ 9 := by rw [zer_size]; exact x2
  have hsz : (s ++ zer k).size ≤ 69 := by rw [ByteArray.size_append]; omega
  have hf2 : ((s ++ zer k) ++ t).size ≤ 129 := by rw [ByteArray.size_append]; omega
  have Hf0 : Hid ((s ++ zer k) ++ t = ⟨(c ++ (List.replicate k 0 ++ m)).toArray⟩) := by
    unfold Hid; rw [← Hs.out, ← Ht.out, zer, str_app, str_app, List.append_assoc]
  go_wp2_with fail
  obtain ⟨f, Hf⟩ := hid_name ((s ++ zer k) ++ t)
  have Hfd : Hid (f.data.toList = c ++ (List.replicate k 0 ++ m)) := by unfold Hid; rw [← Hf.out, Hf0.out]
  have hf1 : f.size ≤ 129 := by rw [← Hf.out]; exact hf2
  have hfl : Hid (f.data.toList.length = f.size) := by simp [Hid]
  have hf3 : 1 ≤ f.size := by
    have := hfl.out
    rw [Hfd.out] at this; simp only [List.length_append, List.length_replicate] at this; omega
  rw [Hf.out]
  clear hf2 hsz hzs
  have e1 : Hid (fldR f.data.toList true = if allZ m = true then (s, 0) else (⟨#[]⟩, 3)) := by
    unfold Hid
    rw [Hfd.out, fldR_parts c m k true Hcz.out (.inl x1) ⟨by rw [← Hfd.out, hfl.out]; exact hf3, by rw [← Hfd.out, hfl.out]; omega⟩, Hs.out]
  obtain ⟨g, Hg⟩ := hid_name (f ++ ⟨#[0]⟩ : ByteArray)
  have Hg0 : Hid (g.data.toList = c ++ (List.replicate k 0 ++ (m ++ [0]))) := by
    unfold Hid; rw [← Hg.out, ByteArray.data_append, Array.toList_append, Hfd.out, List.append_assoc, List.append_assoc]
  have Hgl := Lib.hid (size_len g)
  have hgs : g.size ≤ 130 := by
    rw [← size_len g, Hg0.out]; simp only [List.length_append, List.length_replicate, List.length_singleton]
    omega
  have hgs1 : 1 ≤ g.size := by
    rw [← size_len g, Hg0.out]; simp only [List.length_append, List.length_replicate, List.length_singleton]
    omega
  have e2 : Hid (fldR g.data.toList false = if allZ m = true then (s, 0) else (⟨#[]⟩, 3)) := by
    unfold Hid
    have hz : allZ (m ++ [0]) = allZ m := by rw [allZ_snoc]; simp
    rw [Hg0.out, fldR_parts c (m ++ [0]) k false Hcz.out (.inl x1) ⟨by rw [← Hg0.out, Hgl.out]; exact hgs1, by rw [← Hg0.out, Hgl.out]; omega⟩, Hs.out, hz]
  refine (fRead_any f true _ (by unfold maxLen; omega)).mono ?_; rintro e w4 ⟨rfl, hb4⟩
  have hb' := hb.trans (hb4.mono hb.size)
  clear hb hb4
  rw [e1.out]
  by_cases hm : m = []
  · have ht0 : t.toList = [] := by rw [ByteArray.toList_eq, Htd.out]; exact hm
    have hA := Lib.hid (show allZ m = true by rw [hm]; rfl)
    clear hm
    rw [if_pos hA.out]
    go_wp2_with fail
    rw [Hg.out]
    refine (fRead_any g false _ (by unfold maxLen; omega)).mono ?_; rintro e w5 ⟨rfl, hb5⟩
    have hb := hb'.trans (hb5.mono hb'.size)
    clear hb' hb5
    rw [e2.out, if_pos hA.out]
    go_wp2_with fail
    go_ret
    exact ⟨rfl, hb⟩
  · have ht0 : t.toList.isEmpty = false := by
      rw [ByteArray.toList_eq, Htd.out, ← Bool.not_eq_true, List.isEmpty_iff]; exact hm
    have hA := Lib.hid (show ¬ allZ m = true by rw [allZ_has m Hmz.out]; simpa using hm)
    clear hm
    rw [if_neg hA.out]
    go_wp2_with fail
    rw [Hg.out]
    refine (fRead_any g false _ (by unfold maxLen; omega)).mono ?_; rintro e w5 ⟨rfl, hb5⟩
    have hb := hb'.trans (hb5.mono hb'.size)
    clear hb' hb5
    rw [e2.out, if_neg hA.out]
    go_wp2_with fail
    go_ret
    exact ⟨rfl, hb⟩
end Go.Proofs.YtjnpmocfmpemhaaDoor
