/- Package record's reading. -/
import Derived.Test.YtilofjaigpngoaaDoorRecB
import Derived.Test.YtilofjaigpngoaaDoorRecN
import Derived.BigRegion
import Derived.Deep.RegionWith
set_option linter.unusedVariables false
set_option maxRecDepth 100000
namespace Go.Proofs.YtilofjaigpngoaaDoor
open Go.RowKit
open Go.OpenShut
theorem isD_u8 (c : UInt8) : isD c = true ↔ (48 : Int) ≤ (c.toNat : Int) ∧ (c.toNat : Int) ≤ 57 := by
  unfold isD; rw [decide_eq_true_eq]; omega
set_option maxHeartbeats 1000000 in
theorem isNumber_any (s : ByteArray) (w : World) (hs : s.size ≤ maxLen) : Calls Tryd.prog 51 #[.string s] w fun e w' => e = .returned (.bool (numB s.data.toList)) ∧ w = w' := by
  unfold maxLen at hs
  by_cases h0 : s.size = 0
  · obtain rfl := str_none h0
    clear h0
    go_enter Tryd.func51, Tryd.ntmps51
    go_wp2_with fail
    go_ret
    exact ⟨rfl, rfl⟩
  · have hemp := str_some h0
    by_cases h4 : 4 < s.size
    · have HX := Lib.hid (show false = numB s.data.toList from (by unfold numB; rw [decide_eq_false (by rw [size_list]; omega), Bool.false_and]))
      rw [← HX.out]
      clear h0
      go_enter Tryd.func51, Tryd.ntmps51
      go_wp2_with fail
      go_ret
      exact ⟨rfl, rfl⟩
    · have hlt0 : 0 < s.size := by omega
      have hh : s.data.toList.head? = some (s[0]'hlt0) := by
        rw [List.head?_eq_getElem?]; exact Lib.data_getElem? s 0 hlt0
      by_cases hz : s[0]'hlt0 = 48
      · have hz' : (((s[0]'hlt0).toNat : Int) == 48) = true := by rw [hz]; rfl
        have HX := Lib.hid (show false = numB s.data.toList from (by unfold numB; rw [decide_eq_false (by rw [hh, hz]; exact fun a => a.2.2 rfl), Bool.false_and]))
        rw [← HX.out]
        clear h0 hz hh
        go_enter Tryd.func51, Tryd.ntmps51
        go_wp2_with fail
        go_ret
        exact ⟨rfl, rfl⟩
      · have hz' : (((s[0]'hlt0).toNat : Int) == 48) = false := by
          rw [beq_eq_false_iff_ne]; intro a; exact hz (UInt8.toNat_inj.1 (by show _ = 48; omega))
        have HN := Lib.hid (show 1 ≤ s.data.toList.length ∧ s.data.toList.length ≤ 4 ∧ s.data.toList.head? ≠ some 48 from ⟨by rw [size_list]; omega, by rw [size_list]; omega, by rw [hh]; exact fun a => hz (Option.some.inj a)⟩)
        clear h0 hz hh
        go_enter Tryd.func51, Tryd.ntmps51
        go_wp2_with fail
        go_loop [18] (fun i => ∃ k : Nat, k ≤ s.size ∧ i = .int .i64 k ∧ Hid (∀ c ∈ s.data.toList.take k, isD c = true)) (fun i => s.size - (intOf i).toNat)
        case atStart => exact ⟨0, Nat.zero_le _, rfl, fun c hc => by simp at hc⟩
        case round =>
          obtain ⟨k, hk, rfl, HD⟩ := hrel
          by_cases hlt : k < s.size
          · have Hs := Lib.hid (take_snoc s k hlt)
            obtain ⟨c, hc⟩ : ∃ c : UInt8, s[k] = c := ⟨_, rfl⟩
            have hcu := u8_lt c
            by_cases hd : isD c = true
            · have HD2 : Hid (∀ c ∈ s.data.toList.take (k + 1), isD c = true) := by
                unfold Hid
                rw [Hs.out, hc]
                intro x hx
                rcases List.mem_append.1 hx with hx | hx
                · exact HD.out x hx
                · rw [List.mem_singleton.1 hx]; exact hd
              obtain ⟨h1, h2⟩ := (isD_u8 c).1 hd
              clear hd
              go_wp2_with fail
              go_round
              case rel => exact ⟨k + 1, by omega, by go_num, HD2⟩
              case measure => simp [intOf]; omega
            · have HX := Lib.hid (show false = numB s.data.toList from (by
                cases e : numB s.data.toList
                · rfl
                · have := (numB_of e).2 c (by rw [← hc]; exact Array.getElem_mem_toList (xs := s.data) hlt)
                  exact absurd this hd))
              rw [isD_u8] at hd
              rcases (show (c.toNat : Int) < 48 ∨ (¬ (c.toNat : Int) < 48 ∧ 57 < (c.toNat : Int)) by omega) with h1 | ⟨h1, h2⟩
              all_goals
                clear hd
                go_wp2_with fail
                go_ret
                exact ⟨ret_bool HX.out, rfl⟩
          · obtain rfl : k = s.size := by omega
            have HX := Lib.hid (show true = numB s.data.toList from (numB_mk HN.out (by have := HD.out; rw [← size_list, List.take_length] at this; exact this)).symm)
            go_wp2_with fail
            go_ret
            exact ⟨ret_bool HX.out, rfl⟩
def recZ : Array Value := #[.string ⟨#[]⟩, .string ⟨#[]⟩]
/-- what the split calls -/
structure Spl (t : ByteArray) (st : Nat) (B X K V : ByteArray) (e f : Bool) : Prop where
  hB : t.extract st t.size = B
  hs : ∀ W : World, Calls Tryd.prog 68 #[.string B, .string ⟨#[10]⟩] W fun e' w' => e' = .returned (.tuple #[.string X, .bool e]) ∧ W = w'
  hc : ∀ W : World, Calls Tryd.prog 50 #[.string X, .string ⟨#[61]⟩] W fun e' w' => e' = .returned (.tuple #[.string K, .string V, .bool f]) ∧ ∃ n, w' = W.drewN n
  hX : X.size ≤ t.size
  hK : K.size ≤ t.size
  hV : V.size ≤ t.size
theorem spl_of (t : ByteArray) (st : Nat) (ht : t.size ≤ 100000) : ∃ B X, Spl t st B X (bs (splK t.data.toList st)) (bs (splV t.data.toList st)) (Lib.hasSuffix (t.data.toList.drop st) [10]) (hasB 61 (splB t.data.toList st)) := by
  have hBl : (t.extract st t.size).data.toList = t.data.toList.drop st := extract_tail t st
  have hXl : (splB t.data.toList st).length ≤ t.size := by
    unfold splB Lib.trimSuffix
    split
    · rw [List.length_take, List.length_drop, size_list]; omega
    · rw [List.length_drop, size_list]; omega
  refine ⟨_, bs (splB t.data.toList st), rfl, fun W => ?_, fun W => ?_, by rw [bs_size]; exact hXl, ?_, ?_⟩
  · refine (Tryd.strings_CutSuffix (t.extract st t.size) ⟨#[10]⟩ W (by rw [ByteArray.size_extract]; omega)).mono ?_; rintro e w' ⟨rfl, rfl⟩
    rw [hBl]; exact ⟨rfl, rfl⟩
  · have h := Cut_one (bs (splB t.data.toList st)) 61 W (by rw [bs_size]; unfold maxLen; omega)
    rw [bs_list] at h; exact h
  · rw [bs_size]; unfold splK; rw [List.length_take]; omega
  · rw [bs_size]; unfold splV; rw [List.length_drop]; omega
set_option maxHeartbeats 1000000 in
theorem split_none (t : ByteArray) (st : Nat) (w : World) (hst : st ≤ 100) (ht : t.size ≤ 100000) (h : splO t.data.toList st = false) :
    Calls Tryd.prog 53 #[.string t, .int .i64 st] w fun e w' => e = .returned (.tuple #[recV ⟨#[]⟩ ⟨#[]⟩, .bool false]) ∧ Below w.heap.size w w' := by
  unfold recV
  by_cases hl : t.size ≤ st
  · clear h
    go_enter Tryd.func53, Tryd.ntmps53
    go_wp2_with fail
    exact bodyPost_ret (v := .tuple #[.agg #[.string ⟨#[]⟩, .string ⟨#[]⟩], .bool false]) (by simp [results, Tryd.results53, go_sem, *]) rfl ⟨rfl, (Below.refl _ _).alloc (Nat.le_refl _) _⟩
  · obtain ⟨B, X, hS⟩ := spl_of t st ht
    have hef : (Lib.hasSuffix (t.data.toList.drop st) [10] && hasB 61 (splB t.data.toList st)) = false := by
      unfold splO at h
      rw [decide_eq_true (by rw [size_list]; omega), Bool.true_and] at h; exact h
    obtain ⟨K, HK⟩ := hid_name (bs (splK t.data.toList st))
    obtain ⟨V, HV⟩ := hid_name (bs (splV t.data.toList st))
    obtain ⟨e, He⟩ := hid_name (Lib.hasSuffix (t.data.toList.drop st) [10])
    obtain ⟨f, Hf⟩ := hid_name (hasB 61 (splB t.data.toList st))
    rw [He.out, Hf.out] at hef
    rw [HK.out, HV.out, He.out, Hf.out] at hS
    have HS := Lib.hid hS.hs
    have HC := Lib.hid hS.hc
    have HB := Lib.hid hS.hB
    have hst1 : st < t.size := by omega
    clear h hS
    cases e
    all_goals
      cases f
      all_goals
        first
          | (exfalso; revert hef; decide)
          | (clear hef
             go_enter Tryd.func53, Tryd.ntmps53
             go_wp2_with fail
             rw [HB.out]
             refine (HS.out _).mono ?_; rintro e1 w1 ⟨rfl, rfl⟩
             go_wp2_with fail
             refine (HC.out _).mono ?_; rintro e1 w1 ⟨rfl, n1, rfl⟩
             go_wp2_with fail
             exact bodyPost_ret (v := .tuple #[.agg #[.string ⟨#[]⟩, .string ⟨#[]⟩], .bool false]) (by simp [results, Tryd.results53, go_sem, *]) rfl ⟨rfl, Below.set2 (below_drewN ((Below.refl _ _).alloc (Nat.le_refl _) _) _) (Nat.le_refl _) _ _⟩)
set_option maxHeartbeats 1000000 in
theorem split_some (t : ByteArray) (st : Nat) (w : World) (hst : st ≤ 100) (ht : t.size ≤ 100000) (h : splO t.data.toList st = true) :
    Calls Tryd.prog 53 #[.string t, .int .i64 st] w fun e w' => e = .returned (.tuple #[recV (bs (splK t.data.toList st)) (bs (splV t.data.toList st)), .bool true]) ∧ Below w.heap.size w w' := by
  unfold recV
  unfold splO at h
  rw [Bool.and_eq_true, Bool.and_eq_true, decide_eq_true_eq, size_list] at h
  obtain ⟨hst1, he, hf⟩ := h
  obtain ⟨B, X, hS⟩ := spl_of t st ht
  rw [he, hf] at hS
  obtain ⟨K, HK⟩ := hid_name (bs (splK t.data.toList st))
  obtain ⟨V, HV⟩ := hid_name (bs (splV t.data.toList st))
  rw [HK.out, HV.out] at hS ⊢
  have HS := Lib.hid hS.hs
  have HC := Lib.hid hS.hc
  have HB := Lib.hid hS.hB
  have HK1 := Lib.hid hS.hK
  have HV1 := Lib.hid hS.hV
  clear he hf hS
  go_enter Tryd.func53, Tryd.ntmps53
  go_wp2_with fail
  rw [HB.out]
  refine (HS.out _).mono ?_; rintro e1 w1 ⟨rfl, rfl⟩
  go_wp2_with fail
  refine (HC.out _).mono ?_; rintro e1 w1 ⟨rfl, n1, rfl⟩
  have hb0 := Blk.drewN (Blk.new w 35 recZ) n1
  have hw0 : Below w.heap.size w ((w.alloc (.cells recZ 35)).drewN n1) := below_drewN ((Below.refl _ _).alloc (Nat.le_refl _) _) _
  unfold recZ at hb0 hw0
  go_wp2_with fail
  refine (Clone_any K _ (by have := HK1.out; omega)).mono ?_; rintro e1 w1 ⟨rfl, hb1⟩
  have hb1' := hb0.below hb1 hb0.lt
  have hw1 := hw0.trans (hb1.mono (Nat.le_of_lt hb0.lt))
  clear hb0 hw0 hb1
  go_wp2_with fail
  refine (Clone_any V _ (by have := HV1.out; omega)).mono ?_; rintro e1 w2 ⟨rfl, hb2⟩
  have hb2' := hb1'.below hb2 hb1'.lt
  have HW2 := Lib.hid (hw1.trans (hb2.mono (Nat.le_of_lt hb1'.lt)))
  clear hb1' hw1 hb2
  obtain ⟨⟨c0, c1⟩, f0, f1⟩ := blk2 hb2'
  have HP := Lib.hid (Blk.put2 hb2' (.string K) (.string V))
  clear hb2'
  go_wp2_with fail
  obtain ⟨⟨c0', c1'⟩, f0', f1'⟩ := blk2 HP.out
  exact bodyPost_ret (v := .tuple #[.agg #[.string K, .string V], .bool true]) (by simp [results, Tryd.results53, go_sem, *]) rfl ⟨rfl, Below.set2 HW2.out (Nat.le_refl _) _ _⟩
end Go.Proofs.YtilofjaigpngoaaDoor
