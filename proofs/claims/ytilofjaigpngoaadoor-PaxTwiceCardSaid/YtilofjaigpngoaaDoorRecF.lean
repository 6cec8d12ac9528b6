/- The reference's reading of a record. -/
import Derived.Test.YtilofjaigpngoaaDoorRecC
import Derived.Test.YtilofjaigpngoaaDoorRecE
set_option linter.unusedVariables false
set_option maxRecDepth 100000
namespace Go.Proofs.YtilofjaigpngoaaDoor
open Go.RowKit
open Go.OpenShut
theorem Read_any (s : ByteArray) (w : World) (T : Tab w) (hs : s.size ≤ 281474976710656) : Calls Tryd.prog 38 #[.string s] w fun e w' => e = .returned (rdV (recR s.data.toList)) ∧ Below w.heap.size w w' := by
  by_cases h1 : hasB 32 s.data.toList = true ∧ numB (s.data.toList.take (pos 32 s.data.toList)) = true
  · obtain ⟨hb, hn⟩ := h1
    by_cases h : s.size < dVal (s.data.toList.take (pos 32 s.data.toList))
    · exact Read_short s w hs hb hn h
    · cases h2 : splO (s.data.toList.take (dVal (s.data.toList.take (pos 32 s.data.toList)))) (pos 32 s.data.toList + 1)
      · exact Read_split s w hs hb hn (by omega) h2
      · by_cases h3 : chkR (splK (s.data.toList.take (dVal (s.data.toList.take (pos 32 s.data.toList)))) (pos 32 s.data.toList + 1)) (splV (s.data.toList.take (dVal (s.data.toList.take (pos 32 s.data.toList)))) (pos 32 s.data.toList + 1)) = 0
        · by_cases h4 : recL (splK (s.data.toList.take (dVal (s.data.toList.take (pos 32 s.data.toList)))) (pos 32 s.data.toList + 1)) (splV (s.data.toList.take (dVal (s.data.toList.take (pos 32 s.data.toList)))) (pos 32 s.data.toList + 1)) = s.data.toList.take (dVal (s.data.toList.take (pos 32 s.data.toList)))
          · exact Read_yes s w T hs hb hn (by omega) h2 h3 h4
          · exact Read_off s w T hs hb hn (by omega) h2 h3 h4
        · exact Read_err s w T hs hb hn (by omega) h2 h3
  · exact Read_front s w hs h1
theorem rNo_any (c : Int) (w : World) : Calls Tryd.prog 39 #[.int .i64 c] w fun e w' => e = .returned (.tuple #[.agg #[.string ⟨#[]⟩, .string ⟨#[]⟩], .string ⟨#[]⟩, .int .i64 c]) ∧ Below w.heap.size w w' := by
  go_enter Tryd.func39, Tryd.ntmps39
  go_wp2_with fail
  exact bodyPost_ret (v := .tuple #[.agg #[.string ⟨#[]⟩, .string ⟨#[]⟩], .string ⟨#[]⟩, .int .i64 c]) (by simp [results, Tryd.results39, go_sem, *]) rfl ⟨rfl, by first | exact (Below.refl _ _).alloc (Nat.le_refl _) _ | exact Below.set2 ((Below.refl _ _).alloc (Nat.le_refl _) _) (Nat.le_refl _) _ _⟩
/-! ### the digits ahead -/
theorem digP_at (s : ByteArray) (k : Nat) (hk : k < (digP s.data.toList).length) : ∃ h : k < s.size, isD (s[k]'h) = true := by
  have hle := digP_le s.data.toList
  have hlt : k < s.data.toList.length := by omega
  have h2 : k < s.size := by rw [← size_list]; exact hlt
  refine ⟨h2, ?_⟩
  have hm : s.data.toList[k] ∈ digP s.data.toList := by
    rw [digP_take s.data.toList]
    exact List.mem_iff_getElem.2 ⟨k, by rw [List.length_take]; omega, by rw [List.getElem_take]⟩
  exact digP_all _ _ hm
theorem digP_end (s : ByteArray) (h : (digP s.data.toList).length < s.size) : isD (s[(digP s.data.toList).length]'h) = false :=
  digP_stop s.data.toList _ (by rw [size_list]; exact h) rfl
theorem isD_dec {c : UInt8} (h : isD c = true) : 48 ≤ c.toNat ∧ c.toNat ≤ 57 := of_decide_eq_true h
theorem dVal_step (s : ByteArray) (k : Nat) (h : k < s.size) : dVal (s.data.toList.take (k + 1)) = 10 * dVal (s.data.toList.take k) + ((s[k]'h).toNat - 48) := by
  rw [take_snoc s k h, dVal_snoc]
theorem dVal_take (l : List UInt8) (k m : Nat) (h : k ≤ (digP l).length) (hm : k ≤ m) : dVal (l.take k) < 10 ^ m := by
  have h1 := dVal_lt (l.take k) (fun c hc => digP_all l c (by rw [digP_take l]; exact List.mem_of_mem_take (i := k) (by rw [List.take_take, Nat.min_eq_left h]; exact hc)))
  have h2 : 10 ^ (l.take k).length ≤ 10 ^ m := Nat.pow_le_pow_right (by omega) (by rw [List.length_take]; omega)
  omega
set_option maxHeartbeats 2000000 in
theorem rRecOf_front (s : ByteArray) (w : World) (T : Tab w) (hs : s.size ≤ 281474976710656) (hf : ¬ frontOk s.data.toList) :
    Calls Tryd.prog 27 #[.string s] w fun e w' => e = .returned (rdV (recR s.data.toList)) ∧ Below w.heap.size w w' := by
  have Hhf := Lib.hid hf
  clear hf
  have HNo := Lib.hid fun W => rNo_any 3 W
  have HNo7 := Lib.hid fun W => rNo_any 7 W
  have HAt := Lib.hid (digP_at s)
  have HEnd := Lib.hid (digP_end s)
  have HV := Lib.hid fun k hk (hk5 : k ≤ 5) => dVal_take s.data.toList k 5 hk hk5
  have HSt := Lib.hid (dVal_step s)
  have hDs : (digP s.data.toList).length ≤ s.size := by have := digP_le s.data.toList; rw [size_list] at this; exact this
  obtain ⟨D, HD⟩ := hid_name (digP s.data.toList).length
  rw [HD.out] at HAt HEnd HV hDs
  go_enter Tryd.func27, Tryd.ntmps27
  go_upto_block 0 with fail
  go_cut [6, 7] (fun s6 s7 wx => ∃ M N : Nat, s6 = .int .i64 (M : Int) ∧ s7 = .int .i64 (N : Int) ∧ M ≤ 5 ∧ M ≤ D ∧ M ≤ s.size ∧ Hid (M = min D 5) ∧ N < 100000 ∧ Hid (N = dVal (s.data.toList.take M)) ∧ wx = w.alloc (.cells recZ 35))
  case first =>
    go_wp2_with fail
    go_loop [6, 7] (fun i o => ∃ k N : Nat, i = .int .i64 (k : Int) ∧ o = .int .i64 (N : Int) ∧ k ≤ D ∧ k ≤ 5 ∧ k ≤ s.size ∧ N < 100000 ∧ Hid (N = dVal (s.data.toList.take k))) (fun i _ => s.size - (intOf i).toNat)
    case atStart => exact ⟨0, 0, rfl, rfl, Nat.zero_le _, by omega, Nat.zero_le _, by omega, rfl⟩
    case round =>
      obtain ⟨k, N, rfl, rfl, hkD, hk5, hks, hN, HN⟩ := hrel
      by_cases hlt : k < s.size
      · obtain ⟨c, hc⟩ : ∃ c : UInt8, s[k] = c := ⟨_, rfl⟩
        have hcu := u8_lt c
        by_cases hd : isD c = true
        · obtain ⟨d1, d2⟩ := isD_dec hd
          have hkD' : k < D := by
            rcases Nat.lt_or_ge k D with h | h
            · exact h
            · exfalso
              obtain rfl : k = D := by omega
              have := HEnd.out hlt
              rw [hc, hd] at this; cases this
          by_cases h5 : k < 5
          · have HN1 : Hid (10 * N + (c.toNat - 48) = dVal (s.data.toList.take (k + 1))) := by
              unfold Hid; rw [HSt.out k hlt, hc, ← HN.out]
            have hN1 : 10 * N + (c.toNat - 48) < 100000 := by
              rw [HN1.out]; exact HV.out (k + 1) (by omega) (by omega)
            have e1 : (10 : Int) * (N : Int) + ((c.toNat : Int) - 48) = ((10 * N + (c.toNat - 48) : Nat) : Int) := by omega
            have q1 : (48 : Int) ≤ (c.toNat : Int) := by omega
            have q2 : (c.toNat : Int) ≤ 57 := by omega
            clear hd
            go_wp2_with fail
            go_round
            case rel => exact ⟨k + 1, 10 * N + (c.toNat - 48), by go_num, by first | (rw [e1]) | (congr 1), by omega, by omega, by omega, hN1, HN1⟩
            case measure => simp [intOf]; omega
          · have q1 : (48 : Int) ≤ (c.toNat : Int) := by omega
            have q2 : (c.toNat : Int) ≤ 57 := by omega
            have q3 : ¬ (k : Int) < 5 := by omega
            have Hm : Hid (k = min D 5) := by unfold Hid; omega
            clear hd
            go_wp2_with fail
            go_meet
            exact ⟨k, N, rfl, rfl, hk5, hkD, hks, Hm, hN, HN, rfl⟩
        · have Hm : Hid (k = min D 5) := by
            unfold Hid
            rcases Nat.lt_or_ge k D with h | h
            · exfalso
              obtain ⟨h1, h2⟩ := HAt.out k h
              rw [hc] at h2; exact hd h2
            · omega
          have hd' : ¬ (48 ≤ c.toNat ∧ c.toNat ≤ 57) := fun h => hd (decide_eq_true h)
          rcases (show (c.toNat : Int) < 48 ∨ ((48 : Int) ≤ (c.toNat : Int) ∧ 57 < (c.toNat : Int)) by omega) with q | ⟨q, q2⟩
          all_goals
            clear hd hd'
            go_wp2_with fail
            go_meet
            exact ⟨k, N, rfl, rfl, hk5, hkD, hks, Hm, hN, HN, rfl⟩
      · obtain rfl : k = s.size := by omega
        have Hm : Hid (s.size = min D 5) := by unfold Hid; omega
        go_wp2_with fail
        go_meet
        exact ⟨s.size, N, rfl, rfl, hk5, hkD, hks, Hm, hN, HN, rfl⟩
  case rest =>
    obtain ⟨M, N, rfl, rfl, hM5, hMD, hMs, Hm, hN, HN, rfl⟩ := hcut
    have hg := Blk.new w 35 recZ
    have hw : Below w.heap.size w (w.alloc (.cells recZ 35)) := (Below.refl _ _).alloc (Nat.le_refl _) _
    unfold recZ at hg hw
    have hf := Hhf.out
    have HR : Hid (rdV (recR s.data.toList) = .tuple #[.agg #[.string ⟨#[]⟩, .string ⟨#[]⟩], .string ⟨#[]⟩, .int .i64 3]) := by
      unfold Hid recR; rw [if_pos hf]; rfl
    have hcase : M = 0 ∨ (1 ≤ M ∧ 4 < M) ∨ (1 ≤ M ∧ M ≤ 4 ∧ ∃ h : 0 < s.size, (((s[0]'h).toNat : Int) == 48) = true) ∨ (1 ≤ M ∧ M ≤ 4 ∧ M = s.size ∧ ∃ h : 0 < s.size, (((s[0]'h).toNat : Int) == 48) = false) ∨
        (1 ≤ M ∧ M ≤ 4 ∧ (∃ h : 0 < s.size, (((s[0]'h).toNat : Int) == 48) = false) ∧ ∃ h : M < s.size, (((s[M]'h).toNat : Int) != 32) = true) := by
      by_cases h0 : M = 0
      · exact .inl h0
      · by_cases h4 : 4 < M
        · exact .inr (.inl ⟨by omega, h4⟩)
        · have h1 : 0 < s.size := by omega
          cases hz : (((s[0]'h1).toNat : Int) == 48)
          · by_cases hMs2 : M = s.size
            · exact .inr (.inr (.inr (.inl ⟨by omega, by omega, hMs2, h1, hz⟩)))
            · have h2 : M < s.size := by omega
              refine .inr (.inr (.inr (.inr ⟨by omega, by omega, ⟨h1, hz⟩, h2, ?_⟩)))
              rw [bne_iff_ne]
              intro a
              have hMD2 : (digP s.data.toList).length = M := by have := HD.out; have := Hm.out; omega
              refine hf ⟨by omega, by omega, ?_, ?_⟩
              · rw [List.head?_eq_getElem?, Lib.data_getElem? s 0 h1]
                intro b
                rw [Option.some.inj b] at hz; revert hz; decide
              · rw [hMD2, Lib.data_getElem? s M h2]
                congr 1; exact UInt8.toNat_inj.1 (by show _ = 32; omega)
          · exact .inr (.inr (.inl ⟨by omega, by omega, h1, hz⟩))
    clear hf
    rcases hcase with rfl | ⟨h1, h2⟩ | ⟨h1, h2, h3, h4⟩ | ⟨h1, h2, rfl, h3, h4⟩ | ⟨h1, h2, ⟨h3, h4⟩, h5, h6⟩
    · go_wp2_with fail
      refine (HNo.out _).mono ?_; rintro e1 w1 ⟨rfl, hb1⟩
      have hb1' := hg.below hb1 hg.lt
      have HW1 := Lib.hid (hw.trans (hb1.mono hw.size))
      obtain ⟨⟨c0, c1⟩, f0, f1⟩ := blk2 hb1'
      have HPz := Lib.hid (Blk.put2 hb1' (.string ⟨#[]⟩) (.string ⟨#[]⟩))
      clear hb1' hb1
      go_wp2_with fail
      obtain ⟨⟨c0', c1'⟩, -⟩ := blk2 HPz.out
      exact bodyPost_ret (v := .tuple #[.agg #[.string ⟨#[]⟩, .string ⟨#[]⟩], .string ⟨#[]⟩, .int .i64 3]) (by simp [results, Tryd.results27, go_sem, *]) rfl ⟨by rw [HR.out], Below.set2 HW1.out (Nat.le_refl _) _ _⟩
    · go_wp2_with fail
      refine (HNo.out _).mono ?_; rintro e1 w1 ⟨rfl, hb1⟩
      have hb1' := hg.below hb1 hg.lt
      have HW1 := Lib.hid (hw.trans (hb1.mono hw.size))
      obtain ⟨⟨c0, c1⟩, f0, f1⟩ := blk2 hb1'
      have HPz := Lib.hid (Blk.put2 hb1' (.string ⟨#[]⟩) (.string ⟨#[]⟩))
      clear hb1' hb1
      go_wp2_with fail
      obtain ⟨⟨c0', c1'⟩, -⟩ := blk2 HPz.out
      exact bodyPost_ret (v := .tuple #[.agg #[.string ⟨#[]⟩, .string ⟨#[]⟩], .string ⟨#[]⟩, .int .i64 3]) (by simp [results, Tryd.results27, go_sem, *]) rfl ⟨by rw [HR.out], Below.set2 HW1.out (Nat.le_refl _) _ _⟩
    · go_wp2_with fail
      refine (HNo.out _).mono ?_; rintro e1 w1 ⟨rfl, hb1⟩
      have hb1' := hg.below hb1 hg.lt
      have HW1 := Lib.hid (hw.trans (hb1.mono hw.size))
      obtain ⟨⟨c0, c1⟩, f0, f1⟩ := blk2 hb1'
      have HPz := Lib.hid (Blk.put2 hb1' (.string ⟨#[]⟩) (.string ⟨#[]⟩))
      clear hb1' hb1
      go_wp2_with fail
      obtain ⟨⟨c0', c1'⟩, -⟩ := blk2 HPz.out
      exact bodyPost_ret (v := .tuple #[.agg #[.string ⟨#[]⟩, .string ⟨#[]⟩], .string ⟨#[]⟩, .int .i64 3]) (by simp [results, Tryd.results27, go_sem, *]) rfl ⟨by rw [HR.out], Below.set2 HW1.out (Nat.le_refl _) _ _⟩
    · have tS0 : ((s.size : Int) == 0) = false := by rw [beq_eq_false_iff_ne]; omega
      go_wp2_with fail
      refine (HNo.out _).mono ?_; rintro e1 w1 ⟨rfl, hb1⟩
      have hb1' := hg.below hb1 hg.lt
      have HW1 := Lib.hid (hw.trans (hb1.mono hw.size))
      obtain ⟨⟨c0, c1⟩, f0, f1⟩ := blk2 hb1'
      have HPz := Lib.hid (Blk.put2 hb1' (.string ⟨#[]⟩) (.string ⟨#[]⟩))
      clear hb1' hb1
      go_wp2_with fail
      obtain ⟨⟨c0', c1'⟩, -⟩ := blk2 HPz.out
      exact bodyPost_ret (v := .tuple #[.agg #[.string ⟨#[]⟩, .string ⟨#[]⟩], .string ⟨#[]⟩, .int .i64 3]) (by simp [results, Tryd.results27, go_sem, *]) rfl ⟨by rw [HR.out], Below.set2 HW1.out (Nat.le_refl _) _ _⟩
    · have tMs : ((M : Int) == (s.size : Int)) = false := by rw [beq_eq_false_iff_ne]; omega
      go_wp2_with fail
      refine (HNo.out _).mono ?_; rintro e1 w1 ⟨rfl, hb1⟩
      have hb1' := hg.below hb1 hg.lt
      have HW1 := Lib.hid (hw.trans (hb1.mono hw.size))
      obtain ⟨⟨c0, c1⟩, f0, f1⟩ := blk2 hb1'
      have HPz := Lib.hid (Blk.put2 hb1' (.string ⟨#[]⟩) (.string ⟨#[]⟩))
      clear hb1' hb1
      go_wp2_with fail
      obtain ⟨⟨c0', c1'⟩, -⟩ := blk2 HPz.out
      exact bodyPost_ret (v := .tuple #[.agg #[.string ⟨#[]⟩, .string ⟨#[]⟩], .string ⟨#[]⟩, .int .i64 3]) (by simp [results, Tryd.results27, go_sem, *]) rfl ⟨by rw [HR.out], Below.set2 HW1.out (Nat.le_refl _) _ _⟩
set_option maxHeartbeats 2000000 in
theorem rRecOf_short (s : ByteArray) (w : World) (T : Tab w) (hs : s.size ≤ 281474976710656) (hf : frontOk s.data.toList) (hh : s.size < dVal (digP s.data.toList)) :
    Calls Tryd.prog 27 #[.string s] w fun e w' => e = .returned (rdV (recR s.data.toList)) ∧ Below w.heap.size w w' := by
  have Hhf := Lib.hid hf
  clear hf
  have Hhh := Lib.hid hh
  clear hh
  have HNo := Lib.hid fun W => rNo_any 3 W
  have HNo7 := Lib.hid fun W => rNo_any 7 W
  have HAt := Lib.hid (digP_at s)
  have HEnd := Lib.hid (digP_end s)
  have HV := Lib.hid fun k hk (hk5 : k ≤ 5) => dVal_take s.data.toList k 5 hk hk5
  have HSt := Lib.hid (dVal_step s)
  have hDs : (digP s.data.toList).length ≤ s.size := by have := digP_le s.data.toList; rw [size_list] at this; exact this
  obtain ⟨D, HD⟩ := hid_name (digP s.data.toList).length
  rw [HD.out] at HAt HEnd HV hDs
  go_enter Tryd.func27, Tryd.ntmps27
  go_upto_block 0 with fail
  go_cut [6, 7] (fun s6 s7 wx => ∃ M N : Nat, s6 = .int .i64 (M : Int) ∧ s7 = .int .i64 (N : Int) ∧ M ≤ 5 ∧ M ≤ D ∧ M ≤ s.size ∧ Hid (M = min D 5) ∧ N < 100000 ∧ Hid (N = dVal (s.data.toList.take M)) ∧ wx = w.alloc (.cells recZ 35))
  case first =>
    go_wp2_with fail
    go_loop [6, 7] (fun i o => ∃ k N : Nat, i = .int .i64 (k : Int) ∧ o = .int .i64 (N : Int) ∧ k ≤ D ∧ k ≤ 5 ∧ k ≤ s.size ∧ N < 100000 ∧ Hid (N = dVal (s.data.toList.take k))) (fun i _ => s.size - (intOf i).toNat)
    case atStart => exact ⟨0, 0, rfl, rfl, Nat.zero_le _, by omega, Nat.zero_le _, by omega, rfl⟩
    case round =>
      obtain ⟨k, N, rfl, rfl, hkD, hk5, hks, hN, HN⟩ := hrel
      by_cases hlt : k < s.size
      · obtain ⟨c, hc⟩ : ∃ c : UInt8, s[k] = c := ⟨_, rfl⟩
        have hcu := u8_lt c
        by_cases hd : isD c = true
        · obtain ⟨d1, d2⟩ := isD_dec hd
          have hkD' : k < D := by
            rcases Nat.lt_or_ge k D with h | h
            · exact h
            · exfalso
              obtain rfl : k = D := by omega
              have := HEnd.out hlt
              rw [hc, hd] at this; cases this
          by_cases h5 : k < 5
          · have HN1 : Hid (10 * N + (c.toNat - 48) = dVal (s.data.toList.take (k + 1))) := by
              unfold Hid; rw [HSt.out k hlt, hc, ← HN.out]
            have hN1 : 10 * N + (c.toNat - 48) < 100000 := by
              rw [HN1.out]; exact HV.out (k + 1) (by omega) (by omega)
            have e1 : (10 : Int) * (N : Int) + ((c.toNat : Int) - 48) = ((10 * N + (c.toNat - 48) : Nat) : Int) := by omega
            have q1 : (48 : Int) ≤ (c.toNat : Int) := by omega
            have q2 : (c.toNat : Int) ≤ 57 := by omega
            clear hd
            go_wp2_with fail
            go_round
            case rel => exact ⟨k + 1, 10 * N + (c.toNat - 48), by go_num, by first | (rw [e1]) | (congr 1), by omega, by omega, by omega, hN1, HN1⟩
            case measure => simp [intOf]; omega
          · have q1 : (48 : Int) ≤ (c.toNat : Int) := by omega
            have q2 : (c.toNat : Int) ≤ 57 := by omega
            have q3 : ¬ (k : Int) < 5 := by omega
            have Hm : Hid (k = min D 5) := by unfold Hid; omega
            clear hd
            go_wp2_with fail
            go_meet
            exact ⟨k, N, rfl, rfl, hk5, hkD, hks, Hm, hN, HN, rfl⟩
        · have Hm : Hid (k = min D 5) := by
            unfold Hid
            rcases Nat.lt_or_ge k D with h | h
            · exfalso
              obtain ⟨h1, h2⟩ := HAt.out k h
              rw [hc] at h2; exact hd h2
            · omega
          have hd' : ¬ (48 ≤ c.toNat ∧ c.toNat ≤ 57) := fun h => hd (decide_eq_true h)
          rcases (show (c.toNat : Int) < 48 ∨ ((48 : Int) ≤ (c.toNat : Int) ∧ 57 < (c.toNat : Int)) by omega) with q | ⟨q, q2⟩
          all_goals
            clear hd hd'
            go_wp2_with fail
            go_meet
            exact ⟨k, N, rfl, rfl, hk5, hkD, hks, Hm, hN, HN, rfl⟩
      · obtain rfl : k = s.size := by omega
        have Hm : Hid (s.size = min D 5) := by unfold Hid; omega
        go_wp2_with fail
        go_meet
        exact ⟨s.size, N, rfl, rfl, hk5, hkD, hks, Hm, hN, HN, rfl⟩
  case rest =>
    obtain ⟨M, N, rfl, rfl, hM5, hMD, hMs, Hm, hN, HN, rfl⟩ := hcut
    have hg := Blk.new w 35 recZ
    have hw : Below w.heap.size w (w.alloc (.cells recZ 35)) := (Below.refl _ _).alloc (Nat.le_refl _) _
    unfold recZ at hg hw
    have hf := Hhf.out
    obtain ⟨hf1, hf2, hf3, hf4⟩ := hf
    have hML : (digP s.data.toList).length = M := by have := HD.out; have := Hm.out; omega
    have hMN : dVal (digP s.data.toList) = N := by
      have := digP_take s.data.toList
      rw [this, hML]; exact HN.out.symm
    have HFr : Hid (frontOk s.data.toList) := ⟨hf1, hf2, hf3, hf4⟩
    rw [hML] at hf1 hf2 hf4
    have hMlt : M < s.size := by
      rcases Nat.lt_or_ge M s.size with h | h
      · exact h
      · rw [List.getElem?_eq_none (by rw [size_list]; exact h)] at hf4; cases hf4
    have h0lt : 0 < s.size := by omega
    have e32 : s[M]'hMlt = 32 := by rw [Lib.data_getElem? s M hMlt] at hf4; exact Option.some.inj hf4
    have e48 : s[0]'h0lt ≠ 48 := by
      intro e; apply hf3
      rw [List.head?_eq_getElem?, Lib.data_getElem? s 0 h0lt, e]
    have t32 : (((s[M]'hMlt).toNat : Int) != 32) = false := by rw [e32]; rfl
    have t48 : (((s[0]'h0lt).toNat : Int) == 48) = false := by
      rw [beq_eq_false_iff_ne]; intro a; exact e48 (UInt8.toNat_inj.1 (by show _ = 48; omega))
    have HML := Lib.hid hML
    have HMN := Lib.hid hMN
    clear hf1 hf2 hf3 hf4 hML hMN e32 e48
    have hM1 : 1 ≤ M := by have := HFr.out.1; have := HML.out; omega
    have hM4 : M ≤ 4 := by have := HFr.out.2.1; have := HML.out; omega
    have tM0 : ((M : Int) == 0) = false := by rw [beq_eq_false_iff_ne]; omega
    have tMs : ((M : Int) == (s.size : Int)) = false := by rw [beq_eq_false_iff_ne]; omega
    have hsh : s.size < N := by have := Hhh.out; rw [HMN.out] at this; exact this
    have HR : Hid (rdV (recR s.data.toList) = .tuple #[.agg #[.string ⟨#[]⟩, .string ⟨#[]⟩], .string ⟨#[]⟩, .int .i64 7]) := by
      unfold Hid recR; rw [if_neg (by simpa using HFr.out), HMN.out, if_pos (by rw [size_list]; exact hsh)]; rfl
    go_wp2_with fail
    refine (HNo7.out _).mono ?_; rintro e1 w1 ⟨rfl, hb1⟩
    have hb1' := hg.below hb1 hg.lt
    have HW1 := Lib.hid (hw.trans (hb1.mono hw.size))
    obtain ⟨⟨c0, c1⟩, f0, f1⟩ := blk2 hb1'
    have HPz := Lib.hid (Blk.put2 hb1' (.string ⟨#[]⟩) (.string ⟨#[]⟩))
    clear hb1' hb1
    go_wp2_with fail
    obtain ⟨⟨c0', c1'⟩, -⟩ := blk2 HPz.out
    exact bodyPost_ret (v := .tuple #[.agg #[.string ⟨#[]⟩, .string ⟨#[]⟩], .string ⟨#[]⟩, .int .i64 7]) (by simp [results, Tryd.results27, go_sem, *]) rfl ⟨by rw [HR.out], Below.set2 HW1.out (Nat.le_refl _) _ _⟩
set_option maxHeartbeats 2000000 in
theorem rRecOf_low (s : ByteArray) (w : World) (T : Tab w) (hs : s.size ≤ 281474976710656) (hf : frontOk s.data.toList) (hh : dVal (digP s.data.toList) ≤ s.size) (hl : dVal (digP s.data.toList) < (digP s.data.toList).length + 2) :
    Calls Tryd.prog 27 #[.string s] w fun e w' => e = .returned (rdV (recR s.data.toList)) ∧ Below w.heap.size w w' := by
  have Hhf := Lib.hid hf
  clear hf
  have Hhh := Lib.hid hh
  clear hh
  have Hhl := Lib.hid hl
  clear hl
  have HNo := Lib.hid fun W => rNo_any 3 W
  have HNo7 := Lib.hid fun W => rNo_any 7 W
  have HAt := Lib.hid (digP_at s)
  have HEnd := Lib.hid (digP_end s)
  have HV := Lib.hid fun k hk (hk5 : k ≤ 5) => dVal_take s.data.toList k 5 hk hk5
  have HSt := Lib.hid (dVal_step s)
  have hDs : (digP s.data.toList).length ≤ s.size := by have := digP_le s.data.toList; rw [size_list] at this; exact this
  obtain ⟨D, HD⟩ := hid_name (digP s.data.toList).length
  rw [HD.out] at HAt HEnd HV hDs
  go_enter Tryd.func27, Tryd.ntmps27
  go_upto_block 0 with fail
  go_cut [6, 7] (fun s6 s7 wx => ∃ M N : Nat, s6 = .int .i64 (M : Int) ∧ s7 = .int .i64 (N : Int) ∧ M ≤ 5 ∧ M ≤ D ∧ M ≤ s.size ∧ Hid (M = min D 5) ∧ N < 100000 ∧ Hid (N = dVal (s.data.toList.take M)) ∧ wx = w.alloc (.cells recZ 35))
  case first =>
    go_wp2_with fail
    go_loop [6, 7] (fun i o => ∃ k N : Nat, i = .int .i64 (k : Int) ∧ o = .int .i64 (N : Int) ∧ k ≤ D ∧ k ≤ 5 ∧ k ≤ s.size ∧ N < 100000 ∧ Hid (N = dVal (s.data.toList.take k))) (fun i _ => s.size - (intOf i).toNat)
    case atStart => exact ⟨0, 0, rfl, rfl, Nat.zero_le _, by omega, Nat.zero_le _, by omega, rfl⟩
    case round =>
      obtain ⟨k, N, rfl, rfl, hkD, hk5, hks, hN, HN⟩ := hrel
      by_cases hlt : k < s.size
      · obtain ⟨c, hc⟩ : ∃ c : UInt8, s[k] = c := ⟨_, rfl⟩
        have hcu := u8_lt c
        by_cases hd : isD c = true
        · obtain ⟨d1, d2⟩ := isD_dec hd
          have hkD' : k < D := by
            rcases Nat.lt_or_ge k D with h | h
            · exact h
            · exfalso
              obtain rfl : k = D := by omega
              have := HEnd.out hlt
              rw [hc, hd] at this; cases this
          by_cases h5 : k < 5
          · have HN1 : Hid (10 * N + (c.toNat - 48) = dVal (s.data.toList.take (k + 1))) := by
              unfold Hid; rw [HSt.out k hlt, hc, ← HN.out]
            have hN1 : 10 * N + (c.toNat - 48) < 100000 := by
              rw [HN1.out]; exact HV.out (k + 1) (by omega) (by omega)
            have e1 : (10 : Int) * (N : Int) + ((c.toNat : Int) - 48) = ((10 * N + (c.toNat - 48) : Nat) : Int) := by omega
            have q1 : (48 : Int) ≤ (c.toNat : Int) := by omega
            have q2 : (c.toNat : Int) ≤ 57 := by omega
            clear hd
            go_wp2_with fail
            go_round
            case rel => exact ⟨k + 1, 10 * N + (c.toNat - 48), by go_num, by first | (rw [e1]) | (congr 1), by omega, by omega, by omega, hN1, HN1⟩
            case measure => simp [intOf]; omega
          · have q1 : (48 : Int) ≤ (c.toNat : Int) := by omega
            have q2 : (c.toNat : Int) ≤ 57 := by omega
            have q3 : ¬ (k : Int) < 5 := by omega
            have Hm : Hid (k = min D 5) := by unfold Hid; omega
            clear hd
            go_wp2_with fail
            go_meet
            exact ⟨k, N, rfl, rfl, hk5, hkD, hks, Hm, hN, HN, rfl⟩
        · have Hm : Hid (k = min D 5) := by
            unfold Hid
            rcases Nat.lt_or_ge k D with h | h
            · exfalso
              obtain ⟨h1, h2⟩ := HAt.out k h
              rw [hc] at h2; exact hd h2
            · omega
          have hd' : ¬ (48 ≤ c.toNat ∧ c.toNat ≤ 57) := fun h => hd (decide_eq_true h)
          rcases (show (c.toNat : Int) < 48 ∨ ((48 : Int) ≤ (c.toNat : Int) ∧ 57 < (c.toNat : Int)) by omega) with q | ⟨q, q2⟩
          all_goals
            clear hd hd'
            go_wp2_with fail
            go_meet
            exact ⟨k, N, rfl, rfl, hk5, hkD, hks, Hm, hN, HN, rfl⟩
      · obtain rfl : k = s.size := by omega
        have Hm : Hid (s.size = min D 5) := by unfold Hid; omega
        go_wp2_with fail
        go_meet
        exact ⟨s.size, N, rfl, rfl, hk5, hkD, hks, Hm, hN, HN, rfl⟩
  case rest =>
    obtain ⟨M, N, rfl, rfl, hM5, hMD, hMs, Hm, hN, HN, rfl⟩ := hcut
    have hg := Blk.new w 35 recZ
    have hw : Below w.heap.size w (w.alloc (.cells recZ 35)) := (Below.refl _ _).alloc (Nat.le_refl _) _
    unfold recZ at hg hw
    have hf := Hhf.out
    obtain ⟨hf1, hf2, hf3, hf4⟩ := hf
    have hML : (digP s.data.toList).length = M := by have := HD.out; have := Hm.out; omega
    have hMN : dVal (digP s.data.toList) = N := by
      have := digP_take s.data.toList
      rw [this, hML]; exact HN.out.symm
    have HFr : Hid (frontOk s.data.toList) := ⟨hf1, hf2, hf3, hf4⟩
    rw [hML] at hf1 hf2 hf4
    have hMlt : M < s.size := by
      rcases Nat.lt_or_ge M s.size with h | h
      · exact h
      · rw [List.getElem?_eq_none (by rw [size_list]; exact h)] at hf4; cases hf4
    have h0lt : 0 < s.size := by omega
    have e32 : s[M]'hMlt = 32 := by rw [Lib.data_getElem? s M hMlt] at hf4; exact Option.some.inj hf4
    have e48 : s[0]'h0lt ≠ 48 := by
      intro e; apply hf3
      rw [List.head?_eq_getElem?, Lib.data_getElem? s 0 h0lt, e]
    have t32 : (((s[M]'hMlt).toNat : Int) != 32) = false := by rw [e32]; rfl
    have t48 : (((s[0]'h0lt).toNat : Int) == 48) = false := by
      rw [beq_eq_false_iff_ne]; intro a; exact e48 (UInt8.toNat_inj.1 (by show _ = 48; omega))
    have HML := Lib.hid hML
    have HMN := Lib.hid hMN
    clear hf1 hf2 hf3 hf4 hML hMN e32 e48
    have hM1 : 1 ≤ M := by have := HFr.out.1; have := HML.out; omega
    have hM4 : M ≤ 4 := by have := HFr.out.2.1; have := HML.out; omega
    have tM0 : ((M : Int) == 0) = false := by rw [beq_eq_false_iff_ne]; omega
    have tMs : ((M : Int) == (s.size : Int)) = false := by rw [beq_eq_false_iff_ne]; omega
    have hsh : ¬ s.size < N := by have := Hhh.out; rw [HMN.out] at this; omega
    have hlow : N < M + 2 := by have := Hhl.out; rw [HMN.out, HML.out] at this; exact this
    have HR : Hid (rdV (recR s.data.toList) = .tuple #[.agg #[.string ⟨#[]⟩, .string ⟨#[]⟩], .string ⟨#[]⟩, .int .i64 3]) := by
      unfold Hid recR; rw [if_neg (by simpa using HFr.out), HMN.out, if_neg (by rw [size_list]; exact hsh), HML.out, if_pos (.inl hlow)]; rfl
    go_wp2_with fail
    refine (HNo.out _).mono ?_; rintro e1 w1 ⟨rfl, hb1⟩
    have hb1' := hg.below hb1 hg.lt
    have HW1 := Lib.hid (hw.trans (hb1.mono hw.size))
    obtain ⟨⟨c0, c1⟩, f0, f1⟩ := blk2 hb1'
    have HPz := Lib.hid (Blk.put2 hb1' (.string ⟨#[]⟩) (.string ⟨#[]⟩))
    clear hb1' hb1
    go_wp2_with fail
    obtain ⟨⟨c0', c1'⟩, -⟩ := blk2 HPz.out
    exact bodyPost_ret (v := .tuple #[.agg #[.string ⟨#[]⟩, .string ⟨#[]⟩], .string ⟨#[]⟩, .int .i64 3]) (by simp [results, Tryd.results27, go_sem, *]) rfl ⟨by rw [HR.out], Below.set2 HW1.out (Nat.le_refl _) _ _⟩
set_option maxHeartbeats 2000000 in
theorem rRecOf_ten (s : ByteArray) (w : World) (T : Tab w) (hs : s.size ≤ 281474976710656) (hf : frontOk s.data.toList) (hh : dVal (digP s.data.toList) ≤ s.size) (hl : (digP s.data.toList).length + 2 ≤ dVal (digP s.data.toList)) (ht : s.data.toList[dVal (digP s.data.toList) - 1]? ≠ some 10) :
    Calls Tryd.prog 27 #[.string s] w fun e w' => e = .returned (rdV (recR s.data.toList)) ∧ Below w.heap.size w w' := by
  have Hhf := Lib.hid hf
  clear hf
  have Hhh := Lib.hid hh
  clear hh
  have Hhl := Lib.hid hl
  clear hl
  have Hht := Lib.hid ht
  clear ht
  have HNo := Lib.hid fun W => rNo_any 3 W
  have HNo7 := Lib.hid fun W => rNo_any 7 W
  have HAt := Lib.hid (digP_at s)
  have HEnd := Lib.hid (digP_end s)
  have HV := Lib.hid fun k hk (hk5 : k ≤ 5) => dVal_take s.data.toList k 5 hk hk5
  have HSt := Lib.hid (dVal_step s)
  have hDs : (digP s.data.toList).length ≤ s.size := by have := digP_le s.data.toList; rw [size_list] at this; exact this
  obtain ⟨D, HD⟩ := hid_name (digP s.data.toList).length
  rw [HD.out] at HAt HEnd HV hDs
  go_enter Tryd.func27, Tryd.ntmps27
  go_upto_block 0 with fail
  go_cut [6, 7] (fun s6 s7 wx => ∃ M N : Nat, s6 = .int .i64 (M : Int) ∧ s7 = .int .i64 (N : Int) ∧ M ≤ 5 ∧ M ≤ D ∧ M ≤ s.size ∧ Hid (M = min D 5) ∧ N < 100000 ∧ Hid (N = dVal (s.data.toList.take M)) ∧ wx = w.alloc (.cells recZ 35))
  case first =>
    go_wp2_with fail
    go_loop [6, 7] (fun i o => ∃ k N : Nat, i = .int .i64 (k : Int) ∧ o = .int .i64 (N : Int) ∧ k ≤ D ∧ k ≤ 5 ∧ k ≤ s.size ∧ N < 100000 ∧ Hid (N = dVal (s.data.toList.take k))) (fun i _ => s.size - (intOf i).toNat)
    case atStart => exact ⟨0, 0, rfl, rfl, Nat.zero_le _, by omega, Nat.zero_le _, by omega, rfl⟩
    case round =>
      obtain ⟨k, N, rfl, rfl, hkD, hk5, hks, hN, HN⟩ := hrel
      by_cases hlt : k < s.size
      · obtain ⟨c, hc⟩ : ∃ c : UInt8, s[k] = c := ⟨_, rfl⟩
        have hcu := u8_lt c
        by_cases hd : isD c = true
        · obtain ⟨d1, d2⟩ := isD_dec hd
          have hkD' : k < D := by
            rcases Nat.lt_or_ge k D with h | h
            · exact h
            · exfalso
              obtain rfl : k = D := by omega
              have := HEnd.out hlt
              rw [hc, hd] at this; cases this
          by_cases h5 : k < 5
          · have HN1 : Hid (10 * N + (c.toNat - 48) = dVal (s.data.toList.take (k + 1))) := by
              unfold Hid; rw [HSt.out k hlt, hc, ← HN.out]
            have hN1 : 10 * N + (c.toNat - 48) < 100000 := by
              rw [HN1.out]; exact HV.out (k + 1) (by omega) (by omega)
            have e1 : (10 : Int) * (N : Int) + ((c.toNat : Int) - 48) = ((10 * N + (c.toNat - 48) : Nat) : Int) := by omega
            have q1 : (48 : Int) ≤ (c.toNat : Int) := by omega
            have q2 : (c.toNat : Int) ≤ 57 := by omega
            clear hd
            go_wp2_with fail
            go_round
            case rel => exact ⟨k + 1, 10 * N + (c.toNat - 48), by go_num, by first | (rw [e1]) | (congr 1), by omega, by omega, by omega, hN1, HN1⟩
            case measure => simp [intOf]; omega
          · have q1 : (48 : Int) ≤ (c.toNat : Int) := by omega
            have q2 : (c.toNat : Int) ≤ 57 := by omega
            have q3 : ¬ (k : Int) < 5 := by omega
            have Hm : Hid (k = min D 5) := by unfold Hid; omega
            clear hd
            go_wp2_with fail
            go_meet
            exact ⟨k, N, rfl, rfl, hk5, hkD, hks, Hm, hN, HN, rfl⟩
        · have Hm : Hid (k = min D 5) := by
            unfold Hid
            rcases Nat.lt_or_ge k D with h | h
            · exfalso
              obtain ⟨h1, h2⟩ := HAt.out k h
              rw [hc] at h2; exact hd h2
            · omega
          have hd' : ¬ (48 ≤ c.toNat ∧ c.toNat ≤ 57) := fun h => hd (decide_eq_true h)
          rcases (show (c.toNat : Int) < 48 ∨ ((48 : Int) ≤ (c.toNat : Int) ∧ 57 < (c.toNat : Int)) by omega) with q | ⟨q, q2⟩
          all_goals
            clear hd hd'
            go_wp2_with fail
            go_meet
            exact ⟨k, N, rfl, rfl, hk5, hkD, hks, Hm, hN, HN, rfl⟩
      · obtain rfl : k = s.size := by omega
        have Hm : Hid (s.size = min D 5) := by unfold Hid; omega
        go_wp2_with fail
        go_meet
        exact ⟨s.size, N, rfl, rfl, hk5, hkD, hks, Hm, hN, HN, rfl⟩
  case rest =>
    obtain ⟨M, N, rfl, rfl, hM5, hMD, hMs, Hm, hN, HN, rfl⟩ := hcut
    have hg := Blk.new w 35 recZ
    have hw : Below w.heap.size w (w.alloc (.cells recZ 35)) := (Below.refl _ _).alloc (Nat.le_refl _) _
    unfold recZ at hg hw
    have hf := Hhf.out
    obtain ⟨hf1, hf2, hf3, hf4⟩ := hf
    have hML : (digP s.data.toList).length = M := by have := HD.out; have := Hm.out; omega
    have hMN : dVal (digP s.data.toList) = N := by
      have := digP_take s.data.toList
      rw [this, hML]; exact HN.out.symm
    have HFr : Hid (frontOk s.data.toList) := ⟨hf1, hf2, hf3, hf4⟩
    rw [hML] at hf1 hf2 hf4
    have hMlt : M < s.size := by
      rcases Nat.lt_or_ge M s.size with h | h
      · exact h
      · rw [List.getElem?_eq_none (by rw [size_list]; exact h)] at hf4; cases hf4
    have h0lt : 0 < s.size := by omega
    have e32 : s[M]'hMlt = 32 := by rw [Lib.data_getElem? s M hMlt] at hf4; exact Option.some.inj hf4
    have e48 : s[0]'h0lt ≠ 48 := by
      intro e; apply hf3
      rw [List.head?_eq_getElem?, Lib.data_getElem? s 0 h0lt, e]
    have t32 : (((s[M]'hMlt).toNat : Int) != 32) = false := by rw [e32]; rfl
    have t48 : (((s[0]'h0lt).toNat : Int) == 48) = false := by
      rw [beq_eq_false_iff_ne]; intro a; exact e48 (UInt8.toNat_inj.1 (by show _ = 48; omega))
    have HML := Lib.hid hML
    have HMN := Lib.hid hMN
    clear hf1 hf2 hf3 hf4 hML hMN e32 e48
    have hM1 : 1 ≤ M := by have := HFr.out.1; have := HML.out; omega
    have hM4 : M ≤ 4 := by have := HFr.out.2.1; have := HML.out; omega
    have tM0 : ((M : Int) == 0) = false := by rw [beq_eq_false_iff_ne]; omega
    have tMs : ((M : Int) == (s.size : Int)) = false := by rw [beq_eq_false_iff_ne]; omega
    have hsh : ¬ s.size < N := by have := Hhh.out; rw [HMN.out] at this; omega
    have hlow : ¬ N < M + 2 := by have := Hhl.out; rw [HMN.out, HML.out] at this; omega
    have hNlt : N - 1 < s.size := by omega
    obtain ⟨x, hx⟩ : ∃ x : UInt8, s[N - 1]'hNlt = x := ⟨_, rfl⟩
    have yN : ((N : Int) - 1) = ((N - 1 : Nat) : Int) := by omega
    have hgx : s.data.toList[N - 1]? = some x := by rw [Lib.data_getElem? s (N - 1) hNlt, hx]
    have hx10 : x ≠ 10 := by have := Hht.out; rw [HMN.out, hgx] at this; exact fun a => this (congrArg some a)
    have HR : Hid (rdV (recR s.data.toList) = .tuple #[.agg #[.string ⟨#[]⟩, .string ⟨#[]⟩], .string ⟨#[]⟩, .int .i64 3]) := by
      unfold Hid recR; rw [if_neg (by simpa using HFr.out), HMN.out, if_neg (by rw [size_list]; exact hsh), HML.out, if_pos (.inr (by rw [hgx]; exact fun a => hx10 (Option.some.inj a)))]; rfl
    have tx : ((x.toNat : Int) != 10) = true := by
      simp only [bne_iff_ne, ne_eq]; intro a; exact hx10 (UInt8.toNat_inj.1 (by show _ = 10; omega))
    clear hgx hx10
    go_wp2_with fail
    refine (HNo.out _).mono ?_; rintro e1 w1 ⟨rfl, hb1⟩
    have hb1' := hg.below hb1 hg.lt
    have HW1 := Lib.hid (hw.trans (hb1.mono hw.size))
    obtain ⟨⟨c0, c1⟩, f0, f1⟩ := blk2 hb1'
    have HPz := Lib.hid (Blk.put2 hb1' (.string ⟨#[]⟩) (.string ⟨#[]⟩))
    clear hb1' hb1
    go_wp2_with fail
    obtain ⟨⟨c0', c1'⟩, -⟩ := blk2 HPz.out
    exact bodyPost_ret (v := .tuple #[.agg #[.string ⟨#[]⟩, .string ⟨#[]⟩], .string ⟨#[]⟩, .int .i64 3]) (by simp [results, Tryd.results27, go_sem, *]) rfl ⟨by rw [HR.out], Below.set2 HW1.out (Nat.le_refl _) _ _⟩
end Go.Proofs.YtilofjaigpngoaaDoor
