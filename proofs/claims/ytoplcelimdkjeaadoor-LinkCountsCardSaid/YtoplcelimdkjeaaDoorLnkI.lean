/- The law LinkCounts. -/
import Derived.Test.YtoplcelimdkjeaaDoorLnkG
set_option linter.unusedVariables false
set_option maxRecDepth 100000
namespace Go.Proofs.YtoplcelimdkjeaaDoor
open Go.RowKit
open Go.OpenShut
set_option maxHeartbeats 2000000 in
theorem LinkCounts_walk (A0 : Option Addr) (n0 c0 : Nat) (rs0 : List RawV) (hn0 : rs0.length = n0) (hm0 : n0 ≤ 140737488355328) (hf0 : ∀ r ∈ rs0, r.wf) (w : World) (hr0 : RawsAt w A0 rs0) :
    Calls Tryd.prog 6 #[.slice A0 n0 c0] w fun e w' => e = .returned (.bool true) ∧ Below w.heap.size w w' := by
  have HD := Lib.hid (drawn_any A0 n0 c0 rs0 hn0 hm0 hf0 30 (by omega) w hr0)
  clear hn0 hf0 hr0
  go_enter Tryd.func6, Tryd.ntmps6
  go_wp2_with fail
  refine HD.out.mono ?_; rintro e w1 ⟨l, T, k, d, rfl, hk, -, hS, hN, hk30, hSo, hsz, hB⟩
  have ht := sound_tree hSo (by omega)
  have HT3 := Lib.hid fun (g : Nat) (W : World) (hN : NodesAt W (some ⟨g, 0, none⟩) [smA, smB, smC]) => by
    have h := lNames_any (some ⟨g, 0, none⟩) 3 3 [smA, smB, smC] rfl ⟨Nat.le_refl _, by decide, fun e => by cases e⟩ sm_sz3 W hN
    rw [sm_tree3, if_pos rfl, sm_nm] at h
    exact h
  have HT2 := Lib.hid fun W (h : Below w1.heap.size w1 W) => by
    have h := lFirsts_any T k d l hk hS hsz W (hN.below h)
    rw [ht, if_pos rfl] at h
    exact h
  have h1 := lNames_any T k d l hk hS hsz w1 hN
  rw [ht, if_pos rfl] at h1
  have H1 := Lib.hid h1
  have HG := Lib.hid fun i => namesF_first (fun j => hSo.pos j) i
  have HB1 := Lib.hid hB
  have HK := Lib.hid hk
  have HFL : Hid ((fsL l).length = k) := by unfold Hid; rw [fsL_len]; exact hk
  have HNL : Hid ((nmL l).length = k) := by unfold Hid; rw [nmL_len]; exact hk
  clear hB hN hk hS hSo hsz ht h1 HD
  go_wp2_with fail
  refine H1.out.mono ?_; rintro e w2 ⟨v, rfl, ho, hb⟩
  obtain ⟨A1, c1, rfl, hN1⟩ := ho.at
  rw [HNL.out]
  have HM2 := Lib.hid hN1
  have H2 := Lib.hid (HT2.out w2 hb)
  have HB2 := Lib.hid (HB1.out.trans (hb.mono HB1.out.size))
  clear ho hb hN1 H1 HT2
  go_wp2_with fail
  refine H2.out.mono ?_; rintro e w3 ⟨v, rfl, ho, hb⟩
  obtain ⟨A2, c2, rfl, hN2⟩ := ho.at
  rw [HFL.out]
  have HF3 := Lib.hid hN2
  have HM3 := Lib.hid (HM2.out.below hb)
  have HB3 := Lib.hid (HB2.out.trans (hb.mono HB2.out.size))
  clear ho hb hN2 H2 HM2
  go_wp2_with fail
  refine (small_any _).mono ?_; rintro e w4 ⟨g, rfl, hNs, hb⟩
  have H4 := Lib.hid (HT3.out g w4 hNs)
  have HF4 := Lib.hid (HF3.out.below hb)
  have HM4 := Lib.hid (HM3.out.below hb)
  have HB4 := Lib.hid (HB3.out.trans (hb.mono HB3.out.size))
  clear hNs hb HF3 HM3
  go_wp2_with fail
  refine H4.out.mono ?_; rintro e w5 ⟨v, rfl, ho, hb⟩
  obtain ⟨A5, c5, hv5, hN5⟩ := ho.at
  have hv5' : v = .slice A5 3 c5 := hv5
  clear hv5
  subst hv5'
  have HE5 := Lib.hid fun W (h : Below w5.heap.size w5 W) (h2 : NumsAt W (some ⟨w5.heap.size, 0, none⟩) [1, 1, 1]) => by
    have h := equalInts_any A5 (some ⟨w5.heap.size, 0, none⟩) 3 c5 3 3 [1, 1, 1] [1, 1, 1] rfl rfl (by decide) (by decide) W (hN5.below h) h2
    rw [decide_eq_true rfl] at h
    exact h
  have HF5 := Lib.hid (HF4.out.below hb)
  have HM5 := Lib.hid (HM4.out.below hb)
  have HB5 := Lib.hid (HB4.out.trans (hb.mono HB4.out.size))
  have HBa := Lib.hid (belowA (Below.refl w5.heap.size w5) (.cells #[.int .i64 1, .int .i64 1, .int .i64 1] 3))
  clear ho hb hN5 HF4 HM4 H4
  go_wp2_with fail
  refine (HE5.out _ HBa.out (three_ints w5 1 1 1)).mono ?_; rintro e w6 ⟨rfl, hb⟩
  have hb6 := HBa.out.trans (hb.mono HBa.out.size)
  have HF6 := Lib.hid (HF5.out.below hb6)
  have HM6 := Lib.hid (HM5.out.below hb6)
  have HB6 := Lib.hid (HB5.out.trans (hb6.mono HB5.out.size))
  clear hb hb6 HF5 HM5 HE5 HBa
  go_wp2_with fail
  go_loopw [61] (fun iv wr => ∃ i : Nat, i ≤ k ∧ iv = .int .i64 i ∧ Hid (Below w6.heap.size w6 wr)) (fun iv _ => k - (intOf iv).toNat)
  case atStart => exact ⟨0, Nat.zero_le _, rfl, Below.refl _ _⟩
  case round =>
    obtain ⟨i, hi, rfl, HB⟩ := hrel
    by_cases hlt : i < k
    · have i1 : i < l.length := by rw [HK.out]; exact hlt
      have h3 : (i : Int) < (k : Int) := by omega
      have h4 : (0 : Int) ≤ (i : Int) := by omega
      obtain ⟨b1, o1, rfl, e1⟩ := fsL_cell (HF6.out.below HB.out) i i1
      obtain ⟨b2, o2, rfl, e2⟩ := nmL_cell (HM6.out.below HB.out) i i1
      have HG1 := Lib.hid (HG.out i)
      go_wp2_with fail
      go_loopw [11, 66] (fun mv kv wy => ∃ m j : Nat, j ≤ k ∧ m ≤ j ∧ mv = .int .i64 m ∧ kv = .int .i64 j ∧ Hid ((List.range j).countP (fun q => decide (firstF l q = firstF l i)) = m) ∧ Hid (Below wr.heap.size wr wy)) (fun _ kv _ => k - (intOf kv).toNat)
      case atStart => exact ⟨0, 0, Nat.zero_le _, Nat.le_refl _, rfl, rfl, rfl, Below.refl _ _⟩
      case round =>
        obtain ⟨m, j, hj, hm, rfl, rfl, HC, HY⟩ := hrel
        rename World => wy
        have hby := HB.out.trans (HY.out.mono HB.out.size)
        by_cases hlt2 : j < k
        · have j1 : j < l.length := by rw [HK.out]; exact hlt2
          obtain ⟨b3, o3, hb3, e3⟩ := fsL_cell (HF6.out.below hby) j j1
          obtain ⟨b4, o4, hb4, e4⟩ := fsL_cell (HF6.out.below hby) i i1
          injection hb3 with hb3
          injection hb3 with hb3 ho3
          injection hb4 with hb4
          injection hb4 with hb4 ho4
          subst hb3 ho3 hb4 ho4
          have h5 : (j : Int) < (k : Int) := by omega
          have h6 : (0 : Int) ≤ (j : Int) := by omega
          have HYc := Lib.hid HY.out
          clear hby e1 e2
          by_cases hq : firstF l j = firstF l i
          · have HC1 : Hid ((List.range (j + 1)).countP (fun q => decide (firstF l q = firstF l i)) = m + 1) := by
              unfold Hid
              rw [List.range_succ, List.countP_append, HC.out, List.countP_singleton, if_pos (decide_eq_true hq)]
            rw [hq] at e3
            generalize firstF l i = fi at *
            clear hq
            go_wp2_with fail
            go_roundw
            case rel => exact ⟨m + 1, j + 1, by omega, by omega, by go_num, by go_num, HC1.out, HYc.out⟩
            case measure => simp [intOf]; omega
          · have HC1 : Hid ((List.range (j + 1)).countP (fun q => decide (firstF l q = firstF l i)) = m) := by
              unfold Hid
              rw [List.range_succ, List.countP_append, HC.out, List.countP_singleton, if_neg (by simpa using hq)]; rfl
            have hq2 : (((firstF l j : Nat) : Int) == ((firstF l i : Nat) : Int)) = false := by simp; omega
            generalize firstF l i = fi at *
            generalize firstF l j = fj at *
            clear hq
            go_wp2_with fail
            go_roundw
            case rel => exact ⟨m, j + 1, by omega, by omega, rfl, by go_num, HC1.out, HYc.out⟩
            case measure => simp [intOf]; omega
        · obtain rfl : j = k := by omega
          obtain ⟨b4, o4, hb4, e4⟩ := nmL_cell (HM6.out.below hby) i i1
          injection hb4 with hb4
          injection hb4 with hb4 ho4
          subst hb4 ho4
          have hmm : namesF l i = m := by rw [HG1.out, HK.out]; exact HC.out
          rw [hmm] at e4
          have HBy := Lib.hid hby
          clear hby e1 e2 hmm
          go_wp2_with fail
          go_roundw
          case rel => exact ⟨i + 1, by omega, by go_num, HBy.out⟩
          case measure => simp [intOf]; omega
    · obtain rfl : i = k := by omega
      have HB9 := Lib.hid (HB6.out.trans (HB.out.mono HB6.out.size))
      go_wp2_with fail
      go_ret
      exact ⟨rfl, HB9.out⟩
end Go.Proofs.YtoplcelimdkjeaaDoor
