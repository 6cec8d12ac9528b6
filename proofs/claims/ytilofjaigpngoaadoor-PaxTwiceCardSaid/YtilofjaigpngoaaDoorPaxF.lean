/- The walk of the law on package pax's reading. -/
import Derived.Test.YtilofjaigpngoaaDoorPaxE
import Derived.Test.YtilofjaigpngoaaDoorLaid
import Derived.BigQuiet
set_option linter.unusedVariables false
set_option maxRecDepth 100000
namespace Go.Proofs.YtilofjaigpngoaaDoor
open Go.RowKit
open Go.OpenShut
set_option maxHeartbeats 1000000 in
/-- two lists of the same records are equal -/
theorem Equal_same (A B : Option Addr) (n c d : Nat) (l : List Rc) (hn : l.length = n) (hn2 : n ≤ 140737488355328) (w : World) (hA : RecsAt w A l) (hB : RecsAt w B l) :
    Calls Tryd.prog 15 #[.slice A n c, .slice B n d] w fun e w' => e = .returned (.bool true) ∧ Below w.heap.size w w' := by
  have HA := Lib.hid hA
  have HB := Lib.hid hB
  have HN := Lib.hid hn
  clear hA hB hn
  go_enter Tryd.func15, Tryd.ntmps15
  go_wp2_with fail
  go_loopw [13] (fun i wr => ∃ k : Nat, i = .int .i64 k ∧ k ≤ n ∧ Hid (Below w.heap.size w wr)) (fun i _ => n - (intOf i).toNat)
  case atStart => exact ⟨0, rfl, Nat.zero_le _, Below.refl _ _⟩
  case round =>
    obtain ⟨k, rfl, hk, HW⟩ := hrel
    by_cases hlt : k < n
    · obtain ⟨b, o, e, x0, x1⟩ := HA.out.below HW.out k (by rw [HN.out]; exact hlt)
      obtain ⟨b', o', e', y0, y1⟩ := HB.out.below HW.out k (by rw [HN.out]; exact hlt)
      subst e e'
      obtain ⟨K, HK⟩ := hid_name (bs (l[k]'(by rw [HN.out]; exact hlt)).1)
      obtain ⟨V, HV⟩ := hid_name (bs (l[k]'(by rw [HN.out]; exact hlt)).2)
      rw [HK.out] at x0 y0
      rw [HV.out] at x1 y1
      go_upto_region 6 with fail
      go_quiet (fail)
      go_wp2_with fail
      go_roundw
      case rel => exact ⟨k + 1, by go_num, by omega, below_drewN HW.out _⟩
      case measure => simp [intOf]; omega
    · obtain rfl : k = n := by omega
      go_wp2_with fail
      go_ret
      exact ⟨rfl, HW.out⟩
theorem same_same (A B : Option Addr) (n c d : Nat) (l : List Rc) (hn : l.length = n) (hn2 : n ≤ 140737488355328) (w : World) (hA : RecsAt w A l) (hB : RecsAt w B l) :
    Calls Tryd.prog 13 #[.slice A n c, .slice B n d] w fun e w' => e = .returned (.bool true) ∧ Below w.heap.size w w' := by
  have HE := Lib.hid (Equal_same A B n c d l hn hn2 w hA hB)
  clear hA hB
  go_enter Tryd.func13, Tryd.ntmps13
  go_wp2_with fail
  refine HE.out.mono ?_; rintro e w1 ⟨rfl, hb⟩
  have HB := Lib.hid hb
  clear hb
  go_wp2_with fail
  go_ret
  exact ⟨rfl, HB.out⟩
theorem paxR_le (L : List UInt8) : (paxR L).1.length ≤ L.length := by
  have h := rdAll_len L
  unfold paxR
  split
  · simp
  · split
    · simp
    · exact h
set_option maxHeartbeats 1000000 in
theorem PaxReads_walk (a0 : ByteArray) (w0 : a0.size ≤ maxLen) (hb : a0.data.toList.length + 1 + 0 ≤ 1048576) (w : World) (hL : laidMetH Tryd.prog Rows.paxReadsRow.laid w) :
    Calls Tryd.prog 4 #[.string a0] w fun e w' => e = .returned (.bool true) ∧ Below w.heap.size w w' := by
  have T : Tab w := tab_of_laid hL (by kernel_rfl) (by simp [Rows.paxReadsRow])
  clear hL
  have hs : a0.size ≤ 1048576 := by rw [sz_list] at hb; omega
  have H1 := Lib.hid fun W T => pRead_any a0 W T (by omega)
  have H2 := Lib.hid fun W T => rPaxOf_any a0 W T (by omega)
  have hl := paxR_le a0.data.toList
  rw [sz_list] at hl
  have hl2 : (paxR a0.data.toList).1.length ≤ 1048576 := by omega
  clear hb hl
  obtain ⟨l, hl⟩ := hid_name (paxR a0.data.toList).1
  obtain ⟨x, hx⟩ := hid_name (paxR a0.data.toList).2
  rw [hl.out, hx.out] at H1 H2
  rw [hl.out] at hl2
  go_enter Tryd.func4, Tryd.ntmps4
  go_wp2_with fail
  refine (H1.out _ T).mono ?_; rintro e w1 ⟨A, n, c, rfl, hn, hRA, hb⟩
  have HB1 := Lib.hid hb
  have HRA := Lib.hid hRA
  clear hb hRA
  go_wp2_with fail
  refine (H2.out _ (T.below HB1.out)).mono ?_; rintro e w2 ⟨A', n', c', rfl, hn', hRA, hb⟩
  obtain rfl : n' = n := by omega
  have HE := Lib.hid (same_same A A' n' c c' l hn (by omega) w2 (HRA.out.below hb) hRA)
  have HB2 := Lib.hid (HB1.out.trans (hb.mono HB1.out.size))
  clear hb hRA
  go_wp2_with fail
  refine HE.out.mono ?_; rintro e w3 ⟨rfl, hb⟩
  have HB3 := Lib.hid (HB2.out.trans (hb.mono HB2.out.size))
  clear hb
  go_wp2_with fail
  go_ret
  exact ⟨rfl, HB3.out⟩
end Go.Proofs.YtilofjaigpngoaaDoor
