/- Package pax: Check; the reference's. -/
import Derived.Test.YtilofjaigpngoaaDoorPaxA
import Derived.Test.YtilofjaigpngoaaDoorRecC
import Derived.BigQuiet
set_option linter.unusedVariables false
set_option maxRecDepth 100000
namespace Go.Proofs.YtilofjaigpngoaaDoor
open Go.RowKit
open Go.OpenShut
/-- the key ahead of a place -/
def lastK (l : List Rc) : Nat → List UInt8
  | 0 => []
  | k + 1 => (l[k]?.map (·.1)).getD []
theorem lastK_of {l : List Rc} {k : Nat} {x : Rc} {t : List Rc} (h : l.drop k = x :: t) : lastK l (k + 1) = x.1 := by
  have e : l[k]? = some x := by
    have := congrArg (fun t => t[0]?) h
    simpa using this
  show (l[k]?.map (·.1)).getD [] = x.1
  rw [e]; rfl
theorem less_nil {K : List UInt8} (h : 1 ≤ K.length) : Op.bytesLess [] K = true := by
  cases K with
  | nil => simp at h
  | cons _ _ => rfl
theorem le_str (K L : ByteArray) : (Op.bytesLess K.toList L.toList || K.toList == L.toList) = !(Op.bytesLess L.data.toList K.data.toList) := by
  rw [Lib.toList_data, Lib.toList_data]; exact le_less _ _
set_option maxHeartbeats 4000000 in
theorem pCheck_any (A : Option Addr) (n c : Nat) (l : List Rc) (hn : l.length = n) (hn2 : n ≤ 140737488355328) (hz : SzR l) (w : World) (hA : RecsAt w A l) :
    Calls Tryd.prog 7 #[.slice A n c] w fun e w' => e = .returned (.int .i64 (chkP l)) ∧ Below w.heap.size w w' := by
  by_cases h12 : 12 < n
  · have HX := Lib.hid (show (1 : Int) = chkP l from (chkP_many (by omega)).symm)
    rw [← HX.out]
    go_enter Tryd.func7, Tryd.ntmps7
    go_wp2_with fail
    go_ret
    exact ⟨rfl, Below.refl _ _⟩
  · have HA := Lib.hid hA
    have HN := Lib.hid hn
    have HZ := Lib.hid hz
    obtain ⟨R, HR⟩ := hid_name (chkG [] l)
    rw [chkP_few (by omega), HR.out]
    clear hA hn hz
    go_enter Tryd.func7, Tryd.ntmps7
    go_wp2_with fail
    go_loopw [11] (fun i wr => ∃ k : Nat, i = .int .i64 k ∧ k ≤ n ∧ Hid (chkG (lastK l k) (l.drop k) = R) ∧ Hid (Below w.heap.size w wr)) (fun i _ => n - (intOf i).toNat)
    case atStart => exact ⟨0, rfl, Nat.zero_le _, HR.out, Below.refl _ _⟩
    case round =>
      obtain ⟨k, rfl, hk, HP, HB⟩ := hrel
      have hws : w.heap.size ≤ wr.heap.size := HB.out.size
      by_cases hlt : k < n
      · obtain ⟨b, o, K, V, rfl, e0, e1, HD, HM⟩ := HA.out.get HB.out HN.out k hlt
        obtain ⟨hK, hV⟩ := HZ.out _ HM.out
        rw [sz_list] at hK hV
        have HC := Lib.hid fun W => rCheck_any K V W (by unfold maxLen; omega) (by unfold maxLen; omega)
        unfold recV at HC
        have hb1 := Blk.new wr 35 #[.string K, .string V]
        have hB1 := HB.out.alloc hws (.cells #[.string K, .string V] 35)
        clear hK hV
        by_cases hc : chkR K.data.toList V.data.toList = 0
        · rw [hc] at HC
          have HK1 := Lib.hid (chkR_of hc).1
          by_cases hk0 : k = 0
          · have HX : Hid (chkG (lastK l (k + 1)) (l.drop (k + 1)) = R) := by
              have h := HP.out
              have hl := lastK_of HD.out
              rw [HD.out, show lastK l k = [] by rw [hk0]; rfl, chkG_go (r := (K.data.toList, V.data.toList)) hc (less_nil HK1.out)] at h
              unfold Hid; rw [hl]; exact h
            have hd : decide (0 < k) = false := decide_eq_false (by omega)
            clear hc hk0
            go_wp2_with fail
            refine (HC.out _).mono ?_; rintro e w1 ⟨rfl, hb⟩
            have HW1 := Lib.hid (hB1.trans (hb.mono hB1.size))
            obtain ⟨⟨c0, c1⟩, -⟩ := blk2 (hb1.below hb hb1.lt)
            clear hb1 hB1 hb e0 e1
            go_upto_region 9 with fail
            go_quiet (fail)
            go_wp2_with fail
            go_roundw
            case rel => exact ⟨k + 1, by go_num, by omega, HX, below_drewN HW1.out _⟩
            case measure => simp [intOf]; omega
          · have hgs : ∀ w1 : World, Below w.heap.size w w1 → ∃ L : ByteArray, w1.cell? ⟨b, o + (k - 1) * 2, none⟩ = some (.string L) ∧ Hid (lastK l k = L.data.toList) := fun w1 hb1 => by
              obtain ⟨b', o', L, LV, hA', f0, -, HD', -⟩ := HA.out.get hb1 HN.out (k - 1) (by omega)
              cases hA'
              refine ⟨L, f0, ?_⟩
              have := lastK_of HD'.out
              rw [show k - 1 + 1 = k by omega] at this
              exact this
            have hd : decide (0 < k) = true := decide_eq_true (by omega)
            have b0 : (0 : Int) ≤ (k : Int) - 1 := by omega
            have b1 : (k : Int) - 1 < (n : Int) := by omega
            have b2 : IntKind.i64.wrap ((k : Int) - 1) = (k : Int) - 1 := IntWalk.i64_in _ (by omega)
            have b7 : ((k : Int) - 1).toNat = k - 1 := by omega
            obtain ⟨L0, -, HL0⟩ := hgs wr HB.out
            clear hk0
            cases hls : Op.bytesLess L0.data.toList K.data.toList
            · have HX : Hid ((6 : Int) = R) := by
                have h := HP.out
                rw [HD.out, HL0.out, chkG_twice (r := (K.data.toList, V.data.toList)) hc hls] at h; exact h
              have HLS := Lib.hid hls
              clear hc hls
              go_wp2_with fail
              refine (HC.out _).mono ?_; rintro e w1 ⟨rfl, hb⟩
              have HW1 := Lib.hid (hB1.trans (hb.mono hB1.size))
              obtain ⟨⟨c0, c1⟩, -⟩ := blk2 (hb1.below hb hb1.lt)
              obtain ⟨L, f0, HL⟩ := hgs w1 HW1.out
              have hle := le_str K L
              rw [← HL.out, HL0.out, HLS.out, Bool.not_false] at hle
              clear hb1 hB1 hb e0 e1 hgs
              go_upto_region 9 with fail
              go_quiet (fail)
              go_wp2_with fail
              go_ret
              exact ⟨by rw [← HX.out]; rfl, below_drewN HW1.out _⟩
            · have HX : Hid (chkG (lastK l (k + 1)) (l.drop (k + 1)) = R) := by
                have h := HP.out
                have hl := lastK_of HD.out
                rw [HD.out, HL0.out, chkG_go (r := (K.data.toList, V.data.toList)) hc hls] at h
                unfold Hid; rw [hl]; exact h
              have HLS := Lib.hid hls
              clear hc hls
              go_wp2_with fail
              refine (HC.out _).mono ?_; rintro e w1 ⟨rfl, hb⟩
              have HW1 := Lib.hid (hB1.trans (hb.mono hB1.size))
              obtain ⟨⟨c0, c1⟩, -⟩ := blk2 (hb1.below hb hb1.lt)
              obtain ⟨L, f0, HL⟩ := hgs w1 HW1.out
              have hle := le_str K L
              rw [← HL.out, HL0.out, HLS.out, Bool.not_true] at hle
              clear hb1 hB1 hb e0 e1 hgs
              go_upto_region 9 with fail
              go_quiet (fail)
              go_wp2_with fail
              go_roundw
              case rel => exact ⟨k + 1, by go_num, by omega, HX, below_drewN HW1.out _⟩
              case measure => simp [intOf]; omega
        · have HX : Hid (chkR K.data.toList V.data.toList = R) := by
            have h := HP.out
            rw [HD.out, chkG_err hc] at h; exact h
          rw [HX.out] at HC hc
          have tc : (R != 0) = true := by simpa using hc
          clear hc
          go_wp2_with fail
          refine (HC.out _).mono ?_; rintro e w1 ⟨rfl, hb⟩
          have HW1 := Lib.hid (hB1.trans (hb.mono hB1.size))
          clear hb1 hB1 hb e0 e1
          go_wp2_with fail
          go_ret
          exact ⟨rfl, HW1.out⟩
      · obtain rfl : k = n := by omega
        have HX : Hid (R = 0) := by
          have h := HP.out
          rw [List.drop_of_length_le (by rw [HN.out]; omega)] at h; exact h.symm
        have hx := HX.out
        subst hx
        go_wp2_with fail
        go_ret
        exact ⟨rfl, HB.out⟩
set_option maxHeartbeats 4000000 in
theorem rPaxFault_any (A : Option Addr) (n c : Nat) (l : List Rc) (hn : l.length = n) (hn2 : n ≤ 140737488355328) (hz : SzR l) (w : World) (hA : RecsAt w A l) :
    Calls Tryd.prog 9 #[.slice A n c] w fun e w' => e = .returned (.int .i64 (chkP l)) ∧ Below w.heap.size w w' := by
  by_cases h12 : 12 < n
  · have HX := Lib.hid (show (1 : Int) = chkP l from (chkP_many (by omega)).symm)
    rw [← HX.out]
    go_enter Tryd.func9, Tryd.ntmps9
    go_wp2_with fail
    go_ret
    exact ⟨rfl, Below.refl _ _⟩
  · have HA := Lib.hid hA
    have HN := Lib.hid hn
    have HZ := Lib.hid hz
    obtain ⟨R, HR⟩ := hid_name (chkG [] l)
    rw [chkP_few (by omega), HR.out]
    clear hA hn hz
    go_enter Tryd.func9, Tryd.ntmps9
    go_wp2_with fail
    go_loopw [3, 12] (fun s i wr => ∃ (k : Nat) (L : ByteArray), i = .int .i64 k ∧ s = .string L ∧ k ≤ n ∧ Hid (chkG L.data.toList (l.drop k) = R) ∧ Hid (Below w.heap.size w wr)) (fun _ i _ => n - (intOf i).toNat)
    case atStart => exact ⟨0, _, rfl, rfl, Nat.zero_le _, HR.out, Below.refl _ _⟩
    case round =>
      obtain ⟨k, L, rfl, rfl, hk, HP, HB⟩ := hrel
      have hws : w.heap.size ≤ wr.heap.size := HB.out.size
      by_cases hlt : k < n
      · obtain ⟨b, o, K, V, rfl, e0, e1, HD, HM⟩ := HA.out.get HB.out HN.out k hlt
        obtain ⟨hK, hV⟩ := HZ.out _ HM.out
        rw [sz_list] at hK hV
        have HC := Lib.hid fun W => rRecFault_any K V W (by unfold maxLen; omega) (by unfold maxLen; omega)
        unfold recV at HC
        have hb1 := Blk.new wr 35 #[.string K, .string V]
        have hB1 := HB.out.alloc hws (.cells #[.string K, .string V] 35)
        clear hK hV
        by_cases hc : chkR K.data.toList V.data.toList = 0
        · rw [hc] at HC
          have hle := le_str K L
          cases hls : Op.bytesLess L.data.toList K.data.toList
          · have HX : Hid ((6 : Int) = R) := by
              have h := HP.out
              rw [HD.out, chkG_twice (r := (K.data.toList, V.data.toList)) hc hls] at h; exact h
            rw [hls, Bool.not_false] at hle
            clear hc hls
            go_wp2_with fail
            refine (HC.out _).mono ?_; rintro e w1 ⟨rfl, hb⟩
            have HW1 := Lib.hid (hB1.trans (hb.mono hB1.size))
            obtain ⟨⟨c0, c1⟩, -⟩ := blk2 (hb1.below hb hb1.lt)
            clear hb1 hB1 hb e0 e1
            go_wp2_with fail
            go_ret
            exact ⟨by rw [← HX.out]; rfl, HW1.out⟩
          · have HX : Hid (chkG K.data.toList (l.drop (k + 1)) = R) := by
              have h := HP.out
              rw [HD.out, chkG_go (r := (K.data.toList, V.data.toList)) hc hls] at h; exact h
            rw [hls, Bool.not_true] at hle
            clear hc hls
            go_wp2_with fail
            refine (HC.out _).mono ?_; rintro e w1 ⟨rfl, hb⟩
            have HW1 := Lib.hid (hB1.trans (hb.mono hB1.size))
            obtain ⟨⟨c0, c1⟩, -⟩ := blk2 (hb1.below hb hb1.lt)
            clear hb1 hB1 hb e0 e1
            go_wp2_with fail
            go_roundw
            case rel => exact ⟨k + 1, _, by go_num, rfl, by omega, HX, HW1.out⟩
            case measure => simp [intOf]; omega
        · have HX : Hid (chkR K.data.toList V.data.toList = R) := by
            have h := HP.out
            rw [HD.out, chkG_err hc] at h; exact h
          rw [HX.out] at HC hc
          have tc : (R != 0) = true := by simpa using hc
          clear hc
          go_wp2_with fail
          refine (HC.out _).mono ?_; rintro e w1 ⟨rfl, hb⟩
          have HW1 := Lib.hid (hB1.trans (hb.mono hB1.size))
          clear hb1 hB1 hb e0 e1
          go_wp2_with fail
          go_ret
          exact ⟨rfl, HW1.out⟩
      · obtain rfl : k = n := by omega
        have HX : Hid (R = 0) := by
          have h := HP.out
          rw [List.drop_of_length_le (by rw [HN.out]; omega)] at h; exact h.symm
        have hx := HX.out
        subst hx
        go_wp2_with fail
        go_ret
        exact ⟨rfl, HB.out⟩
end Go.Proofs.YtilofjaigpngoaaDoor
