/- The place of a path, by halving. -/
import Derived.Test.YtggbjpjmedkjeaaGreatDoorTrgD
import Derived.Test.YtggbjpjmedkjeaaGreatDoorTrgF
import Derived.Deep.DeepCutAuto
set_option linter.unusedVariables false
set_option maxRecDepth 100000
namespace Go.Proofs.YtggbjpjmedkjeaaGreatDoor
open Go.RowKit
open Go.OpenShut
theorem put1_any (x : NodeV) (D : Option Addr) (c : Nat) (s : ByteArray) (hx : x.path.length ≤ 400) (hs : s.size ≤ maxLen) (w : World) :
    Calls Tryz.prog 38 #[.agg (nodC x D c).toArray, .string s] w fun e w' => e = .returned (.int .i64 (pcmp x.path s.data.toList)) ∧ Below w.heap.size w w' := by
  have HC := Lib.hid fun W => (Compare_any (bs x.path) s W (by rw [bs_size]; unfold maxLen; omega) hs)
  rw [bs_list] at HC
  generalize pcmp x.path s.data.toList = r at *
  obtain ⟨path, kind, same, target, ⟨m0, m1, m2, m3, m4, m5, m6⟩, data⟩ := x
  unfold nodC
  simp only at HC ⊢
  obtain ⟨P, hP⟩ := hid_name (bs path)
  rw [hP.out] at HC ⊢
  clear hP hs hx
  have HW := Lib.hid fun o => belowA (Below.refl w.heap.size w) o
  go_enter Tryz.func38, Tryz.ntmps38
  go_wp2_with fail
  refine (HC.out _).mono ?_; rintro e w1 ⟨rfl, q, rfl⟩
  go_wp2_with fail
  go_ret
  exact ⟨rfl, below_drewN (HW.out _) q⟩
def LtAll (l : List NodeV) (S : List UInt8) (i : Nat) : Prop := ∀ k (hk : k < l.length), k < i → pcmp l[k].path S < 0
def GeAll (l : List NodeV) (S : List UInt8) (j : Nat) : Prop := ∀ k (hk : k < l.length), j ≤ k → ¬ pcmp l[k].path S < 0
theorem LtAll.next {l : List NodeV} (hr : Rises l) {S : List UInt8} {h : Nat} (hk : h < l.length) (hl : pcmp l[h].path S < 0) : LtAll l S (h + 1) := fun k hk2 hkh => less_ahead hr k h hk (by omega) hl
theorem GeAll.next {l : List NodeV} (hr : Rises l) {S : List UInt8} {h : Nat} (hk : h < l.length) (hl : ¬ pcmp l[h].path S < 0) : GeAll l S h := fun k hk2 hkh => more_behind hr h k hk2 hkh hl
set_option maxHeartbeats 4000000 in
theorem BSearch_any (A : Option Addr) (n c : Nat) (l : List NodeV) (s : ByteArray) (hn : l.length = n) (hm : n ≤ 1000) (hr : Rises l) (hp : ∀ x ∈ l, x.path.length ≤ 400) (hs : s.size ≤ maxLen) (w : World) (hA : NodesAt w A l) :
    Calls Tryz.prog 37 #[.slice A n c, .string s, .func (.func 38) #[] #[]] w fun e w' => ∃ (i : Nat) (b : Bool), e = .returned (.tuple #[.int .i64 i, .bool b]) ∧ LowAt l s.data.toList i ∧ (b = if hi : i < l.length then decide (pcmp l[i].path s.data.toList = 0) else false) ∧ Below w.heap.size w w' := by
  have ef : ∀ args w, (callFunc 38 args).run Tryz.prog w = .ok (.enter 38 args) w := enters_of Tryz.func38 (by kernel_rfl) rfl
  have HN := Lib.hid hn
  have HA := Lib.hid hA
  have HR := Lib.hid hr
  have HF := Lib.hid fun x hx D c W => put1_any x D c s (hp x hx) hs W
  obtain ⟨S, hS⟩ := hid_name s.data.toList
  rw [hS.out] at HF ⊢
  clear hn hA hr hp hs hS
  go_enter Tryz.func37, Tryz.ntmps37
  go_wp2_with fail
  go_loopw [9, 10] (fun iv jv wr => ∃ i j : Nat, iv = .int .i64 i ∧ jv = .int .i64 j ∧ i ≤ j ∧ j ≤ n ∧ Hid (LtAll l S i) ∧ Hid (GeAll l S j) ∧ Hid (Below w.heap.size w wr)) (fun iv jv _ => (intOf jv).toNat - (intOf iv).toNat)
  case atStart => exact ⟨0, n, rfl, rfl, Nat.zero_le _, Nat.le_refl _, fun k hk h => by omega, fun k hk h => by have := HN.out; omega, Below.refl _ _⟩
  case round =>
    obtain ⟨i, j, rfl, rfl, hij, hjn, HL, HG, HB⟩ := hrel
    by_cases hlt : i < j
    · obtain ⟨h, hh⟩ : ∃ h, h = (i + j) / 2 := ⟨_, rfl⟩
      have hih : i ≤ h := by omega
      have hhj : h < j := by omega
      have hk1 : h < l.length := by rw [HN.out]; omega
      have hH : ((i : Int) + (j : Int)) / 2 = (h : Int) := by omega
      obtain ⟨b, o, D, cc, rfl, c0, c1, c2', c3, ⟨c4, c5, c6, c7, c8, c9, cA⟩, cB, -, hD⟩ := (HA.out.below HB.out).cells h hk1
      have HC := Lib.hid (HF.out l[h] (List.getElem_mem hk1) D cc wr)
      have HL1 := Lib.hid fun hl => LtAll.next HR.out (S := S) hk1 hl
      have HG1 := Lib.hid fun hl => GeAll.next HR.out (S := S) hk1 hl
      generalize hx : l[h] = x at *
      obtain ⟨q, hq⟩ : ∃ q, q = pcmp x.path S := ⟨_, rfl⟩
      rw [← hq] at HC HL1 HG1
      unfold nodC at HC
      have hhn : h < n := by omega
      clear hx hD hq hh hk1
      go_upto_region 5 with fail
      try rw [hH]
      clear hH
      by_cases hq0 : q < 0
      · have HL2 := Lib.hid (HL1.out hq0)
        clear HL1 HG1
        go_wp2_with fail
        refine HC.out.mono ?_; rintro e w1 ⟨rfl, hb⟩
        have HB1 := Lib.hid (HB.out.trans (hb.mono HB.out.size))
        clear hb c0 c1 c2' c3 c4 c5 c6 c7 c8 c9 cA cB
        go_wp2_with fail
        go_roundw
        case rel => exact ⟨h + 1, j, by go_num, rfl, by omega, hjn, HL2, HG, HB1⟩
        case measure => simp [intOf]; omega
      · have HG2 := Lib.hid (HG1.out hq0)
        clear HL1 HG1
        go_wp2_with fail
        refine HC.out.mono ?_; rintro e w1 ⟨rfl, hb⟩
        have HB1 := Lib.hid (HB.out.trans (hb.mono HB.out.size))
        clear hb c0 c1 c2' c3 c4 c5 c6 c7 c8 c9 cA cB
        go_wp2_with fail
        go_roundw
        case rel => exact ⟨i, h, rfl, rfl, by omega, by omega, HL, HG2, HB1⟩
        case measure => simp [intOf]; omega
    · obtain rfl : i = j := by omega
      have HLo := Lib.hid (show LowAt l S i from ⟨by rw [HN.out]; exact hjn, HL.out, HG.out⟩)
      by_cases hin : i < n
      · have hk1 : i < l.length := by rw [HN.out]; omega
        obtain ⟨b, o, D, cc, rfl, c0, c1, c2', c3, ⟨c4, c5, c6, c7, c8, c9, cA⟩, cB, -, hD⟩ := (HA.out.below HB.out).cells i hk1
        have HC := Lib.hid (HF.out l[i] (List.getElem_mem hk1) D cc wr)
        have HV : Hid (decide (pcmp l[i].path S = 0) = if hi : i < l.length then decide (pcmp l[i].path S = 0) else false) := by unfold Hid; rw [dif_pos hk1]
        generalize hx : l[i] = x at *
        obtain ⟨q, hq⟩ : ∃ q, q = pcmp x.path S := ⟨_, rfl⟩
        rw [← hq] at HC HV
        unfold nodC at HC
        clear hx hD hq
        go_wp2_with fail
        refine HC.out.mono ?_; rintro e w1 ⟨rfl, hb⟩
        have HB1 := Lib.hid (HB.out.trans (hb.mono HB.out.size))
        clear hb c0 c1 c2' c3 c4 c5 c6 c7 c8 c9 cA cB
        go_wp2_with fail
        go_ret2
        exact ⟨i, _, rfl, HLo.out, HV.out, HB1.out⟩
      · have HV : Hid (false = if hi : i < l.length then decide (pcmp l[i].path S = 0) else false) := by unfold Hid; rw [dif_neg (by rw [HN.out]; exact hin)]
        go_wp2_with fail
        go_ret2
        exact ⟨i, false, rfl, HLo.out, HV.out, HB.out⟩
end Go.Proofs.YtggbjpjmedkjeaaGreatDoor
