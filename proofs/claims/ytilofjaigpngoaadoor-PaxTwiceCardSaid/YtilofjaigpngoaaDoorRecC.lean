/- The reference's text of a record. -/
import Derived.Test.YtilofjaigpngoaaDoorRecB
set_option linter.unusedVariables false
set_option maxRecDepth 100000
namespace Go.Proofs.YtilofjaigpngoaaDoor
open Go.RowKit
open Go.OpenShut
/-- the record's own block, the table of powers, nothing elder turned -/
def TxS (w : World) (k v : ByteArray) (W : World) : Prop := Blk W w.heap.size 35 #[.string k, .string v] ∧ Tab W ∧ Below w.heap.size w W
theorem TxS.c0 {w W : World} {k v : ByteArray} (h : TxS w k v W) : W.cell? ⟨w.heap.size, 0, none⟩ = some (.string k) := (blk2 h.1).1.1
theorem TxS.c1 {w W : World} {k v : ByteArray} (h : TxS w k v W) : W.cell? ⟨w.heap.size, 1, none⟩ = some (.string v) := (blk2 h.1).1.2
theorem TxS.drew_ {w W : World} {k v : ByteArray} (h : TxS w k v W) : TxS w k v W.drew := ⟨h.1.drew_, h.2.1.below (Below.drew (Below.refl _ _)), h.2.2.drew⟩
theorem TxS.below {w W W' : World} {k v : ByteArray} (h : TxS w k v W) (hb : Below W.heap.size W W') : TxS w k v W' :=
  ⟨h.1.below hb h.1.lt, h.2.1.below hb, h.2.2.trans (hb.mono (Nat.le_of_lt h.1.lt))⟩
theorem rtext_cat (n : Nat) (k v : ByteArray) : bs (Lib.decDigits n) ++ ⟨#[32]⟩ ++ k ++ ⟨#[61]⟩ ++ v ++ ⟨#[10]⟩ = bs (Lib.decDigits n ++ recT k.data.toList v.data.toList) := by
  apply bs_ext
  simp [ByteArray.data_append, recT, bs]
structure Sums5 (D k v R A1 A2 A3 A4 : ByteArray) : Prop where
  e1 : D ++ ⟨#[32]⟩ = A1
  e2 : A1 ++ k = A2
  e3 : A2 ++ ⟨#[61]⟩ = A3
  e4 : A3 ++ v = A4
  e5 : A4 ++ ⟨#[10]⟩ = R
theorem sums5_of (n : Nat) (k v : ByteArray) : ∃ A1 A2 A3 A4, Sums5 (bs (Lib.decDigits n)) k v (bs (Lib.decDigits n ++ recT k.data.toList v.data.toList)) A1 A2 A3 A4 :=
  ⟨_, _, _, _, rfl, rfl, rfl, rfl, rtext_cat n k v⟩
set_option maxHeartbeats 1000000 in
theorem rRecText_any (k v : ByteArray) (w : World) (T : Tab w) (hk : k.size ≤ maxLen) (hv : v.size ≤ maxLen) :
    Calls Tryd.prog 25 #[recV k v] w fun e w' => e = .returned (.tuple #[.string (recW k.data.toList v.data.toList).1, .int .i64 (recW k.data.toList v.data.toList).2]) ∧ Below w.heap.size w w' := by
  have HC := Lib.hid fun W => rRecFault_any k v W hk hv
  obtain ⟨c, hc⟩ : ∃ c, chkR k.data.toList v.data.toList = c := ⟨_, rfl⟩
  rw [hc] at HC
  unfold recV at HC ⊢
  unfold maxLen at hk hv
  by_cases h0 : c = 0
  · subst h0
    obtain ⟨hks, hvs⟩ := chkR_le hc
    rw [recW_ok hc]
    have hb := recN_bd (k.size + v.size + 3)
    have HLst := Lib.hid fun m hm => recN_least (k.size + v.size + 3) m (by omega) hm
    have HLen := Lib.hid (recN_len (k.size + v.size + 3) (by omega))
    obtain ⟨X, HX⟩ := hid_name (bs (recL k.data.toList v.data.toList))
    have HXd : Hid (bs (Lib.decDigits (recN (k.size + v.size + 3)) ++ recT k.data.toList v.data.toList) = X) := by
      unfold Hid; rw [← HX.out, recL, size_list, size_list]
    rw [HX.out]
    obtain ⟨N, HN⟩ := hid_name (recN (k.size + v.size + 3))
    rw [HN.out] at hb HLst HLen HXd
    have hN : N ≤ 600 := by omega
    have hN1 : 1 ≤ N := by omega
    have HRT : Hid ((recT k.data.toList v.data.toList).length = k.size + v.size + 3) := by unfold Hid; rw [recT_len, size_list, size_list]
    clear hc hb
    go_enter Tryd.func25, Tryd.ntmps25
    go_wp2_with fail
    refine (HC.out _).mono ?_; rintro e w1 ⟨rfl, hb1⟩
    have HS : TxS w k v w1 := by
      have h : Below w.heap.size w w1 := (((Below.refl w.heap.size w).alloc (Nat.le_refl _) _).trans (hb1.mono (by simp)))
      exact ⟨Blk.below (Blk.new w 35 #[.string k, .string v]) hb1 (by simp), T.below h, h⟩
    clear hb1
    go_wp2_with fail
    go_loopg [5, 6] (N - 1) (fun g s5 s6 wx => ∃ n : Nat, s5 = .int .i64 n ∧ n + g = N ∧ 1 ≤ n ∧ TxS w k v wx)
    case atStart => exact ⟨1, rfl, by omega, Nat.le_refl _, HS⟩
    case round =>
      obtain ⟨n, rfl, hg, h1, hS⟩ := hrel
      have HI := Lib.hid fun W (hW : TxS w k v W) => Itoa_nat n W hW.2.1 (by omega)
      have hDs : (bs (Lib.decDigits n)).size ≤ 3 := by rw [dec_len]; exact nDig_le3 (by omega)
      have HDl := Lib.hid (dec_len n)
      obtain ⟨A1, A2, A3, A4, hSm⟩ := sums5_of n k v
      obtain ⟨R, HR⟩ := hid_name (bs (Lib.decDigits n ++ recT k.data.toList v.data.toList))
      have HRs : Hid (R.size = Lib.nDigits n + (k.size + v.size + 3)) := by unfold Hid; rw [← HR.out, bs_size, List.length_append, Lib.decDigits_length, HRT.out]
      obtain ⟨D, HD⟩ := hid_name (bs (Lib.decDigits n))
      rw [HD.out] at HI hDs hSm HDl
      rw [HR.out] at hSm
      have z1 : A1.size = D.size + 1 := by rw [← hSm.e1, ByteArray.size_append]; rfl
      have z2 : A2.size = D.size + k.size + 1 := by rw [← hSm.e2, ByteArray.size_append, z1]; omega
      have z3 : A3.size = D.size + k.size + 2 := by rw [← hSm.e3, ByteArray.size_append, z2]; rfl
      have z4 : A4.size = D.size + k.size + v.size + 2 := by rw [← hSm.e4, ByteArray.size_append, z3]; omega
      have p1 := add_named hSm.e1 (by show _ + 1 ≤ _; omega)
      have p2 := add_named hSm.e2 (by omega)
      have p3 := add_named hSm.e3 (by show _ + 1 ≤ _; omega)
      have p4 := add_named hSm.e4 (by omega)
      have p5 := add_named hSm.e5 (by show _ + 1 ≤ _; omega)
      have r0 : ∀ W : World, TxS w k v W → W.cell? ⟨w.heap.size, 0, none⟩ = some (.string k) := fun W h => h.c0
      have r1 : ∀ W : World, TxS w k v W → W.cell? ⟨w.heap.size, 1, none⟩ = some (.string v) := fun W h => h.c1
      have hRl : R.size ≤ 1000 := by have h1 := HRs.out; have h2 := HDl.out; omega
      clear z1 z2 z3 z4 hSm
      go_upto_region 6 with fail
      go_cut [6] (fun s6 wx => s6 = .string R ∧ TxS w k v wx)
      case first =>
        go_region_held3 (fun W => TxS w k v W)
          (first
            | (with_reducible assumption)
            | (with_reducible refine TxS.drew_ ?_; with_reducible assumption)
            | (with_reducible exact TxS.below (by with_reducible assumption) (by with_reducible assumption)))
          (first | (go_at_call 28; refine (HI.out _ (by first | with_reducible assumption | with_reducible exact TxS.drew_ (by with_reducible assumption))).mono ?_; rintro e w2 ⟨rfl, hb2⟩))
        all_goals
          go_wp2_with fail
          go_meet
          refine ⟨rfl, ?_⟩
          first
            | with_reducible assumption
            | with_reducible exact TxS.below (by with_reducible assumption) (by with_reducible assumption)
            | with_reducible exact TxS.below (TxS.drew_ (by with_reducible assumption)) (by with_reducible assumption)
      case rest =>
        obtain ⟨rfl, hS2⟩ := hcut
        clear p1 p2 p3 p4 p5 r0 r1
        by_cases hn : n = N
        · subst hn
          have he : ((R.size : Int) == (n : Int)) = true := by have := HRs.out; have := HLen.out; rw [beq_iff_eq]; omega
          have HRX : Hid (R = X) := by unfold Hid; rw [← HR.out, ← HXd.out]
          go_wp2_with fail
          go_ret2
          exact ⟨ret_strint2 HRX.out rfl, hS2.2.2⟩
        · have he : ((R.size : Int) == (n : Int)) = false := by have h1 := HRs.out; have h2 := HLst.out n (by omega); rw [beq_eq_false_iff_ne]; omega
          go_wp2_with fail
          go_roundg (N - (n + 1))
          case measure => omega
          case rel => exact ⟨n + 1, by go_num, by omega, by omega, hS2⟩
  · have hw := recW_no (k := k.data.toList) (v := v.data.toList) (by rw [hc]; exact h0)
    rw [hw, hc]
    have hne : (c != 0) = true := by simpa using h0
    clear hw hc h0
    go_enter Tryd.func25, Tryd.ntmps25
    go_wp2_with fail
    refine (HC.out _).mono ?_; rintro e w1 ⟨rfl, hb1⟩
    have HB := Lib.hid (((Below.refl w.heap.size w).alloc (Nat.le_refl _) _).trans (hb1.mono (by simp)))
    clear hb1
    go_wp2_with fail
    go_ret2
    exact ⟨rfl, HB.out⟩
end Go.Proofs.YtilofjaigpngoaaDoor
