/- The property TreeOwn. -/
import Derived.Test.YtggbjpjmedkjeaaGreatDoorOwnA
import Derived.Deep.DeepCutAuto
set_option linter.unusedVariables false
set_option maxRecDepth 100000
namespace Go.Proofs.YtggbjpjmedkjeaaGreatDoor
open Go.RowKit
open Go.OpenShut
set_option maxHeartbeats 16000000 in
theorem TreeOwn_walk (A0 : Option Addr) (n0 c0 : Nat) (rs0 : List RawV) (a1 : Int) (hn0 : rs0.length = n0) (hm0 : n0 ≤ 140737488355328) (hf0 : ∀ r ∈ rs0, r.wf) (w1 : (Lit.int .i64 a1).wf = true) (w : World) (hr0 : RawsAt w A0 rs0) :
    Calls Tryz.prog 7 #[.slice A0 n0 c0, .int .i64 a1] w fun e w' => e = .returned (.bool true) ∧ Below w.heap.size w w' := by
  have HT := Lib.hid fun W h => drawn_any A0 n0 c0 rs0 hn0 hm0 hf0 20 (by decide) W h
  have HRaw := Lib.hid hr0
  clear hn0 hm0 hf0 w1 hr0
  go_enter Tryz.func7, Tryz.ntmps7
  go_wp2_with fail
  refine (HT.out _ HRaw.out).mono ?_; rintro e wa ⟨l, T, n, d, rfl, hl, hpm, hs, hat, h20, hsd, hsz, hb⟩
  have HL := Lib.hid hl
  have HS := Lib.hid hs
  have HSD := Lib.hid hsd
  have HBa := Lib.hid hb
  have HA := Lib.hid hat
  have HPM := Lib.hid hpm
  have hcap := hs.1
  have hmx := hs.2.1
  unfold maxLen at hmx
  clear hl hpm hs hat hsd hsz hb
  go_wp2_with fail
  refine (HT.out _ (HRaw.out.below HBa.out)).mono ?_; rintro e wb ⟨l2, T2, n2, d2, rfl, hl2, hpm2, hs2, hat2, h20b, hsd2, hsz2, hb⟩
  have HBb := Lib.hid (HBa.out.trans (hb.mono HBa.out.size))
  have HAb := Lib.hid (HA.out.below hb)
  obtain rfl : l = l2 := drawn_one HPM.out hpm2 HSD.out hsd2
  obtain rfl : n = n2 := by rw [← HL.out, ← hl2]
  have HA2 := Lib.hid hat2
  have HEnd : Hid (∀ x ∈ l, endOk x.path = true) := fun x hx => drawn_end 20 rs0 x (HPM.out.mem_iff.1 hx)
  have hzz : ∀ x ∈ l, x.path ≠ zzN.path := fun x hx => end_zz (HEnd.out x hx)
  have hpl := put_len HSD.out.rises hzz
  rw [HL.out] at hpl
  have HPT := Lib.hid (putT_ok (sound_tree HSD.out (by rw [HL.out]; omega)) (sound_tree (own_put HSD.out hzz) (by omega)))
  have HNo : Hid (remT l [110, 111, 110, 101] = ([], 5)) := remT_none (sound_tree HSD.out (by rw [HL.out]; omega)) (findL_none.2 fun x hx => end_none (HEnd.out x hx))
  clear hb hpm2 hs2 hat2 hsd2 hsz2 hl2 HA HT hzz
  have hcv := Go.Joins.run_convert_bytes_const_at (P := Tryz.prog) wb 30 5 #[.int .u8 100, .int .u8 97, .int .u8 116, .int .u8 97] 4 4 wb.heap.size rfl Tryz.underlying30 Tryz.underlying5
  have HDb : Hid (BytsAt (wb.alloc (.cells #[.int .u8 100, .int .u8 97, .int .u8 116, .int .u8 97] 5 (4, 5))) (some ⟨wb.heap.size, 0, none⟩) [100, 97, 116, 97]) := fun j hj => by
    match j, hj with
    | 0, _ => exact ⟨wb.heap.size, 0, rfl, (World.cell?_alloc_mark wb _ _ _ 0).trans rfl⟩
    | 1, _ => exact ⟨wb.heap.size, 0, rfl, (World.cell?_alloc_mark wb _ _ _ 1).trans rfl⟩
    | 2, _ => exact ⟨wb.heap.size, 0, rfl, (World.cell?_alloc_mark wb _ _ _ 2).trans rfl⟩
    | 3, _ => exact ⟨wb.heap.size, 0, rfl, (World.cell?_alloc_mark wb _ _ _ 3).trans rfl⟩
  go_upto_region 3 with fail
  have hb1 := belowA (Below.refl wb.heap.size wb) (.cells #[.int .u8 100, .int .u8 97, .int .u8 116, .int .u8 97] 5 (4, 5))
  have hb2 := belowA (Below.refl (wb.alloc (.cells #[.int .u8 100, .int .u8 97, .int .u8 116, .int .u8 97] 5 (4, 5))).heap.size (wb.alloc (.cells #[.int .u8 100, .int .u8 97, .int .u8 116, .int .u8 97] 5 (4, 5)))) (.cells #[.string ⟨#[122, 122]⟩, .int .i64 1, .int .i64 0, .string ⟨#[]⟩, .int .i64 0, .int .i64 0, .int .i64 0, .string ⟨#[]⟩, .string ⟨#[]⟩, .int .i64 0, .int .i64 0, .slice (some ⟨wb.heap.size, 0, none⟩) 4 4] 32)
  have HBl3 := Lib.hid (Blk.new (wb.alloc (.cells #[.int .u8 100, .int .u8 97, .int .u8 116, .int .u8 97] 5 (4, 5))) 32 #[.string ⟨#[122, 122]⟩, .int .i64 1, .int .i64 0, .string ⟨#[]⟩, .int .i64 0, .int .i64 0, .int .i64 0, .string ⟨#[]⟩, .string ⟨#[]⟩, .int .i64 0, .int .i64 0, .slice (some ⟨wb.heap.size, 0, none⟩) 4 4])
  have HD3 := Lib.hid (HDb.out.below hb2)
  have HB3 := Lib.hid (HBb.out.trans ((hb1.trans (hb2.mono hb1.size)).mono HBb.out.size))
  have HTa := Lib.hid (HAb.out.below (hb1.trans (hb2.mono hb1.size)))
  have HTb := Lib.hid (HA2.out.below (hb1.trans (hb2.mono hb1.size)))
  clear hb1 hb2 hcv HDb
  rw [hszA] at HBl3
  generalize hw3 : World.alloc _ _ = w3 at HBl3 HD3 HB3 HTa HTb ⊢
  have HPut := Lib.hid (Put_any T n d l HL.out HS.out (fun x hx => nodE_sz (HSD.out.node x hx)) zzN (some ⟨wb.heap.size, 0, none⟩) 4 (nodE_sz zz_nod) ⟨by decide, by decide, fun e => by cases e⟩ w3 HTa.out HD3.out)
  rw [HPT.out] at HPut
  have HPut2 : Hid (Calls Tryz.prog 11 #[.slice T n d, .agg #[.string ⟨#[122, 122]⟩, .int .i64 1, .int .i64 0, .string ⟨#[]⟩, .int .i64 0, .int .i64 0, .int .i64 0, .string ⟨#[]⟩, .string ⟨#[]⟩, .int .i64 0, .int .i64 0, .slice (some ⟨wb.heap.size, 0, none⟩) 4 4]] w3 fun e w' => ∃ v xs, e = .returned (.tuple #[v, .int .i64 0]) ∧ xs.map (·.1) = putL l zzN ∧ OwnN w' w3.heap.size v xs ∧ Below w3.heap.size w3 w') := HPut
  obtain ⟨⟨q0, q1, q2, q3, q4, q5, q6, q7, q8, q9, qA, qB⟩, -⟩ := blk12 HBl3.out
  clear hw3 HPut HAb HA2 HBb
  go_wp2_with fail
  refine HPut2.out.mono ?_; rintro e w4 ⟨v4, xs4, rfl, hx4, hO4, hb⟩
  have hl4 : xs4.length = n + 1 := by rw [← hpl, ← hx4, List.length_map]
  obtain ⟨g, cap, rfl, hgB, hgl, hcp1, hcp2⟩ := hO4.1.row (by omega)
  rw [hl4] at hO4 hcp1 ⊢
  obtain ⟨n1, hn1⟩ : ∃ n1, n1 = n + 1 := ⟨_, rfl⟩
  have hadd : IntKind.i64.wrap ((n : Int) + 1) = (n1 : Int) := by rw [IntKind.wrap_i64]; omega
  have hn1c : ((n + 1 : Nat) : Int) = (n1 : Int) := by rw [hn1]
  rw [← hn1] at hO4 hl4 hcp1 ⊢
  have HXS := Lib.hid (OwnN.xs hO4 hl4 hb)
  unfold maxLen at hcp2
  have hn1b : n1 ≤ 21 := by omega
  clear hb hx4 hO4 hl4 q0 q1 q2 q3 q4 q5 q6 q7 q8 q9 qA qB hn1c
  go_wp2_with fail
  go_loopw [42] (fun iv wr => ∃ (k : Nat) (xs : List NodP), k ≤ n1 ∧ iv = .int .i64 k ∧ Hid (XS w3 wr w3.heap.size g cap n1 xs)) (fun iv _ => n1 - (intOf iv).toNat)
  case atStart => exact ⟨0, _, Nat.zero_le _, rfl, HXS.out⟩
  case round =>
    obtain ⟨k, xs, hk, rfl, HX⟩ := hrel
    by_cases hlt : k < n1
    · obtain ⟨wo, hwo⟩ : ∃ wo, wo = wr := ⟨_, rfl⟩
      subst hwo
      have hk1 : k < xs.length := by rw [HX.out.2.1]; exact hlt
      obtain ⟨Ad, cd, hform⟩ := HX.out.form hk1
      obtain ⟨⟨-, -, -, -, -, -, -, -, -, -, -, x11⟩, -⟩ := HX.out.1.cells12 HX.out.2.1 k hk1
      rw [hform] at x11
      have HB := Lib.hid fun W j (h : XS w3 W w3.heap.size g cap n1 xs) (hj : j < xs[k].1.data.length) => h.byte hk1 hj
      have HPk := Lib.hid fun W (h : XS w3 W w3.heap.size g cap n1 xs) gd m c (hv : xs[k].2 = .slice (some ⟨gd, 0, none⟩) m c) j b => h.poke hk1 hv j b
      have HPa := Lib.hid fun W (h : XS w3 W w3.heap.size g cap n1 xs) => h.path hk1 [63]
      have HC := Lib.hid fun W (h : XS w3 W w3.heap.size g cap n1 xs) => h.1.cells12 h.2.1 k hk1
      obtain ⟨m, hm⟩ : ∃ m, m = xs[k].1.data.length := ⟨_, rfl⟩
      rw [← hm] at x11
      simp only [← hm] at HB
      clear hform hm
      go_wp2_with fail
      go_loopw [51] (fun iv wr => ∃ (j : Nat), j ≤ m ∧ iv = .int .i64 j ∧ Hid (XS w3 wr w3.heap.size g cap n1 xs)) (fun iv _ => m - (intOf iv).toNat)
      case atStart => exact ⟨0, Nat.zero_le _, rfl, HX.out⟩
      case round =>
        obtain ⟨j, hj, rfl, HX2⟩ := hrel
        clear x11
        by_cases hjm : j < m
        · obtain ⟨gd, cd2, c, hv, hcl, hfr, hc1, hc2⟩ := HB.out _ j HX2.out hjm
          unfold maxLen at hc2
          obtain ⟨⟨-, -, -, -, -, -, -, -, -, -, -, x11⟩, -⟩ := HC.out _ HX2.out
          rw [hv] at x11
          obtain ⟨c', hxor⟩ := xor_u8 c
          have HX3 := Lib.hid (HPk.out _ HX2.out gd m cd2 hv j c')
          clear hv
          go_wp2_with fail
          go_roundw
          case rel => exact ⟨j + 1, by omega, by go_num, HX3⟩
          case measure => simp [intOf]; omega
        · obtain rfl : j = m := by omega
          obtain ⟨⟨x0, -⟩, f0, -⟩ := HC.out _ HX2.out
          have HX3 := Lib.hid (HPa.out _ HX2.out)
          go_wp2_with fail
          go_roundw
          case rel => exact ⟨k + 1, _, by omega, by go_num, HX3⟩
          case measure => simp [intOf]; omega
    · obtain rfl : k = n1 := by omega
      have HBz := Lib.hid HX.out.2.2.2.1
      clear hlt
      have HB4 := Lib.hid HBz.out
      have HRm := Lib.hid (Remove_any T n d l ⟨#[110, 111, 110, 101]⟩ HL.out (by omega) HS.out (fun x hx => nodE_sz (HSD.out.node x hx)) (by decide) wr (HTa.out.below HB4.out))
      rw [show (⟨#[110, 111, 110, 101]⟩ : ByteArray).data.toList = [110, 111, 110, 101] from rfl, HNo.out] at HRm
      go_wp2_with fail
      refine HRm.out.mono ?_; rintro e wx ⟨vy, xsy, rfl, hxy, hOy, hb⟩
      have HB5 := Lib.hid (HB4.out.trans (hb.mono HB4.out.size))
      have hly : xsy = [] := List.map_eq_nil_iff.1 hxy
      subst hly
      obtain ⟨Ay, cy, rfl, -, -⟩ := hOy.at
      have HCp := Lib.hid (Copy_any T n d l HL.out (by omega) (fun x hx => nodE_sz (HSD.out.node x hx)) wx (HTa.out.below HB5.out))
      clear hb hxy hOy
      go_wp2_with fail
      refine HCp.out.mono ?_; rintro e wy ⟨vz, xsz, rfl, hxz, hOz, hb⟩
      have HBy := Lib.hid (HB5.out.trans (hb.mono HB5.out.size))
      have hlz : xsz.length = n := by rw [← HL.out, ← hxz, List.length_map]
      by_cases hn0 : n = 0
      · obtain ⟨Az, cz, rfl, -, -⟩ := hOz.at
        rw [hlz]
        have hzn : ((n : Int) == 0) = true := by simp [hn0]
        subst hn0
        clear hb hxz hOz hlz
        go_wp2_with fail
        go_loopw [79] (fun iv wv => iv = .int .i64 0 ∧ wv = wy) (fun iv _ => 0)
        case atStart => exact ⟨rfl, rfl⟩
        case round =>
          obtain ⟨rfl, hwv⟩ := hrel
          obtain rfl := hwv.symm
          have HBl5 := Lib.hid (HBl3.out.below (HBy.out) HBl3.out.lt)
          have HD5 := Lib.hid (HD3.out.below (HBy.out))
          have HT5 := Lib.hid (HTa.out.below (HBy.out))
          have HU5 := Lib.hid (HTb.out.below (HBy.out))
          have hcs := HD5.out.conv 4 (fun e => by cases e)
          obtain ⟨⟨-, -, -, -, -, -, -, -, -, -, -, qB⟩, -⟩ := blk12 HBl5.out
          have HK := Lib.hid (keepTree_any T T2 0 d 0 d2 l l HL.out HL.out (by omega) (by omega) _ HT5.out HU5.out)
          rw [decide_eq_true rfl] at HK
          have hcs2 : (convert 30 9 (.slice (some ⟨wb.heap.size, 0, none⟩) 4 4)).run Tryz.prog wy = .ok (.string ⟨#[100, 97, 116, 97]⟩) wy := hcs
          clear hcs
          go_wp2_with fail
          refine HK.out.mono ?_; rintro e wK ⟨rfl, hb⟩
          have HBf := Lib.hid ((HB3.out.trans ((HBy.out).mono HB3.out.size)).trans (hb.mono (HB3.out.trans ((HBy.out).mono HB3.out.size)).size))
          clear hb
          go_wp2_with fail
          go_ret
          exact ⟨rfl, HBf.out⟩
      · obtain ⟨g, cap, rfl, hgB, hgl, hcp1, hcp2⟩ := hOz.1.row (by omega)
        rw [hlz] at hOz hcp1 ⊢
        have HXS := Lib.hid (OwnN.xs hOz hlz hb)
        unfold maxLen at hcp2
        clear hb hxz hOz hlz
        go_wp2_with fail
        go_loopw [79] (fun iv wr => ∃ (k : Nat) (xs : List NodP), k ≤ n ∧ iv = .int .i64 k ∧ Hid (XS wx wr wx.heap.size g cap n xs)) (fun iv _ => n - (intOf iv).toNat)
        case atStart => exact ⟨0, _, Nat.zero_le _, rfl, HXS.out⟩
        case round =>
          obtain ⟨k, xs, hk, rfl, HX⟩ := hrel
          by_cases hlt : k < n
          · obtain ⟨wo, hwo⟩ : ∃ wo, wo = wr := ⟨_, rfl⟩
            subst hwo
            have hk1 : k < xs.length := by rw [HX.out.2.1]; exact hlt
            obtain ⟨Ad, cd, hform⟩ := HX.out.form hk1
            obtain ⟨⟨-, -, -, -, -, -, -, -, -, -, -, x11⟩, -⟩ := HX.out.1.cells12 HX.out.2.1 k hk1
            rw [hform] at x11
            have HB := Lib.hid fun W j (h : XS wx W wx.heap.size g cap n xs) (hj : j < xs[k].1.data.length) => h.byte hk1 hj
            have HPk := Lib.hid fun W (h : XS wx W wx.heap.size g cap n xs) gd m c (hv : xs[k].2 = .slice (some ⟨gd, 0, none⟩) m c) j b => h.poke hk1 hv j b
            have HPa := Lib.hid fun W (h : XS wx W wx.heap.size g cap n xs) => h.path hk1 [63]
            have HC := Lib.hid fun W (h : XS wx W wx.heap.size g cap n xs) => h.1.cells12 h.2.1 k hk1
            obtain ⟨m, hm⟩ : ∃ m, m = xs[k].1.data.length := ⟨_, rfl⟩
            rw [← hm] at x11
            simp only [← hm] at HB
            clear hform hm
            go_wp2_with fail
            go_loopw [88] (fun iv wr => ∃ (j : Nat), j ≤ m ∧ iv = .int .i64 j ∧ Hid (XS wx wr wx.heap.size g cap n xs)) (fun iv _ => m - (intOf iv).toNat)
            case atStart => exact ⟨0, Nat.zero_le _, rfl, HX.out⟩
            case round =>
              obtain ⟨j, hj, rfl, HX2⟩ := hrel
              clear x11
              by_cases hjm : j < m
              · obtain ⟨gd, cd2, c, hv, hcl, hfr, hc1, hc2⟩ := HB.out _ j HX2.out hjm
                unfold maxLen at hc2
                obtain ⟨⟨-, -, -, -, -, -, -, -, -, -, -, x11⟩, -⟩ := HC.out _ HX2.out
                rw [hv] at x11
                obtain ⟨c', hxor⟩ := xor_u8 c
                have HX3 := Lib.hid (HPk.out _ HX2.out gd m cd2 hv j c')
                clear hv
                go_wp2_with fail
                go_roundw
                case rel => exact ⟨j + 1, by omega, by go_num, HX3⟩
                case measure => simp [intOf]; omega
              · obtain rfl : j = m := by omega
                go_wp2_with fail
                go_roundw
                case rel => exact ⟨k + 1, xs, by omega, by go_num, HX2⟩
                case measure => simp [intOf]; omega
          · obtain rfl : k = n := by omega
            have HBz := Lib.hid HX.out.2.2.2.1
            clear hlt
            have HBl5 := Lib.hid (HBl3.out.below (HB5.out.trans (HBz.out.mono HB5.out.size)) HBl3.out.lt)
            have HD5 := Lib.hid (HD3.out.below (HB5.out.trans (HBz.out.mono HB5.out.size)))
            have HT5 := Lib.hid (HTa.out.below (HB5.out.trans (HBz.out.mono HB5.out.size)))
            have HU5 := Lib.hid (HTb.out.below (HB5.out.trans (HBz.out.mono HB5.out.size)))
            have hcs := HD5.out.conv 4 (fun e => by cases e)
            obtain ⟨⟨-, -, -, -, -, -, -, -, -, -, -, qB⟩, -⟩ := blk12 HBl5.out
            have HK := Lib.hid (keepTree_any T T2 k d k d2 l l HL.out HL.out (by omega) (by omega) _ HT5.out HU5.out)
            rw [decide_eq_true rfl] at HK
            have hcs2 : (convert 30 9 (.slice (some ⟨wb.heap.size, 0, none⟩) 4 4)).run Tryz.prog wr = .ok (.string ⟨#[100, 97, 116, 97]⟩) wr := hcs
            clear hcs
            go_wp2_with fail
            refine HK.out.mono ?_; rintro e wK ⟨rfl, hb⟩
            have HBf := Lib.hid ((HB3.out.trans ((HB5.out.trans (HBz.out.mono HB5.out.size)).mono HB3.out.size)).trans (hb.mono (HB3.out.trans ((HB5.out.trans (HBz.out.mono HB5.out.size)).mono HB3.out.size)).size))
            clear hb
            go_wp2_with fail
            go_ret
            exact ⟨rfl, HBf.out⟩
end Go.Proofs.YtggbjpjmedkjeaaGreatDoor
