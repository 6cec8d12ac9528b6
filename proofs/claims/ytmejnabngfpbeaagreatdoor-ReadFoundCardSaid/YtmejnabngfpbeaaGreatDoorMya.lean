/- Texts of one kind, in one file: MemX, PaxS, MemYA, MrO, MemYB, MemYC, MemYD, MemYE, MemYF, MemYG. -/
import Derived.Test.YtmejnabngfpbeaaGreatDoorMwt
import Derived.Test.YtmejnabngfpbeaaGreatDoorMgh
import Derived.Test.YtmejnabngfpbeaaGreatDoorCut
import Derived.Test.YtmejnabngfpbeaaGreatDoorFld
import Derived.Deep.RegionHeld3
import Derived.Test.YtmejnabngfpbeaaGreatDoorPxa
import Derived.OwnWalk
import Derived.Test.YtmejnabngfpbeaaGreatDoorMcv
set_option linter.unusedVariables false
set_option maxRecDepth 100000
namespace Go.Proofs.YtmejnabngfpbeaaGreatDoor
open Go.RowKit
open Go.OpenShut
theorem fldR_le (s : List UInt8) (wh : Bool) : (fldR s wh).1.data.toList.length ≤ s.length := by
 unfold fldR
 split
 ·simp
 ·split
  ·simp
  ·simp only [List.length_take]; omega
theorem sl_le (l : List UInt8) (a b : Nat) : (sl l a b).length ≤ l.length := by
 unfold sl
 simp only [List.length_drop, List.length_take]; omega
theorem rdS_le (l : List UInt8) (a b : Nat) (wh : Bool) : (rdS l a b wh).length ≤ l.length := Nat.le_trans (fldR_le _ _) (sl_le _ _ _)
def SmallH (h : HeadV) : Prop := h.name.length ≤ 512 ∧ h.pre.length ≤ 512 ∧ h.link.length ≤ 512 ∧ h.user.length ≤ 512 ∧ h.group.length ≤ 512
theorem smallZ : SmallH headZ := ⟨by decide, by decide, by decide, by decide, by decide⟩
theorem headR_small (l : List UInt8) : SmallH (headR l).1 := by
 unfold headR
 split
 ·exact smallZ
 ·rename_i h
  have h5 : l.length = 512 := by simpa using h
  split
  ·exact smallZ
  ·split
   ·exact smallZ
   ·refine ⟨?_, ?_, ?_, ?_, ?_⟩ <;> exact Nat.le_trans (rdS_le _ _ _ _) (by omega)
theorem firstM_small (b : List UInt8) : SmallH (firstM b).1.1 := by
 unfold firstM
 split
 ·exact smallZ
 ·split
  ·exact smallZ
  ·split
   ·exact smallZ
   ·exact headR_small _
theorem idx_kind (c : UInt8) : Lib.indexByte [48, 53, 50, 49] c + 1 = kindT c := by
 by_cases h1 : c = 48
 ·subst h1; rfl
 by_cases h2 : c = 53
 ·subst h2; rfl
 by_cases h3 : c = 50
 ·subst h3; rfl
 by_cases h4 : c = 49
 ·subst h4; rfl
 unfold kindT
 rw [if_neg h1, if_neg h2, if_neg h3, if_neg h4, indexByte_pos]
 have : hasB c [48, 53, 50, 49] = false := by
  unfold hasB
  simp [Ne.symm h1, Ne.symm h2, Ne.symm h3, Ne.symm h4]
 rw [this]; rfl
theorem kindT_bd (c : UInt8) : 0 ≤ kindT c ∧ kindT c ≤ 4 := by
 unfold kindT
 split
 ·omega
 ·split
  ·omega
  ·split
   ·omega
   ·split <;> omega
theorem keepX {x W W' : World} (h : Below x.heap.size x W) (hb : Below W.heap.size W W') : Below x.heap.size x W' := h.trans (hb.mono h.size)
theorem keepXN {x W : World} (h : Below x.heap.size x W) (o : Obj) : Below x.heap.size x (W.alloc o) := h.alloc h.size o
theorem takF_data (y : EntV) (r : Rc) : (takF y r).data = y.data := by
 unfold takF
 split
 ·rfl
 ·split
  ·rfl
  ·split
   ·rfl
   ·split
    ·rfl
    ·split
     ·rfl
     ·split
      ·rfl
      ·split <;> rfl
theorem fold_data (rs : List Rc) : ∀ (x0 : EntV), (rs.foldl takF x0).data = x0.data := by
 induction rs with
 | nil => exact fun _ => rfl
 | cons r rs ih => exact fun x0 => by rw [List.foldl_cons, ih, takF_data]
theorem bare_entC (h : HeadV) (d : List UInt8) (D : Option Addr) (c : Nat) : (entC (bareF h d) D c).toArray = #[.string (bs (oneV h.pre h.name).1), .int .i64 (kindT h.typ), .string (bs h.link), .int .i64 h.mode, .int .i64 h.uid, .int .i64 h.gid, .string (bs h.user), .string (bs h.group), .int .i64 h.time, .int .i64 0, .slice D d.length c] := rfl
set_option maxHeartbeats 8000000 in
theorem entry_any (h : HeadV) (hs : SmallH h) (D : Option Addr) (c : Nat) (d : List UInt8) (A : Option Addr) (n cl : Nat) (rs : List Rc) (hn : rs.length = n) (hn2 : n ≤ 1000000) (hv : ∀ r ∈ rs, r.2.length ≤ 140737488351232) (w : World) (S : Std w) (hR : RecsAt w A rs) :
  Calls Tryz.prog 51 #[.agg (headC h), .slice D d.length c, .slice A n cl] w fun e w' => e = .returned (.agg (entC (rs.foldl takF (bareF h d)) D c).toArray) ∧ Below w.heap.size w w' := by
 have HBr := Lib.hid (bare_entC h d D c)
 have hix := idx_kind h.typ
 have hkb := kindT_bd h.typ
 obtain ⟨z1, z2, -⟩ := hs
 have HO := Lib.hid fun W => One_any (bs h.pre) (bs h.name) W (by rw [bs_size]; unfold maxLen; omega) (by rw [bs_size]; unfold maxLen; omega)
 rw [bs_list, bs_list] at HO
 have hIx := fun W => IndexByte_any ⟨#[48, 53, 50, 49]⟩ (h.typ.toNat : Int) W
 rw [show ((h.typ.toNat : Int).toNat.toUInt8) = h.typ by simp, show (⟨#[48, 53, 50, 49]⟩ : ByteArray).data.toList = [48, 53, 50, 49] from rfl] at hIx
 have HIx := Lib.hid hIx
 generalize bareF h d = y0 at HBr ⊢
 obtain ⟨n0, n1, n2, n3, n4, n5, n6, n7, n8, n9, nA⟩ := h
 simp only at HBr hix hkb HO HIx
 unfold headC
 simp only
 generalize (oneV n1 n0).1 = pth at HBr HO
 generalize (oneV n1 n0).2 = one at HO
 generalize Lib.indexByte [48, 53, 50, 49] n8 = ix at hix HIx
 generalize kindT n8 = kT at HBr hix hkb
 have hwx : IntKind.i64.wrap (ix + 1) = kT := by rw [hix, IntKind.wrap_i64]; omega
 generalize hdl : d.length = dl at HBr ⊢
 have HRA := Lib.hid hR
 have HV := Lib.hid hv
 have hSs := S
 have hH1 := (Blk.new w 74 #[.string (bs n0), .string (bs n1), .string (bs n2), .int .i64 n3, .int .i64 n4, .int .i64 n5, .int .i64 n6, .int .i64 n7, .int .u8 (n8.toNat : Int), .string (bs n9), .string (bs nA)]).alloc (.cells #[.string ⟨#[]⟩, .int .i64 0, .string ⟨#[]⟩, .int .i64 0, .int .i64 0, .int .i64 0, .string ⟨#[]⟩, .string ⟨#[]⟩, .int .i64 0, .int .i64 0, .slice none 0 0] 34)
 have hZ1 := Blk.new (w.alloc (.cells #[.string (bs n0), .string (bs n1), .string (bs n2), .int .i64 n3, .int .i64 n4, .int .i64 n5, .int .i64 n6, .int .i64 n7, .int .u8 (n8.toNat : Int), .string (bs n9), .string (bs nA)] 74)) 34 #[.string ⟨#[]⟩, .int .i64 0, .string ⟨#[]⟩, .int .i64 0, .int .i64 0, .int .i64 0, .string ⟨#[]⟩, .string ⟨#[]⟩, .int .i64 0, .int .i64 0, .slice none 0 0]
 have hB1 := ((Below.refl w.heap.size w).alloc (Nat.le_refl _) (.cells #[.string (bs n0), .string (bs n1), .string (bs n2), .int .i64 n3, .int .i64 n4, .int .i64 n5, .int .i64 n6, .int .i64 n7, .int .u8 (n8.toNat : Int), .string (bs n9), .string (bs nA)] 74)).alloc (by rw [hszA]; omega) (.cells #[.string ⟨#[]⟩, .int .i64 0, .string ⟨#[]⟩, .int .i64 0, .int .i64 0, .int .i64 0, .string ⟨#[]⟩, .string ⟨#[]⟩, .int .i64 0, .int .i64 0, .slice none 0 0] 34)
 rw [hszA] at hZ1
 clear hR hv hIx hkb hix z1 z2 hdl S
 obtain ⟨yF, HYF⟩ := hid_name (rs.foldl takF y0)
 rw [HYF.out]
 obtain ⟨path, kind, target, ⟨m0, m1, m2, m3, m4, m5, m6⟩, data⟩ := yF
 unfold entC
 simp only
 go_enter Tryz.func51, Tryz.ntmps51
 go_upto_region 1 with fail
 generalize hx1 : (w.alloc (.cells #[.string (bs n0), .string (bs n1), .string (bs n2), .int .i64 n3, .int .i64 n4, .int .i64 n5, .int .i64 n6, .int .i64 n7, .int .u8 (n8.toNat : Int), .string (bs n9), .string (bs nA)] 74)).alloc (.cells #[.string ⟨#[]⟩, .int .i64 0, .string ⟨#[]⟩, .int .i64 0, .int .i64 0, .int .i64 0, .string ⟨#[]⟩, .string ⟨#[]⟩, .int .i64 0, .int .i64 0, .slice none 0 0] 34) = x1 at hH1 hZ1 hB1 ⊢
 have HH1 := Lib.hid hH1
 have HZ1 := Lib.hid hZ1
 have HB1 := Lib.hid hB1
 have HS1 := Lib.hid (hSs.below hB1)
 clear hx1 hH1 hZ1 hB1 hSs
 obtain ⟨gH, hgH⟩ := hid_name w.heap.size
 rw [hgH.out] at HH1 ⊢
 go_cut [7] (fun s wx => ∃ gE, s = .pointer (some ⟨gE, 0, none⟩) ∧ x1.heap.size ≤ gE ∧ Blk wx gE 34 #[.string ⟨#[]⟩, .int .i64 kT, .string (bs n2), .int .i64 0, .int .i64 0, .int .i64 0, .string ⟨#[]⟩, .string ⟨#[]⟩, .int .i64 0, .int .i64 0, .slice D dl c] ∧ Below x1.heap.size x1 wx)
 case first =>
  have r8 : ∀ W : World, Below x1.heap.size x1 W → W.cell? ⟨gH, 8, none⟩ = some (.int .u8 (n8.toNat : Int)) := fun W h => (HH1.out.below h HH1.out.lt).cell 8
  have r2 : ∀ W : World, Below x1.heap.size x1 W → W.cell? ⟨gH, 2, none⟩ = some (.string (bs n2)) := fun W h => (HH1.out.below h HH1.out.lt).cell 2
  have hS := Below.refl x1.heap.size x1
  go_region_held3 (fun W => Below x1.heap.size x1 W)
   (first
    | (with_reducible assumption)
    | (with_reducible refine Below.drew ?_; with_reducible assumption)
    | (with_reducible exact keepXN (by with_reducible assumption) _)
    | (with_reducible exact keepXN (Below.drew (Below.refl _ _)) _)
    | (with_reducible exact Below.drew (keepXN (Below.refl _ _) _))
    | (with_reducible exact keepX (by with_reducible assumption) (by with_reducible assumption)))
   (first
    | (go_at_call 88; refine (HIx.out _).mono ?_; rintro e w9 ⟨rfl, rfl⟩))
  all_goals
   go_wp2_with fail
   go_meet
   exact ⟨_, rfl, Nat.le_refl _, Blk.new _ _ _, by assumption⟩
 case rest =>
  obtain ⟨gE, rfl, hgE, hE2, hB2⟩ := hcut
  rename World => x2
  have hH2 := HH1.out.below hB2 HH1.out.lt
  obtain ⟨⟨q0, q1, q2, q3, q4, q5, q6, q7, q8, q9, qA⟩, -⟩ := blk11 hH2
  obtain ⟨⟨p0, p1, p2, p3, p4, p5, p6, p7, p8, p9, pA⟩, f0, f1, f2, f3, f4, f5, f6, f7, f8, f9, fA⟩ := blk11 hE2
  have hN3 : Blk (((((((x2.setCell ⟨gE, 3, none⟩ (.int .i64 n3)).setCell ⟨gE, 4, none⟩ (.int .i64 n4)).setCell ⟨gE, 5, none⟩ (.int .i64 n5)).setCell ⟨gE, 6, none⟩ (.string (bs n9))).setCell ⟨gE, 7, none⟩ (.string (bs nA))).setCell ⟨gE, 8, none⟩ (.int .i64 n7)).setCell ⟨gE, 9, none⟩ (.int .i64 0)) gE 34 #[.string ⟨#[]⟩, .int .i64 kT, .string (bs n2), .int .i64 n3, .int .i64 n4, .int .i64 n5, .string (bs n9), .string (bs nA), .int .i64 n7, .int .i64 0, .slice D dl c] :=
   ((((((hE2.set_ 3 (.int .i64 n3)).set_ 4 (.int .i64 n4)).set_ 5 (.int .i64 n5)).set_ 6 (.string (bs n9))).set_ 7 (.string (bs nA))).set_ 8 (.int .i64 n7)).set_ 9 (.int .i64 0)
  have hB3 : Below x1.heap.size x1 (((((((x2.setCell ⟨gE, 3, none⟩ (.int .i64 n3)).setCell ⟨gE, 4, none⟩ (.int .i64 n4)).setCell ⟨gE, 5, none⟩ (.int .i64 n5)).setCell ⟨gE, 6, none⟩ (.string (bs n9))).setCell ⟨gE, 7, none⟩ (.string (bs nA))).setCell ⟨gE, 8, none⟩ (.int .i64 n7)).setCell ⟨gE, 9, none⟩ (.int .i64 0)) :=
   ((((((hB2.setCell (p := ⟨gE, 3, none⟩) hgE _).setCell (p := ⟨gE, 4, none⟩) hgE _).setCell (p := ⟨gE, 5, none⟩) hgE _).setCell (p := ⟨gE, 6, none⟩) hgE _).setCell (p := ⟨gE, 7, none⟩) hgE _).setCell (p := ⟨gE, 8, none⟩) hgE _).setCell (p := ⟨gE, 9, none⟩) hgE _
  have HN3 := Lib.hid hN3
  have HB3 := Lib.hid hB3
  have HGE := Lib.hid hgE
  clear hH2 hE2 hB2 hN3 hB3 hgE HIx hwx
  go_upto_region 3 with fail
  generalize (((((((x2.setCell ⟨gE, 3, none⟩ (.int .i64 n3)).setCell ⟨gE, 4, none⟩ (.int .i64 n4)).setCell ⟨gE, 5, none⟩ (.int .i64 n5)).setCell ⟨gE, 6, none⟩ (.string (bs n9))).setCell ⟨gE, 7, none⟩ (.string (bs nA))).setCell ⟨gE, 8, none⟩ (.int .i64 n7)).setCell ⟨gE, 9, none⟩ (.int .i64 0)) = x3 at HN3 HB3 ⊢
  clear q0 q1 q2 q3 q4 q5 q6 q7 q8 q9 qA p0 p1 p2 p3 p4 p5 p6 p7 p8 p9 pA f0 f1 f2 f3 f4 f5 f6 f7 f8 f9 fA
  obtain ⟨⟨q0, q1, -⟩, -⟩ := blk11 (HH1.out.below HB3.out HH1.out.lt)
  go_wp2_with fail
  refine (HO.out _).mono ?_; rintro e x4 ⟨rfl, hb4⟩
  have hN4 := HN3.out.below hb4 HN3.out.lt
  obtain ⟨⟨p0, p1, p2, p3, p4, p5, p6, p7, p8, p9, pA⟩, f0, f1, f2, f3, f4, f5, f6, f7, f8, f9, fA⟩ := blk11 hN4
  have HN5 : Hid (Blk (x4.setCell ⟨gE, 0, none⟩ (.string (bs pth))) gE 34 (entC y0 D c).toArray) := by
   unfold Hid; rw [HBr.out]; exact hN4.set_ 0 (.string (bs pth))
  have HB5 : Hid (Below x1.heap.size x1 (x4.setCell ⟨gE, 0, none⟩ (.string (bs pth)))) := (HB3.out.trans (hb4.mono HB3.out.size)).setCell (p := ⟨gE, 0, none⟩) HGE.out _
  clear hb4 hN4 HN3 HB3 HO HBr q0 q1
  go_wp2_with fail
  go_loopw [43] (fun iv wr => ∃ i : Nat, i ≤ n ∧ iv = .int .i64 i ∧ Hid (Blk wr gE 34 (entC ((rs.take i).foldl takF y0) D c).toArray) ∧ Hid (Below x1.heap.size x1 wr)) (fun iv _ => n - (intOf iv).toNat)
  case atStart => exact ⟨0, Nat.zero_le _, rfl, HN5.out, HB5.out⟩
  case round =>
   obtain ⟨i, hi, rfl, HBk, HB⟩ := hrel
   by_cases hlt : i < n
   ·have i1 : i < rs.length := by rw [hn]; exact hlt
    obtain ⟨b, o, rfl, c0, c1⟩ := (HRA.out.below (HB1.out.trans (HB.out.mono HB1.out.size))) i i1
    have HSt : Hid ((rs.take (i + 1)).foldl takF y0 = takF ((rs.take i).foldl takF y0) rs[i]) := by
     unfold Hid; rw [List.take_succ_eq_append_getElem i1, List.foldl_append]; rfl
    have hvi := HV.out rs[i] (List.getElem_mem i1)
    generalize rs[i] = r at c0 c1 HSt hvi
    obtain ⟨K, V⟩ := r
    simp only at c0 c1 hvi
    generalize (rs.take i).foldl takF y0 = hi0 at HBk HSt
    have HB2 := Lib.hid (HB.out.alloc HB.out.size (.cells #[.string (bs K), .string (bs V)] 85))
    have HL := Lib.hid (take_any hi0 D c K V hvi (HS1.out.below HB2.out) (HBk.out.alloc (.cells #[.string (bs K), .string (bs V)] 85)))
    generalize hVS : bs V = VS at c1 HL HB2
    generalize hKS : bs K = KS at c0 HL HB2
    clear hvi hVS hKS
    go_wp2_with fail
    refine HL.out.mono ?_; rintro e w10 ⟨rfl, hN, hb⟩
    have HN : Hid (Blk w10 gE 34 (entC ((rs.take (i + 1)).foldl takF y0) D c).toArray) := by unfold Hid; rw [HSt.out]; exact hN
    have HB4 := Lib.hid (HB2.out.trans (hb.mono HGE.out))
    clear hN hb HSt HL HB2
    go_wp2_with fail
    go_roundw
    case rel => exact ⟨i + 1, by omega, by go_num, HN.out, HB4.out⟩
    case measure => simp [intOf]; omega
   ·obtain rfl : i = n := by omega
    have hE := HBk.out
    rw [List.take_of_length_le (by omega), HYF.out] at hE
    have hZ9 := HZ1.out.below HB.out HZ1.out.lt
    have HB9 := Lib.hid (HB1.out.trans (HB.out.mono HB1.out.size))
    unfold entC at hE
    simp only at hE
    obtain ⟨⟨z0, z1, z2, z3, z4, z5, z6, z7, z8, z9, zA⟩, g0, g1, g2, g3, g4, g5, g6, g7, g8, g9, gA⟩ := blk11 hZ9
    obtain ⟨⟨q0, q1, q2, q3, q4, q5, q6, q7, q8, q9, qA⟩, f0, f1, f2, f3, f4, f5, f6, f7, f8, f9, fA⟩ := blk11 hE
    clear hE hZ9 HBk HB HN5 HB5
    obtain rfl : w.heap.size = gH := hgH.out
    go_wp2_with fail
    refine bodyPost_ret (v := .agg #[.string (bs path), .int .i64 kind, .string (bs target), .int .i64 m0, .int .i64 m1, .int .i64 m2, .string (bs m3), .string (bs m4), .int .i64 m5, .int .i64 m6, .slice D data.length c]) (by simp [results, Tryz.results51, go_sem, *]) rfl ⟨rfl, ?_⟩
    exact below_set11 HB9.out (Nat.le_succ _) _ _ _ _ _ _ _ _ _ _ _
set_option maxHeartbeats 4000000 in
theorem pRead_own (s : ByteArray) (w : World) (T : Tab w) (hs : s.size ≤ 281474976710656) :
  Calls Tryz.prog 50 #[.string s] w fun e w' => ∃ A n c, e = .returned (.tuple #[.slice A n c, .int .i64 (paxR s.data.toList).2]) ∧ Own w' w.heap.size (.slice A n c) n (paxR s.data.toList).1 ∧ Below w.heap.size w w' := by
 obtain ⟨i0, hi, hz0, hz1, hz2⟩ := info_parts info_rec
 have HS0 := Lib.hid (rdAll_acc s.data.toList)
 go_enter Tryz.func50, Tryz.ntmps50
 go_wp2_with fail
 go_loopw [0, 4] (fun sv lv wr => ∃ (S : ByteArray) (n : Nat) (acc : List Rc), sv = .string S ∧ S.size ≤ s.size ∧ n ≤ 13 ∧ Hid (rdAcc acc S.data.toList = rdAll s.data.toList) ∧ Hid (∀ r ∈ acc, chkR r.1 r.2 = 0) ∧ Hid (Own wr w.heap.size lv n (acc.take 13)) ∧ Hid (Below w.heap.size w wr)) (fun sv _ _ => strLen sv)
 case atStart => exact ⟨s, 0, [], rfl, Nat.le_refl _, by omega, HS0.out, (fun r hr => by cases hr), Own.nil _ _, Below.refl _ _⟩
 case round =>
  obtain ⟨S, n, acc, rfl, hSs, hn13, HA, HOK, HO, HB⟩ := hrel
  have hws : w.heap.size ≤ wr.heap.size := HB.out.size
  obtain ⟨A, c, rfl⟩ := HO.out.form
  by_cases h0 : S.size = 0
  ·obtain rfl := str_none h0
   have HE : Hid (rdAll s.data.toList = (acc, 0)) := by
    have h : rdAcc acc [] = _ := HA.out
    rw [rdAcc_nil] at h; exact h.symm
   have HC := Lib.hid (pCheck_any A n c (acc.take 13) HO.out.1 (by omega) (szR_of (take_ok HOK.out 13)) wr HO.out.at)
   have HP := Lib.hid (paxR_end HE.out)
   clear h0
   by_cases hc : chkP (acc.take 13) = 0
   ·have HP2 := Lib.hid (HP.out.trans (if_neg (by simpa using hc)))
    rw [hc] at HC
    clear hc
    go_wp2_with fail
    refine HC.out.mono ?_; rintro e w1 ⟨rfl, hb⟩
    have HW := Lib.hid (HB.out.trans (hb.mono hws))
    have HRA := Lib.hid (HO.out.below hb)
    clear hb
    go_wp2_with fail
    go_ret2
    rw [HP2.out]
    exact ⟨A, n, c, rfl, HRA.out, HW.out⟩
   ·have HP2 := Lib.hid (HP.out.trans (if_pos hc))
    obtain ⟨x, hx⟩ := hid_name (chkP (acc.take 13))
    rw [hx.out] at hc HC HP2
    have tc : (x != 0) = true := by simpa using hc
    clear hc
    go_wp2_with fail
    refine HC.out.mono ?_; rintro e w1 ⟨rfl, hb⟩
    have HW := Lib.hid (HB.out.trans (hb.mono hws))
    clear hb
    go_wp2_with fail
    go_ret2
    rw [HP2.out]
    exact ⟨none, 0, 0, rfl, Own.nil _ _, HW.out⟩
  ·have hemp := str_ne h0
   have hS1 : 1 ≤ S.size := by omega
   have HF := Lib.hid (paxDFirst_any S wr (T.below HB.out) (by omega))
   have hne := list_ne h0
   clear h0
   by_cases hr : (recR S.data.toList).2.2.2 = 0
   ·obtain ⟨-, hr2, hr3, hr1⟩ := szR_ok hr
    have hok := (recR_turn hr).1
    have HST := Lib.hid ((rdAcc_step hne hr).symm.trans HA.out)
    have HF2 : Hid (frV S.data.toList = .tuple #[.agg #[.string (bs (recR S.data.toList).1), .string (bs (recR S.data.toList).2.1)], .int .i64 (szR S.data.toList : Nat), .int .i64 0]) := by unfold Hid frV; rw [hr]
    rw [HF2.out] at HF
    rw [sz_list] at hr2
    have hext : (S.extract (szR S.data.toList) S.size).data.toList = (recR S.data.toList).2.2.1 := by rw [extract_tail, hr3]
    obtain ⟨z, hz⟩ := hid_name (szR S.data.toList)
    rw [hz.out] at hr1 hr2 HF hext
    have hzS : (z : Int) ≤ (S.size : Int) := by omega
    have hzr : (S.extract z S.size).size = S.size - z := by rw [ByteArray.size_extract]; omega
    obtain ⟨rk, hrk⟩ := hid_name (recR S.data.toList).1
    obtain ⟨rv, hrv⟩ := hid_name (recR S.data.toList).2.1
    rw [hrk.out, hrv.out] at HF HST hok
    rw [← hext] at HST
    have HOK2 : Hid (∀ x ∈ acc ++ [(rk, rv)], chkR x.1 x.2 = 0) := ok_push HOK.out hok
    clear hok hext hr hne hr2 hr3 hz hrk hrv HF2
    by_cases hn : n ≤ 12
    ·have HT13 := Lib.hid (take13_few (a := acc) (rk, rv) (by rw [HO.out.1]; exact hn))
     obtain ⟨K, HK⟩ := hid_name (bs rk)
     obtain ⟨V, HV⟩ := hid_name (bs rv)
     rw [HK.out, HV.out] at HF
     go_wp2_with fail
     refine HF.out.mono ?_; rintro e w1 ⟨rfl, hb⟩
     have HB1 := Lib.hid (HB.out.trans (hb.mono hws))
     have hO1 := (HO.out.below hb).alloc (.cells #[.string K, .string V] 85)
     have HO1 := Lib.hid (hO1.alloc (.cells #[.string K, .string V] 85))
     obtain ⟨⟨d0, d1⟩, -⟩ := blk2 (Blk.new w1 85 #[.string K, .string V])
     have hw1 : w.heap.size ≤ w1.heap.size := HB1.out.size
     clear hb hO1
     go_wp2_with (at_builtin; refine Stay.go ?_)
     refine Stay.on ?_
     have hnb : ((w1.alloc (.cells #[.string K, .string V] 85)).alloc (.cells #[.string K, .string V] 85)).heap[w1.heap.size + 1]? = some (.cells #[.string K, .string V] 85 (0, 0)) := by
      have h9 := heap_alloc_new (w1.alloc (.cells #[.string K, .string V] 85)) (.cells #[.string K, .string V] 85)
      simpa using h9
     refine wpList_append_lies _ rfl (.tmp 23) (.tmp 25) 77 rfl w.heap.size 85 i0 _ 2 32 Tryz.underlying77 hi hz0 hz1 hz2 rfl (by decide) (.slice A n c) n _ rfl HO1.out.2 ⟨w1.heap.size + 1, 0, none⟩ 1 1 [.string K, .string V] rfl rfl (World.news_of_block (cs := #[.string K, .string V]) (t := 85) (fr := (0, 0)) hnb) (by simp [Value.oneCell']) (by omega) (by unfold maxLen; omega) (by omega) (by simp; omega) _ rfl ?_
     intro g' cap' w6 hown1 hgrow1 hat1 hlt1
     have HO6 : Hid (Own w6 w.heap.size (.slice (some ⟨g', 0, none⟩) (n + 1) cap') (n + 1) ((acc ++ [(rk, rv)]).take 13)) := by
      unfold Hid
      rw [HT13.out]
      refine own_push HO.out.1 ?_
      rw [HK.out, HV.out]; exact hown1
     have HB6 : Hid (Below w.heap.size w w6) := ((HB1.out.alloc hw1 _).alloc (by simp; omega) _).grown hgrow1 (by simp; omega) HO1.out.above
     clear hown1 hgrow1 hat1 hlt1 hnb d0 d1
     go_wp2_with fail
     go_roundw
     case rel => exact ⟨_, n + 1, acc ++ [(rk, rv)], rfl, by rw [hzr]; omega, by omega, HST, HOK2, HO6, HB6⟩
     case measure => show (S.extract z S.size).size < S.size; omega
    ·have HT13 := Lib.hid (take13_many (a := acc) (rk, rv) (by rw [HO.out.1]; exact hn))
     go_wp2_with fail
     refine HF.out.mono ?_; rintro e w1 ⟨rfl, hb⟩
     have HB1 := Lib.hid ((HB.out.trans (hb.mono hws)).alloc (Nat.le_trans hws hb.size) (.cells #[.string (bs rk), .string (bs rv)] 85))
     have hO1 := (HO.out.below hb).alloc (.cells #[.string (bs rk), .string (bs rv)] 85)
     rw [← HT13.out] at hO1
     have HO1 := Lib.hid hO1
     clear hb hO1
     go_wp2_with fail
     go_roundw
     case rel => exact ⟨_, n, acc ++ [(rk, rv)], rfl, by rw [hzr]; omega, by omega, HST, HOK2, HO1, HB1⟩
     case measure => show (S.extract z S.size).size < S.size; omega
   ·rw [frV_no hr] at HF
    have HE := Lib.hid (paxR_err (HA.out.symm.trans (rdAcc_err hne hr)) hr)
    obtain ⟨x, hx⟩ := hid_name (recR S.data.toList).2.2.2
    rw [hx.out] at HF HE hr
    have tc : (x != 0) = true := by simpa using hr
    clear hr hne
    go_wp2_with fail
    refine HF.out.mono ?_; rintro e w1 ⟨rfl, hb⟩
    have HW := Lib.hid ((HB.out.trans (hb.mono hws)).alloc (Nat.le_trans hws hb.size) (.cells #[.string ⟨#[]⟩, .string ⟨#[]⟩] 85))
    clear hb
    go_wp2_with fail
    go_ret2
    rw [HE.out]
    exact ⟨none, 0, 0, rfl, Own.nil _ _, HW.out⟩
theorem bEqual_any (A A' : Option Addr) (n c n' c' : Nat) (l l' : List UInt8) (hn : l.length = n) (hn' : l'.length = n') (w : World) (hA : BytsAt w A l) (hA' : BytsAt w A' l') :
  Calls Tryz.prog 48 #[.slice A n c, .slice A' n' c'] w fun e w' => e = .returned (.bool (l == l')) ∧ w = w' := by
 have h1 := hA.conv c (fun e => by subst e; exact hA.none_nil)
 have h2 := hA'.conv c' (fun e => by subst e; exact hA'.none_nil)
 rw [hn] at h1
 rw [hn'] at h2
 have e1 : (bs l).toList = l := by rw [ByteArray.toList_eq]; rfl
 have e2 : (bs l').toList = l' := by rw [ByteArray.toList_eq]; rfl
 obtain ⟨S, hS⟩ := hid_name (bs l)
 obtain ⟨S', hS'⟩ := hid_name (bs l')
 rw [hS.out] at h1 e1
 rw [hS'.out] at h2 e2
 have E1 := Lib.hid e1
 have E2 := Lib.hid e2
 clear hA hA' hn hn' e1 e2
 go_enter Tryz.func48, Tryz.ntmps48
 go_wp2_with fail
 go_ret
 exact ⟨ret_bool (by rw [E1.out, E2.out]), rfl⟩
theorem far11 {W : World} {g g' t : Nat} {cs : Array Value} (h : Blk W g t cs) (hne : g ≠ g') (v0 v1 v2 v3 v4 v5 v6 v7 v8 v9 v10 : Value) : Blk (((((((((((W.setCell ⟨g', 0, none⟩ v0).setCell ⟨g', 1, none⟩ v1).setCell ⟨g', 2, none⟩ v2).setCell ⟨g', 3, none⟩ v3).setCell ⟨g', 4, none⟩ v4).setCell ⟨g', 5, none⟩ v5).setCell ⟨g', 6, none⟩ v6).setCell ⟨g', 7, none⟩ v7).setCell ⟨g', 8, none⟩ v8).setCell ⟨g', 9, none⟩ v9).setCell ⟨g', 10, none⟩ v10) g t cs :=
 ((((((((((h.far (p := ⟨g', 0, none⟩) hne v0).far (p := ⟨g', 1, none⟩) hne v1).far (p := ⟨g', 2, none⟩) hne v2).far (p := ⟨g', 3, none⟩) hne v3).far (p := ⟨g', 4, none⟩) hne v4).far (p := ⟨g', 5, none⟩) hne v5).far (p := ⟨g', 6, none⟩) hne v6).far (p := ⟨g', 7, none⟩) hne v7).far (p := ⟨g', 8, none⟩) hne v8).far (p := ⟨g', 9, none⟩) hne v9).far (p := ⟨g', 10, none⟩) hne v10
theorem own_set11r {B g : Nat} {W : World} {v : Value} {n : Nat} {l : List Rc} (h : Own W B v n l) (hg : g < B) (v0 v1 v2 v3 v4 v5 v6 v7 v8 v9 v10 : Value) : Own (((((((((((W.setCell ⟨g, 0, none⟩ v0).setCell ⟨g, 1, none⟩ v1).setCell ⟨g, 2, none⟩ v2).setCell ⟨g, 3, none⟩ v3).setCell ⟨g, 4, none⟩ v4).setCell ⟨g, 5, none⟩ v5).setCell ⟨g, 6, none⟩ v6).setCell ⟨g, 7, none⟩ v7).setCell ⟨g, 8, none⟩ v8).setCell ⟨g, 9, none⟩ v9).setCell ⟨g, 10, none⟩ v10) B v n l :=
 ⟨h.1, ownsRow_setCell_below (ownsRow_setCell_below (ownsRow_setCell_below (ownsRow_setCell_below (ownsRow_setCell_below (ownsRow_setCell_below (ownsRow_setCell_below (ownsRow_setCell_below (ownsRow_setCell_below (ownsRow_setCell_below (ownsRow_setCell_below h.2 (a := ⟨g, 0, none⟩) hg v0) (a := ⟨g, 1, none⟩) hg v1) (a := ⟨g, 2, none⟩) hg v2) (a := ⟨g, 3, none⟩) hg v3) (a := ⟨g, 4, none⟩) hg v4) (a := ⟨g, 5, none⟩) hg v5) (a := ⟨g, 6, none⟩) hg v6) (a := ⟨g, 7, none⟩) hg v7) (a := ⟨g, 8, none⟩) hg v8) (a := ⟨g, 9, none⟩) hg v9) (a := ⟨g, 10, none⟩) hg v10⟩
theorem own_byts {W : World} {B n c : Nat} {D : Option Addr} {l : List UInt8} (h : OwnB W B (.slice D n c) l) : BytsAt W D l := by
 obtain ⟨A, c', e, -, hA⟩ := h.form
 injection e with e1 _ _
 subst e1
 exact hA
theorem getD_le {o : Option (List UInt8)} {z : List UInt8} {b : Nat} (h : ∀ v, o = some v → v.length ≤ b) (hz : z.length ≤ b) : (o.getD z).length ≤ b := by
 cases o with
 | none => exact hz
 | some v => exact h v rfl
theorem joinP_le (p n : List UInt8) : (joinP p n).length ≤ p.length + n.length + 1 := by
 unfold joinP
 split
 ·omega
 ·simp only [List.length_append, List.length_cons, List.length_nil]; omega
theorem oneV_le (p n : List UInt8) : (oneV p n).1.length ≤ p.length + n.length + 1 := by
 unfold oneV
 split
 ·simp
 ·split
  ·exact joinP_le p n
  ·simp
theorem took_small {h : HeadV} {rs : List Rc} {d : List UInt8} (hs : SmallH h) (hn : (keysR rs).Nodup) (hv : ∀ r ∈ rs, r.2.length ≤ 500) (hd : d.length ≤ 140737488351232) : (rs.foldl takF (bareF h d)).sz := by
 have H := took_all (bareF h d) rs hn
 have hk : ∀ K v, look K rs = some v → v.length ≤ 140737488351232 := fun K v e => Nat.le_trans (hv _ ((look_mem hn).1 e)) (by decide)
 obtain ⟨s1, s2, s3, s4, s5⟩ := hs
 have h1 := oneV_le h.pre h.name
 refine ⟨⟨?_, ?_, ?_⟩, ?_, ?_⟩
 ·rw [H.path]; exact getD_le (hk _) (by show (oneV h.pre h.name).1.length ≤ _; omega)
 ·rw [H.target]; exact getD_le (hk _) (by show h.link.length ≤ _; omega)
 ·rw [H.data]; exact hd
 ·rw [H.user]; exact getD_le (hk _) (by show h.user.length ≤ _; omega)
 ·rw [H.group]; exact getD_le (hk _) (by show h.group.length ≤ _; omega)
theorem paxR_short (b : List UInt8) : (∀ r ∈ (paxR b).1, r.2.length ≤ 500) ∧ (paxR b).1.length ≤ 1000000 := by
 by_cases h1 : (rdAll b).2 = 0
 ·by_cases h2 : chkP (rdAll b).1 = 0
  ·rw [paxR_ok (x := (rdAll b).1) (by rw [← h1]) h2]
   obtain ⟨a, -, c⟩ := chkP_all h2
   exact ⟨fun r hr => (chkR_of (c r hr)).2.2.1, Nat.le_trans a (by decide)⟩
  ·rw [paxR_chk (x := (rdAll b).1) (by rw [← h1]) h2]; exact ⟨fun r hr => (by cases hr), by simp⟩
 ·have : paxR b = ([], (rdAll b).2) := by unfold paxR; rw [if_pos h1]
  rw [this]; exact ⟨fun r hr => (by cases hr), by simp⟩
end Go.Proofs.YtmejnabngfpbeaaGreatDoor
namespace Go.Proofs.YtmejnabngfpbeaaGreatDoor
open Go.RowKit
theorem fin_yes2 {w X : World} {l : List UInt8} {y : EntV} {N c : Nat} {D : Option Addr} {cs : Array Value} (HF : readM l = ((y, N), 0)) (hv : (entC y D c).toArray = cs) (hs : SlOk D y.data.length c) (hO : OwnB X w.heap.size (.slice D y.data.length c) y.data) (hb : Below w.heap.size w X) :
  ∃ D' cc, Ending.returned (.tuple #[.agg cs, .int .i64 (N : Int), .int .i64 0]) = .returned (.tuple #[.agg (entC (readM l).1.1 D' cc).toArray, .int .i64 ((readM l).1.2 : Nat), .int .i64 (readM l).2]) ∧ SlOk D' (readM l).1.1.data.length cc ∧ BytsAt X D' (readM l).1.1.data ∧ OwnB X w.heap.size (.slice D' (readM l).1.1.data.length cc) (readM l).1.1.data ∧ Below w.heap.size w X := by
 rw [HF]
 subst hv
 exact ⟨D, c, rfl, hs, own_byts hO, hO, hb⟩
theorem fin_no2 {w X : World} {l : List UInt8} {E : Int} (HF : readM l = ((entZ, 0), E)) (hb : Below w.heap.size w X) :
  ∃ D' cc, Ending.returned (.tuple #[.agg #[.string ⟨#[]⟩, .int .i64 0, .string ⟨#[]⟩, .int .i64 0, .int .i64 0, .int .i64 0, .string ⟨#[]⟩, .string ⟨#[]⟩, .int .i64 0, .int .i64 0, .slice none 0 0], .int .i64 0, .int .i64 E]) = .returned (.tuple #[.agg (entC (readM l).1.1 D' cc).toArray, .int .i64 ((readM l).1.2 : Nat), .int .i64 (readM l).2]) ∧ SlOk D' (readM l).1.1.data.length cc ∧ BytsAt X D' (readM l).1.1.data ∧ OwnB X w.heap.size (.slice D' (readM l).1.1.data.length cc) (readM l).1.1.data ∧ Below w.heap.size w X := by
 rw [HF]
 exact ⟨none, 0, rfl, ⟨Nat.le_refl _, by decide, fun _ => rfl⟩, fun j hj => (by cases hj), OwnB.nil _ _, hb⟩
end Go.Proofs.YtmejnabngfpbeaaGreatDoor
namespace Go.Proofs.YtmejnabngfpbeaaGreatDoor
open Go.RowKit
open Go.OpenShut
set_option maxHeartbeats 4000000 in
theorem mRead_1 (A : Option Addr) (n c : Nat) (l : List UInt8) (hn : l.length = n) (hn2 : n ≤ 281474976000000) (hc : SlOk A n c) (w : World) (S : Std w) (hA : BytsAt w A l) (h1 : (firstM l).2 ≠ 0) :
  Calls Tryz.prog 30 #[.slice A n c] w fun e w' => ∃ D cc, e = .returned (.tuple #[.agg (entC (readM l).1.1 D cc).toArray, .int .i64 ((readM l).1.2 : Nat), .int .i64 (readM l).2]) ∧ SlOk D (readM l).1.1.data.length cc ∧ BytsAt w' D (readM l).1.1.data ∧ OwnB w' w.heap.size (.slice D (readM l).1.1.data.length cc) (readM l).1.1.data ∧ Below w.heap.size w w' := by
 have HF : Hid (readM l = ((entZ, 0), (firstM l).2)) := by unfold Hid; rw [read_err (by rw [parts_first h1]; exact h1), parts_first h1]
 have HD1 := Lib.hid fun W h => decode_any A n c l hn hn2 hc W h
 have HSm := Lib.hid (firstM_small l)
 generalize hFM : firstM l = FM at *
 obtain ⟨⟨⟨n0, n1, n2, n3, n4, n5, n6, n7, n8, n9, nA⟩, D1, N1⟩, E1⟩ := FM
 simp only at HD1 HSm
 unfold headC at HD1
 simp only at HD1
 simp only at h1 HF
 have hne : (E1 != 0) = true := by simpa using h1
 clear h1 hFM
 have hZ0 := Blk.new w 34 #[.string ⟨#[]⟩, .int .i64 0, .string ⟨#[]⟩, .int .i64 0, .int .i64 0, .int .i64 0, .string ⟨#[]⟩, .string ⟨#[]⟩, .int .i64 0, .int .i64 0, .slice none 0 0]
 have hB0 := (Below.refl w.heap.size w).alloc (Nat.le_refl _) (.cells #[.string ⟨#[]⟩, .int .i64 0, .string ⟨#[]⟩, .int .i64 0, .int .i64 0, .int .i64 0, .string ⟨#[]⟩, .string ⟨#[]⟩, .int .i64 0, .int .i64 0, .slice none 0 0] 34)
 have HZ0 := Lib.hid hZ0
 have HB0 := Lib.hid hB0
 have HA := Lib.hid hA
 clear hZ0 hB0 hA
 go_enter Tryz.func30, Tryz.ntmps30
 go_wp2_with fail
 refine (HD1.out _ (HA.out.below HB0.out)).mono ?_; rintro e x1 ⟨v1, rfl, ho1, hb1⟩
 obtain ⟨A1, c1, rfl, hs1, ha1⟩ := ho1.form
 have hB1 := HB0.out.trans (hb1.mono HB0.out.size)
 have hB2 := hB1.alloc hB1.size (.cells #[.string (bs n0), .string (bs n1), .string (bs n2), .int .i64 n3, .int .i64 n4, .int .i64 n5, .int .i64 n6, .int .i64 n7, .int .u8 (n8.toNat : Int), .string (bs n9), .string (bs nA)] 74)
 have hZ2 := (HZ0.out.below hb1 HZ0.out.lt).alloc (.cells #[.string (bs n0), .string (bs n1), .string (bs n2), .int .i64 n3, .int .i64 n4, .int .i64 n5, .int .i64 n6, .int .i64 n7, .int .u8 (n8.toNat : Int), .string (bs n9), .string (bs nA)] 74)
 have hH2 := Blk.new x1 74 #[.string (bs n0), .string (bs n1), .string (bs n2), .int .i64 n3, .int .i64 n4, .int .i64 n5, .int .i64 n6, .int .i64 n7, .int .u8 (n8.toNat : Int), .string (bs n9), .string (bs nA)]
 have hO2 := ho1.alloc (.cells #[.string (bs n0), .string (bs n1), .string (bs n2), .int .i64 n3, .int .i64 n4, .int .i64 n5, .int .i64 n6, .int .i64 n7, .int .u8 (n8.toNat : Int), .string (bs n9), .string (bs nA)] 74)
 have hA2 := ha1.below ((Below.refl x1.heap.size x1).alloc (Nat.le_refl _) (.cells #[.string (bs n0), .string (bs n1), .string (bs n2), .int .i64 n3, .int .i64 n4, .int .i64 n5, .int .i64 n6, .int .i64 n7, .int .u8 (n8.toNat : Int), .string (bs n9), .string (bs nA)] 74))
 have hne2 : w.heap.size < x1.heap.size := (HZ0.out.below hb1 HZ0.out.lt).lt
 go_upto_region 2 with fail
 generalize x1.alloc (.cells #[.string (bs n0), .string (bs n1), .string (bs n2), .int .i64 n3, .int .i64 n4, .int .i64 n5, .int .i64 n6, .int .i64 n7, .int .u8 (n8.toNat : Int), .string (bs n9), .string (bs nA)] 74) = x2 at hB2 hZ2 hH2 hO2 hA2 ⊢
 generalize x1.heap.size = gH at hH2 hne2 ⊢
 have HB2 := Lib.hid hB2
 have HZ2 := Lib.hid hZ2
 have HH2 := Lib.hid hH2
 have HO2 := Lib.hid hO2
 have HA2 := Lib.hid hA2
 have HSO := Lib.hid hs1
 clear hA2 hs1 hb1 ho1 ha1 hB1 hB2 hZ2 hH2 hO2 HD1
 obtain ⟨⟨z0, z1, z2, z3, z4, z5, z6, z7, z8, z9, zA⟩, y0, y1, y2, y3, y4, y5, y6, y7, y8, y9, yA⟩ := blk11 (HZ2.out)
 go_wp2_with fail
 refine bodyPost_ret (v := .tuple #[.agg #[.string ⟨#[]⟩, .int .i64 0, .string ⟨#[]⟩, .int .i64 0, .int .i64 0, .int .i64 0, .string ⟨#[]⟩, .string ⟨#[]⟩, .int .i64 0, .int .i64 0, .slice none 0 0], .int .i64 0, .int .i64 E1]) (by simp [results, Tryz.results30, go_sem, *]) rfl ?_
 rw [HF.out]
 exact ⟨none, 0, rfl, ⟨Nat.le_refl _, by decide, fun _ => rfl⟩, fun j hj => (by cases hj), OwnB.nil _ _, below_set11 HB2.out (Nat.le_refl _) _ _ _ _ _ _ _ _ _ _ _⟩
set_option maxHeartbeats 4000000 in
theorem mRead_2 (A : Option Addr) (n c : Nat) (l : List UInt8) (hn : l.length = n) (hn2 : n ≤ 281474976000000) (hc : SlOk A n c) (w : World) (S : Std w) (hA : BytsAt w A l) (h1 : (firstM l).2 = 0) (h2 : (firstM l).1.1.typ = 120) (h3 : (paxR (firstM l).1.2.1).2 ≠ 0) :
  Calls Tryz.prog 30 #[.slice A n c] w fun e w' => ∃ D cc, e = .returned (.tuple #[.agg (entC (readM l).1.1 D cc).toArray, .int .i64 ((readM l).1.2 : Nat), .int .i64 (readM l).2]) ∧ SlOk D (readM l).1.1.data.length cc ∧ BytsAt w' D (readM l).1.1.data ∧ OwnB w' w.heap.size (.slice D (readM l).1.1.data.length cc) (readM l).1.1.data ∧ Below w.heap.size w w' := by
 have HF : Hid (readM l = ((entZ, 0), (paxR (firstM l).1.2.1).2)) := by unfold Hid; rw [read_err (by rw [parts_pax h1 h2 h3]; exact h3), parts_pax h1 h2 h3]
 have hDl := (firstM_size h1).2.2
 have HD1 := Lib.hid fun W h => decode_any A n c l hn hn2 hc W h
 have HSm := Lib.hid (firstM_small l)
 generalize hFM : firstM l = FM at *
 obtain ⟨⟨⟨n0, n1, n2, n3, n4, n5, n6, n7, n8, n9, nA⟩, D1, N1⟩, E1⟩ := FM
 simp only at HD1 HSm
 unfold headC at HD1
 simp only at HD1
 simp only at h1 h2 h3 HF hDl
 subst h1
 have hty : ((n8.toNat : Int) == 120) = true := by rw [h2]; rfl
 have HPx := Lib.hid fun W TW => pRead_own (bs D1) W TW (by rw [bs_size]; omega)
 rw [bs_list] at HPx
 obtain ⟨E3, HE3⟩ := hid_name (paxR D1).2
 rw [HE3.out] at HPx h3 HF
 generalize (paxR D1).1 = RS at HPx
 have hne : (E3 != 0) = true := by simpa using h3
 clear h2 h3 hFM
 have hZ0 := Blk.new w 34 #[.string ⟨#[]⟩, .int .i64 0, .string ⟨#[]⟩, .int .i64 0, .int .i64 0, .int .i64 0, .string ⟨#[]⟩, .string ⟨#[]⟩, .int .i64 0, .int .i64 0, .slice none 0 0]
 have hB0 := (Below.refl w.heap.size w).alloc (Nat.le_refl _) (.cells #[.string ⟨#[]⟩, .int .i64 0, .string ⟨#[]⟩, .int .i64 0, .int .i64 0, .int .i64 0, .string ⟨#[]⟩, .string ⟨#[]⟩, .int .i64 0, .int .i64 0, .slice none 0 0] 34)
 have HZ0 := Lib.hid hZ0
 have HB0 := Lib.hid hB0
 have HA := Lib.hid hA
 clear hZ0 hB0 hA
 go_enter Tryz.func30, Tryz.ntmps30
 go_wp2_with fail
 refine (HD1.out _ (HA.out.below HB0.out)).mono ?_; rintro e x1 ⟨v1, rfl, ho1, hb1⟩
 obtain ⟨A1, c1, rfl, hs1, ha1⟩ := ho1.form
 have hB1 := HB0.out.trans (hb1.mono HB0.out.size)
 have hB2 := hB1.alloc hB1.size (.cells #[.string (bs n0), .string (bs n1), .string (bs n2), .int .i64 n3, .int .i64 n4, .int .i64 n5, .int .i64 n6, .int .i64 n7, .int .u8 (n8.toNat : Int), .string (bs n9), .string (bs nA)] 74)
 have hZ2 := (HZ0.out.below hb1 HZ0.out.lt).alloc (.cells #[.string (bs n0), .string (bs n1), .string (bs n2), .int .i64 n3, .int .i64 n4, .int .i64 n5, .int .i64 n6, .int .i64 n7, .int .u8 (n8.toNat : Int), .string (bs n9), .string (bs nA)] 74)
 have hH2 := Blk.new x1 74 #[.string (bs n0), .string (bs n1), .string (bs n2), .int .i64 n3, .int .i64 n4, .int .i64 n5, .int .i64 n6, .int .i64 n7, .int .u8 (n8.toNat : Int), .string (bs n9), .string (bs nA)]
 have hO2 := ho1.alloc (.cells #[.string (bs n0), .string (bs n1), .string (bs n2), .int .i64 n3, .int .i64 n4, .int .i64 n5, .int .i64 n6, .int .i64 n7, .int .u8 (n8.toNat : Int), .string (bs n9), .string (bs nA)] 74)
 have hA2 := ha1.below ((Below.refl x1.heap.size x1).alloc (Nat.le_refl _) (.cells #[.string (bs n0), .string (bs n1), .string (bs n2), .int .i64 n3, .int .i64 n4, .int .i64 n5, .int .i64 n6, .int .i64 n7, .int .u8 (n8.toNat : Int), .string (bs n9), .string (bs nA)] 74))
 have hne2 : w.heap.size < x1.heap.size := (HZ0.out.below hb1 HZ0.out.lt).lt
 go_upto_region 2 with fail
 generalize x1.alloc (.cells #[.string (bs n0), .string (bs n1), .string (bs n2), .int .i64 n3, .int .i64 n4, .int .i64 n5, .int .i64 n6, .int .i64 n7, .int .u8 (n8.toNat : Int), .string (bs n9), .string (bs nA)] 74) = x2 at hB2 hZ2 hH2 hO2 hA2 ⊢
 generalize x1.heap.size = gH at hH2 hne2 ⊢
 have HB2 := Lib.hid hB2
 have HZ2 := Lib.hid hZ2
 have HH2 := Lib.hid hH2
 have HO2 := Lib.hid hO2
 have HA2 := Lib.hid hA2
 have HSO := Lib.hid hs1
 clear hA2 hs1 hb1 ho1 ha1 hB1 hB2 hZ2 hH2 hO2 HD1
 have q8 := HH2.out.cell 8
 simp only [List.getElem?_toArray, List.getElem?_cons_succ, List.getElem?_cons_zero] at q8
 have hcv := HA2.out.conv c1 (fun e => by subst e; exact HA2.out.none_nil)
 go_wp2_with fail
 refine (HPx.out _ (S.tab.below HB2.out)).mono ?_; rintro e x3 ⟨A3, k3, c3, rfl, -, hb3⟩
 have HB3 := Lib.hid (HB2.out.trans (hb3.mono HB2.out.size))
 obtain ⟨⟨z0, z1, z2, z3, z4, z5, z6, z7, z8, z9, zA⟩, y0, y1, y2, y3, y4, y5, y6, y7, y8, y9, yA⟩ := blk11 (HZ2.out.below hb3 HZ2.out.lt)
 clear hb3 hcv
 go_wp2_with fail
 refine bodyPost_ret (v := .tuple #[.agg #[.string ⟨#[]⟩, .int .i64 0, .string ⟨#[]⟩, .int .i64 0, .int .i64 0, .int .i64 0, .string ⟨#[]⟩, .string ⟨#[]⟩, .int .i64 0, .int .i64 0, .slice none 0 0], .int .i64 0, .int .i64 E3]) (by simp [results, Tryz.results30, go_sem, *]) rfl ?_
 rw [HF.out]
 exact ⟨none, 0, rfl, ⟨Nat.le_refl _, by decide, fun _ => rfl⟩, fun j hj => (by cases hj), OwnB.nil _ _, below_set11 HB3.out (Nat.le_refl _) _ _ _ _ _ _ _ _ _ _ _⟩
set_option maxHeartbeats 8000000 in
theorem mRead_3 (A : Option Addr) (n c : Nat) (l : List UInt8) (hn : l.length = n) (hn2 : n ≤ 281474976000000) (hc : SlOk A n c) (w : World) (S : Std w) (hA : BytsAt w A l) (h1 : (firstM l).2 = 0) (h2 : (firstM l).1.1.typ = 120) (h3 : (paxR (firstM l).1.2.1).2 = 0) (h4 : (firstM (l.drop (firstM l).1.2.2)).2 ≠ 0) :
  Calls Tryz.prog 30 #[.slice A n c] w fun e w' => ∃ D cc, e = .returned (.tuple #[.agg (entC (readM l).1.1 D cc).toArray, .int .i64 ((readM l).1.2 : Nat), .int .i64 (readM l).2]) ∧ SlOk D (readM l).1.1.data.length cc ∧ BytsAt w' D (readM l).1.1.data ∧ OwnB w' w.heap.size (.slice D (readM l).1.1.data.length cc) (readM l).1.1.data ∧ Below w.heap.size w w' := by
 have hN1 := (firstM_size h1).2.1
 have hDl := (firstM_size h1).2.2
 have hRv := (paxR_short (firstM l).1.2.1).1
 have hRl := (paxR_short (firstM l).1.2.1).2
 have hNK := paxR_keys (firstM l).1.2.1
 have HF : Hid (readM l = ((entZ, 0), (firstM (l.drop (firstM l).1.2.2)).2)) := by unfold Hid; rw [read_err (by rw [parts_next h1 h2 h3 h4]; exact h4), parts_next h1 h2 h3 h4]
 have HD1 := Lib.hid fun W h => decode_any A n c l hn hn2 hc W h
 have hD2 := fun (N1 : Nat) (h : N1 ≤ n) W hA => decode_any (cutA A c N1) (n - N1) (c - N1) (l.drop N1) (by rw [List.length_drop, hn]) (by omega) (hc.cut N1 (by omega) (n - N1) (by have := hc.1; omega)) W hA
 have hsf := fun (N1 : Nat) (h : N1 ≤ n) W => slice_from W A n c N1 h
 have HSm := Lib.hid (firstM_small l)
 generalize hFM : firstM l = FM at *
 obtain ⟨⟨⟨n0, n1, n2, n3, n4, n5, n6, n7, n8, n9, nA⟩, D1, N1⟩, E1⟩ := FM
 simp only at HD1 HSm
 unfold headC at HD1
 simp only at HD1
 simp only at h1 h2 h3 h4 HF hDl hN1 hRv hRl hNK
 subst h1
 have hty : ((n8.toNat : Int) == 120) = true := by rw [h2]; rfl
 have HPx := Lib.hid fun W TW => pRead_own (bs D1) W TW (by rw [bs_size]; omega)
 rw [bs_list, h3] at HPx
 have HD2 := Lib.hid fun W hA => hD2 N1 (by omega) W hA
 have hsf2 := hsf N1 (by omega)
 generalize hRS : (paxR D1).1 = RS at *
 have HC := Lib.hid hc
 generalize firstM (l.drop N1) = FM2 at *
 obtain ⟨⟨⟨m0, m1, m2, m3, m4, m5, m6, m7, m8, m9, mA⟩, D2, N2⟩, E2⟩ := FM2
 simp only at HD2 h4 HF
 unfold headC at HD2
 simp only at HD2
 have hne : (E2 != 0) = true := by simpa using h4
 clear h2 h3 h4 hFM hRS hD2 hsf hNK hRv hRl
 have hZ0 := Blk.new w 34 #[.string ⟨#[]⟩, .int .i64 0, .string ⟨#[]⟩, .int .i64 0, .int .i64 0, .int .i64 0, .string ⟨#[]⟩, .string ⟨#[]⟩, .int .i64 0, .int .i64 0, .slice none 0 0]
 have hB0 := (Below.refl w.heap.size w).alloc (Nat.le_refl _) (.cells #[.string ⟨#[]⟩, .int .i64 0, .string ⟨#[]⟩, .int .i64 0, .int .i64 0, .int .i64 0, .string ⟨#[]⟩, .string ⟨#[]⟩, .int .i64 0, .int .i64 0, .slice none 0 0] 34)
 have HZ0 := Lib.hid hZ0
 have HB0 := Lib.hid hB0
 have HA := Lib.hid hA
 clear hZ0 hB0 hA
 go_enter Tryz.func30, Tryz.ntmps30
 go_wp2_with fail
 refine (HD1.out _ (HA.out.below HB0.out)).mono ?_; rintro e x1 ⟨v1, rfl, ho1, hb1⟩
 obtain ⟨A1, c1, rfl, hs1, ha1⟩ := ho1.form
 have hB1 := HB0.out.trans (hb1.mono HB0.out.size)
 have hB2 := hB1.alloc hB1.size (.cells #[.string (bs n0), .string (bs n1), .string (bs n2), .int .i64 n3, .int .i64 n4, .int .i64 n5, .int .i64 n6, .int .i64 n7, .int .u8 (n8.toNat : Int), .string (bs n9), .string (bs nA)] 74)
 have hZ2 := (HZ0.out.below hb1 HZ0.out.lt).alloc (.cells #[.string (bs n0), .string (bs n1), .string (bs n2), .int .i64 n3, .int .i64 n4, .int .i64 n5, .int .i64 n6, .int .i64 n7, .int .u8 (n8.toNat : Int), .string (bs n9), .string (bs nA)] 74)
 have hH2 := Blk.new x1 74 #[.string (bs n0), .string (bs n1), .string (bs n2), .int .i64 n3, .int .i64 n4, .int .i64 n5, .int .i64 n6, .int .i64 n7, .int .u8 (n8.toNat : Int), .string (bs n9), .string (bs nA)]
 have hO2 := ho1.alloc (.cells #[.string (bs n0), .string (bs n1), .string (bs n2), .int .i64 n3, .int .i64 n4, .int .i64 n5, .int .i64 n6, .int .i64 n7, .int .u8 (n8.toNat : Int), .string (bs n9), .string (bs nA)] 74)
 have hA2 := ha1.below ((Below.refl x1.heap.size x1).alloc (Nat.le_refl _) (.cells #[.string (bs n0), .string (bs n1), .string (bs n2), .int .i64 n3, .int .i64 n4, .int .i64 n5, .int .i64 n6, .int .i64 n7, .int .u8 (n8.toNat : Int), .string (bs n9), .string (bs nA)] 74))
 have hne2 : w.heap.size < x1.heap.size := (HZ0.out.below hb1 HZ0.out.lt).lt
 go_upto_region 2 with fail
 generalize x1.alloc (.cells #[.string (bs n0), .string (bs n1), .string (bs n2), .int .i64 n3, .int .i64 n4, .int .i64 n5, .int .i64 n6, .int .i64 n7, .int .u8 (n8.toNat : Int), .string (bs n9), .string (bs nA)] 74) = x2 at hB2 hZ2 hH2 hO2 hA2 ⊢
 generalize x1.heap.size = gH at hH2 hne2 ⊢
 have HB2 := Lib.hid hB2
 have HZ2 := Lib.hid hZ2
 have HH2 := Lib.hid hH2
 have HO2 := Lib.hid hO2
 have HA2 := Lib.hid hA2
 have HSO := Lib.hid hs1
 clear hA2 hs1 hb1 ho1 ha1 hB1 hB2 hZ2 hH2 hO2 HD1
 have q8 := HH2.out.cell 8
 simp only [List.getElem?_toArray, List.getElem?_cons_succ, List.getElem?_cons_zero] at q8
 have hcv := HA2.out.conv c1 (fun e => by subst e; exact HA2.out.none_nil)
 go_wp2_with fail
 refine (HPx.out _ (S.tab.below HB2.out)).mono ?_; rintro e x3 ⟨A3, k3, c3, rfl, hr3, hb3⟩
 have HB3 := Lib.hid (HB2.out.trans (hb3.mono HB2.out.size))
 have HZ3 := Lib.hid (HZ2.out.below hb3 HZ2.out.lt)
 have HH3 := Lib.hid (HH2.out.below hb3 HH2.out.lt)
 have HR3 := Lib.hid hr3
 have HGH := Lib.hid HH2.out.lt
 clear hb3 hcv q8 hr3 HZ2 HH2 HO2 HA2 HSO
 go_wp2_with fail
 refine (HD2.out _ ((HA.out.below HB3.out).cut (c := c) (by have := HC.out.1; omega) N1 (by omega))).mono ?_; rintro e x4 ⟨v4, rfl, ho4, hb4⟩
 obtain ⟨A4, c4, rfl, hs4, ha4⟩ := ho4.form
 have hH4 := HH3.out.below hb4 HH3.out.lt
 have hZ4 := HZ3.out.below hb4 HZ3.out.lt
 have hR4 := HR3.out.below hb4
 have hg3 : gH < x3.heap.size := HH3.out.lt
 have hw3 : w.heap.size < x3.heap.size := HZ3.out.lt
 have hB4 := HB3.out.trans (hb4.mono HB3.out.size)
 obtain ⟨⟨q0, q1, q2, q3, q4, q5, q6, q7, q8, q9, qA⟩, f0, f1, f2, f3, f4, f5, f6, f7, f8, f9, fA⟩ := blk11 hH4
 have hB5 := below_set11 hB4 (Nat.le_of_lt hne2) (.string (bs m0)) (.string (bs m1)) (.string (bs m2)) (.int .i64 m3) (.int .i64 m4) (.int .i64 m5) (.int .i64 m6) (.int .i64 m7) (.int .u8 (m8.toNat : Int)) (.string (bs m9)) (.string (bs mA))
 have hZ5 : Blk (((((((((((x4.setCell ⟨gH, 0, none⟩ (.string (bs m0))).setCell ⟨gH, 1, none⟩ (.string (bs m1))).setCell ⟨gH, 2, none⟩ (.string (bs m2))).setCell ⟨gH, 3, none⟩ (.int .i64 m3)).setCell ⟨gH, 4, none⟩ (.int .i64 m4)).setCell ⟨gH, 5, none⟩ (.int .i64 m5)).setCell ⟨gH, 6, none⟩ (.int .i64 m6)).setCell ⟨gH, 7, none⟩ (.int .i64 m7)).setCell ⟨gH, 8, none⟩ (.int .u8 (m8.toNat : Int))).setCell ⟨gH, 9, none⟩ (.string (bs m9))).setCell ⟨gH, 10, none⟩ (.string (bs mA))) w.heap.size 34 #[.string ⟨#[]⟩, .int .i64 0, .string ⟨#[]⟩, .int .i64 0, .int .i64 0, .int .i64 0, .string ⟨#[]⟩, .string ⟨#[]⟩, .int .i64 0, .int .i64 0, .slice none 0 0] := far11 hZ4 (Nat.ne_of_lt hne2) (.string (bs m0)) (.string (bs m1)) (.string (bs m2)) (.int .i64 m3) (.int .i64 m4) (.int .i64 m5) (.int .i64 m6) (.int .i64 m7) (.int .u8 (m8.toNat : Int)) (.string (bs m9)) (.string (bs mA))
 go_upto_region 11 with fail
 generalize (((((((((((x4.setCell ⟨gH, 0, none⟩ (.string (bs m0))).setCell ⟨gH, 1, none⟩ (.string (bs m1))).setCell ⟨gH, 2, none⟩ (.string (bs m2))).setCell ⟨gH, 3, none⟩ (.int .i64 m3)).setCell ⟨gH, 4, none⟩ (.int .i64 m4)).setCell ⟨gH, 5, none⟩ (.int .i64 m5)).setCell ⟨gH, 6, none⟩ (.int .i64 m6)).setCell ⟨gH, 7, none⟩ (.int .i64 m7)).setCell ⟨gH, 8, none⟩ (.int .u8 (m8.toNat : Int))).setCell ⟨gH, 9, none⟩ (.string (bs m9))).setCell ⟨gH, 10, none⟩ (.string (bs mA))) = x5 at hB5 hZ5 ⊢
 have HB5 := Lib.hid hB5
 obtain ⟨⟨z0, z1, z2, z3, z4, z5, z6, z7, z8, z9, zA⟩, y0, y1, y2, y3, y4, y5, y6, y7, y8, y9, yA⟩ := blk11 hZ5
 clear ho4 ha4 hs4 hb4 hH4 hZ4 hR4 hB4 hB5 hZ5 q0 q1 q2 q3 q4 q5 q6 q7 q8 q9 qA f0 f1 f2 f3 f4 f5 f6 f7 f8 f9 fA hsf2
 go_wp2_with fail
 refine bodyPost_ret (v := .tuple #[.agg #[.string ⟨#[]⟩, .int .i64 0, .string ⟨#[]⟩, .int .i64 0, .int .i64 0, .int .i64 0, .string ⟨#[]⟩, .string ⟨#[]⟩, .int .i64 0, .int .i64 0, .slice none 0 0], .int .i64 0, .int .i64 E2]) (by simp [results, Tryz.results30, go_sem, *]) rfl ?_
 rw [HF.out]
 exact ⟨none, 0, rfl, ⟨Nat.le_refl _, by decide, fun _ => rfl⟩, fun j hj => (by cases hj), OwnB.nil _ _, below_set11 HB5.out (Nat.le_refl _) _ _ _ _ _ _ _ _ _ _ _⟩
set_option maxHeartbeats 16000000 in
theorem mRead_4 (A : Option Addr) (n c : Nat) (l : List UInt8) (hn : l.length = n) (hn2 : n ≤ 281474976000000) (hc : SlOk A n c) (w : World) (S : Std w) (hA : BytsAt w A l) (h1 : (firstM l).2 = 0) (h2 : (firstM l).1.1.typ = 120) (h3 : (paxR (firstM l).1.2.1).2 = 0) (h4 : (firstM (l.drop (firstM l).1.2.2)).2 = 0) :
  Calls Tryz.prog 30 #[.slice A n c] w fun e w' => ∃ D cc, e = .returned (.tuple #[.agg (entC (readM l).1.1 D cc).toArray, .int .i64 ((readM l).1.2 : Nat), .int .i64 (readM l).2]) ∧ SlOk D (readM l).1.1.data.length cc ∧ BytsAt w' D (readM l).1.1.data ∧ OwnB w' w.heap.size (.slice D (readM l).1.1.data.length cc) (readM l).1.1.data ∧ Below w.heap.size w w' := by
 have hN1 := (firstM_size h1).2.1
 have hDl := (firstM_size h1).2.2
 have hRv := (paxR_short (firstM l).1.2.1).1
 have hRl := (paxR_short (firstM l).1.2.1).2
 have hNK := paxR_keys (firstM l).1.2.1
 have HP0 := parts_two h1 h2 h3 h4
 have hDl2 := (firstM_size h4).2.2
 have hN2 := (firstM_size h4).2.1
 have hSm2 := firstM_small (l.drop (firstM l).1.2.2)
 have HF := Lib.hid h1
 have HD1 := Lib.hid fun W h => decode_any A n c l hn hn2 hc W h
 have hD2 := fun (N1 : Nat) (h : N1 ≤ n) W hA => decode_any (cutA A c N1) (n - N1) (c - N1) (l.drop N1) (by rw [List.length_drop, hn]) (by omega) (hc.cut N1 (by omega) (n - N1) (by have := hc.1; omega)) W hA
 have hsf := fun (N1 : Nat) (h : N1 ≤ n) W => slice_from W A n c N1 h
 have HSm := Lib.hid (firstM_small l)
 generalize hFM : firstM l = FM at *
 obtain ⟨⟨⟨n0, n1, n2, n3, n4, n5, n6, n7, n8, n9, nA⟩, D1, N1⟩, E1⟩ := FM
 simp only at HD1 HSm
 unfold headC at HD1
 simp only at HD1
 rw [List.length_drop] at hN2
 simp only at HP0 hDl2 hN2 hSm2
 simp only at h1 h2 h3 h4 HF hDl hN1 hRv hRl hNK
 subst h1
 have hty : ((n8.toNat : Int) == 120) = true := by rw [h2]; rfl
 have HPx := Lib.hid fun W TW => pRead_own (bs D1) W TW (by rw [bs_size]; omega)
 rw [bs_list, h3] at HPx
 have HD2 := Lib.hid fun W hA => hD2 N1 (by omega) W hA
 have hsf2 := hsf N1 (by omega)
 generalize hRS : (paxR D1).1 = RS at *
 have HC := Lib.hid hc
 generalize firstM (l.drop N1) = FM2 at *
 obtain ⟨⟨⟨m0, m1, m2, m3, m4, m5, m6, m7, m8, m9, mA⟩, D2, N2⟩, E2⟩ := FM2
 simp only at HD2 h4 HP0 hDl2 hN2 hSm2
 unfold headC at HD2
 simp only at HD2
 subst h4
 have HRv := Lib.hid hRv
 have HRl := Lib.hid hRl
 have HNK := Lib.hid hNK
 have HSm2 := Lib.hid hSm2
 have hD2l : D2.length ≤ 140737488351232 := by omega
 have HD2l := Lib.hid hD2l
 have hNt : IntKind.i64.wrap ((N2 : Int) + (N1 : Int)) = ((N1 + N2 : Nat) : Int) := by rw [IntKind.wrap_i64]; omega
 obtain ⟨NT, hNT⟩ : ∃ NT, NT = N1 + N2 := ⟨_, rfl⟩
 rw [← hNT] at hNt HP0
 have HP1 := Lib.hid HP0
 have hNTn : NT ≤ n := by omega
 have hst := fun W => slice_to W A n c NT (by have := hc.1; omega)
 clear h2 h3 hFM hRS hD2 hsf hNK hRv hRl HF HSm hDl2 hSm2 hD2l HP0
 have hZ0 := Blk.new w 34 #[.string ⟨#[]⟩, .int .i64 0, .string ⟨#[]⟩, .int .i64 0, .int .i64 0, .int .i64 0, .string ⟨#[]⟩, .string ⟨#[]⟩, .int .i64 0, .int .i64 0, .slice none 0 0]
 have hB0 := (Below.refl w.heap.size w).alloc (Nat.le_refl _) (.cells #[.string ⟨#[]⟩, .int .i64 0, .string ⟨#[]⟩, .int .i64 0, .int .i64 0, .int .i64 0, .string ⟨#[]⟩, .string ⟨#[]⟩, .int .i64 0, .int .i64 0, .slice none 0 0] 34)
 have HZ0 := Lib.hid hZ0
 have HB0 := Lib.hid hB0
 have HA := Lib.hid hA
 clear hZ0 hB0 hA
 go_enter Tryz.func30, Tryz.ntmps30
 go_wp2_with fail
 refine (HD1.out _ (HA.out.below HB0.out)).mono ?_; rintro e x1 ⟨v1, rfl, ho1, hb1⟩
 obtain ⟨A1, c1, rfl, hs1, ha1⟩ := ho1.form
 have hB1 := HB0.out.trans (hb1.mono HB0.out.size)
 have hB2 := hB1.alloc hB1.size (.cells #[.string (bs n0), .string (bs n1), .string (bs n2), .int .i64 n3, .int .i64 n4, .int .i64 n5, .int .i64 n6, .int .i64 n7, .int .u8 (n8.toNat : Int), .string (bs n9), .string (bs nA)] 74)
 have hZ2 := (HZ0.out.below hb1 HZ0.out.lt).alloc (.cells #[.string (bs n0), .string (bs n1), .string (bs n2), .int .i64 n3, .int .i64 n4, .int .i64 n5, .int .i64 n6, .int .i64 n7, .int .u8 (n8.toNat : Int), .string (bs n9), .string (bs nA)] 74)
 have hH2 := Blk.new x1 74 #[.string (bs n0), .string (bs n1), .string (bs n2), .int .i64 n3, .int .i64 n4, .int .i64 n5, .int .i64 n6, .int .i64 n7, .int .u8 (n8.toNat : Int), .string (bs n9), .string (bs nA)]
 have hO2 := ho1.alloc (.cells #[.string (bs n0), .string (bs n1), .string (bs n2), .int .i64 n3, .int .i64 n4, .int .i64 n5, .int .i64 n6, .int .i64 n7, .int .u8 (n8.toNat : Int), .string (bs n9), .string (bs nA)] 74)
 have hA2 := ha1.below ((Below.refl x1.heap.size x1).alloc (Nat.le_refl _) (.cells #[.string (bs n0), .string (bs n1), .string (bs n2), .int .i64 n3, .int .i64 n4, .int .i64 n5, .int .i64 n6, .int .i64 n7, .int .u8 (n8.toNat : Int), .string (bs n9), .string (bs nA)] 74))
 have hne2 : w.heap.size < x1.heap.size := (HZ0.out.below hb1 HZ0.out.lt).lt
 go_upto_region 2 with fail
 generalize x1.alloc (.cells #[.string (bs n0), .string (bs n1), .string (bs n2), .int .i64 n3, .int .i64 n4, .int .i64 n5, .int .i64 n6, .int .i64 n7, .int .u8 (n8.toNat : Int), .string (bs n9), .string (bs nA)] 74) = x2 at hB2 hZ2 hH2 hO2 hA2 ⊢
 generalize x1.heap.size = gH at hH2 hne2 ⊢
 have HB2 := Lib.hid hB2
 have HZ2 := Lib.hid hZ2
 have HH2 := Lib.hid hH2
 have HO2 := Lib.hid hO2
 have HA2 := Lib.hid hA2
 have HSO := Lib.hid hs1
 clear hA2 hs1 hb1 ho1 ha1 hB1 hB2 hZ2 hH2 hO2 HD1
 have q8 := HH2.out.cell 8
 simp only [List.getElem?_toArray, List.getElem?_cons_succ, List.getElem?_cons_zero] at q8
 have hcv := HA2.out.conv c1 (fun e => by subst e; exact HA2.out.none_nil)
 go_wp2_with fail
 refine (HPx.out _ (S.tab.below HB2.out)).mono ?_; rintro e x3 ⟨A3, k3, c3, rfl, hr3, hb3⟩
 have HB3 := Lib.hid (HB2.out.trans (hb3.mono HB2.out.size))
 have HZ3 := Lib.hid (HZ2.out.below hb3 HZ2.out.lt)
 have HH3 := Lib.hid (HH2.out.below hb3 HH2.out.lt)
 have HR3 := Lib.hid hr3
 have HGH := Lib.hid HH2.out.lt
 clear hb3 hcv q8 hr3 HZ2 HH2 HO2 HA2 HSO
 go_wp2_with fail
 refine (HD2.out _ ((HA.out.below HB3.out).cut (c := c) (by have := HC.out.1; omega) N1 (by omega))).mono ?_; rintro e x4 ⟨v4, rfl, ho4, hb4⟩
 obtain ⟨A4, c4, rfl, hs4, ha4⟩ := ho4.form
 have hH4 := HH3.out.below hb4 HH3.out.lt
 have hZ4 := HZ3.out.below hb4 HZ3.out.lt
 have hR4 := HR3.out.below hb4
 have hg3 : gH < x3.heap.size := HH3.out.lt
 have hw3 : w.heap.size < x3.heap.size := HZ3.out.lt
 have hB4 := HB3.out.trans (hb4.mono HB3.out.size)
 obtain ⟨⟨q0, q1, q2, q3, q4, q5, q6, q7, q8, q9, qA⟩, f0, f1, f2, f3, f4, f5, f6, f7, f8, f9, fA⟩ := blk11 hH4
 have hB5 := below_set11 hB4 (Nat.le_of_lt hne2) (.string (bs m0)) (.string (bs m1)) (.string (bs m2)) (.int .i64 m3) (.int .i64 m4) (.int .i64 m5) (.int .i64 m6) (.int .i64 m7) (.int .u8 (m8.toNat : Int)) (.string (bs m9)) (.string (bs mA))
 have hZ5 : Blk (((((((((((x4.setCell ⟨gH, 0, none⟩ (.string (bs m0))).setCell ⟨gH, 1, none⟩ (.string (bs m1))).setCell ⟨gH, 2, none⟩ (.string (bs m2))).setCell ⟨gH, 3, none⟩ (.int .i64 m3)).setCell ⟨gH, 4, none⟩ (.int .i64 m4)).setCell ⟨gH, 5, none⟩ (.int .i64 m5)).setCell ⟨gH, 6, none⟩ (.int .i64 m6)).setCell ⟨gH, 7, none⟩ (.int .i64 m7)).setCell ⟨gH, 8, none⟩ (.int .u8 (m8.toNat : Int))).setCell ⟨gH, 9, none⟩ (.string (bs m9))).setCell ⟨gH, 10, none⟩ (.string (bs mA))) w.heap.size 34 #[.string ⟨#[]⟩, .int .i64 0, .string ⟨#[]⟩, .int .i64 0, .int .i64 0, .int .i64 0, .string ⟨#[]⟩, .string ⟨#[]⟩, .int .i64 0, .int .i64 0, .slice none 0 0] := far11 hZ4 (Nat.ne_of_lt hne2) (.string (bs m0)) (.string (bs m1)) (.string (bs m2)) (.int .i64 m3) (.int .i64 m4) (.int .i64 m5) (.int .i64 m6) (.int .i64 m7) (.int .u8 (m8.toNat : Int)) (.string (bs m9)) (.string (bs mA))
 have hH5 : Blk (((((((((((x4.setCell ⟨gH, 0, none⟩ (.string (bs m0))).setCell ⟨gH, 1, none⟩ (.string (bs m1))).setCell ⟨gH, 2, none⟩ (.string (bs m2))).setCell ⟨gH, 3, none⟩ (.int .i64 m3)).setCell ⟨gH, 4, none⟩ (.int .i64 m4)).setCell ⟨gH, 5, none⟩ (.int .i64 m5)).setCell ⟨gH, 6, none⟩ (.int .i64 m6)).setCell ⟨gH, 7, none⟩ (.int .i64 m7)).setCell ⟨gH, 8, none⟩ (.int .u8 (m8.toNat : Int))).setCell ⟨gH, 9, none⟩ (.string (bs m9))).setCell ⟨gH, 10, none⟩ (.string (bs mA))) gH 74 #[.string (bs m0), .string (bs m1), .string (bs m2), .int .i64 m3, .int .i64 m4, .int .i64 m5, .int .i64 m6, .int .i64 m7, .int .u8 (m8.toNat : Int), .string (bs m9), .string (bs mA)] := blk_set11 hH4 (.string (bs m0)) (.string (bs m1)) (.string (bs m2)) (.int .i64 m3) (.int .i64 m4) (.int .i64 m5) (.int .i64 m6) (.int .i64 m7) (.int .u8 (m8.toNat : Int)) (.string (bs m9)) (.string (bs mA))
 have hO5 := own_set11 ho4 hg3 (.string (bs m0)) (.string (bs m1)) (.string (bs m2)) (.int .i64 m3) (.int .i64 m4) (.int .i64 m5) (.int .i64 m6) (.int .i64 m7) (.int .u8 (m8.toNat : Int)) (.string (bs m9)) (.string (bs mA))
 have hR5 := own_set11r hR4 HGH.out (.string (bs m0)) (.string (bs m1)) (.string (bs m2)) (.int .i64 m3) (.int .i64 m4) (.int .i64 m5) (.int .i64 m6) (.int .i64 m7) (.int .u8 (m8.toNat : Int)) (.string (bs m9)) (.string (bs mA))
 obtain ⟨A9, c9, e9, -, hA5⟩ := hO5.form
 injection e9 with e91 e92 e93
 subst e91 e93
 clear e92
 go_upto_region 11 with fail
 generalize (((((((((((x4.setCell ⟨gH, 0, none⟩ (.string (bs m0))).setCell ⟨gH, 1, none⟩ (.string (bs m1))).setCell ⟨gH, 2, none⟩ (.string (bs m2))).setCell ⟨gH, 3, none⟩ (.int .i64 m3)).setCell ⟨gH, 4, none⟩ (.int .i64 m4)).setCell ⟨gH, 5, none⟩ (.int .i64 m5)).setCell ⟨gH, 6, none⟩ (.int .i64 m6)).setCell ⟨gH, 7, none⟩ (.int .i64 m7)).setCell ⟨gH, 8, none⟩ (.int .u8 (m8.toNat : Int))).setCell ⟨gH, 9, none⟩ (.string (bs m9))).setCell ⟨gH, 10, none⟩ (.string (bs mA))) = x5 at hB5 hZ5 hH5 hO5 hR5 hA5 ⊢
 have HB5 := Lib.hid hB5
 have HZ5 := Lib.hid hZ5
 have HH5 := Lib.hid hH5
 have HO5 := Lib.hid hO5
 have HR5 := Lib.hid hR5
 have HAD := Lib.hid hA5
 have HSO := Lib.hid hs4
 have HLT := Lib.hid hw3
 have HKN : Hid (RS.length = k3) := hR5.1
 clear ho4 ha4 hs4 hb4 hH4 hZ4 hR4 hB4 hB5 hZ5 hH5 hO5 hR5 hA5 q0 q1 q2 q3 q4 q5 q6 q7 q8 q9 qA f0 f1 f2 f3 f4 f5 f6 f7 f8 f9 fA hsf2 hg3 hw3 HH3 HZ3 HB3 HR3 HPx HD2 HC hNT hty HGH
 have HT := Lib.hid (read_told HP1.out (told_fold HNK.out))
 have HEn := Lib.hid fun W SW hR => entry_any ⟨m0, m1, m2, m3, m4, m5, m6, m7, m8, m9, mA⟩ HSm2.out A4 c4 D2 A3 k3 c3 RS HKN.out (by first | exact HRl.out | exact HKN.out ▸ HRl.out) (fun r hr => Nat.le_trans (HRv.out r hr) (by decide)) W SW hR
 have hyd : (RS.foldl takF (bareF ⟨m0, m1, m2, m3, m4, m5, m6, m7, m8, m9, mA⟩ D2)).data = D2 := fold_data _ _
 have hysz := took_small HSm2.out HNK.out HRv.out (by first | exact HD2l.out | (have := HD2l.out; omega))
 obtain ⟨y, HY⟩ := hid_name (RS.foldl takF (bareF ⟨m0, m1, m2, m3, m4, m5, m6, m7, m8, m9, mA⟩ D2))
 rw [HY.out] at HT HEn hyd hysz
 have HWr := Lib.hid fun W TW hA hsl => mWrite_any y A4 c4 hysz W TW hA hsl
 have hsY : SlOk A4 y.data.length c4 := by rw [hyd]; exact HSO.out
 have HSY := Lib.hid hsY
 have HAY : Hid (∀ W, Below x5.heap.size x5 W → BytsAt W A4 y.data) := fun W h => by rw [hyd]; exact HAD.out.below h
 have HYD := Lib.hid hyd
 have hEq := fun (A' : Option Addr) (n' cc' : Nat) (hn' : (bytO y).length = n') W h1 h2 => bEqual_any A' A n' cc' NT c (bytO y) (l.take NT) hn' (by rw [List.length_take]; omega) W h1 h2
 have HEq := Lib.hid hEq
 have HBO : Hid (bytO y = if entE y = 0 then bytesM y else []) := rfl
 generalize bytO y = BO at HWr HEq HBO
 obtain ⟨EY, HEY⟩ := hid_name (entE y)
 rw [HEY.out] at HT HWr HBO
 clear hysz hsY hyd hEq
 unfold headC at HEn
 unfold entC at HEn HWr
 obtain ⟨path, kind, target, ⟨m0', m1', m2', m3', m4', m5', m6'⟩, data⟩ := y
 simp only at HEn HWr HSY HAY HYD
 obtain ⟨dl, HDL⟩ := hid_name data.length
 have HVL : Hid ((entC ⟨path, kind, target, ⟨m0', m1', m2', m3', m4', m5', m6'⟩, data⟩ A4 c4).toArray = #[.string (bs path), .int .i64 kind, .string (bs target), .int .i64 m0', .int .i64 m1', .int .i64 m2', .string (bs m3'), .string (bs m4'), .int .i64 m5', .int .i64 m6', .slice A4 dl c4]) := by unfold Hid; rw [← HDL.out]; rfl
 have HOY : Hid (∀ {W : World} {B n c : Nat} {v : Value}, OwnB W B (.slice A4 n c) D2 → OwnB W B (.slice A4 n c) data) := by intro W B n c v h; rw [HYD.out]; exact h
 rw [HDL.out] at HEn HWr HSY
 obtain ⟨⟨q0, q1, q2, q3, q4, q5, q6, q7, q8, q9, qA⟩, -⟩ := blk11 HH5.out
 go_wp2_with fail
 refine (HEn.out _ (S.below HB5.out) (HR5.out.at)).mono ?_; rintro e x5 ⟨rfl, hb5⟩
 have hE5 := Blk.new x5 34 #[.string (bs path), .int .i64 kind, .string (bs target), .int .i64 m0', .int .i64 m1', .int .i64 m2', .string (bs m3'), .string (bs m4'), .int .i64 m5', .int .i64 m6', .slice A4 dl c4]
 have hX5 := hb5.alloc hb5.size (.cells #[.string (bs path), .int .i64 kind, .string (bs target), .int .i64 m0', .int .i64 m1', .int .i64 m2', .string (bs m3'), .string (bs m4'), .int .i64 m5', .int .i64 m6', .slice A4 dl c4] 34)
 go_upto_region 15 with fail
 generalize x5.alloc (.cells #[.string (bs path), .int .i64 kind, .string (bs target), .int .i64 m0', .int .i64 m1', .int .i64 m2', .string (bs m3'), .string (bs m4'), .int .i64 m5', .int .i64 m6', .slice A4 dl c4] 34) = x6 at hE5 hX5 ⊢
 generalize x5.heap.size = gE at hE5 ⊢
 have HX6 := Lib.hid hX5
 have HE6 := Lib.hid hE5
 obtain ⟨⟨p0, p1, p2, p3, p4, p5, p6, p7, p8, p9, pA⟩, -⟩ := blk11 hE5
 clear hb5 hX5 hE5 q0 q1 q2 q3 q4 q5 q6 q7 q8 q9 qA HEn
 go_wp2_with fail
 refine (HWr.out _ (S.tab.below (HB5.out.trans (HX6.out.mono HB5.out.size))) (HAY.out _ HX6.out) HSY.out).mono ?_; rintro e x7 ⟨AW, nW, cW, rfl, hsW, hnW, haW, hb7⟩
 have HX7 := Lib.hid (HX6.out.trans (hb7.mono HX6.out.size))
 have HE7 := Lib.hid (HE6.out.below hb7 HE6.out.lt)
 have HAW := Lib.hid haW
 have HNW := Lib.hid hnW
 clear hb7 hsW hnW haW p0 p1 p2 p3 p4 p5 p6 p7 p8 p9 pA HX6 HE6 HWr
 by_cases hEY : EY = 0
 ·have HBe : Hid (BO = bytesM ⟨path, kind, target, ⟨m0', m1', m2', m3', m4', m5', m6'⟩, data⟩) := by unfold Hid; rw [HBO.out, if_pos hEY]
  have HQ := Lib.hid (HEq.out AW nW cW HNW.out x7 HAW.out ((HA.out.below (HB5.out.trans (HX7.out.mono HB5.out.size))).take NT))
  by_cases hbq : BO = l.take NT
  ·have hqb : (BO == l.take NT) = true := by rw [hbq]; simp
   rw [hqb] at HQ
   have HF := HT.out
   rw [if_pos ⟨hEY, by rw [← HBe.out]; exact hbq⟩] at HF
   replace HF := Lib.hid HF
   clear hbq HBe HEq HBO hqb
   subst hEY
   obtain ⟨⟨z0, z1, z2, z3, z4, z5, z6, z7, z8, z9, zA⟩, y0, y1, y2, y3, y4, y5, y6, y7, y8, y9, yA⟩ := blk11 (HZ5.out.below HX7.out HZ5.out.lt)
   obtain ⟨⟨p0, p1, p2, p3, p4, p5, p6, p7, p8, p9, pA⟩, -⟩ := blk11 HE7.out
   go_wp2_with fail
   refine HQ.out.mono ?_; rintro e x8 ⟨rfl, rfl⟩
   go_wp2_with fail
   refine bodyPost_ret (v := .tuple #[.agg #[.string (bs path), .int .i64 kind, .string (bs target), .int .i64 m0', .int .i64 m1', .int .i64 m2', .string (bs m3'), .string (bs m4'), .int .i64 m5', .int .i64 m6', .slice A4 dl c4], .int .i64 ((NT : Nat) : Int), .int .i64 0]) (by simp [results, Tryz.results30, go_sem, *]) rfl ?_
   exact fin_yes2 HF.out HVL.out (by rw [HDL.out]; exact HSY.out) (by have hX := (HOY.out (v := .slice none 0 0) (own_set11 (HO5.out.below HX7.out) HLT.out (.string (bs path)) (.int .i64 kind) (.string (bs target)) (.int .i64 m0') (.int .i64 m1') (.int .i64 m2') (.string (bs m3')) (.string (bs m4')) (.int .i64 m5') (.int .i64 m6') (.slice A4 dl c4))).mono (Nat.le_of_lt HLT.out); rw [HYD.out] at hX ⊢; exact hX) (below_set11 (HB5.out.trans (HX7.out.mono HB5.out.size)) (Nat.le_refl _) _ _ _ _ _ _ _ _ _ _ _)
  ·have hqb : (BO == l.take NT) = false := by simpa using hbq
   rw [hqb] at HQ
   have HF := HT.out
   rw [if_neg (fun h => hbq (by rw [HBe.out]; exact h.2))] at HF
   replace HF := Lib.hid HF
   clear hbq HBe HEq HBO hqb
   subst hEY
   obtain ⟨⟨z0, z1, z2, z3, z4, z5, z6, z7, z8, z9, zA⟩, y0, y1, y2, y3, y4, y5, y6, y7, y8, y9, yA⟩ := blk11 (HZ5.out.below HX7.out HZ5.out.lt)
   go_wp2_with fail
   refine HQ.out.mono ?_; rintro e x8 ⟨rfl, rfl⟩
   go_wp2_with fail
   refine bodyPost_ret (v := .tuple #[.agg #[.string ⟨#[]⟩, .int .i64 0, .string ⟨#[]⟩, .int .i64 0, .int .i64 0, .int .i64 0, .string ⟨#[]⟩, .string ⟨#[]⟩, .int .i64 0, .int .i64 0, .slice none 0 0], .int .i64 0, .int .i64 3]) (by simp [results, Tryz.results30, go_sem, *]) rfl ?_
   exact fin_no2 HF.out (below_set11 (HB5.out.trans (HX7.out.mono HB5.out.size)) (Nat.le_refl _) _ _ _ _ _ _ _ _ _ _ _)
 ·have HF := HT.out
  rw [if_neg (fun h => hEY h.1)] at HF
  replace HF := Lib.hid HF
  have hne : (EY != 0) = true := by simpa using hEY
  clear HEq HBO
  obtain ⟨⟨z0, z1, z2, z3, z4, z5, z6, z7, z8, z9, zA⟩, y0, y1, y2, y3, y4, y5, y6, y7, y8, y9, yA⟩ := blk11 (HZ5.out.below HX7.out HZ5.out.lt)
  go_wp2_with fail
  refine bodyPost_ret (v := .tuple #[.agg #[.string ⟨#[]⟩, .int .i64 0, .string ⟨#[]⟩, .int .i64 0, .int .i64 0, .int .i64 0, .string ⟨#[]⟩, .string ⟨#[]⟩, .int .i64 0, .int .i64 0, .slice none 0 0], .int .i64 0, .int .i64 3]) (by simp [results, Tryz.results30, go_sem, *]) rfl ?_
  exact fin_no2 HF.out (below_set11 (HB5.out.trans (HX7.out.mono HB5.out.size)) (Nat.le_refl _) _ _ _ _ _ _ _ _ _ _ _)
set_option maxHeartbeats 16000000 in
theorem mRead_5 (A : Option Addr) (n c : Nat) (l : List UInt8) (hn : l.length = n) (hn2 : n ≤ 281474976000000) (hc : SlOk A n c) (w : World) (S : Std w) (hA : BytsAt w A l) (h1 : (firstM l).2 = 0) (h2 : (firstM l).1.1.typ ≠ 120) :
  Calls Tryz.prog 30 #[.slice A n c] w fun e w' => ∃ D cc, e = .returned (.tuple #[.agg (entC (readM l).1.1 D cc).toArray, .int .i64 ((readM l).1.2 : Nat), .int .i64 (readM l).2]) ∧ SlOk D (readM l).1.1.data.length cc ∧ BytsAt w' D (readM l).1.1.data ∧ OwnB w' w.heap.size (.slice D (readM l).1.1.data.length cc) (readM l).1.1.data ∧ Below w.heap.size w w' := by
 have hN1 := (firstM_size h1).2.1
 have hDl := (firstM_size h1).2.2
 have HP0 := parts_one h1 h2
 have HD1 := Lib.hid fun W h => decode_any A n c l hn hn2 hc W h
 have HSm := Lib.hid (firstM_small l)
 generalize hFM : firstM l = FM at *
 obtain ⟨⟨⟨n0, n1, n2, n3, n4, n5, n6, n7, n8, n9, nA⟩, D1, N1⟩, E1⟩ := FM
 simp only at HD1 HSm
 unfold headC at HD1
 simp only at HD1
 simp only at h1 h2 hN1 hDl HP0
 subst h1
 have hty : ((n8.toNat : Int) == 120) = false := by
  rw [beq_eq_false_iff_ne]; intro e
  exact h2 (UInt8.toNat_inj.1 (by show n8.toNat = 120; omega))
 have HP1 := Lib.hid HP0
 have HRv : Hid (∀ r ∈ ([] : List Rc), r.2.length ≤ 500) := fun r hr => by cases hr
 have HRl : Hid (([] : List Rc).length ≤ 1000000) := Nat.zero_le _
 have HNK : Hid (keysR []).Nodup := List.nodup_nil
 have hD2l : D1.length ≤ 140737488351232 := by omega
 have HD2l := Lib.hid hD2l
 have hNTn : N1 ≤ n := by omega
 have hst := fun W => slice_to W A n c N1 (by have := hc.1; omega)
 have HKN : Hid (([] : List Rc).length = 0) := rfl
 clear h2 hFM hD2l HP0 hN1 hDl
 have hZ0 := Blk.new w 34 #[.string ⟨#[]⟩, .int .i64 0, .string ⟨#[]⟩, .int .i64 0, .int .i64 0, .int .i64 0, .string ⟨#[]⟩, .string ⟨#[]⟩, .int .i64 0, .int .i64 0, .slice none 0 0]
 have hB0 := (Below.refl w.heap.size w).alloc (Nat.le_refl _) (.cells #[.string ⟨#[]⟩, .int .i64 0, .string ⟨#[]⟩, .int .i64 0, .int .i64 0, .int .i64 0, .string ⟨#[]⟩, .string ⟨#[]⟩, .int .i64 0, .int .i64 0, .slice none 0 0] 34)
 have HZ0 := Lib.hid hZ0
 have HB0 := Lib.hid hB0
 have HA := Lib.hid hA
 clear hZ0 hB0 hA
 go_enter Tryz.func30, Tryz.ntmps30
 go_wp2_with fail
 refine (HD1.out _ (HA.out.below HB0.out)).mono ?_; rintro e x1 ⟨v1, rfl, ho1, hb1⟩
 obtain ⟨A1, c1, rfl, hs1, ha1⟩ := ho1.form
 have hB1 := HB0.out.trans (hb1.mono HB0.out.size)
 have hB2 := hB1.alloc hB1.size (.cells #[.string (bs n0), .string (bs n1), .string (bs n2), .int .i64 n3, .int .i64 n4, .int .i64 n5, .int .i64 n6, .int .i64 n7, .int .u8 (n8.toNat : Int), .string (bs n9), .string (bs nA)] 74)
 have hZ2 := (HZ0.out.below hb1 HZ0.out.lt).alloc (.cells #[.string (bs n0), .string (bs n1), .string (bs n2), .int .i64 n3, .int .i64 n4, .int .i64 n5, .int .i64 n6, .int .i64 n7, .int .u8 (n8.toNat : Int), .string (bs n9), .string (bs nA)] 74)
 have hH2 := Blk.new x1 74 #[.string (bs n0), .string (bs n1), .string (bs n2), .int .i64 n3, .int .i64 n4, .int .i64 n5, .int .i64 n6, .int .i64 n7, .int .u8 (n8.toNat : Int), .string (bs n9), .string (bs nA)]
 have hO2 := ho1.alloc (.cells #[.string (bs n0), .string (bs n1), .string (bs n2), .int .i64 n3, .int .i64 n4, .int .i64 n5, .int .i64 n6, .int .i64 n7, .int .u8 (n8.toNat : Int), .string (bs n9), .string (bs nA)] 74)
 have hA2 := ha1.below ((Below.refl x1.heap.size x1).alloc (Nat.le_refl _) (.cells #[.string (bs n0), .string (bs n1), .string (bs n2), .int .i64 n3, .int .i64 n4, .int .i64 n5, .int .i64 n6, .int .i64 n7, .int .u8 (n8.toNat : Int), .string (bs n9), .string (bs nA)] 74))
 have hne2 : w.heap.size < x1.heap.size := (HZ0.out.below hb1 HZ0.out.lt).lt
 go_upto_region 2 with fail
 generalize x1.alloc (.cells #[.string (bs n0), .string (bs n1), .string (bs n2), .int .i64 n3, .int .i64 n4, .int .i64 n5, .int .i64 n6, .int .i64 n7, .int .u8 (n8.toNat : Int), .string (bs n9), .string (bs nA)] 74) = x2 at hB2 hZ2 hH2 hO2 hA2 ⊢
 generalize x1.heap.size = gH at hH2 hne2 ⊢
 have HB2 := Lib.hid hB2
 have HZ2 := Lib.hid hZ2
 have HH2 := Lib.hid hH2
 have HO2 := Lib.hid hO2
 have HA2 := Lib.hid hA2
 have HSO := Lib.hid hs1
 clear hA2 hs1 hb1 ho1 ha1 hB1 hB2 hZ2 hH2 hO2 HD1
 have HLT : Hid (w.heap.size < (w.alloc (.cells #[.string ⟨#[]⟩, .int .i64 0, .string ⟨#[]⟩, .int .i64 0, .int .i64 0, .int .i64 0, .string ⟨#[]⟩, .string ⟨#[]⟩, .int .i64 0, .int .i64 0, .slice none 0 0] 34)).heap.size) := by unfold Hid; rw [hszA]; exact Nat.lt_succ_self _
 have q8 := HH2.out.cell 8
 simp only [List.getElem?_toArray, List.getElem?_cons_succ, List.getElem?_cons_zero] at q8
 clear hne2
 go_upto_region 14 with fail
 clear q8 hty
 have HT := Lib.hid (read_told HP1.out (told_fold HNK.out))
 have HEn := Lib.hid fun W SW hR => entry_any ⟨n0, n1, n2, n3, n4, n5, n6, n7, n8, n9, nA⟩ HSm.out A1 c1 D1 none 0 0 ([] : List Rc) HKN.out (by first | exact HRl.out | exact HKN.out ▸ HRl.out) (fun r hr => Nat.le_trans (HRv.out r hr) (by decide)) W SW hR
 have hyd : (([] : List Rc).foldl takF (bareF ⟨n0, n1, n2, n3, n4, n5, n6, n7, n8, n9, nA⟩ D1)).data = D1 := fold_data _ _
 have hysz := took_small HSm.out HNK.out HRv.out (by first | exact HD2l.out | (have := HD2l.out; omega))
 obtain ⟨y, HY⟩ := hid_name (([] : List Rc).foldl takF (bareF ⟨n0, n1, n2, n3, n4, n5, n6, n7, n8, n9, nA⟩ D1))
 rw [HY.out] at HT HEn hyd hysz
 have HWr := Lib.hid fun W TW hA hsl => mWrite_any y A1 c1 hysz W TW hA hsl
 have hsY : SlOk A1 y.data.length c1 := by rw [hyd]; exact HSO.out
 have HSY := Lib.hid hsY
 have HAY : Hid (∀ W, Below x2.heap.size x2 W → BytsAt W A1 y.data) := fun W h => by rw [hyd]; exact HA2.out.below h
 have HYD := Lib.hid hyd
 have hEq := fun (A' : Option Addr) (n' cc' : Nat) (hn' : (bytO y).length = n') W h1 h2 => bEqual_any A' A n' cc' N1 c (bytO y) (l.take N1) hn' (by rw [List.length_take]; omega) W h1 h2
 have HEq := Lib.hid hEq
 have HBO : Hid (bytO y = if entE y = 0 then bytesM y else []) := rfl
 generalize bytO y = BO at HWr HEq HBO
 obtain ⟨EY, HEY⟩ := hid_name (entE y)
 rw [HEY.out] at HT HWr HBO
 clear hysz hsY hyd hEq
 unfold headC at HEn
 unfold entC at HEn HWr
 obtain ⟨path, kind, target, ⟨m0', m1', m2', m3', m4', m5', m6'⟩, data⟩ := y
 simp only at HEn HWr HSY HAY HYD
 obtain ⟨dl, HDL⟩ := hid_name data.length
 have HVL : Hid ((entC ⟨path, kind, target, ⟨m0', m1', m2', m3', m4', m5', m6'⟩, data⟩ A1 c1).toArray = #[.string (bs path), .int .i64 kind, .string (bs target), .int .i64 m0', .int .i64 m1', .int .i64 m2', .string (bs m3'), .string (bs m4'), .int .i64 m5', .int .i64 m6', .slice A1 dl c1]) := by unfold Hid; rw [← HDL.out]; rfl
 have HOY : Hid (∀ {W : World} {B n c : Nat} {v : Value}, OwnB W B (.slice A1 n c) D1 → OwnB W B (.slice A1 n c) data) := by intro W B n c v h; rw [HYD.out]; exact h
 rw [HDL.out] at HEn HWr HSY
 obtain ⟨⟨q0, q1, q2, q3, q4, q5, q6, q7, q8, q9, qA⟩, -⟩ := blk11 HH2.out
 go_wp2_with fail
 refine (HEn.out _ (S.below HB2.out) (RecsAt.nil _ _)).mono ?_; rintro e x5 ⟨rfl, hb5⟩
 have hE5 := Blk.new x5 34 #[.string (bs path), .int .i64 kind, .string (bs target), .int .i64 m0', .int .i64 m1', .int .i64 m2', .string (bs m3'), .string (bs m4'), .int .i64 m5', .int .i64 m6', .slice A1 dl c1]
 have hX5 := hb5.alloc hb5.size (.cells #[.string (bs path), .int .i64 kind, .string (bs target), .int .i64 m0', .int .i64 m1', .int .i64 m2', .string (bs m3'), .string (bs m4'), .int .i64 m5', .int .i64 m6', .slice A1 dl c1] 34)
 go_upto_region 15 with fail
 generalize x5.alloc (.cells #[.string (bs path), .int .i64 kind, .string (bs target), .int .i64 m0', .int .i64 m1', .int .i64 m2', .string (bs m3'), .string (bs m4'), .int .i64 m5', .int .i64 m6', .slice A1 dl c1] 34) = x6 at hE5 hX5 ⊢
 generalize x5.heap.size = gE at hE5 ⊢
 have HX6 := Lib.hid hX5
 have HE6 := Lib.hid hE5
 obtain ⟨⟨p0, p1, p2, p3, p4, p5, p6, p7, p8, p9, pA⟩, -⟩ := blk11 hE5
 clear hb5 hX5 hE5 q0 q1 q2 q3 q4 q5 q6 q7 q8 q9 qA HEn
 go_wp2_with fail
 refine (HWr.out _ (S.tab.below (HB2.out.trans (HX6.out.mono HB2.out.size))) (HAY.out _ HX6.out) HSY.out).mono ?_; rintro e x7 ⟨AW, nW, cW, rfl, hsW, hnW, haW, hb7⟩
 have HX7 := Lib.hid (HX6.out.trans (hb7.mono HX6.out.size))
 have HE7 := Lib.hid (HE6.out.below hb7 HE6.out.lt)
 have HAW := Lib.hid haW
 have HNW := Lib.hid hnW
 clear hb7 hsW hnW haW p0 p1 p2 p3 p4 p5 p6 p7 p8 p9 pA HX6 HE6 HWr
 by_cases hEY : EY = 0
 ·have HBe : Hid (BO = bytesM ⟨path, kind, target, ⟨m0', m1', m2', m3', m4', m5', m6'⟩, data⟩) := by unfold Hid; rw [HBO.out, if_pos hEY]
  have HQ := Lib.hid (HEq.out AW nW cW HNW.out x7 HAW.out ((HA.out.below (HB2.out.trans (HX7.out.mono HB2.out.size))).take N1))
  by_cases hbq : BO = l.take N1
  ·have hqb : (BO == l.take N1) = true := by rw [hbq]; simp
   rw [hqb] at HQ
   have HF := HT.out
   rw [if_pos ⟨hEY, by rw [← HBe.out]; exact hbq⟩] at HF
   replace HF := Lib.hid HF
   clear hbq HBe HEq HBO hqb
   subst hEY
   obtain ⟨⟨z0, z1, z2, z3, z4, z5, z6, z7, z8, z9, zA⟩, y0, y1, y2, y3, y4, y5, y6, y7, y8, y9, yA⟩ := blk11 (HZ2.out.below HX7.out HZ2.out.lt)
   obtain ⟨⟨p0, p1, p2, p3, p4, p5, p6, p7, p8, p9, pA⟩, -⟩ := blk11 HE7.out
   go_wp2_with fail
   refine HQ.out.mono ?_; rintro e x8 ⟨rfl, rfl⟩
   go_wp2_with fail
   refine bodyPost_ret (v := .tuple #[.agg #[.string (bs path), .int .i64 kind, .string (bs target), .int .i64 m0', .int .i64 m1', .int .i64 m2', .string (bs m3'), .string (bs m4'), .int .i64 m5', .int .i64 m6', .slice A1 dl c1], .int .i64 ((N1 : Nat) : Int), .int .i64 0]) (by simp [results, Tryz.results30, go_sem, *]) rfl ?_
   exact fin_yes2 HF.out HVL.out (by rw [HDL.out]; exact HSY.out) (by have hX := (HOY.out (v := .slice none 0 0) (own_set11 (HO2.out.below HX7.out) HLT.out (.string (bs path)) (.int .i64 kind) (.string (bs target)) (.int .i64 m0') (.int .i64 m1') (.int .i64 m2') (.string (bs m3')) (.string (bs m4')) (.int .i64 m5') (.int .i64 m6') (.slice A1 dl c1))).mono (Nat.le_of_lt HLT.out); rw [HYD.out] at hX ⊢; exact hX) (below_set11 (HB2.out.trans (HX7.out.mono HB2.out.size)) (Nat.le_refl _) _ _ _ _ _ _ _ _ _ _ _)
  ·have hqb : (BO == l.take N1) = false := by simpa using hbq
   rw [hqb] at HQ
   have HF := HT.out
   rw [if_neg (fun h => hbq (by rw [HBe.out]; exact h.2))] at HF
   replace HF := Lib.hid HF
   clear hbq HBe HEq HBO hqb
   subst hEY
   obtain ⟨⟨z0, z1, z2, z3, z4, z5, z6, z7, z8, z9, zA⟩, y0, y1, y2, y3, y4, y5, y6, y7, y8, y9, yA⟩ := blk11 (HZ2.out.below HX7.out HZ2.out.lt)
   go_wp2_with fail
   refine HQ.out.mono ?_; rintro e x8 ⟨rfl, rfl⟩
   go_wp2_with fail
   refine bodyPost_ret (v := .tuple #[.agg #[.string ⟨#[]⟩, .int .i64 0, .string ⟨#[]⟩, .int .i64 0, .int .i64 0, .int .i64 0, .string ⟨#[]⟩, .string ⟨#[]⟩, .int .i64 0, .int .i64 0, .slice none 0 0], .int .i64 0, .int .i64 3]) (by simp [results, Tryz.results30, go_sem, *]) rfl ?_
   exact fin_no2 HF.out (below_set11 (HB2.out.trans (HX7.out.mono HB2.out.size)) (Nat.le_refl _) _ _ _ _ _ _ _ _ _ _ _)
 ·have HF := HT.out
  rw [if_neg (fun h => hEY h.1)] at HF
  replace HF := Lib.hid HF
  have hne : (EY != 0) = true := by simpa using hEY
  clear HEq HBO
  obtain ⟨⟨z0, z1, z2, z3, z4, z5, z6, z7, z8, z9, zA⟩, y0, y1, y2, y3, y4, y5, y6, y7, y8, y9, yA⟩ := blk11 (HZ2.out.below HX7.out HZ2.out.lt)
  go_wp2_with fail
  refine bodyPost_ret (v := .tuple #[.agg #[.string ⟨#[]⟩, .int .i64 0, .string ⟨#[]⟩, .int .i64 0, .int .i64 0, .int .i64 0, .string ⟨#[]⟩, .string ⟨#[]⟩, .int .i64 0, .int .i64 0, .slice none 0 0], .int .i64 0, .int .i64 3]) (by simp [results, Tryz.results30, go_sem, *]) rfl ?_
  exact fin_no2 HF.out (below_set11 (HB2.out.trans (HX7.out.mono HB2.out.size)) (Nat.le_refl _) _ _ _ _ _ _ _ _ _ _ _)
theorem mRead_own (A : Option Addr) (n c : Nat) (l : List UInt8) (hn : l.length = n) (hn2 : n ≤ 281474976000000) (hc : SlOk A n c) (w : World) (S : Std w) (hA : BytsAt w A l) :
  Calls Tryz.prog 30 #[.slice A n c] w fun e w' => ∃ D cc, e = .returned (.tuple #[.agg (entC (readM l).1.1 D cc).toArray, .int .i64 ((readM l).1.2 : Nat), .int .i64 (readM l).2]) ∧ SlOk D (readM l).1.1.data.length cc ∧ BytsAt w' D (readM l).1.1.data ∧ OwnB w' w.heap.size (.slice D (readM l).1.1.data.length cc) (readM l).1.1.data ∧ Below w.heap.size w w' := by
 by_cases h1 : (firstM l).2 = 0
 ·by_cases h2 : (firstM l).1.1.typ = 120
  ·by_cases h3 : (paxR (firstM l).1.2.1).2 = 0
   ·by_cases h4 : (firstM (l.drop (firstM l).1.2.2)).2 = 0
    ·exact mRead_4 A n c l hn hn2 hc w S hA h1 h2 h3 h4
    ·exact mRead_3 A n c l hn hn2 hc w S hA h1 h2 h3 h4
   ·exact mRead_2 A n c l hn hn2 hc w S hA h1 h2 h3
  ·exact mRead_5 A n c l hn hn2 hc w S hA h1 h2
 ·exact mRead_1 A n c l hn hn2 hc w S hA h1
end Go.Proofs.YtmejnabngfpbeaaGreatDoor
