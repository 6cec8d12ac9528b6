/- Texts of one kind, in one file: ReaA, ReaB, ReaD, ReaC. -/
import Derived.Test.YtmejnabngfpbeaaGreatDoorRea
import Derived.Test.YtmejnabngfpbeaaGreatDoorEnf
import Derived.Test.YtmejnabngfpbeaaGreatDoorPdc
import Derived.Test.YtmejnabngfpbeaaGreatDoorFld
import Derived.Test.YtmejnabngfpbeaaGreatDoorStp
import Derived.Deep.DeepCutAuto
import Derived.BigQuiet
import Derived.Test.YtmejnabngfpbeaaGreatDoorMrG
import Derived.Test.YtmejnabngfpbeaaGreatDoorEnc
set_option linter.unusedVariables false
set_option maxRecDepth 100000
namespace Go.Proofs.YtmejnabngfpbeaaGreatDoor
open Go.RowKit
open Go.OpenShut
theorem bs_zer (B : List UInt8) (n : Nat) : ((bs B).toList == (zer n).toList) = decide (B = List.replicate n 0) := by
 rw [str_eq, decide_eq_decide]
 constructor
 ·intro e
  have := congrArg (fun s => s.data.toList) e
  simpa [bs, zer] using this
 ·rintro rfl; rfl
def MOfSaid : Prop := ∀ (A : Option Addr) (n c : Nat) (l : List UInt8), l.length = n → n ≤ 140737488351232 → SlOk A n c → ∀ w : World, Std w → BytsAt w A l →
  Calls Tryz.prog 31 #[.slice A n c] w fun e w' => ∃ D cc, e = .returned (.tuple #[.agg (entC (readM l).1.1 D cc).toArray, .int .i64 ((readM l).1.2 : Nat), .int .i64 (readM l).2]) ∧ OwnB w' w.heap.size (.slice D (readM l).1.1.data.length cc) (readM l).1.1.data ∧ Below w.heap.size w w'
set_option maxHeartbeats 8000000 in
theorem rSome_of (MO : MOfSaid) (A : Option Addr) (n c : Nat) (l : List UInt8) (hn : l.length = n) (hn2 : n ≤ 140737488351232) (hc : SlOk A n c) (w : World) (S : Std w) (hA : BytsAt w A l) :
  Calls Tryz.prog 15 #[.slice A n c] w fun e w' => ∃ v xs, e = .returned (.tuple #[v, .int .i64 ((someM l).1.2 : Nat), .int .i64 (someM l).2]) ∧ xs.map (·.1) = (someM l).1.1 ∧ OwnE w' w.heap.size v xs ∧ Below w.heap.size w w' := by
 have HC := Lib.hid hc
 have HA := Lib.hid hA
 have HN := Lib.hid hn
 have hcap := hc.1
 have hmx := hc.2.1
 unfold maxLen at hmx
 clear hc hA hn
 go_enter Tryz.func15, Tryz.ntmps15
 go_wp2_with fail
 go_loopw [5, 6] (fun ov av wr => ∃ (a : Nat) (xs : List EntP), av = .int .i64 a ∧ Hid (SomeAt l (xs.map (·.1)) a) ∧ Hid (OwnE wr w.heap.size ov xs) ∧ Hid (Below w.heap.size w wr)) (fun _ av _ => n - (intOf av).toNat)
 case atStart => exact ⟨0, [], rfl, SomeAt.start l, OwnE.nil _ _, Below.refl _ _⟩
 case round =>
  obtain ⟨a, xs, rfl, HS, HF, HB⟩ := hrel
  have ha : a ≤ n := by have := HS.out.1; have := HN.out; omega
  by_cases h5 : a + 512 ≤ n
  ·have h5' : (a : Int) + 512 ≤ (n : Int) := by omega
   have hcut := (HA.out.below HB.out).cut (c := c) (by have := HN.out; omega) a (by have := HN.out; omega)
   have hsl := HC.out.cut a ha (n - a) (by omega)
   have hsl5 := HC.out.cut a ha 512 (by omega)
   have s1 : ∀ W : World, (Instr.slice 22 (.slice A n c) (some (.int .i64 (a : Int))) (some (.int .i64 ((a : Int) + 512))) none).run Tryz.prog W = .ok (.slice (cutA A c a) 512 (c - a)) W := fun W => by
    have h := slice_mid W A n c a (a + 512) (by omega) (by omega)
    rw [show a + 512 - a = 512 by omega] at h
    exact h
   have s2 := fun W => slice_from W A n c a ha
   have hld : (l.drop a).length = n - a := by rw [List.length_drop, HN.out]
   have hl5 : ((l.drop a).take 512).length = 512 := by rw [List.length_take, hld]; omega
   have s3 := fun q => BytsAt.conv (w := wr.drewN q) (hcut.take 512) (c - a) (fun e => by have h1 := hsl5.2.2 e; have h2 := hsl5.1; omega)
   simp only [hl5] at s3
   have HM := Lib.hid (fun q => MO (cutA A c a) (n - a) (c - a) (l.drop a) hld (by omega) hsl (wr.drewN q) (S.below (below_drewN HB.out _)) (hcut.below (below_drewN (Below.refl _ _) _)))
   generalize cutA A c a = C at *
   have hnz : ¬ (l.drop a).length < 512 := by omega
   have hcz := bs_zer ((l.drop a).take 512) 512
   have HAZ := Lib.hid (allZ_rep ((l.drop a).take 512))
   rw [hl5] at HAZ
   rw [← HAZ.out] at hcz
   have HCt := Lib.hid HS.out.count
   rw [List.length_map] at HCt
   by_cases h2 : allZ ((l.drop a).take 512) = true
   ·have hsm := HS.out.done (some_stop hnz h2)
    rw [h2] at hcz
    generalize bs ((l.drop a).take 512) = LB at hcz s3
    clear HM HAZ h2 hnz hl5 hld hsl hsl5 hcut s2
    go_upto_region 4 with fail
    go_quiet ((go_at_call 27; exact Calls.quiet_of_same (flip_same (zeros_any 512 512 _ rfl (by omega)))))
    go_wp2_with fail
    refine bodyPost_ret (v := .tuple #[u5, .int .i64 (a : Int), .int .i64 0]) (by simp [results, Tryz.results15, go_sem, *]) rfl ?_
    rw [hsm]
    exact ⟨_, xs, rfl, rfl, HF.out.below (below_drewN (Below.refl _ _) _), below_drewN HB.out _⟩
   ·have HErr := Lib.hid (fun h3 => HS.out.done (some_err hnz h2 h3))
    have HNext := Lib.hid (fun h3 => HS.out.next hnz h2 h3)
    have HStep := Lib.hid (fun h3 => read_step (b := l.drop a) h3)
    rw [Bool.not_eq_true] at h2
    rw [h2] at hcz
    generalize bs ((l.drop a).take 512) = LB at hcz s3
    generalize readM (l.drop a) = R at HM HErr HNext HStep
    obtain ⟨⟨y, N⟩, E2⟩ := R
    simp only at HM HErr HNext HStep
    have HY : Hid (∀ D1 c1, (entC y D1 c1).toArray = #[.string (bs y.path), .int .i64 y.kind, .string (bs y.target), .int .i64 y.md.mode, .int .i64 y.md.uid, .int .i64 y.md.gid, .string (bs y.md.user), .string (bs y.md.group), .int .i64 y.md.second, .int .i64 y.md.nano, .slice D1 y.data.length c1]) := fun _ _ => rfl
    simp only [HY.out] at HM
    obtain ⟨dl, HDL⟩ := hid_name y.data.length
    simp only [HDL.out] at HM
    have hNn : E2 = 0 → a + N ≤ n ∧ 512 ≤ N := fun h3 => by
     have h4 := (HNext.out h3).1
     have h5 := (HStep.out h3).2.2.2.1
     have := HN.out
     omega
    clear HAZ h2 hnz hl5 hld hsl hsl5 hcut HY
    go_upto_region 4 with fail
    go_quiet ((go_at_call 27; exact Calls.quiet_of_same (flip_same (zeros_any 512 512 _ rfl (by omega)))))
    go_wp2_with fail
    refine (HM.out _).mono ?_; rintro e x1 ⟨D1, c1, rfl, hd1, hb⟩
    have hbw := (below_drewN (Below.refl wr.heap.size wr) _).trans hb
    have HBa := Lib.hid ((HB.out.trans (hbw.mono HB.out.size)).alloc (HB.out.trans (hbw.mono HB.out.size)).size (.cells #[.string (bs y.path), .int .i64 y.kind, .string (bs y.target), .int .i64 y.md.mode, .int .i64 y.md.uid, .int .i64 y.md.gid, .string (bs y.md.user), .string (bs y.md.group), .int .i64 y.md.second, .int .i64 y.md.nano, .slice D1 dl c1] 34))
    have HEa := Lib.hid (Blk.new x1 34 #[.string (bs y.path), .int .i64 y.kind, .string (bs y.target), .int .i64 y.md.mode, .int .i64 y.md.uid, .int .i64 y.md.gid, .string (bs y.md.user), .string (bs y.md.group), .int .i64 y.md.second, .int .i64 y.md.nano, .slice D1 dl c1])
    have HFa := Lib.hid ((HF.out.below hbw).alloc (.cells #[.string (bs y.path), .int .i64 y.kind, .string (bs y.target), .int .i64 y.md.mode, .int .i64 y.md.uid, .int .i64 y.md.gid, .string (bs y.md.user), .string (bs y.md.group), .int .i64 y.md.second, .int .i64 y.md.nano, .slice D1 dl c1] 34))
    have HDa := Lib.hid ((hd1.mono (B' := w.heap.size) (HB.out.size)).alloc (.cells #[.string (bs y.path), .int .i64 y.kind, .string (bs y.target), .int .i64 y.md.mode, .int .i64 y.md.uid, .int .i64 y.md.gid, .string (bs y.md.user), .string (bs y.md.group), .int .i64 y.md.second, .int .i64 y.md.nano, .slice D1 dl c1] 34))
    clear hb hbw hd1 HM HF HB
    by_cases h3 : E2 = 0
    ·obtain ⟨hN1, hN2⟩ := hNn h3
     have HSn := Lib.hid (HNext.out h3)
     subst h3
     clear hNn HNext HErr HStep
     go_upto_region 7 with fail
     generalize x1.alloc (.cells #[.string (bs y.path), .int .i64 y.kind, .string (bs y.target), .int .i64 y.md.mode, .int .i64 y.md.uid, .int .i64 y.md.gid, .string (bs y.md.user), .string (bs y.md.group), .int .i64 y.md.second, .int .i64 y.md.nano, .slice D1 dl c1] 34) = x2 at HBa HEa HFa HDa ⊢
     generalize x1.heap.size = g1 at HEa ⊢
     obtain ⟨⟨p0, p1, p2, p3, p4, p5, p6, p7, p8, p9, pA⟩, -⟩ := blk11 HEa.out
     have HCN : Hid (∀ W : World, CellsE (W.alloc (.cells #[.string (bs y.path), .int .i64 y.kind, .string (bs y.target), .int .i64 y.md.mode, .int .i64 y.md.uid, .int .i64 y.md.gid, .string (bs y.md.user), .string (bs y.md.group), .int .i64 y.md.second, .int .i64 y.md.nano, .slice D1 dl c1] 34)) (some ⟨W.heap.size, 0, none⟩) [(y, .slice D1 dl c1)]) := fun W => cells_newE W (y, .slice D1 dl c1)
     have hxl : xs.length * 512 ≤ n := by have := HCt.out; omega
     go_wp2_with (at_builtin; refine Stay.go ?_)
     refine Stay.on ?_
     refine append_ents rfl (.tmp 38) (.tmp 40) rfl w.heap.size _ xs rfl (HFa.out.1.alloc _) (some ⟨x2.heap.size, 0, none⟩) 1 1 [(y, .slice D1 dl c1)] rfl rfl (HCN.out x2) (by simp [Value.oneCell']) (fun e => by cases e) (by omega) (by first | (rw [hszA]; have := HBa.out.size; omega) | (simp; have := HBa.out.size; omega)) ?_
     intro v7 w7 ho7 hg7
     have HO7 : Hid (OwnE w7 w.heap.size v7 (xs ++ [(y, .slice D1 dl c1)])) := (HFa.out.alloc _).push (y := (y, .slice D1 dl c1)) (HDa.out.alloc _) ho7 hg7
     have HB7 : Hid (Below w.heap.size w w7) := (HBa.out.alloc HBa.out.size _).grown hg7 (by rw [hszA]; have := HBa.out.size; omega) HFa.out.1.above
     have HS7 : Hid (SomeAt l ((xs ++ [((y, .slice D1 dl c1) : EntP)]).map (·.1)) (a + N)) := by unfold Hid; rw [List.map_append]; exact HSn.out
     clear ho7 hg7 p0 p1 p2 p3 p4 p5 p6 p7 p8 p9 pA HCN HBa HEa HFa HDa HSn
     go_wp2_with fail
     go_roundw
     case rel => exact ⟨a + N, _, by go_num, HS7.out, HO7.out, HB7.out⟩
     case measure => simp [intOf]; omega
    ·have hne : (E2 != 0) = true := by simpa using h3
     have hsm := HErr.out h3
     clear hNn HNext HErr HStep
     go_wp2_with fail
     refine bodyPost_ret (v := .tuple #[u5, .int .i64 (a : Int), .int .i64 E2]) (by simp [results, Tryz.results15, go_sem, *]) rfl ?_
     rw [hsm]
     exact ⟨_, xs, rfl, rfl, HFa.out, HBa.out⟩
  ·have h5' : ¬ (a : Int) + 512 ≤ (n : Int) := by omega
   have hsm := Lib.hid (HS.out.done (some_short (b := l.drop a) (by rw [List.length_drop, HN.out]; omega)))
   go_wp2_with fail
   refine bodyPost_ret (v := .tuple #[u5, .int .i64 (a : Int), .int .i64 7]) (by simp [results, Tryz.results15, go_sem, *]) rfl ?_
   rw [hsm.out]
   first | exact ⟨_, xs, rfl, rfl, HF.out, HB.out⟩ | exact ⟨_, rfl, xs, rfl, HF.out, HB.out⟩
set_option maxHeartbeats 8000000 in
theorem rArcOf_of (MO : MOfSaid) (A : Option Addr) (n c : Nat) (l : List UInt8) (hn : l.length = n) (hn2 : n ≤ 140737488351232) (hc : SlOk A n c) (w : World) (S : Std w) (hA : BytsAt w A l) :
  Calls Tryz.prog 11 #[.slice A n c] w fun e w' => ∃ v xs, e = .returned (.tuple #[v, .int .i64 (arcR l).2]) ∧ xs.map (·.1) = (arcR l).1 ∧ OwnE w' w.heap.size v xs ∧ Below w.heap.size w w' := by
 have HSo := Lib.hid (rSome_of MO A n c l hn hn2 hc w S hA)
 obtain ⟨E0, ⟨ha, hgood, -, -⟩, -, -⟩ := some_all l
 rw [hn] at ha
 have HR : Hid (arcR l = if (someM l).2 ≠ 0 then ([], (someM l).2) else if l.drop (someM l).1.2 ≠ List.replicate 1024 0 then ([], 3) else if entsE (someM l).1.1 ≠ 0 then ([], entsE (someM l).1.1) else ((someM l).1.1, 0)) := rfl
 have HG := Lib.hid hgood
 clear hgood
 generalize someM l = R at HSo ha HR HG
 obtain ⟨⟨p, a⟩, E⟩ := R
 simp only at HSo ha HR HG
 have HC := Lib.hid hc
 have HA := Lib.hid hA
 have HN := Lib.hid hn
 have hcap := hc.1
 have hmx := hc.2.1
 unfold maxLen at hmx
 clear hc hA hn
 go_enter Tryz.func11, Tryz.ntmps11
 go_wp2_with fail
 refine HSo.out.mono ?_; rintro e x1 ⟨v, xs, rfl, hm, ho, hb⟩
 have HM := Lib.hid hm
 have HO := Lib.hid ho
 have HB := Lib.hid hb
 clear hm ho hb HSo
 by_cases hE : E = 0
 ·subst hE
  rw [if_neg (by simp)] at HR
  have hcut := (HA.out.below HB.out).cut (c := c) (by have := HN.out; omega) a (by have := HN.out; omega)
  have hsl := HC.out.cut a ha (n - a) (by omega)
  have s2 := fun W => slice_from W A n c a ha
  have hld : (l.drop a).length = n - a := by rw [List.length_drop, HN.out]
  have s3 := fun q => BytsAt.conv (w := x1.drewN q) hcut (c - a) (fun e => by have h1 := hsl.2.2 e; have h2 := hsl.1; exact List.eq_nil_of_length_eq_zero (by omega))
  simp only [hld] at s3
  generalize cutA A c a = C at s2 s3
  have hcz := bs_zer (l.drop a) 1024
  by_cases hz : l.drop a = List.replicate 1024 0
  ·rw [decide_eq_true hz] at hcz
   have hcn : ((bs (l.drop a)).toList != (zer 1024).toList) = false := by rw [bne, hcz]; rfl
   rw [if_neg (by simpa using hz)] at HR
   generalize bs (l.drop a) = LB at hcz hcn s3
   obtain ⟨A9, c9, rfl, hs9, hN9⟩ := HO.out.at
   have hxl : xs.length = p.length := by rw [← HM.out, List.length_map]
   rw [HM.out] at hN9
   have HEn := Lib.hid (fun W (h : Below x1.heap.size x1 W) => rEnts_any A9 xs.length c9 p hxl.symm hs9 (fun x hx => rea_sz (HG.out x hx)) W (hN9.below h))
   clear hs9 hN9 hxl hz hcut hsl hld
   go_upto_region 4 with fail
   go_quiet ((go_at_call 27; exact Calls.quiet_of_same (flip_same (zeros_any 1024 1024 _ rfl (by omega)))))
   go_wp2_with fail
   refine (HEn.out _ (below_drewN (Below.refl _ _) _)).mono ?_; rintro e x2 ⟨rfl, hb⟩
   have hb2 := (below_drewN (Below.refl x1.heap.size x1) _).trans hb
   have HO2 := Lib.hid (HO.out.below hb2)
   have HB2 := Lib.hid (HB.out.trans (hb2.mono HB.out.size))
   clear hb hb2 HEn HO HB
   obtain ⟨F, HF⟩ := hid_name (entsE p)
   simp only [HF.out] at HR ⊢
   by_cases h0 : F = 0
   ·subst h0
    rw [if_neg (by simp)] at HR
    go_wp2_with fail
    refine bodyPost_ret (v := .tuple #[.slice A9 xs.length c9, .int .i64 0]) (by simp [results, Tryz.results11, go_sem, *]) rfl ?_
    rw [HR.out]
    exact ⟨_, xs, rfl, HM.out, HO2.out, HB2.out⟩
   ·have hne : (F != 0) = true := by simpa using h0
    rw [if_pos h0] at HR
    go_wp2_with fail
    refine bodyPost_ret (v := .tuple #[.slice none 0 0, .int .i64 F]) (by simp [results, Tryz.results11, go_sem, *]) rfl ?_
    rw [HR.out]
    exact ⟨_, [], rfl, rfl, OwnE.nil _ _, HB2.out⟩
  ·rw [decide_eq_false hz] at hcz
   have hcn : ((bs (l.drop a)).toList != (zer 1024).toList) = true := by rw [bne, hcz]; rfl
   rw [if_pos hz] at HR
   generalize bs (l.drop a) = LB at hcz hcn s3
   clear hz hcut hsl hld
   go_upto_region 4 with fail
   go_quiet ((go_at_call 27; exact Calls.quiet_of_same (flip_same (zeros_any 1024 1024 _ rfl (by omega)))))
   go_wp2_with fail
   refine bodyPost_ret (v := .tuple #[.slice none 0 0, .int .i64 3]) (by simp [results, Tryz.results11, go_sem, *]) rfl ?_
   rw [HR.out]
   exact ⟨_, [], rfl, rfl, OwnE.nil _ _, below_drewN HB.out _⟩
 ·have hne : (E != 0) = true := by simpa using hE
  rw [if_pos hE] at HR
  go_wp2_with fail
  refine bodyPost_ret (v := .tuple #[.slice none 0 0, .int .i64 E]) (by simp [results, Tryz.results11, go_sem, *]) rfl ?_
  rw [HR.out]
  exact ⟨_, [], rfl, rfl, OwnE.nil _ _, HB.out⟩
theorem mof_said : MOfSaid := fun A n c l hn hn2 hc w S hA => by
 refine (rMOf_own A n c l hn hn2 hc w S hA).mono ?_
 rintro e w' ⟨D, cc, he, -, -, ho, hb⟩
 exact ⟨D, cc, he, ho, hb⟩
theorem rSome_any (A : Option Addr) (n c : Nat) (l : List UInt8) (hn : l.length = n) (hn2 : n ≤ 140737488351232) (hc : SlOk A n c) (w : World) (S : Std w) (hA : BytsAt w A l) :
  Calls Tryz.prog 15 #[.slice A n c] w fun e w' => ∃ v xs, e = .returned (.tuple #[v, .int .i64 ((someM l).1.2 : Nat), .int .i64 (someM l).2]) ∧ xs.map (·.1) = (someM l).1.1 ∧ OwnE w' w.heap.size v xs ∧ Below w.heap.size w w' :=
 rSome_of mof_said A n c l hn hn2 hc w S hA
theorem rArcOf_any (A : Option Addr) (n c : Nat) (l : List UInt8) (hn : l.length = n) (hn2 : n ≤ 140737488351232) (hc : SlOk A n c) (w : World) (S : Std w) (hA : BytsAt w A l) :
  Calls Tryz.prog 11 #[.slice A n c] w fun e w' => ∃ v xs, e = .returned (.tuple #[v, .int .i64 (arcR l).2]) ∧ xs.map (·.1) = (arcR l).1 ∧ OwnE w' w.heap.size v xs ∧ Below w.heap.size w w' :=
 rArcOf_of mof_said A n c l hn hn2 hc w S hA
set_option maxHeartbeats 8000000 in
theorem rFind_any (A : Option Addr) (n c : Nat) (l s : List UInt8) (hn : l.length = n) (hn2 : n ≤ 140737488351232) (hc : SlOk A n c) (w : World) (S : Std w) (hA : BytsAt w A l) :
  Calls Tryz.prog 16 #[.slice A n c, .string (bs s)] w fun e w' => ∃ D cc, e = .returned (.tuple #[.agg (entC (findR l s).1 D cc).toArray, .int .i64 (findR l s).2]) ∧ OwnB w' w.heap.size (.slice D (findR l s).1.data.length cc) (findR l s).1.data ∧ Below w.heap.size w w' := by
 have HZ0 := Lib.hid (Blk.new w 34 #[.string ⟨#[]⟩, .int .i64 0, .string ⟨#[]⟩, .int .i64 0, .int .i64 0, .int .i64 0, .string ⟨#[]⟩, .string ⟨#[]⟩, .int .i64 0, .int .i64 0, .slice none 0 0])
 have HB0 := Lib.hid ((Below.refl w.heap.size w).alloc (Nat.le_refl _) (.cells #[.string ⟨#[]⟩, .int .i64 0, .string ⟨#[]⟩, .int .i64 0, .int .i64 0, .int .i64 0, .string ⟨#[]⟩, .string ⟨#[]⟩, .int .i64 0, .int .i64 0, .slice none 0 0] 34))
 have HAr := Lib.hid (rArcOf_any A n c l hn hn2 hc _ (S.below HB0.out) (hA.below HB0.out))
 have hHR : findR l s = if (arcR l).2 ≠ 0 then (entZ, (arcR l).2) else if h : findE (arcR l).1 s < (arcR l).1.length then ((arcR l).1[findE (arcR l).1 s], 0) else (entZ, 5) := rfl
 have hG := fun h => (arcR_back (b := l) h).1
 generalize arcR l = R at HAr hHR hG
 obtain ⟨p, E⟩ := R
 simp only at HAr hHR hG
 have HG := Lib.hid hG
 clear hA hn hc hG
 go_enter Tryz.func16, Tryz.ntmps16
 go_wp2_with fail
 refine HAr.out.mono ?_; rintro e x1 ⟨v, xs, rfl, hm, ho, hb⟩
 rw [hszA] at ho
 have HO := Lib.hid ho
 have HB := Lib.hid (HB0.out.trans (hb.mono HB0.out.size))
 have HZ1 := Lib.hid (HZ0.out.below hb HZ0.out.lt)
 have HM := Lib.hid hm
 clear ho hb hm HAr HZ0 HB0
 by_cases hE : E = 0
 ·subst hE
  rw [if_neg (fun h => h rfl)] at hHR
  have h40 := ents_few (HG.out rfl)
  obtain ⟨A9, c9, rfl, hs9, hN9⟩ := HO.out.at
  rw [HM.out] at hN9
  have hxl : xs.length = p.length := by rw [← HM.out, List.length_map]
  obtain ⟨pl, hpl⟩ : ∃ pl, pl = p.length := ⟨_, rfl⟩
  have HOc := Lib.hid fun (W : World) (h : Below x1.heap.size x1 W) j hj => (HO.out.below h).cells HM.out j hj
  rw [hxl, ← hpl] at hs9 ⊢
  have HN9 := Lib.hid hN9
  have HPL := Lib.hid hpl
  have hpl40 : pl ≤ 40 := by omega
  clear hN9 hxl HG HM HO hpl
  have HF := Lib.hid (rEntAt_any A9 pl c9 p s HPL.out.symm (by omega) x1 HN9.out)
  clear h40
  generalize bs s = S1 at HF ⊢
  go_wp2_with fail
  refine HF.out.mono ?_; rintro e x2 ⟨rfl, rfl⟩
  clear HF
  have hle := findE_le p s
  have hpl := HPL.out
  obtain ⟨k, hk⟩ : ∃ k, k = findE p s := ⟨_, rfl⟩
  by_cases hkp : findE p s < p.length
  ·rw [dif_pos hkp] at hHR
   obtain ⟨b, o, D, cc, e9, c0, c1, c2, ⟨c3, c4, c5, c6, c7, c8, c9x⟩, cB, -, -⟩ := HN9.out.cells (findE p s) hkp
   obtain ⟨b', o', D', cc', e1, -, cB', hOD, hbb⟩ := HOc.out x1 (Below.refl _ _) (findE p s) hkp
   subst e9
   injection e1 with e1
   injection e1 with e2 e3 _
   subst e2 e3
   rw [cB] at cB'
   injection cB' with cB'
   injection cB' with q1 q2 q3
   subst q1 q3
   have HOD := Lib.hid hOD
   have HRy := Lib.hid hHR
   have hbn : w.heap.size ≠ b := by omega
   generalize p[findE p s] = y at *
   rw [← hk] at hkp c0 c1 c2 c3 c4 c5 c6 c7 c8 c9x cB
   rw [← hk]
   obtain ⟨dl, HDL⟩ := hid_name y.data.length
   rw [HDL.out] at cB
   have hkl : k < pl := by omega
   have HVL : Hid ((entC y D cc).toArray = #[.string (bs y.path), .int .i64 y.kind, .string (bs y.target), .int .i64 y.md.mode, .int .i64 y.md.uid, .int .i64 y.md.gid, .string (bs y.md.user), .string (bs y.md.group), .int .i64 y.md.second, .int .i64 y.md.nano, .slice D dl cc]) := by unfold Hid; rw [← HDL.out]; rfl
   clear hHR hOD q2 HOc HN9 hkp hle
   clear hpl hk
   obtain ⟨⟨z0, z1, z2, z3, z4, z5, z6, z7, z8, z9, zA⟩, y0, y1, y2, y3, y4, y5, y6, y7, y8, y9, yA⟩ := blk11 HZ1.out
   go_wp2_with fail
   refine bodyPost_ret (v := .tuple #[.agg #[.string (bs y.path), .int .i64 y.kind, .string (bs y.target), .int .i64 y.md.mode, .int .i64 y.md.uid, .int .i64 y.md.gid, .string (bs y.md.user), .string (bs y.md.group), .int .i64 y.md.second, .int .i64 y.md.nano, .slice D dl cc], .int .i64 0]) (by simp [results, Tryz.results16, go_sem, *]) rfl ?_
   exact find_fin HRy.out HVL.out ((own_set11 HOD.out (Nat.lt_succ_self _) (.string (bs y.path)) (.int .i64 y.kind) (.string (bs y.target)) (.int .i64 y.md.mode) (.int .i64 y.md.uid) (.int .i64 y.md.gid) (.string (bs y.md.user)) (.string (bs y.md.group)) (.int .i64 y.md.second) (.int .i64 y.md.nano) (.slice D dl cc)).mono (Nat.le_succ _)) (below_set11 HB.out (Nat.le_refl _) _ _ _ _ _ _ _ _ _ _ _)
  ·rw [dif_neg hkp] at hHR
   have HRn := Lib.hid hHR
   rw [← hk]
   have hkl : ¬ k < pl := by omega
   clear hHR HOc HN9 hkp hle hk hpl
   obtain ⟨⟨z0, z1, z2, z3, z4, z5, z6, z7, z8, z9, zA⟩, y0, y1, y2, y3, y4, y5, y6, y7, y8, y9, yA⟩ := blk11 HZ1.out
   go_wp2_with fail
   refine bodyPost_ret (v := .tuple #[.agg #[.string ⟨#[]⟩, .int .i64 0, .string ⟨#[]⟩, .int .i64 0, .int .i64 0, .int .i64 0, .string ⟨#[]⟩, .string ⟨#[]⟩, .int .i64 0, .int .i64 0, .slice none 0 0], .int .i64 5]) (by simp [results, Tryz.results16, go_sem, *]) rfl ?_
   exact find_nil HRn.out (below_set11 HB.out (Nat.le_refl _) _ _ _ _ _ _ _ _ _ _ _)
 ·rw [if_pos hE] at hHR
  have HRn := Lib.hid hHR
  have hne : (E != 0) = true := by simpa using hE
  clear hHR HO HM HG
  obtain ⟨⟨z0, z1, z2, z3, z4, z5, z6, z7, z8, z9, zA⟩, y0, y1, y2, y3, y4, y5, y6, y7, y8, y9, yA⟩ := blk11 HZ1.out
  go_wp2_with fail
  refine bodyPost_ret (v := .tuple #[.agg #[.string ⟨#[]⟩, .int .i64 0, .string ⟨#[]⟩, .int .i64 0, .int .i64 0, .int .i64 0, .string ⟨#[]⟩, .string ⟨#[]⟩, .int .i64 0, .int .i64 0, .slice none 0 0], .int .i64 E]) (by simp [results, Tryz.results16, go_sem, *]) rfl ?_
  exact find_nil HRn.out (below_set11 HB.out (Nat.le_refl _) _ _ _ _ _ _ _ _ _ _ _)
end Go.Proofs.YtmejnabngfpbeaaGreatDoor
