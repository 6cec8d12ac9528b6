/- Texts of one kind, in one file: ReaM, ReaP, ReaN, ReaQ, ReaE, ReaR. -/
import Derived.Test.YtmejnabngfpbeaaGreatDoorAra
import Derived.Test.YtmejnabngfpbeaaGreatDoorEnf
import Derived.Test.YtmejnabngfpbeaaGreatDoorPdc
import Derived.Test.YtmejnabngfpbeaaGreatDoorFld
import Derived.Test.YtmejnabngfpbeaaGreatDoorStp
import Derived.Deep.DeepCutAuto
import Derived.BigQuiet
import Derived.Test.YtmejnabngfpbeaaGreatDoorMyg
import Derived.Test.YtmejnabngfpbeaaGreatDoorPda
import Derived.Test.YtmejnabngfpbeaaGreatDoorEnj
import Derived.Test.YtmejnabngfpbeaaGreatDoorEnc
set_option linter.unusedVariables false
namespace Go.Proofs.YtmejnabngfpbeaaGreatDoor
open Go.RowKit
noncomputable def someG : Nat → List UInt8 → (List EntV × Nat) × Int
 | 0, _ => (([], 0), 7)
 | f + 1, b =>
  if b.length < 512 then (([], 0), 7)
  else if allZ (b.take 512) = true then (([], 0), 0)
  else if (readM b).2 ≠ 0 then (([], 0), (readM b).2)
  else (((readM b).1.1 :: (someG f (b.drop (readM b).1.2)).1.1, (readM b).1.2 + (someG f (b.drop (readM b).1.2)).1.2), (someG f (b.drop (readM b).1.2)).2)
theorem read_step {b : List UInt8} (h : (readM b).2 = 0) : entE (readM b).1.1 = 0 ∧ bytesM (readM b).1.1 = b.take (readM b).1.2 ∧ (readM b).1.2 = (bytesM (readM b).1.1).length ∧ 512 ≤ (readM b).1.2 ∧ (readM b).1.2 ≤ b.length := by
 rcases read_back b with ⟨h1, -⟩ | ⟨-, h2, h3, h4⟩
 ·exact absurd h h1
 ·have h5 := bytesM_lim h2
  have h6 := congrArg List.length h3
  rw [List.length_take] at h6
  exact ⟨h2, h3, h4, by omega, by omega⟩
theorem someG_fuel : ∀ (f g : Nat) (b : List UInt8), b.length < f → b.length < g → someG f b = someG g b
 | 0, _, _, h, _ => by omega
 | _, 0, _, _, h => by omega
 | f + 1, g + 1, b, hf, hg => by
  unfold someG
  by_cases h1 : b.length < 512
  ·rw [if_pos h1, if_pos h1]
  ·rw [if_neg h1, if_neg h1]
   by_cases h2 : allZ (b.take 512) = true
   ·rw [if_pos h2, if_pos h2]
   ·rw [if_neg h2, if_neg h2]
    by_cases h3 : (readM b).2 ≠ 0
    ·rw [if_pos h3, if_pos h3]
    ·rw [if_neg h3, if_neg h3]
     have h4 := read_step (by simpa using h3)
     rw [someG_fuel f g (b.drop (readM b).1.2) (by rw [List.length_drop]; omega) (by rw [List.length_drop]; omega)]
noncomputable def someM (b : List UInt8) : (List EntV × Nat) × Int := someG (b.length + 1) b
theorem some_short {b : List UInt8} (h : b.length < 512) : someM b = (([], 0), 7) := by unfold someM someG; rw [if_pos h]
theorem some_stop {b : List UInt8} (h : ¬ b.length < 512) (h2 : allZ (b.take 512) = true) : someM b = (([], 0), 0) := by unfold someM someG; rw [if_neg h, if_pos h2]
theorem some_err {b : List UInt8} (h : ¬ b.length < 512) (h2 : ¬ allZ (b.take 512) = true) (h3 : (readM b).2 ≠ 0) : someM b = (([], 0), (readM b).2) := by unfold someM someG; rw [if_neg h, if_neg h2, if_pos h3]
theorem some_next {b : List UInt8} (h : ¬ b.length < 512) (h2 : ¬ allZ (b.take 512) = true) (h3 : (readM b).2 = 0) :
  someM b = (((readM b).1.1 :: (someM (b.drop (readM b).1.2)).1.1, (readM b).1.2 + (someM (b.drop (readM b).1.2)).1.2), (someM (b.drop (readM b).1.2)).2) := by
 have h4 := read_step h3
 have h5 : someG b.length (b.drop (readM b).1.2) = someM (b.drop (readM b).1.2) := someG_fuel _ _ _ (by rw [List.length_drop]; omega) (by omega)
 conv => lhs; unfold someM someG
 rw [if_neg h, if_neg h2, if_neg (by simpa using h3), h5]
def SomeAt (b : List UInt8) (p : List EntV) (at' : Nat) : Prop :=
 at' ≤ b.length ∧ (∀ x ∈ p, entE x = 0) ∧ arcB p = b.take at' ∧ someM b = ((p ++ (someM (b.drop at')).1.1, at' + (someM (b.drop at')).1.2), (someM (b.drop at')).2)
theorem SomeAt.start (b : List UInt8) : SomeAt b [] 0 := ⟨Nat.zero_le _, fun x hx => (by cases hx), by rw [List.take_zero]; rfl, by rw [List.drop_zero, Nat.zero_add, List.nil_append]⟩
theorem SomeAt.next {b : List UInt8} {p : List EntV} {at' : Nat} (h : SomeAt b p at') (h1 : ¬ (b.drop at').length < 512) (h2 : ¬ allZ ((b.drop at').take 512) = true) (h3 : (readM (b.drop at')).2 = 0) :
  SomeAt b (p ++ [(readM (b.drop at')).1.1]) (at' + (readM (b.drop at')).1.2) := by
 obtain ⟨g1, g2, g3, g4⟩ := h
 obtain ⟨k1, k2, k3, k4, k5⟩ := read_step h3
 rw [List.length_drop] at k5
 refine ⟨by omega, fun x hx => ?_, ?_, ?_⟩
 ·rcases List.mem_append.1 hx with hx | hx
  ·exact g2 x hx
  ·obtain rfl := List.mem_singleton.1 hx; exact k1
 ·rw [arcB_app, arcB_one, g3, k2, List.take_add]
 ·rw [g4, some_next h1 h2 h3, List.drop_drop]
  simp only [List.append_assoc, List.singleton_append, Prod.mk.injEq, and_true, true_and]
  omega
theorem SomeAt.done {b : List UInt8} {p : List EntV} {at' : Nat} (h : SomeAt b p at') {E : Int} (h1 : someM (b.drop at') = (([], 0), E)) : someM b = ((p, at'), E) := by
 rw [h.2.2.2, h1, List.append_nil, Nat.add_zero]
theorem some_all (b : List UInt8) : ∃ E, SomeAt b (someM b).1.1 (someM b).1.2 ∧ someM (b.drop (someM b).1.2) = (([], 0), E) ∧ (someM b).2 = E := by
 have key : ∀ (n : Nat) (c : List UInt8), c.length ≤ n → ∃ E, SomeAt c (someM c).1.1 (someM c).1.2 ∧ someM (c.drop (someM c).1.2) = (([], 0), E) ∧ (someM c).2 = E := by
  intro n
  induction n with
  | zero =>
   intro c hc
   have h := some_short (b := c) (by omega)
   rw [h]
   exact ⟨7, SomeAt.start c, by rw [List.drop_zero]; exact h, rfl⟩
  | succ n ih =>
   intro c hc
   by_cases h1 : c.length < 512
   ·have h := some_short h1
    rw [h]
    exact ⟨7, SomeAt.start c, by rw [List.drop_zero]; exact h, rfl⟩
   ·by_cases h2 : allZ (c.take 512) = true
    ·have h := some_stop h1 h2
     rw [h]
     exact ⟨0, SomeAt.start c, by rw [List.drop_zero]; exact h, rfl⟩
    ·by_cases h3 : (readM c).2 = 0
     ·obtain ⟨k1, k2, k3, k4, k5⟩ := read_step h3
      obtain ⟨E, e1, e2, e3⟩ := ih (c.drop (readM c).1.2) (by rw [List.length_drop]; omega)
      have h := some_next h1 h2 h3
      obtain ⟨g1, g2, g3, g4⟩ := e1
      rw [List.length_drop] at g1
      refine ⟨E, ?_, ?_, by rw [h]; exact e3⟩
      ·rw [h]
       refine ⟨by simp only; omega, fun x hx => ?_, ?_, ?_⟩
       ·rcases List.mem_cons.1 hx with rfl | hx
        ·exact k1
        ·exact g2 x hx
       ·simp only
        rw [arcB_cons, k2, g3, List.take_add]
       ·simp only
        rw [← List.drop_drop, e2, List.append_nil, Nat.add_zero]
        exact h.trans (by rw [e3])
      ·rw [h]
       simp only
       rw [← List.drop_drop]; exact e2
     ·have h := some_err h1 h2 h3
      rw [h]
      exact ⟨_, SomeAt.start c, by rw [List.drop_zero]; exact h, rfl⟩
 exact key _ b (Nat.le_refl _)
noncomputable def arcR (b : List UInt8) : List EntV × Int :=
 if (someM b).2 ≠ 0 then ([], (someM b).2)
 else if b.drop (someM b).1.2 ≠ List.replicate 1024 0 then ([], 3)
 else if entsE (someM b).1.1 ≠ 0 then ([], entsE (someM b).1.1)
 else ((someM b).1.1, 0)
theorem arcR_back {b : List UInt8} (h : (arcR b).2 = 0) : entsE (arcR b).1 = 0 ∧ arcE (arcR b).1 = b := by
 unfold arcR at h ⊢
 by_cases h1 : (someM b).2 ≠ 0
 ·rw [if_pos h1] at h; exact absurd h h1
 ·rw [if_neg h1] at h ⊢
  by_cases h2 : b.drop (someM b).1.2 ≠ List.replicate 1024 0
  ·rw [if_pos h2] at h; exact absurd h (by decide)
  ·rw [if_neg h2] at h ⊢
   by_cases h3 : entsE (someM b).1.1 ≠ 0
   ·rw [if_pos h3] at h; exact absurd h h3
   ·rw [if_neg h3]
    have h3' : entsE (someM b).1.1 = 0 := by simpa using h3
    obtain ⟨E, ⟨g1, g2, g3, -⟩, -, -⟩ := some_all b
    refine ⟨h3', ?_⟩
    rw [arcE_ok h3', g3]
    have h2' : b.drop (someM b).1.2 = List.replicate 1024 0 := Classical.byContradiction fun hc => h2 hc
    rw [← h2', List.take_append_drop]
theorem arcR_err {b : List UInt8} (h : (arcR b).2 ≠ 0) : (arcR b).1 = [] := by
 unfold arcR at h ⊢
 by_cases h1 : (someM b).2 ≠ 0
 ·rw [if_pos h1]
 ·rw [if_neg h1] at h ⊢
  by_cases h2 : b.drop (someM b).1.2 ≠ List.replicate 1024 0
  ·rw [if_pos h2]
  ·rw [if_neg h2] at h ⊢
   by_cases h3 : entsE (someM b).1.1 ≠ 0
   ·rw [if_pos h3]
   ·rw [if_neg h3] at h; exact absurd rfl h
theorem SomeAt.count {b : List UInt8} {p : List EntV} {a : Nat} (h : SomeAt b p a) : 512 * p.length ≤ a := by
 obtain ⟨h1, h2, h3, -⟩ := h
 have h4 := (arcB_lim p h2).1
 rw [h3, List.length_take] at h4
 omega
end Go.Proofs.YtmejnabngfpbeaaGreatDoor
set_option maxRecDepth 100000
namespace Go.Proofs.YtmejnabngfpbeaaGreatDoor
open Go.RowKit
open Go.OpenShut
theorem rdEmpty_any (A : Option Addr) (c : Nat) (l : List UInt8) (hn : l.length = 512) (w : World) (hA : BytsAt w A l) :
  Calls Tryz.prog 29 #[.slice A 512 c] w fun e w' => e = .returned (.bool (allZ l)) ∧ Below w.heap.size w w' := by
 obtain ⟨i0, hi, hz0, hz1, hz2⟩ := info_parts oinfo_u8
 obtain ⟨M, hMl, hmk, hown⟩ := made_own w 512 (by decide) i0 hi hz0 hz1 hz2
 have HB : Hid (Below w.heap.size w (w.alloc (.cells M 5))) := (Below.refl _ _).alloc (Nat.le_refl _) _
 have HE := Lib.hid (bEqual_any A (some ⟨w.heap.size, 0, none⟩) 512 c 512 512 l (List.replicate 512 0) hn (by rw [List.length_replicate]) (w.alloc (.cells M 5)) (hA.below HB.out) (own_byts (hown w w.heap.size (Nat.le_refl _))))
 have hv : (l == List.replicate 512 0) = allZ l := by
  rw [allZ_rep, hn, Bool.eq_iff_iff]; simp
 rw [hv] at HE
 simp only [show ((512 : Nat) : Int) = 512 from rfl] at hmk
 clear hMl hown hA hv
 go_enter Tryz.func29, Tryz.ntmps29
 go_wp2_with fail
 refine HE.out.mono ?_; rintro e w1 ⟨rfl, rfl⟩
 go_wp2_with fail
 go_ret
 exact ⟨rfl, HB.out⟩
set_option maxHeartbeats 8000000 in
theorem rdSome_any (A : Option Addr) (n c : Nat) (l : List UInt8) (hn : l.length = n) (hn2 : n ≤ 281474976000000) (hc : SlOk A n c) (w : World) (S : Std w) (hA : BytsAt w A l) :
  Calls Tryz.prog 13 #[.slice A n c] w fun e w' => ∃ v xs, e = .returned (.tuple #[v, .int .i64 ((someM l).1.2 : Nat), .int .i64 (someM l).2]) ∧ xs.map (·.1) = (someM l).1.1 ∧ OwnE w' w.heap.size v xs ∧ Below w.heap.size w w' := by
 have HC := Lib.hid hc
 have HA := Lib.hid hA
 have HN := Lib.hid hn
 have hcap := hc.1
 have hmx := hc.2.1
 unfold maxLen at hmx
 clear hc hA hn
 go_enter Tryz.func13, Tryz.ntmps13
 go_wp2_with fail
 go_loopw [5, 6] (fun ov av wr => ∃ (a : Nat) (xs : List EntP), av = .int .i64 a ∧ Hid (SomeAt l (xs.map (·.1)) a) ∧ Hid (OwnE wr w.heap.size ov xs) ∧ Hid (Below w.heap.size w wr)) (fun _ av _ => n - (intOf av).toNat)
 case atStart => exact ⟨0, [], rfl, SomeAt.start l, OwnE.nil _ _, Below.refl _ _⟩
 case round =>
  obtain ⟨a, xs, rfl, HS, HF, HB⟩ := hrel
  have ha : a ≤ n := by have := HS.out.1; have := HN.out; omega
  have s2 := fun W => slice_from W A n c a ha
  have hna : ((n - a : Nat) : Int) = (n : Int) - (a : Int) := by omega
  have hcut := (HA.out.below HB.out).cut (c := c) (by have := HN.out; omega) a (by have := HN.out; omega)
  have hsl := HC.out.cut a ha (n - a) (by omega)
  have hld : (l.drop a).length = n - a := by rw [List.length_drop, HN.out]
  obtain ⟨m, Hm⟩ := hid_name (n - a)
  have hmn : m ≤ 281474976000000 := by rw [← Hm.out]; omega
  by_cases h5 : a + 512 ≤ n
  ·have h5' : ¬ (m : Int) < 512 := by rw [← Hm.out]; omega
   have hl5 : ((l.drop a).take 512).length = 512 := by rw [List.length_take, hld]; omega
   have HEm := Lib.hid fun W (h : Below wr.heap.size wr W) => rdEmpty_any (cutA A c a) (c - a) ((l.drop a).take 512) hl5 W ((hcut.below h).take 512)
   have s1 : ∀ W : World, (Instr.slice 22 (.slice (cutA A c a) m (c - a)) none (some (.int .i64 512)) none).run Tryz.prog W = .ok (.slice (cutA A c a) 512 (c - a)) W := fun W => slice_to W (cutA A c a) m (c - a) 512 (by omega)
   rw [Hm.out] at hsl hld
   simp only [Hm.out] at s2
   have HM := Lib.hid (fun W (h : Below wr.heap.size wr W) => mRead_own (cutA A c a) m (c - a) (l.drop a) hld hmn hsl W (S.below (HB.out.trans (h.mono HB.out.size))) (hcut.below h))
   generalize cutA A c a = C at *
   obtain ⟨c', Hc'⟩ := hid_name (c - a)
   simp only [Hc'.out] at s1 s2 HM HEm
   have hnz : ¬ (l.drop a).length < 512 := by rw [hld]; omega
   have HCt := Lib.hid HS.out.count
   rw [List.length_map] at HCt
   by_cases h2 : allZ ((l.drop a).take 512) = true
   ·have hsm := Lib.hid (HS.out.done (some_stop hnz h2))
    rw [h2] at HEm
    clear HM h2 hnz hl5 hld hsl hcut hna HCt
    go_wp2_with fail
    refine (HEm.out _ (Below.refl _ _)).mono ?_; rintro e x1 ⟨rfl, hb⟩
    have HF1 := Lib.hid (HF.out.below hb)
    have HB1 := Lib.hid (HB.out.trans (hb.mono HB.out.size))
    clear hb HEm HF HB
    go_wp2_with fail
    refine bodyPost_ret (v := .tuple #[u5, .int .i64 (a : Int), .int .i64 0]) (by simp [results, Tryz.results13, go_sem, *]) rfl ?_
    rw [hsm.out]
    exact ⟨_, xs, rfl, rfl, HF1.out, HB1.out⟩
   ·have HErr := Lib.hid (fun h3 => HS.out.done (some_err hnz h2 h3))
    have HNext := Lib.hid (fun h3 => HS.out.next hnz h2 h3)
    have HStep := Lib.hid (fun h3 => read_step (b := l.drop a) h3)
    rw [Bool.not_eq_true] at h2
    rw [h2] at HEm
    generalize readM (l.drop a) = R at HM HErr HNext HStep
    obtain ⟨⟨y, N⟩, E2⟩ := R
    simp only at HM HErr HNext HStep
    have HY : Hid (∀ D1 c1, (entC y D1 c1).toArray = #[.string (bs y.path), .int .i64 y.kind, .string (bs y.target), .int .i64 y.md.mode, .int .i64 y.md.uid, .int .i64 y.md.gid, .string (bs y.md.user), .string (bs y.md.group), .int .i64 y.md.second, .int .i64 y.md.nano, .slice D1 y.data.length c1]) := fun _ _ => rfl
    simp only [HY.out] at HM
    obtain ⟨dl, HDL⟩ := hid_name y.data.length
    simp only [HDL.out] at HM
    have hNn : E2 = 0 → a + N ≤ n ∧ 512 ≤ N := fun h3 => by
     have h4 := (HNext.out h3).1
     have h5 := (HStep.out h3).2.2.2.1
     have := HN.out
     omega
    clear h2 hnz hl5 hld hsl hcut HY hna
    go_wp2_with fail
    refine (HEm.out _ (Below.refl _ _)).mono ?_; rintro e x0 ⟨rfl, hb0⟩
    have HM0 := Lib.hid (HM.out x0 hb0)
    have HB0 := Lib.hid hb0
    clear HEm HM hb0
    go_wp2_with fail
    refine HM0.out.mono ?_; rintro e x1 ⟨D1, c1, rfl, -, -, hd1, hb⟩
    have hbw := HB0.out.trans (hb.mono HB0.out.size)
    have HBa := Lib.hid ((HB.out.trans (hbw.mono HB.out.size)).alloc (HB.out.trans (hbw.mono HB.out.size)).size (.cells #[.string (bs y.path), .int .i64 y.kind, .string (bs y.target), .int .i64 y.md.mode, .int .i64 y.md.uid, .int .i64 y.md.gid, .string (bs y.md.user), .string (bs y.md.group), .int .i64 y.md.second, .int .i64 y.md.nano, .slice D1 dl c1] 34))
    have HEa := Lib.hid (Blk.new x1 34 #[.string (bs y.path), .int .i64 y.kind, .string (bs y.target), .int .i64 y.md.mode, .int .i64 y.md.uid, .int .i64 y.md.gid, .string (bs y.md.user), .string (bs y.md.group), .int .i64 y.md.second, .int .i64 y.md.nano, .slice D1 dl c1])
    have HFa := Lib.hid ((HF.out.below hbw).alloc (.cells #[.string (bs y.path), .int .i64 y.kind, .string (bs y.target), .int .i64 y.md.mode, .int .i64 y.md.uid, .int .i64 y.md.gid, .string (bs y.md.user), .string (bs y.md.group), .int .i64 y.md.second, .int .i64 y.md.nano, .slice D1 dl c1] 34))
    have HDa := Lib.hid ((hd1.mono (B' := w.heap.size) (Nat.le_trans HB.out.size HB0.out.size)).alloc (.cells #[.string (bs y.path), .int .i64 y.kind, .string (bs y.target), .int .i64 y.md.mode, .int .i64 y.md.uid, .int .i64 y.md.gid, .string (bs y.md.user), .string (bs y.md.group), .int .i64 y.md.second, .int .i64 y.md.nano, .slice D1 dl c1] 34))
    clear hb hbw hd1 HM0 HF HB HB0
    by_cases h3 : E2 = 0
    ·obtain ⟨hN1, hN2⟩ := hNn h3
     have HSn := Lib.hid (HNext.out h3)
     subst h3
     clear hNn HNext HErr HStep
     go_upto_region 11 with fail
     generalize x1.alloc (.cells #[.string (bs y.path), .int .i64 y.kind, .string (bs y.target), .int .i64 y.md.mode, .int .i64 y.md.uid, .int .i64 y.md.gid, .string (bs y.md.user), .string (bs y.md.group), .int .i64 y.md.second, .int .i64 y.md.nano, .slice D1 dl c1] 34) = x2 at HBa HEa HFa HDa ⊢
     generalize x1.heap.size = g1 at HEa ⊢
     obtain ⟨⟨p0, p1, p2, p3, p4, p5, p6, p7, p8, p9, pA⟩, -⟩ := blk11 HEa.out
     have HCN : Hid (∀ W : World, CellsE (W.alloc (.cells #[.string (bs y.path), .int .i64 y.kind, .string (bs y.target), .int .i64 y.md.mode, .int .i64 y.md.uid, .int .i64 y.md.gid, .string (bs y.md.user), .string (bs y.md.group), .int .i64 y.md.second, .int .i64 y.md.nano, .slice D1 dl c1] 34)) (some ⟨W.heap.size, 0, none⟩) [(y, .slice D1 dl c1)]) := fun W => cells_newE W (y, .slice D1 dl c1)
     have hxl : xs.length * 512 ≤ n := by have := HCt.out; omega
     go_wp2_with (at_builtin; refine Stay.go ?_)
     refine Stay.on ?_
     refine append_ents rfl (.tmp 35) (.tmp 37) rfl w.heap.size _ xs rfl (HFa.out.1.alloc _) (some ⟨x2.heap.size, 0, none⟩) 1 1 [(y, .slice D1 dl c1)] rfl rfl (HCN.out x2) (by simp [Value.oneCell']) (fun e => by cases e) (by omega) (by first | (rw [hszA]; have := HBa.out.size; omega) | (simp; have := HBa.out.size; omega)) ?_
     intro v7 w7 ho7 hg7
     have HO7 : Hid (OwnE w7 w.heap.size v7 (xs ++ [(y, .slice D1 dl c1)])) := (HFa.out.alloc _).push (y := (y, .slice D1 dl c1)) (HDa.out.alloc _) ho7 hg7
     have HB7 : Hid (Below w.heap.size w w7) := (HBa.out.alloc HBa.out.size _).grown hg7 (by rw [hszA]; have := HBa.out.size; omega) HFa.out.1.above
     have HS7 : Hid (SomeAt l ((xs ++ [((y, .slice D1 dl c1) : EntP)]).map (·.1)) (a + N)) := by unfold Hid; rw [List.map_append]; exact HSn.out
     clear ho7 hg7 p0 p1 p2 p3 p4 p5 p6 p7 p8 p9 pA HCN HBa HEa HFa HDa HSn
     go_wp2_with fail
     go_roundw
     case rel => exact ⟨a + N, _, by go_num, HS7.out, HO7.out, HB7.out⟩
     case measure => simp [intOf]; omega
    ·have hne : (E2 != 0) = true := by simpa using h3
     have hsm := Lib.hid (HErr.out h3)
     clear hNn HNext HErr HStep
     go_wp2_with fail
     refine bodyPost_ret (v := .tuple #[u5, .int .i64 (a : Int), .int .i64 E2]) (by simp [results, Tryz.results13, go_sem, *]) rfl ?_
     rw [hsm.out]
     exact ⟨_, xs, rfl, rfl, HFa.out, HBa.out⟩
  ·have h5' : (m : Int) < 512 := by rw [← Hm.out]; omega
   have hsm := Lib.hid (HS.out.done (some_short (b := l.drop a) (by rw [List.length_drop, HN.out]; omega)))
   simp only [Hm.out] at s2
   generalize cutA A c a = C at s2
   clear hna hcut hsl hld
   go_wp2_with fail
   refine bodyPost_ret (v := .tuple #[u5, .int .i64 (a : Int), .int .i64 7]) (by simp [results, Tryz.results13, go_sem, *]) rfl ?_
   rw [hsm.out]
   exact ⟨_, xs, rfl, rfl, HF.out, HB.out⟩
end Go.Proofs.YtmejnabngfpbeaaGreatDoor
namespace Go.Proofs.YtmejnabngfpbeaaGreatDoor
open Go.RowKit
noncomputable def findR (b : List UInt8) (s : List UInt8) : EntV × Int :=
 if (arcR b).2 ≠ 0 then (entZ, (arcR b).2)
 else if h : findE (arcR b).1 s < (arcR b).1.length then ((arcR b).1[findE (arcR b).1 s], 0)
 else (entZ, 5)
theorem rea_sz {x : EntV} (h : entE x = 0) : x.sz := by
 obtain ⟨h1, h2, h3⟩ := entE_parts h
 have hp := pathE_len h1
 have hm : x.md.user.length ≤ 60 ∧ x.md.group.length ≤ 60 := by
  unfold metE at h2
  split at h2
  ·split at h2
   ·cases h2
   ·omega
  ·cases h2
 have hk : x.data.length ≤ 2000 ∧ x.target.length ≤ 400 := by
  unfold entK at h3
  split at h3
  ·cases h3
  ·split at h3
   ·cases h3
   ·split at h3
    ·cases h3
    ·omega
 exact ⟨⟨by omega, by omega, by omega⟩, by unfold MetaV.sz; omega⟩
end Go.Proofs.YtmejnabngfpbeaaGreatDoor
namespace Go.Proofs.YtmejnabngfpbeaaGreatDoor
open Go.RowKit
open Go.OpenShut
set_option maxHeartbeats 8000000 in
theorem rdArc_any (A : Option Addr) (n c : Nat) (l : List UInt8) (hn : l.length = n) (hn2 : n ≤ 281474976000000) (hc : SlOk A n c) (w : World) (S : Std w) (hA : BytsAt w A l) :
  Calls Tryz.prog 10 #[.slice A n c] w fun e w' => ∃ v xs, e = .returned (.tuple #[v, .int .i64 (arcR l).2]) ∧ xs.map (·.1) = (arcR l).1 ∧ OwnE w' w.heap.size v xs ∧ Below w.heap.size w w' := by
 have HSo := Lib.hid (rdSome_any A n c l hn hn2 hc w S hA)
 obtain ⟨E0, ⟨ha, hgood, -, -⟩, -, -⟩ := some_all l
 rw [hn] at ha
 have hHR : arcR l = if (someM l).2 ≠ 0 then ([], (someM l).2) else if l.drop (someM l).1.2 ≠ List.replicate 1024 0 then ([], 3) else if entsE (someM l).1.1 ≠ 0 then ([], entsE (someM l).1.1) else ((someM l).1.1, 0) := rfl
 generalize someM l = R at HSo ha hHR hgood
 obtain ⟨⟨p, a⟩, E⟩ := R
 simp only at HSo ha hHR hgood
 have HG := Lib.hid hgood
 have HC := Lib.hid hc
 have HA := Lib.hid hA
 have HN := Lib.hid hn
 have hcap := hc.1
 have hmx := hc.2.1
 unfold maxLen at hmx
 clear hc hA hn hgood
 go_enter Tryz.func10, Tryz.ntmps10
 go_wp2_with fail
 refine HSo.out.mono ?_; rintro e x1 ⟨v, xs, rfl, hm, ho, hb⟩
 have HM := Lib.hid hm
 have HO := Lib.hid ho
 have HB := Lib.hid hb
 clear hm ho hb HSo
 by_cases hE : E = 0
 ·subst hE
  rw [if_neg (fun h => h rfl)] at hHR
  have hcut := (HA.out.below HB.out).cut (c := c) (by have := HN.out; omega) a (by have := HN.out; omega)
  have s2 := fun W => slice_from W A n c a ha
  have hld : (l.drop a).length = n - a := by rw [List.length_drop, HN.out]
  have HEn := Lib.hid (Ends_any (cutA A c a) (n - a) (c - a) (l.drop a) hld (by omega) x1 hcut)
  generalize cutA A c a = C at s2 HEn
  have hdz : (decide (n - a = 1024) && allZ (l.drop a)) = decide (l.drop a = List.replicate 1024 0) := by
   rw [Bool.eq_iff_iff, Bool.and_eq_true, decide_eq_true_eq, decide_eq_true_eq, allZ_rep, decide_eq_true_eq, hld]
   constructor
   ·rintro ⟨h1, h2⟩; rw [h1] at h2; exact h2
   ·intro h
    have h1 := congrArg List.length h
    rw [List.length_replicate, hld] at h1
    exact ⟨h1, by rw [h1]; exact h⟩
  rw [hdz] at HEn
  obtain ⟨m, Hm⟩ := hid_name (n - a)
  simp only [Hm.out] at s2 HEn
  by_cases hz : l.drop a = List.replicate 1024 0
  ·rw [decide_eq_true hz] at HEn
   rw [if_neg (fun h => h hz)] at hHR
   obtain ⟨A9, c9, rfl, hs9, hN9⟩ := HO.out.at
   have hxl : xs.length = p.length := by rw [← HM.out, List.length_map]
   rw [HM.out] at hN9
   have HCk := Lib.hid (entPPCheck_any A9 xs.length c9 p hxl.symm hs9 (fun x hx => rea_sz (HG.out x hx)) x1 hN9)
   have HR := Lib.hid hHR
   clear hs9 hN9 hxl hz hcut hld hHR hdz
   go_wp2_with fail
   refine HEn.out.mono ?_; rintro e x2 ⟨rfl, rfl⟩
   go_wp2_with fail
   refine HCk.out.mono ?_; rintro e x2 ⟨rfl, hb⟩
   have HO2 := Lib.hid (HO.out.below hb)
   have HB2 := Lib.hid (HB.out.trans (hb.mono HB.out.size))
   clear hb HEn HCk HO HB
   obtain ⟨F, HF⟩ := hid_name (entsE p)
   simp only [HF.out] at HR ⊢
   by_cases h0 : F = 0
   ·subst h0
    rw [if_neg (fun h => h rfl)] at HR
    go_wp2_with fail
    refine bodyPost_ret (v := .tuple #[.slice A9 xs.length c9, .int .i64 0]) (by simp [results, Tryz.results10, go_sem, *]) rfl ?_
    rw [HR.out]
    exact ⟨_, xs, rfl, HM.out, HO2.out, HB2.out⟩
   ·have hne : (F != 0) = true := by simpa using h0
    rw [if_pos h0] at HR
    go_wp2_with fail
    refine bodyPost_ret (v := .tuple #[.slice none 0 0, .int .i64 F]) (by simp [results, Tryz.results10, go_sem, *]) rfl ?_
    rw [HR.out]
    exact ⟨_, [], rfl, rfl, OwnE.nil _ _, HB2.out⟩
  ·rw [decide_eq_false hz] at HEn
   rw [if_pos hz] at hHR
   have HR := Lib.hid hHR
   clear hz hcut hld hHR hdz
   go_wp2_with fail
   refine HEn.out.mono ?_; rintro e x2 ⟨rfl, rfl⟩
   go_wp2_with fail
   refine bodyPost_ret (v := .tuple #[.slice none 0 0, .int .i64 3]) (by simp [results, Tryz.results10, go_sem, *]) rfl ?_
   rw [HR.out]
   exact ⟨_, [], rfl, rfl, OwnE.nil _ _, HB.out⟩
 ·have hne : (E != 0) = true := by simpa using hE
  rw [if_pos hE] at hHR
  have HR := Lib.hid hHR
  clear hHR
  go_wp2_with fail
  refine bodyPost_ret (v := .tuple #[.slice none 0 0, .int .i64 E]) (by simp [results, Tryz.results10, go_sem, *]) rfl ?_
  rw [HR.out]
  exact ⟨_, [], rfl, rfl, OwnE.nil _ _, HB.out⟩
theorem RowE.dat_cell {w : World} {B g cap n : Nat} {xs : List EntP} (h : RowE w B (.slice (some ⟨g, 0, none⟩) n cap) xs) (hn : n = xs.length) (j : Nat) (hj : j < xs.length) :
  w.cell? ⟨g, j * 11 + 10, none⟩ = some xs[j].2 := by
 subst hn
 have hr := h
 unfold RowE at hr
 rw [World.ownsRow.cellAt hr (j * 11 + 10) (by omega), rowE_get xs j 10 hj (by omega)]; rfl
theorem OwnE.cells {w : World} {B : Nat} {A : Option Addr} {n c : Nat} {xs : List EntP} (h : OwnE w B (.slice A n c) xs) {p : List EntV} (hm : xs.map (·.1) = p) (j : Nat) (hj : j < p.length) :
  ∃ (b o : Nat) (D : Option Addr) (cc : Nat), A = some ⟨b, o, none⟩ ∧ w.cell? ⟨b, o + j * 11, none⟩ = some (.string (bs p[j].path)) ∧ w.cell? ⟨b, o + j * 11 + 10, none⟩ = some (.slice D p[j].data.length cc) ∧ OwnB w B (.slice D p[j].data.length cc) p[j].data ∧ B ≤ b := by
 subst hm
 have hj' : j < xs.length := by simpa using hj
 obtain ⟨A9, c9, e, -, hN⟩ := h.at
 injection e with e1 e2 e3
 subst e1
 obtain ⟨b, o, D, cc, rfl, c0, -, -, -, cB, -, -⟩ := hN.cells j hj
 have hr := h.1
 have hr2 := hr
 unfold RowE World.ownsRow at hr2
 rcases hr2.2 with ⟨e1, -⟩ | ⟨g, cap, cur, e1, hB, -, -, -, -, -⟩
 ·cases e1
 ·injection e1 with e4 e5 e6
  injection e4 with e4
  injection e4 with e7 e8 _
  subst e7 e8 e6
  have h1 := RowE.dat_cell hr e2 j hj'
  have h2 : (xs.map (·.1))[j] = xs[j].1 := List.getElem_map ..
  simp only [h2] at c0 cB ⊢
  rw [Nat.zero_add] at cB
  rw [h1] at cB
  injection cB with cB
  have h3 := h.2 _ (List.getElem_mem hj')
  rw [cB] at h3
  exact ⟨b, 0, D, cc, rfl, c0, by rw [Nat.zero_add, h1, cB], h3, hB⟩
theorem find_fin {w X : World} {l s : List UInt8} {y : EntV} {D : Option Addr} {cc : Nat} {cs : Array Value} (HR : findR l s = (y, 0)) (hv : (entC y D cc).toArray = cs) (hO : OwnB X w.heap.size (.slice D y.data.length cc) y.data) (hb : Below w.heap.size w X) :
  ∃ D' c', Ending.returned (.tuple #[.agg cs, .int .i64 0]) = .returned (.tuple #[.agg (entC (findR l s).1 D' c').toArray, .int .i64 (findR l s).2]) ∧ OwnB X w.heap.size (.slice D' (findR l s).1.data.length c') (findR l s).1.data ∧ Below w.heap.size w X := by
 rw [HR]
 subst hv
 exact ⟨D, cc, rfl, hO, hb⟩
theorem find_nil {w X : World} {l s : List UInt8} {E : Int} (HR : findR l s = (entZ, E)) (hb : Below w.heap.size w X) :
  ∃ D' c', Ending.returned (.tuple #[.agg #[.string ⟨#[]⟩, .int .i64 0, .string ⟨#[]⟩, .int .i64 0, .int .i64 0, .int .i64 0, .string ⟨#[]⟩, .string ⟨#[]⟩, .int .i64 0, .int .i64 0, .slice none 0 0], .int .i64 E]) = .returned (.tuple #[.agg (entC (findR l s).1 D' c').toArray, .int .i64 (findR l s).2]) ∧ OwnB X w.heap.size (.slice D' (findR l s).1.data.length c') (findR l s).1.data ∧ Below w.heap.size w X := by
 rw [HR]
 exact ⟨none, 0, rfl, OwnB.nil _ _, hb⟩
set_option maxHeartbeats 8000000 in
theorem rdFind_any (A : Option Addr) (n c : Nat) (l s : List UInt8) (hn : l.length = n) (hn2 : n ≤ 281474976000000) (hc : SlOk A n c) (w : World) (S : Std w) (hA : BytsAt w A l) :
  Calls Tryz.prog 14 #[.slice A n c, .string (bs s)] w fun e w' => ∃ D cc, e = .returned (.tuple #[.agg (entC (findR l s).1 D cc).toArray, .int .i64 (findR l s).2]) ∧ OwnB w' w.heap.size (.slice D (findR l s).1.data.length cc) (findR l s).1.data ∧ Below w.heap.size w w' := by
 have HZ0 := Lib.hid (Blk.new w 34 #[.string ⟨#[]⟩, .int .i64 0, .string ⟨#[]⟩, .int .i64 0, .int .i64 0, .int .i64 0, .string ⟨#[]⟩, .string ⟨#[]⟩, .int .i64 0, .int .i64 0, .slice none 0 0])
 have HB0 := Lib.hid ((Below.refl w.heap.size w).alloc (Nat.le_refl _) (.cells #[.string ⟨#[]⟩, .int .i64 0, .string ⟨#[]⟩, .int .i64 0, .int .i64 0, .int .i64 0, .string ⟨#[]⟩, .string ⟨#[]⟩, .int .i64 0, .int .i64 0, .slice none 0 0] 34))
 have HAr := Lib.hid (rdArc_any A n c l hn hn2 hc _ (S.below HB0.out) (hA.below HB0.out))
 have hHR : findR l s = if (arcR l).2 ≠ 0 then (entZ, (arcR l).2) else if h : findE (arcR l).1 s < (arcR l).1.length then ((arcR l).1[findE (arcR l).1 s], 0) else (entZ, 5) := rfl
 have hG := fun h => (arcR_back (b := l) h).1
 generalize arcR l = R at HAr hHR hG
 obtain ⟨p, E⟩ := R
 simp only at HAr hHR hG
 have HG := Lib.hid hG
 clear hA hn hc hG
 go_enter Tryz.func14, Tryz.ntmps14
 go_wp2_with fail
 refine HAr.out.mono ?_; rintro e x1 ⟨v, xs, rfl, hm, ho, hb⟩
 rw [hszA] at ho
 have HO := Lib.hid ho
 have HB := Lib.hid (HB0.out.trans (hb.mono HB0.out.size))
 have HZ1 := Lib.hid (HZ0.out.below hb HZ0.out.lt)
 have HM := Lib.hid hm
 clear ho hb hm HAr HZ0 HB0
 by_cases hE : E = 0
 ·subst hE
  rw [if_neg (fun h => h rfl)] at hHR
  have h40 := ents_few (HG.out rfl)
  obtain ⟨A9, c9, rfl, hs9, hN9⟩ := HO.out.at
  rw [HM.out] at hN9
  have hxl : xs.length = p.length := by rw [← HM.out, List.length_map]
  obtain ⟨pl, hpl⟩ : ∃ pl, pl = p.length := ⟨_, rfl⟩
  have HOc := Lib.hid fun (W : World) (h : Below x1.heap.size x1 W) j hj => (HO.out.below h).cells HM.out j hj
  rw [hxl, ← hpl] at hs9 ⊢
  have HN9 := Lib.hid hN9
  have HPL := Lib.hid hpl
  have hpl40 : pl ≤ 40 := by omega
  clear hN9 hxl HG HM HO hpl
  have HRy : Hid (∀ (k : Nat) (hk : k < p.length), k ≤ findE p s → p[k].path = s → findR l s = (p[k], 0)) := fun k hk h1 h2 => by
   have h3 := findE_stop p s k hk h1 h2
   subst h3
   rw [hHR, dif_pos hk]
  have HRn : Hid (pl ≤ findE p s → findR l s = (entZ, 5)) := fun h => by
   rw [hHR, dif_neg (by have := HPL.out; omega)]
  have HSt := Lib.hid fun k hk h e => findE_step p s k hk h e
  have HQ := Lib.hid fun k (hk : k < p.length) => bs_eq (a := p[k].path) (b := s)
  generalize findE p s = q at HRy HRn HSt
  generalize bs s = S1 at HQ ⊢
  clear hHR h40 hs9
  go_wp2_with fail
  go_loopw [21] (fun iv wr => ∃ k : Nat, iv = .int .i64 k ∧ k ≤ pl ∧ Hid (k ≤ q) ∧ Hid (Below x1.heap.size x1 wr)) (fun iv _ => pl - (intOf iv).toNat)
  case atStart => exact ⟨0, rfl, Nat.zero_le _, Nat.zero_le _, Below.refl _ _⟩
  case round =>
   obtain ⟨k, rfl, hk, HK, HW⟩ := hrel
   by_cases hkp : k < pl
   ·have hkl : k < p.length := by have := HPL.out; omega
    obtain ⟨b, o, D, cc, e9, c0, c1, c2, ⟨c3, c4, c5, c6, c7, c8, c9x⟩, cB, -, -⟩ := (HN9.out.below HW.out).cells k hkl
    obtain ⟨b', o', D', cc', e1, -, cB', hOD, hbb⟩ := HOc.out wr HW.out k hkl
    have hyq := HQ.out k hkl
    have HYy := Lib.hid (HRy.out k hkl HK.out)
    have HYn := Lib.hid (HSt.out k hkl HK.out)
    subst e9
    injection e1 with e1
    injection e1 with e2 e3 _
    subst e2 e3
    rw [cB] at cB'
    injection cB' with cB'
    injection cB' with q1 q2 q3
    subst q1 q3
    have HOD := Lib.hid hOD
    generalize p[k] = y at *
    obtain ⟨dl, HDL⟩ := hid_name y.data.length
    rw [HDL.out] at cB
    have HVL : Hid ((entC y D cc).toArray = #[.string (bs y.path), .int .i64 y.kind, .string (bs y.target), .int .i64 y.md.mode, .int .i64 y.md.uid, .int .i64 y.md.gid, .string (bs y.md.user), .string (bs y.md.group), .int .i64 y.md.second, .int .i64 y.md.nano, .slice D dl cc]) := by unfold Hid; rw [← HDL.out]; rfl
    have HBx := Lib.hid (Below.refl wr.heap.size wr |>.alloc (Nat.le_refl _) (.cells #[.string (bs y.path), .int .i64 y.kind, .string (bs y.target), .int .i64 y.md.mode, .int .i64 y.md.uid, .int .i64 y.md.gid, .string (bs y.md.user), .string (bs y.md.group), .int .i64 y.md.second, .int .i64 y.md.nano, .slice D dl cc] 34))
    have HEx := Lib.hid (Blk.new wr 34 #[.string (bs y.path), .int .i64 y.kind, .string (bs y.target), .int .i64 y.md.mode, .int .i64 y.md.uid, .int .i64 y.md.gid, .string (bs y.md.user), .string (bs y.md.group), .int .i64 y.md.second, .int .i64 y.md.nano, .slice D dl cc])
    have HZx := Lib.hid ((HZ1.out.below HW.out HZ1.out.lt).below HBx.out (HZ1.out.below HW.out HZ1.out.lt).lt)
    have HWx := Lib.hid (HW.out.trans (HBx.out.mono HW.out.size))
    have hlt : w.heap.size < wr.heap.size := (HZ1.out.below HW.out HZ1.out.lt).lt
    clear hOD q2
    go_upto_region 7 with fail
    generalize wr.alloc (.cells #[.string (bs y.path), .int .i64 y.kind, .string (bs y.target), .int .i64 y.md.mode, .int .i64 y.md.uid, .int .i64 y.md.gid, .string (bs y.md.user), .string (bs y.md.group), .int .i64 y.md.second, .int .i64 y.md.nano, .slice D dl cc] 34) = x3 at HBx HEx HZx HWx ⊢
    generalize wr.heap.size = gE at HEx hlt ⊢
    obtain ⟨⟨p0, p1, p2, p3, p4, p5, p6, p7, p8, p9, pA⟩, -⟩ := blk11 HEx.out
    clear c0 c1 c2 c3 c4 c5 c6 c7 c8 c9x cB
    by_cases hq : y.path = s
    ·rw [decide_eq_true hq] at hyq
     have HRk := Lib.hid (HYy.out hq)
     clear hq HYy HYn
     go_upto_region 8 with fail
     obtain ⟨⟨z0, z1, z2, z3, z4, z5, z6, z7, z8, z9, zA⟩, y0, y1, y2, y3, y4, y5, y6, y7, y8, y9, yA⟩ := blk11 HZx.out
     have HOx := Lib.hid (HOD.out.below HBx.out)
     have HBf := Lib.hid (HB.out.trans (HWx.out.mono HB.out.size))
     go_wp2_with fail
     refine bodyPost_ret (v := .tuple #[.agg #[.string (bs y.path), .int .i64 y.kind, .string (bs y.target), .int .i64 y.md.mode, .int .i64 y.md.uid, .int .i64 y.md.gid, .string (bs y.md.user), .string (bs y.md.group), .int .i64 y.md.second, .int .i64 y.md.nano, .slice D dl cc], .int .i64 0]) (by simp [results, Tryz.results14, go_sem, *]) rfl ?_
     exact find_fin HRk.out HVL.out ((own_set11 HOx.out (Nat.lt_succ_self _) (.string (bs y.path)) (.int .i64 y.kind) (.string (bs y.target)) (.int .i64 y.md.mode) (.int .i64 y.md.uid) (.int .i64 y.md.gid) (.string (bs y.md.user)) (.string (bs y.md.group)) (.int .i64 y.md.second) (.int .i64 y.md.nano) (.slice D dl cc)).mono (Nat.le_succ _)) (below_set11 HBf.out (Nat.le_refl _) _ _ _ _ _ _ _ _ _ _ _)
    ·rw [decide_eq_false hq] at hyq
     have HK1 := Lib.hid (HYn.out hq)
     clear hq HYy HYn
     go_wp2_with fail
     go_roundw
     case rel => exact ⟨k + 1, by go_num, by omega, HK1.out, HWx.out⟩
     case measure => simp [intOf]; omega
   ·obtain rfl : k = pl := by omega
    have HRk := Lib.hid (HRn.out HK.out)
    obtain ⟨⟨z0, z1, z2, z3, z4, z5, z6, z7, z8, z9, zA⟩, y0, y1, y2, y3, y4, y5, y6, y7, y8, y9, yA⟩ := blk11 (HZ1.out.below HW.out HZ1.out.lt)
    have HBf := Lib.hid (HB.out.trans (HW.out.mono HB.out.size))
    go_wp2_with fail
    refine bodyPost_ret (v := .tuple #[.agg #[.string ⟨#[]⟩, .int .i64 0, .string ⟨#[]⟩, .int .i64 0, .int .i64 0, .int .i64 0, .string ⟨#[]⟩, .string ⟨#[]⟩, .int .i64 0, .int .i64 0, .slice none 0 0], .int .i64 5]) (by simp [results, Tryz.results14, go_sem, *]) rfl ?_
    exact find_nil HRk.out (below_set11 HBf.out (Nat.le_refl _) _ _ _ _ _ _ _ _ _ _ _)
 ·rw [if_pos hE] at hHR
  have HRn := Lib.hid hHR
  have hne : (E != 0) = true := by simpa using hE
  clear hHR HO HM HG
  obtain ⟨⟨z0, z1, z2, z3, z4, z5, z6, z7, z8, z9, zA⟩, y0, y1, y2, y3, y4, y5, y6, y7, y8, y9, yA⟩ := blk11 HZ1.out
  go_wp2_with fail
  refine bodyPost_ret (v := .tuple #[.agg #[.string ⟨#[]⟩, .int .i64 0, .string ⟨#[]⟩, .int .i64 0, .int .i64 0, .int .i64 0, .string ⟨#[]⟩, .string ⟨#[]⟩, .int .i64 0, .int .i64 0, .slice none 0 0], .int .i64 E]) (by simp [results, Tryz.results14, go_sem, *]) rfl ?_
  exact find_nil HRn.out (below_set11 HB.out (Nat.le_refl _) _ _ _ _ _ _ _ _ _ _ _)
end Go.Proofs.YtmejnabngfpbeaaGreatDoor
