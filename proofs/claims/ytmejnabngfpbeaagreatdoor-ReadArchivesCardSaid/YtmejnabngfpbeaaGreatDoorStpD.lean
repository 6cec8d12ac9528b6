/- Package stamp's Parse. -/
import Derived.Test.YtmejnabngfpbeaaGreatDoorStp
set_option linter.unusedVariables false
set_option maxRecDepth 100000
namespace Go.Proofs.YtmejnabngfpbeaaGreatDoor
open Go.RowKit
open Go.OpenShut
theorem hasPre_minus (l : List UInt8) : Lib.hasPrefix l [45] = minusL l := by
 cases l with
 | nil => rfl
 | cons c r => show (45 == c && List.isPrefixOf [] r) = (c == 45); simp [Bool.beq_comm]
theorem trimPre_minus (l : List UInt8) : Lib.trimPrefix l [45] = sizeL l := by
 unfold Lib.trimPrefix sizeL; rw [hasPre_minus]; rfl
theorem parseO_bad {l : List UInt8} (h : numO (Lib.atoiAll (wholeL (sizeL l))) = none ∨ fracO (digsL (sizeL l)) = none) : parseO l = none := by
 unfold parseO
 rcases h with h | h
 ·rw [h]
 ·rw [h]; cases numO (Lib.atoiAll (wholeL (sizeL l))) <;> rfl
theorem parseO_good {l : List UInt8} {a b : Int} (h1 : numO (Lib.atoiAll (wholeL (sizeL l))) = some a) (h2 : fracO (digsL (sizeL l)) = some b) : parseO l = some (if minusL l = true then negV a b else (a, b)) := by
 unfold parseO; rw [h1, h2]
theorem sizeL_len (l : List UInt8) : (sizeL l).length ≤ l.length := by
 unfold sizeL; split
 ·rw [List.length_drop]; omega
 ·exact Nat.le_refl _
theorem numO_bd {l : List UInt8} {a : Int} (h : numO (Lib.atoiAll l) = some a) : -9223372036854775808 ≤ a ∧ a ≤ 9223372036854775807 := by
 rcases ha : Lib.atoiAll l with x | _ | _
 ·rw [ha] at h; obtain rfl : x = a := Option.some.inj h; exact Lib.atoiAll_bounds ha
 ·rw [ha] at h; cases h
 ·rw [ha] at h; cases h
theorem tail_cases (l : List UInt8) (a b : Int) (h : parseO l = some (a, b)) :
  (tText a b = (bs l, 0) ∧ tparse l = (a, b, 0)) ∨ ((tText a b).2 ≠ 0 ∧ tparse l = (0, 0, 3)) ∨ ((tText a b).2 = 0 ∧ (tText a b).1 ≠ bs l ∧ tparse l = (0, 0, 3)) := by
 cases hi : inT a b
 ·refine .inr (.inl ⟨by rw [tText_no hi]; decide, tparse_no h (by rw [hi]; rintro ⟨x, _⟩; cases x)⟩)
 ·by_cases he : textL a b = l
  ·exact .inl ⟨by rw [tText_yes hi, he], tparse_yes h hi he⟩
  ·refine .inr (.inr ⟨by rw [tText_yes hi], ?_, tparse_no h (fun x => he x.2)⟩)
   rw [tText_yes hi]
   intro e
   exact he (congrArg (fun s : ByteArray => s.data.toList) e)
set_option maxHeartbeats 1600000 in
theorem stpDParse_any (s : ByteArray) (w : World) (S : Std w) (hs : s.size ≤ 140737488351232) :
  Calls Tryz.prog 144 #[.string s] w fun e w' => e = .returned (.tuple #[.int .i64 (tparse s.data.toList).1, .int .i64 (tparse s.data.toList).2.1, .int .i64 (tparse s.data.toList).2.2]) ∧ Below w.heap.size w w' := by
 have HCP : Hid (∀ W, Calls Tryz.prog 216 #[.string s, .string ⟨#[45]⟩] W fun e w' => e = .returned (.tuple #[.string (bs (sizeL s.data.toList)), .bool (minusL s.data.toList)]) ∧ w' = W) := fun W => by
  have h := Tryz.strings_CutPrefix s ⟨#[45]⟩ W
  rw [show (⟨#[45]⟩ : ByteArray).data.toList = [45] from rfl, hasPre_minus, trimPre_minus] at h
  exact h
 have hzl := sizeL_len s.data.toList
 rw [size_list] at hzl
 have hcut := fun W => Cut_one (bs (sizeL s.data.toList)) 46 W (by unfold maxLen; rw [bs_size]; omega)
 rw [bs_list] at hcut
 have hwl : (wholeL (sizeL s.data.toList)).length ≤ 140737488351232 := by unfold wholeL; rw [List.length_take]; omega
 have hdl : (digsL (sizeL s.data.toList)).length ≤ 140737488351232 := by unfold digsL; rw [List.length_drop]; omega
 have HC : Hid (∀ W, Calls Tryz.prog 210 #[.string (bs (sizeL s.data.toList)), .string ⟨#[46]⟩] W fun e w' => e = .returned (.tuple #[.string (bs (wholeL (sizeL s.data.toList))), .string (bs (digsL (sizeL s.data.toList))), .bool (hasB 46 (sizeL s.data.toList))]) ∧ ∃ n, w' = W.drewN n) := hcut
 have HN1 := @parseO_bad s.data.toList
 have HN2 := @parseO_good s.data.toList
 have HT := tail_cases s.data.toList
 rw [bs_of] at HT
 generalize hf : hasB 46 (sizeL s.data.toList) = fnd at HC
 generalize hZ : bs (sizeL s.data.toList) = Z at HC HCP
 generalize hW : bs (wholeL (sizeL s.data.toList)) = W0 at HC
 generalize hD : bs (digsL (sizeL s.data.toList)) = D0 at HC
 rw [show wholeL (sizeL s.data.toList) = W0.data.toList by rw [← hW, bs_list]] at hwl HN1 HN2
 rw [show digsL (sizeL s.data.toList) = D0.data.toList by rw [← hD, bs_list]] at hdl HN1 HN2
 rw [size_list] at hwl hdl
 have HNN := fun h => tparse_none (HN1 h)
 clear hcut hzl hf hZ hW hD HN1
 generalize hq : minusL s.data.toList = neg at *
 generalize hq2 : tparse s.data.toList = tp at *
 generalize hq3 : parseO s.data.toList = po at *
 clear hq hq2 hq3
 have HPF := Lib.hid fun W S => parseFraction_any D0 W S (by unfold maxLen; omega)
 cases hA : numO (Lib.atoiAll W0.data.toList) with
 | none =>
  have HA := Lib.hid fun W S => Atoi_no W0 W S (by omega) hA
  obtain rfl := HNN (.inl hA)
  clear HN2 HNN HT hA
  go_enter Tryz.func144, Tryz.ntmps144
  go_wp2_with fail
  refine (HCP.out _).mono ?_; rintro e w1 ⟨rfl, rfl⟩
  go_wp2_with fail
  refine (HC.out _).mono ?_; rintro e w1 ⟨rfl, n1, rfl⟩
  go_wp2_with fail
  refine (HA.out _ (S.drewN n1)).mono ?_; rintro e w2 ⟨⟨x, N, rfl⟩, hb2⟩
  have S2 := (S.drewN n1).below hb2
  have HB2 : Hid (Below w1.heap.size w1 w2) := (below_drewN (Below.refl _ _) n1).trans hb2
  clear hb2
  go_wp2_with fail
  refine (HPF.out _ S2).mono ?_; rintro e w3 ⟨⟨y, rfl, -⟩, hb3⟩
  have HB3 := Lib.hid (HB2.out.trans (hb3.mono HB2.out.size))
  clear hb3
  go_wp2_with fail
  go_ret3
  exact ⟨rfl, HB3.out⟩
 | some a =>
  have HA := Lib.hid fun W => Atoi_ok W0 a W (by omega) hA
  obtain ⟨ab1, ab2⟩ := numO_bd hA
  cases hB : fracO D0.data.toList with
  | none =>
   rw [hB] at HPF
   obtain rfl := HNN (.inr hB)
   clear HN2 HNN HT hA hB
   go_enter Tryz.func144, Tryz.ntmps144
   go_wp2_with fail
   refine (HCP.out _).mono ?_; rintro e w1 ⟨rfl, rfl⟩
   go_wp2_with fail
   refine (HC.out _).mono ?_; rintro e w1 ⟨rfl, n1, rfl⟩
   go_wp2_with fail
   refine (HA.out _).mono ?_; rintro e w2 ⟨rfl, hb2⟩
   have S2 := (S.drewN n1).below hb2
   have HB2 : Hid (Below w1.heap.size w1 w2) := (below_drewN (Below.refl _ _) n1).trans hb2
   clear hb2
   go_wp2_with fail
   refine (HPF.out _ S2).mono ?_; rintro e w3 ⟨⟨y, rfl, -⟩, hb3⟩
   have HB3 := Lib.hid (HB2.out.trans (hb3.mono HB2.out.size))
   clear hb3
   go_wp2_with fail
   go_ret3
   exact ⟨rfl, HB3.out⟩
  | some b =>
   have HPB := Lib.hid HPF.out
   rw [hB] at HPB
   obtain ⟨bb1, bb2⟩ := fracO_bd _ b hB
   have hpo := HN2 hA hB
   clear HN2 HNN hA hB HPF
   cases neg with
   | false =>
    rw [if_neg (by decide)] at hpo
    have ht := HT a b hpo
    have HTx := Lib.hid fun W T => Text_any a b W T
    clear HT hpo
    generalize tText a b = tt at ht HTx
    obtain ⟨t, te⟩ := tt
    rcases ht with ⟨e1, rfl⟩ | ⟨e1, rfl⟩ | ⟨e1, e2, rfl⟩
    ·obtain ⟨rfl, rfl⟩ := Prod.mk.inj e1
     go_enter Tryz.func144, Tryz.ntmps144
     go_wp2_with fail
     refine (HCP.out _).mono ?_; rintro e w1 ⟨rfl, rfl⟩
     go_wp2_with fail
     refine (HC.out _).mono ?_; rintro e w1 ⟨rfl, n1, rfl⟩
     go_wp2_with fail
     refine (HA.out _).mono ?_; rintro e w2 ⟨rfl, hb2⟩
     have S2 := (S.drewN n1).below hb2
     have HB2 : Hid (Below w1.heap.size w1 w2) := (below_drewN (Below.refl _ _) n1).trans hb2
     clear hb2
     go_wp2_with fail
     refine (HPB.out _ S2).mono ?_; rintro e w3 ⟨⟨y, rfl, hy⟩, hb3⟩
     obtain rfl := hy b rfl
     have T3 := (S2.below hb3).tab
     have HB3 := Lib.hid (HB2.out.trans (hb3.mono HB2.out.size))
     clear hb3 hy S2
     go_wp2_with fail
     refine (HTx.out _ T3).mono ?_; rintro e w4 ⟨rfl, hb4⟩
     have HB4 := Lib.hid (HB3.out.trans (hb4.mono HB3.out.size))
     clear hb4
     go_wp2_with fail
     go_ret3
     exact ⟨rfl, HB4.out⟩
    ·have e1' : (te != 0) = true := by simpa using e1
     clear e1
     go_enter Tryz.func144, Tryz.ntmps144
     go_wp2_with fail
     refine (HCP.out _).mono ?_; rintro e w1 ⟨rfl, rfl⟩
     go_wp2_with fail
     refine (HC.out _).mono ?_; rintro e w1 ⟨rfl, n1, rfl⟩
     go_wp2_with fail
     refine (HA.out _).mono ?_; rintro e w2 ⟨rfl, hb2⟩
     have S2 := (S.drewN n1).below hb2
     have HB2 : Hid (Below w1.heap.size w1 w2) := (below_drewN (Below.refl _ _) n1).trans hb2
     clear hb2
     go_wp2_with fail
     refine (HPB.out _ S2).mono ?_; rintro e w3 ⟨⟨y, rfl, hy⟩, hb3⟩
     obtain rfl := hy b rfl
     have T3 := (S2.below hb3).tab
     have HB3 := Lib.hid (HB2.out.trans (hb3.mono HB2.out.size))
     clear hb3 hy S2
     go_wp2_with fail
     refine (HTx.out _ T3).mono ?_; rintro e w4 ⟨rfl, hb4⟩
     have HB4 := Lib.hid (HB3.out.trans (hb4.mono HB3.out.size))
     clear hb4
     go_wp2_with fail
     go_ret3
     exact ⟨rfl, HB4.out⟩
    ·obtain rfl : te = 0 := e1
     have e2' : (t.toList == s.toList) = false := by rw [str_eq]; exact decide_eq_false e2
     clear e2
     go_enter Tryz.func144, Tryz.ntmps144
     go_wp2_with fail
     refine (HCP.out _).mono ?_; rintro e w1 ⟨rfl, rfl⟩
     go_wp2_with fail
     refine (HC.out _).mono ?_; rintro e w1 ⟨rfl, n1, rfl⟩
     go_wp2_with fail
     refine (HA.out _).mono ?_; rintro e w2 ⟨rfl, hb2⟩
     have S2 := (S.drewN n1).below hb2
     have HB2 : Hid (Below w1.heap.size w1 w2) := (below_drewN (Below.refl _ _) n1).trans hb2
     clear hb2
     go_wp2_with fail
     refine (HPB.out _ S2).mono ?_; rintro e w3 ⟨⟨y, rfl, hy⟩, hb3⟩
     obtain rfl := hy b rfl
     have T3 := (S2.below hb3).tab
     have HB3 := Lib.hid (HB2.out.trans (hb3.mono HB2.out.size))
     clear hb3 hy S2
     go_wp2_with fail
     refine (HTx.out _ T3).mono ?_; rintro e w4 ⟨rfl, hb4⟩
     have HB4 := Lib.hid (HB3.out.trans (hb4.mono HB3.out.size))
     clear hb4
     go_wp2_with fail
     go_ret3
     exact ⟨rfl, HB4.out⟩
   | true =>
    rw [if_pos rfl] at hpo
    have hng := fun W => negate_any a b W ab1 ab2 (by omega) (by omega)
    generalize negV a b = nn at hpo hng
    obtain ⟨a', b'⟩ := nn
    have HNg := Lib.hid hng
    have ht := HT a' b' hpo
    have HTx := Lib.hid fun W T => Text_any a' b' W T
    clear HT hpo hng
    generalize tText a' b' = tt at ht HTx
    obtain ⟨t, te⟩ := tt
    rcases ht with ⟨e1, rfl⟩ | ⟨e1, rfl⟩ | ⟨e1, e2, rfl⟩
    ·obtain ⟨rfl, rfl⟩ := Prod.mk.inj e1
     go_enter Tryz.func144, Tryz.ntmps144
     go_wp2_with fail
     refine (HCP.out _).mono ?_; rintro e w1 ⟨rfl, rfl⟩
     go_wp2_with fail
     refine (HC.out _).mono ?_; rintro e w1 ⟨rfl, n1, rfl⟩
     go_wp2_with fail
     refine (HA.out _).mono ?_; rintro e w2 ⟨rfl, hb2⟩
     have S2 := (S.drewN n1).below hb2
     have HB2 : Hid (Below w1.heap.size w1 w2) := (below_drewN (Below.refl _ _) n1).trans hb2
     clear hb2
     go_wp2_with fail
     refine (HPB.out _ S2).mono ?_; rintro e w3 ⟨⟨y, rfl, hy⟩, hb3⟩
     obtain rfl := hy b rfl
     have T3 := (S2.below hb3).tab
     have HB3 := Lib.hid (HB2.out.trans (hb3.mono HB2.out.size))
     clear hb3 hy S2
     go_wp2_with fail
     refine (HNg.out _).mono ?_; rintro e w' ⟨rfl, rfl⟩
     go_wp2_with fail
     refine (HTx.out _ T3).mono ?_; rintro e w4 ⟨rfl, hb4⟩
     have HB4 := Lib.hid (HB3.out.trans (hb4.mono HB3.out.size))
     clear hb4
     go_wp2_with fail
     go_ret3
     exact ⟨rfl, HB4.out⟩
    ·have e1' : (te != 0) = true := by simpa using e1
     clear e1
     go_enter Tryz.func144, Tryz.ntmps144
     go_wp2_with fail
     refine (HCP.out _).mono ?_; rintro e w1 ⟨rfl, rfl⟩
     go_wp2_with fail
     refine (HC.out _).mono ?_; rintro e w1 ⟨rfl, n1, rfl⟩
     go_wp2_with fail
     refine (HA.out _).mono ?_; rintro e w2 ⟨rfl, hb2⟩
     have S2 := (S.drewN n1).below hb2
     have HB2 : Hid (Below w1.heap.size w1 w2) := (below_drewN (Below.refl _ _) n1).trans hb2
     clear hb2
     go_wp2_with fail
     refine (HPB.out _ S2).mono ?_; rintro e w3 ⟨⟨y, rfl, hy⟩, hb3⟩
     obtain rfl := hy b rfl
     have T3 := (S2.below hb3).tab
     have HB3 := Lib.hid (HB2.out.trans (hb3.mono HB2.out.size))
     clear hb3 hy S2
     go_wp2_with fail
     refine (HNg.out _).mono ?_; rintro e w' ⟨rfl, rfl⟩
     go_wp2_with fail
     refine (HTx.out _ T3).mono ?_; rintro e w4 ⟨rfl, hb4⟩
     have HB4 := Lib.hid (HB3.out.trans (hb4.mono HB3.out.size))
     clear hb4
     go_wp2_with fail
     go_ret3
     exact ⟨rfl, HB4.out⟩
    ·obtain rfl : te = 0 := e1
     have e2' : (t.toList == s.toList) = false := by rw [str_eq]; exact decide_eq_false e2
     clear e2
     go_enter Tryz.func144, Tryz.ntmps144
     go_wp2_with fail
     refine (HCP.out _).mono ?_; rintro e w1 ⟨rfl, rfl⟩
     go_wp2_with fail
     refine (HC.out _).mono ?_; rintro e w1 ⟨rfl, n1, rfl⟩
     go_wp2_with fail
     refine (HA.out _).mono ?_; rintro e w2 ⟨rfl, hb2⟩
     have S2 := (S.drewN n1).below hb2
     have HB2 : Hid (Below w1.heap.size w1 w2) := (below_drewN (Below.refl _ _) n1).trans hb2
     clear hb2
     go_wp2_with fail
     refine (HPB.out _ S2).mono ?_; rintro e w3 ⟨⟨y, rfl, hy⟩, hb3⟩
     obtain rfl := hy b rfl
     have T3 := (S2.below hb3).tab
     have HB3 := Lib.hid (HB2.out.trans (hb3.mono HB2.out.size))
     clear hb3 hy S2
     go_wp2_with fail
     refine (HNg.out _).mono ?_; rintro e w' ⟨rfl, rfl⟩
     go_wp2_with fail
     refine (HTx.out _ T3).mono ?_; rintro e w4 ⟨rfl, hb4⟩
     have HB4 := Lib.hid (HB3.out.trans (hb4.mono HB3.out.size))
     clear hb4
     go_wp2_with fail
     go_ret3
     exact ⟨rfl, HB4.out⟩
end Go.Proofs.YtmejnabngfpbeaaGreatDoor
