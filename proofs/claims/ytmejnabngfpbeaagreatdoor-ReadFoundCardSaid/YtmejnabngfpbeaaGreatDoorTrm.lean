/- Texts of one kind, in one file: OctA, Rep, TreA, LesA. -/
import Derived.Test.YtmejnabngfpbeaaGreatDoorNum
import Derived.Test.YtmejnabngfpbeaaGreatDoorMth
import Derived.Test.YtmejnabngfpbeaaGreatDoorShelf
import Derived.Deep.LoopGhost
import Derived.Test.YtmejnabngfpbeaaGreatDoorSpl
import Derived.Test.YtmejnabngfpbeaaGreatDoorArb
import Derived.Deep.RegionHeld3
import Derived.Deep.DrawnRows
import Derived.Deep.DeepCutAuto
import Derived.Laws.Rows
set_option linter.unusedVariables false
namespace Go.Proofs.YtmejnabngfpbeaaGreatDoor
open Go.RowKit
open Go.OpenShut
set_option maxHeartbeats 400000 in
theorem isWidth_any (x : Int) (w : World) : Calls Tryz.prog 256 #[.int .i64 x] w fun e w' => e = .returned (.bool (wOk x)) ∧ w = w' := by
 by_cases h2 : 2 ≤ x
 ·by_cases h12 : x ≤ 12
  ·rw [wOk_mk ⟨h2, h12⟩]
   go_enter Tryz.func256, Tryz.ntmps256
   go_wp2
   go_ret
   exact ⟨rfl, rfl⟩
  ·rw [wOk_no (by omega)]
   go_enter Tryz.func256, Tryz.ntmps256
   go_wp2
   go_ret
   exact ⟨rfl, rfl⟩
 ·rw [wOk_no (by omega)]
  go_enter Tryz.func256, Tryz.ntmps256
  go_wp2
  go_ret
  exact ⟨rfl, rfl⟩
set_option maxHeartbeats 400000 in
theorem Most_no (x : Int) (w : World) (h : wOk x = false) : Calls Tryz.prog 220 #[.int .i64 x] w fun e w' => e = .returned (.tuple #[.int .i64 0, .int .i64 4]) ∧ w = w' := by
 go_enter Tryz.func220, Tryz.ntmps220
 go_wp2_with (go_at_call 256; refine (isWidth_any _ _).mono ?_; rintro e w' ⟨rfl, rfl⟩)
 go_ret2
 exact ⟨rfl, rfl⟩
set_option maxHeartbeats 400000 in
theorem Most_yes (x : Int) (w : World) (h : 2 ≤ x ∧ x ≤ 12) : Calls Tryz.prog 220 #[.int .i64 x] w fun e w' => e = .returned (.tuple #[.int .i64 (most x), .int .i64 0]) ∧ w = w' := by
 have hw := wOk_mk h
 rcases split12 h with rfl | rfl | rfl | rfl | rfl | rfl | rfl | rfl | rfl | rfl | rfl
 all_goals
  go_enter Tryz.func220, Tryz.ntmps220
  go_wp2_with (go_at_call 256; refine (isWidth_any _ _).mono ?_; rintro e w' ⟨rfl, rfl⟩)
  go_ret2
  exact ⟨rfl, rfl⟩
theorem Most_any (x : Int) (w : World) : Calls Tryz.prog 220 #[.int .i64 x] w fun e w' => e = .returned (.tuple #[.int .i64 (mostV x).1, .int .i64 (mostV x).2]) ∧ w = w' := by
 by_cases h : 2 ≤ x ∧ x ≤ 12
 ·rw [show mostV x = (most x, 0) by simp [mostV, h]]; exact Most_yes x w h
 ·rw [show mostV x = (0, 4) from if_neg h]; exact Most_no x w (wOk_no h)
def digB (c : Int) : Bool := decide (48 ≤ c ∧ c ≤ 55)
set_option maxHeartbeats 400000 in
theorem isDigit_any (c : Int) (w : World) : Calls Tryz.prog 276 #[.int .u8 c] w fun e w' => e = .returned (.bool (digB c)) ∧ w = w' := by
 by_cases h2 : 48 ≤ c
 ·by_cases h12 : c ≤ 55
  ·rw [show digB c = true by simp [digB, h2, h12]]
   go_enter Tryz.func276, Tryz.ntmps276
   go_wp2
   go_ret
   exact ⟨rfl, rfl⟩
  ·rw [show digB c = false by simp [digB, h12]]
   go_enter Tryz.func276, Tryz.ntmps276
   go_wp2
   go_ret
   exact ⟨rfl, rfl⟩
 ·rw [show digB c = false by simp [digB, h2]]
  go_enter Tryz.func276, Tryz.ntmps276
  go_wp2
  go_ret
  exact ⟨rfl, rfl⟩
set_option maxHeartbeats 400000 in
theorem picked_any (n m : Int) (w : World) (hn : (Lit.int .i64 n).wf = true) (hm : 1 ≤ m) : Calls Tryz.prog 22 #[.int .i64 n, .int .i64 m] w fun e w' => e = .returned (.int .i64 (pick n m)) ∧ w = w' := by
 obtain ⟨b1, b2⟩ := bounds_i64 hn
 clear hn
 by_cases h : n < 0
 ·have h9 : 0 ≤ -(n + 1) := by omega
  go_enter Tryz.func22, Tryz.ntmps22
  go_wp2
  go_ret
  exact ⟨ret_int (by rw [pick, if_pos h, ← Int.neg_tmod, Int.tmod_eq_emod_of_nonneg h9]), rfl⟩
 ·go_enter Tryz.func22, Tryz.ntmps22
  go_wp2
  go_ret
  exact ⟨ret_int (by rw [pick, if_neg (by omega)]), rfl⟩
theorem ext0 (s : ByteArray) (k : Nat) : s.extract 0 k = ⟨(s.data.toList.take k).toArray⟩ := by
 apply ByteArray.ext; apply Array.toList_inj.1
 rw [ByteArray.data_extract, Array.toList_extract]; simp [List.extract]
theorem bGrow (B b n : Nat) (w : World) (hB : B ≤ b) (hbk : w.heap[b]? = some (.cells #[.pointer none, .slice none 0 0] 156 (0, 0))) (hBw : B ≤ w.heap.size) (hn : n ≤ 281474976710656) :
  Calls Tryz.prog 115 #[.pointer (some ⟨b, 0, none⟩), .int .i64 n] w fun e w' => e = .returned (.tuple #[]) ∧ (Lib.BuilderAt 156 5 B b (.pointer (some ⟨b, 0, none⟩)) [] w' ∧ Below B w w') :=
 Any.Builder_Grow_fresh { Tryz.lays154 with } Tryz.Builder_Extra_154 B b n w hB hbk hBw hn
theorem bWrite (B b : Nat) (bs : List Value) (s : ByteArray) (w : World) (h : Lib.IsBuilder 156 5 B b bs w) (hlen : bs.length + s.size ≤ 140737488355328) (hBw : B ≤ w.heap.size) :
  Calls Tryz.prog 116 #[.pointer (some ⟨b, 0, none⟩), .string s] w fun e w' => e = .returned (.tuple #[.int .i64 s.size, .nilIface]) ∧ (Lib.BuilderAt 156 5 B b (.pointer (some ⟨b, 0, none⟩)) (bs ++ Lib.strCells s) w' ∧ Below B w w') :=
 Any.Builder_WriteString { Tryz.lays154 with } Tryz.Builder_Extra_154 B b bs s w h hlen hBw
theorem bString (B b : Nat) (l : List UInt8) (w : World) (h : Lib.IsBuilder 156 5 B b (Lib.byteCells l) w) (hBw : B ≤ w.heap.size) :
  Calls Tryz.prog 118 #[.pointer (some ⟨b, 0, none⟩)] w fun e w' => e = .returned (.string ⟨l.toArray⟩) ∧ Below B w w' :=
 Any.Builder_String_any { Tryz.lays154 with } Tryz.Builder_Extra_154 B b l w h hBw
theorem Count_one (s : ByteArray) (c : UInt8) (w : World) : Calls Tryz.prog 238 #[.string s, .string ⟨#[c]⟩] w fun e w' => e = .returned (.int .i64 (s.data.toList.count c : Nat)) ∧ w = w' :=
 (Tryz.strings_Count_one s c w).mono fun e w' ⟨a, b⟩ => ⟨a, b.symm⟩
theorem Index_one (s : ByteArray) (c : UInt8) (w : World) (h : pos c s.data.toList < s.data.toList.length) : Calls Tryz.prog 239 #[.string s, .string ⟨#[c]⟩] w fun e w' => e = .returned (.int .i64 (pos c s.data.toList : Nat)) ∧ w = w' :=
 (Tryz.strings_Index_one s c w).mono fun e w' ⟨a, b⟩ => ⟨by rw [a, indexByte_pos, if_pos (by rw [hasB_pos]; exact decide_eq_true h)], b.symm⟩
theorem Replace_absent (s : ByteArray) (c d : UInt8) (w : World) (hcd : c ≠ d) (h : hasB c s.data.toList = false) :
  Calls Tryz.prog 188 #[.string s, .string ⟨#[c]⟩, .string ⟨#[d]⟩, .int .i64 (-1)] w fun e w' => e = .returned (.string ⟨(rep c d s.data.toList).toArray⟩) ∧ Below w.heap.size w w' := by
 have hne : (c == d) = false := beq_eq_false_iff_ne.2 hcd
 have h0 := (count_none c _).2 h
 have hr := Lib.hid (rep_none c d _ h)
 clear h
 go_enter Tryz.func188, Tryz.ntmps188
 go_wp2_with fail
 refine (Count_one s c _).mono ?_; rintro e w' ⟨rfl, rfl⟩
 rw [h0]
 clear h0
 go_wp2_with fail
 go_ret
 exact ⟨ret_str (by rw [hr.out]), Below.refl _ _⟩
set_option maxHeartbeats 1000000 in
theorem Replace_some (s : ByteArray) (c d : UInt8) (w : World) (hcd : c ≠ d) (hs : s.size ≤ 140737488355328) (h : hasB c s.data.toList = true) :
  Calls Tryz.prog 188 #[.string s, .string ⟨#[c]⟩, .string ⟨#[d]⟩, .int .i64 (-1)] w fun e w' => e = .returned (.string ⟨(rep c d s.data.toList).toArray⟩) ∧ Below w.heap.size w w' := by
 have hne : (c == d) = false := beq_eq_false_iff_ne.2 hcd
 have hl : s.data.toList.length = s.size := by simp
 obtain ⟨K, HK⟩ := hid_name (s.data.toList.count c)
 have hKs : K ≤ s.size := by rw [← HK.out, ← hl]; exact List.count_le_length
 have hK0 : 1 ≤ K := by
  rcases Nat.eq_zero_or_pos K with h0 | h0
  ·rw [← HK.out, count_none, h] at h0; cases h0
  ·exact h0
 have hKz : ((K : Int) == 0) = false := beq_eq_false_iff_ne.2 (by omega)
 have HL := Lib.hid hl
 clear h hl
 go_enter Tryz.func188, Tryz.ntmps188
 go_wp2_with fail
 refine (Count_one s c _).mono ?_; rintro e w' ⟨rfl, rfl⟩
 rw [HK.out]
 go_wp2_with fail
 refine (bGrow w.heap.size w.heap.size _ _ (Nat.le_refl _) (heap_alloc_new w _) (by simp) (by omega)).mono ?_
 rintro e w1 ⟨rfl, hb0, hb1⟩
 have H1 := Lib.hid (Or.inr hb0 : Lib.IsBuilder 156 5 w.heap.size w.heap.size (Lib.byteCells []) w1)
 have Hb1 := Lib.hid (((Below.refl w.heap.size w).alloc (Nat.le_refl _) _).trans hb1)
 clear hb0 hb1
 go_wp2_with fail
 go_loopg [11, 53] K (fun g s11 s53 wx => ∃ (i start : Nat) (acc : List UInt8), s53 = .int .i64 i ∧ s11 = .int .i64 start ∧ i + g = K ∧ start ≤ s.size ∧
   Hid (Lib.IsBuilder 156 5 w.heap.size w.heap.size (Lib.byteCells acc) wx) ∧ Hid (Below w.heap.size w wx) ∧ Hid (acc ++ rep c d (s.data.toList.drop start) = rep c d s.data.toList) ∧
   Hid (g = (s.data.toList.drop start).count c) ∧ Hid (acc.length = start))
 case atStart => exact ⟨0, 0, [], rfl, rfl, by omega, Nat.zero_le _, H1, Hb1, by simp [Hid], by unfold Hid; rw [List.drop_zero, HK.out], rfl⟩
 case round =>
  obtain ⟨i, start, acc, rfl, rfl, hig, hst, HB, HW, HR, HG, HA⟩ := hrel
  have hBw : w.heap.size ≤ wr.heap.size := HW.out.size
  have hlen : (s.data.toList.drop start).length = s.size - start := by rw [List.length_drop, HL.out]
  have hac : acc.length ≤ start := Nat.le_of_eq HA.out
  cases gk with
  | zero =>
   have hiK : ¬ ((i : Int) < (K : Int)) := by omega
   have hfin := HR.out
   rw [rep_none c d _ ((count_none c _).1 HG.out.symm)] at hfin
   have Hfin := Lib.hid hfin
   clear hfin hlen
   go_wp2_with fail
   refine (bWrite w.heap.size w.heap.size _ _ wr HB.out (by rw [Lib.byteCells_length, ByteArray.size_extract]; omega) hBw).mono ?_
   rintro e w3 ⟨rfl, h3, hb3⟩
   rw [Lib.strCells_eq, Lib.extract_to_end, ← Lib.byteCells_append, Hfin.out] at h3
   have H3 := Lib.hid (Or.inr h3 : Lib.IsBuilder 156 5 w.heap.size w.heap.size _ w3)
   have Hb3 := Lib.hid (HW.out.trans hb3)
   have hBw3 : w.heap.size ≤ w3.heap.size := Hb3.out.size
   clear h3 hb3
   go_wp2_with fail
   refine (bString w.heap.size w.heap.size _ w3 H3.out hBw3).mono ?_
   rintro e w5 ⟨rfl, hb5⟩
   have Hb5 := Lib.hid (Hb3.out.trans hb5)
   clear hb5
   go_wp2
   go_ret
   exact ⟨rfl, Hb5.out⟩
  | succ g =>
   have hiK : (i : Int) < (K : Int) := by omega
   have hp : pos c (s.data.toList.drop start) < (s.data.toList.drop start).length := by
    have : hasB c (s.data.toList.drop start) = true := by
     rw [← Bool.not_eq_false]; intro h0
     have := (count_none c _).2 h0
     have := HG.out; omega
    rw [hasB_pos] at this; exact of_decide_eq_true this
   have Hrs := Lib.hid (rep_split c d _ hp)
   have Hcs := Lib.hid (count_split c _ hp)
   obtain ⟨p, Hp⟩ := hid_name (pos c (s.data.toList.drop start))
   rw [Hp.out] at hp Hrs Hcs
   rw [hlen] at hp
   have Hlen := Lib.hid hlen
   clear hlen
   have c3 : (start : Int) ≤ (start : Int) + (p : Int) := by omega
   have c4 : (start : Int) + (p : Int) ≤ (s.size : Int) := by omega
   have Hn : Hid (Lib.byteCells acc ++ Lib.strCells (s.extract start (start + p)) ++ Lib.strCells ⟨#[d]⟩ = Lib.byteCells (acc ++ (s.data.toList.drop start).take p ++ [d])) := by
    unfold Hid
    rw [Lib.strCells_eq, Lib.strCells_eq, Lib.extract_data, Nat.add_sub_cancel_left, ← Lib.byteCells_append, ← Lib.byteCells_append]
   have Hr : Hid ((acc ++ (s.data.toList.drop start).take p ++ [d]) ++ rep c d (s.data.toList.drop (start + p + 1)) = rep c d s.data.toList) := by
    unfold Hid
    rw [← HR.out, Hrs.out, List.drop_drop, ← Nat.add_assoc]
    simp only [List.append_assoc]
   have Hc : Hid (g = (s.data.toList.drop (start + p + 1)).count c) := by
    unfold Hid
    have := HG.out
    rw [Hcs.out, List.drop_drop, ← Nat.add_assoc] at this
    omega
   have Hlt : Hid ((acc ++ (s.data.toList.drop start).take p ++ [d]).length = start + p + 1) := by
    unfold Hid
    rw [List.length_append, List.length_append, List.length_take, Hlen.out, HA.out, List.length_singleton]; omega
   go_wp2_with fail
   refine (Index_one _ c _ (by rw [Lib.extract_to_end, Hp.out, Hlen.out]; exact hp)).mono ?_; rintro e w' ⟨rfl, rfl⟩
   rw [Lib.extract_to_end, Hp.out]
   go_wp2_with fail
   refine (bWrite w.heap.size w.heap.size _ (s.extract start (start + p)) wr HB.out (by rw [Lib.byteCells_length, ByteArray.size_extract]; omega) hBw).mono ?_
   rintro e w3 ⟨rfl, h3, hb3⟩
   have hBw3 : w.heap.size ≤ w3.heap.size := Nat.le_trans hBw hb3.size
   have H3 := Lib.hid h3
   have Hb3 := Lib.hid hb3
   clear h3 hb3
   go_wp2_with fail
   refine (bWrite w.heap.size w.heap.size _ ⟨#[d]⟩ w3 (Or.inr H3.out) (by rw [List.length_append, Lib.byteCells_length, Lib.strCells_eq, Lib.byteCells_length, ← Lib.size_eq, ByteArray.size_extract]; show _ + 1 ≤ _; omega) hBw3).mono ?_
   rintro e w4 ⟨rfl, h4, hb4⟩
   rw [Hn.out] at h4
   have H4 := Lib.hid (Or.inr h4 : Lib.IsBuilder 156 5 w.heap.size w.heap.size _ w4)
   have Hb4 := Lib.hid ((HW.out.trans Hb3.out).trans hb4)
   clear h4 hb4
   go_wp2
   go_roundg g
   case measure => omega
   case rel => exact ⟨i + 1, start + p + 1, _, by go_num, by go_num, by omega, by omega, H4, Hb4, Hr, Hc, Hlt⟩
theorem Replace_byte (s : ByteArray) (c d : UInt8) (w : World) (hcd : c ≠ d) (hs : s.size ≤ 140737488355328) :
  Calls Tryz.prog 188 #[.string s, .string ⟨#[c]⟩, .string ⟨#[d]⟩, .int .i64 (-1)] w fun e w' => e = .returned (.string ⟨(rep c d s.data.toList).toArray⟩) ∧ Below w.heap.size w w' := by
 cases h : hasB c s.data.toList
 ·exact Replace_absent s c d w hcd h
 ·exact Replace_some s c d w hcd hs h
theorem ReplaceAll_byte (s : ByteArray) (c d : UInt8) (w : World) (hcd : c ≠ d) (hs : s.size ≤ 140737488355328) :
  Calls Tryz.prog 119 #[.string s, .string ⟨#[c]⟩, .string ⟨#[d]⟩] w fun e w' => e = .returned (.string ⟨(rep c d s.data.toList).toArray⟩) ∧ Below w.heap.size w w' := by
 go_enter Tryz.func119, Tryz.ntmps119
 go_wp2_with fail
 refine (Replace_byte s c d _ hcd hs).mono ?_; rintro e w1 ⟨rfl, hb⟩
 go_wp2_with fail
 go_ret
 exact ⟨rfl, hb⟩
theorem clean_any (s : ByteArray) (m : Nat) (w : World) (hs : s.size ≤ 140737488355328) (hm : m ≤ 1000000) :
  Calls Tryz.prog 68 #[.string s, .int .i64 m] w fun e w' => e = .returned (.string ⟨(cleanL s.data.toList m).toArray⟩) ∧ Below w.heap.size w w' := by
 go_enter Tryz.func68, Tryz.ntmps68
 go_wp2_with fail
 refine (ReplaceAll_byte s 0 48 _ (by decide) hs).mono ?_; rintro e w1 ⟨rfl, hb⟩
 obtain ⟨r, Hr⟩ := hid_name (⟨(rep 0 48 s.data.toList).toArray⟩ : ByteArray)
 rw [Hr.out]
 have hrs : r.size = s.size := by rw [← Hr.out, size_mk, rep_length]; simp
 have h1 : r.size ≤ s.size := by omega
 clear hrs
 have HT : Hid (cleanL s.data.toList m = r.data.toList.take m) := by unfold Hid cleanL; rw [← Hr.out]
 go_wp2
 go_ret
 exact ⟨ret_str (by rw [HT.out, ext0]; congr 2; rw [List.take_eq_take_iff]; simp; omega), hb⟩
set_option maxRecDepth 100000
theorem rep_one (c : UInt8) (n : Nat) : (⟨(Lib.repeatL (⟨#[c]⟩ : ByteArray).data.toList n).toArray⟩ : ByteArray) = ⟨(List.replicate n c).toArray⟩ := by
 have := Lib.repeatL_replicate c 1 n
 rw [Nat.mul_one] at this
 rw [← this]; rfl
theorem names_any (w : World) : Calls Tryz.prog 65 #[] w fun e w' => ∃ g, e = .returned (.slice (some ⟨g, 0, none⟩) 11 11) ∧ Texts w' w.heap.size (.slice (some ⟨g, 0, none⟩) 11 11) namesL ∧ Below w.heap.size w w' := by
 go_enter Tryz.func65, Tryz.ntmps65
 go_wp2_with fail
 refine (Tryz.strings_Repeat ⟨#[110]⟩ 60 _ (by decide) (by decide)).mono ?_; rintro e w1 ⟨rfl, hb1⟩
 rw [rep_one]
 obtain ⟨s1, Hs1⟩ := hid_name (⟨(List.replicate 60 110).toArray⟩ : ByteArray)
 rw [Hs1.out]
 have HB1 := Lib.hid hb1
 clear hb1
 go_wp2_with fail
 refine (Tryz.strings_Repeat ⟨#[109]⟩ 130 _ (by decide) (by decide)).mono ?_; rintro e w2 ⟨rfl, hb2⟩
 rw [rep_one]
 obtain ⟨s2, Hs2⟩ := hid_name (⟨(List.replicate 130 109).toArray⟩ : ByteArray)
 rw [Hs2.out]
 have HB2 := Lib.hid (HB1.out.trans (hb2.mono HB1.out.size))
 clear hb2 HB1
 go_wp2_with fail
 go_ret
 have ht := (Texts.lit (w := w2) namesL (by decide)).mono HB2.out.size
 have hc : (strC namesL).toArray = #[.string ⟨#[97]⟩, .string ⟨#[98]⟩, .string ⟨#[97, 98]⟩, .string ⟨#[66]⟩, .string ⟨#[120, 32, 121]⟩, .string ⟨#[195, 169]⟩, .string ⟨#[99, 46, 116, 120, 116]⟩, .string s1, .string s2, .string ⟨#[97, 33]⟩, .string ⟨#[45]⟩] := by
  rw [← Hs1.out, ← Hs2.out]; rfl
 rw [hc] at ht
 exact ⟨_, rfl, ht, HB2.out.alloc HB2.out.size _⟩
def metaC (m : MetaV) : List Value := [.int .i64 m.mode, .int .i64 m.uid, .int .i64 m.gid, strV m.user, strV m.group, .int .i64 m.second, .int .i64 m.nano]
def cmpS (x y : List UInt8) : Int := if bless x y = true then -1 else if bless y x = true then 1 else 0
theorem isNaNs_any (s : ByteArray) (w : World) : Calls Tryz.prog 246 #[.string s] w fun e w' => e = .returned (.bool false) ∧ w = w' := by
 go_enter Tryz.func246, Tryz.ntmps246
 go_wp2
 go_ret
 exact ⟨rfl, rfl⟩
theorem cmps_any (a b : ByteArray) (w : World) : Calls Tryz.prog 199 #[.string a, .string b] w fun e w' => e = .returned (.int .i64 (cmpS a.toList b.toList)) ∧ w = w' := by
 cases hl : bless a.toList b.toList
 ·cases hg : bless b.toList a.toList
  ·have he := bless_total _ _ hl hg
   have hr : Hid (cmpS a.toList b.toList = 0) := by unfold Hid cmpS; rw [hl, hg]; simp
   have h1 : Op.bytesLess a.toList b.toList = false := hl
   have h2 : (a.toList == b.toList) = true := by simpa using he
   clear hl hg he
   go_enter Tryz.func199, Tryz.ntmps199
   go_wp2_with (go_at_call 246; refine (isNaNs_any _ _).mono ?_; rintro e w' ⟨rfl, rfl⟩)
   go_ret
   exact ⟨ret_int hr.out.symm, rfl⟩
  ·have hr : Hid (cmpS a.toList b.toList = 1) := by unfold Hid cmpS; rw [hl, hg]; simp
   have h1 : Op.bytesLess a.toList b.toList = false := hl
   have h2 : (a.toList == b.toList) = false := by
    rw [beq_eq_false_iff_ne]; intro e; rw [e, bless_self] at hg; cases hg
   clear hl hg
   go_enter Tryz.func199, Tryz.ntmps199
   go_wp2_with (go_at_call 246; refine (isNaNs_any _ _).mono ?_; rintro e w' ⟨rfl, rfl⟩)
   go_ret
   exact ⟨ret_int hr.out.symm, rfl⟩
 ·have hr : Hid (cmpS a.toList b.toList = -1) := by unfold Hid cmpS; rw [hl]; simp
  have h1 : Op.bytesLess a.toList b.toList = true := hl
  clear hl
  go_enter Tryz.func199, Tryz.ntmps199
  go_wp2_with (go_at_call 246; refine (isNaNs_any _ _).mono ?_; rintro e w' ⟨rfl, rfl⟩)
  go_ret
  exact ⟨ret_int hr.out.symm, rfl⟩
theorem cmpS_step (a b : List (List UInt8)) (k : Nat) (he : a.take k = b.take k) (ha : k < a.length) (hb : k < b.length) :
  (cmpS (a.getD k []) (b.getD k []) ≠ 0 → lcmp a b = cmpS (a.getD k []) (b.getD k [])) ∧ (cmpS (a.getD k []) (b.getD k []) = 0 → a.take (k + 1) = b.take (k + 1)) := by
 obtain ⟨s1, s2, s3⟩ := lcmp_step a b k he ha hb
 unfold cmpS
 cases hl : bless (a.getD k []) (b.getD k [])
 ·cases hg : bless (b.getD k []) (a.getD k [])
  ·simp; exact s3 (bless_total _ _ hl hg)
  ·simp; exact s2 hl (fun e => by rw [e, bless_self] at hg; cases hg)
 ·simp; exact s1 hl
set_option maxHeartbeats 1000000 in
theorem Cmp_any (A B : Option Addr) (ca cb : Nat) (xs ys : List (List UInt8)) (w : World) (hx : xs.length ≤ 8000000000001) (hy : ys.length ≤ 8000000000001)
  (hA : ∀ j, j < xs.length → ∃ g, A = some ⟨g, 0, none⟩ ∧ w.cell? ⟨g, j, none⟩ = some (strV (xs.getD j []))) (hB : ∀ j, j < ys.length → ∃ g, B = some ⟨g, 0, none⟩ ∧ w.cell? ⟨g, j, none⟩ = some (strV (ys.getD j []))) :
  Calls Tryz.prog 122 #[.slice A xs.length ca, .slice B ys.length cb] w fun e w' => e = .returned (.int .i64 (lcmp xs ys)) ∧ w = w' := by
 have HA := Lib.hid hA
 have HB := Lib.hid hB
 obtain ⟨nx, Hx⟩ := hid_name xs.length
 obtain ⟨ny, Hy⟩ := hid_name ys.length
 rw [Hx.out] at hx ⊢
 rw [Hy.out] at hy ⊢
 clear hA hB
 go_enter Tryz.func122, Tryz.ntmps122
 go_wp2_with fail
 go_loop [11] (fun i => ∃ k : Nat, i = .int .i64 k ∧ k ≤ nx ∧ k ≤ ny ∧ Hid (xs.take k = ys.take k)) (fun i => nx - (intOf i).toNat)
 case atStart => exact ⟨0, rfl, Nat.zero_le _, Nat.zero_le _, rfl⟩
 case round =>
  obtain ⟨k, rfl, hk1, hk2, HE⟩ := hrel
  by_cases hlt1 : k < nx
  ·obtain ⟨ga, rfl, hca⟩ := HA.out k (by rw [Hx.out]; exact hlt1)
   unfold strV at hca
   obtain ⟨sx, Hsx⟩ := hid_name (⟨(xs.getD k []).toArray⟩ : ByteArray)
   have ex : sx.toList = xs.getD k [] := by rw [ByteArray.toList_eq, ← Hsx.out]
   rw [Hsx.out] at hca
   by_cases hlt2 : k < ny
   ·obtain ⟨gb, rfl, hcb⟩ := HB.out k (by rw [Hy.out]; exact hlt2)
    obtain ⟨st1, st2⟩ := cmpS_step xs ys k HE.out (by rw [Hx.out]; exact hlt1) (by rw [Hy.out]; exact hlt2)
    unfold strV at hcb
    obtain ⟨sy, Hsy⟩ := hid_name (⟨(ys.getD k []).toArray⟩ : ByteArray)
    have ey : sy.toList = ys.getD k [] := by rw [ByteArray.toList_eq, ← Hsy.out]
    rw [Hsy.out] at hcb
    rw [← ex, ← ey] at st1 st2
    clear ex ey
    obtain ⟨c, Hc⟩ := hid_name (cmpS sx.toList sy.toList)
    rw [Hc.out] at st1 st2
    by_cases hc : c = 0
    ·have HE1 := Lib.hid (st2 hc)
     have hc' : (c != 0) = false := by simp [hc]
     clear st1 st2 hc
     go_wp2_with fail
     refine (cmps_any _ _ _).mono ?_; rintro e w' ⟨rfl, rfl⟩
     rw [Hc.out]
     go_wp2_with fail
     go_round
     case rel => exact ⟨k + 1, by go_num, by omega, by omega, HE1⟩
     case measure => simp [intOf]; omega
    ·have HR := Lib.hid (st1 hc)
     have hc' : (c != 0) = true := by simp [hc]
     clear st1 st2 hc
     go_wp2_with fail
     refine (cmps_any _ _ _).mono ?_; rintro e w' ⟨rfl, rfl⟩
     rw [Hc.out]
     go_wp2_with fail
     go_ret
     exact ⟨ret_int HR.out.symm, rfl⟩
   ·have HR : Hid (lcmp xs ys = 1) := by
     unfold Hid
     rw [lcmp_end xs ys k HE.out (by rw [Hx.out]; exact hk1) (by rw [Hy.out]; exact hk2) (.inr (by rw [Hy.out]; omega)), Hx.out, Hy.out, sgn_gt (by omega)]
    clear ex
    go_wp2_with fail
    go_ret
    exact ⟨ret_int HR.out.symm, rfl⟩
  ·by_cases hlt2 : k < ny
   ·have HR : Hid (lcmp xs ys = -1) := by
     unfold Hid
     rw [lcmp_end xs ys k HE.out (by rw [Hx.out]; exact hk1) (by rw [Hy.out]; exact hk2) (.inl (by rw [Hx.out]; omega)), Hx.out, Hy.out, sgn_lt (by omega)]
    obtain rfl : k = nx := by omega
    go_wp2_with fail
    go_ret
    exact ⟨ret_int HR.out.symm, rfl⟩
   ·have HR : Hid (lcmp xs ys = 0) := by
     unfold Hid
     rw [lcmp_end xs ys k HE.out (by rw [Hx.out]; exact hk1) (by rw [Hy.out]; exact hk2) (.inl (by rw [Hx.out]; omega)), Hx.out, Hy.out, sgn_eq (by omega) (by omega)]
    obtain rfl : k = nx := by omega
    go_wp2_with fail
    go_ret
    exact ⟨ret_int HR.out.symm, rfl⟩
def partObj (s : ByteArray) : Obj := .cells (strC (partsL 47 s.data.toList)).toArray 9
theorem less_any (a b : ByteArray) (w : World) (ha : a.size < 4294967281) (hb : b.size < 4294967281) :
  Calls Tryz.prog 71 #[.string a, .string b] w fun e w' => e = .returned (.int .i64 (pcmp a.data.toList b.data.toList)) ∧ w' = (w.alloc (partObj a)).alloc (partObj b) := by
 have hla := partsL_le 47 a.data.toList
 have hlb := partsL_le 47 b.data.toList
 have h1 : a.data.toList.length = a.size := by simp
 have h2 : b.data.toList.length = b.size := by simp
 have HP := Lib.hid (lcmp_parts a.data.toList b.data.toList)
 have hma : (partsL 47 a.data.toList).length ≤ 8000000000001 := by omega
 have hmb : (partsL 47 b.data.toList).length ≤ 8000000000001 := by omega
 have ht1 : Texts ((w.alloc (partObj a)).alloc (partObj b)) w.heap.size (.slice (some ⟨w.heap.size, 0, none⟩) (partsL 47 a.data.toList).length (partsL 47 a.data.toList).length) (partsL 47 a.data.toList) := (Texts.lit (w := w) (partsL 47 a.data.toList) (by unfold maxLen; omega)).below ((Below.refl _ _).alloc (Nat.le_refl _) _)
 have ht2 : Texts ((w.alloc (partObj a)).alloc (partObj b)) (w.alloc (partObj a)).heap.size (.slice (some ⟨(w.alloc (partObj a)).heap.size, 0, none⟩) (partsL 47 b.data.toList).length (partsL 47 b.data.toList).length) (partsL 47 b.data.toList) := Texts.lit (w := w.alloc (partObj a)) (partsL 47 b.data.toList) (by unfold maxLen; omega)
 have HT1 := Lib.hid ht1
 have HT2 := Lib.hid ht2
 have hpa : Obj.cells (strC (partsL 47 a.data.toList)).toArray 9 = partObj a := rfl
 have hpb : Obj.cells (strC (partsL 47 b.data.toList)).toArray 9 = partObj b := rfl
 have HPA := Lib.hid hpa
 have HPB := Lib.hid hpb
 clear ht1 ht2 h1 h2 hpa hpb hla hlb
 go_enter Tryz.func71, Tryz.ntmps71
 go_wp2_with fail
 refine (Split_slash a _ ha).mono ?_; rintro e w1 ⟨rfl, rfl⟩
 rw [HPA.out]
 go_wp2_with fail
 refine (Split_slash b _ hb).mono ?_; rintro e w2 ⟨rfl, rfl⟩
 rw [HPB.out]
 go_wp2_with fail
 refine (Cmp_any _ _ _ _ (partsL 47 a.data.toList) (partsL 47 b.data.toList) _ hma hmb (fun j hj => ⟨w.heap.size, rfl, HT1.out.cell rfl j hj⟩) (fun j hj => ⟨w.heap.size + 1, rfl, ?_⟩)).mono ?_
 ·have := HT2.out.cell (by rfl) j hj
  simpa using this
 rintro e w' ⟨rfl, rfl⟩
 rw [HP.out]
 go_wp2_with fail
 go_ret
 exact ⟨rfl, rfl⟩
end Go.Proofs.YtmejnabngfpbeaaGreatDoor
