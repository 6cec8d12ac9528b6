/- strings.ReplaceAll of one byte by another one, at every length that can be read; the laws' 'clean'. -/
import Derived.Test.YtdcbmjihpjnbbaaDoorMth
import Derived.Test.YtdcbmjihpjnbbaaDoorShelf
import Derived.Deep.LoopGhost
set_option linter.unusedVariables false
namespace Go.Proofs.YtdcbmjihpjnbbaaDoor
open Go.RowKit
open Go.OpenShut
theorem ext0 (s : ByteArray) (k : Nat) : s.extract 0 k = ⟨(s.data.toList.take k).toArray⟩ := by
  apply ByteArray.ext; apply Array.toList_inj.1
  rw [ByteArray.data_extract, Array.toList_extract]; simp [List.extract]
theorem bGrow (B b n : Nat) (w : World) (hB : B ≤ b) (hbk : w.heap[b]? = some (.cells #[.pointer none, .slice none 0 0] 66 (0, 0))) (hBw : B ≤ w.heap.size) (hn : n ≤ 281474976710656) :
    Calls Tryd.prog 51 #[.pointer (some ⟨b, 0, none⟩), .int .i64 n] w fun e w' => e = .returned (.tuple #[]) ∧ (Lib.BuilderAt 66 5 B b (.pointer (some ⟨b, 0, none⟩)) [] w' ∧ Below B w w') :=
  Any.Builder_Grow_fresh { Tryd.lays154 with } Tryd.Builder_Extra_154 B b n w hB hbk hBw hn
theorem bWrite (B b : Nat) (bs : List Value) (s : ByteArray) (w : World) (h : Lib.IsBuilder 66 5 B b bs w) (hlen : bs.length + s.size ≤ 140737488355328) (hBw : B ≤ w.heap.size) :
    Calls Tryd.prog 52 #[.pointer (some ⟨b, 0, none⟩), .string s] w fun e w' => e = .returned (.tuple #[.int .i64 s.size, .nilIface]) ∧ (Lib.BuilderAt 66 5 B b (.pointer (some ⟨b, 0, none⟩)) (bs ++ Lib.strCells s) w' ∧ Below B w w') :=
  Any.Builder_WriteString { Tryd.lays154 with } Tryd.Builder_Extra_154 B b bs s w h hlen hBw
theorem bString (B b : Nat) (l : List UInt8) (w : World) (h : Lib.IsBuilder 66 5 B b (Lib.byteCells l) w) (hBw : B ≤ w.heap.size) :
    Calls Tryd.prog 53 #[.pointer (some ⟨b, 0, none⟩)] w fun e w' => e = .returned (.string ⟨l.toArray⟩) ∧ Below B w w' :=
  Any.Builder_String_any { Tryd.lays154 with } Tryd.Builder_Extra_154 B b l w h hBw
theorem Count_one (s : ByteArray) (c : UInt8) (w : World) : Calls Tryd.prog 98 #[.string s, .string ⟨#[c]⟩] w fun e w' => e = .returned (.int .i64 (s.data.toList.count c : Nat)) ∧ w = w' :=
  (Tryd.strings_Count_one s c w).mono fun e w' ⟨a, b⟩ => ⟨a, b.symm⟩
theorem Index_one (s : ByteArray) (c : UInt8) (w : World) (h : pos c s.data.toList < s.data.toList.length) : Calls Tryd.prog 99 #[.string s, .string ⟨#[c]⟩] w fun e w' => e = .returned (.int .i64 (pos c s.data.toList : Nat)) ∧ w = w' :=
  (Tryd.strings_Index_one s c w).mono fun e w' ⟨a, b⟩ => ⟨by rw [a, indexByte_pos, if_pos (by rw [hasB_pos]; exact decide_eq_true h)], b.symm⟩
theorem Replace_absent (s : ByteArray) (c d : UInt8) (w : World) (hcd : c ≠ d) (h : hasB c s.data.toList = false) :
    Calls Tryd.prog 86 #[.string s, .string ⟨#[c]⟩, .string ⟨#[d]⟩, .int .i64 (-1)] w fun e w' => e = .returned (.string ⟨(rep c d s.data.toList).toArray⟩) ∧ Below w.heap.size w w' := by
  have hne : (c == d) = false := beq_eq_false_iff_ne.2 hcd
  have h0 := (count_none c _).2 h
  have hr := Lib.hid (rep_none c d _ h)
  clear h
  go_enter Tryd.func86, Tryd.ntmps86
  go_wp2_with fail
  refine (Count_one s c _).mono ?_; rintro e w' ⟨rfl, rfl⟩
  rw [h0]
  clear h0
  go_wp2_with fail
  go_ret
  exact ⟨ret_str (by rw [hr.out]), Below.refl _ _⟩
set_option maxHeartbeats 1000000 in
theorem Replace_some (s : ByteArray) (c d : UInt8) (w : World) (hcd : c ≠ d) (hs : s.size ≤ 140737488355328) (h : hasB c s.data.toList = true) :
    Calls Tryd.prog 86 #[.string s, .string ⟨#[c]⟩, .string ⟨#[d]⟩, .int .i64 (-1)] w fun e w' => e = .returned (.string ⟨(rep c d s.data.toList).toArray⟩) ∧ Below w.heap.size w w' := by
  have hne : (c == d) = false := beq_eq_false_iff_ne.2 hcd
  have hl : s.data.toList.length = s.size := by simp
  obtain ⟨K, HK⟩ := hid_name (s.data.toList.count c)
  have hKs : K ≤ s.size := by rw [← HK.out, ← hl]; exact List.count_le_length
  have hK0 : 1 ≤ K := by
    rcases Nat.eq_zero_or_pos K with h0 | h0
    · rw [← HK.out, count_none, h] at h0; cases h0
    · exact h0
  have hKz : ((K : Int) == 0) = false := beq_eq_false_iff_ne.2 (by omega)
  have HL := Lib.hid hl
  clear h hl
  go_enter Tryd.func86, Tryd.ntmps86
  go_wp2_with fail
  refine (Count_one s c _).mono ?_; rintro e w' ⟨rfl, rfl⟩
  rw [HK.out]
  go_wp2_with fail
  refine (bGrow w.heap.size w.heap.size _ _ (Nat.le_refl _) (heap_alloc_new w _) (by simp) (by omega)).mono ?_
  rintro e w1 ⟨rfl, hb0, hb1⟩
  have H1 := Lib.hid (Or.inr hb0 : Lib.IsBuilder 66 5 w.heap.size w.heap.size (Lib.byteCells []) w1)
  have Hb1 := Lib.hid (((Below.refl w.heap.size w).alloc (Nat.le_refl _) _).trans hb1)
  clear hb0 hb1
  go_wp2_with fail
  go_loopg [11, 53] K (fun g s11 s53 wx => ∃ (i start : Nat) (acc : List UInt8), s53 = .int .i64 i ∧ s11 = .int .i64 start ∧ i + g = K ∧ start ≤ s.size ∧
      Hid (Lib.IsBuilder 66 5 w.heap.size w.heap.size (Lib.byteCells acc) wx) ∧ Hid (Below w.heap.size w wx) ∧ Hid (acc ++ rep c d (s.data.toList.drop start) = rep c d s.data.toList) ∧
      Hid (g = (s.data.toList.drop start).count c) ∧ Hid (acc.length = start))
  case atStart => exact ⟨0, 0, [], rfl, rfl, by omega, Nat.zero_le _, H1, Hb1, by simp [Hid], by unfold Hid; rw [List.drop_zero, HK.out], rfl⟩
  case round =>
    obtain ⟨i, start, acc, rfl, rfl, hig, hst, HB, HW, HR, HG, HA⟩ := hrel
    have hBw : w.heap.size ≤ wr.heap.size := HW.out.size
    have hlen : (s.data.toList.drop start).length = s.size - start := by rw [List.length_drop, HL.out]
    have hac : acc.length ≤ start := Nat.le_of_eq HA.out
    cases gk with
    | zero =>
      have hiK : ¬ ((i : Int) < (K : Int)) := by omega
      have hfin := HR.out
      rw [rep_none c d _ ((count_none c _).1 HG.out.symm)] at hfin
      have Hfin := Lib.hid hfin
      clear hfin hlen
      go_wp2_with fail
      refine (bWrite w.heap.size w.heap.size _ _ wr HB.out (by rw [Lib.byteCells_length, ByteArray.size_extract]; omega) hBw).mono ?_
      rintro e w3 ⟨rfl, h3, hb3⟩
      rw [Lib.strCells_eq, Lib.extract_to_end, ← Lib.byteCells_append, Hfin.out] at h3
      have H3 := Lib.hid (Or.inr h3 : Lib.IsBuilder 66 5 w.heap.size w.heap.size _ w3)
      have Hb3 := Lib.hid (HW.out.trans hb3)
      have hBw3 : w.heap.size ≤ w3.heap.size := Hb3.out.size
      clear h3 hb3
      go_wp2_with fail
      refine (bString w.heap.size w.heap.size _ w3 H3.out hBw3).mono ?_
      rintro e w5 ⟨rfl, hb5⟩
      have Hb5 := Lib.hid (Hb3.out.trans hb5)
      clear hb5
      go_wp2
      go_ret
      exact ⟨rfl, Hb5.out⟩
    | succ g =>
      have hiK : (i : Int) < (K : Int) := by omega
      have hp : pos c (s.data.toList.drop start) < (s.data.toList.drop start).length := by
        have : hasB c (s.data.toList.drop start) = true := by
          rw [← Bool.not_eq_false]; intro h0
          have := (count_none c _).2 h0
          have := HG.out; omega
        rw [hasB_pos] at this; exact of_decide_eq_true this
      have Hrs := Lib.hid (rep_split c d _ hp)
      have Hcs := Lib.hid (count_split c _ hp)
      obtain ⟨p, Hp⟩ := hid_name (pos c (s.data.toList.drop start))
      rw [Hp.out] at hp Hrs Hcs
      rw [hlen] at hp
      have Hlen := Lib.hid hlen
      clear hlen
      have c3 : (start : Int) ≤ (start : Int) + (p : Int) := by omega
      have c4 : (start : Int) + (p : Int) ≤ (s.size : Int) := by omega
      have Hn : Hid (Lib.byteCells acc ++ Lib.strCells (s.extract start (start + p)) ++ Lib.strCells ⟨#[d]⟩ = Lib.byteCells (acc ++ (s.data.toList.drop start).take p ++ [d])) := by
        unfold Hid
        rw [Lib.strCells_eq, Lib.strCells_eq, Lib.extract_data, Nat.add_sub_cancel_left, ← Lib.byteCells_append, ← Lib.byteCells_append]
      have Hr : Hid ((acc ++ (s.data.toList.drop start).take p ++ [d]) ++ rep c d (s.data.toList.drop (start + p + 1)) = rep c d s.data.toList) := by
        unfold Hid
        rw [← HR.out, Hrs.out, List.drop_drop, ← Nat.add_assoc]
        simp only [List.append_assoc]
      have Hc : Hid (g = (s.data.toList.drop (start + p + 1)).count c) := by
        unfold Hid
        have := HG.out
        rw [Hcs.out, List.drop_drop, ← Nat.add_assoc] at this
        omega
      have Hlt : Hid ((acc ++ (s.data.toList.drop start).take p ++ [d]).length = start + p + 1) := by
        unfold Hid
        rw [List.length_append, List.length_append, List.length_take, Hlen.out, HA.out, List.length_singleton]; omega
      go_wp2_with fail
      refine (Index_one _ c _ (by rw [Lib.extract_to_end, Hp.out, Hlen.out]; exact hp)).mono ?_; rintro e w' ⟨rfl, rfl⟩
      rw [Lib.extract_to_end, Hp.out]
      go_wp2_with fail
      refine (bWrite w.heap.size w.heap.size _ (s.extract start (start + p)) wr HB.out (by rw [Lib.byteCells_length, ByteArray.size_extract]; omega) hBw).mono ?_
      rintro e w3 ⟨rfl, h3, hb3⟩
      have hBw3 : w.heap.size ≤ w3.heap.size := Nat.le_trans hBw hb3.size
      have H3 := Lib.hid h3
      have Hb3 := Lib.hid hb3
      clear h3 hb3
      go_wp2_with fail
      refine (bWrite w.heap.size w.heap.size _ ⟨#[d]⟩ w3 (Or.inr H3.out) (by rw [List.length_append, Lib.byteCells_length, Lib.strCells_eq, Lib.byteCells_length, ← Lib.size_eq, ByteArray.size_extract]; show _ + 1 ≤ _; omega) hBw3).mono ?_
      rintro e w4 ⟨rfl, h4, hb4⟩
      rw [Hn.out] at h4
      have H4 := Lib.hid (Or.inr h4 : Lib.IsBuilder 66 5 w.heap.size w.heap.size _ w4)
      have Hb4 := Lib.hid ((HW.out.trans Hb3.out).trans hb4)
      clear h4 hb4
      go_wp2
      go_roundg g
      case measure => omega
      case rel => exact ⟨i + 1, start + p + 1, _, by go_num, by go_num, by omega, by omega, H4, Hb4, Hr, Hc, Hlt⟩
theorem Replace_byte (s : ByteArray) (c d : UInt8) (w : World) (hcd : c ≠ d) (hs : s.size ≤ 140737488355328) :
    Calls Tryd.prog 86 #[.string s, .string ⟨#[c]⟩, .string ⟨#[d]⟩, .int .i64 (-1)] w fun e w' => e = .returned (.string ⟨(rep c d s.data.toList).toArray⟩) ∧ Below w.heap.size w w' := by
  cases h : hasB c s.data.toList
  · exact Replace_absent s c d w hcd h
  · exact Replace_some s c d w hcd hs h
theorem ReplaceAll_byte (s : ByteArray) (c d : UInt8) (w : World) (hcd : c ≠ d) (hs : s.size ≤ 140737488355328) :
    Calls Tryd.prog 67 #[.string s, .string ⟨#[c]⟩, .string ⟨#[d]⟩] w fun e w' => e = .returned (.string ⟨(rep c d s.data.toList).toArray⟩) ∧ Below w.heap.size w w' := by
  go_enter Tryd.func67, Tryd.ntmps67
  go_wp2_with fail
  refine (Replace_byte s c d _ hcd hs).mono ?_; rintro e w1 ⟨rfl, hb⟩
  go_wp2_with fail
  go_ret
  exact ⟨rfl, hb⟩
theorem clean_any (s : ByteArray) (m : Nat) (w : World) (hs : s.size ≤ 140737488355328) (hm : m ≤ 1000000) :
    Calls Tryd.prog 41 #[.string s, .int .i64 m] w fun e w' => e = .returned (.string ⟨(cleanL s.data.toList m).toArray⟩) ∧ Below w.heap.size w w' := by
  go_enter Tryd.func41, Tryd.ntmps41
  go_wp2_with fail
  refine (ReplaceAll_byte s 0 48 _ (by decide) hs).mono ?_; rintro e w1 ⟨rfl, hb⟩
  obtain ⟨r, Hr⟩ := hid_name (⟨(rep 0 48 s.data.toList).toArray⟩ : ByteArray)
  rw [Hr.out]
  have hrs : r.size = s.size := by rw [← Hr.out, size_mk, rep_length]; simp
  have h1 : r.size ≤ s.size := by omega
  clear hrs
  have HT : Hid (cleanL s.data.toList m = r.data.toList.take m) := by unfold Hid cleanL; rw [← Hr.out]
  go_wp2
  go_ret
  exact ⟨ret_str (by rw [HT.out, ext0]; congr 2; rw [List.take_eq_take_iff]; simp; omega), hb⟩
end Go.Proofs.YtdcbmjihpjnbbaaDoor
