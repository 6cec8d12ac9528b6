/- Texts of one kind, in one file: Rep, TreA, TreB. -/
import Derived.Test.YtepjdiocicmjcaaGreatDoorMth
import Derived.Test.YtepjdiocicmjcaaGreatDoorShelf
import Derived.Deep.LoopGhost
import Derived.Test.YtepjdiocicmjcaaGreatDoorSpl
import Derived.Test.YtepjdiocicmjcaaGreatDoorArb
import Derived.Test.YtepjdiocicmjcaaGreatDoorOct
import Derived.Deep.RegionHeld3
import Derived.Deep.DrawnRows
import Derived.Deep.DeepCutAuto
import Derived.Laws.Rows
/- strings.ReplaceAll of one byte by another one, at every length that can be read; the laws' 'clean'. -/
set_option linter.unusedVariables false
namespace Go.Proofs.YtepjdiocicmjcaaGreatDoor
open Go.RowKit
open Go.OpenShut
theorem ext0 (s : ByteArray) (k : Nat) : s.extract 0 k = ⟨(s.data.toList.take k).toArray⟩ := by
  apply ByteArray.ext; apply Array.toList_inj.1
  rw [ByteArray.data_extract, Array.toList_extract]; simp [List.extract]
theorem bGrow (B b n : Nat) (w : World) (hB : B ≤ b) (hbk : w.heap[b]? = some (.cells #[.pointer none, .slice none 0 0] 97 (0, 0))) (hBw : B ≤ w.heap.size) (hn : n ≤ 281474976710656) :
    Calls Tryz.prog 91 #[.pointer (some ⟨b, 0, none⟩), .int .i64 n] w fun e w' => e = .returned (.tuple #[]) ∧ (Lib.BuilderAt 97 5 B b (.pointer (some ⟨b, 0, none⟩)) [] w' ∧ Below B w w') :=
  Any.Builder_Grow_fresh { Tryz.lays154 with } Tryz.Builder_Extra_154 B b n w hB hbk hBw hn
theorem bWrite (B b : Nat) (bs : List Value) (s : ByteArray) (w : World) (h : Lib.IsBuilder 97 5 B b bs w) (hlen : bs.length + s.size ≤ 140737488355328) (hBw : B ≤ w.heap.size) :
    Calls Tryz.prog 59 #[.pointer (some ⟨b, 0, none⟩), .string s] w fun e w' => e = .returned (.tuple #[.int .i64 s.size, .nilIface]) ∧ (Lib.BuilderAt 97 5 B b (.pointer (some ⟨b, 0, none⟩)) (bs ++ Lib.strCells s) w' ∧ Below B w w') :=
  Any.Builder_WriteString { Tryz.lays154 with } Tryz.Builder_Extra_154 B b bs s w h hlen hBw
theorem bString (B b : Nat) (l : List UInt8) (w : World) (h : Lib.IsBuilder 97 5 B b (Lib.byteCells l) w) (hBw : B ≤ w.heap.size) :
    Calls Tryz.prog 60 #[.pointer (some ⟨b, 0, none⟩)] w fun e w' => e = .returned (.string ⟨l.toArray⟩) ∧ Below B w w' :=
  Any.Builder_String_any { Tryz.lays154 with } Tryz.Builder_Extra_154 B b l w h hBw
theorem Count_one (s : ByteArray) (c : UInt8) (w : World) : Calls Tryz.prog 173 #[.string s, .string ⟨#[c]⟩] w fun e w' => e = .returned (.int .i64 (s.data.toList.count c : Nat)) ∧ w = w' :=
  (Tryz.strings_Count_one s c w).mono fun e w' ⟨a, b⟩ => ⟨a, b.symm⟩
theorem Index_one (s : ByteArray) (c : UInt8) (w : World) (h : pos c s.data.toList < s.data.toList.length) : Calls Tryz.prog 174 #[.string s, .string ⟨#[c]⟩] w fun e w' => e = .returned (.int .i64 (pos c s.data.toList : Nat)) ∧ w = w' :=
  (Tryz.strings_Index_one s c w).mono fun e w' ⟨a, b⟩ => ⟨by rw [a, indexByte_pos, if_pos (by rw [hasB_pos]; exact decide_eq_true h)], b.symm⟩
theorem Replace_absent (s : ByteArray) (c d : UInt8) (w : World) (hcd : c ≠ d) (h : hasB c s.data.toList = false) :
    Calls Tryz.prog 142 #[.string s, .string ⟨#[c]⟩, .string ⟨#[d]⟩, .int .i64 (-1)] w fun e w' => e = .returned (.string ⟨(rep c d s.data.toList).toArray⟩) ∧ Below w.heap.size w w' := by
  have hne : (c == d) = false := beq_eq_false_iff_ne.2 hcd
  have h0 := (count_none c _).2 h
  have hr := Lib.hid (rep_none c d _ h)
  clear h
  go_enter Tryz.func142, Tryz.ntmps142
  go_wp2_with fail
  refine (Count_one s c _).mono ?_; rintro e w' ⟨rfl, rfl⟩
  rw [h0]
  clear h0
  go_wp2_with fail
  go_ret
  exact ⟨ret_str (by rw [hr.out]), Below.refl _ _⟩
set_option maxHeartbeats 1000000 in
theorem Replace_some (s : ByteArray) (c d : UInt8) (w : World) (hcd : c ≠ d) (hs : s.size ≤ 140737488355328) (h : hasB c s.data.toList = true) :
    Calls Tryz.prog 142 #[.string s, .string ⟨#[c]⟩, .string ⟨#[d]⟩, .int .i64 (-1)] w fun e w' => e = .returned (.string ⟨(rep c d s.data.toList).toArray⟩) ∧ Below w.heap.size w w' := by
  have hne : (c == d) = false := beq_eq_false_iff_ne.2 hcd
  have hl : s.data.toList.length = s.size := by simp
  obtain ⟨K, HK⟩ := hid_name (s.data.toList.count c)
  have hKs : K ≤ s.size := by rw [← HK.out, ← hl]; exact List.count_le_length
  have hK0 : 1 ≤ K := by
    rcases Nat.eq_zero_or_pos K with h0 | h0
    · rw [← HK.out, count_none, h] at h0; cases h0
    · exact h0
  have hKz : ((K : Int) == 0) = false := beq_eq_false_iff_ne.2 (by omega)
  have HL := Lib.hid hl
  clear h hl
  go_enter Tryz.func142, Tryz.ntmps142
  go_wp2_with fail
  refine (Count_one s c _).mono ?_; rintro e w' ⟨rfl, rfl⟩
  rw [HK.out]
  go_wp2_with fail
  refine (bGrow w.heap.size w.heap.size _ _ (Nat.le_refl _) (heap_alloc_new w _) (by simp) (by omega)).mono ?_
  rintro e w1 ⟨rfl, hb0, hb1⟩
  have H1 := Lib.hid (Or.inr hb0 : Lib.IsBuilder 97 5 w.heap.size w.heap.size (Lib.byteCells []) w1)
  have Hb1 := Lib.hid (((Below.refl w.heap.size w).alloc (Nat.le_refl _) _).trans hb1)
  clear hb0 hb1
  go_wp2_with fail
  go_loopg [11, 53] K (fun g s11 s53 wx => ∃ (i start : Nat) (acc : List UInt8), s53 = .int .i64 i ∧ s11 = .int .i64 start ∧ i + g = K ∧ start ≤ s.size ∧
      Hid (Lib.IsBuilder 97 5 w.heap.size w.heap.size (Lib.byteCells acc) wx) ∧ Hid (Below w.heap.size w wx) ∧ Hid (acc ++ rep c d (s.data.toList.drop start) = rep c d s.data.toList) ∧
      Hid (g = (s.data.toList.drop start).count c) ∧ Hid (acc.length = start))
  case atStart => exact ⟨0, 0, [], rfl, rfl, by omega, Nat.zero_le _, H1, Hb1, by simp [Hid], by unfold Hid; rw [List.drop_zero, HK.out], rfl⟩
  case round =>
    obtain ⟨i, start, acc, rfl, rfl, hig, hst, HB, HW, HR, HG, HA⟩ := hrel
    have hBw : w.heap.size ≤ wr.heap.size := HW.out.size
    have hlen : (s.data.toList.drop start).length = s.size - start := by rw [List.length_drop, HL.out]
    have hac : acc.length ≤ start := Nat.le_of_eq HA.out
    cases gk with
    | zero =>
      have hiK : ¬ ((i : Int) < (K : Int)) := by omega
      have hfin := HR.out
      rw [rep_none c d _ ((count_none c _).1 HG.out.symm)] at hfin
      have Hfin := Lib.hid hfin
      clear hfin hlen
      go_wp2_with fail
      refine (bWrite w.heap.size w.heap.size _ _ wr HB.out (by rw [Lib.byteCells_length, ByteArray.size_extract]; omega) hBw).mono ?_
      rintro e w3 ⟨rfl, h3, hb3⟩
      rw [Lib.strCells_eq, Lib.extract_to_end, ← Lib.byteCells_append, Hfin.out] at h3
      have H3 := Lib.hid (Or.inr h3 : Lib.IsBuilder 97 5 w.heap.size w.heap.size _ w3)
      have Hb3 := Lib.hid (HW.out.trans hb3)
      have hBw3 : w.heap.size ≤ w3.heap.size := Hb3.out.size
      clear h3 hb3
      go_wp2_with fail
      refine (bString w.heap.size w.heap.size _ w3 H3.out hBw3).mono ?_
      rintro e w5 ⟨rfl, hb5⟩
      have Hb5 := Lib.hid (Hb3.out.trans hb5)
      clear hb5
      go_wp2
      go_ret
      exact ⟨rfl, Hb5.out⟩
    | succ g =>
      have hiK : (i : Int) < (K : Int) := by omega
      have hp : pos c (s.data.toList.drop start) < (s.data.toList.drop start).length := by
        have : hasB c (s.data.toList.drop start) = true := by
          rw [← Bool.not_eq_false]; intro h0
          have := (count_none c _).2 h0
          have := HG.out; omega
        rw [hasB_pos] at this; exact of_decide_eq_true this
      have Hrs := Lib.hid (rep_split c d _ hp)
      have Hcs := Lib.hid (count_split c _ hp)
      obtain ⟨p, Hp⟩ := hid_name (pos c (s.data.toList.drop start))
      rw [Hp.out] at hp Hrs Hcs
      rw [hlen] at hp
      have Hlen := Lib.hid hlen
      clear hlen
      have c3 : (start : Int) ≤ (start : Int) + (p : Int) := by omega
      have c4 : (start : Int) + (p : Int) ≤ (s.size : Int) := by omega
      have Hn : Hid (Lib.byteCells acc ++ Lib.strCells (s.extract start (start + p)) ++ Lib.strCells ⟨#[d]⟩ = Lib.byteCells (acc ++ (s.data.toList.drop start).take p ++ [d])) := by
        unfold Hid
        rw [Lib.strCells_eq, Lib.strCells_eq, Lib.extract_data, Nat.add_sub_cancel_left, ← Lib.byteCells_append, ← Lib.byteCells_append]
      have Hr : Hid ((acc ++ (s.data.toList.drop start).take p ++ [d]) ++ rep c d (s.data.toList.drop (start + p + 1)) = rep c d s.data.toList) := by
        unfold Hid
        rw [← HR.out, Hrs.out, List.drop_drop, ← Nat.add_assoc]
        simp only [List.append_assoc]
      have Hc : Hid (g = (s.data.toList.drop (start + p + 1)).count c) := by
        unfold Hid
        have := HG.out
        rw [Hcs.out, List.drop_drop, ← Nat.add_assoc] at this
        omega
      have Hlt : Hid ((acc ++ (s.data.toList.drop start).take p ++ [d]).length = start + p + 1) := by
        unfold Hid
        rw [List.length_append, List.length_append, List.length_take, Hlen.out, HA.out, List.length_singleton]; omega
      go_wp2_with fail
      refine (Index_one _ c _ (by rw [Lib.extract_to_end, Hp.out, Hlen.out]; exact hp)).mono ?_; rintro e w' ⟨rfl, rfl⟩
      rw [Lib.extract_to_end, Hp.out]
      go_wp2_with fail
      refine (bWrite w.heap.size w.heap.size _ (s.extract start (start + p)) wr HB.out (by rw [Lib.byteCells_length, ByteArray.size_extract]; omega) hBw).mono ?_
      rintro e w3 ⟨rfl, h3, hb3⟩
      have hBw3 : w.heap.size ≤ w3.heap.size := Nat.le_trans hBw hb3.size
      have H3 := Lib.hid h3
      have Hb3 := Lib.hid hb3
      clear h3 hb3
      go_wp2_with fail
      refine (bWrite w.heap.size w.heap.size _ ⟨#[d]⟩ w3 (Or.inr H3.out) (by rw [List.length_append, Lib.byteCells_length, Lib.strCells_eq, Lib.byteCells_length, ← Lib.size_eq, ByteArray.size_extract]; show _ + 1 ≤ _; omega) hBw3).mono ?_
      rintro e w4 ⟨rfl, h4, hb4⟩
      rw [Hn.out] at h4
      have H4 := Lib.hid (Or.inr h4 : Lib.IsBuilder 97 5 w.heap.size w.heap.size _ w4)
      have Hb4 := Lib.hid ((HW.out.trans Hb3.out).trans hb4)
      clear h4 hb4
      go_wp2
      go_roundg g
      case measure => omega
      case rel => exact ⟨i + 1, start + p + 1, _, by go_num, by go_num, by omega, by omega, H4, Hb4, Hr, Hc, Hlt⟩
theorem Replace_byte (s : ByteArray) (c d : UInt8) (w : World) (hcd : c ≠ d) (hs : s.size ≤ 140737488355328) :
    Calls Tryz.prog 142 #[.string s, .string ⟨#[c]⟩, .string ⟨#[d]⟩, .int .i64 (-1)] w fun e w' => e = .returned (.string ⟨(rep c d s.data.toList).toArray⟩) ∧ Below w.heap.size w w' := by
  cases h : hasB c s.data.toList
  · exact Replace_absent s c d w hcd h
  · exact Replace_some s c d w hcd hs h
theorem ReplaceAll_byte (s : ByteArray) (c d : UInt8) (w : World) (hcd : c ≠ d) (hs : s.size ≤ 140737488355328) :
    Calls Tryz.prog 93 #[.string s, .string ⟨#[c]⟩, .string ⟨#[d]⟩] w fun e w' => e = .returned (.string ⟨(rep c d s.data.toList).toArray⟩) ∧ Below w.heap.size w w' := by
  go_enter Tryz.func93, Tryz.ntmps93
  go_wp2_with fail
  refine (Replace_byte s c d _ hcd hs).mono ?_; rintro e w1 ⟨rfl, hb⟩
  go_wp2_with fail
  go_ret
  exact ⟨rfl, hb⟩
theorem clean_any (s : ByteArray) (m : Nat) (w : World) (hs : s.size ≤ 140737488355328) (hm : m ≤ 1000000) :
    Calls Tryz.prog 46 #[.string s, .int .i64 m] w fun e w' => e = .returned (.string ⟨(cleanL s.data.toList m).toArray⟩) ∧ Below w.heap.size w w' := by
  go_enter Tryz.func46, Tryz.ntmps46
  go_wp2_with fail
  refine (ReplaceAll_byte s 0 48 _ (by decide) hs).mono ?_; rintro e w1 ⟨rfl, hb⟩
  obtain ⟨r, Hr⟩ := hid_name (⟨(rep 0 48 s.data.toList).toArray⟩ : ByteArray)
  rw [Hr.out]
  have hrs : r.size = s.size := by rw [← Hr.out, size_mk, rep_length]; simp
  have h1 : r.size ≤ s.size := by omega
  clear hrs
  have HT : Hid (cleanL s.data.toList m = r.data.toList.take m) := by unfold Hid cleanL; rw [← Hr.out]
  go_wp2
  go_ret
  exact ⟨ret_str (by rw [HT.out, ext0]; congr 2; rw [List.take_eq_take_iff]; simp; omega), hb⟩
end Go.Proofs.YtepjdiocicmjcaaGreatDoor
/- Leaf contracts of the drawing of trees: names, metadata. -/
set_option linter.unusedVariables false
set_option maxRecDepth 100000
namespace Go.Proofs.YtepjdiocicmjcaaGreatDoor
open Go.RowKit
open Go.OpenShut
theorem rep_one (c : UInt8) (n : Nat) : (⟨(Lib.repeatL (⟨#[c]⟩ : ByteArray).data.toList n).toArray⟩ : ByteArray) = ⟨(List.replicate n c).toArray⟩ := by
  have := Lib.repeatL_replicate c 1 n
  rw [Nat.mul_one] at this
  rw [← this]; rfl
theorem names_any (w : World) : Calls Tryz.prog 42 #[] w fun e w' => ∃ g, e = .returned (.slice (some ⟨g, 0, none⟩) 11 11) ∧ Texts w' w.heap.size (.slice (some ⟨g, 0, none⟩) 11 11) namesL ∧ Below w.heap.size w w' := by
  go_enter Tryz.func42, Tryz.ntmps42
  go_wp2_with fail
  refine (Tryz.strings_Repeat ⟨#[110]⟩ 60 _ (by decide) (by decide)).mono ?_; rintro e w1 ⟨rfl, hb1⟩
  rw [rep_one]
  obtain ⟨s1, Hs1⟩ := hid_name (⟨(List.replicate 60 110).toArray⟩ : ByteArray)
  rw [Hs1.out]
  have HB1 := Lib.hid hb1
  clear hb1
  go_wp2_with fail
  refine (Tryz.strings_Repeat ⟨#[109]⟩ 130 _ (by decide) (by decide)).mono ?_; rintro e w2 ⟨rfl, hb2⟩
  rw [rep_one]
  obtain ⟨s2, Hs2⟩ := hid_name (⟨(List.replicate 130 109).toArray⟩ : ByteArray)
  rw [Hs2.out]
  have HB2 := Lib.hid (HB1.out.trans (hb2.mono HB1.out.size))
  clear hb2 HB1
  go_wp2_with fail
  go_ret
  have ht := (Texts.lit (w := w2) namesL (by decide)).mono HB2.out.size
  have hc : (strC namesL).toArray = #[.string ⟨#[97]⟩, .string ⟨#[98]⟩, .string ⟨#[97, 98]⟩, .string ⟨#[66]⟩, .string ⟨#[120, 32, 121]⟩, .string ⟨#[195, 169]⟩, .string ⟨#[99, 46, 116, 120, 116]⟩, .string s1, .string s2, .string ⟨#[97, 33]⟩, .string ⟨#[45]⟩] := by
    rw [← Hs1.out, ← Hs2.out]; rfl
  rw [hc] at ht
  exact ⟨_, rfl, ht, HB2.out.alloc HB2.out.size _⟩
def metaC (m : MetaV) : List Value := [.int .i64 m.mode, .int .i64 m.uid, .int .i64 m.gid, strV m.user, strV m.group, .int .i64 m.second, .int .i64 m.nano]
end Go.Proofs.YtepjdiocicmjcaaGreatDoor
/- The contract of creelkeep.Meta. -/
set_option linter.unusedVariables false
set_option maxRecDepth 100000
namespace Go.Proofs.YtepjdiocicmjcaaGreatDoor
open Go.RowKit
open Go.OpenShut
theorem metaN {w w1 : World} {B Z : Obj} {t : TypeId} {cs : Array Value} (hb : Below ((((w.alloc B).alloc Z).alloc (.cells cs t)).drew).heap.size (((w.alloc B).alloc Z).alloc (.cells cs t)).drew w1) : Blk w1 (w.heap.size + 2) t cs := by
  have h := Blk.new ((w.alloc B).alloc Z) t cs
  have e : ((w.alloc B).alloc Z).heap.size = w.heap.size + 2 := by simp
  rw [e] at h
  exact Blk.below (w := (((w.alloc B).alloc Z).alloc (.cells cs t)).drew) h hb (by simp)
def meta0 (r : RawV) : Array Value := #[.int .i64 (pick r.a 4096), .int .i64 (pick r.b 3000), .int .i64 (pick r.a 3000), strV (cleanL r.text.data.toList 40), strV staffL, .int .i64 (pick r.b 17179869184), .int .i64 0]
def metaZ : Array Value := #[.int .i64 0, .int .i64 0, .int .i64 0, .string ⟨#[]⟩, .string ⟨#[]⟩, .int .i64 0, .int .i64 0]
def MetaAt (r : RawV) (w : World) (g : Nat) (wx : World) : Prop :=
  w.heap.size + 2 ≤ g ∧ Blk wx w.heap.size 37 (rawC r).toArray ∧ Blk wx (w.heap.size + 1) 23 metaZ ∧ Blk wx g 23 (meta0 r) ∧ Below w.heap.size w wx
theorem meta_old {w w1 W : World} {kind a b : Int} {text : ByteArray}
    (hW : Blk W w.heap.size 37 #[.int .i64 kind, .int .i64 a, .int .i64 b, .string text] ∧ Blk W (w.heap.size + 1) 23 metaZ ∧ w.heap.size + 2 ≤ W.heap.size ∧ Below w.heap.size w W) (hb : Below W.heap.size W w1) :
    Blk w1 w.heap.size 37 #[.int .i64 kind, .int .i64 a, .int .i64 b, .string text] ∧ Blk w1 (w.heap.size + 1) 23 metaZ ∧ w.heap.size + 2 ≤ w1.heap.size ∧ Below w.heap.size w w1 :=
  ⟨hW.1.below hb hW.1.lt, hW.2.1.below hb hW.2.1.lt, Nat.le_trans hW.2.2.1 hb.size, hW.2.2.2.trans (hb.mono (by have := hW.2.2.1; omega))⟩
theorem meta_two (w : World) (kind a b : Int) (text : ByteArray) :
    Blk ((w.alloc (.cells #[.int .i64 kind, .int .i64 a, .int .i64 b, .string text] 37)).alloc (.cells metaZ 23)) w.heap.size 37 #[.int .i64 kind, .int .i64 a, .int .i64 b, .string text] ∧
    Blk ((w.alloc (.cells #[.int .i64 kind, .int .i64 a, .int .i64 b, .string text] 37)).alloc (.cells metaZ 23)) (w.heap.size + 1) 23 metaZ ∧
    w.heap.size + 2 ≤ ((w.alloc (.cells #[.int .i64 kind, .int .i64 a, .int .i64 b, .string text] 37)).alloc (.cells metaZ 23)).heap.size ∧
    Below w.heap.size w ((w.alloc (.cells #[.int .i64 kind, .int .i64 a, .int .i64 b, .string text] 37)).alloc (.cells metaZ 23)) := by
  refine ⟨(Blk.new _ _ _).alloc _, ?_, by simp, ((Below.refl _ _).alloc (Nat.le_refl _) _).alloc (by simp) _⟩
  have := Blk.new (w.alloc (.cells #[.int .i64 kind, .int .i64 a, .int .i64 b, .string text] 37)) 23 metaZ
  simpa using this
theorem meta_A {w w1 : World} {kind a b : Int} {text : ByteArray}
    (hb : Below ((w.alloc (.cells #[.int .i64 kind, .int .i64 a, .int .i64 b, .string text] 37)).alloc (.cells #[.int .i64 0, .int .i64 0, .int .i64 0, .string ⟨#[]⟩, .string ⟨#[]⟩, .int .i64 0, .int .i64 0] 23)).drew.heap.size
      ((w.alloc (.cells #[.int .i64 kind, .int .i64 a, .int .i64 b, .string text] 37)).alloc (.cells #[.int .i64 0, .int .i64 0, .int .i64 0, .string ⟨#[]⟩, .string ⟨#[]⟩, .int .i64 0, .int .i64 0] 23)).drew w1) :
    MetaAt ⟨kind, a, b, text⟩ w w1.heap.size (w1.alloc (.cells #[.int .i64 (pick a 4096), .int .i64 (pick b 3000), .int .i64 (pick a 3000), .string ⟨(cleanL text.data.toList 40).toArray⟩, .string ⟨#[115, 116, 97, 102, 102]⟩, .int .i64 (pick b 17179869184), .int .i64 0] 23)) := by
  obtain ⟨h1, h2, h3, h4⟩ := meta_old (W := ((w.alloc (.cells #[.int .i64 kind, .int .i64 a, .int .i64 b, .string text] 37)).alloc (.cells metaZ 23)).drew) ⟨(meta_two w kind a b text).1, (meta_two w kind a b text).2.1, (meta_two w kind a b text).2.2.1, (meta_two w kind a b text).2.2.2.drew⟩ hb
  exact ⟨h3, h1.alloc _, h2.alloc _, Blk.new _ _ _, h4.alloc (by omega) _⟩
theorem meta_B {w w1 : World} {kind a b : Int} {text : ByteArray}
    (hb : Below (((w.alloc (.cells #[.int .i64 kind, .int .i64 a, .int .i64 b, .string text] 37)).alloc (.cells #[.int .i64 0, .int .i64 0, .int .i64 0, .string ⟨#[]⟩, .string ⟨#[]⟩, .int .i64 0, .int .i64 0] 23)).alloc (.cells #[.int .i64 0, .int .i64 0, .int .i64 0, .string ⟨#[]⟩, .string ⟨#[]⟩, .int .i64 0, .int .i64 0] 23)).drew.heap.size
      (((w.alloc (.cells #[.int .i64 kind, .int .i64 a, .int .i64 b, .string text] 37)).alloc (.cells #[.int .i64 0, .int .i64 0, .int .i64 0, .string ⟨#[]⟩, .string ⟨#[]⟩, .int .i64 0, .int .i64 0] 23)).alloc (.cells #[.int .i64 0, .int .i64 0, .int .i64 0, .string ⟨#[]⟩, .string ⟨#[]⟩, .int .i64 0, .int .i64 0] 23)).drew w1) :
    MetaAt ⟨kind, a, b, text⟩ w (w.heap.size + 1 + 1) (((((((w1.setCell ⟨w.heap.size + 1 + 1, 0, none⟩ (.int .i64 (pick a 4096))).setCell ⟨w.heap.size + 1 + 1, 1, none⟩ (.int .i64 (pick b 3000))).setCell ⟨w.heap.size + 1 + 1, 2, none⟩ (.int .i64 (pick a 3000))).setCell ⟨w.heap.size + 1 + 1, 3, none⟩ (.string ⟨(cleanL text.data.toList 40).toArray⟩)).setCell ⟨w.heap.size + 1 + 1, 4, none⟩ (.string ⟨#[115, 116, 97, 102, 102]⟩)).setCell ⟨w.heap.size + 1 + 1, 5, none⟩ (.int .i64 (pick b 17179869184))).setCell ⟨w.heap.size + 1 + 1, 6, none⟩ (.int .i64 0)) := by
  obtain ⟨m1, m2, m3, m4⟩ := meta_two w kind a b text
  obtain ⟨h1, h2, h3, h4⟩ := meta_old (W := (((w.alloc (.cells #[.int .i64 kind, .int .i64 a, .int .i64 b, .string text] 37)).alloc (.cells metaZ 23)).alloc (.cells metaZ 23)).drew) ⟨m1.alloc _, m2.alloc _, by simp, (m4.alloc (Nat.le_trans (by omega) m3) _).drew⟩ hb
  have h5 : Blk w1 (w.heap.size + 1 + 1) 23 metaZ := metaN hb
  refine ⟨by omega, h1.far7 (by omega) _ _ _ _ _ _ _, h2.far7 (by omega) _ _ _ _ _ _ _, ?_, ?_⟩
  · have := ((((((h5.set_ 0 (.int .i64 (pick a 4096))).set_ 1 (.int .i64 (pick b 3000))).set_ 2 (.int .i64 (pick a 3000))).set_ 3 (.string ⟨(cleanL text.data.toList 40).toArray⟩)).set_ 4 (.string ⟨#[115, 116, 97, 102, 102]⟩)).set_ 5 (.int .i64 (pick b 17179869184))).set_ 6 (.int .i64 0)
    exact this
  · exact ((((((h4.setCell (p := ⟨w.heap.size + 1 + 1, 0, none⟩) (by show _ ≤ w.heap.size + 1 + 1; omega) _).setCell (p := ⟨w.heap.size + 1 + 1, 1, none⟩) (by show _ ≤ w.heap.size + 1 + 1; omega) _).setCell (p := ⟨w.heap.size + 1 + 1, 2, none⟩) (by show _ ≤ w.heap.size + 1 + 1; omega) _).setCell (p := ⟨w.heap.size + 1 + 1, 3, none⟩) (by show _ ≤ w.heap.size + 1 + 1; omega) _).setCell (p := ⟨w.heap.size + 1 + 1, 4, none⟩) (by show _ ≤ w.heap.size + 1 + 1; omega) _).setCell (p := ⟨w.heap.size + 1 + 1, 5, none⟩) (by show _ ≤ w.heap.size + 1 + 1; omega) _).setCell (p := ⟨w.heap.size + 1 + 1, 6, none⟩) (by show _ ≤ w.heap.size + 1 + 1; omega) _
attribute [local go_sem ↓] Go.wp_at_zero Go.wp_at_succ
set_option maxHeartbeats 4000000 in
theorem Meta_any (r : RawV) (hr : r.wf) (w : World) : Calls Tryz.prog 43 #[.agg (rawC r).toArray] w fun e w' => e = .returned (.agg (metaC (metaV r)).toArray) ∧ Below w.heap.size w w' := by
  obtain ⟨hk, ha, hb, ht⟩ := hr
  obtain ⟨kind, a, b, text⟩ := r
  simp only at hk ha hb ht
  have HK := Lib.hid hk
  have HA := Lib.hid ha
  have HB := Lib.hid hb
  have ht' : text.size ≤ 140737488355328 := by omega
  clear hk ha hb
  unfold rawC
  have r0 : ∀ W : World, Blk W w.heap.size 37 #[.int .i64 kind, .int .i64 a, .int .i64 b, .string text] → W.cell? ⟨w.heap.size, 0, none⟩ = some (.int .i64 kind) := fun W h => (blk4 h).1
  have r1 : ∀ W : World, Blk W w.heap.size 37 #[.int .i64 kind, .int .i64 a, .int .i64 b, .string text] → W.cell? ⟨w.heap.size, 1, none⟩ = some (.int .i64 a) := fun W h => (blk4 h).2.1
  have r2 : ∀ W : World, Blk W w.heap.size 37 #[.int .i64 kind, .int .i64 a, .int .i64 b, .string text] → W.cell? ⟨w.heap.size, 2, none⟩ = some (.int .i64 b) := fun W h => (blk4 h).2.2.1
  have r3 : ∀ W : World, Blk W w.heap.size 37 #[.int .i64 kind, .int .i64 a, .int .i64 b, .string text] → W.cell? ⟨w.heap.size, 3, none⟩ = some (.string text) := fun W h => (blk4 h).2.2.2
  go_enter Tryz.func43, Tryz.ntmps43
  go_upto_region 1 with fail
  go_cut [3] (fun s3 wx => ∃ g : Nat, s3 = .pointer (some ⟨g, 0, none⟩) ∧ MetaAt ⟨kind, a, b, text⟩ w g wx)
  case first =>
    go_region_held3 (fun w' => Blk w' w.heap.size 37 #[.int .i64 kind, .int .i64 a, .int .i64 b, .string text])
      (first
        | (with_reducible assumption)
        | (with_reducible exact Blk.swap (by with_reducible assumption) (by decide) _)
        | (with_reducible refine Blk.alloc ?_ _; with_reducible assumption)
        | (with_reducible refine Blk.far7 ?_ (ne_two _) _ _ _ _ _ _ _; with_reducible assumption) | (with_reducible refine Blk.far7 ?_ (ne_two' _) _ _ _ _ _ _ _; with_reducible assumption)
        | (with_reducible exact Blk.below (by with_reducible assumption) hb1 (Blk.lt (by with_reducible assumption)))
        | (with_reducible refine Blk.drew_ ?_; repeat (first | with_reducible exact Blk.new _ _ _ | with_reducible refine Blk.alloc ?_ _)))
      (first | (go_at_call 21; refine (picked_any _ _ _ (by first | exact HA.out | exact HB.out) (by omega)).mono ?_; rintro e w' ⟨rfl, rfl⟩) | (go_at_call 46; refine (clean_any text 40 _ ht' (by omega)).mono ?_; rintro e w1 ⟨rfl, hb1⟩; (first | (with_reducible have hN : Blk w1 (w.heap.size + 2) 23 #[.int .i64 0, .int .i64 0, .int .i64 0, .string ⟨#[]⟩, .string ⟨#[]⟩, .int .i64 0, .int .i64 0] := metaN hb1; obtain ⟨⟨n0, n1, n2, n3, n4, n5, n6⟩, m0, m1, m2, m3, m4, m5, m6⟩ := blk7 hN; clear hN) | skip)))
    all_goals (go_wp2_with fail; go_meet; first | exact ⟨_, rfl, meta_A hb1⟩ | exact ⟨_, rfl, meta_B hb1⟩)
  case rest =>
    obtain ⟨g, rfl, hM⟩ := hcut
    obtain ⟨hg, hm1, hm2, hm3, hm4⟩ := hM
    unfold rawC at hm1
    unfold metaZ at hm2
    unfold meta0 strV staffL at hm3
    simp only at hm1 hm3
    obtain ⟨q0, q1, q2, q3⟩ := blk4 hm1
    obtain ⟨⟨z0, z1, z2, z3, z4, z5, z6⟩, y0, y1, y2, y3, y4, y5, y6⟩ := blk7 hm2
    obtain ⟨⟨n0, n1, n2, n3, n4, n5, n6⟩, m0, m1, m2, m3, m4, m5, m6⟩ := blk7 hm3
    have HM4 := Lib.hid hm4
    have HZ := Lib.hid hm2
    have HN := Lib.hid hm3
    clear hm1 hm2 hm3 hm4 r0 r1 r2 r3
    have hB1 : w.heap.size ≤ w.heap.size + 1 := Nat.le_succ _
    have hB2 : w.heap.size ≤ g := by omega
    obtain ⟨s1, s2⟩ := pick_bd b 17179869184 (by omega)
    obtain ⟨t1, t2⟩ := pick_bd a 61 (by omega)
    obtain ⟨x1, x2⟩ := pick_bd kind 9 (by omega)
    by_cases h0 : pick kind 9 = 0
    · go_wp2_with (go_at_call 21; refine (picked_any _ _ _ (by first | exact HK.out | exact HA.out | exact HB.out) (by omega)).mono ?_; rintro e w' ⟨rfl, rfl⟩)
      refine bodyPost_ret (v := .agg (metaC (metaV ⟨kind, a, b, text⟩)).toArray) (by simp [results, Tryz.results43, go_sem, metaC, metaV, strV, staffL, *]) rfl ⟨rfl, ?_⟩; with_reducible (first | exact Below.set7 HM4.out hB1 _ _ _ _ _ _ _ | exact Below.set7 (Below.set1 HM4.out hB2 _ _) hB1 _ _ _ _ _ _ _)
    · by_cases h1 : pick kind 9 = 1
      · have d0 : ((1 : Int) == 0) = false := rfl
        go_wp2_with (go_at_call 21; refine (picked_any _ _ _ (by first | exact HK.out | exact HA.out | exact HB.out) (by omega)).mono ?_; rintro e w' ⟨rfl, rfl⟩)
        refine bodyPost_ret (v := .agg (metaC (metaV ⟨kind, a, b, text⟩)).toArray) (by simp [results, Tryz.results43, go_sem, metaC, metaV, strV, staffL, *]) rfl ⟨rfl, ?_⟩; with_reducible (first | exact Below.set7 HM4.out hB1 _ _ _ _ _ _ _ | exact Below.set7 (Below.set1 HM4.out hB2 _ _) hB1 _ _ _ _ _ _ _)
      · by_cases h2 : pick kind 9 = 2
        · go_wp2_with (go_at_call 21; refine (picked_any _ _ _ (by first | exact HK.out | exact HA.out | exact HB.out) (by omega)).mono ?_; rintro e w' ⟨rfl, rfl⟩)
          refine bodyPost_ret (v := .agg (metaC (metaV ⟨kind, a, b, text⟩)).toArray) (by simp [results, Tryz.results43, go_sem, metaC, metaV, strV, staffL, *]) rfl ⟨rfl, ?_⟩; with_reducible (first | exact Below.set7 HM4.out hB1 _ _ _ _ _ _ _ | exact Below.set7 (Below.set1 HM4.out hB2 _ _) hB1 _ _ _ _ _ _ _)
        · by_cases h3 : pick kind 9 = 3
          · go_wp2_with (go_at_call 21; refine (picked_any _ _ _ (by first | exact HK.out | exact HA.out | exact HB.out) (by omega)).mono ?_; rintro e w' ⟨rfl, rfl⟩)
            refine bodyPost_ret (v := .agg (metaC (metaV ⟨kind, a, b, text⟩)).toArray) (by simp [results, Tryz.results43, go_sem, metaC, metaV, strV, staffL, *]) rfl ⟨rfl, ?_⟩; with_reducible (first | exact Below.set7 HM4.out hB1 _ _ _ _ _ _ _ | exact Below.set7 (Below.set1 HM4.out hB2 _ _) hB1 _ _ _ _ _ _ _)
          · by_cases h4 : pick kind 9 = 4
            · obtain ⟨k, Hk⟩ : ∃ k : Nat, Hid (pick a 61 = k) := ⟨(pick a 61).toNat, show _ = _ by omega⟩
              have hk61 : k ≤ 60 := by have := Hk.out; omega
              go_wp2_with (go_at_call 21; refine (picked_any _ _ _ (by first | exact HK.out | exact HA.out | exact HB.out) (by omega)).mono ?_; rintro e w' ⟨rfl, rfl⟩)
              rw [Hk.out]
              refine (Tryz.strings_Repeat ⟨#[103]⟩ k _ (by omega) (by show 1 * k ≤ _; omega)).mono ?_; rintro e w1 ⟨rfl, hb1⟩
              rw [rep_one]
              obtain ⟨sg, Hsg⟩ := hid_name (⟨(List.replicate k 103).toArray⟩ : ByteArray)
              rw [Hsg.out]
              have hz1 := HZ.out.below hb1 HZ.out.lt
              have hn1 := HN.out.below hb1 HN.out.lt
              have hwc : w.heap.size ≤ wc.heap.size := HM4.out.size
              have HM5 := Lib.hid (HM4.out.trans (hb1.mono hwc))
              have Hmv : Hid ((metaC (metaV ⟨kind, a, b, text⟩)).toArray = #[.int .i64 (pick a 4096), .int .i64 (pick b 3000), .int .i64 (pick a 3000), .string ⟨(cleanL text.data.toList 40).toArray⟩, .string sg, .int .i64 (pick b 17179869184), .int .i64 0]) := by
                unfold Hid
                have hk2 : (pick a 61).toNat = k := by rw [Hk.out]; simp
                rw [← Hsg.out]
                simp [metaC, metaV, strV, h4, hk2]
              clear q0 q1 q2 q3 z0 z1 z2 z3 z4 z5 z6 y0 y1 y2 y3 y4 y5 y6 n0 n1 n2 n3 n4 n5 n6 m0 m1 m2 m3 m4 m5 m6 hb1 hwc
              obtain ⟨⟨z0, z1, z2, z3, z4, z5, z6⟩, y0, y1, y2, y3, y4, y5, y6⟩ := blk7 hz1
              obtain ⟨⟨n0, n1, n2, n3, n4, n5, n6⟩, m0, m1, m2, m3, m4, m5, m6⟩ := blk7 hn1
              clear hz1 hn1
              go_wp2_with fail
              refine bodyPost_ret (v := .agg #[.int .i64 (pick a 4096), .int .i64 (pick b 3000), .int .i64 (pick a 3000), .string ⟨(cleanL text.data.toList 40).toArray⟩, .string sg, .int .i64 (pick b 17179869184), .int .i64 0]) (by simp [results, Tryz.results43, go_sem, *]) rfl ⟨?_, ?_⟩
              · rw [Hmv.out]
              · with_reducible exact Below.set7 (Below.set1 HM5.out hB2 _ _) hB1 _ _ _ _ _ _ _
            · have d0 : (pick kind 9 == 0) = false := by simpa using h0
              have d1 : (pick kind 9 == 1) = false := by simpa using h1
              have d2 : (pick kind 9 == 2) = false := by simpa using h2
              have d3 : (pick kind 9 == 3) = false := by simpa using h3
              have d4 : (pick kind 9 == 4) = false := by simpa using h4
              go_wp2_with (go_at_call 21; refine (picked_any _ _ _ (by first | exact HK.out | exact HA.out | exact HB.out) (by omega)).mono ?_; rintro e w' ⟨rfl, rfl⟩)
              refine bodyPost_ret (v := .agg (metaC (metaV ⟨kind, a, b, text⟩)).toArray) (by simp [results, Tryz.results43, go_sem, metaC, metaV, strV, staffL, *]) rfl ⟨rfl, ?_⟩; with_reducible (first | exact Below.set7 HM4.out hB1 _ _ _ _ _ _ _ | exact Below.set7 (Below.set1 HM4.out hB2 _ _) hB1 _ _ _ _ _ _ _)
end Go.Proofs.YtepjdiocicmjcaaGreatDoor
