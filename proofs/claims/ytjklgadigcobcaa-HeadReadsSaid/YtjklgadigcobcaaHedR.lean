/- The reference's header text. -/
import Derived.Test.YtjklgadigcobcaaHedY
import Derived.Test.YtjklgadigcobcaaFldB
import Derived.Test.YtjklgadigcobcaaOctB
import Derived.StillTailTactics
import Derived.Deep.DeepCutAuto
import Derived.Lib.ConvBytes
set_option linter.unusedVariables false
set_option maxRecDepth 100000
namespace Go.Proofs.Ytjklgadigcobcaa
open Go.RowKit
open Go.OpenShut
/-- on the way: the header stands at g, the error behind it, then the text -/
def Rt (g : Nat) (h : HeadV) (u : World) (er : Int) (l : List UInt8) (n : Nat) (w : World) : Prop :=
  w.heap[g]? = some (.cells (headC h) 27 (0, 0)) ∧ w.heap[g + 1]? = some (.cells #[.int .i64 er] 22 (0, 0)) ∧ w.heap[g + 1 + 1]? = some (.cells #[.string (bs l)] 9 (0, 0)) ∧ Below g u w ∧ l.length ≤ 512 * n
theorem Rt.err {g : Nat} {h : HeadV} {u : World} {er : Int} {l : List UInt8} {n : Nat} {w : World} (H : Rt g h u er l n w) (e2 : Int) : Rt g h u e2 l n (w.setCell ⟨g + 1, 0, none⟩ (.int .i64 e2)) := by
  obtain ⟨h0, h1, h2, hb, hl⟩ := H
  refine ⟨?_, ?_, ?_, hb.setCell (p := ⟨g + 1, 0, none⟩) (by show g ≤ g + 1; omega) _, hl⟩
  · rw [Below.heap_setCell _ _ _ _ (by show g ≠ g + 1; omega)]; exact h0
  · simp [World.setCell, Array.getElem?_modify, h1]
  · rw [Below.heap_setCell _ _ _ _ (by show g + 1 + 1 ≠ g + 1; omega)]; exact h2
theorem Rt.text {g : Nat} {h : HeadV} {u : World} {er : Int} {l : List UInt8} {n : Nat} {w : World} (H : Rt g h u er l n w) (l2 : List UInt8) (hl2 : l2.length ≤ 512) : Rt g h u er (l ++ l2) (n + 1) (w.setCell ⟨g + 1 + 1, 0, none⟩ (.string (bs (l ++ l2)))) := by
  obtain ⟨h0, h1, h2, hb, hl⟩ := H
  refine ⟨?_, ?_, ?_, hb.setCell (p := ⟨g + 1 + 1, 0, none⟩) (by show g ≤ g + 1 + 1; omega) _, by rw [List.length_append]; omega⟩
  · rw [Below.heap_setCell _ _ _ _ (by show g ≠ g + 1 + 1; omega)]; exact h0
  · rw [Below.heap_setCell _ _ _ _ (by show g + 1 ≠ g + 1 + 1; omega)]; exact h1
  · simp [World.setCell, Array.getElem?_modify, h2]
theorem Rt.drew {g : Nat} {h : HeadV} {u : World} {er : Int} {l : List UInt8} {n : Nat} {w : World} (H : Rt g h u er l n w) : Rt g h u er l n w.drew := ⟨H.1, H.2.1, H.2.2.1, H.2.2.2.1.drew, H.2.2.2.2⟩
theorem Rt.alloc {g : Nat} {h : HeadV} {u : World} {er : Int} {l : List UInt8} {n : Nat} {w : World} (H : Rt g h u er l n w) (o : Obj) : Rt g h u er l n (w.alloc o) := by
  have hlt : ∀ {k x}, w.heap[k]? = some x → k < w.heap.size := fun {k x} e => by
    rcases Nat.lt_or_ge k w.heap.size with h' | h'
    · exact h'
    · rw [Array.getElem?_eq_none h'] at e; cases e
  obtain ⟨h0, h1, h2, hb, hl⟩ := H
  exact ⟨(Lib.alloc_old w _ _ (hlt h0)).trans h0, (Lib.alloc_old w _ _ (hlt h1)).trans h1, (Lib.alloc_old w _ _ (hlt h2)).trans h2, hb.alloc (Nat.le_of_lt (hlt h0)) _, hl⟩
theorem Rt.lt {g : Nat} {h : HeadV} {u : World} {er : Int} {l : List UInt8} {n : Nat} {w : World} (H : Rt g h u er l n w) : g + 1 + 1 < w.heap.size := by
  rcases Nat.lt_or_ge (g + 1 + 1) w.heap.size with h' | h'
  · exact h'
  · have := H.2.2.1; rw [Array.getElem?_eq_none h'] at this; cases this
theorem Rt.cell {g : Nat} {h : HeadV} {u : World} {er : Int} {l : List UInt8} {n : Nat} {w : World} (H : Rt g h u er l n w) (i : Nat) (v : Value) (hv : (headC h)[i]? = some v) : w.cell? ⟨g, i, none⟩ = some v := by
  rw [Lib.cell_of_heap H.1]; exact hv
theorem Rt.cErr {g : Nat} {h : HeadV} {u : World} {er : Int} {l : List UInt8} {n : Nat} {w : World} (H : Rt g h u er l n w) : w.cell? ⟨g + 1, 0, none⟩ = some (.int .i64 er) ∧ w.frozen? ⟨g + 1, 0, none⟩ = false := ⟨by rw [Lib.cell_of_heap H.2.1]; rfl, Lib.frozen_of_heap H.2.1 0⟩
theorem Rt.cText {g : Nat} {h : HeadV} {u : World} {er : Int} {l : List UInt8} {n : Nat} {w : World} (H : Rt g h u er l n w) : w.cell? ⟨g + 1 + 1, 0, none⟩ = some (.string (bs l)) ∧ w.frozen? ⟨g + 1 + 1, 0, none⟩ = false := ⟨by rw [Lib.cell_of_heap H.2.2.1]; rfl, Lib.frozen_of_heap H.2.2.1 0⟩
theorem Rt.open {g : Nat} {h : HeadV} {u : World} {er : Int} {l : List UInt8} {n : Nat} {w : World} (H : Rt g h u er l n w) : ∃ er' l' n', er' = er ∧ l' = l ∧ n' = n ∧ Rt g h u er' l' n' w := ⟨_, _, _, rfl, rfl, rfl, H⟩
theorem Rt.sz {g : Nat} {h : HeadV} {u : World} {er : Int} {l : List UInt8} {n : Nat} {w : World} (H : Rt g h u er l n w) (hn : n ≤ 100) : (bs l).size ≤ 60000 := by rw [bs_size]; have := H.2.2.2.2; omega
theorem bs_app (a b : List UInt8) : bs a ++ bs b = bs (a ++ b) := str_app a b
set_option maxHeartbeats 1000000 in
theorem rtText {g : Nat} {h : HeadV} {u : World} {er : Int} {l : List UInt8} {n : Nat} {w : World} (H : Rt g h u er l n w) (hn : n ≤ 100) (s : List UInt8) (x : Int) (wh : Bool) (hs : s.length ≤ 140737488351232) :
    Calls Try.prog 19 #[.string (bs s), .int .i64 x, .bool wh, .pointer (some ⟨g + 1, 0, none⟩), .pointer (some ⟨g + 1 + 1, 0, none⟩)] w fun e w' => e = .returned (.tuple #[]) ∧ Rt g h u (first1 er (fldW s x wh).2) (l ++ fw s x wh) (n + 1) w' := by
  obtain ⟨e1, f1⟩ := H.cErr
  obtain ⟨e2, f2⟩ := H.cText
  have hz := fw_le s x wh
  obtain ⟨t, ht⟩ : ∃ t, t = (fldW s x wh).1 := ⟨_, rfl⟩
  have htl : t.data.toList = fw s x wh := by rw [ht]; rfl
  have hts : t.size ≤ 512 := by rw [← ByteArray.size_data, ← Array.length_toList, htl]; exact hz
  have hbl : (bs l).size ≤ 60000 := by rw [bs_size]; have := H.2.2.2.2; omega
  have hap : bs l ++ t = bs (l ++ fw s x wh) := by rw [← htl, ← bs_app, bs_of]
  have p1 := add_to hap (by omega)
  have HC := Lib.hid (frText_any (bs s) x wh w (by rw [bs_size]; unfold maxLen; omega))
  have HT := Lib.hid ht
  obtain ⟨L, HL⟩ := hid_name (bs l)
  obtain ⟨LL, HLL⟩ := hid_name (bs (l ++ fw s x wh))
  rw [HL.out] at e2 p1 hbl
  rw [HLL.out] at p1
  clear hap ht htl
  by_cases h0 : er = 0
  · subst h0
    have HE := Lib.hid ((H.err (fldW s x wh).2).text (fw s x wh) hz)
    go_enter Try.func19, Try.ntmps19
    go_wp2_with fail
    refine HC.out.mono ?_; rintro e w' ⟨rfl, rfl⟩
    rw [show (bs s).data.toList = s from rfl, ← HT.out]
    go_wp2_with fail
    go_end0
    exact ⟨rfl, by rw [show first1 0 (fldW s x wh).2 = (fldW s x wh).2 from rfl, ← HLL.out]; exact HE.out⟩
  · have hb : (er == 0) = false := by simpa using h0
    have HF : Hid (first1 er (fldW s x wh).2 = er) := if_neg h0
    have HE := Lib.hid (H.text (fw s x wh) hz)
    clear h0
    go_enter Try.func19, Try.ntmps19
    go_wp2_with fail
    refine HC.out.mono ?_; rintro e w' ⟨rfl, rfl⟩
    rw [show (bs s).data.toList = s from rfl, ← HT.out]
    go_wp2_with fail
    go_end0
    exact ⟨rfl, by rw [HF.out, ← HLL.out]; exact HE.out⟩
set_option maxHeartbeats 1000000 in
theorem rtNumber {g : Nat} {h : HeadV} {u : World} {er : Int} {l : List UInt8} {n : Nat} {w : World} (H : Rt g h u er l n w) (hn : n ≤ 100) (v x : Int) :
    Calls Try.prog 21 #[.int .i64 v, .int .i64 x, .pointer (some ⟨g + 1, 0, none⟩), .pointer (some ⟨g + 1 + 1, 0, none⟩)] w fun e w' => e = .returned (.tuple #[]) ∧ Rt g h u (first1 er (octW v x).2) (l ++ ow v x) (n + 1) w' := by
  obtain ⟨e1, f1⟩ := H.cErr
  obtain ⟨e2, f2⟩ := H.cText
  have hz := ow_le v x
  obtain ⟨t, ht⟩ : ∃ t, t = (octW v x).1 := ⟨_, rfl⟩
  have htl : t.data.toList = ow v x := by rw [ht]; rfl
  have hts : t.size ≤ 512 := by rw [← ByteArray.size_data, ← Array.length_toList, htl]; exact hz
  have hbl : (bs l).size ≤ 60000 := by rw [bs_size]; have := H.2.2.2.2; omega
  have hap : bs l ++ t = bs (l ++ ow v x) := by rw [← htl, ← bs_app, bs_of]
  have p1 := add_to hap (by omega)
  have HC := Lib.hid (rText_any v x w)
  have HT := Lib.hid ht
  obtain ⟨L, HL⟩ := hid_name (bs l)
  obtain ⟨LL, HLL⟩ := hid_name (bs (l ++ ow v x))
  rw [HL.out] at e2 p1 hbl
  rw [HLL.out] at p1
  clear hap ht htl
  by_cases h0 : er = 0
  · subst h0
    have HE := Lib.hid ((H.err (octW v x).2).text (ow v x) hz)
    go_enter Try.func21, Try.ntmps21
    go_wp2_with fail
    refine HC.out.mono ?_; rintro e w' ⟨rfl, rfl⟩
    rw [← HT.out]
    go_wp2_with fail
    go_end0
    exact ⟨rfl, by rw [show first1 0 (octW v x).2 = (octW v x).2 from rfl, ← HLL.out]; exact HE.out⟩
  · have hb : (er == 0) = false := by simpa using h0
    have HF : Hid (first1 er (octW v x).2 = er) := if_neg h0
    have HE := Lib.hid (H.text (ow v x) hz)
    clear h0
    go_enter Try.func21, Try.ntmps21
    go_wp2_with fail
    refine HC.out.mono ?_; rintro e w' ⟨rfl, rfl⟩
    rw [← HT.out]
    go_wp2_with fail
    go_end0
    exact ⟨rfl, by rw [HF.out, ← HLL.out]; exact HE.out⟩
end Go.Proofs.Ytjklgadigcobcaa
