/- The reference's reading of headers. -/
import Derived.Test.YtjklgadigcobcaaHedS
import Derived.Test.YtjklgadigcobcaaHedT
import Derived.Test.YtjklgadigcobcaaFldC
import Derived.Test.YtjklgadigcobcaaOctE
set_option linter.unusedVariables false
set_option maxRecDepth 100000
namespace Go.Proofs.Ytjklgadigcobcaa
open Go.RowKit
open Go.OpenShut
/-- on the way: the text at a, the result's cells, the error, the closure, the header -/
def Ro (a : Nat) (s : ByteArray) (er : Int) (hv : HeadV) (u w : World) : Prop :=
  w.heap[a]? = some (.cells #[.string s] 9 (0, 0)) ∧ w.heap[a + 1]? = some (.cells (headC headZ) 27 (0, 0)) ∧ w.heap[a + 1 + 1]? = some (.cells #[.int .i64 er] 22 (0, 0)) ∧
  w.heap[a + 1 + 1 + 1]? = some (.cells #[.func (.func 25) #[] #[.pointer (some ⟨a + 1 + 1, 0, none⟩)]] 53 (0, 0)) ∧ w.heap[a + 1 + 1 + 1 + 1]? = some (.cells (headC hv) 27 (0, 0)) ∧ Below a u w
theorem Ro.below {a : Nat} {s : ByteArray} {er : Int} {hv : HeadV} {u w w' : World} (H : Ro a s er hv u w) (hb : Below w.heap.size w w') : Ro a s er hv u w' := by
  obtain ⟨h0, h1, h2, h3, h4, h5⟩ := H
  exact ⟨(hb.block _ (rd_lt h0)).trans h0, (hb.block _ (rd_lt h1)).trans h1, (hb.block _ (rd_lt h2)).trans h2, (hb.block _ (rd_lt h3)).trans h3, (hb.block _ (rd_lt h4)).trans h4, h5.trans (hb.mono (Nat.le_of_lt (rd_lt h0)))⟩
theorem Ro.err {a : Nat} {s : ByteArray} {er : Int} {hv : HeadV} {u w : World} (H : Ro a s er hv u w) (e2 : Int) : Ro a s e2 hv u (w.setCell ⟨a + 1 + 1, 0, none⟩ (.int .i64 e2)) := by
  obtain ⟨h0, h1, h2, h3, h4, h5⟩ := H
  refine ⟨?_, ?_, ?_, ?_, ?_, h5.setCell (p := ⟨a + 1 + 1, 0, none⟩) (by show a ≤ a + 1 + 1; omega) _⟩
  · rw [Below.heap_setCell _ _ _ _ (by show a ≠ a + 1 + 1; omega)]; exact h0
  · rw [Below.heap_setCell _ _ _ _ (by show a + 1 ≠ a + 1 + 1; omega)]; exact h1
  · simp [World.setCell, Array.getElem?_modify, h2]
  · rw [Below.heap_setCell _ _ _ _ (by show a + 1 + 1 + 1 ≠ a + 1 + 1; omega)]; exact h3
  · rw [Below.heap_setCell _ _ _ _ (by show a + 1 + 1 + 1 + 1 ≠ a + 1 + 1; omega)]; exact h4
theorem Ro.set {a : Nat} {s : ByteArray} {er : Int} {hv : HeadV} {u w : World} (H : Ro a s er hv u w) (i : Nat) (v : Value) (hv' : HeadV) (he : headC hv' = (headC hv).setIfInBounds i v) : Ro a s er hv' u (w.setCell ⟨a + 1 + 1 + 1 + 1, i, none⟩ v) := by
  obtain ⟨h0, h1, h2, h3, h4, h5⟩ := H
  refine ⟨?_, ?_, ?_, ?_, ?_, h5.setCell (p := ⟨a + 1 + 1 + 1 + 1, i, none⟩) (by show a ≤ a + 1 + 1 + 1 + 1; omega) _⟩
  · rw [Below.heap_setCell _ _ _ _ (by show a ≠ a + 1 + 1 + 1 + 1; omega)]; exact h0
  · rw [Below.heap_setCell _ _ _ _ (by show a + 1 ≠ a + 1 + 1 + 1 + 1; omega)]; exact h1
  · rw [Below.heap_setCell _ _ _ _ (by show a + 1 + 1 ≠ a + 1 + 1 + 1 + 1; omega)]; exact h2
  · rw [Below.heap_setCell _ _ _ _ (by show a + 1 + 1 + 1 ≠ a + 1 + 1 + 1 + 1; omega)]; exact h3
  · rw [he]; simp [World.setCell, Array.getElem?_modify, h4]
theorem Ro.cS {a : Nat} {s : ByteArray} {er : Int} {hv : HeadV} {u w : World} (H : Ro a s er hv u w) : w.cell? ⟨a, 0, none⟩ = some (.string s) := by rw [Lib.cell_of_heap H.1]; rfl
theorem Ro.cE {a : Nat} {s : ByteArray} {er : Int} {hv : HeadV} {u w : World} (H : Ro a s er hv u w) : w.cell? ⟨a + 1 + 1, 0, none⟩ = some (.int .i64 er) ∧ w.frozen? ⟨a + 1 + 1, 0, none⟩ = false := ⟨by rw [Lib.cell_of_heap H.2.2.1]; rfl, Lib.frozen_of_heap H.2.2.1 0⟩
theorem Ro.cN {a : Nat} {s : ByteArray} {er : Int} {hv : HeadV} {u w : World} (H : Ro a s er hv u w) : w.cell? ⟨a + 1 + 1 + 1, 0, none⟩ = some (.func (.func 25) #[] #[.pointer (some ⟨a + 1 + 1, 0, none⟩)]) := by rw [Lib.cell_of_heap H.2.2.2.1]; rfl
theorem Ro.at {a : Nat} {s : ByteArray} {er : Int} {hv : HeadV} {u w : World} (H : Ro a s er hv u w) (i : Nat) (hi : i < 11) : ∃ v, w.cell? ⟨a + 1 + 1 + 1 + 1, i, none⟩ = some v ∧ w.frozen? ⟨a + 1 + 1 + 1 + 1, i, none⟩ = false := by
  have hs : (headC hv).size = 11 := rfl
  exact ⟨(headC hv)[i], by rw [Lib.cell_of_heap H.2.2.2.2.1]; exact Array.getElem?_eq_getElem (by omega), Lib.frozen_of_heap H.2.2.2.2.1 i⟩
theorem roNote {a : Nat} {s : ByteArray} {er : Int} {hv : HeadV} {u w : World} (H : Ro a s er hv u w) (e1 : Int) :
    Calls Try.prog 25 #[.int .i64 e1, .pointer (some ⟨a + 1 + 1, 0, none⟩)] w fun e w' => e = .returned (.tuple #[]) ∧ Ro a s (first1 er e1) hv u w' := by
  obtain ⟨c, f⟩ := H.cE
  by_cases h0 : er = 0
  · subst h0
    have HE := Lib.hid (H.err e1)
    go_enter Try.func25, Try.ntmps25
    go_wp2_with fail
    go_end0
    exact ⟨rfl, HE.out⟩
  · have hb : (er == 0) = false := by simpa using h0
    have HF : Hid (first1 er e1 = er) := if_neg h0
    have HE := Lib.hid H
    clear h0 H
    go_enter Try.func25, Try.ntmps25
    go_wp2_with fail
    go_end0
    exact ⟨rfl, by rw [HF.out]; exact HE.out⟩
theorem roText {a : Nat} {s : ByteArray} {er : Int} {hv : HeadV} {u w : World} (H : Ro a s er hv u w) (hs : s.size = 512) (k m : Nat) (wh : Bool) (hk : k ≤ m) (hm : m ≤ 512) :
    Calls Try.prog 26 #[.int .i64 (k : Int), .int .i64 (m : Int), .bool wh, .pointer (some ⟨a, 0, none⟩), .pointer (some ⟨a + 1 + 1 + 1, 0, none⟩)] w fun e w' => e = .returned (.string (bs (rdS s.data.toList k m wh))) ∧ Ro a s (first1 er (fldR (sl s.data.toList k m) wh).2) hv u w' := by
  have c := H.cS
  have x1 := ext_bs s k m
  have hl : s.data.toList.length = 512 := by rw [← hs]; simp
  have hsz : (bs (sl s.data.toList k m)).size ≤ maxLen := by rw [bs_size, sl_len _ _ _ (by omega)]; unfold maxLen; omega
  have hC := fun W => frOf_any (bs (sl s.data.toList k m)) wh W hsz
  rw [show (bs (sl s.data.toList k m)).data.toList = sl s.data.toList k m from rfl, show (fldR (sl s.data.toList k m) wh).1 = bs (rdS s.data.toList k m wh) from (bs_of _).symm] at hC
  obtain ⟨V, HV⟩ := hid_name (bs (rdS s.data.toList k m wh))
  obtain ⟨X, HX⟩ := hid_name (bs (sl s.data.toList k m))
  obtain ⟨E, HE⟩ := hid_name (fldR (sl s.data.toList k m) wh).2
  rw [HV.out, HX.out, HE.out] at hC
  rw [HX.out] at x1
  rw [HV.out, HE.out]
  have HC := Lib.hid hC
  have HH := Lib.hid H
  have y1 : m ≤ s.size := by omega
  have y2 : s.size ≤ 512 := by omega
  clear hs hl hsz hC H
  go_enter Try.func26, Try.ntmps26
  go_wp2_with fail
  refine (HC.out _).mono ?_; rintro e w1 ⟨rfl, hb⟩
  have H1 := HH.out.below hb
  have c2 := H1.cN
  have HH1 := Lib.hid H1
  clear H1 hb c x1
  go_wp2_with fail
  refine (roNote HH1.out E).mono ?_; rintro e w2 ⟨rfl, H2⟩
  have HH2 := Lib.hid H2
  clear H2 c2
  go_wp2_with fail
  go_ret
  exact ⟨rfl, HH2.out⟩
theorem roNumber {a : Nat} {s : ByteArray} {er : Int} {hv : HeadV} {u w : World} (H : Ro a s er hv u w) (hs : s.size = 512) (k m : Nat) (hk : k ≤ m) (hm : m ≤ 512) :
    Calls Try.prog 28 #[.int .i64 (k : Int), .int .i64 (m : Int), .pointer (some ⟨a, 0, none⟩), .pointer (some ⟨a + 1 + 1 + 1, 0, none⟩)] w fun e w' => e = .returned (.int .i64 (octR (sl s.data.toList k m)).1) ∧ Ro a s (first1 er (octR (sl s.data.toList k m)).2) hv u w' := by
  have c := H.cS
  have x1 := ext_bs s k m
  have hl : s.data.toList.length = 512 := by rw [← hs]; simp
  have hsz : (bs (sl s.data.toList k m)).size ≤ maxLen := by rw [bs_size, sl_len _ _ _ (by omega)]; unfold maxLen; omega
  have hC := fun W => rOf_any (bs (sl s.data.toList k m)) W hsz
  rw [show (bs (sl s.data.toList k m)).data.toList = sl s.data.toList k m from rfl] at hC
  obtain ⟨V, HV⟩ := hid_name (octR (sl s.data.toList k m)).1
  obtain ⟨X, HX⟩ := hid_name (bs (sl s.data.toList k m))
  obtain ⟨E, HE⟩ := hid_name (octR (sl s.data.toList k m)).2
  rw [HV.out, HX.out, HE.out] at hC
  rw [HX.out] at x1
  rw [HV.out, HE.out]
  have HC := Lib.hid hC
  have HH := Lib.hid H
  have y1 : m ≤ s.size := by omega
  have y2 : s.size ≤ 512 := by omega
  clear hs hl hsz hC H
  go_enter Try.func28, Try.ntmps28
  go_wp2_with fail
  refine (HC.out _).mono ?_; rintro e w1 ⟨rfl, hb⟩
  have H1 := HH.out.below hb
  have c2 := H1.cN
  have HH1 := Lib.hid H1
  clear H1 hb c x1
  go_wp2_with fail
  refine (roNote HH1.out E).mono ?_; rintro e w2 ⟨rfl, H2⟩
  have HH2 := Lib.hid H2
  clear H2 c2
  go_wp2_with fail
  go_ret
  exact ⟨rfl, HH2.out⟩
theorem first1_true (er : Int) : first1 er (bad true) = er := by
  unfold first1 bad
  split
  · rename_i h; rw [h]; rfl
  · rfl
theorem roJust {a : Nat} {s : ByteArray} {er : Int} {hv : HeadV} {u w : World} (H : Ro a s er hv u w) (hs : s.size = 512) (k m : Nat) (t : ByteArray) (hk : k + t.size = m) (hm : m ≤ 512) :
    Calls Try.prog 30 #[.int .i64 (k : Int), .string t, .pointer (some ⟨a, 0, none⟩), .pointer (some ⟨a + 1 + 1 + 1, 0, none⟩)] w fun e w' => e = .returned (.tuple #[]) ∧ Ro a s (first1 er (bad (decide (sl s.data.toList k m = t.data.toList)))) hv u w' := by
  have c := H.cS
  have c2 := H.cN
  have x1 := ext_bs s k m
  obtain ⟨X, HX⟩ := hid_name (bs (sl s.data.toList k m))
  have hq : (X.toList == t.toList) = decide (sl s.data.toList k m = t.data.toList) := by
    rw [← HX.out, ByteArray.toList_eq, ByteArray.toList_eq, show (bs (sl s.data.toList k m)).data.toList = sl s.data.toList k m from rfl, Bool.eq_iff_iff]; simp
  obtain ⟨q, Hq⟩ := hid_name (decide (sl s.data.toList k m = t.data.toList))
  rw [Hq.out] at hq ⊢
  rw [HX.out] at x1
  subst hk
  have HH := Lib.hid H
  have y1 : k + t.size ≤ s.size := by omega
  have y2 : s.size ≤ 512 := by omega
  have hq2 : (X.toList != t.toList) = !q := by rw [bne, hq]
  clear hs H hm Hq HX
  cases q
  · go_enter Try.func30, Try.ntmps30
    go_wp2_with fail
    refine (roNote HH.out 3).mono ?_; rintro e w2 ⟨rfl, H2⟩
    have HH2 := Lib.hid H2
    clear H2 c c2 x1 hq hq2
    go_wp2_with fail
    go_end0
    exact ⟨rfl, HH2.out⟩
  · rw [first1_true]
    go_enter Try.func30, Try.ntmps30
    go_wp2_with fail
    go_end0
    exact ⟨rfl, HH.out⟩
end Go.Proofs.Ytjklgadigcobcaa
