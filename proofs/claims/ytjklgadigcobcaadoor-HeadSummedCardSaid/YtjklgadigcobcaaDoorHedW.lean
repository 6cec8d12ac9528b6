/- Package head: the writer's steps. -/
import Derived.Test.YtjklgadigcobcaaDoorWrg
import Derived.Test.YtjklgadigcobcaaDoorHedB
set_option linter.unusedVariables false
set_option maxRecDepth 100000
namespace Go.Proofs.YtjklgadigcobcaaDoor
open Go.RowKit
open Go.OpenShut
theorem w_own_heap {w w' : World} {B e size : Nat} {v : Value} {n : Nat} {xs : List Value} (h : w.ownsRow B e size v n xs) (hk : ∀ g, v.ownBlock = some g → w'.heap[g]? = w.heap[g]?) : w'.ownsRow B e size v n xs := by
  unfold World.ownsRow at h ⊢
  refine ⟨h.1, ?_⟩
  rcases h.2 with ⟨rfl, h0⟩ | ⟨g, cap, cur, rfl, hB, hg, hcap, hm, hs, ht⟩
  · exact .inl ⟨rfl, h0⟩
  · exact .inr ⟨g, cap, cur, rfl, hB, (hk g rfl).trans hg, hcap, hm, hs, ht⟩
theorem w_own_block {w : World} {B e size : Nat} {v : Value} {n : Nat} {xs : List Value} (h : w.ownsRow B e size v n xs) : ∀ g0, v.ownBlock = some g0 → g0 < w.heap.size := by
  intro g0 hg0
  unfold World.ownsRow at h
  rcases h.2 with ⟨rfl, h0⟩ | ⟨g, cap, cur, rfl, hB, hg, hcap, hm, hs, ht⟩
  · cases hg0
  · have e1 : g = g0 := by simpa [Value.ownBlock] using hg0
    subst e1
    rcases Nat.lt_or_ge g w.heap.size with h' | h'
    · exact h'
    · rw [Array.getElem?_eq_none h'] at hg; cases hg
theorem WrAt.below {B b : Nat} {p : Value} {er : Int} {l : List Value} {w w' : World} (h : WrAt B b p er l w) (hb : Below w.heap.size w w') : WrAt B b p er l w' := by
  have hlt := h.lt
  obtain ⟨hB, v, hk, ho, hne⟩ := h
  exact ⟨hB, v, (hb.block b hlt).trans hk, w_own_heap ho fun g hg => hb.block g (w_own_block ho g hg), hne⟩
theorem Wr.below {B b : Nat} {er : Int} {l : List Value} {w w' : World} (h : Wr B b er l w) (hb : Below w.heap.size w w') : Wr B b er l w' := by
  rcases h with h | h
  · exact .inl (h.below hb)
  · exact .inr (h.below hb)
/-- the writer with the bytes l -/
def WrB (B b : Nat) (er : Int) (l : List UInt8) (w : World) : Prop := Wr B b er (Lib.byteCells l) w
theorem WrB.below {B b : Nat} {er : Int} {l : List UInt8} {w w' : World} (h : WrB B b er l w) (hb : Below w.heap.size w w') : WrB B b er l w' := Wr.below h hb
theorem WrAt.bytes {B b : Nat} {er : Int} {l : List UInt8} {s : ByteArray} {w : World} (h : WrAt B b (.pointer (some ⟨b, 0, none⟩)) er (Lib.byteCells l ++ Lib.strCells s) w) : WrAt B b (.pointer (some ⟨b, 0, none⟩)) er (Lib.byteCells (l ++ s.data.toList)) w := by
  rw [Lib.byteCells_append]; rw [Lib.strCells_eq] at h; exact h
theorem wAdd (B b : Nat) (er e1 : Int) (l : List UInt8) (s : ByteArray) (w : World) (h : WrB B b er l w) (hl : l.length ≤ 1000000) (hs : s.size ≤ 1000) (hBw : B ≤ w.heap.size) :
    Calls Tryd.prog 36 #[.pointer (some ⟨b, 0, none⟩), .string s, .int .i64 e1] w fun e w' => e = .returned (.tuple #[]) ∧ (WrB B b (first1 er e1) (l ++ s.data.toList) w' ∧ Bel B w w') := by
  have hlen : (Lib.byteCells l).length + s.size ≤ 140737488355328 := by rw [Lib.byteCells_length]; omega
  have HW := Lib.hid (wWrite B b er (Lib.byteCells l) s w h hlen hBw)
  clear h hlen
  go_enter Tryd.func36, Tryd.ntmps36
  go_wp2_with fail
  refine HW.out.mono ?_; rintro e w1 ⟨rfl, h1, hb1⟩
  have h2 := h1.bytes
  have h3 := h2
  obtain ⟨hB, v, hbk, -, -⟩ := h3
  have c2 : w1.cell? ⟨b, 2, none⟩ = some (.int .i64 er) := by rw [Lib.cell_of_heap hbk]; rfl
  have f2 : w1.frozen? ⟨b, 2, none⟩ = false := Lib.frozen_of_heap hbk 2
  have H2 := Lib.hid h2
  have HK := Lib.hid hbk
  have Hb := Lib.hid hb1
  clear h1 h2 hbk hb1
  go_wp2_with fail
  refine (first_any _ _ _).mono ?_; rintro e w2 ⟨rfl, rfl⟩
  go_wp2_with fail
  go_end0
  exact ⟨rfl, .inr (H2.out.erred _), Hb.out.1.setCell (p := ⟨b, 2, none⟩) hB _, Hb.out.2.trans (Oth.setCell HK.out)⟩
theorem wText (B b : Nat) (er : Int) (l : List UInt8) (s : ByteArray) (x : Int) (wh : Bool) (w : World) (h : WrB B b er l w) (hl : l.length ≤ 1000000) (hs : s.size ≤ maxLen) (hBw : B ≤ w.heap.size) :
    Calls Tryd.prog 23 #[.pointer (some ⟨b, 0, none⟩), .string s, .int .i64 x, .bool wh] w fun e w' => e = .returned (.tuple #[]) ∧ (WrB B b (first1 er (fldW s.data.toList x wh).2) (l ++ fw s.data.toList x wh) w' ∧ Bel B w w') := by
  have hz := fw_le s.data.toList x wh
  unfold fw at hz ⊢
  go_enter Tryd.func23, Tryd.ntmps23
  go_wp2_with fail
  refine (fWrite_any s x wh w hs).mono ?_; rintro e w1 ⟨rfl, hb⟩
  have h1 := h.below hb
  have HW := Lib.hid (wAdd B b er (fldW s.data.toList x wh).2 l (fldW s.data.toList x wh).1 w1 h1 hl (by rw [← ByteArray.size_data, ← Array.length_toList]; omega) (by have := hb.size; omega))
  have Hb := Lib.hid (Bel.of hb hBw)
  clear h1 hb h
  go_wp2_with fail
  refine HW.out.mono ?_; rintro e w2 ⟨rfl, h2, hb2⟩
  have H2 := Lib.hid h2
  have Hb2 := Lib.hid (Hb.out.trans hb2)
  clear h2 hb2
  go_wp2_with fail
  go_end0
  exact ⟨rfl, H2.out, Hb2.out⟩
theorem wNumber (B b : Nat) (er : Int) (l : List UInt8) (n x : Int) (w : World) (h : WrB B b er l w) (hl : l.length ≤ 1000000) (hBw : B ≤ w.heap.size) :
    Calls Tryd.prog 24 #[.pointer (some ⟨b, 0, none⟩), .int .i64 n, .int .i64 x] w fun e w' => e = .returned (.tuple #[]) ∧ (WrB B b (first1 er (octW n x).2) (l ++ ow n x) w' ∧ Bel B w w') := by
  have hz := ow_le n x
  unfold ow at hz ⊢
  go_enter Tryd.func24, Tryd.ntmps24
  go_wp2_with fail
  refine (Write_any n x w).mono ?_; rintro e w1 ⟨rfl, hb⟩
  have h1 := h.below hb
  have HW := Lib.hid (wAdd B b er (octW n x).2 l (octW n x).1 w1 h1 hl (by rw [← ByteArray.size_data, ← Array.length_toList]; omega) (by have := hb.size; omega))
  have Hb := Lib.hid (Bel.of hb hBw)
  clear h1 hb h
  go_wp2_with fail
  refine HW.out.mono ?_; rintro e w2 ⟨rfl, h2, hb2⟩
  have H2 := Lib.hid h2
  have Hb2 := Lib.hid (Hb.out.trans hb2)
  clear h2 hb2
  go_wp2_with fail
  go_end0
  exact ⟨rfl, H2.out, Hb2.out⟩
end Go.Proofs.YtjklgadigcobcaaDoor
