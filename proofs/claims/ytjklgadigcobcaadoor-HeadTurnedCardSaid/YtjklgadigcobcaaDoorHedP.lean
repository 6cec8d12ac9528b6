/- Package head: the reader's steps. -/
import Derived.Test.YtjklgadigcobcaaDoorWrt
import Derived.Test.YtjklgadigcobcaaDoorHedA
import Derived.Test.YtjklgadigcobcaaDoorHedB
import Derived.Test.YtjklgadigcobcaaDoorOctD
import Derived.Test.YtjklgadigcobcaaDoorFldD
set_option linter.unusedVariables false
set_option maxRecDepth 100000
namespace Go.Proofs.YtjklgadigcobcaaDoor
open Go.RowKit
open Go.OpenShut
theorem rd_lt {w : World} {k : Nat} {o : Obj} (h : w.heap[k]? = some o) : k < w.heap.size := by
  rcases Nat.lt_or_ge k w.heap.size with h' | h'
  · exact h'
  · rw [Array.getElem?_eq_none h'] at h; cases h
theorem Oth.setR {w : World} {b i : Nat} {v : Value} {cs : Array Value} {fr : Nat × Nat} (hb : w.heap[b]? = some (.cells cs 50 fr)) : Oth w (w.setCell ⟨b, i, none⟩ v) := by
  intro k c f e
  rw [Below.heap_setCell _ _ _ _ (fun e2 => by subst e2; rw [hb] at e; injection e with e; injection e with _ e _; exact absurd e (by decide))]
  exact e
/-- the reader at b: behind k bytes of L, with the error er -/
def Rd (b : Nat) (L : List UInt8) (k : Nat) (er : Int) (w : World) : Prop := w.heap[b]? = some (.cells #[.string (bs (L.drop k)), .int .i64 er] 50 (0, 0))
theorem Rd.below {b : Nat} {L : List UInt8} {k : Nat} {er : Int} {w w' : World} (h : Rd b L k er w) (hb : Below w.heap.size w w') : Rd b L k er w' := (hb.block b (rd_lt h)).trans h
theorem Rd.rest {b : Nat} {L : List UInt8} {k : Nat} {er : Int} {w : World} (h : Rd b L k er w) (m : Nat) : Rd b L m er (w.setCell ⟨b, 0, none⟩ (.string (bs (L.drop m)))) := by
  unfold Rd at h ⊢; simp [World.setCell, Array.getElem?_modify, h]
theorem Rd.err {b : Nat} {L : List UInt8} {k : Nat} {er : Int} {w : World} (h : Rd b L k er w) (e2 : Int) : Rd b L k e2 (w.setCell ⟨b, 1, none⟩ (.int .i64 e2)) := by
  unfold Rd at h ⊢; simp [World.setCell, Array.getElem?_modify, h]
theorem Rd.cells {b : Nat} {L : List UInt8} {k : Nat} {er : Int} {w : World} (h : Rd b L k er w) :
    (w.cell? ⟨b, 0, none⟩ = some (.string (bs (L.drop k))) ∧ w.frozen? ⟨b, 0, none⟩ = false) ∧ (w.cell? ⟨b, 1, none⟩ = some (.int .i64 er) ∧ w.frozen? ⟨b, 1, none⟩ = false) := by
  unfold Rd at h
  exact ⟨⟨by rw [Lib.cell_of_heap h]; rfl, Lib.frozen_of_heap h 0⟩, ⟨by rw [Lib.cell_of_heap h]; rfl, Lib.frozen_of_heap h 1⟩⟩
theorem rTake (B b : Nat) (L : List UInt8) (k n : Nat) (er : Int) (w : World) (h : Rd b L k er w) (hB : B ≤ b) (hn : k + n ≤ L.length) (hL : L.length ≤ 100000) :
    Calls Tryd.prog 30 #[.pointer (some ⟨b, 0, none⟩), .int .i64 (n : Int)] w fun e w' => e = .returned (.string (bs (sl L k (k + n)))) ∧ (Rd b L (k + n) er w' ∧ Bel B w w') := by
  obtain ⟨⟨c0, f0⟩, -⟩ := h.cells
  have x1 := bs_take L k n hn
  have x2 := bs_drop L k n
  have hz : (bs (L.drop k)).size = L.length - k := by rw [bs_size, List.length_drop]
  have HE := Lib.hid (h.rest (k + n))
  have HB := Lib.hid ((Below.refl B w).setCell (p := ⟨b, 0, none⟩) hB (.string (bs (L.drop (k + n)))))
  have HO : Hid (Oth w (w.setCell ⟨b, 0, none⟩ (.string (bs (L.drop (k + n)))))) := Oth.setR h
  obtain ⟨S, HS⟩ := hid_name (bs (L.drop k))
  obtain ⟨T, HT⟩ := hid_name (bs (L.drop (k + n)))
  obtain ⟨V, HV⟩ := hid_name (bs (sl L k (k + n)))
  rw [HS.out] at c0 hz x1 x2
  rw [HT.out] at x2 HE HB HO
  rw [HV.out] at x1 ⊢
  have y1 : n ≤ S.size := by omega
  have y2 : S.size ≤ 100000 := by omega
  clear hz h
  go_enter Tryd.func30, Tryd.ntmps30
  go_wp2_with fail
  go_ret
  exact ⟨rfl, HE.out, HB.out, HO.out⟩
theorem rText (B b : Nat) (L : List UInt8) (k n : Nat) (er : Int) (wh : Bool) (w : World) (h : Rd b L k er w) (hB : B ≤ b) (hn : k + n ≤ L.length) (hL : L.length ≤ 100000) (hBw : B ≤ w.heap.size) :
    Calls Tryd.prog 28 #[.pointer (some ⟨b, 0, none⟩), .int .i64 (n : Int), .bool wh] w fun e w' => e = .returned (.string (bs (rdS L k (k + n) wh))) ∧ (Rd b L (k + n) (first1 er (fldR (sl L k (k + n)) wh).2) w' ∧ Bel B w w') := by
  have HT := Lib.hid (rTake B b L k n er w h hB hn hL)
  have hsz : (bs (sl L k (k + n))).size ≤ maxLen := by rw [bs_size, sl_len _ _ _ hn]; unfold maxLen; omega
  have HC := Lib.hid (fun W => fRead_any (bs (sl L k (k + n))) wh W hsz)
  have hv : (fldR (sl L k (k + n)) wh).1 = bs (rdS L k (k + n) wh) := (bs_of _).symm
  obtain ⟨V, HV⟩ := hid_name (bs (rdS L k (k + n) wh))
  rw [HV.out] at hv ⊢
  have Hv := Lib.hid hv
  obtain ⟨S, HS⟩ := hid_name (bs (sl L k (k + n)))
  have HC2 : Hid (∀ W, Calls Tryd.prog 39 #[.string S, .bool wh] W fun e w' => e = .returned (.tuple #[.string V, .int .i64 (fldR (sl L k (k + n)) wh).2]) ∧ Below W.heap.size W w') := by
    intro W
    have := HC.out W
    rw [show (bs (sl L k (k + n))).data.toList = sl L k (k + n) from rfl, Hv.out, HS.out] at this
    exact this
  have HT2 := HT.out
  rw [HS.out] at HT2
  have HT2 := Lib.hid HT2
  have HBw : Hid (B ≤ w.heap.size) := hBw
  have HB : Hid (B ≤ b) := hB
  clear hsz hv h HC HT hn
  go_enter Tryd.func28, Tryd.ntmps28
  go_wp2_with fail
  refine HT2.out.mono ?_; rintro e w1 ⟨rfl, h1, hb1⟩
  have H1 := Lib.hid h1
  have HB1 := Lib.hid hb1
  clear h1 hb1
  go_wp2_with fail
  refine (HC2.out _).mono ?_; rintro e w2 ⟨rfl, hb2⟩
  have h2 := H1.out.below hb2
  have HB2 := Lib.hid (HB1.out.trans (Bel.of hb2 (by have := HBw.out; have := HB1.out.1.size; omega)))
  obtain ⟨-, c1, f1⟩ := h2.cells
  have H2 := Lib.hid h2
  clear h2 hb2
  go_wp2_with fail
  refine (first_any _ _ _).mono ?_; rintro e w3 ⟨rfl, rfl⟩
  go_wp2_with fail
  go_ret
  exact ⟨rfl, H2.out.err _, HB2.out.1.setCell (p := ⟨b, 1, none⟩) HB.out _, HB2.out.2.trans (Oth.setR H2.out)⟩
theorem rNumber (B b : Nat) (L : List UInt8) (k n : Nat) (er : Int) (w : World) (h : Rd b L k er w) (hB : B ≤ b) (hn : k + n ≤ L.length) (hL : L.length ≤ 100000) (hBw : B ≤ w.heap.size) :
    Calls Tryd.prog 29 #[.pointer (some ⟨b, 0, none⟩), .int .i64 (n : Int)] w fun e w' => e = .returned (.int .i64 (octR (sl L k (k + n))).1) ∧ (Rd b L (k + n) (first1 er (octR (sl L k (k + n))).2) w' ∧ Bel B w w') := by
  have HT := Lib.hid (rTake B b L k n er w h hB hn hL)
  have hsz : (bs (sl L k (k + n))).size ≤ maxLen := by rw [bs_size, sl_len _ _ _ hn]; unfold maxLen; omega
  have HC := Lib.hid (fun W => Read_any (bs (sl L k (k + n))) W hsz)
  obtain ⟨S, HS⟩ := hid_name (bs (sl L k (k + n)))
  have HC2 : Hid (∀ W, Calls Tryd.prog 41 #[.string S] W fun e w' => e = .returned (.tuple #[.int .i64 (octR (sl L k (k + n))).1, .int .i64 (octR (sl L k (k + n))).2]) ∧ W = w') := by
    intro W
    have := HC.out W
    rw [show (bs (sl L k (k + n))).data.toList = sl L k (k + n) from rfl, HS.out] at this
    exact this
  have HT2 := HT.out
  rw [HS.out] at HT2
  have HT2 := Lib.hid HT2
  have HB : Hid (B ≤ b) := hB
  clear hsz h HC HT hn
  go_enter Tryd.func29, Tryd.ntmps29
  go_wp2_with fail
  refine HT2.out.mono ?_; rintro e w1 ⟨rfl, h1, hb1⟩
  obtain ⟨-, c1, f1⟩ := h1.cells
  have H1 := Lib.hid h1
  have HB1 := Lib.hid hb1
  clear h1 hb1
  go_wp2_with fail
  refine (HC2.out _).mono ?_; rintro e w2 ⟨rfl, rfl⟩
  go_wp2_with fail
  refine (first_any _ _ _).mono ?_; rintro e w3 ⟨rfl, rfl⟩
  go_wp2_with fail
  go_ret
  exact ⟨rfl, H1.out.err _, HB1.out.1.setCell (p := ⟨b, 1, none⟩) HB.out _, HB1.out.2.trans (Oth.setR H1.out)⟩
theorem rRequire (B b : Nat) (L : List UInt8) (k : Nat) (er : Int) (c : Bool) (w : World) (h : Rd b L k er w) (hB : B ≤ b) :
    Calls Tryd.prog 31 #[.pointer (some ⟨b, 0, none⟩), .bool c] w fun e w' => e = .returned (.tuple #[]) ∧ (Rd b L k (first1 er (bad c)) w' ∧ Bel B w w') := by
  obtain ⟨-, c1, f1⟩ := h.cells
  have H1 := Lib.hid h
  cases c
  · have HB := Lib.hid ((Below.refl B w).setCell (p := ⟨b, 1, none⟩) hB (.int .i64 (first1 er (bad false))))
    have HO : Hid (Oth w (w.setCell ⟨b, 1, none⟩ (.int .i64 (first1 er (bad false))))) := Oth.setR h
    clear h
    go_enter Tryd.func31, Tryd.ntmps31
    go_wp2_with fail
    refine (first_any _ _ _).mono ?_; rintro e w3 ⟨rfl, rfl⟩
    go_wp2_with fail
    go_end0
    exact ⟨rfl, H1.out.err _, HB.out, HO.out⟩
  · have he : first1 er (bad true) = er := by
      unfold first1 bad
      split
      · rename_i h; rw [h]; rfl
      · rfl
    rw [he]
    clear he h
    go_enter Tryd.func31, Tryd.ntmps31
    go_wp2_with fail
    go_end0
    exact ⟨rfl, H1.out, Below.refl _ _, Oth.refl _⟩
end Go.Proofs.YtjklgadigcobcaaDoor
