/- The properties of globs: GlobSets. -/
import Derived.Test.YtcljfokcomclgaaDoorGlbK
import Derived.Test.YtcljfokcomclgaaDoorFldA
import Derived.Test.YtcljfokcomclgaaDoorByt
import Derived.Test.YtcljfokcomclgaaDoorOwb
set_option linter.unusedVariables false
set_option maxRecDepth 100000
namespace Go.Proofs.YtcljfokcomclgaaDoor
open Go.RowKit
open Go.OpenShut
theorem conv_lits (W : World) (l : List UInt8) : (convert 39 9 (.slice (some ⟨W.heap.size, 0, none⟩) l.length l.length)).run Tryd.prog (W.alloc (.cells (bCells l).toArray 5)) = .ok (.string (bs l)) (W.alloc (.cells (bCells l).toArray 5)) := by
  have hc : (W.alloc (.cells (bCells l).toArray 5)).heap[W.heap.size]? = some (.cells (bCells l).toArray 5 (0, 0)) := heap_alloc_new W _
  have h := run_convert_bytes_arg (P := Tryd.prog) (W.alloc (.cells (bCells l).toArray 5)) 39 5 Tryd.underlying39 Tryd.underlying5 W.heap.size 0 l.length l.length (bInts l) (by simp [bInts]) (fun i hi => by
    rw [Lib.cell_of_heap hc]
    simp [bCells, bInts] at hi ⊢
    simp [hi]) 9 Tryd.underlying9
  rw [strOfNums_bytes] at h
  exact h
def barL : List UInt8 := [47, 93, 33, 45, 42, 63, 91, 0, 46]
theorem bar_at (c : UInt8) : ∃ r : Int, Lib.indexByte barL c = r ∧ ((0 ≤ r ∧ hasB c barL = true) ∨ (r = -1 ∧ hasB c barL = false)) := by
  refine ⟨_, rfl, ?_⟩
  rw [indexByte_pos]
  rcases h : hasB c barL with _ | _
  · right; exact ⟨by simp, rfl⟩
  · left; exact ⟨by simp, rfl⟩
theorem sets_nat {b : Int} (hb : (Lit.int .u8 b).wf = true) : ∃ c : UInt8, b = (c.toNat : Int) := by
  have hbb : IntKind.u8.min ≤ b ∧ b ≤ IntKind.u8.max := by simpa [Lit.wf] using hb
  rw [show IntKind.u8.min = 0 from rfl, show IntKind.u8.max = 255 from rfl] at hbb
  exact ⟨UInt8.ofNat b.toNat, by rw [UInt8.toNat_ofNat']; omega⟩
theorem bar_any (c : UInt8) (r : Int) (h : Lib.indexByte barL c = r) (w : World) : Calls Tryd.prog 17 #[.string ⟨#[47, 93, 33, 45, 42, 63, 91, 0, 46]⟩, .int .u8 (c.toNat : Int)] w fun e w' => e = .returned (.int .i64 r) ∧ w = w' := by
  refine (IndexByte_any ⟨#[47, 93, 33, 45, 42, 63, 91, 0, 46]⟩ _ w).mono ?_; rintro e w' ⟨rfl, rfl⟩
  exact ⟨by rw [← h]; simp [barL], rfl⟩
theorem sets_ok (l h c : UInt8) (hl : hasB l barL = false) (hh : hasB h barL = false) (h47 : c ≠ 47) (h0 : c ≠ 0) :
    (fitsE [120, 91, l, 45, h, 93] [120, c] = 0 ∧ fitsB [120, 91, l, 45, h, 93] [120, c] = span l h c) ∧ (fitsE [120, 91, 33, l, 45, h, 93] [120, c] = 0 ∧ fitsB [120, 91, 33, l, 45, h, 93] [120, c] = !span l h c) ∧ fitsE [120, 91, 97] [120, c] = 3 := by
  have hp : plainC 120 := ⟨by decide, by decide, by decide⟩
  have nm : ∀ x, hasB x barL = false → x ≠ 47 ∧ x ≠ 93 ∧ x ≠ 33 := fun x hx => by
    have := (hasB_mem x barL).1 hx
    exact ⟨fun e => this 47 (by simp [barL]) e.symm, fun e => this 93 (by simp [barL]) e.symm, fun e => this 33 (by simp [barL]) e.symm⟩
  obtain ⟨l1, l2, l3⟩ := nm l hl
  obtain ⟨h1, h2, h3⟩ := nm h hh
  have e1 : pathE [120, c] = 0 := pathE_one (nameB_true _ (by simp) (by simp) (by intro h; injection h with h; cases h)) (by simp) (by simp) ((hasB_mem 47 _).2 (by simp [h47])) ((hasB_mem 0 _).2 (by simp [h0]))
  have s1 : hasB 47 [120, c] = false := (hasB_mem 47 _).2 (by simp [h47])
  have p1 : hasB 47 [120, 91, l, 45, h, 93] = false := (hasB_mem 47 _).2 (by simp [l1, h1])
  have p2 : hasB 47 [120, 91, 33, l, 45, h, 93] = false := (hasB_mem 47 _).2 (by simp [l1, h1])
  have g1 : globE [120, 91, l, 45, h, 93] = 0 := globE_one (by simp) (by simp) p1 (by rw [tokL_in 120 l h hp l3 h2]; rfl)
  have g2 : globE [120, 91, 33, l, 45, h, 93] = 0 := globE_one (by simp) (by simp) p2 (by rw [tokL_out 120 l h hp h2]; rfl)
  have g3 : globE [120, 91, 97] = 3 := globE_torn (by simp) (by simp) (by decide) (tokL_torn 120 97 hp (by decide))
  refine ⟨⟨fitsE_ok g1 e1, ?_⟩, ⟨fitsE_ok g2 e1, ?_⟩, ?_⟩
  · rw [fitsB_ok g1 e1, globF_single p1 s1 (by simp), partF_in 120 l h c hp l3 h2]
  · rw [fitsB_ok g2 e1, globF_single p2 s1 (by simp), partF_out 120 l h c hp h2]
  · rw [fitsE_no _ (by rw [g3]; decide), g3]
set_option maxHeartbeats 4000000 in
theorem GlobSets_walk (a0 a1 a2 : Int) (w0 : (Lit.int .u8 a0).wf = true) (w1 : (Lit.int .u8 a1).wf = true) (w2 : (Lit.int .u8 a2).wf = true) (w : World) :
    Calls Tryd.prog 7 #[.int .u8 a0, .int .u8 a1, .int .u8 a2] w fun e w' => e = .returned (.bool true) ∧ Below w.heap.size w w' := by
  obtain ⟨l, rfl⟩ := sets_nat w0
  obtain ⟨h, rfl⟩ := sets_nat w1
  obtain ⟨c, rfl⟩ := sets_nat w2
  clear w0 w1 w2
  obtain ⟨r, hr, hr2⟩ := bar_at l
  obtain ⟨q, hq, hq2⟩ := bar_at h
  have HR := Lib.hid fun W => bar_any l r hr W
  have HQ := Lib.hid fun W => bar_any h q hq W
  clear hr hq
  rcases hr2 with ⟨r1, -⟩ | ⟨rfl, hl⟩
  · clear hq2
    go_enter Tryd.func7, Tryd.ntmps7
    go_wp2_with fail
    refine (HR.out _).mono ?_; rintro e w1 ⟨rfl, rfl⟩
    go_wp2_with fail
    go_ret
    exact ⟨rfl, Below.refl _ _⟩
  · rcases hq2 with ⟨q1, -⟩ | ⟨rfl, hh⟩
    · clear hl
      go_enter Tryd.func7, Tryd.ntmps7
      go_wp2_with fail
      refine (HR.out _).mono ?_; rintro e w1 ⟨rfl, rfl⟩
      go_wp2_with fail
      refine (HQ.out _).mono ?_; rintro e w1 ⟨rfl, rfl⟩
      go_wp2_with fail
      go_ret
      exact ⟨rfl, Below.refl _ _⟩
    · by_cases h47 : c = 47
      · subst h47
        clear hl hh
        go_enter Tryd.func7, Tryd.ntmps7
        go_wp2_with fail
        refine (HR.out _).mono ?_; rintro e w1 ⟨rfl, rfl⟩
        go_wp2_with fail
        refine (HQ.out _).mono ?_; rintro e w1 ⟨rfl, rfl⟩
        go_wp2_with fail
        go_ret
        exact ⟨rfl, Below.refl _ _⟩
      · by_cases h0 : c = 0
        · subst h0
          clear hl hh
          go_enter Tryd.func7, Tryd.ntmps7
          go_wp2_with fail
          refine (HR.out _).mono ?_; rintro e w1 ⟨rfl, rfl⟩
          go_wp2_with fail
          refine (HQ.out _).mono ?_; rintro e w1 ⟨rfl, rfl⟩
          go_wp2_with fail
          go_ret
          exact ⟨rfl, Below.refl _ _⟩
        · obtain ⟨⟨k1, k2⟩, ⟨k3, k4⟩, k5⟩ := sets_ok l h c hl hh h47 h0
          have e47 : ((c.toNat : Int) == 47) = false := u8_not c 47 h47
          have e0 : ((c.toNat : Int) == 0) = false := u8_not c 0 h0
          have HS : Hid (span l h c = (decide ((l.toNat : Int) ≤ (c.toNat : Int)) && decide ((c.toNat : Int) ≤ (h.toNat : Int)))) := by
            have e1 : (l ≤ c) ↔ ((l.toNat : Int) ≤ (c.toNat : Int)) := by rw [UInt8.le_iff_toNat_le]; omega
            have e2 : (c ≤ h) ↔ ((c.toNat : Int) ≤ (h.toNat : Int)) := by rw [UInt8.le_iff_toNat_le]; omega
            unfold Hid span
            rw [← Bool.decide_and]
            exact decide_eq_decide.2 (and_congr e1 e2)
          have HC2 : Hid (∀ W : World, (convert 39 9 (.slice (some ⟨W.heap.size, 0, none⟩) 2 2)).run Tryd.prog (W.alloc (.cells #[.int .u8 120, .int .u8 (c.toNat : Int)] 5)) = .ok (.string (bs [120, c])) (W.alloc (.cells #[.int .u8 120, .int .u8 (c.toNat : Int)] 5))) := fun W => conv_lits W [120, c]
          have HC3 : Hid (∀ W : World, (convert 39 9 (.slice (some ⟨W.heap.size, 0, none⟩) 3 3)).run Tryd.prog (W.alloc (.cells #[.int .u8 (l.toNat : Int), .int .u8 45, .int .u8 (h.toNat : Int)] 5)) = .ok (.string (bs [l, 45, h])) (W.alloc (.cells #[.int .u8 (l.toNat : Int), .int .u8 45, .int .u8 (h.toNat : Int)] 5))) := fun W => conv_lits W [l, 45, h]
          obtain ⟨x, Hx⟩ := hid_name (bs [120, c])
          obtain ⟨y, Hy⟩ := hid_name (bs [l, 45, h])
          have hx : x.data.toList = [120, c] := by rw [← Hx.out]; rfl
          have hy : y.data.toList = [l, 45, h] := by rw [← Hy.out]; rfl
          have hxs : x.size = 2 := by have : x.data.toList.length = x.size := by simp
                                      rw [hx] at this; simpa using this.symm
          have hys : y.size = 3 := by have : y.data.toList.length = y.size := by simp
                                      rw [hy] at this; simpa using this.symm
          rw [Hx.out] at HC2
          rw [Hy.out] at HC3
          have z1 : (⟨#[120, 91]⟩ ++ y : ByteArray).size ≤ 10 := by rw [ByteArray.size_append, hys]; decide
          have z2 : (⟨#[120, 91, 33]⟩ ++ y : ByteArray).size ≤ 10 := by rw [ByteArray.size_append, hys]; decide
          have z3 : (⟨#[120, 91]⟩ ++ y ++ ⟨#[93]⟩ : ByteArray).size ≤ 11 := by rw [ByteArray.size_append]; show _ + 1 ≤ 11; omega
          have z4 : (⟨#[120, 91, 33]⟩ ++ y ++ ⟨#[93]⟩ : ByteArray).size ≤ 11 := by rw [ByteArray.size_append]; show _ + 1 ≤ 11; omega
          have HF1 : Hid (∀ W, Calls Tryd.prog 11 #[.string (⟨#[120, 91]⟩ ++ y ++ ⟨#[93]⟩), .string x] W fun e w' => e = .returned (.tuple #[.bool (span l h c), .int .i64 0]) ∧ Below W.heap.size W w') := fun W => by
            have := gFits_any (⟨#[120, 91]⟩ ++ y ++ ⟨#[93]⟩) x W (by unfold maxLen; omega) (by unfold maxLen; omega)
            rw [show (⟨#[120, 91]⟩ ++ y ++ ⟨#[93]⟩ : ByteArray).data.toList = [120, 91, l, 45, h, 93] by simp [ByteArray.data_append, hy], hx, k1, k2] at this
            exact this
          have HF2 : Hid (∀ W, Calls Tryd.prog 11 #[.string (⟨#[120, 91, 33]⟩ ++ y ++ ⟨#[93]⟩), .string x] W fun e w' => e = .returned (.tuple #[.bool (!span l h c), .int .i64 0]) ∧ Below W.heap.size W w') := fun W => by
            have := gFits_any (⟨#[120, 91, 33]⟩ ++ y ++ ⟨#[93]⟩) x W (by unfold maxLen; omega) (by unfold maxLen; omega)
            rw [show (⟨#[120, 91, 33]⟩ ++ y ++ ⟨#[93]⟩ : ByteArray).data.toList = [120, 91, 33, l, 45, h, 93] by simp [ByteArray.data_append, hy], hx, k3, k4] at this
            exact this
          have HF3 : Hid (∀ W, Calls Tryd.prog 11 #[.string ⟨#[120, 91, 97]⟩, .string x] W fun e w' => (∃ b, e = .returned (.tuple #[.bool b, .int .i64 3])) ∧ Below W.heap.size W w') := fun W => by
            have := gFits_any ⟨#[120, 91, 97]⟩ x W (by decide) (by unfold maxLen; omega)
            rw [show (⟨#[120, 91, 97]⟩ : ByteArray).data.toList = [120, 91, 97] from rfl, hx, k5] at this
            exact this.mono fun e w' ⟨e1, e2⟩ => ⟨⟨_, e1⟩, e2⟩
          have hyb : y.size ≤ 10 := by omega
          clear hx hy k1 k2 k3 k4 k5 hl hh h47 h0 hxs hys
          go_enter Tryd.func7, Tryd.ntmps7
          go_wp2_with fail
          refine (HR.out _).mono ?_; rintro e w1 ⟨rfl, rfl⟩
          go_wp2_with fail
          refine (HQ.out _).mono ?_; rintro e w1 ⟨rfl, rfl⟩
          have hc2 := HC2.out w
          have hc3 := HC3.out (w.alloc (.cells #[.int .u8 120, .int .u8 (c.toNat : Int)] 5))
          rw [hszA] at hc3
          have HB1 := Lib.hid ((((Below.refl w.heap.size w).alloc (Nat.le_refl _) (.cells #[.int .u8 120, .int .u8 (c.toNat : Int)] 5))).alloc ((Below.refl w.heap.size w).alloc (Nat.le_refl _) (.cells #[.int .u8 120, .int .u8 (c.toNat : Int)] 5)).size (.cells #[.int .u8 (l.toNat : Int), .int .u8 45, .int .u8 (h.toNat : Int)] 5))
          go_wp2_with fail
          refine (HF1.out _).mono ?_; rintro e w2 ⟨rfl, hb2⟩
          have HB2 := Lib.hid (HB1.out.trans (hb2.mono HB1.out.size))
          have hc4 := HC3.out w2
          have HB3 := Lib.hid (HB2.out.alloc HB2.out.size (.cells #[.int .u8 (l.toNat : Int), .int .u8 45, .int .u8 (h.toNat : Int)] 5))
          clear hc2 hc3 hb2
          go_wp2_with fail
          refine (HF2.out _).mono ?_; rintro e w3 ⟨rfl, hb3⟩
          have HB4 := Lib.hid (HB3.out.trans (hb3.mono HB3.out.size))
          clear hc4 hb3
          go_wp2_with fail
          refine (HF3.out _).mono ?_; rintro e w4 ⟨⟨b, rfl⟩, hb4⟩
          have HB5 := Lib.hid (HB4.out.trans (hb4.mono HB4.out.size))
          clear hb4
          rw [HS.out]
          by_cases p1 : (l.toNat : Int) ≤ (c.toNat : Int)
          · by_cases p2 : (c.toNat : Int) ≤ (h.toNat : Int)
            · rw [decide_eq_true p1, decide_eq_true p2]
              go_wp2_with fail
              go_ret
              exact ⟨rfl, HB5.out⟩
            · rw [decide_eq_true p1, decide_eq_false p2]
              go_wp2_with fail
              go_ret
              refine ⟨?_, HB5.out⟩
              show Ending.returned (.bool (!decide (c.toNat ≤ h.toNat))) = _
              rw [decide_eq_false (by omega)]; rfl
          · rw [decide_eq_false p1, Bool.false_and]
            go_wp2_with fail
            go_ret
            exact ⟨rfl, HB5.out⟩
end Go.Proofs.YtcljfokcomclgaaDoor
