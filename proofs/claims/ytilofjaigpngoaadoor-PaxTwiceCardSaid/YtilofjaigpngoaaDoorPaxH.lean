/- slices.Grow, slices.Concat at lists of records of the call's own. -/
import Derived.Test.YtilofjaigpngoaaDoorPaxF
import Derived.Laws.AppendOwnNone
import Derived.Lib.AppendZeros
set_option linter.unusedVariables false
set_option maxRecDepth 100000
namespace Go.Proofs.YtilofjaigpngoaaDoor
open Go.RowKit
open Go.OpenShut
theorem recC_cells (l : List Rc) : ∀ u ∈ recC l, u.oneCell' = true := by
  intro u hu
  unfold recC at hu
  obtain ⟨r, -, h⟩ := List.mem_flatMap.1 hu
  simp at h
  rcases h with rfl | rfl <;> rfl
theorem Own.news {w : World} {B g n c : Nat} {l : List Rc} (h : Own w B (.slice (some ⟨g, 0, none⟩) n c) n l) : ∀ j u, (recC l)[j]? = some u → w.cell? ((⟨g, 0, none⟩ : Addr).add j) = some u := by
  intro j u hu
  have hadd : (⟨g, 0, none⟩ : Addr).add j = ⟨g, j, none⟩ := by unfold Addr.add; split <;> simp_all
  have hj : j < n * 2 := by
    have h1 := (List.getElem?_eq_some_iff.1 hu).1
    rw [recC_length, h.1] at h1; exact h1
  rw [hadd, h.2.cellAt j hj, hu]
/-- the form of an own list: nil, or a row -/
theorem Own.form2 {w : World} {B : Nat} {v : Value} {n : Nat} {l : List Rc} (h : Own w B v n l) : (v = .slice none 0 0 ∧ n = 0 ∧ l = []) ∨ ∃ g c, v = .slice (some ⟨g, 0, none⟩) n c ∧ B ≤ g ∧ g < w.heap.size := by
  rcases h.2.2 with ⟨e, h0⟩ | ⟨g, cap, cur, e, hB, hg, -⟩
  · exact .inl ⟨e, h0, List.eq_nil_of_length_eq_zero (by rw [h.1, h0])⟩
  · refine .inr ⟨g, cap, e, hB, ?_⟩
    rcases Nat.lt_or_ge g w.heap.size with h1 | h1
    · exact h1
    · rw [Array.getElem?_eq_none h1] at hg; cases hg
theorem own_more {w : World} {B n m : Nat} {v : Value} {l k : List Rc} (h : l.length = n) (hk : k.length = m) (ho : w.ownsRow B 35 2 v (n + m) (recC l ++ recC k)) : Own w B v (n + m) (l ++ k) :=
  ⟨by rw [List.length_append, h, hk], by rw [recC_app]; exact ho⟩
set_option maxHeartbeats 1000000 in
theorem Grow_nil (n : Nat) (hn : n ≤ 1000000) (w : World) :
    Calls Tryd.prog 31 #[.slice none 0 0, .int .i64 n] w fun e w' => ∃ A c, e = .returned (.slice A 0 c) ∧ Own w' w.heap.size (.slice A 0 c) 0 [] ∧ Below w.heap.size w w' := by
  obtain ⟨i0, hi, hz0, hz1, hz2⟩ := info_parts info_rec
  by_cases h0 : n = 0
  · subst h0
    go_enter Tryd.func31, Tryd.ntmps31
    go_wp2_with fail
    go_ret
    exact ⟨none, 0, rfl, Own.nil _ _, Below.refl _ _⟩
  · have hrz : ∀ ty, (Builtin.append_ #[22, 3] ty #[.slice none 0 0, .int .i64 n]).run Tryd.prog w = .ok (.slice (some ⟨w.heap.size, 0, none⟩) n (grownCap w n 0 35)) (w.drew.alloc (.cells (Builtin.zeroCells (Value.agg #[.string ⟨#[]⟩, .string ⟨#[]⟩]).cells n ++ Builtin.zeroCells (Value.agg #[.string ⟨#[]⟩, .string ⟨#[]⟩]).cells (grownCap w n 0 35 - n)) 35)) :=
      fun ty => Lib.run_append_nil_zeros w 22 3 ty 35 i0 _ .i64 .i64 Tryd.underlying22 Tryd.underlying3 hi hz0 n (by omega) (by omega) (by omega) (by rw [hz2]; omega)
    have hG1 : n ≤ grownCap w n 0 35 := grownCap_ge w _ _ _
    have hG2 : grownCap w n 0 35 ≤ maxLen := grownCap_le_maxLen w _ _ _ (by unfold maxLen; omega)
    obtain ⟨G, hG⟩ := hid_name (grownCap w n 0 35)
    rw [hG.out] at hG1 hG2
    simp only [hG.out] at hrz
    obtain ⟨Z, hZ⟩ := hid_name (Builtin.zeroCells (Value.agg #[.string ⟨#[]⟩, .string ⟨#[]⟩]).cells n ++ Builtin.zeroCells (Value.agg #[.string ⟨#[]⟩, .string ⟨#[]⟩]).cells (G - n))
    have hZs : Z.size = G * 2 := by
      rw [← hZ.out, Array.size_append, size_zeroCells, size_zeroCells]
      show n * 2 + (G - n) * 2 = G * 2
      omega
    simp only [hZ.out] at hrz
    have HO : Hid (Own (w.drew.alloc (.cells Z 35)) w.heap.size (.slice (some ⟨w.heap.size, 0, none⟩) 0 G) 0 []) :=
      ⟨rfl, rfl, .inr ⟨w.heap.size, G, Z, rfl, Nat.le_refl _, heap_alloc_new w.drew _, Nat.zero_le _, hG2, hZs, rfl⟩⟩
    have HB : Hid (Below w.heap.size w (w.drew.alloc (.cells Z 35))) := ((Below.refl w.heap.size w).drew).alloc (Nat.le_refl _) _
    have hG63 : G ≤ 9223372036854775807 := by unfold maxLen at hG2; omega
    clear hZs hG hZ
    go_enter Tryd.func31, Tryd.ntmps31
    go_wp2_with (at_builtin; refine Lib.wpList_append_run _ rfl _ _ _ _ rfl _ _ rfl rfl _ _ (hrz _) ?_)
    go_ret
    exact ⟨_, G, rfl, HO.out, HB.out⟩
set_option maxHeartbeats 2000000 in
theorem Concat_two (B1 : Nat) (v1 v2 : Value) (n1 n2 : Nat) (l1 l2 : List Rc) (hn1 : n1 ≤ 1000) (hn2 : n2 ≤ 1000) (g : Nat) (w : World) (hb : Blk w g 22 #[v1, v2]) (h1 : Own w B1 v1 n1 l1) (h2 : Own w B1 v2 n2 l2) :
    Calls Tryd.prog 16 #[.slice (some ⟨g, 0, none⟩) 2 2] w fun e w' => ∃ A n c, e = .returned (.slice A n c) ∧ Own w' w.heap.size (.slice A n c) n (l1 ++ l2) ∧ Below w.heap.size w w' := by
  obtain ⟨i0, hi, hz0, hz1, hz2⟩ := info_parts info_rec
  obtain ⟨A1, c1, rfl⟩ := h1.form
  obtain ⟨A2, c2, rfl⟩ := h2.form
  have H1 := Lib.hid h1
  have H2 := Lib.hid h2
  have HB := Lib.hid hb
  have HG := Lib.hid fun W => Grow_nil (n1 + n2) (by omega) W
  obtain ⟨⟨x0, x1⟩, -⟩ := blk2 hb
  clear h1 h2 hb
  go_enter Tryd.func16, Tryd.ntmps16
  go_wp2_with fail
  go_loop [3, 11] (fun sz i => (i = .int .i64 0 ∧ sz = .int .i64 0) ∨ (i = .int .i64 1 ∧ sz = .int .i64 n1) ∨ (i = .int .i64 2 ∧ sz = .int .i64 (n1 + n2 : Nat))) (fun _ i => 2 - (intOf i).toNat)
  case atStart => exact .inl ⟨rfl, rfl⟩
  case round =>
    rcases hrel with ⟨rfl, rfl⟩ | ⟨rfl, rfl⟩ | ⟨rfl, rfl⟩
    · go_wp2_with fail
      go_round
      case rel => exact .inr (.inl ⟨by go_num, by go_num⟩)
      case measure => simp [intOf]
    · go_wp2_with fail
      go_round
      case rel => exact .inr (.inr ⟨by go_num, by go_num⟩)
      case measure => simp [intOf]
    · go_wp2_with fail
      refine (HG.out _).mono ?_; rintro e w1 ⟨A, c, rfl, hO, hb⟩
      have HO0 := Lib.hid hO
      have HB0 := Lib.hid hb
      clear hO hb
      go_wp2_with fail
      go_loopw [6, 27] (fun v i wr => ∃ (n : Nat) (l : List Rc), Hid (Own wr w.heap.size v n l) ∧ Hid (Below w.heap.size w wr) ∧ ((i = .int .i64 0 ∧ n = 0 ∧ l = []) ∨ (i = .int .i64 1 ∧ n = n1 ∧ l = l1) ∨ (i = .int .i64 2 ∧ n = n1 + n2 ∧ l = l1 ++ l2))) (fun _ i _ => 2 - (intOf i).toNat)
      case atStart => exact ⟨0, [], HO0.out, HB0.out, .inl ⟨rfl, rfl, rfl⟩⟩
      case round =>
        obtain ⟨n, l, HO, HW, hc⟩ := hrel
        have hws : w.heap.size ≤ wr.heap.size := HW.out.size
        have hgl := HB.out.lt
        obtain ⟨⟨y0, y1⟩, -⟩ := blk2 (HB.out.below HW.out hgl)
        have HO1 := Lib.hid (H1.out.below HW.out)
        have HO2 := Lib.hid (H2.out.below HW.out)
        obtain ⟨A', c', rfl⟩ := HO.out.form
        clear x0 x1
        rcases hc with ⟨rfl, rfl, rfl⟩ | ⟨rfl, rfl, rfl⟩ | ⟨rfl, rfl, rfl⟩
        · rcases HO1.out.form2 with ⟨e, h0, hl⟩ | ⟨gx, cx, e, -, -⟩
          · have E := Lib.hid e
            have E0 := Lib.hid h0
            have EL := Lib.hid hl
            clear e h0 hl
            go_wp2_with (at_builtin; refine Stay.go ?_)
            refine Stay.on ?_
            refine wpList_append_own_none rfl (.tmp 31) (.tmp 32) 22 rfl w.heap.size 35 i0 2 Tryd.underlying22 hi (.slice A' 0 c') 0 _ rfl HO.out.2 (show Value.slice A1 n1 c1 = .slice none 0 0 from E.out) ?_
            go_wp2_with fail
            go_roundw
            case rel => exact ⟨_, _, HO.out, HW.out, .inr (.inl ⟨by go_num, E0.out.symm, EL.out.symm⟩)⟩
            case measure => simp [intOf]
          · injection e with e1 _ e3
            subst e1 e3
            go_wp2_with (at_builtin; refine Stay.go ?_)
            refine Stay.on ?_
            refine wpList_append_own _ rfl (.tmp 31) (.tmp 32) 22 rfl w.heap.size 35 i0 _ 2 32 Tryd.underlying22 hi hz0 hz1 hz2 rfl (by decide) (.slice A' 0 c') 0 _ rfl HO.out.2 ⟨gx, 0, none⟩ n1 c1 (recC l1) rfl (by rw [recC_length, HO1.out.1]) HO1.out.news (recC_cells _) (by unfold maxLen; omega) (by omega) hws ?_
            intro v6 w6 hown hgrow _
            have HO6 := Lib.hid (own_more HO.out.1 HO1.out.1 hown)
            have HW6 := Lib.hid (HW.out.grown hgrow hws HO.out.above)
            clear hown hgrow
            go_wp2_with fail
            go_roundw
            case rel => exact ⟨_, _, HO6.out, HW6.out, .inr (.inl ⟨by go_num, by omega, rfl⟩)⟩
            case measure => simp [intOf]
        · rcases HO2.out.form2 with ⟨e, h0, hl⟩ | ⟨gx, cx, e, -, -⟩
          · have E := Lib.hid e
            have E0 := Lib.hid h0
            have EL := Lib.hid hl
            clear e h0 hl
            go_wp2_with (at_builtin; refine Stay.go ?_)
            refine Stay.on ?_
            refine wpList_append_own_none rfl (.tmp 31) (.tmp 32) 22 rfl w.heap.size 35 i0 2 Tryd.underlying22 hi (.slice A' n c') n _ rfl HO.out.2 (show Value.slice A2 n2 c2 = .slice none 0 0 from E.out) ?_
            go_wp2_with fail
            go_roundw
            case rel => exact ⟨_, _, HO.out, HW.out, .inr (.inr ⟨by go_num, by have := E0.out; omega, by rw [EL.out, List.append_nil]⟩)⟩
            case measure => simp [intOf]
          · injection e with e1 _ e3
            subst e1 e3
            go_wp2_with (at_builtin; refine Stay.go ?_)
            refine Stay.on ?_
            refine wpList_append_own _ rfl (.tmp 31) (.tmp 32) 22 rfl w.heap.size 35 i0 _ 2 32 Tryd.underlying22 hi hz0 hz1 hz2 rfl (by decide) (.slice A' n c') n _ rfl HO.out.2 ⟨gx, 0, none⟩ n2 c2 (recC l2) rfl (by rw [recC_length, HO2.out.1]) HO2.out.news (recC_cells _) (by unfold maxLen; omega) (by omega) hws ?_
            intro v6 w6 hown hgrow _
            have HO6 := Lib.hid (own_more HO.out.1 HO2.out.1 hown)
            have HW6 := Lib.hid (HW.out.grown hgrow hws HO.out.above)
            clear hown hgrow
            go_wp2_with fail
            go_roundw
            case rel => exact ⟨_, _, HO6.out, HW6.out, .inr (.inr ⟨by go_num, rfl, rfl⟩)⟩
            case measure => simp [intOf]
        · go_wp2_with fail
          go_ret
          exact ⟨A', _, c', rfl, HO.out, HW.out⟩
end Go.Proofs.YtilofjaigpngoaaDoor
