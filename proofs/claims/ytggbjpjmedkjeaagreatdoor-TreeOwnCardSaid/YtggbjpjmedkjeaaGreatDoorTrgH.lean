/- tree.Put: its parts joined. -/
import Derived.Test.YtggbjpjmedkjeaaGreatDoorTrgG
import Derived.Lib.AppendZeros
set_option linter.unusedVariables false
set_option maxRecDepth 100000
namespace Go.Proofs.YtggbjpjmedkjeaaGreatDoor
open Go.RowKit
open Go.OpenShut
theorem CellsN.below {w w' : World} {A : Option Addr} {ys : List NodP} (h : CellsN w A ys) (hb : Below w.heap.size w w') : CellsN w' A ys := fun ad ha j u hu => by
  have h1 := h ad ha j u hu
  exact (hb.cell (World.block_lt_of_cell? w _ h1)).trans h1
theorem RowN.grow0 {w : World} {B : Nat} {v : Value} (h : RowN w B v []) : ∃ A c, v = .slice A 0 c := by
  obtain ⟨A, c, e, -⟩ := h.form
  exact ⟨A, c, e⟩
set_option maxHeartbeats 1000000 in
theorem nGrow_nil (n : Nat) (hn : n ≤ 1000000) (w : World) :
    Calls Tryz.prog 66 #[.slice none 0 0, .int .i64 n] w fun e w' => ∃ v, e = .returned v ∧ RowN w' w.heap.size v [] ∧ Below w.heap.size w w' := by
  obtain ⟨i0, hi, hz0, hz1, hz2⟩ := info_parts zinfo
  by_cases h0 : n = 0
  · subst h0
    go_enter Tryz.func66, Tryz.ntmps66
    go_wp2_with fail
    go_ret
    exact ⟨_, rfl, RowN.nil _ _, Below.refl _ _⟩
  · have hrz : ∀ ty, (Builtin.append_ #[23, 3] ty #[.slice none 0 0, .int .i64 n]).run Tryz.prog w = .ok (.slice (some ⟨w.heap.size, 0, none⟩) n (grownCap w n 0 32)) (w.drew.alloc (.cells (Builtin.zeroCells (Value.agg zeroN).cells n ++ Builtin.zeroCells (Value.agg zeroN).cells (grownCap w n 0 32 - n)) 32)) :=
      fun ty => Lib.run_append_nil_zeros w 23 3 ty 32 i0 _ .i64 .i64 Tryz.underlying23 Tryz.underlying3 hi hz0 n (by omega) (by omega) (by omega) (by rw [hz2]; omega)
    have hG1 : n ≤ grownCap w n 0 32 := grownCap_ge w _ _ _
    have hG2 : grownCap w n 0 32 ≤ maxLen := grownCap_le_maxLen w _ _ _ (by unfold maxLen; omega)
    obtain ⟨G, hG⟩ := hid_name (grownCap w n 0 32)
    rw [hG.out] at hG1 hG2
    simp only [hG.out] at hrz
    obtain ⟨Z, hZ⟩ := hid_name (Builtin.zeroCells (Value.agg zeroN).cells n ++ Builtin.zeroCells (Value.agg zeroN).cells (G - n))
    have hZs : Z.size = G * 12 := by
      rw [← hZ.out, Array.size_append, size_zeroCells, size_zeroCells]
      show n * 12 + (G - n) * 12 = G * 12
      omega
    simp only [hZ.out] at hrz
    have HO : Hid (RowN (w.drew.alloc (.cells Z 32)) w.heap.size (.slice (some ⟨w.heap.size, 0, none⟩) 0 G) []) :=
      ⟨rfl, .inr ⟨w.heap.size, G, Z, rfl, Nat.le_refl _, heap_alloc_new w.drew _, Nat.zero_le _, hG2, hZs, rfl⟩⟩
    have HB : Hid (Below w.heap.size w (w.drew.alloc (.cells Z 32))) := ((Below.refl w.heap.size w).drew).alloc (Nat.le_refl _) _
    have hG63 : G ≤ 9223372036854775807 := by unfold maxLen at hG2; omega
    clear hZs hG hZ
    go_enter Tryz.func66, Tryz.ntmps66
    go_wp2_with (at_builtin; refine Lib.wpList_append_run _ rfl _ _ _ _ rfl _ _ rfl rfl _ _ (hrz _) ?_)
    go_ret
    exact ⟨_, rfl, HO.out, HB.out⟩
theorem blk3 {w : World} {g t : Nat} {a0 a1 a2 : Value} (h : Blk w g t #[a0, a1, a2]) : w.cell? ⟨g, 0, none⟩ = some a0 ∧ w.cell? ⟨g, 1, none⟩ = some a1 ∧ w.cell? ⟨g, 2, none⟩ = some a2 := ⟨h.cell 0, h.cell 1, h.cell 2⟩
set_option maxHeartbeats 4000000 in
theorem Concat_three (A1 A2 A3 : Option Addr) (n1 n2 n3 c1 c2 c3 : Nat) (ys1 ys2 ys3 : List NodP) (hn1 : ys1.length = n1) (hn2 : ys2.length = n2) (hn3 : ys3.length = n3) (hbig : n1 + n2 + n3 ≤ 1000) (hc1 : A1 = none → c1 = 0 ∧ n1 = 0) (hc2 : A2 = none → c2 = 0 ∧ n2 = 0) (hc3 : A3 = none → c3 = 0 ∧ n3 = 0)
    (ho1 : ∀ y ∈ ys1, y.2.oneCell' = true) (ho2 : ∀ y ∈ ys2, y.2.oneCell' = true) (ho3 : ∀ y ∈ ys3, y.2.oneCell' = true) (g : Nat) (w : World) (hb : Blk w g 23 #[.slice A1 n1 c1, .slice A2 n2 c2, .slice A3 n3 c3]) (h1 : CellsN w A1 ys1) (h2 : CellsN w A2 ys2) (h3 : CellsN w A3 ys3) :
    Calls Tryz.prog 39 #[.slice (some ⟨g, 0, none⟩) 3 3] w fun e w' => ∃ v, e = .returned v ∧ RowN w' w.heap.size v (ys1 ++ ys2 ++ ys3) ∧ Below w.heap.size w w' := by
  have M1 := Lib.hid hn1
  have M2 := Lib.hid hn2
  have M3 := Lib.hid hn3
  have H1 := Lib.hid h1
  have H2 := Lib.hid h2
  have H3 := Lib.hid h3
  have O1 := Lib.hid hc1
  have O2 := Lib.hid hc2
  have O3 := Lib.hid hc3
  have K1 := Lib.hid ho1
  have K2 := Lib.hid ho2
  have K3 := Lib.hid ho3
  have HB := Lib.hid hb
  have HG := Lib.hid fun W => nGrow_nil (n1 + n2 + n3) (by omega) W
  obtain ⟨x0, x1, x2⟩ := blk3 hb
  have k1 : n1 ≤ 1000 := by omega
  have k2 : n2 ≤ 1000 := by omega
  have k3 : n3 ≤ 1000 := by omega
  clear h1 h2 h3 hb hn1 hn2 hn3 hc1 hc2 hc3 ho1 ho2 ho3
  go_enter Tryz.func39, Tryz.ntmps39
  go_wp2_with fail
  go_loop [3, 11] (fun sz i => (i = .int .i64 0 ∧ sz = .int .i64 0) ∨ (i = .int .i64 1 ∧ sz = .int .i64 n1) ∨ (i = .int .i64 2 ∧ sz = .int .i64 (n1 + n2 : Nat)) ∨ (i = .int .i64 3 ∧ sz = .int .i64 (n1 + n2 + n3 : Nat))) (fun _ i => 3 - (intOf i).toNat)
  case atStart => exact .inl ⟨rfl, rfl⟩
  case round =>
    rcases hrel with ⟨rfl, rfl⟩ | ⟨rfl, rfl⟩ | ⟨rfl, rfl⟩ | ⟨rfl, rfl⟩
    · go_wp2_with fail
      go_round
      case rel => exact .inr (.inl ⟨by go_num, by go_num⟩)
      case measure => simp [intOf]
    · go_wp2_with fail
      go_round
      case rel => exact .inr (.inr (.inl ⟨by go_num, by go_num⟩))
      case measure => simp [intOf]
    · go_wp2_with fail
      go_round
      case rel => exact .inr (.inr (.inr ⟨by go_num, by go_num⟩))
      case measure => simp [intOf]
    · go_wp2_with fail
      refine (HG.out _).mono ?_; rintro e w1 ⟨v, rfl, hO, hb⟩
      have HO0 := Lib.hid hO
      have HB0 := Lib.hid hb
      clear hO hb
      go_wp2_with fail
      go_loopw [6, 27] (fun v i wr => ∃ (l : List NodP), Hid (RowN wr w.heap.size v l) ∧ Hid (Below w.heap.size w wr) ∧ ((i = .int .i64 0 ∧ l = []) ∨ (i = .int .i64 1 ∧ l = ys1) ∨ (i = .int .i64 2 ∧ l = ys1 ++ ys2) ∨ (i = .int .i64 3 ∧ l = ys1 ++ ys2 ++ ys3))) (fun _ i _ => 3 - (intOf i).toNat)
      case atStart => exact ⟨[], HO0.out, HB0.out, .inl ⟨rfl, rfl⟩⟩
      case round =>
        obtain ⟨l, HO, HW, hc⟩ := hrel
        have hws : w.heap.size ≤ wr.heap.size := HW.out.size
        have hgl := HB.out.lt
        obtain ⟨y0, y1, y2⟩ := blk3 (HB.out.below HW.out hgl)
        have HA1 := Lib.hid (H1.out.below HW.out)
        have HA2 := Lib.hid (H2.out.below HW.out)
        have HA3 := Lib.hid (H3.out.below HW.out)
        clear x0 x1 x2
        rcases hc with ⟨rfl, hl⟩ | ⟨rfl, hl⟩ | ⟨rfl, hl⟩ | ⟨rfl, hl⟩
        all_goals (rw [hl] at HO; clear hl)
        · go_wp2_with (at_builtin; refine Stay.go ?_)
          refine Stay.on ?_
          refine append_nodes rfl (.tmp 31) (.tmp 32) rfl w.heap.size _ _ rfl HO.out A1 n1 c1 ys1 rfl M1.out HA1.out K1.out O1.out (by simp; omega) hws ?_
          intro v6 w6 ho6 hg6
          have HO6 : Hid (RowN w6 w.heap.size v6 (ys1)) := ho6
          have HW6 : Hid (Below w.heap.size w w6) := HW.out.grown hg6 hws HO.out.above
          clear ho6 hg6
          go_wp2_with fail
          go_roundw
          case rel => exact ⟨_, HO6.out, HW6.out, .inr (.inl ⟨by go_num, rfl⟩)⟩
          case measure => simp [intOf]
        · go_wp2_with (at_builtin; refine Stay.go ?_)
          refine Stay.on ?_
          refine append_nodes rfl (.tmp 31) (.tmp 32) rfl w.heap.size _ _ rfl HO.out A2 n2 c2 ys2 rfl M2.out HA2.out K2.out O2.out (by rw [M1.out]; omega) hws ?_
          intro v6 w6 ho6 hg6
          have HO6 : Hid (RowN w6 w.heap.size v6 (ys1 ++ ys2)) := ho6
          have HW6 : Hid (Below w.heap.size w w6) := HW.out.grown hg6 hws HO.out.above
          clear ho6 hg6
          go_wp2_with fail
          go_roundw
          case rel => exact ⟨_, HO6.out, HW6.out, .inr (.inr (.inl ⟨by go_num, rfl⟩))⟩
          case measure => simp [intOf]
        · go_wp2_with (at_builtin; refine Stay.go ?_)
          refine Stay.on ?_
          refine append_nodes rfl (.tmp 31) (.tmp 32) rfl w.heap.size _ _ rfl HO.out A3 n3 c3 ys3 rfl M3.out HA3.out K3.out O3.out (by rw [List.length_append, M1.out, M2.out]; omega) hws ?_
          intro v6 w6 ho6 hg6
          have HO6 : Hid (RowN w6 w.heap.size v6 (ys1 ++ ys2 ++ ys3)) := ho6
          have HW6 : Hid (Below w.heap.size w w6) := HW.out.grown hg6 hws HO.out.above
          clear ho6 hg6
          go_wp2_with fail
          go_roundw
          case rel => exact ⟨_, HO6.out, HW6.out, .inr (.inr (.inr ⟨by go_num, rfl⟩))⟩
          case measure => simp [intOf]
        · go_wp2_with fail
          go_ret
          exact ⟨_, rfl, HO.out, HW.out⟩
end Go.Proofs.YtggbjpjmedkjeaaGreatDoor
