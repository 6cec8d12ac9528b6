/- creelkeep.SameEntry; creelkeep.written: what every law on members asks first. -/
import Derived.Test.YtldffnmoafhidaaGreatDoorEna
import Derived.Test.YtldffnmoafhidaaGreatDoorMcv
import Derived.Test.YtldffnmoafhidaaGreatDoorMth
set_option linter.unusedVariables false
set_option maxRecDepth 100000
namespace Go.Proofs.YtldffnmoafhidaaGreatDoor
open Go.RowKit
open Go.OpenShut
set_option maxHeartbeats 4000000 in
theorem keepEnt_any (x y : EntV) (D E : Option Addr) (c d : Nat) (w : World) (hD : BytsAt w D x.data) (hE : BytsAt w E y.data) : Calls Tryz.prog 15 #[.agg (entC x D c).toArray, .agg (entC y E d).toArray] w fun e w' => e = .returned (.bool (decide (x = y))) ∧ Below w.heap.size w w' := by
  have hq := meta_eql x.md y.md
  have hx : decide (x = y) = (decide (x.path = y.path) && (decide (x.kind = y.kind) && (decide (x.target = y.target) && (metB x.md y.md && decide (x.data = y.data))))) := by
    rw [Bool.eq_iff_iff, decide_eq_true_eq, ← EntV.ext_iff']
    unfold metB
    simp only [Bool.and_eq_true, decide_eq_true_eq]
  have q1 := bs_eq (a := x.path) (b := y.path)
  have q4 := bs_eq (a := x.target) (b := y.target)
  have q6 := bs_eq (a := x.data) (b := y.data)
  have hw2 : ∀ o o', Below w.heap.size w ((w.alloc o).alloc o') := fun o o' => belowA (belowA (Below.refl _ _) o) o'
  have HW2 := Lib.hid hw2
  have k1 := fun o o' => (hD.below (hw2 o o')).conv c (fun e => by subst e; exact hD.none_nil)
  have k2 := fun o o' => (hE.below (hw2 o o')).conv d (fun e => by subst e; exact hE.none_nil)
  obtain ⟨xp, xk, xt, ⟨x0, x1, x2, x3, x4, x5, x6⟩, xd⟩ := x
  obtain ⟨yp, yk, yt, ⟨y0, y1, y2, y3, y4, y5, y6⟩, yd⟩ := y
  simp only at hq hx q1 q4 q6 k1 k2
  generalize metB _ _ = mb at hq hx
  rw [hx]
  unfold entC
  unfold metA at hq
  simp only at hq ⊢
  obtain ⟨P, hP⟩ := hid_name (bs xp)
  obtain ⟨Q, hQ⟩ := hid_name (bs yp)
  obtain ⟨T, hT⟩ := hid_name (bs xt)
  obtain ⟨U, hU⟩ := hid_name (bs yt)
  obtain ⟨M, hM⟩ := hid_name (bs xd)
  obtain ⟨N, hN⟩ := hid_name (bs yd)
  rw [hP.out, hQ.out] at q1
  rw [hT.out, hU.out] at q4
  rw [hM.out, hN.out] at q6
  simp only [hM.out] at k1
  simp only [hN.out] at k2
  rw [hP.out, hQ.out, hT.out, hU.out]
  generalize decide (xd = yd) = db at q6 ⊢
  generalize xd.length = L at k1 ⊢
  generalize yd.length = L2 at k2 ⊢
  clear hx hw2 hD hE hP hQ hT hU hM hN
  by_cases e1 : xp = yp
  · rw [decide_eq_true e1] at q1 ⊢
    clear e1
    by_cases e2 : xk = yk
    · subst e2
      by_cases e4 : xt = yt
      · rw [decide_eq_true e4] at q4 ⊢
        clear e4
        cases mb
        · simp only [decide_true, Bool.true_and, Bool.false_and]
          clear k1 k2 q6
          go_enter Tryz.func15, Tryz.ntmps15
          go_wp2_with fail
          go_ret
          exact ⟨rfl, HW2.out _ _⟩
        · simp only [decide_true, Bool.true_and]
          have Q6 := Lib.hid q6
          clear q6
          go_enter Tryz.func15, Tryz.ntmps15
          go_wp2_with fail
          go_ret
          exact ⟨ret_bool Q6.out, HW2.out _ _⟩
      · rw [decide_eq_false e4] at q4 ⊢
        simp only [decide_true, Bool.true_and, Bool.false_and]
        clear e4 k1 k2 q6
        go_enter Tryz.func15, Tryz.ntmps15
        go_wp2_with fail
        go_ret
        exact ⟨rfl, HW2.out _ _⟩
    · rw [decide_eq_false e2]
      simp only [Bool.true_and, Bool.false_and]
      have e2b : (xk == yk) = false := by simpa using e2
      clear e2 k1 k2 q6
      go_enter Tryz.func15, Tryz.ntmps15
      go_wp2_with fail
      go_ret
      exact ⟨rfl, HW2.out _ _⟩
  · rw [decide_eq_false e1] at q1 ⊢
    simp only [Bool.false_and]
    clear e1 k1 k2 q6
    go_enter Tryz.func15, Tryz.ntmps15
    go_wp2_with fail
    go_ret
    exact ⟨rfl, HW2.out _ _⟩
def oneX : EntV := ⟨[97], 1, [], ⟨0, 0, 0, [], [], 0, 0⟩, [120]⟩
theorem oneX_good : entE oneX = 0 := by decide +kernel
theorem oneX_recs : recsM oneX = [] := by decide +kernel
theorem oneX_len : (bytesM oneX).length = 1024 := by rw [bytesM_len oneX_good, if_pos oneX_recs]; rfl
theorem oneX_0 : (bytesM oneX)[0]? = some 97 := by decide +kernel
theorem oneX_512 : (bytesM oneX)[512]? = some 120 := by decide +kernel
set_option maxHeartbeats 4000000 in
theorem written_any (w : World) (T : Tab w) : Calls Tryz.prog 14 #[] w fun e w' => e = .returned (.bool true) ∧ Below w.heap.size w w' := by
  have HB0 := Lib.hid ((Below.refl w.heap.size w).alloc (Nat.le_refl _) (.cells #[.int .u8 120] 5 (1, 2)))
  have hcell := Go.Joins.cell_alloc_mark_at w #[.int .u8 120] 5 (1, 2) w.heap.size 0 rfl
  have hcv := Go.Joins.run_convert_bytes_const_at (P := Tryz.prog) w 22 5 #[.int .u8 120] 1 1 w.heap.size rfl Tryz.underlying22 Tryz.underlying5
  have hD : BytsAt (w.alloc (.cells #[.int .u8 120] 5 (1, 2))) (some ⟨w.heap.size, 0, none⟩) oneX.data := fun j hj => by
    obtain rfl : j = 0 := by
      have : j < 1 := hj
      omega
    exact ⟨_, _, rfl, hcell⟩
  have HW := Lib.hid (mWrite_any oneX (some ⟨w.heap.size, 0, none⟩) 1 ⟨⟨by decide, by decide, by decide⟩, by decide, by decide⟩ _ (T.below HB0.out) hD ⟨Nat.le_refl _, by decide, fun e => by cases e⟩)
  rw [oneX_good] at HW
  have hbo : bytO oneX = bytesM oneX := if_pos oneX_good
  rw [hbo, oneX_len] at HW
  have h0 := oneX_0
  have h5 := oneX_512
  have hl := oneX_len
  generalize bytesM oneX = BM at HW h0 h5 hl
  have HW2 : Hid (Calls Tryz.prog 30 #[.agg #[.string ⟨#[97]⟩, .int .i64 1, .string ⟨#[]⟩, .int .i64 0, .int .i64 0, .int .i64 0, .string ⟨#[]⟩, .string ⟨#[]⟩, .int .i64 0, .int .i64 0, .slice (some ⟨w.heap.size, 0, none⟩) 1 1]] (w.alloc (.cells #[.int .u8 120] 5 (1, 2))) fun e w' => ∃ A n cc, e = .returned (.tuple #[.slice A n cc, .int .i64 0]) ∧ SlOk A n cc ∧ (1024 : Nat) = n ∧ BytsAt w' A BM ∧ Below (w.alloc (.cells #[.int .u8 120] 5 (1, 2))).heap.size (w.alloc (.cells #[.int .u8 120] 5 (1, 2))) w') := HW.out
  clear HW hD hcell hbo
  go_enter Tryz.func14, Tryz.ntmps14
  go_wp2_with fail
  refine HW2.out.mono ?_; rintro e w2 ⟨A, n, cc, rfl, hsl, rfl, hA, hb⟩
  have HB2 := Lib.hid (HB0.out.trans (hb.mono HB0.out.size))
  obtain ⟨b, o, rfl, c0⟩ := hA 0 (by omega)
  obtain ⟨b', o', e', c5⟩ := hA 512 (by omega)
  injection e' with e'
  injection e' with e1 e2
  subst e1 e2
  rw [Nat.add_zero] at c0
  rw [List.getElem?_eq_getElem (by omega)] at h0 h5
  injection h0 with h0
  injection h5 with h5
  rw [h0] at c0
  rw [h5] at c5
  have d0 : w2.cell? ⟨b, o, none⟩ = some (.int .u8 97) := c0
  have d5 : w2.cell? ⟨b, o + 512, none⟩ = some (.int .u8 120) := c5
  clear hA hb hsl c0 c5 h0 h5
  go_wp2_with fail
  go_ret
  exact ⟨rfl, HB2.out⟩
end Go.Proofs.YtldffnmoafhidaaGreatDoor
