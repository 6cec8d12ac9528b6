/- creelkeep.SameEntry; creelkeep.written: what every law on members asks first. -/
import Derived.Test.YtmejnabngfpbeaaGreatDoorEna
import Derived.Test.YtmejnabngfpbeaaGreatDoorMcv
import Derived.Test.YtmejnabngfpbeaaGreatDoorMth
set_option linter.unusedVariables false
set_option maxRecDepth 100000
namespace Go.Proofs.YtmejnabngfpbeaaGreatDoor
open Go.RowKit
open Go.OpenShut
set_option maxHeartbeats 4000000 in
theorem keepEnt_any (x y : EntV) (D E : Option Addr) (c d : Nat) (w : World) (hD : BytsAt w D x.data) (hE : BytsAt w E y.data) : Calls Tryz.prog 21 #[.agg (entC x D c).toArray, .agg (entC y E d).toArray] w fun e w' => e = .returned (.bool (decide (x = y))) ∧ Below w.heap.size w w' := by
 have hq := meta_eql x.md y.md
 have hx : decide (x = y) = (decide (x.path = y.path) && (decide (x.kind = y.kind) && (decide (x.target = y.target) && (metB x.md y.md && decide (x.data = y.data))))) := by
  rw [Bool.eq_iff_iff, decide_eq_true_eq, ← EntV.ext_iff']
  unfold metB
  simp only [Bool.and_eq_true, decide_eq_true_eq]
 have q1 := bs_eq (a := x.path) (b := y.path)
 have q4 := bs_eq (a := x.target) (b := y.target)
 have q6 := bs_eq (a := x.data) (b := y.data)
 have hw2 : ∀ o o', Below w.heap.size w ((w.alloc o).alloc o') := fun o o' => belowA (belowA (Below.refl _ _) o) o'
 have HW2 := Lib.hid hw2
 have k1 := fun o o' => (hD.below (hw2 o o')).conv c (fun e => by subst e; exact hD.none_nil)
 have k2 := fun o o' => (hE.below (hw2 o o')).conv d (fun e => by subst e; exact hE.none_nil)
 obtain ⟨xp, xk, xt, ⟨x0, x1, x2, x3, x4, x5, x6⟩, xd⟩ := x
 obtain ⟨yp, yk, yt, ⟨y0, y1, y2, y3, y4, y5, y6⟩, yd⟩ := y
 simp only at hq hx q1 q4 q6 k1 k2
 generalize metB _ _ = mb at hq hx
 rw [hx]
 unfold entC
 unfold metA at hq
 simp only at hq ⊢
 obtain ⟨P, hP⟩ := hid_name (bs xp)
 obtain ⟨Q, hQ⟩ := hid_name (bs yp)
 obtain ⟨T, hT⟩ := hid_name (bs xt)
 obtain ⟨U, hU⟩ := hid_name (bs yt)
 obtain ⟨M, hM⟩ := hid_name (bs xd)
 obtain ⟨N, hN⟩ := hid_name (bs yd)
 rw [hP.out, hQ.out] at q1
 rw [hT.out, hU.out] at q4
 rw [hM.out, hN.out] at q6
 simp only [hM.out] at k1
 simp only [hN.out] at k2
 rw [hP.out, hQ.out, hT.out, hU.out]
 generalize decide (xd = yd) = db at q6 ⊢
 generalize xd.length = L at k1 ⊢
 generalize yd.length = L2 at k2 ⊢
 clear hx hw2 hD hE hP hQ hT hU hM hN
 by_cases e1 : xp = yp
 ·rw [decide_eq_true e1] at q1 ⊢
  clear e1
  by_cases e2 : xk = yk
  ·subst e2
   by_cases e4 : xt = yt
   ·rw [decide_eq_true e4] at q4 ⊢
    clear e4
    cases mb
    ·simp only [decide_true, Bool.true_and, Bool.false_and]
     clear k1 k2 q6
     go_enter Tryz.func21, Tryz.ntmps21
     go_wp2_with fail
     go_ret
     exact ⟨rfl, HW2.out _ _⟩
    ·simp only [decide_true, Bool.true_and]
     have Q6 := Lib.hid q6
     clear q6
     go_enter Tryz.func21, Tryz.ntmps21
     go_wp2_with fail
     go_ret
     exact ⟨ret_bool Q6.out, HW2.out _ _⟩
   ·rw [decide_eq_false e4] at q4 ⊢
    simp only [decide_true, Bool.true_and, Bool.false_and]
    clear e4 k1 k2 q6
    go_enter Tryz.func21, Tryz.ntmps21
    go_wp2_with fail
    go_ret
    exact ⟨rfl, HW2.out _ _⟩
  ·rw [decide_eq_false e2]
   simp only [Bool.true_and, Bool.false_and]
   have e2b : (xk == yk) = false := by simpa using e2
   clear e2 k1 k2 q6
   go_enter Tryz.func21, Tryz.ntmps21
   go_wp2_with fail
   go_ret
   exact ⟨rfl, HW2.out _ _⟩
 ·rw [decide_eq_false e1] at q1 ⊢
  simp only [Bool.false_and]
  clear e1 k1 k2 q6
  go_enter Tryz.func21, Tryz.ntmps21
  go_wp2_with fail
  go_ret
  exact ⟨rfl, HW2.out _ _⟩
def oneX : EntV := ⟨[97], 1, [], ⟨0, 0, 0, [], [], 0, 0⟩, [120]⟩
end Go.Proofs.YtmejnabngfpbeaaGreatDoor
