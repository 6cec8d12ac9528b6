/- The reference's lines: LineOf, as a function of the member. (Stage 20, ahead.) -/
import Derived.Test.YtdcbmjihpjnbbaaDoorLinB
set_option linter.unusedVariables false
set_option maxRecDepth 100000
namespace Go.Proofs.YtdcbmjihpjnbbaaDoor
open Go.RowKit
open Go.OpenShut
/-- the date of a day's number -/
noncomputable def dateD (D : Int) : Int × Int × Int := @dite _ (∃ p : Int × Int × Int, okD p.1 p.2.1 p.2.2 ∧ dayN p.1 p.2.1 p.2.2 = D) (Classical.propDecidable _) (fun h => h.choose) (fun _ => (0, 0, 0))
theorem dateD_eq {y m d D : Int} (h : okD y m d) (e : dayN y m d = D) : dateD D = (y, m, d) := by
  have hx : ∃ p : Int × Int × Int, okD p.1 p.2.1 p.2.2 ∧ dayN p.1 p.2.1 p.2.2 = D := ⟨(y, m, d), h, e⟩
  unfold dateD
  rw [dif_pos hx]
  obtain ⟨a, b⟩ := hx.choose_spec
  obtain ⟨e1, e2, e3⟩ := date_one a h (b.trans e.symm)
  exact Prod.ext e1 (Prod.ext e2 e3)
/-- a member's line -/
noncomputable def lineX (x : EntV) : List UInt8 := lineM x (dateD (x.md.second / 86400)).1 (dateD (x.md.second / 86400)).2.1 (dateD (x.md.second / 86400)).2.2
/-- a member's line, or none -/
noncomputable def lineO (x : EntV) : List UInt8 := if entE x = 0 then lineX x else []
set_option maxHeartbeats 2000000 in
theorem rLine_any (x : EntV) (D : Option Addr) (c : Nat) (hx : x.sz) (w : World) (T : Tab w) :
    Calls Tryd.prog 12 #[.agg (entC x D c).toArray] w fun e w' => e = .returned (.tuple #[.string (bs (lineO x)), .int .i64 (entE x)]) ∧ Below w.heap.size w w' := by
  by_cases h0 : entE x = 0
  · refine (rLine_ok x D c hx h0 w T).mono ?_
    rintro e w' ⟨y, m, d, hok, hd, rfl, hb⟩
    have hl : lineO x = lineM x y m d := by
      unfold lineO lineX
      rw [if_pos h0, dateD_eq hok hd]
    rw [hl, h0]
    exact ⟨rfl, hb⟩
  · have H1 := Lib.hid fun W => rEnt_any x D c hx W
    have HV : Hid (lineO x = []) := if_neg h0
    have HBx := Lib.hid ((Below.refl w.heap.size w).alloc (Nat.le_refl _) (.cells (entC x D c).toArray 30))
    have HEx := Lib.hid (Blk.new w 30 (entC x D c).toArray)
    rw [HV.out]
    obtain ⟨E, HE⟩ := hid_name (entE x)
    rw [HE.out] at H1 h0 ⊢
    have hne : (E != 0) = true := by simpa using h0
    clear hx T h0
    obtain ⟨path, kind, target, ⟨m0, m1, m2, m3, m4, m5, m6⟩, data⟩ := x
    unfold entC at H1 HBx HEx ⊢
    simp only at H1 HBx HEx ⊢
    obtain ⟨dl, HDL⟩ := hid_name data.length
    rw [HDL.out] at H1 HBx HEx ⊢
    go_enter Tryd.func12, Tryd.ntmps12
    go_wp2_with fail
    refine (H1.out _).mono ?_; rintro e x1 ⟨rfl, hb⟩
    have HB1 := Lib.hid (HBx.out.trans (hb.mono HBx.out.size))
    clear hb H1 HBx HEx
    go_wp2_with fail
    refine bodyPost_ret (v := .tuple #[.string ⟨#[]⟩, .int .i64 E]) (by simp [results, Tryd.results12, go_sem, *]) rfl ?_
    exact ⟨rfl, HB1.out⟩
end Go.Proofs.YtdcbmjihpjnbbaaDoor
