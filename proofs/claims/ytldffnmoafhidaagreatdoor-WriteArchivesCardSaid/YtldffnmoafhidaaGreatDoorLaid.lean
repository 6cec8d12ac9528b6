/- What a row that lists package variables gives a walk: the table of powers of ten, the two errors of package strconv. -/
import Derived.Test.YtldffnmoafhidaaGreatDoorStpC
import Derived.RowKitTokens
import Derived.MakeChecks
set_option linter.unusedVariables false
set_option maxRecDepth 100000
namespace Go.Proofs.YtldffnmoafhidaaGreatDoor
open Go.RowKit Go.ChangeShapes
theorem laid_mem {P : Program} {l : List (String × DataW Unit)} {w : World} {x : String × DataW Unit} (h : laidMet P l w) (hm : x ∈ l) : ∃ r, laidMet P (x :: r) w := by
  induction l with
  | nil => cases hm
  | cons y l ih =>
    rcases List.mem_cons.1 hm with rfl | hm
    · exact ⟨l, h⟩
    · exact ih h.tail hm
theorem pow_laid : (Rows.laid_internal_strconv_uint64pow10 : DataW Unit) = Lib.tabData .u64 Lib.pow10Tab := by kernel_rfl
theorem tab_of_laid {l : List (String × DataW Unit)} {w : World} (h : laidMetH Tryz.prog l w) (hp : (l.all fun x => x.2.handleName?.isNone) = true) (hm : ("internal/strconv.uint64pow10", Rows.laid_internal_strconv_uint64pow10) ∈ l) : Tab w := by
  rw [MakeChecks.laidMetH_plain _ _ _ hp] at h
  obtain ⟨r, hr⟩ := laid_mem h hm
  rw [pow_laid] at hr
  exact Lib.tabIs_of_head gPow_is (by kernel_rfl) Tryz.underlying275 Tryz.underlying190 (by kernel_rfl) (by kernel_rfl) hr
theorem star_ES : "*" ++ "errors.errorString" = "*errors.errorString" := by decide
theorem row_ES (u : TypeId) (h : Tryz.prog.typeName? 3 u = some "*errors.errorString") : u = 271 :=
  typeName_ptr_named (nm := "errors.errorString") (by rw [star_ES]; kernel_rfl) (by kernel_rfl) (by decide) u (by rw [star_ES]; exact h)
theorem std_of_laid {l : List (String × DataW Unit)} {w : World} (h : laidMetH Tryz.prog l w) (hp : (l.all fun x => x.2.handleName?.isNone) = true)
    (hm : ("internal/strconv.uint64pow10", Rows.laid_internal_strconv_uint64pow10) ∈ l) (hs : ("strconv.ErrSyntax", Rows.laid_strconv_ErrSyntax) ∈ l) (hr : ("strconv.ErrRange", Rows.laid_strconv_ErrRange) ∈ l) : Std w := by
  refine ⟨tab_of_laid h hp hm, ?_, ?_⟩
  · rw [MakeChecks.laidMetH_plain _ _ _ hp] at h
    obtain ⟨r, hr⟩ := laid_mem h hs
    obtain ⟨a0, s0, hv0, -, -, -⟩ := laid_sentinel hr (show Tryz.prog.globalNamed "strconv.ErrSyntax" = some 0 by kernel_rfl) (by kernel_rfl) Tryz.underlying74 row_ES Tryz.underlying271 Tryz.underlying273 rfl rfl Tryz.underlying9 (by kernel_rfl) (by kernel_rfl)
    exact ⟨_, _, by have h0 := World.var?_cell (show Tryz.prog.globalNamed "strconv.ErrSyntax" = some 0 by kernel_rfl) hv0 0; simpa using h0⟩
  · rw [MakeChecks.laidMetH_plain _ _ _ hp] at h
    obtain ⟨r, hr⟩ := laid_mem h hr
    obtain ⟨a0, s0, hv0, -, -, -⟩ := laid_sentinel hr (show Tryz.prog.globalNamed "strconv.ErrRange" = some 1 by kernel_rfl) (by kernel_rfl) Tryz.underlying74 row_ES Tryz.underlying271 Tryz.underlying273 rfl rfl Tryz.underlying9 (by kernel_rfl) (by kernel_rfl)
    exact ⟨_, _, by have h0 := World.var?_cell (show Tryz.prog.globalNamed "strconv.ErrRange" = some 1 by kernel_rfl) hv0 0; simpa using h0⟩
end Go.Proofs.YtldffnmoafhidaaGreatDoor
