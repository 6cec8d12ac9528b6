/- What a row that lists package variables gives a walk: the table of powers of ten, the two errors of package strconv. -/
import Derived.Test.YtdcbmjihpjnbbaaDoorStpC
import Derived.RowKitTokens
import Derived.MakeChecks
set_option linter.unusedVariables false
set_option maxRecDepth 100000
namespace Go.Proofs.YtdcbmjihpjnbbaaDoor
open Go.RowKit Go.ChangeShapes
theorem laid_mem {P : Program} {l : List (String × DataW Unit)} {w : World} {x : String × DataW Unit} (h : laidMet P l w) (hm : x ∈ l) : ∃ r, laidMet P (x :: r) w := by
  induction l with
  | nil => cases hm
  | cons y l ih =>
    rcases List.mem_cons.1 hm with rfl | hm
    · exact ⟨l, h⟩
    · exact ih h.tail hm
theorem pow_laid : (Rows.laid_internal_strconv_uint64pow10 : DataW Unit) = Lib.tabData .u64 Lib.pow10Tab := by kernel_rfl
theorem tab_of_laid {l : List (String × DataW Unit)} {w : World} (h : laidMetH Tryd.prog l w) (hp : (l.all fun x => x.2.handleName?.isNone) = true) (hm : ("internal/strconv.uint64pow10", Rows.laid_internal_strconv_uint64pow10) ∈ l) : Tab w := by
  rw [MakeChecks.laidMetH_plain _ _ _ hp] at h
  obtain ⟨r, hr⟩ := laid_mem h hm
  rw [pow_laid] at hr
  exact Lib.tabIs_of_head gPow_is (by kernel_rfl) Tryd.underlying115 Tryd.underlying98 (by kernel_rfl) (by kernel_rfl) hr
end Go.Proofs.YtdcbmjihpjnbbaaDoor
