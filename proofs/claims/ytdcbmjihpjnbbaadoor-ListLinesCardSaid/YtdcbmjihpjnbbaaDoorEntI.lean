/- The reference's tree of members. -/
import Derived.Test.YtdcbmjihpjnbbaaDoorEna
import Derived.Test.YtdcbmjihpjnbbaaDoorEntG
import Derived.Test.YtdcbmjihpjnbbaaDoorTrgF
set_option linter.unusedVariables false
set_option maxRecDepth 100000
namespace Go.Proofs.YtdcbmjihpjnbbaaDoor
open Go.RowKit
open Go.OpenShut
def anyE (l : List EntV) (p : List UInt8) : Bool := l.any fun y => decide (y.kind = 4) && decide (y.target = p)
/-- the number of a file that links aim at -/
def smE (l : List EntV) (i : Nat) (x : EntV) : Int := if x.kind = 1 ∧ anyE l x.path = true then (i : Int) + 1 else 0
theorem EntV.sz.grow {l : List EntV} (h : ∀ x ∈ l, x.sz) {i : Nat} (hi : i < l.length) : (growE l i l[i]).sz := by
  have hx := h _ (List.getElem_mem hi)
  unfold growE
  by_cases hk : l[i].kind = 4
  · rw [if_pos hk]
    refine ⟨⟨hx.1.1, Nat.zero_le _, ?_⟩, hx.2⟩
    simp only
    cases hd : l[findE l l[i].target]? with
    | none => exact Nat.zero_le _
    | some y => exact (h y (List.mem_of_getElem? hd)).1.2.2
  · rw [if_neg hk]
    exact ⟨⟨hx.1.1, hx.1.2.1, hx.1.2.2⟩, hx.2⟩
/-- what Tree makes of members -/
def growT (l : List EntV) : List NodeV := if entsE l = 0 then growL l else []
end Go.Proofs.YtdcbmjihpjnbbaaDoor
