/- Package pax: Check; the reference's. -/
import Derived.Test.YtepjdiocicmjcaaDoorPaxA
import Derived.Test.YtepjdiocicmjcaaDoorRca
import Derived.BigQuiet
set_option linter.unusedVariables false
set_option maxRecDepth 100000
namespace Go.Proofs.YtepjdiocicmjcaaDoor
open Go.RowKit
open Go.OpenShut
/-- the key ahead of a place -/
def lastK (l : List Rc) : Nat → List UInt8
  | 0 => []
  | k + 1 => (l[k]?.map (·.1)).getD []
theorem lastK_of {l : List Rc} {k : Nat} {x : Rc} {t : List Rc} (h : l.drop k = x :: t) : lastK l (k + 1) = x.1 := by
  have e : l[k]? = some x := by
    have := congrArg (fun t => t[0]?) h
    simpa using this
  show (l[k]?.map (·.1)).getD [] = x.1
  rw [e]; rfl
theorem less_nil {K : List UInt8} (h : 1 ≤ K.length) : Op.bytesLess [] K = true := by
  cases K with
  | nil => simp at h
  | cons _ _ => rfl
theorem le_str (K L : ByteArray) : (Op.bytesLess K.toList L.toList || K.toList == L.toList) = !(Op.bytesLess L.data.toList K.data.toList) := by
  rw [Lib.toList_data, Lib.toList_data]; exact le_less _ _
end Go.Proofs.YtepjdiocicmjcaaDoor
