/- The reference's first block of bytes: first. (Stage 17, ahead.) -/
import Derived.Test.YtepjdiocicmjcaaGreatDoorMcv
import Derived.Test.YtepjdiocicmjcaaGreatDoorMgh
import Derived.Test.YtepjdiocicmjcaaGreatDoorHdo
import Derived.Test.YtepjdiocicmjcaaGreatDoorPdc
import Derived.Deep.RegionHeld3
import Derived.Deep.RegionWith
set_option linter.unusedVariables false
set_option maxRecDepth 100000
namespace Go.Proofs.YtepjdiocicmjcaaGreatDoor
open Go.RowKit
open Go.OpenShut
theorem own_set11 {B g : Nat} {W : World} {v : Value} {l : List UInt8} (h : OwnB W B v l) (hg : g < B) (v0 v1 v2 v3 v4 v5 v6 v7 v8 v9 v10 : Value) : OwnB (((((((((((W.setCell ⟨g, 0, none⟩ v0).setCell ⟨g, 1, none⟩ v1).setCell ⟨g, 2, none⟩ v2).setCell ⟨g, 3, none⟩ v3).setCell ⟨g, 4, none⟩ v4).setCell ⟨g, 5, none⟩ v5).setCell ⟨g, 6, none⟩ v6).setCell ⟨g, 7, none⟩ v7).setCell ⟨g, 8, none⟩ v8).setCell ⟨g, 9, none⟩ v9).setCell ⟨g, 10, none⟩ v10) B v l :=
  (ownsRow_setCell_below (ownsRow_setCell_below (ownsRow_setCell_below (ownsRow_setCell_below (ownsRow_setCell_below (ownsRow_setCell_below (ownsRow_setCell_below (ownsRow_setCell_below (ownsRow_setCell_below (ownsRow_setCell_below (ownsRow_setCell_below h (a := ⟨g, 0, none⟩) hg v0) (a := ⟨g, 1, none⟩) hg v1) (a := ⟨g, 2, none⟩) hg v2) (a := ⟨g, 3, none⟩) hg v3) (a := ⟨g, 4, none⟩) hg v4) (a := ⟨g, 5, none⟩) hg v5) (a := ⟨g, 6, none⟩) hg v6) (a := ⟨g, 7, none⟩) hg v7) (a := ⟨g, 8, none⟩) hg v8) (a := ⟨g, 9, none⟩) hg v9) (a := ⟨g, 10, none⟩) hg v10)
theorem padC_le (l : List UInt8) (n : Int) : (padC l n).1.1.length ≤ l.length := by
  unfold padC
  split
  · split
    · simp
    · split
      · simp only [List.length_take]; omega
      · simp
  · simp
theorem keepB {x W W' : World} (h : Below x.heap.size x W) (hb : Below W.heap.size W W') : Below x.heap.size x W' := h.trans (hb.mono h.size)
theorem zhead_eq : headC headZ = #[.string ⟨#[]⟩, .string ⟨#[]⟩, .string ⟨#[]⟩, .int .i64 0, .int .i64 0, .int .i64 0, .int .i64 0, .int .i64 0, .int .u8 0, .string ⟨#[]⟩, .string ⟨#[]⟩] := rfl
end Go.Proofs.YtepjdiocicmjcaaGreatDoor
