/- Contracts of package path's parts. -/
import Derived.Test.YtmgndhdikleagaaMth
import Derived.Test.YtmgndhdikleagaaPrtA
import Derived.Test.YtmgndhdikleagaaFldA
import Derived.Test.YtmgndhdikleagaaFldB
import Derived.Test.YtmgndhdikleagaaFldD
import Derived.Test.YtmgndhdikleagaaShelf
import Derived.Shelf.Strings.SplitCore
set_option linter.unusedVariables false
set_option maxRecDepth 100000
namespace Go.Proofs.Ytmgndhdikleagaa
open Go.RowKit
open Go.OpenShut
theorem Texts.mono {w : World} {B B' : Nat} {v : Value} {ls : List (List UInt8)} (h : Texts w B v ls) (hB : B' ≤ B) : Texts w B' v ls := by
  unfold Texts World.ownsRow at *
  refine ⟨h.1, ?_⟩
  rcases h.2 with h | ⟨g, cap, cur, e1, e2, h⟩
  · exact .inl h
  · exact .inr ⟨g, cap, cur, e1, by omega, h⟩
theorem Texts.lit {w : World} (ls : List (List UInt8)) (hm : ls.length ≤ maxLen) : Texts (w.alloc (.cells (strC ls).toArray 9)) w.heap.size (.slice (some ⟨w.heap.size, 0, none⟩) ls.length ls.length) ls := by
  have := World.ownsRow_lit (base := w.heap.size) (e := 9) (size := 1) w (strC ls).toArray ls.length (Nat.le_refl _) hm (by simp)
  unfold Texts
  simpa using this
end Go.Proofs.Ytmgndhdikleagaa
