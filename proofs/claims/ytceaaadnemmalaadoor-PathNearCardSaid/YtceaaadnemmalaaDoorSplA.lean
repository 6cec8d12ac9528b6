/- Contracts of package path's parts. -/
import Derived.Test.YtceaaadnemmalaaDoorSplM
import Derived.Test.YtceaaadnemmalaaDoorPrtA
import Derived.Test.YtceaaadnemmalaaDoorFldA
import Derived.Test.YtceaaadnemmalaaDoorFldB
import Derived.Test.YtceaaadnemmalaaDoorFldD
import Derived.Test.YtceaaadnemmalaaDoorShelf
import Derived.Shelf.Strings.SplitCore
set_option linter.unusedVariables false
set_option maxRecDepth 100000
namespace Go.Proofs.YtceaaadnemmalaaDoor
open Go.RowKit
open Go.OpenShut
theorem Texts.mono {w : World} {B B' : Nat} {v : Value} {ls : List (List UInt8)} (h : Texts w B v ls) (hB : B' ≤ B) : Texts w B' v ls := by
  unfold Texts World.ownsRow at *
  refine ⟨h.1, ?_⟩
  rcases h.2 with h | ⟨g, cap, cur, e1, e2, h⟩
  · exact .inl h
  · exact .inr ⟨g, cap, cur, e1, by omega, h⟩
theorem Texts.lit {w : World} (ls : List (List UInt8)) (hm : ls.length ≤ maxLen) : Texts (w.alloc (.cells (strC ls).toArray 9)) w.heap.size (.slice (some ⟨w.heap.size, 0, none⟩) ls.length ls.length) ls := by
  have := World.ownsRow_lit (base := w.heap.size) (e := 9) (size := 1) w (strC ls).toArray ls.length (Nat.le_refl _) hm (by simp)
  unfold Texts
  simpa using this
theorem genSplit_slash (s : ByteArray) (w : World) (hs : s.size < 4294967281) :
    Calls Tryd.prog 51 #[.string s, .string ⟨#[47]⟩, .int .i64 0, .int .i64 (-1)] w fun e w' =>
      e = .returned (.slice (some ⟨w.heap.size, 0, none⟩) (partsL 47 s.data.toList).length (partsL 47 s.data.toList).length) ∧ w' = w.alloc (.cells (strC (partsL 47 s.data.toList)).toArray 9) := by
  have hc := countB_slash s
  have hl := partsL_length 47 s.data.toList
  have hle := List.count_le_length (l := s.data.toList) (a := 47)
  have hsz : s.data.toList.length = s.size := by simp
  have h := Any.strings_genSplit_core Tryd.lays221 (by kernel_rfl) s ⟨#[47]⟩ 0 (-1) (Lib.countB s ⟨#[47]⟩ + 1) w hs (by decide) (Nat.zero_le _)
    (fun x c _ => (Tryd.strings_Index_one x 47 _).mono fun e w' ⟨a, b⟩ => ⟨by rw [a]; exact congrArg (fun z => Ending.returned (.int .i64 z)) (Lib.index_one x.data.toList 47).symm, b⟩)
    ((Tryd.strings_Count_one s 47 w).mono fun e w' ⟨a, b⟩ => ⟨by rw [a, hc]; rfl, b⟩) (by decide) (by decide) (by rw [if_pos (by decide), hc]; omega)
  have hb := splitB_parts s _ rfl
  have hlen : (Lib.splitB ⟨#[47]⟩ 0 (s.data.toList.count 47) s).length = (partsL 47 s.data.toList).length := by
    have := congrArg List.length hb; simpa using this
  rw [Nat.add_sub_cancel, hc, hlen, ← hl] at h
  have hcell : Lib.cellsOf (Lib.splitB ⟨#[47]⟩ 0 (s.data.toList.count 47) s) (partsL 47 s.data.toList).length = (strC (partsL 47 s.data.toList)).toArray := by
    rw [← hlen, Lib.cellsOf_full, hb]
  rw [hcell] at h
  exact h
theorem Split_slash (s : ByteArray) (w : World) (hs : s.size < 4294967281) :
    Calls Tryd.prog 33 #[.string s, .string ⟨#[47]⟩] w fun e w' =>
      e = .returned (.slice (some ⟨w.heap.size, 0, none⟩) (partsL 47 s.data.toList).length (partsL 47 s.data.toList).length) ∧ w' = w.alloc (.cells (strC (partsL 47 s.data.toList)).toArray 9) := by
  go_enter Tryd.func33, Tryd.ntmps33
  go_wp2_with fail
  refine (genSplit_slash s _ hs).mono ?_; rintro e w' ⟨rfl, rfl⟩
  go_wp2_with fail
  go_ret
  exact ⟨rfl, rfl⟩
end Go.Proofs.YtceaaadnemmalaaDoor
