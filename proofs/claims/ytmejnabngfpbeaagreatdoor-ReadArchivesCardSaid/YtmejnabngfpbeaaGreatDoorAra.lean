/- Texts of one kind, in one file: ArcM. -/
import Derived.Test.YtmejnabngfpbeaaGreatDoorMer
set_option linter.unusedVariables false
namespace Go.Proofs.YtmejnabngfpbeaaGreatDoor
open Go.RowKit
theorem ents_few {l : List EntV} (h : entsE l = 0) : l.length ≤ 40 := by
 unfold entsE at h
 by_cases c : 40 < l.length
 ·rw [if_pos c] at h; exact absurd h (by decide)
 ·omega
theorem bytesM_lim {x : EntV} (h : entE x = 0) : 512 ≤ (bytesM x).length ∧ (bytesM x).length ≤ 20000 ∧ (bytesM x).length % 512 = 0 := by
 have h1 := bytesM_len h
 have h2 := recs_len h
 have h3 := padN_lt x.data.length
 have h4 := padN_lt (textP (recsM x)).length
 have h5 := (entE_good h).data
 rw [h1]
 split <;> omega
def arcB (l : List EntV) : List UInt8 := l.flatMap bytesM
theorem arcB_app (l m : List EntV) : arcB (l ++ m) = arcB l ++ arcB m := List.flatMap_append
theorem arcB_one (x : EntV) : arcB [x] = bytesM x := by unfold arcB; rw [List.flatMap_cons, List.flatMap_nil, List.append_nil]
theorem arcB_cons (x : EntV) (l : List EntV) : arcB (x :: l) = bytesM x ++ arcB l := List.flatMap_cons
theorem arcB_lim : ∀ (l : List EntV), (∀ x ∈ l, entE x = 0) → 512 * l.length ≤ (arcB l).length ∧ (arcB l).length ≤ 20000 * l.length ∧ (arcB l).length % 512 = 0
 | [], _ => ⟨Nat.le_refl _, Nat.le_refl _, rfl⟩
 | x :: l, h => by
  have h1 := arcB_lim l fun y hy => h y (List.mem_cons_of_mem _ hy)
  have h2 := bytesM_lim (h x List.mem_cons_self)
  rw [arcB_cons, List.length_append, List.length_cons]
  omega
def arcE (l : List EntV) : List UInt8 := if entsE l = 0 then arcB l ++ List.replicate 1024 0 else []
theorem arcE_ok {l : List EntV} (h : entsE l = 0) : arcE l = arcB l ++ List.replicate 1024 0 := if_pos h
def plcN (l : List EntV) (k : Nat) : List Int := (List.range k).map fun i => ((arcB (l.take i)).length : Int)
def plcA (l : List EntV) : List Int := if entsE l = 0 then plcN l (l.length + 1) else []
end Go.Proofs.YtmejnabngfpbeaaGreatDoor
