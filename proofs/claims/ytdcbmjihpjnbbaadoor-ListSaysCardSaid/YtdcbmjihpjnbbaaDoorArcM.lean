/- Plain mathematics of archives: the encodings one after the other, and where they begin. Nothing of the program. -/
import Derived.Test.YtdcbmjihpjnbbaaDoorMth
set_option linter.unusedVariables false
namespace Go.Proofs.YtdcbmjihpjnbbaaDoor
open Go.RowKit
theorem ents_few {l : List EntV} (h : entsE l = 0) : l.length ≤ 40 := by
  unfold entsE at h
  by_cases c : 40 < l.length
  · rw [if_pos c] at h; exact absurd h (by decide)
  · omega
theorem ents_walk {l : List EntV} (h : entsE l = 0) : ewalkE [] l = 0 := by
  have c := ents_few h
  unfold entsE at h
  rwa [if_neg (by omega)] at h
theorem ents_at {l : List EntV} (h : entsE l = 0) (k : Nat) (hk : k < l.length) : eatE (l.take k) l[k] = 0 := by
  have h1 := (ewalkE_all l []).1 (ents_walk h) k hk
  rwa [List.nil_append] at h1
theorem ents_each {l : List EntV} (h : entsE l = 0) : ∀ x ∈ l, entE x = 0 := fun x hx => by
  obtain ⟨k, hk, rfl⟩ := List.mem_iff_getElem.1 hx
  exact ((eatE_zero _ _).1 (ents_at h k hk)).1
/-- the encodings of members, one after the other -/
def arcB (l : List EntV) : List UInt8 := l.flatMap bytesM
/-- the archive of members, or nothing -/
def arcE (l : List EntV) : List UInt8 := if entsE l = 0 then arcB l ++ List.replicate 1024 0 else []
/-- where the first k members begin -/
def plcN (l : List EntV) (k : Nat) : List Int := (List.range k).map fun i => ((arcB (l.take i)).length : Int)
/-- all places, or nothing -/
def plcA (l : List EntV) : List Int := if entsE l = 0 then plcN l (l.length + 1) else []
end Go.Proofs.YtdcbmjihpjnbbaaDoor
