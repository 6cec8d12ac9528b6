/- Plain mathematics of drawn paths: each is a valid path of bytes that stand for themselves. Nothing of the program. -/
import Derived.Test.YtcljfokcomclgaaDoorGlbN
import Derived.Test.YtcljfokcomclgaaDoorGlbF
import Derived.Test.YtcljfokcomclgaaDoorMth
set_option linter.unusedVariables false
namespace Go.Proofs.YtcljfokcomclgaaDoor
open Go.RowKit
def plainB (d : List UInt8) : Bool := d.all fun c => decide (c ≠ 42) && decide (c ≠ 63) && decide (c ≠ 91)
theorem plainB_iff (d : List UInt8) : plainB d = true ↔ ∀ c ∈ d, plainC c := by
  unfold plainB plainC
  rw [List.all_eq_true]
  constructor
  · intro h c hc
    have := h c hc
    simp only [Bool.and_eq_true, decide_eq_true_eq] at this
    exact ⟨this.1.1, this.1.2, this.2⟩
  · intro h c hc
    obtain ⟨h1, h2, h3⟩ := h c hc
    simp [h1, h2, h3]
theorem names_plain : ∀ x ∈ namesL, plainB x = true := by decide +kernel
theorem plainB_app (a b : List UInt8) : plainB (a ++ b) = (plainB a && plainB b) := by unfold plainB; rw [List.all_append]
theorem pathT_plain {ds : List (List UInt8)} (h : ∀ d ∈ ds, plainB d = true) (r : RawV) : plainB (pathT ds r) = true := by
  unfold pathT
  simp only
  have h1 : plainB (namesL.getD (pick r.a 11).toNat []) = true := names_plain _ (name_at r.a)
  have h2 : plainB (ds.getD (pick r.b ds.length).toNat []) = true := by
    rw [List.getD_eq_getElem?_getD]
    rcases e : ds[(pick r.b ds.length).toNat]? with _ | d
    · rfl
    · obtain ⟨hj, rfl⟩ := List.getElem?_eq_some_iff.1 e
      exact h _ (List.getElem_mem _)
  generalize ds.getD (pick r.b ds.length).toNat [] = d at h2
  rw [plainB_app, h1, Bool.and_true]
  split
  · rfl
  · rw [plainB_app, h2]; rfl
theorem stepT_plain {ns : List NodeV} {ds : List (List UInt8)} (h1 : ∀ n ∈ ns, plainB n.path = true) (h2 : ∀ d ∈ ds, plainB d = true) (m : Nat) (r : RawV) :
    (∀ n ∈ (stepT m (ns, ds) r).1, plainB n.path = true) ∧ ∀ d ∈ (stepT m (ns, ds) r).2, plainB d = true := by
  have hp := pathT_plain h2 r
  unfold stepT
  by_cases hm : m ≤ ns.length
  · rw [if_pos hm]; exact ⟨h1, h2⟩
  rw [if_neg hm]
  simp only
  by_cases hq : 400 < (pathT ds r).length ∨ (ns.any fun n => decide (n.path = pathT ds r)) = true
  · rw [if_pos hq]; exact ⟨h1, h2⟩
  rw [if_neg hq]
  have push : ∀ n : NodeV, n.path = pathT ds r → ∀ x ∈ ns ++ [n], plainB x.path = true := fun n hn x hx => by
    rcases List.mem_append.1 hx with a | a
    · exact h1 x a
    · obtain rfl : x = n := by simpa using a
      rw [hn]; exact hp
  split
  · refine ⟨push _ rfl, fun d hd => ?_⟩
    rcases List.mem_append.1 hd with a | a
    · exact h2 d a
    · obtain rfl : d = pathT ds r := by simpa using a
      exact hp
  · split
    · exact ⟨push _ rfl, h2⟩
    · split
      · cases hx : ns[(pick r.a (ns.length + 1)).toNat]? with
        | none => exact ⟨push _ rfl, h2⟩
        | some x =>
          obtain ⟨hj, rfl⟩ := List.getElem?_eq_some_iff.1 hx
          simp only
          split
          · refine ⟨fun y hy => ?_, h2⟩
            rcases List.mem_append.1 hy with a | a
            · rcases List.mem_or_eq_of_mem_set a with b | b
              · exact h1 y b
              · rw [b]
                have hh := h1 _ (List.getElem_mem hj)
                split <;> exact hh
            · obtain rfl : y = _ := by simpa using a
              exact hp
          · exact ⟨push _ rfl, h2⟩
      · exact ⟨push _ rfl, h2⟩
theorem treeS_plain (m : Nat) (rs : List RawV) : ∀ n ∈ (treeS m rs).1, plainB n.path = true := by
  unfold treeS
  suffices key : ∀ (st : List NodeV × List (List UInt8)), (∀ n ∈ st.1, plainB n.path = true) → (∀ d ∈ st.2, plainB d = true) → ∀ n ∈ (rs.foldl (stepT m) st).1, plainB n.path = true from key _ (fun n hn => by cases hn) (fun d hd => by simp at hd; subst hd; rfl)
  induction rs with
  | nil => intro st h _; exact h
  | cons r rs ih =>
    intro st h h2
    rw [List.foldl_cons]
    obtain ⟨a, b⟩ := stepT_plain h h2 m r
    exact ih _ a b
/-- what holds of every drawn path -/
theorem drawn_path {m : Nat} {rs : List RawV} {d : List UInt8} (h : d = [97] ∨ ∃ n ∈ (treeS m rs).1, n.path = d) : pathE d = 0 ∧ plainB d = true := by
  rcases h with rfl | ⟨n, hn, rfl⟩
  · exact ⟨by decide +kernel, rfl⟩
  · have h1 := (drawn_all m rs).node n hn
    refine ⟨?_, treeS_plain m rs n hn⟩
    apply Classical.byContradiction
    intro hc
    unfold nodE at h1
    first | (rw [if_neg hc] at h1; exact hc h1) | (rw [if_pos hc] at h1; exact hc h1) | (split at h1; exact hc h1; exact hc ‹_›)
/-- a path of bytes that stand for themselves is a valid pattern -/
theorem globE_path {d : List UInt8} (h : pathE d = 0) (hp : plainB d = true) : globE d = 0 := by
  have hl : 1 ≤ d.length ∧ d.length ≤ 400 := by
    apply Classical.byContradiction
    intro hc
    rw [pathE_size (by omega)] at h; cases h
  rw [globE_parts (by
    rintro (h2 | h2)
    · rw [h2] at hl; simp at hl
    · omega)]
  have hall : ∀ l ∈ partsL 47 d, nameB l = true := by
    unfold pathE at h
    split at h
    · exact absurd h (by decide)
    · split at h
      · exact absurd h (by decide)
      · split at h
        · rename_i ha; exact List.all_eq_true.1 ha
        · exact absurd h (by decide)
  have hpl : ∀ l ∈ partsL 47 d, ∀ c ∈ l, plainC c := fun l hl c hc => (plainB_iff d).1 hp c (partsL_bytes 47 d l hl c hc)
  generalize partsL 47 d = ls at hall hpl
  induction ls with
  | nil => rfl
  | cons s ls ih =>
    rw [partsE_cons, if_neg, if_neg]
    · exact ih (fun l hl => hall l (List.mem_cons_of_mem _ hl)) fun l hl => hpl l (List.mem_cons_of_mem _ hl)
    · rw [tokL_plain s (hpl s (List.mem_cons_self ..))]; simp
    · rintro rfl
      exact absurd (hall [] (List.mem_cons_self ..)) (by decide)
/-- a drawn path fits itself alone -/
theorem fits_drawn {m : Nat} {rs : List RawV} {d e : List UInt8} (hd : d = [97] ∨ ∃ n ∈ (treeS m rs).1, n.path = d) (he : e = [97] ∨ ∃ n ∈ (treeS m rs).1, n.path = e) : fitsE d e = 0 ∧ fitsB d e = decide (d = e) := by
  obtain ⟨h1, h2⟩ := drawn_path hd
  obtain ⟨h3, -⟩ := drawn_path he
  have h4 : fitsE d e = 0 := by unfold fitsE; rw [if_pos (globE_path h1 h2), h3]
  refine ⟨h4, ?_⟩
  unfold fitsB
  rw [h4, globF_plain d e ((plainB_iff d).1 h2)]; rfl
end Go.Proofs.YtcljfokcomclgaaDoor
