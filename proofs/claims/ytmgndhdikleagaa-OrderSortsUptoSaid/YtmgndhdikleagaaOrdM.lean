/- Plain mathematics of traversing a tree: what lies in a directory is its nodes, each followed by what lies in it. Nothing of the program. -/
import Derived.Test.YtmgndhdikleagaaNearM
import Derived.Test.YtmgndhdikleagaaMth
set_option linter.unusedVariables false
namespace Go.Proofs.Ytmgndhdikleagaa
open Go.RowKit
/-- the nodes directly in a directory -/
def kids (t : List NodeV) (d : List UInt8) : List NodeV := t.filter fun x => decide (upL x.path = d)
/-- all nodes in a directory, at any depth -/
def subs (t : List NodeV) (d : List UInt8) : List NodeV := t.filter fun x => inB x.path d
/-- the answer of Names -/
def namesT (t : List NodeV) (d : List UInt8) : List (List UInt8) := (kids t d).map fun x => baseL x.path
theorem mem_kids {t : List NodeV} {d : List UInt8} {x : NodeV} : x ∈ kids t d ↔ x ∈ t ∧ upL x.path = d := by unfold kids; simp
theorem mem_subs {t : List NodeV} {d : List UInt8} {x : NodeV} : x ∈ subs t d ↔ x ∈ t ∧ inB x.path d = true := by unfold subs; simp
theorem in_ne {s d : List UInt8} (h : inB s d = true) : s ≠ [] := by
  rintro rfl
  have := pcmp_in h
  cases d with
  | nil => rw [pcmp_nil_nil] at this; omega
  | cons c d => rw [pcmp_cons_nil] at this; omega
theorem in_trans {a b c : List UInt8} (h1 : inB b a = true) (h2 : inB c b = true) : inB c a = true := by
  by_cases ha : a = []
  · subst ha; rw [inB_nil]; simpa using in_ne h2
  · have hb := in_ne h1
    rw [inB_ne ha, decide_eq_true_eq] at h1 ⊢
    rw [inB_ne hb, decide_eq_true_eq] at h2
    exact (h1.trans (List.prefix_append _ _)).trans h2
/-- a path lies in its directory -/
theorem in_up {p : List UInt8} (hp : p ≠ []) : inB p (upL p) = true := by
  by_cases h : upL p = []
  · rw [h, inB_nil]; simpa using hp
  · rw [inB_ne h, decide_eq_true_eq]
    have := up_join h
    exact ⟨baseL p, by rw [List.append_assoc, List.singleton_append]; exact this.symm⟩
theorem up_app (a b : List UInt8) : upL (a ++ 47 :: b) = if hasB 47 b = true then a ++ 47 :: upL b else a := by
  by_cases h : hasB 47 b = true
  · rw [if_pos h]
    unfold upL
    rw [partsL_app, List.dropLast_append_of_ne_nil (partsL_ne 47 b)]
    have hd : (partsL 47 b).dropLast ≠ [] := by
      rw [partsL_cut 47 b h]
      have := partsL_ne 47 (b.drop (pos 47 b + 1))
      cases hq : partsL 47 (b.drop (pos 47 b + 1)) with
      | nil => exact absurd hq this
      | cons x l => simp
    have key : ∀ (l m : List (List UInt8)), l ≠ [] → m ≠ [] → joinL (l ++ m) = joinL l ++ 47 :: joinL m := by
      intro l m hl hm
      induction l with
      | nil => exact absurd rfl hl
      | cons x l ih =>
        by_cases e : l = []
        · subst e; rw [List.singleton_append, joinL_cons x m hm]; rfl
        · rw [List.cons_append, joinL_cons x (l ++ m) (by simp [e]), joinL_cons x l e, ih e]; simp
    rw [key _ _ (partsL_ne 47 a) hd, joinL_parts]
  · rw [if_neg h]
    exact (up_base_at _ a b (by simpa using h) rfl).1
/-- what lies in a directory: it is its directory or that lies in it -/
theorem in_up_cases {p d : List UInt8} (h : inB p d = true) : upL p = d ∨ inB (upL p) d = true := by
  by_cases hd : d = []
  · subst hd
    rw [inB_nil]
    by_cases e : upL p = []
    · exact .inl e
    · exact .inr (by simpa using e)
  · rw [inB_ne hd, decide_eq_true_eq] at h
    obtain ⟨b, rfl⟩ := h
    rw [List.append_assoc, List.singleton_append, up_app]
    by_cases hb : hasB 47 b = true
    · rw [if_pos hb, inB_ne hd, decide_eq_true_eq]
      exact .inr ⟨upL b, by simp⟩
    · rw [if_neg hb]; exact .inl rfl
theorem in_irr (d : List UInt8) : inB d d = false := by
  rcases h : inB d d with _ | _
  · rfl
  · have := pcmp_in h; rw [pcmp_self] at this; omega
theorem up_nil {p : List UInt8} (h : pathE p = 0) (hu : upL p = []) : hasB 47 p = false := by
  rcases e : hasB 47 p with _ | _
  · rfl
  · exfalso
    have hc := partsL_cut 47 p e
    have hn := partsL_ne 47 (p.drop (pos 47 p + 1))
    have ha : (partsL 47 p).all nameB = true := by
      unfold pathE at h
      split at h
      · omega
      · split at h
        · omega
        · split at h
          · assumption
          · omega
    rw [hc, List.all_cons, Bool.and_eq_true] at ha
    unfold upL at hu
    rw [hc] at hu
    cases hq : partsL 47 (p.drop (pos 47 p + 1)) with
    | nil => exact hn hq
    | cons x l =>
      rw [hq, List.dropLast_cons_cons] at hu
      have h0 : p.take (pos 47 p) = [] := by
        by_cases hl : (x :: l).dropLast = []
        · rw [hl] at hu; exact hu
        · rw [joinL_cons _ _ hl] at hu; simp at hu
      rw [h0] at ha
      exact absurd ha.1 (by decide)
theorem child_path {p d : List UInt8} (hp : pathE p = 0) (h : upL p = d) : p = if d = [] then baseL p else d ++ 47 :: baseL p := by
  by_cases hd : d = []
  · rw [if_pos hd]
    subst hd
    exact (up_base_none p (up_nil hp h)).2.symm
  · rw [if_neg hd]
    subst h
    exact up_join hd
theorem Sound.ne {t : List NodeV} (hs : Sound t) {x : NodeV} (hx : x ∈ t) : x.path ≠ [] := by
  intro e
  have := hs.node x hx
  rw [nodE_path (by rw [e]; decide), e] at this
  exact absurd this (by decide)
theorem Sound.path {t : List NodeV} (hs : Sound t) {x : NodeV} (hx : x ∈ t) : pathE x.path = 0 := by
  by_cases h : pathE x.path = 0
  · exact h
  · have := hs.node x hx
    rw [nodE_path h] at this; exact this
theorem subs_all {t : List NodeV} (hs : Sound t) : subs t [] = t := by
  unfold subs
  rw [List.filter_eq_self]
  intro x hx
  rw [inB_nil]; simpa using hs.ne hx
theorem rises_inj {t : List NodeV} (h : Rises t) {x y : NodeV} (hx : x ∈ t) (hy : y ∈ t) (e : x.path = y.path) : x = y := by
  obtain ⟨i, hi, rfl⟩ := List.getElem_of_mem hx
  obtain ⟨j, hj, rfl⟩ := List.getElem_of_mem hy
  rcases Nat.lt_trichotomy i j with h' | h' | h'
  · have := rises_get h i j hi hj h'; rw [e] at this; exact absurd this (plt_irr _)
  · subst h'; rfl
  · have := rises_get h j i hj hi h'; rw [e] at this; exact absurd this (plt_irr _)
/-- strictly rising lists of the same nodes are the same -/
theorem rises_ext {a b : List NodeV} (ha : Rises a) (hb : Rises b) (h : ∀ x, x ∈ a ↔ x ∈ b) : a = b := by
  induction a generalizing b with
  | nil =>
    cases b with
    | nil => rfl
    | cons y b => exact absurd ((h y).2 (by simp)) (by simp)
  | cons x a ih =>
    cases b with
    | nil => exact absurd ((h x).1 (by simp)) (by simp)
    | cons y b =>
      have ha' := List.pairwise_cons.1 ha
      have hb' := List.pairwise_cons.1 hb
      have exy : x = y := by
        rcases List.mem_cons.1 ((h x).1 (by simp)) with e | e
        · exact e
        · rcases List.mem_cons.1 ((h y).2 (by simp)) with e2 | e2
          · exact e2.symm
          · exact absurd (hb'.1 x e) (plt_asym (ha'.1 y e2))
      subst exy
      rw [ih ha'.2 hb'.2 fun z => ?_]
      constructor
      · intro hz
        rcases List.mem_cons.1 ((h z).1 (List.mem_cons_of_mem _ hz)) with e | e
        · subst e; exact absurd (ha'.1 z hz) (plt_irr _)
        · exact e
      · intro hz
        rcases List.mem_cons.1 ((h z).2 (List.mem_cons_of_mem _ hz)) with e | e
        · subst e; exact absurd (hb'.1 z hz) (plt_irr _)
        · exact e
/-- what lies in a directory lies in one of its nodes, or is one -/
theorem sub_kid {t : List NodeV} (hs : Sound t) (d : List UInt8) : ∀ (k : Nat) (x : NodeV), x.path.length ≤ k → x ∈ subs t d → ∃ c ∈ kids t d, x = c ∨ (c.kind = 2 ∧ x ∈ subs t c.path) := by
  intro k
  induction k with
  | zero => intro x hk hx; exact absurd (List.eq_nil_of_length_eq_zero (by omega)) (hs.ne (mem_subs.1 hx).1)
  | succ k ih =>
    intro x hk hx
    obtain ⟨hx1, hx2⟩ := mem_subs.1 hx
    rcases in_up_cases hx2 with e | e
    · exact ⟨x, mem_kids.2 ⟨hx1, e⟩, .inl rfl⟩
    · have hne := in_ne e
      rcases hs.up x hx1 with e2 | ⟨y, hy, e2, hk2⟩
      · exact absurd e2 hne
      · have hy2 : inB x.path y.path = true := by rw [e2]; exact in_up (hs.ne hx1)
        have hl : y.path.length ≤ k := by
          rw [e2]
          have := up_join hne
          have h3 := congrArg List.length this
          rw [List.length_append, List.length_cons] at h3
          omega
        obtain ⟨c, hc, h⟩ := ih y hl (mem_subs.2 ⟨hy, by rw [e2]; exact e⟩)
        refine ⟨c, hc, .inr ?_⟩
        rcases h with rfl | ⟨h1, h2⟩
        · exact ⟨hk2, mem_subs.2 ⟨hx1, hy2⟩⟩
        · exact ⟨h1, mem_subs.2 ⟨hx1, in_trans (mem_subs.1 h2).2 hy2⟩⟩
theorem kid_in {t : List NodeV} (hs : Sound t) {d : List UInt8} {c : NodeV} (hc : c ∈ kids t d) : inB c.path d = true := by
  obtain ⟨h1, h2⟩ := mem_kids.1 hc
  have := in_up (hs.ne h1)
  rw [h2] at this; exact this
/-- a directory's nodes, each followed by what lies in it, are what lies in the directory -/
theorem subs_kids {t : List NodeV} (hs : Sound t) (d : List UInt8) : subs t d = (kids t d).flatMap fun c => c :: if c.kind = 2 then subs t c.path else [] := by
  refine rises_ext (List.Pairwise.filter _ hs.rises) ?_ fun x => ?_
  · refine List.pairwise_flatMap.2 ⟨fun c hc => ?_, ?_⟩
    · refine List.pairwise_cons.2 ⟨fun y hy => ?_, ?_⟩
      · by_cases hk : c.kind = 2
        · rw [if_pos hk] at hy
          have := pcmp_in (mem_subs.1 hy).2
          have := pcmp_bd c.path y.path
          omega
        · rw [if_neg hk] at hy; simp at hy
      · by_cases hk : c.kind = 2
        · rw [if_pos hk]; exact List.Pairwise.filter _ hs.rises
        · rw [if_neg hk]; exact List.Pairwise.nil
    · have hp : (kids t d).Pairwise fun a b => a ∈ kids t d ∧ b ∈ kids t d ∧ pcmp a.path b.path = -1 := by
        have h1 : (kids t d).Pairwise fun a b => pcmp a.path b.path = -1 := List.Pairwise.filter _ hs.rises
        exact List.Pairwise.imp_of_mem (fun ha hb h => ⟨ha, hb, h⟩) h1
      refine hp.imp fun {a b} h x hx y hy => ?_
      obtain ⟨ha, hb, hab⟩ := h
      have hxb : pcmp x.path b.path = -1 := by
        rcases List.mem_cons.1 hx with rfl | hx
        · exact hab
        · by_cases hk : a.kind = 2
          · rw [if_pos hk] at hx
            obtain ⟨hx1, hx2⟩ := mem_subs.1 hx
            have hno : inB b.path a.path = false := by
              rcases e : inB b.path a.path with _ | _
              · rfl
              · exfalso
                have e1 := (mem_kids.1 ha).2
                have e2 := (mem_kids.1 hb).2
                have hi := kid_in hs ha
                rcases in_up_cases e with h' | h'
                · rw [e2] at h'; rw [← h', in_irr] at hi; exact absurd hi (by decide)
                · rw [e2] at h'
                  have := in_trans hi h'
                  rw [in_irr] at this; exact absurd this (by decide)
            rcases pcmp_tri x.path b.path with h' | h' | h'
            · exact h'
            · rw [← h', hx2] at hno; exact absurd hno (by decide)
            · have := between hx2 (x := b.path) (by omega) (by omega)
              rw [hno] at this; exact absurd this (by decide)
          · rw [if_neg hk] at hx; simp at hx
      rcases List.mem_cons.1 hy with rfl | hy
      · exact hxb
      · by_cases hk : b.kind = 2
        · rw [if_pos hk] at hy
          have h1 := pcmp_in (mem_subs.1 hy).2
          have h2 := pcmp_bd b.path y.path
          exact plt_trans hxb (by omega)
        · rw [if_neg hk] at hy; simp at hy
  · rw [List.mem_flatMap]
    constructor
    · intro hx
      obtain ⟨c, hc, h⟩ := sub_kid hs d _ x (Nat.le_refl _) hx
      refine ⟨c, hc, ?_⟩
      rcases h with rfl | ⟨h1, h2⟩
      · simp
      · rw [if_pos h1]; exact List.mem_cons_of_mem _ h2
    · rintro ⟨c, hc, h⟩
      have hi := kid_in hs hc
      rcases List.mem_cons.1 h with rfl | h
      · exact mem_subs.2 ⟨(mem_kids.1 hc).1, hi⟩
      · by_cases hk : c.kind = 2
        · rw [if_pos hk] at h
          obtain ⟨h1, h2⟩ := mem_subs.1 h
          exact mem_subs.2 ⟨h1, in_trans hi h2⟩
        · rw [if_neg hk] at h; simp at h
/-- there is less in a node of a directory than in the directory -/
theorem subs_less {t : List NodeV} (hs : Sound t) {d : List UInt8} {c : NodeV} (hc : c ∈ kids t d) : (subs t c.path).length < (subs t d).length := by
  have hi := kid_in hs hc
  have h1 : (subs t c.path) = (subs t d).filter fun x => inB x.path c.path := by
    unfold subs
    rw [List.filter_filter]
    refine List.filter_congr fun x hx => ?_
    rcases e : inB x.path c.path with _ | _
    · simp
    · rw [in_trans hi e]; rfl
  rw [h1]
  refine List.length_filter_lt_length_iff_exists.2 ⟨c, mem_subs.2 ⟨(mem_kids.1 hc).1, hi⟩, ?_⟩
  rw [in_irr]; decide
/-- Walk's answer is a tree's own order -/
theorem walk_all {t : List NodeV} (hs : Sound t) : ((kids t []).flatMap fun c => c :: if c.kind = 2 then subs t c.path else []) = t := by
  rw [← subs_kids hs, subs_all hs]
end Go.Proofs.Ytmgndhdikleagaa
