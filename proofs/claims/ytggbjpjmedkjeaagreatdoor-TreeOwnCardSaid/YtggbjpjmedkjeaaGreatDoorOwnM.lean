/- Plain mathematics of TreeOwn: no drawn path ends as 'zz' and 'none' do; a node 'zz' fits every drawn tree. Nothing of the program. -/
import Derived.Test.YtggbjpjmedkjeaaGreatDoorMth
set_option linter.unusedVariables false
set_option maxRecDepth 100000
namespace Go.Proofs.YtggbjpjmedkjeaaGreatDoor
open Go.RowKit
/-- ends neither in 'z' nor in 'e' -/
def endOk (p : List UInt8) : Bool := p.getLast? != some 122 && p.getLast? != some 101 && !p.isEmpty
theorem names_end : ∀ i, i < 11 → endOk (namesL.getD i []) = true := by
  intro i hi
  have : ∀ j : Fin 11, endOk (namesL.getD j.val []) = true := by decide +kernel
  exact this ⟨i, hi⟩
theorem endOk_app (a b : List UInt8) (h : endOk b = true) : endOk (a ++ b) = true := by
  unfold endOk at *
  simp only [Bool.and_eq_true] at h
  obtain ⟨⟨h1, h2⟩, h3⟩ := h
  cases b with
  | nil => cases h3
  | cons x b =>
    have e : (a ++ x :: b).getLast? = (x :: b).getLast? := by
      rw [List.getLast?_append]
      cases hq : (x :: b).getLast? with
      | none => simp at hq
      | some q => rfl
    rw [e, h1, h2]
    cases a <;> rfl
theorem path_end (ds : List (List UInt8)) (r : RawV) : endOk (pathT ds r) = true := by
  unfold pathT
  exact endOk_app _ _ (names_end _ (by have := pick_bd r.a 11 (by omega); omega))
theorem step_path (m : Nat) (st : List NodeV × List (List UInt8)) (r : RawV) (h : ∀ x ∈ st.1, endOk x.path = true) : ∀ x ∈ (stepT m st r).1, endOk x.path = true := by
  intro x hx
  have hp := path_end st.2 r
  have key : ∀ (l : List NodeV) (y : NodeV), (∀ z ∈ l, endOk z.path = true) → y.path = pathT st.2 r → x ∈ l ++ [y] → endOk x.path = true := fun l y hl hy hx' => by
    rcases List.mem_append.1 hx' with a | a
    · exact hl x a
    · obtain rfl : x = y := by simpa using a
      rw [hy]; exact hp
  unfold stepT at hx
  split at hx
  · exact h x hx
  · simp only at hx
    split at hx
    · exact h x hx
    · split at hx
      · exact key _ _ h rfl hx
      · split at hx
        · exact key _ _ h rfl hx
        · split at hx
          · split at hx
            · exact key _ _ h rfl hx
            · rename_i y hy
              split at hx
              · refine key _ _ (fun z hz => ?_) rfl hx
                rcases List.mem_or_eq_of_mem_set hz with a | a
                · exact h z a
                · have hm : y ∈ st.1 := List.mem_of_getElem? hy
                  rw [a]
                  split
                  · exact h y hm
                  · exact h y hm
              · exact key _ _ h rfl hx
          · exact key _ _ h rfl hx
theorem drawn_end (m : Nat) (rs : List RawV) : ∀ x ∈ (treeS m rs).1, endOk x.path = true := by
  unfold treeS
  suffices key : ∀ (st : List NodeV × List (List UInt8)), (∀ x ∈ st.1, endOk x.path = true) → ∀ x ∈ (rs.foldl (stepT m) st).1, endOk x.path = true from key _ (fun x hx => by cases hx)
  induction rs with
  | nil => intro st h; exact h
  | cons r rs ih => intro st h; rw [List.foldl_cons]; exact ih _ (step_path m st r h)
def zzN : NodeV := ⟨[122, 122], 1, 0, [], ⟨0, 0, 0, [], [], 0, 0⟩, [100, 97, 116, 97]⟩
theorem zz_nod : nodE zzN = 0 := by decide +kernel
theorem zz_up : upL zzN.path = [] := by decide +kernel
theorem end_zz {p : List UInt8} (h : endOk p = true) : p ≠ [122, 122] := by
  rintro rfl; revert h; decide
theorem end_none {p : List UInt8} (h : endOk p = true) : p ≠ [110, 111, 110, 101] := by
  rintro rfl; revert h; decide
/-- a new node keeps the order -/
theorem put_rises {t : List NodeV} (h : Rises t) (n : NodeV) : Rises (putL t n) := by
  unfold Rises putL at *
  rw [List.pairwise_append, List.pairwise_cons]
  refine ⟨h.sublist List.filter_sublist, ⟨fun y hy => ?_, h.sublist List.filter_sublist⟩, fun x hx y hy => ?_⟩
  · have h1 := of_decide_eq_true (List.mem_filter.1 hy).2
    have := pcmp_neg y.path n.path
    have := pcmp_bd y.path n.path
    omega
  · have h1 := of_decide_eq_true (List.mem_filter.1 hx).2
    have hb := pcmp_bd x.path n.path
    have hx1 : pcmp x.path n.path = -1 := by omega
    rcases List.mem_cons.1 hy with rfl | hy
    · exact hx1
    · have h2 := of_decide_eq_true (List.mem_filter.1 hy).2
      have hn := pcmp_neg y.path n.path
      have hb2 := pcmp_bd y.path n.path
      exact plt_trans hx1 (show pcmp n.path y.path = -1 by omega)
theorem put_len {t : List NodeV} (h : Rises t) {n : NodeV} (hp : ∀ x ∈ t, x.path ≠ n.path) : (putL t n).length = t.length + 1 := by
  have h1 := congrArg List.length (parted h n.path hp)
  rw [List.length_append] at h1
  unfold putL
  rw [List.length_append, List.length_cons]; omega
/-- 'zz' fits -/
theorem own_put {t : List NodeV} (h : Sound t) (hp : ∀ x ∈ t, x.path ≠ zzN.path) : Sound (putL t zzN) := by
  refine ⟨put_rises h.rises _, fun x hx => ?_, fun x hx => ?_, fun x hx y hy e hne => ?_⟩
  · rcases mem_putL.1 hx with rfl | ⟨a, -⟩
    · exact zz_nod
    · exact h.node x a
  · rcases mem_putL.1 hx with rfl | ⟨a, -⟩
    · exact .inl zz_up
    · rcases h.up x a with e | ⟨d, hd, e⟩
      · exact .inl e
      · exact .inr ⟨d, mem_putL.2 (.inr ⟨hd, hp d hd⟩), e⟩
  · rcases mem_putL.1 hx with rfl | ⟨a, -⟩
    · exact absurd rfl hne
    · rcases mem_putL.1 hy with rfl | ⟨b, -⟩
      · rw [e] at hne; exact absurd rfl hne
      · exact h.link x a y b e hne
theorem rises_ext : ∀ (a b : List NodeV), Rises a → Rises b → (∀ x, x ∈ a ↔ x ∈ b) → a = b := by
  intro a
  induction a with
  | nil =>
    intro b _ _ h
    cases b with
    | nil => rfl
    | cons y b => exact absurd ((h y).2 (by simp)) (by simp)
  | cons x a ih =>
    intro b ha hb h
    cases b with
    | nil => exact absurd ((h x).1 (by simp)) (by simp)
    | cons y b =>
      have ha' := ha
      have hb' := hb
      unfold Rises at ha hb
      rw [List.pairwise_cons] at ha hb
      have hxy : x = y := by
        rcases List.mem_cons.1 ((h x).1 (by simp)) with e | e
        · exact e
        · rcases List.mem_cons.1 ((h y).2 (by simp)) with e2 | e2
          · exact e2.symm
          · exact absurd (ha.1 y e2) (plt_asym (hb.1 x e))
      subst hxy
      congr 1
      refine ih b ha.2 hb.2 fun z => ⟨fun hz => ?_, fun hz => ?_⟩
      · rcases List.mem_cons.1 ((h z).1 (List.mem_cons_of_mem _ hz)) with e | e
        · subst e; exact absurd (ha.1 z hz) (plt_irr _)
        · exact e
      · rcases List.mem_cons.1 ((h z).2 (List.mem_cons_of_mem _ hz)) with e | e
        · subst e; exact absurd (hb.1 z hz) (plt_irr _)
        · exact e
/-- two drawings of one list are one tree -/
theorem drawn_one {l l' : List NodeV} {m : Nat} {rs : List RawV} (h : l.Perm (treeS m rs).1) (h' : l'.Perm (treeS m rs).1) (hs : Sound l) (hs' : Sound l') : l = l' :=
  rises_ext l l' hs.rises hs'.rises fun x => (h.mem_iff).trans (h'.mem_iff).symm
end Go.Proofs.YtggbjpjmedkjeaaGreatDoor
