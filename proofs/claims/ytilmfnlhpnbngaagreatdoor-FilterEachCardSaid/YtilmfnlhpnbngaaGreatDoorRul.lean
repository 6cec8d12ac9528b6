/- Rules: in rows of the call's own, in arguments. -/
import Derived.Test.YtilmfnlhpnbngaaGreatDoorPth
import Derived.Test.YtilmfnlhpnbngaaGreatDoorBas
import Derived.Test.YtilmfnlhpnbngaaGreatDoorBlk
import Derived.Deep.RegionLaw
set_option linter.unusedVariables false
set_option maxRecDepth 100000
namespace Go.Proofs.YtilmfnlhpnbngaaGreatDoor
open Go.RowKit
open Go.OpenShut
open Go.ChangeShapes Go.WideShapes Go.Deep
/-- a rule: does it take, its pattern -/
abbrev RuleV : Type := Bool × List UInt8
def ruleC (q : RuleV) : List Value := [.bool q.1, strV q.2]
def rulesC (qs : List RuleV) : List Value := qs.flatMap ruleC
theorem rulesC_len (qs : List RuleV) : (rulesC qs).length = qs.length * 2 := by
  induction qs with
  | nil => rfl
  | cons x xs ih =>
    rw [show rulesC (x :: xs) = ruleC x ++ rulesC xs from rfl, List.length_append, ih, List.length_cons, show (ruleC x).length = 2 from rfl]; omega
theorem rulesC_app (a b : List RuleV) : rulesC (a ++ b) = rulesC a ++ rulesC b := by simp [rulesC]
theorem rulesC_get (qs : List RuleV) (j : Nat) (hj : j < qs.length) : (rulesC qs)[j * 2]? = some (.bool qs[j].1) ∧ (rulesC qs)[j * 2 + 1]? = some (strV qs[j].2) := by
  induction qs generalizing j with
  | nil => simp at hj
  | cons x xs ih =>
    rw [show rulesC (x :: xs) = .bool x.1 :: strV x.2 :: rulesC xs from rfl]
    cases j with
    | zero => exact ⟨rfl, rfl⟩
    | succ j =>
      obtain ⟨h1, h2⟩ := ih j (by simpa using hj)
      rw [show (j + 1) * 2 = j * 2 + 1 + 1 by omega, show j * 2 + 1 + 1 + 1 = (j * 2 + 1) + 1 + 1 by omega]
      exact ⟨by simpa using h1, by simpa using h2⟩
theorem info_rule : (Tryz.prog.info? 33).map (fun i => (i.zero, i.size, i.bytes)) = some (some (.agg #[.bool false, .string ⟨#[]⟩]), 2, 24) := by kernel_rfl
/-- rules in a row of the call's own -/
def Rls (w : World) (B : Nat) (v : Value) (qs : List RuleV) : Prop := w.ownsRow B 33 2 v qs.length (rulesC qs)
theorem Rls.nil (w : World) (B : Nat) : Rls w B (.slice none 0 0) [] := World.ownsRow_nil _ _ _ _
theorem Rls.below {w w' : World} {B : Nat} {v : Value} {qs : List RuleV} (h : Rls w B v qs) (hb : Below w.heap.size w w') : Rls w' B v qs :=
  own_heap h fun g hg => hb.block g (World.ownsRow.lt h g hg).2
theorem Rls.any {w : World} {B : Nat} {v : Value} {qs : List RuleV} (h : Rls w B v qs) : ∃ A cap, v = .slice A qs.length cap ∧ ∀ j (hj : j < qs.length), ∃ g, A = some ⟨g, 0, none⟩ ∧ w.cell? ⟨g, j * 2, none⟩ = some (.bool qs[j].1) ∧ w.cell? ⟨g, j * 2 + 1, none⟩ = some (strV qs[j].2) := by
  have h' := h
  unfold Rls World.ownsRow at h
  rcases h.2 with ⟨rfl, h0⟩ | ⟨g, cap, cur, rfl, hB, hg, hcap, hm, hs, ht⟩
  · exact ⟨none, 0, by rw [h0], fun j hj => by omega⟩
  · refine ⟨some ⟨g, 0, none⟩, cap, rfl, fun j hj => ⟨g, rfl, ?_, ?_⟩⟩
    · unfold Rls at h'
      rw [h'.cellAt (j * 2) (by omega), (rulesC_get qs j hj).1]
    · unfold Rls at h'
      rw [h'.cellAt (j * 2 + 1) (by omega), (rulesC_get qs j hj).2]
/-- a rule is appended to a row of the call's own -/
theorem append_rule {w : World} {ops : Array Oper} {rest : List Oper} {o : Oper} {a : Act} {Q : Exit → Act → World → Prop} (hgd : o.guard = none) (s x : Operand)
    (ho : o.op = .call { callee := .builtin .append, args := #[s, x], argTypes := #[23, 23] }) (B : Nat) (v : Value) (qs : List RuleV) (hs : a.eval s = v) (hown : Rls w B v qs)
    (g c : Nat) (q : RuleV) (hx : a.eval x = .slice (some ⟨g, 0, none⟩) 1 c) (hc : w.cell? ⟨g, 0, none⟩ = some (.bool q.1) ∧ w.cell? ⟨g, 1, none⟩ = some (strV q.2)) (hbig : qs.length ≤ 1000000) (hB : B ≤ w.heap.size)
    (h : ∀ v' w', Rls w' B v' (qs ++ [q]) → w.grownBy w' v.ownBlock → wpList Tryz.prog ops Q rest (a.put o.dst v') w') : wpList Tryz.prog ops Q (o :: rest) a w := by
  obtain ⟨i0, hi, hz0, hz1, hz2⟩ := info_parts info_rule
  refine wpList_append_own _ hgd s x 23 ho B 33 i0 _ 2 24 Tryz.underlying23 hi hz0 hz1 hz2 rfl (by decide) v _ _ hs hown ⟨g, 0, none⟩ 1 c (ruleC q) hx rfl (fun j u hu => ?_) (fun u hu => ?_) (by unfold maxLen; omega) (by omega) hB ?_
  · rw [Addr.add_lit, Nat.zero_add]
    match j, hu with
    | 0, hu => rw [hc.1]; exact hu
    | 1, hu => rw [hc.2]; exact hu
    | j + 2, hu => simp [ruleC] at hu
  · simp only [ruleC, List.mem_cons, List.not_mem_nil, or_false] at hu
    rcases hu with rfl | rfl <;> rfl
  · intro v6 w6 hown6 hgrow _
    exact h v6 w6 (by unfold Rls; rw [List.length_append, rulesC_app]; simpa [rulesC] using hown6) hgrow
/-- the same at a step of a region that draws its order -/
theorem step_append_rule {w : World} {ops : Array Oper} {o : Oper} {a : Act} {K : Act → World → Prop} {Q : Exit → Act → World → Prop} {E : Prop} (hgd : o.guard = none) (s x : Operand)
    (ho : o.op = .call { callee := .builtin .append, args := #[s, x], argTypes := #[23, 23] }) (B : Nat) (v : Value) (qs : List RuleV) (hs : a.eval s = v) (hown : Rls w B v qs)
    (g c : Nat) (q : RuleV) (hx : a.eval x = .slice (some ⟨g, 0, none⟩) 1 c) (hc : w.cell? ⟨g, 0, none⟩ = some (.bool q.1) ∧ w.cell? ⟨g, 1, none⟩ = some (strV q.2)) (hbig : qs.length ≤ 1000000) (hB : B ≤ w.heap.size)
    (h : ∀ v' w', Rls w' B v' (qs ++ [q]) → w.grownBy w' v.ownBlock → K (a.put o.dst v') w') :
    if Region.wanted o (yielded ops a.tmps) = true then Oper.wp Tryz.prog o a w K Q else E := by
  have hw : Region.wanted o (yielded ops a.tmps) = true := by simp [Region.wanted, hgd]
  rw [if_pos hw]
  obtain ⟨i0, hi, hz0, hz1, hz2⟩ := info_parts info_rule
  obtain ⟨v6, w6, hrun, hown6, hgrow, _, h5⟩ := run_append_own_at (P := Tryz.prog) w B 23 o.type 33 i0 _ 2 24 Tryz.underlying23 hi hz0 hz1 hz2 rfl (by decide) _ _ _ hown ⟨g, 0, none⟩ 1 c (ruleC q) rfl (fun j u hu => by
    rw [Addr.add_lit, Nat.zero_add]
    match j, hu with
    | 0, hu => rw [hc.1]; exact hu
    | 1, hu => rw [hc.2]; exact hu
    | j + 2, hu => simp [ruleC] at hu) (fun u hu => by
    simp only [ruleC, List.mem_cons, List.not_mem_nil, or_false] at hu
    rcases hu with rfl | rfl <;> rfl) (by unfold maxLen; omega) (by omega) hB
  unfold Oper.wp execOp
  simp only [ho, resolve, invoke, builtin, Sem.run_bind, Sem.run_pure, Result.andThen_ok, List.map_toArray, List.map_cons, List.map_nil, hs, hx, hrun]
  exact h v6 w6 (by unfold Rls; rw [List.length_append, rulesC_app]; simpa [rulesC] using hown6) hgrow
theorem Rls.alloc {w : World} {B : Nat} {v : Value} {qs : List RuleV} (h : Rls w B v qs) (o : Obj) : Rls (w.alloc o) B v qs := World.ownsRow.alloc h o
/-- rules in memory -/
def RulesAt (w : World) (A : Option Addr) (l : List RuleV) : Prop :=
  ∀ (j : Nat) (h : j < l.length), ∃ b o, A = some ⟨b, o, none⟩ ∧ w.cell? ⟨b, o + j * 2, none⟩ = some (.bool l[j].1) ∧ w.cell? ⟨b, o + j * 2 + 1, none⟩ = some (strV l[j].2)
theorem RulesAt.below {w w' : World} {A : Option Addr} {l : List RuleV} (h : RulesAt w A l) (hb : Below w.heap.size w w') : RulesAt w' A l := fun j hj => by
  obtain ⟨b, o, e, h0, h1⟩ := h j hj
  have hlt : b < w.heap.size := World.block_lt_of_cell? w _ h0
  exact ⟨b, o, e, (hb.cell (p := ⟨b, o + j * 2, none⟩) hlt).trans h0, (hb.cell (p := ⟨b, o + j * 2 + 1, none⟩) hlt).trans h1⟩
theorem Rls.at {w : World} {B n c : Nat} {A : Option Addr} {l : List RuleV} (h : Rls w B (.slice A n c) l) : RulesAt w A l := fun j hj => by
  obtain ⟨A2, c2, e, hc⟩ := h.any
  injection e with e _ _
  subst e
  obtain ⟨g, rfl, h1, h2⟩ := hc j hj
  exact ⟨g, 0, rfl, by rw [Nat.zero_add]; exact h1, by rw [Nat.zero_add]; exact h2⟩
section
variable {H : Type} {enc : TypeId × Value → H} {w : World} {base : Nat} {spare : Nat → Bool} {held : Bool}
theorem rule_fields : ∃ f0 f1 : Field, Tryz.prog.underlying 33 = some (.struct #[f0, f1]) ∧ f0.type = 4 ∧ f1.type = 9 ∧ oneCellFields Tryz.prog #[f0, f1] = true :=
  ⟨_, _, Tryz.underlying33, rfl, rfl, by kernel_rfl⟩
theorem open_rules {v : Value} {d : DataW H} {p : List MemPlace} (hv : ∃ a len cap, v = .slice a len cap) (h : DataW.Trod enc Tryz.prog w base spare held 23 v d p) (hwt : ∀ x ∈ d.weights Tryz.prog 23, x ≤ reachBytes) :
    ∃ (A : Option Addr) (n c : Nat) (rs : List RuleV), v = .slice A n c ∧ rs.length = n ∧ n * 24 ≤ 140737488351232 ∧ (∀ r ∈ rs, r.2.length ≤ 140737488351232) ∧ RulesAt w A rs := by
  obtain ⟨a0, len0, cap0, rfl⟩ := hv
  obtain ⟨fuel, hf⟩ := h
  obtain ⟨f0, f1, he, t0, t1, hone⟩ := rule_fields
  rcases open_slice_flds Tryz.underlying23 he hone (by kernel_rfl) hf with ⟨hcs, hx⟩ | ⟨a, len, cap, m, D, hcs, hl, hx, hi⟩
  · simp only [Value.cells, List.cons.injEq, Value.slice.injEq, and_true] at hcs
    obtain ⟨rfl, rfl, rfl⟩ := hcs
    exact ⟨none, 0, 0, [], rfl, rfl, by omega, (fun r hr => by simp at hr), fun j hj => by simp at hj⟩
  · simp only [Value.cells, List.cons.injEq, Value.slice.injEq, and_true] at hcs
    obtain ⟨rfl, rfl, rfl⟩ := hcs
    simp only at hx
    subst hx
    have hr4 : reachBytes = 140737488351232 := rfl
    have hn : len0 * 24 ≤ 140737488351232 := by
      have h1 := hwt _ (weights_len Tryz.underlying23)
      rw [hr4] at h1
      have h2 : Tryz.prog.bytesOf 33 = 24 := by kernel_rfl
      rw [h2] at h1
      simp only [List.length_map, List.length_range] at h1
      omega
    have key : ∀ i, i < len0 → ∃ r : RuleV, r.2.length ≤ 140737488351232 ∧ w.cell? (a.add (i * 2 + 0)) = some (.bool r.1) ∧ w.cell? (a.add (i * 2 + 1)) = some (strV r.2) := fun i hil => by
      obtain ⟨ys, k, hD, hyl, hfld⟩ := hi i (by omega)
      obtain ⟨v0, y0, c0, e0, h0⟩ := hfld 0 f0 rfl
      obtain ⟨v1, y1, c1, e1, h1⟩ := hfld 1 f1 rfl
      rw [t0] at h0
      rw [t1] at h1
      obtain ⟨b0, q0, x0⟩ := DataW.trod_bool Tryz.underlying4 h0
      obtain ⟨s1, q1, x1, w1⟩ := DataW.trod_string Tryz.underlying9 h1
      simp only [List.cons.injEq, and_true] at q0 q1
      subst q0 q1
      have hz1 : s1.size ≤ 140737488351232 := by
        have hm : s1.data.toList.length ∈ (D i).weights Tryz.prog 33 := by
          rw [hD]
          refine weights_field he (j := 1) (f := f1) (d := y1.1) rfl (by rw [List.getElem?_map, e1]; rfl) _ ?_
          rw [x1, t1]
          unfold DataW.weights
          simp
        have h9 := hwt _ (weights_slice Tryz.underlying23 (d := D i) (List.mem_map.2 ⟨i, List.mem_range.2 hil, rfl⟩) _ hm)
        rw [hr4] at h9
        simpa using h9
      exact ⟨(b0, s1.data.toList), by simpa using hz1, c0, c1⟩
    obtain ⟨f, hfx⟩ := choose_lt key
    refine ⟨some a, len0, cap0, (List.range len0).map f, rfl, by simp, by omega, fun r hr => ?_, fun j hj => ?_⟩
    · obtain ⟨i, hi1, rfl⟩ := List.mem_map.1 hr
      exact (hfx i (List.mem_range.1 hi1)).1
    · have hj' : j < len0 := by simpa using hj
      obtain ⟨b, o, sp⟩ := a
      have hsp : sp = none := by
        have h0 := (hfx 0 (by omega)).2.1
        have h1 : w.cell? (Addr.mk b o sp) = some (.bool (f 0).1) := by simpa [Addr.add] using h0
        simpa using World.cell?_spot h1
      subst hsp
      refine ⟨b, o, rfl, ?_, ?_⟩
      · rw [List.getElem_map, List.getElem_range, ← (hfx j hj').2.1]
        unfold Addr.add
        split
        · rename_i h; congr 1; first | (simp; done) | (simp; omega)
        · congr 1
      · rw [List.getElem_map, List.getElem_range, ← (hfx j hj').2.2]
        unfold Addr.add
        split
        · rename_i h; congr 1; first | (simp; done) | (simp; omega)
        · congr 1
end
end Go.Proofs.YtilmfnlhpnbngaaGreatDoor
