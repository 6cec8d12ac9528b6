/- Texts of one kind, in one file: Rul, FltA, FltB, FltU, FltT. -/
import Derived.Test.YtoikpnjnljdpaaaGreatDoorPth
import Derived.Test.YtoikpnjnljdpaaaGreatDoorBas
import Derived.Test.YtoikpnjnljdpaaaGreatDoorArb
import Derived.Deep.RegionLaw
import Derived.Test.YtoikpnjnljdpaaaGreatDoorGlb
import Derived.Test.YtoikpnjnljdpaaaGreatDoorNod
import Derived.Test.YtoikpnjnljdpaaaGreatDoorTra
/- Rules: in rows of the call's own, in arguments. -/
set_option linter.unusedVariables false
set_option maxRecDepth 100000
namespace Go.Proofs.YtoikpnjnljdpaaaGreatDoor
open Go.RowKit
open Go.OpenShut
open Go.ChangeShapes Go.WideShapes Go.Deep
/-- a rule: does it take, its pattern -/
abbrev RuleV : Type := Bool × List UInt8
def ruleC (q : RuleV) : List Value := [.bool q.1, strV q.2]
def rulesC (qs : List RuleV) : List Value := qs.flatMap ruleC
theorem rulesC_len (qs : List RuleV) : (rulesC qs).length = qs.length * 2 := by
  induction qs with
  | nil => rfl
  | cons x xs ih =>
    rw [show rulesC (x :: xs) = ruleC x ++ rulesC xs from rfl, List.length_append, ih, List.length_cons, show (ruleC x).length = 2 from rfl]; omega
theorem rulesC_app (a b : List RuleV) : rulesC (a ++ b) = rulesC a ++ rulesC b := by simp [rulesC]
theorem rulesC_get (qs : List RuleV) (j : Nat) (hj : j < qs.length) : (rulesC qs)[j * 2]? = some (.bool qs[j].1) ∧ (rulesC qs)[j * 2 + 1]? = some (strV qs[j].2) := by
  induction qs generalizing j with
  | nil => simp at hj
  | cons x xs ih =>
    rw [show rulesC (x :: xs) = .bool x.1 :: strV x.2 :: rulesC xs from rfl]
    cases j with
    | zero => exact ⟨rfl, rfl⟩
    | succ j =>
      obtain ⟨h1, h2⟩ := ih j (by simpa using hj)
      rw [show (j + 1) * 2 = j * 2 + 1 + 1 by omega, show j * 2 + 1 + 1 + 1 = (j * 2 + 1) + 1 + 1 by omega]
      exact ⟨by simpa using h1, by simpa using h2⟩
theorem info_rule : (Tryz.prog.info? 39).map (fun i => (i.zero, i.size, i.bytes)) = some (some (.agg #[.bool false, .string ⟨#[]⟩]), 2, 24) := by kernel_rfl
/-- rules in a row of the call's own -/
def Rls (w : World) (B : Nat) (v : Value) (qs : List RuleV) : Prop := w.ownsRow B 39 2 v qs.length (rulesC qs)
theorem Rls.nil (w : World) (B : Nat) : Rls w B (.slice none 0 0) [] := World.ownsRow_nil _ _ _ _
theorem Rls.below {w w' : World} {B : Nat} {v : Value} {qs : List RuleV} (h : Rls w B v qs) (hb : Below w.heap.size w w') : Rls w' B v qs :=
  own_heap h fun g hg => hb.block g (World.ownsRow.lt h g hg).2
theorem Rls.any {w : World} {B : Nat} {v : Value} {qs : List RuleV} (h : Rls w B v qs) : ∃ A cap, v = .slice A qs.length cap ∧ ∀ j (hj : j < qs.length), ∃ g, A = some ⟨g, 0, none⟩ ∧ w.cell? ⟨g, j * 2, none⟩ = some (.bool qs[j].1) ∧ w.cell? ⟨g, j * 2 + 1, none⟩ = some (strV qs[j].2) := by
  have h' := h
  unfold Rls World.ownsRow at h
  rcases h.2 with ⟨rfl, h0⟩ | ⟨g, cap, cur, rfl, hB, hg, hcap, hm, hs, ht⟩
  · exact ⟨none, 0, by rw [h0], fun j hj => by omega⟩
  · refine ⟨some ⟨g, 0, none⟩, cap, rfl, fun j hj => ⟨g, rfl, ?_, ?_⟩⟩
    · unfold Rls at h'
      rw [h'.cellAt (j * 2) (by omega), (rulesC_get qs j hj).1]
    · unfold Rls at h'
      rw [h'.cellAt (j * 2 + 1) (by omega), (rulesC_get qs j hj).2]
/-- a rule is appended to a row of the call's own -/
theorem append_rule {w : World} {ops : Array Oper} {rest : List Oper} {o : Oper} {a : Act} {Q : Exit → Act → World → Prop} (hgd : o.guard = none) (s x : Operand)
    (ho : o.op = .call { callee := .builtin .append, args := #[s, x], argTypes := #[23, 23] }) (B : Nat) (v : Value) (qs : List RuleV) (hs : a.eval s = v) (hown : Rls w B v qs)
    (g c : Nat) (q : RuleV) (hx : a.eval x = .slice (some ⟨g, 0, none⟩) 1 c) (hc : w.cell? ⟨g, 0, none⟩ = some (.bool q.1) ∧ w.cell? ⟨g, 1, none⟩ = some (strV q.2)) (hbig : qs.length ≤ 1000000) (hB : B ≤ w.heap.size)
    (h : ∀ v' w', Rls w' B v' (qs ++ [q]) → w.grownBy w' v.ownBlock → wpList Tryz.prog ops Q rest (a.put o.dst v') w') : wpList Tryz.prog ops Q (o :: rest) a w := by
  obtain ⟨i0, hi, hz0, hz1, hz2⟩ := info_parts info_rule
  refine wpList_append_own _ hgd s x 23 ho B 39 i0 _ 2 24 Tryz.underlying23 hi hz0 hz1 hz2 rfl (by decide) v _ _ hs hown ⟨g, 0, none⟩ 1 c (ruleC q) hx rfl (fun j u hu => ?_) (fun u hu => ?_) (by unfold maxLen; omega) (by omega) hB ?_
  · rw [Addr.add_lit, Nat.zero_add]
    match j, hu with
    | 0, hu => rw [hc.1]; exact hu
    | 1, hu => rw [hc.2]; exact hu
    | j + 2, hu => simp [ruleC] at hu
  · simp only [ruleC, List.mem_cons, List.not_mem_nil, or_false] at hu
    rcases hu with rfl | rfl <;> rfl
  · intro v6 w6 hown6 hgrow _
    exact h v6 w6 (by unfold Rls; rw [List.length_append, rulesC_app]; simpa [rulesC] using hown6) hgrow
/-- the same at a step of a region that draws its order -/
theorem step_append_rule {w : World} {ops : Array Oper} {o : Oper} {a : Act} {K : Act → World → Prop} {Q : Exit → Act → World → Prop} {E : Prop} (hgd : o.guard = none) (s x : Operand)
    (ho : o.op = .call { callee := .builtin .append, args := #[s, x], argTypes := #[23, 23] }) (B : Nat) (v : Value) (qs : List RuleV) (hs : a.eval s = v) (hown : Rls w B v qs)
    (g c : Nat) (q : RuleV) (hx : a.eval x = .slice (some ⟨g, 0, none⟩) 1 c) (hc : w.cell? ⟨g, 0, none⟩ = some (.bool q.1) ∧ w.cell? ⟨g, 1, none⟩ = some (strV q.2)) (hbig : qs.length ≤ 1000000) (hB : B ≤ w.heap.size)
    (h : ∀ v' w', Rls w' B v' (qs ++ [q]) → w.grownBy w' v.ownBlock → K (a.put o.dst v') w') :
    if Region.wanted o (yielded ops a.tmps) = true then Oper.wp Tryz.prog o a w K Q else E := by
  have hw : Region.wanted o (yielded ops a.tmps) = true := by simp [Region.wanted, hgd]
  rw [if_pos hw]
  obtain ⟨i0, hi, hz0, hz1, hz2⟩ := info_parts info_rule
  obtain ⟨v6, w6, hrun, hown6, hgrow, _, h5⟩ := run_append_own_at (P := Tryz.prog) w B 23 o.type 39 i0 _ 2 24 Tryz.underlying23 hi hz0 hz1 hz2 rfl (by decide) _ _ _ hown ⟨g, 0, none⟩ 1 c (ruleC q) rfl (fun j u hu => by
    rw [Addr.add_lit, Nat.zero_add]
    match j, hu with
    | 0, hu => rw [hc.1]; exact hu
    | 1, hu => rw [hc.2]; exact hu
    | j + 2, hu => simp [ruleC] at hu) (fun u hu => by
    simp only [ruleC, List.mem_cons, List.not_mem_nil, or_false] at hu
    rcases hu with rfl | rfl <;> rfl) (by unfold maxLen; omega) (by omega) hB
  unfold Oper.wp execOp
  simp only [ho, resolve, invoke, builtin, Sem.run_bind, Sem.run_pure, Result.andThen_ok, List.map_toArray, List.map_cons, List.map_nil, hs, hx, hrun]
  exact h v6 w6 (by unfold Rls; rw [List.length_append, rulesC_app]; simpa [rulesC] using hown6) hgrow
theorem Rls.alloc {w : World} {B : Nat} {v : Value} {qs : List RuleV} (h : Rls w B v qs) (o : Obj) : Rls (w.alloc o) B v qs := World.ownsRow.alloc h o
/-- rules in memory -/
def RulesAt (w : World) (A : Option Addr) (l : List RuleV) : Prop :=
  ∀ (j : Nat) (h : j < l.length), ∃ b o, A = some ⟨b, o, none⟩ ∧ w.cell? ⟨b, o + j * 2, none⟩ = some (.bool l[j].1) ∧ w.cell? ⟨b, o + j * 2 + 1, none⟩ = some (strV l[j].2)
theorem RulesAt.below {w w' : World} {A : Option Addr} {l : List RuleV} (h : RulesAt w A l) (hb : Below w.heap.size w w') : RulesAt w' A l := fun j hj => by
  obtain ⟨b, o, e, h0, h1⟩ := h j hj
  have hlt : b < w.heap.size := World.block_lt_of_cell? w _ h0
  exact ⟨b, o, e, (hb.cell (p := ⟨b, o + j * 2, none⟩) hlt).trans h0, (hb.cell (p := ⟨b, o + j * 2 + 1, none⟩) hlt).trans h1⟩
theorem Rls.at {w : World} {B n c : Nat} {A : Option Addr} {l : List RuleV} (h : Rls w B (.slice A n c) l) : RulesAt w A l := fun j hj => by
  obtain ⟨A2, c2, e, hc⟩ := h.any
  injection e with e _ _
  subst e
  obtain ⟨g, rfl, h1, h2⟩ := hc j hj
  exact ⟨g, 0, rfl, by rw [Nat.zero_add]; exact h1, by rw [Nat.zero_add]; exact h2⟩
section
variable {H : Type} {enc : TypeId × Value → H} {w : World} {base : Nat} {spare : Nat → Bool} {held : Bool}
theorem rule_fields : ∃ f0 f1 : Field, Tryz.prog.underlying 39 = some (.struct #[f0, f1]) ∧ f0.type = 4 ∧ f1.type = 9 ∧ oneCellFields Tryz.prog #[f0, f1] = true :=
  ⟨_, _, Tryz.underlying39, rfl, rfl, by kernel_rfl⟩
theorem open_rules {v : Value} {d : DataW H} {p : List MemPlace} (hv : ∃ a len cap, v = .slice a len cap) (h : DataW.Trod enc Tryz.prog w base spare held 23 v d p) (hwt : ∀ x ∈ d.weights Tryz.prog 23, x ≤ reachBytes) :
    ∃ (A : Option Addr) (n c : Nat) (rs : List RuleV), v = .slice A n c ∧ rs.length = n ∧ n * 24 ≤ 140737488351232 ∧ (∀ r ∈ rs, r.2.length ≤ 140737488351232) ∧ RulesAt w A rs := by
  obtain ⟨a0, len0, cap0, rfl⟩ := hv
  obtain ⟨fuel, hf⟩ := h
  obtain ⟨f0, f1, he, t0, t1, hone⟩ := rule_fields
  rcases open_slice_flds Tryz.underlying23 he hone (by kernel_rfl) hf with ⟨hcs, hx⟩ | ⟨a, len, cap, m, D, hcs, hl, hx, hi⟩
  · simp only [Value.cells, List.cons.injEq, Value.slice.injEq, and_true] at hcs
    obtain ⟨rfl, rfl, rfl⟩ := hcs
    exact ⟨none, 0, 0, [], rfl, rfl, by omega, (fun r hr => by simp at hr), fun j hj => by simp at hj⟩
  · simp only [Value.cells, List.cons.injEq, Value.slice.injEq, and_true] at hcs
    obtain ⟨rfl, rfl, rfl⟩ := hcs
    simp only at hx
    subst hx
    have hr4 : reachBytes = 140737488351232 := rfl
    have hn : len0 * 24 ≤ 140737488351232 := by
      have h1 := hwt _ (weights_len Tryz.underlying23)
      rw [hr4] at h1
      have h2 : Tryz.prog.bytesOf 39 = 24 := by kernel_rfl
      rw [h2] at h1
      simp only [List.length_map, List.length_range] at h1
      omega
    have key : ∀ i, i < len0 → ∃ r : RuleV, r.2.length ≤ 140737488351232 ∧ w.cell? (a.add (i * 2 + 0)) = some (.bool r.1) ∧ w.cell? (a.add (i * 2 + 1)) = some (strV r.2) := fun i hil => by
      obtain ⟨ys, k, hD, hyl, hfld⟩ := hi i (by omega)
      obtain ⟨v0, y0, c0, e0, h0⟩ := hfld 0 f0 rfl
      obtain ⟨v1, y1, c1, e1, h1⟩ := hfld 1 f1 rfl
      rw [t0] at h0
      rw [t1] at h1
      obtain ⟨b0, q0, x0⟩ := DataW.trod_bool Tryz.underlying4 h0
      obtain ⟨s1, q1, x1, w1⟩ := DataW.trod_string Tryz.underlying9 h1
      simp only [List.cons.injEq, and_true] at q0 q1
      subst q0 q1
      have hz1 : s1.size ≤ 140737488351232 := by
        have hm : s1.data.toList.length ∈ (D i).weights Tryz.prog 39 := by
          rw [hD]
          refine weights_field he (j := 1) (f := f1) (d := y1.1) rfl (by rw [List.getElem?_map, e1]; rfl) _ ?_
          rw [x1, t1]
          unfold DataW.weights
          simp
        have h9 := hwt _ (weights_slice Tryz.underlying23 (d := D i) (List.mem_map.2 ⟨i, List.mem_range.2 hil, rfl⟩) _ hm)
        rw [hr4] at h9
        simpa using h9
      exact ⟨(b0, s1.data.toList), by simpa using hz1, c0, c1⟩
    obtain ⟨f, hfx⟩ := choose_lt key
    refine ⟨some a, len0, cap0, (List.range len0).map f, rfl, by simp, by omega, fun r hr => ?_, fun j hj => ?_⟩
    · obtain ⟨i, hi1, rfl⟩ := List.mem_map.1 hr
      exact (hfx i (List.mem_range.1 hi1)).1
    · have hj' : j < len0 := by simpa using hj
      obtain ⟨b, o, sp⟩ := a
      have hsp : sp = none := by
        have h0 := (hfx 0 (by omega)).2.1
        have h1 : w.cell? (Addr.mk b o sp) = some (.bool (f 0).1) := by simpa [Addr.add] using h0
        simpa using World.cell?_spot h1
      subst hsp
      refine ⟨b, o, rfl, ?_, ?_⟩
      · rw [List.getElem_map, List.getElem_range, ← (hfx j hj').2.1]
        unfold Addr.add
        split
        · rename_i h; congr 1; first | (simp; done) | (simp; omega)
        · congr 1
      · rw [List.getElem_map, List.getElem_range, ← (hfx j hj').2.2]
        unfold Addr.add
        split
        · rename_i h; congr 1; first | (simp; done) | (simp; omega)
        · congr 1
end
end Go.Proofs.YtoikpnjnljdpaaaGreatDoor
/- What is said of rules, and what they take: mathematics; the reference's RulesFault, taken, RulesTake. -/
set_option linter.unusedVariables false
set_option maxRecDepth 100000
namespace Go.Proofs.YtoikpnjnljdpaaaGreatDoor
open Go.RowKit
open Go.OpenShut
/-- what is said of rules, one by one -/
def rulesP : List RuleV → Int
  | [] => 0
  | r :: l => if globE r.2 = 0 then rulesP l else globE r.2
def rulesE (l : List RuleV) : Int := if 12 < l.length then 1 else rulesP l
/-- what the rules behind say of a path, where those ahead said is -/
def takenG (is : Bool) : List RuleV → List UInt8 → Bool
  | [], _ => is
  | r :: l, s => takenG (if fitsB r.2 s = true then r.1 else is) l s
def takenF (l : List RuleV) (s : List UInt8) : Bool := takenG true l s
def takeE (l : List RuleV) (s : List UInt8) : Int := if rulesE l = 0 then pathE s else rulesE l
def takeB (l : List RuleV) (s : List UInt8) : Bool := decide (takeE l s = 0) && takenF l s
theorem rulesP_cons (r : RuleV) (l : List RuleV) : rulesP (r :: l) = if globE r.2 = 0 then rulesP l else globE r.2 := rfl
theorem takenG_cons (is : Bool) (r : RuleV) (l : List RuleV) (s : List UInt8) : takenG is (r :: l) s = takenG (if fitsB r.2 s = true then r.1 else is) l s := rfl
/-- a pattern's bytes -/
def okR (qs : List RuleV) : Prop := ∀ q ∈ qs, q.2.length ≤ 140737488351232
theorem rule_cells {w : World} {A : Option Addr} {qs : List RuleV} (h : RulesAt w A qs) {k : Nat} (hk : k < qs.length) {r : RuleV} (hr : qs[k] = r) {P : ByteArray} (hP : (⟨r.2.toArray⟩ : ByteArray) = P) :
    ∃ b o, A = some ⟨b, o, none⟩ ∧ w.cell? ⟨b, o + k * 2, none⟩ = some (.bool r.1) ∧ w.cell? ⟨b, o + k * 2 + 1, none⟩ = some (.string P) := by
  obtain ⟨b, o, e, h0, h1⟩ := h k hk
  rw [hr] at h0 h1
  unfold strV at h1
  rw [hP] at h1
  exact ⟨b, o, e, h0, h1⟩
set_option maxHeartbeats 2000000 in
theorem RulesFault_any (A : Option Addr) (n c : Nat) (qs : List RuleV) (hn : qs.length = n) (hn2 : n ≤ 140737488355328) (hok : okR qs) (w : World) (hA : RulesAt w A qs) :
    Calls Tryz.prog 43 #[.slice A n c] w fun e w' => e = .returned (.int .i64 (rulesE qs)) ∧ Below w.heap.size w w' := by
  by_cases h12 : 12 < n
  · rw [show rulesE qs = 1 from if_pos (by rw [hn]; exact h12)]
    have h12' : (12 : Int) < (n : Int) := by omega
    clear hn hA hok
    go_enter Tryz.func43, Tryz.ntmps43
    go_wp2_with fail
    go_ret
    exact ⟨rfl, Below.refl _ _⟩
  · rw [show rulesE qs = rulesP qs from if_neg (by rw [hn]; exact h12)]
    have h12' : ¬ (12 : Int) < (n : Int) := by omega
    have HN := Lib.hid hn
    have HA := Lib.hid hA
    have HOk := Lib.hid hok
    clear hn hA hok
    go_enter Tryz.func43, Tryz.ntmps43
    go_wp2_with fail
    go_loopw [11] (fun iv wr => ∃ k : Nat, k ≤ n ∧ iv = .int .i64 k ∧ Hid (rulesP qs = rulesP (qs.drop k)) ∧ Hid (Below w.heap.size w wr)) (fun iv _ => n - (intOf iv).toNat)
    case atStart => exact ⟨0, Nat.zero_le _, rfl, rfl, Below.refl _ _⟩
    case round =>
      obtain ⟨k, hk, rfl, HE, HB⟩ := hrel
      by_cases hlt : k < n
      · have hkq : k < qs.length := by rw [HN.out]; exact hlt
        obtain ⟨r, Hr⟩ := hid_name qs[k]
        obtain ⟨P, HP⟩ := hid_name (⟨r.2.toArray⟩ : ByteArray)
        obtain ⟨b, o, rfl, hc1, hc2⟩ := rule_cells (HA.out.below HB.out) hkq Hr.out HP.out
        have hE := HE.out
        rw [List.drop_eq_getElem_cons hkq, Hr.out, rulesP_cons] at hE
        have hPl : P.data.toList = r.2 := by rw [← HP.out]
        have hsz : P.size ≤ maxLen := by
          have h1 := HOk.out r (by rw [← Hr.out]; exact List.getElem_mem _)
          have h2 : P.data.toList.length = P.size := by simp
          rw [hPl] at h2
          unfold maxLen; omega
        have hgf := fun W => GlobFault_any P W hsz
        rw [hPl] at hgf
        have HG := Lib.hid hgf
        have HB1 := Lib.hid (belowA HB.out (.cells #[.bool r.1, .string P] 39))
        have HBk := Lib.hid (Blk.new wr 39 #[.bool r.1, .string P])
        clear hPl hsz hgf
        go_upto_region 6 with fail
        clear hc1 hc2
        have d1 : (wr.alloc (.cells #[.bool r.1, .string P] 39)).cell? ⟨wr.heap.size, 1, none⟩ = some (.string P) := HBk.out.cell 1
        by_cases h0 : globE r.2 = 0
        · rw [if_pos h0] at hE
          rw [h0] at HG
          have HE1 := Lib.hid hE
          clear hE h0
          go_wp2_with fail
          refine (HG.out _).mono ?_; rintro e w2 ⟨rfl, hb⟩
          have HB2 := Lib.hid (HB1.out.trans (hb.mono HB1.out.size))
          clear hb d1
          go_wp2_with fail
          go_roundw
          case rel => exact ⟨k + 1, by omega, by go_num, HE1.out, HB2.out⟩
          case measure => simp [intOf]; omega
        · rw [if_neg h0] at hE
          obtain ⟨E, HEE⟩ := hid_name (globE r.2)
          rw [HEE.out] at hE h0 HG
          have hne : (E == 0) = false := by simpa using h0
          have HE1 := Lib.hid hE
          clear hE h0
          go_wp2_with fail
          refine (HG.out _).mono ?_; rintro e w2 ⟨rfl, hb⟩
          have HB2 := Lib.hid (HB1.out.trans (hb.mono HB1.out.size))
          clear hb d1
          go_wp2_with fail
          go_ret
          exact ⟨ret_int HE1.out.symm, HB2.out⟩
      · obtain rfl : k = n := by omega
        have HR : Hid (rulesP qs = 0) := by
          have := HE.out
          rwa [List.drop_eq_nil_of_le (by rw [HN.out]; exact Nat.le_refl _)] at this
        go_wp2_with fail
        go_ret
        exact ⟨ret_int HR.out.symm, HB.out⟩
set_option maxHeartbeats 2000000 in
theorem taken_any (A : Option Addr) (n c : Nat) (qs : List RuleV) (hn : qs.length = n) (hn2 : n ≤ 140737488355328) (hok : okR qs) (s : ByteArray) (hs : s.size ≤ maxLen) (w : World) (hA : RulesAt w A qs) :
    Calls Tryz.prog 45 #[.slice A n c, .string s] w fun e w' => e = .returned (.bool (takenF qs s.data.toList)) ∧ Below w.heap.size w w' := by
  have HN := Lib.hid hn
  have HA := Lib.hid hA
  have HOk := Lib.hid hok
  clear hn hA hok
  go_enter Tryz.func45, Tryz.ntmps45
  go_wp2_with fail
  go_loopw [5, 12] (fun bv iv wr => ∃ (k : Nat) (is : Bool), k ≤ n ∧ iv = .int .i64 k ∧ bv = .bool is ∧ Hid (takenF qs s.data.toList = takenG is (qs.drop k) s.data.toList) ∧ Hid (Below w.heap.size w wr)) (fun _ iv _ => n - (intOf iv).toNat)
  case atStart => exact ⟨0, true, Nat.zero_le _, rfl, rfl, rfl, Below.refl _ _⟩
  case round =>
    obtain ⟨k, is, hk, rfl, rfl, HE, HB⟩ := hrel
    by_cases hlt : k < n
    · have hkq : k < qs.length := by rw [HN.out]; exact hlt
      obtain ⟨r, Hr⟩ := hid_name qs[k]
      obtain ⟨P, HP⟩ := hid_name (⟨r.2.toArray⟩ : ByteArray)
      obtain ⟨b, o, rfl, hc1, hc2⟩ := rule_cells (HA.out.below HB.out) hkq Hr.out HP.out
      have hE := HE.out
      rw [List.drop_eq_getElem_cons hkq, Hr.out, takenG_cons] at hE
      have hPl : P.data.toList = r.2 := by rw [← HP.out]
      have hsz : P.size ≤ maxLen := by
        have h1 := HOk.out r (by rw [← Hr.out]; exact List.getElem_mem _)
        have h2 : P.data.toList.length = P.size := by simp
        rw [hPl] at h2
        unfold maxLen; omega
      have hgf := fun W => GlobFits_any P s W hsz hs
      rw [hPl] at hgf
      obtain ⟨rb, rp⟩ := r
      simp only at hc1 hE hgf
      generalize fitsE rp s.data.toList = E at hgf
      have HG := Lib.hid hgf
      have HB1 := Lib.hid (belowA HB.out (.cells #[.bool rb, .string P] 39))
      have HBk := Lib.hid (Blk.new wr 39 #[.bool rb, .string P])
      clear hPl hsz hgf
      go_upto_region 5 with fail
      clear hc1 hc2
      have d1 : (wr.alloc (.cells #[.bool rb, .string P] 39)).cell? ⟨wr.heap.size, 1, none⟩ = some (.string P) := HBk.out.cell 1
      obtain ⟨g, hg⟩ : ∃ g, g = wr.heap.size := ⟨_, rfl⟩
      rw [← hg] at HBk d1 ⊢
      clear hg
      generalize wr.alloc (.cells #[.bool rb, .string P] 39) = w1 at HB1 HBk d1 ⊢
      cases hf : fitsB rp s.data.toList with
      | true =>
        rw [hf] at HG hE
        rw [if_pos rfl] at hE
        have HE1 := Lib.hid hE
        clear hE hf
        go_wp2_with fail
        refine (HG.out _).mono ?_; rintro e w2 ⟨rfl, hb⟩
        have HB2 := Lib.hid (HB1.out.trans (hb.mono HB1.out.size))
        have d0 : w2.cell? ⟨g, 0, none⟩ = some (.bool rb) := (HBk.out.below hb HBk.out.lt).cell 0
        clear hb d1
        go_wp2_with fail
        go_roundw
        case rel => exact ⟨k + 1, rb, by omega, by go_num, rfl, HE1.out, HB2.out⟩
        case measure => simp [intOf]; omega
      | false =>
        rw [hf] at HG hE
        rw [if_neg (by decide)] at hE
        have HE1 := Lib.hid hE
        clear hE hf
        go_wp2_with fail
        refine (HG.out _).mono ?_; rintro e w2 ⟨rfl, hb⟩
        have HB2 := Lib.hid (HB1.out.trans (hb.mono HB1.out.size))
        clear hb d1
        go_wp2_with fail
        go_roundw
        case rel => exact ⟨k + 1, is, by omega, by go_num, rfl, HE1.out, HB2.out⟩
        case measure => simp [intOf]; omega
    · obtain rfl : k = n := by omega
      have HR : Hid (takenF qs s.data.toList = is) := by
        have := HE.out
        rwa [List.drop_eq_nil_of_le (by rw [HN.out]; exact Nat.le_refl _)] at this
      go_wp2_with fail
      go_ret
      exact ⟨ret_bool HR.out.symm, HB.out⟩
end Go.Proofs.YtoikpnjnljdpaaaGreatDoor
/- What rules select of a tree: mathematics; the reference's Filtered. -/
set_option linter.unusedVariables false
set_option maxRecDepth 100000
namespace Go.Proofs.YtoikpnjnljdpaaaGreatDoor
open Go.RowKit
open Go.OpenShut
theorem up_less {s : List UInt8} (h : s ≠ []) : (upL s).length < s.length := by
  by_cases hu : upL s = []
  · rw [hu]; exact List.length_pos_iff.2 h
  · have := up_join hu
    have h2 := congrArg List.length this
    rw [List.length_append, List.length_cons] at h2
    omega
/-- a path, and all that it is in, are taken -/
def upsF (qs : List RuleV) : Nat → List UInt8 → Bool
  | 0, _ => true
  | k + 1, s => if s = [] then true else takenF qs s && upsF qs k (upL s)
def allF (qs : List RuleV) (s : List UInt8) : Bool := upsF qs s.length s
theorem upsF_fuel (qs : List RuleV) : ∀ (k : Nat) (s : List UInt8), s.length ≤ k → upsF qs k s = allF qs s := by
  intro k
  induction k using Nat.strongRecOn with
  | _ k ih =>
    intro s hs
    by_cases h : s = []
    · subst h
      cases k with
      | zero => rfl
      | succ k => show (if ([] : List UInt8) = [] then true else _) = true; rw [if_pos rfl]
    · have hu := up_less h
      have hpos := List.length_pos_iff.2 h
      cases k with
      | zero => omega
      | succ k =>
        obtain ⟨m, hm⟩ : ∃ m, s.length = m + 1 := ⟨s.length - 1, by omega⟩
        unfold allF
        rw [hm]
        show (if s = [] then true else takenF qs s && upsF qs k (upL s)) = (if s = [] then true else takenF qs s && upsF qs m (upL s))
        rw [if_neg h, if_neg h, ih k (by omega) _ (by omega), ih m (by omega) _ (by omega)]
theorem allF_nil (qs : List RuleV) : allF qs [] = true := rfl
theorem allF_step (qs : List RuleV) {s : List UInt8} (h : s ≠ []) : allF qs s = (takenF qs s && allF qs (upL s)) := by
  have hu := up_less h
  obtain ⟨m, hm⟩ : ∃ m, s.length = m + 1 := ⟨s.length - 1, by have := List.length_pos_iff.2 h; omega⟩
  conv => lhs; unfold allF
  rw [hm]
  show (if s = [] then true else takenF qs s && upsF qs m (upL s)) = _
  rw [if_neg h, upsF_fuel qs m _ (by omega)]
/-- what Run says, what it selects -/
def runE (l : List NodeV) (qs : List RuleV) : Int := if treeE l = 0 then rulesE qs else treeE l
def runL (l : List NodeV) (qs : List RuleV) : List NodeV := if runE l qs = 0 then l.filter fun x => allF qs x.path else []
theorem node_path {x : NodeV} (h : nodE x = 0) : pathE x.path = 0 := by
  apply Classical.byContradiction
  intro hc
  unfold nodE at h
  first | (rw [if_neg hc] at h; exact hc h) | (rw [if_pos hc] at h; exact hc h) | (split at h; exact hc h; exact hc ‹_›)
theorem filter_snoc {α : Type} (f : α → Bool) (l : List α) (k : Nat) (h : k < l.length) : (l.take (k + 1)).filter f = (l.take k).filter f ++ if f l[k] = true then [l[k]] else [] := by
  rw [List.take_succ_eq_append_getElem h, List.filter_append]
  congr 1
  by_cases hf : f l[k] = true
  · rw [if_pos hf]; simp [hf]
  · rw [if_neg hf]; simp [hf]
set_option maxHeartbeats 8000000 in
theorem Filtered_ok (A : Option Addr) (n c : Nat) (l : List NodeV) (hn : l.length = n) (hc : SlOk A n c) (hsz : ∀ x ∈ l, x.sz) (h40 : n ≤ 40) (hp : ∀ x ∈ l, x.path.length ≤ 1000) (A1 : Option Addr) (n1 c1 : Nat) (qs : List RuleV) (hn1 : qs.length = n1) (hn12 : n1 ≤ 140737488355328) (hok : okR qs) (w : World) (hA : NodesAt w A l) (hA1 : RulesAt w A1 qs) (ht : treeE l = 0) (hr : rulesE qs = 0) :
    Calls Tryz.prog 18 #[.slice A n c, .slice A1 n1 c1] w fun e w' => ∃ v xs, e = .returned (.tuple #[v, .int .i64 0]) ∧ xs.map (·.1) = l.filter (fun x => allF qs x.path) ∧ OwnN w' w.heap.size v xs ∧ Below w.heap.size w w' := by
  have H1 := Lib.hid fun W (h : Below w.heap.size w W) => rTree_any A n c l hn hc hsz W (hA.below h)
  rw [ht] at H1
  have H2 := Lib.hid fun W (h : Below w.heap.size w W) => RulesFault_any A1 n1 c1 qs hn1 hn12 hok W (hA1.below h)
  rw [hr] at H2
  have H3 := Lib.hid fun (s : ByteArray) (hs : s.size ≤ 1000) W (h : Below w.heap.size w W) => taken_any A1 n1 c1 qs hn1 hn12 hok s (by unfold maxLen; omega) W (hA1.below h)
  have HFin : Hid (∀ (v : Value) (xs : List NodP) (W : World), RowN W w.heap.size v xs → xs.map (·.1) = l.filter (fun x => allF qs x.path) → (∀ y ∈ xs, DatOk w y.2 y.1.data) → Below w.heap.size w W → Calls Tryz.prog 46 #[v] W fun e w' => ∃ v xs, e = .returned v ∧ xs.map (·.1) = l.filter (fun x => allF qs x.path) ∧ OwnN w' w.heap.size v xs ∧ Below w.heap.size w w') := fun v xs W hR hmap hdy hB => by
    obtain ⟨A9, c9, rfl, hs9, hN9⟩ := hR.at fun y hy => (hdy y hy).below hB
    have hxl : xs.length ≤ 40 := by
      have h1 := congrArg List.length hmap
      rw [List.length_map] at h1
      have := List.length_filter_le (fun x : NodeV => allF qs x.path) l
      omega
    refine (rCopy_any A9 xs.length c9 (xs.map (·.1)) (by rw [List.length_map]) (by omega) (fun x hx9 => by
      rw [hmap] at hx9
      exact hsz x (List.mem_filter.1 hx9).1) W hN9).mono ?_
    rintro e w' ⟨v, zs, rfl, h1, h2, h3⟩
    exact ⟨v, zs, rfl, by rw [h1, hmap], h2.mono hB.size, hB.trans (h3.mono hB.size)⟩
  have HN := Lib.hid hn
  have HA := Lib.hid hA
  have HP := Lib.hid hp
  clear hn hc hsz hp hn1 hok hA hA1 ht hr
  go_enter Tryz.func18, Tryz.ntmps18
  go_wp2_with fail
  refine (H1.out _ (Below.refl _ _)).mono ?_; rintro e x1 ⟨rfl, hb⟩
  have HB1 := Lib.hid hb
  clear hb
  go_wp2_with fail
  refine (H2.out _ HB1.out).mono ?_; rintro e x2 ⟨rfl, hb⟩
  have HB2 := Lib.hid (HB1.out.trans (hb.mono HB1.out.size))
  clear hb HB1
  go_wp2_with fail
  go_loopw [8, 25] (fun ov iv wr => ∃ (k : Nat) (xs : List NodP), k ≤ n ∧ iv = .int .i64 k ∧ xs.length ≤ k ∧ Hid (RowN wr w.heap.size ov xs) ∧ Hid (xs.map (·.1) = (l.take k).filter fun x => allF qs x.path) ∧ Hid (∀ y ∈ xs, DatOk w y.2 y.1.data) ∧ Hid (Below w.heap.size w wr)) (fun _ iv _ => n - (intOf iv).toNat)
  case atStart => exact ⟨0, [], Nat.zero_le _, rfl, Nat.zero_le _, RowN.nil _ _, (by unfold Hid; rw [List.take_zero]; rfl), (fun y hy => by cases hy), HB2.out⟩
  case round =>
    obtain ⟨k, xs, hk, rfl, hxl, HR, HM, HDT, HB⟩ := hrel
    by_cases hlt : k < n
    · have hk1 : k < l.length := by rw [HN.out]; exact hlt
      obtain ⟨b, o, E, cc, hbo, hb1, hSl, hE, hcl⟩ := HA.out.cells2 k hk1
      subst hbo
      obtain ⟨c0, c1, c2', c3, ⟨c4, c5, c6, c7, c8, c9, cA⟩, cB⟩ := hcl wr HB.out
      have hfs := filter_snoc (fun x : NodeV => allF qs x.path) l k hk1
      have hpl := HP.out _ (List.getElem_mem hk1)
      generalize hy : l[k] = y at *
      have HFs := Lib.hid hfs
      have HYD : Hid (DatOk w (.slice E y.data.length cc) y.data) := ⟨E, cc, rfl, hSl, hE⟩
      clear hy hcl hSl hE hb1 hfs
      go_upto_region 11 with fail
      have HBl := Lib.hid (Blk.new wr 51 #[.string (bs y.path), .int .i64 y.kind, .int .i64 y.same, .string (bs y.target), .int .i64 y.md.mode, .int .i64 y.md.uid, .int .i64 y.md.gid, .string (bs y.md.user), .string (bs y.md.group), .int .i64 y.md.second, .int .i64 y.md.nano, .slice E y.data.length cc])
      have HBa := Lib.hid (belowA HB.out (.cells #[.string (bs y.path), .int .i64 y.kind, .int .i64 y.same, .string (bs y.target), .int .i64 y.md.mode, .int .i64 y.md.uid, .int .i64 y.md.gid, .string (bs y.md.user), .string (bs y.md.group), .int .i64 y.md.second, .int .i64 y.md.nano, .slice E y.data.length cc] 51))
      have HRa := Lib.hid (RowN.alloc HR.out (.cells #[.string (bs y.path), .int .i64 y.kind, .int .i64 y.same, .string (bs y.target), .int .i64 y.md.mode, .int .i64 y.md.uid, .int .i64 y.md.gid, .string (bs y.md.user), .string (bs y.md.group), .int .i64 y.md.second, .int .i64 y.md.nano, .slice E y.data.length cc] 51))
      generalize hwa : wr.alloc _ = wa at HBl HBa HRa ⊢
      obtain ⟨g, hg⟩ : ∃ g, g = wr.heap.size := ⟨_, rfl⟩
      rw [← hg] at HBl ⊢
      obtain ⟨⟨e0, e1, e2, e3, e4, e5, e6, e7, e8, e9, eA, eB⟩, -⟩ := blk12 HBl.out
      clear hwa hg c0 c1 c2' c3 c4 c5 c6 c7 c8 c9 cA cB
      go_upto_region 13 with fail
      clear e0 e1 e2 e3 e4 e5 e6 e7 e8 e9 eA eB
      have hps : (bs y.path).size ≤ 1000 := by rw [bs_size]; exact hpl
      go_wp2_with fail
      go_loopw [11, 12] (fun bv sv wy => ∃ (is : Bool) (s : ByteArray), bv = .bool is ∧ sv = .string s ∧ s.size ≤ 1000 ∧ Hid (allF qs y.path = (is && allF qs s.data.toList)) ∧ Hid (Below wa.heap.size wa wy)) (fun _ sv _ => strLen sv)
      case atStart => exact ⟨true, bs y.path, rfl, rfl, hps, (by unfold Hid; rw [bs_list, Bool.true_and]), Below.refl _ _⟩
      case round =>
        obtain ⟨is, s, rfl, rfl, hss, HI, HY⟩ := hrel
        rename World => wy
        have hsl : s.data.toList.length = s.size := by simp
        by_cases hlt2 : 0 < s.size
        · have hne : s.data.toList ≠ [] := fun h => by rw [h] at hsl; simp at hsl; omega
          have f0 : s.toList.isEmpty = false := toList_ne hne
          have hst := allF_step qs hne
          have hul := up_less hne
          have hI := HI.out
          rw [hst] at hI
          have HSp := Lib.hid fun W => rSplit_any s W (by omega)
          have HTk := Lib.hid (H3.out s hss wy (HBa.out.trans (HY.out.mono HBa.out.size)))
          obtain ⟨U, HU⟩ := hid_name (⟨(upL s.data.toList).toArray⟩ : ByteArray)
          rw [HU.out] at HSp
          have hUl : U.data.toList = upL s.data.toList := by rw [← HU.out]
          have hUs : U.size < s.size := by
            have h1 : U.data.toList.length = U.size := by simp
            rw [hUl] at h1; omega
          rw [← hUl] at hI
          cases is with
          | true =>
            obtain ⟨tk, Htk⟩ := hid_name (takenF qs s.data.toList)
            rw [Htk.out] at HTk hI
            rw [Bool.true_and] at hI
            have HI2 := Lib.hid hI
            clear hI hst hul hUl hne hsl
            go_wp2_with fail
            refine HTk.out.mono ?_; rintro e w6 ⟨rfl, hb⟩
            have HY6 := Lib.hid (HY.out.trans (hb.mono HY.out.size))
            clear hb
            go_wp2_with fail
            refine (HSp.out _).mono ?_; rintro e w7 ⟨rfl, hb⟩
            have HY7 := Lib.hid (HY6.out.trans (hb.mono HY6.out.size))
            clear hb
            go_wp2_with fail
            go_roundw
            case rel => exact ⟨tk, U, rfl, rfl, by omega, HI2.out, HY7.out⟩
            case measure => simp only [strLen]; omega
          | false =>
            rw [Bool.false_and] at hI
            have HI2 := Lib.hid hI
            clear hI hst hul hUl hne hsl
            go_wp2_with fail
            refine (HSp.out _).mono ?_; rintro e w7 ⟨rfl, hb⟩
            have HY7 := Lib.hid (HY.out.trans (hb.mono HY.out.size))
            clear hb
            go_wp2_with fail
            go_roundw
            case rel => exact ⟨false, U, rfl, rfl, by omega, (by unfold Hid; rw [HI2.out, Bool.false_and]), HY7.out⟩
            case measure => simp only [strLen]; omega
        · have hnil : s.data.toList = [] := List.eq_nil_of_length_eq_zero (by omega)
          have f0 : s.toList = [] := toList_nil hnil
          have hI := HI.out
          rw [hnil, allF_nil, Bool.and_true] at hI
          have HB6 := Lib.hid (HBa.out.trans (HY.out.mono HBa.out.size))
          have HR6 := Lib.hid (HRa.out.below HY.out)
          have HBl6 := Lib.hid (HBl.out.below HY.out HBl.out.lt)
          have hfs := HFs.out
          rw [hI] at hfs
          clear hnil hsl hI
          cases is with
          | true =>
            rw [if_pos rfl] at hfs
            have HST := Lib.hid hfs
            clear hfs
            obtain ⟨⟨e0, e1, e2, e3, e4, e5, e6, e7, e8, e9, eA, eB⟩, -⟩ := blk12 HBl6.out
            go_wp2_with (at_builtin; refine Stay.go ?_)
            refine Stay.on ?_
            refine append_nodes rfl (.tmp 45) (.tmp 47) rfl w.heap.size _ xs rfl (HR6.out.alloc _) (some ⟨wy.heap.size, 0, none⟩) 1 1 [(y, .slice E y.data.length cc)] rfl rfl (cells_new wy (y, .slice E y.data.length cc)) (by simp [Value.oneCell']) (fun e => by cases e) (by omega) (by simp; have := HB6.out.size; omega) ?_
            intro v7 w7 ho7 hg7
            have HR7 := Lib.hid ho7
            have HB7 : Hid (Below w.heap.size w w7) := (HB6.out.alloc HB6.out.size _).grown hg7 (by rw [hszA]; have := HB6.out.size; omega) HR6.out.above
            have HM7 : Hid ((xs ++ [((y, .slice E y.data.length cc) : NodP)]).map (·.1) = (l.take (k + 1)).filter fun x => allF qs x.path) := by
              unfold Hid; rw [HST.out, List.map_append, HM.out]; rfl
            have HD7 : Hid (∀ z ∈ xs ++ [((y, .slice E y.data.length cc) : NodP)], DatOk w z.2 z.1.data) := fun z hz => by
              rcases List.mem_append.1 hz with a | a
              · exact HDT.out z a
              · obtain rfl : z = (y, .slice E y.data.length cc) := by simpa using a
                exact HYD.out
            have hl7 : (xs ++ [((y, .slice E y.data.length cc) : NodP)]).length ≤ k + 1 := by rw [List.length_append, List.length_singleton]; omega
            clear ho7 hg7 e0 e1 e2 e3 e4 e5 e6 e7 e8 e9 eA eB
            go_wp2_with fail
            go_roundw
            case rel => exact ⟨k + 1, _, by omega, by go_num, hl7, HR7.out, HM7.out, HD7.out, HB7.out⟩
            case measure => simp [intOf]; omega
          | false =>
            rw [if_neg (by decide), List.append_nil] at hfs
            have HM7 : Hid (xs.map (·.1) = (l.take (k + 1)).filter fun x => allF qs x.path) := by unfold Hid; rw [hfs, HM.out]
            clear hfs
            go_wp2_with fail
            go_roundw
            case rel => exact ⟨k + 1, xs, by omega, by go_num, by omega, HR6.out, HM7.out, HDT.out, HB6.out⟩
            case measure => simp [intOf]; omega
    · obtain rfl : k = n := by omega
      have hm9 := HM.out
      rw [List.take_of_length_le (by rw [HN.out]; omega)] at hm9
      have HC := Lib.hid (HFin.out _ xs _ HR.out hm9 HDT.out HB.out)
      clear hm9
      go_wp2_with fail
      refine HC.out.mono ?_; rintro e w9 ⟨v, xs, rfl, h1, h2, h3⟩
      have HV := Lib.hid (And.intro h1 (And.intro h2 h3))
      clear h1 h2 h3
      go_wp2_with fail
      refine bodyPost_ret (v := .tuple #[v, .int .i64 0]) (by simp [results, Tryz.results18, go_sem, *]) rfl ?_
      exact ⟨v, xs, rfl, HV.out.1, HV.out.2.1, HV.out.2.2⟩
theorem sound_path {l : List NodeV} (h : treeE l = 0) : l.length ≤ 40 ∧ ∀ x ∈ l, nodE x = 0 ∧ x.path.length ≤ 400 := by
  obtain ⟨h1, -, h2, -, -⟩ := (treeE_zero l).1 h
  refine ⟨h1, fun x hx => ⟨h2 x hx, ?_⟩⟩
  have h3 := h2 x hx
  apply Classical.byContradiction
  intro hc
  have h4 : pathE x.path = 1 := pathE_size (.inr (by omega))
  unfold nodE at h3
  first
    | (rw [if_pos (by rw [h4]; decide)] at h3; rw [h4] at h3; cases h3)
    | (rw [h4] at h3; simp at h3)
theorem Filtered_any (A : Option Addr) (n c : Nat) (l : List NodeV) (hn : l.length = n) (hc : SlOk A n c) (hsz : ∀ x ∈ l, x.sz) (A1 : Option Addr) (n1 c1 : Nat) (qs : List RuleV) (hn1 : qs.length = n1) (hn12 : n1 ≤ 140737488355328) (hok : okR qs) (w : World) (hA : NodesAt w A l) (hA1 : RulesAt w A1 qs) :
    Calls Tryz.prog 18 #[.slice A n c, .slice A1 n1 c1] w fun e w' => ∃ v xs, e = .returned (.tuple #[v, .int .i64 (runE l qs)]) ∧ xs.map (·.1) = runL l qs ∧ OwnN w' w.heap.size v xs ∧ Below w.heap.size w w' := by
  have H1 := Lib.hid fun W (h : Below w.heap.size w W) => rTree_any A n c l hn hc hsz W (hA.below h)
  have H2 := Lib.hid fun W (h : Below w.heap.size w W) => RulesFault_any A1 n1 c1 qs hn1 hn12 hok W (hA1.below h)
  by_cases ht : treeE l = 0
  · by_cases hr : rulesE qs = 0
    · have hE : runE l qs = 0 := by unfold runE; rw [if_pos ht, hr]
      rw [hE, show runL l qs = l.filter (fun x => allF qs x.path) from if_pos hE]
      obtain ⟨s1, s2⟩ := sound_path ht
      exact Filtered_ok A n c l hn hc hsz (by omega) (fun x hx => by have := (s2 x hx).2; omega) A1 n1 c1 qs hn1 hn12 hok w hA hA1 ht hr
    · have hE : runE l qs = rulesE qs := by unfold runE; rw [if_pos ht]
      rw [hE, show runL l qs = [] from if_neg (by rw [hE]; exact hr)]
      rw [ht] at H1
      obtain ⟨E, HEE⟩ := hid_name (rulesE qs)
      rw [HEE.out] at H2 hr ⊢
      have hne : (E == 0) = false := by simpa using hr
      clear hn hc hsz hn1 hok hA hA1 ht hr hE
      go_enter Tryz.func18, Tryz.ntmps18
      go_wp2_with fail
      refine (H1.out _ (Below.refl _ _)).mono ?_; rintro e x1 ⟨rfl, hb⟩
      have HB1 := Lib.hid hb
      clear hb
      go_wp2_with fail
      refine (H2.out _ HB1.out).mono ?_; rintro e x2 ⟨rfl, hb⟩
      have HB2 := Lib.hid (HB1.out.trans (hb.mono HB1.out.size))
      clear hb HB1
      go_wp2_with fail
      refine bodyPost_ret (v := .tuple #[.slice none 0 0, .int .i64 E]) (by simp [results, Tryz.results18, go_sem, *]) rfl ?_
      exact ⟨_, [], rfl, rfl, OwnN.nil _ _, HB2.out⟩
  · have hE : runE l qs = treeE l := by unfold runE; rw [if_neg ht]
    rw [hE, show runL l qs = [] from if_neg (by rw [hE]; exact ht)]
    obtain ⟨E, HEE⟩ := hid_name (treeE l)
    rw [HEE.out] at H1 ht ⊢
    have hne : (E == 0) = false := by simpa using ht
    clear hn hc hsz hn1 hok hA hA1 ht hE
    go_enter Tryz.func18, Tryz.ntmps18
    go_wp2_with fail
    refine (H1.out _ (Below.refl _ _)).mono ?_; rintro e x1 ⟨rfl, hb⟩
    have HB1 := Lib.hid hb
    clear hb
    go_wp2_with fail
    refine bodyPost_ret (v := .tuple #[.slice none 0 0, .int .i64 E]) (by simp [results, Tryz.results18, go_sem, *]) rfl ?_
    exact ⟨_, [], rfl, rfl, OwnN.nil _ _, HB1.out⟩
end Go.Proofs.YtoikpnjnljdpaaaGreatDoor
/- What a path is in, among the nodes kept of a prefix of a tree: mathematics of package filter. -/
set_option linter.unusedVariables false
set_option maxRecDepth 100000
namespace Go.Proofs.YtoikpnjnljdpaaaGreatDoor
open Go.RowKit
open Go.OpenShut
/-- what a path is in is among those kept just where all that it is in are taken -/
theorem kept_up {l : List NodeV} (hs : Sound l) (qs : List RuleV) (k : Nat) (hk : k < l.length) (hne : upL l[k].path ≠ []) (m : Nat) (hm : ((l.take k).filter fun x => allF qs x.path).length = m) :
    decide (findL ((l.take k).filter fun x => allF qs x.path) (upL l[k].path) < m) = allF qs (upL l[k].path) := by
  subst hm
  have hall : ∀ x ∈ ((l.take k).filter fun x => allF qs x.path), allF qs x.path = true := fun x hx => (List.mem_filter.1 hx).2
  have hmem : ∀ x ∈ l.take k, allF qs x.path = true → x ∈ ((l.take k).filter fun x => allF qs x.path) := fun x hx h => List.mem_filter.2 ⟨hx, h⟩
  generalize ((l.take k).filter fun x => allF qs x.path) = T at hall hmem ⊢
  by_cases hf : findL T (upL l[k].path) < T.length
  · rw [decide_eq_true hf]
    have h1 := findL_at _ _ hf
    have h4 := hall _ (List.getElem_mem hf)
    rw [h1] at h4
    exact h4.symm
  · rw [decide_eq_false hf]
    have hE : findL T (upL l[k].path) = T.length := by have := findL_le T (upL l[k].path); omega
    have hno := findL_none.1 hE
    cases ha : allF qs (upL l[k].path) with
    | false => rfl
    | true =>
      exfalso
      rcases hs.up _ (List.getElem_mem hk) with h | ⟨d, hd, hp, -⟩
      · exact hne h
      · have hd2 := rises_ahead hs.rises k hk d hd (by rw [hp]; exact up_before hne)
        exact hno d (hmem d hd2 (by rw [hp]; exact ha)) hp
end Go.Proofs.YtoikpnjnljdpaaaGreatDoor
/- What the last rule that fits says: mathematics of package filter. -/
set_option linter.unusedVariables false
set_option maxRecDepth 100000
namespace Go.Proofs.YtoikpnjnljdpaaaGreatDoor
open Go.RowKit
open Go.OpenShut
/-- what has come when the indexes n - 1, .., k are over -/
def downF {α : Type} (f : Nat → α) (n k : Nat) : List α := (List.range (n - k)).map fun t => f (n - 1 - t)
theorem downF_full {α : Type} (f : Nat → α) (n : Nat) : downF f n n = [] := by simp [downF]
theorem downF_step {α : Type} (f : Nat → α) {n k : Nat} (h : k < n) : downF f n k = downF f n (k + 1) ++ [f k] := by
  unfold downF
  rw [show n - k = (n - (k + 1)) + 1 by omega, List.range_succ, List.map_append, List.map_singleton, show n - 1 - (n - (k + 1)) = k by omega]
theorem downF_len {α : Type} (f : Nat → α) (n k : Nat) : (downF f n k).length = n - k := by simp [downF]
theorem downF_mem {α : Type} {f : Nat → α} {n k : Nat} {x : α} : x ∈ downF f n k ↔ ∃ j, k ≤ j ∧ j < n ∧ x = f j := by
  unfold downF
  rw [List.mem_map]
  constructor
  · rintro ⟨t, ht, rfl⟩
    rw [List.mem_range] at ht
    exact ⟨n - 1 - t, by omega, by omega, rfl⟩
  · rintro ⟨j, h1, h2, rfl⟩
    exact ⟨n - 1 - j, List.mem_range.2 (by omega), by rw [show n - 1 - (n - 1 - j) = j by omega]⟩
theorem takenG_app (is : Bool) (a b : List RuleV) (s : List UInt8) : takenG is (a ++ b) s = takenG (takenG is a s) b s := by
  induction a generalizing is with
  | nil => rfl
  | cons r a ih => rw [List.cons_append, takenG_cons, ih, takenG_cons]
theorem takenG_no (is : Bool) (l : List RuleV) (s : List UInt8) (h : ∀ r ∈ l, fitsB r.2 s = false) : takenG is l s = is := by
  induction l with
  | nil => rfl
  | cons r l ih =>
    rw [takenG_cons, if_neg (by rw [h r List.mem_cons_self]; decide)]
    exact ih fun x hx => h x (List.mem_cons_of_mem _ hx)
theorem takenF_none {qs : List RuleV} {s : List UInt8} (h : ∀ r ∈ qs, fitsB r.2 s = false) : takenF qs s = true := takenG_no true qs s h
theorem takenF_last {qs : List RuleV} {s : List UInt8} (k : Nat) (hk : k < qs.length) (hf : fitsB qs[k].2 s = true) (h : ∀ j (hj : j < qs.length), k < j → fitsB qs[j].2 s = false) : takenF qs s = qs[k].1 := by
  have he : qs = qs.take k ++ qs[k] :: qs.drop (k + 1) := by rw [← List.drop_eq_getElem_cons hk, List.take_append_drop]
  unfold takenF
  conv => lhs; rw [he]
  rw [takenG_app, takenG_cons, if_pos hf]
  refine takenG_no _ _ _ fun r hr => ?_
  obtain ⟨j, hj, rfl⟩ := List.mem_iff_getElem.1 hr
  rw [List.getElem_drop]
  exact h _ _ (by omega)
end Go.Proofs.YtoikpnjnljdpaaaGreatDoor
