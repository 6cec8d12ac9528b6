/- Texts of one kind, in one file: Rul, FltA, FltB, FltU, FltT. -/
import Derived.Test.YtmejnabngfpbeaaGreatDoorPth
import Derived.Test.YtmejnabngfpbeaaGreatDoorBas
import Derived.Test.YtmejnabngfpbeaaGreatDoorArb
import Derived.Deep.RegionLaw
import Derived.Test.YtmejnabngfpbeaaGreatDoorGlb
import Derived.Test.YtmejnabngfpbeaaGreatDoorNod
import Derived.Test.YtmejnabngfpbeaaGreatDoorTra
set_option linter.unusedVariables false
set_option maxRecDepth 100000
namespace Go.Proofs.YtmejnabngfpbeaaGreatDoor
open Go.RowKit
open Go.OpenShut
open Go.ChangeShapes Go.WideShapes Go.Deep
abbrev RuleV : Type := Bool × List UInt8
def ruleC (q : RuleV) : List Value := [.bool q.1, strV q.2]
def rulesC (qs : List RuleV) : List Value := qs.flatMap ruleC
theorem rulesC_get (qs : List RuleV) (j : Nat) (hj : j < qs.length) : (rulesC qs)[j * 2]? = some (.bool qs[j].1) ∧ (rulesC qs)[j * 2 + 1]? = some (strV qs[j].2) := by
 induction qs generalizing j with
 | nil => simp at hj
 | cons x xs ih =>
  rw [show rulesC (x :: xs) = .bool x.1 :: strV x.2 :: rulesC xs from rfl]
  cases j with
  | zero => exact ⟨rfl, rfl⟩
  | succ j =>
   obtain ⟨h1, h2⟩ := ih j (by simpa using hj)
   rw [show (j + 1) * 2 = j * 2 + 1 + 1 by omega, show j * 2 + 1 + 1 + 1 = (j * 2 + 1) + 1 + 1 by omega]
   exact ⟨by simpa using h1, by simpa using h2⟩
def Rls (w : World) (B : Nat) (v : Value) (qs : List RuleV) : Prop := w.ownsRow B 202 2 v qs.length (rulesC qs)
theorem Rls.nil (w : World) (B : Nat) : Rls w B (.slice none 0 0) [] := World.ownsRow_nil _ _ _ _
theorem Rls.below {w w' : World} {B : Nat} {v : Value} {qs : List RuleV} (h : Rls w B v qs) (hb : Below w.heap.size w w') : Rls w' B v qs :=
 own_heap h fun g hg => hb.block g (World.ownsRow.lt h g hg).2
theorem Rls.any {w : World} {B : Nat} {v : Value} {qs : List RuleV} (h : Rls w B v qs) : ∃ A cap, v = .slice A qs.length cap ∧ ∀ j (hj : j < qs.length), ∃ g, A = some ⟨g, 0, none⟩ ∧ w.cell? ⟨g, j * 2, none⟩ = some (.bool qs[j].1) ∧ w.cell? ⟨g, j * 2 + 1, none⟩ = some (strV qs[j].2) := by
 have h' := h
 unfold Rls World.ownsRow at h
 rcases h.2 with ⟨rfl, h0⟩ | ⟨g, cap, cur, rfl, hB, hg, hcap, hm, hs, ht⟩
 ·exact ⟨none, 0, by rw [h0], fun j hj => by omega⟩
 ·refine ⟨some ⟨g, 0, none⟩, cap, rfl, fun j hj => ⟨g, rfl, ?_, ?_⟩⟩
  ·unfold Rls at h'
   rw [h'.cellAt (j * 2) (by omega), (rulesC_get qs j hj).1]
  ·unfold Rls at h'
   rw [h'.cellAt (j * 2 + 1) (by omega), (rulesC_get qs j hj).2]
theorem Rls.alloc {w : World} {B : Nat} {v : Value} {qs : List RuleV} (h : Rls w B v qs) (o : Obj) : Rls (w.alloc o) B v qs := World.ownsRow.alloc h o
def RulesAt (w : World) (A : Option Addr) (l : List RuleV) : Prop :=
 ∀ (j : Nat) (h : j < l.length), ∃ b o, A = some ⟨b, o, none⟩ ∧ w.cell? ⟨b, o + j * 2, none⟩ = some (.bool l[j].1) ∧ w.cell? ⟨b, o + j * 2 + 1, none⟩ = some (strV l[j].2)
theorem RulesAt.below {w w' : World} {A : Option Addr} {l : List RuleV} (h : RulesAt w A l) (hb : Below w.heap.size w w') : RulesAt w' A l := fun j hj => by
 obtain ⟨b, o, e, h0, h1⟩ := h j hj
 have hlt : b < w.heap.size := World.block_lt_of_cell? w _ h0
 exact ⟨b, o, e, (hb.cell (p := ⟨b, o + j * 2, none⟩) hlt).trans h0, (hb.cell (p := ⟨b, o + j * 2 + 1, none⟩) hlt).trans h1⟩
theorem Rls.at {w : World} {B n c : Nat} {A : Option Addr} {l : List RuleV} (h : Rls w B (.slice A n c) l) : RulesAt w A l := fun j hj => by
 obtain ⟨A2, c2, e, hc⟩ := h.any
 injection e with e _ _
 subst e
 obtain ⟨g, rfl, h1, h2⟩ := hc j hj
 exact ⟨g, 0, rfl, by rw [Nat.zero_add]; exact h1, by rw [Nat.zero_add]; exact h2⟩
section
variable {H : Type} {enc : TypeId × Value → H} {w : World} {base : Nat} {spare : Nat → Bool} {held : Bool}
end
end Go.Proofs.YtmejnabngfpbeaaGreatDoor
namespace Go.Proofs.YtmejnabngfpbeaaGreatDoor
open Go.RowKit
open Go.OpenShut
def rulesP : List RuleV → Int
 | [] => 0
 | r :: l => if globE r.2 = 0 then rulesP l else globE r.2
def rulesE (l : List RuleV) : Int := if 12 < l.length then 1 else rulesP l
def takenG (is : Bool) : List RuleV → List UInt8 → Bool
 | [], _ => is
 | r :: l, s => takenG (if fitsB r.2 s = true then r.1 else is) l s
def takenF (l : List RuleV) (s : List UInt8) : Bool := takenG true l s
def takeE (l : List RuleV) (s : List UInt8) : Int := if rulesE l = 0 then pathE s else rulesE l
def takeB (l : List RuleV) (s : List UInt8) : Bool := decide (takeE l s = 0) && takenF l s
theorem rulesP_cons (r : RuleV) (l : List RuleV) : rulesP (r :: l) = if globE r.2 = 0 then rulesP l else globE r.2 := rfl
theorem takenG_cons (is : Bool) (r : RuleV) (l : List RuleV) (s : List UInt8) : takenG is (r :: l) s = takenG (if fitsB r.2 s = true then r.1 else is) l s := rfl
def okR (qs : List RuleV) : Prop := ∀ q ∈ qs, q.2.length ≤ 140737488351232
theorem rule_cells {w : World} {A : Option Addr} {qs : List RuleV} (h : RulesAt w A qs) {k : Nat} (hk : k < qs.length) {r : RuleV} (hr : qs[k] = r) {P : ByteArray} (hP : (⟨r.2.toArray⟩ : ByteArray) = P) :
  ∃ b o, A = some ⟨b, o, none⟩ ∧ w.cell? ⟨b, o + k * 2, none⟩ = some (.bool r.1) ∧ w.cell? ⟨b, o + k * 2 + 1, none⟩ = some (.string P) := by
 obtain ⟨b, o, e, h0, h1⟩ := h k hk
 rw [hr] at h0 h1
 unfold strV at h1
 rw [hP] at h1
 exact ⟨b, o, e, h0, h1⟩
theorem up_less {s : List UInt8} (h : s ≠ []) : (upL s).length < s.length := by
 by_cases hu : upL s = []
 ·rw [hu]; exact List.length_pos_iff.2 h
 ·have := up_join hu
  have h2 := congrArg List.length this
  rw [List.length_append, List.length_cons] at h2
  omega
def upsF (qs : List RuleV) : Nat → List UInt8 → Bool
 | 0, _ => true
 | k + 1, s => if s = [] then true else takenF qs s && upsF qs k (upL s)
def allF (qs : List RuleV) (s : List UInt8) : Bool := upsF qs s.length s
theorem upsF_fuel (qs : List RuleV) : ∀ (k : Nat) (s : List UInt8), s.length ≤ k → upsF qs k s = allF qs s := by
 intro k
 induction k using Nat.strongRecOn with
 | _ k ih =>
  intro s hs
  by_cases h : s = []
  ·subst h
   cases k with
   | zero => rfl
   | succ k => show (if ([] : List UInt8) = [] then true else _) = true; rw [if_pos rfl]
  ·have hu := up_less h
   have hpos := List.length_pos_iff.2 h
   cases k with
   | zero => omega
   | succ k =>
    obtain ⟨m, hm⟩ : ∃ m, s.length = m + 1 := ⟨s.length - 1, by omega⟩
    unfold allF
    rw [hm]
    show (if s = [] then true else takenF qs s && upsF qs k (upL s)) = (if s = [] then true else takenF qs s && upsF qs m (upL s))
    rw [if_neg h, if_neg h, ih k (by omega) _ (by omega), ih m (by omega) _ (by omega)]
theorem allF_nil (qs : List RuleV) : allF qs [] = true := rfl
theorem allF_step (qs : List RuleV) {s : List UInt8} (h : s ≠ []) : allF qs s = (takenF qs s && allF qs (upL s)) := by
 have hu := up_less h
 obtain ⟨m, hm⟩ : ∃ m, s.length = m + 1 := ⟨s.length - 1, by have := List.length_pos_iff.2 h; omega⟩
 conv => lhs; unfold allF
 rw [hm]
 show (if s = [] then true else takenF qs s && upsF qs m (upL s)) = _
 rw [if_neg h, upsF_fuel qs m _ (by omega)]
def runE (l : List NodeV) (qs : List RuleV) : Int := if treeE l = 0 then rulesE qs else treeE l
def runL (l : List NodeV) (qs : List RuleV) : List NodeV := if runE l qs = 0 then l.filter fun x => allF qs x.path else []
theorem node_path {x : NodeV} (h : nodE x = 0) : pathE x.path = 0 := by
 apply Classical.byContradiction
 intro hc
 unfold nodE at h
 first | (rw [if_neg hc] at h; exact hc h) | (rw [if_pos hc] at h; exact hc h) | (split at h; exact hc h; exact hc ‹_›)
theorem filter_snoc {α : Type} (f : α → Bool) (l : List α) (k : Nat) (h : k < l.length) : (l.take (k + 1)).filter f = (l.take k).filter f ++ if f l[k] = true then [l[k]] else [] := by
 rw [List.take_succ_eq_append_getElem h, List.filter_append]
 congr 1
 by_cases hf : f l[k] = true
 ·rw [if_pos hf]; simp [hf]
 ·rw [if_neg hf]; simp [hf]
theorem sound_path {l : List NodeV} (h : treeE l = 0) : l.length ≤ 40 ∧ ∀ x ∈ l, nodE x = 0 ∧ x.path.length ≤ 400 := by
 obtain ⟨h1, -, h2, -, -⟩ := (treeE_zero l).1 h
 refine ⟨h1, fun x hx => ⟨h2 x hx, ?_⟩⟩
 have h3 := h2 x hx
 apply Classical.byContradiction
 intro hc
 have h4 : pathE x.path = 1 := pathE_size (.inr (by omega))
 unfold nodE at h3
 first
  | (rw [if_pos (by rw [h4]; decide)] at h3; rw [h4] at h3; cases h3)
  | (rw [h4] at h3; simp at h3)
theorem kept_up {l : List NodeV} (hs : Sound l) (qs : List RuleV) (k : Nat) (hk : k < l.length) (hne : upL l[k].path ≠ []) (m : Nat) (hm : ((l.take k).filter fun x => allF qs x.path).length = m) :
  decide (findL ((l.take k).filter fun x => allF qs x.path) (upL l[k].path) < m) = allF qs (upL l[k].path) := by
 subst hm
 have hall : ∀ x ∈ ((l.take k).filter fun x => allF qs x.path), allF qs x.path = true := fun x hx => (List.mem_filter.1 hx).2
 have hmem : ∀ x ∈ l.take k, allF qs x.path = true → x ∈ ((l.take k).filter fun x => allF qs x.path) := fun x hx h => List.mem_filter.2 ⟨hx, h⟩
 generalize ((l.take k).filter fun x => allF qs x.path) = T at hall hmem ⊢
 by_cases hf : findL T (upL l[k].path) < T.length
 ·rw [decide_eq_true hf]
  have h1 := findL_at _ _ hf
  have h4 := hall _ (List.getElem_mem hf)
  rw [h1] at h4
  exact h4.symm
 ·rw [decide_eq_false hf]
  have hE : findL T (upL l[k].path) = T.length := by have := findL_le T (upL l[k].path); omega
  have hno := findL_none.1 hE
  cases ha : allF qs (upL l[k].path) with
  | false => rfl
  | true =>
   exfalso
   rcases hs.up _ (List.getElem_mem hk) with h | ⟨d, hd, hp, -⟩
   ·exact hne h
   ·have hd2 := rises_ahead hs.rises k hk d hd (by rw [hp]; exact up_before hne)
    exact hno d (hmem d hd2 (by rw [hp]; exact ha)) hp
def downF {α : Type} (f : Nat → α) (n k : Nat) : List α := (List.range (n - k)).map fun t => f (n - 1 - t)
theorem downF_full {α : Type} (f : Nat → α) (n : Nat) : downF f n n = [] := by simp [downF]
theorem downF_step {α : Type} (f : Nat → α) {n k : Nat} (h : k < n) : downF f n k = downF f n (k + 1) ++ [f k] := by
 unfold downF
 rw [show n - k = (n - (k + 1)) + 1 by omega, List.range_succ, List.map_append, List.map_singleton, show n - 1 - (n - (k + 1)) = k by omega]
theorem downF_len {α : Type} (f : Nat → α) (n k : Nat) : (downF f n k).length = n - k := by simp [downF]
theorem downF_mem {α : Type} {f : Nat → α} {n k : Nat} {x : α} : x ∈ downF f n k ↔ ∃ j, k ≤ j ∧ j < n ∧ x = f j := by
 unfold downF
 rw [List.mem_map]
 constructor
 ·rintro ⟨t, ht, rfl⟩
  rw [List.mem_range] at ht
  exact ⟨n - 1 - t, by omega, by omega, rfl⟩
 ·rintro ⟨j, h1, h2, rfl⟩
  exact ⟨n - 1 - j, List.mem_range.2 (by omega), by rw [show n - 1 - (n - 1 - j) = j by omega]⟩
theorem takenG_app (is : Bool) (a b : List RuleV) (s : List UInt8) : takenG is (a ++ b) s = takenG (takenG is a s) b s := by
 induction a generalizing is with
 | nil => rfl
 | cons r a ih => rw [List.cons_append, takenG_cons, ih, takenG_cons]
theorem takenG_no (is : Bool) (l : List RuleV) (s : List UInt8) (h : ∀ r ∈ l, fitsB r.2 s = false) : takenG is l s = is := by
 induction l with
 | nil => rfl
 | cons r l ih =>
  rw [takenG_cons, if_neg (by rw [h r List.mem_cons_self]; decide)]
  exact ih fun x hx => h x (List.mem_cons_of_mem _ hx)
theorem takenF_none {qs : List RuleV} {s : List UInt8} (h : ∀ r ∈ qs, fitsB r.2 s = false) : takenF qs s = true := takenG_no true qs s h
theorem takenF_last {qs : List RuleV} {s : List UInt8} (k : Nat) (hk : k < qs.length) (hf : fitsB qs[k].2 s = true) (h : ∀ j (hj : j < qs.length), k < j → fitsB qs[j].2 s = false) : takenF qs s = qs[k].1 := by
 have he : qs = qs.take k ++ qs[k] :: qs.drop (k + 1) := by rw [← List.drop_eq_getElem_cons hk, List.take_append_drop]
 unfold takenF
 conv => lhs; rw [he]
 rw [takenG_app, takenG_cons, if_pos hf]
 refine takenG_no _ _ _ fun r hr => ?_
 obtain ⟨j, hj, rfl⟩ := List.mem_iff_getElem.1 hr
 rw [List.getElem_drop]
 exact h _ _ (by omega)
end Go.Proofs.YtmejnabngfpbeaaGreatDoor
