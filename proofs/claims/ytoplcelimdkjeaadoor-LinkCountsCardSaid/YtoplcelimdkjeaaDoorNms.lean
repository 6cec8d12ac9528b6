/- Rows of numbers of the call's own; comparing them. -/
import Derived.Test.YtoplcelimdkjeaaDoorOwb
import Derived.BigQuiet
import Derived.Deep.QuietTactic
import Derived.Deep.DeepCutAuto
set_option linter.unusedVariables false
set_option maxRecDepth 100000
namespace Go.Proofs.YtoplcelimdkjeaaDoor
open Go.RowKit
open Go.OpenShut
/-- the numbers l in memory -/
def NumsAt (w : World) (A : Option Addr) (l : List Int) : Prop := ∀ j (hj : j < l.length), ∃ b o, A = some ⟨b, o, none⟩ ∧ w.cell? ⟨b, o + j, none⟩ = some (.int .i64 l[j])
theorem NumsAt.below {w w' : World} {A : Option Addr} {l : List Int} (h : NumsAt w A l) (hb : Below w.heap.size w w') : NumsAt w' A l := fun j hj => by
  obtain ⟨b, o, e, hc⟩ := h j hj
  exact ⟨b, o, e, (hb.cell (p := ⟨b, o + j, none⟩) (World.block_lt_of_cell? w _ hc)).trans hc⟩
theorem info_int : (Tryd.prog.info? 3).map (fun i => (i.zero, i.size, i.bytes)) = some (some (.int .i64 0), 1, 8) := by kernel_rfl
/-- numbers in a row of the call's own -/
def OwnI (w : World) (B : Nat) (v : Value) (l : List Int) : Prop := w.ownsRow B 3 1 v l.length (l.map (Value.int .i64))
theorem OwnI.nil (w : World) (B : Nat) : OwnI w B (.slice none 0 0) [] := World.ownsRow_nil _ _ _ _
theorem OwnI.below {w w' : World} {B : Nat} {v : Value} {l : List Int} (h : OwnI w B v l) (hb : Below w.heap.size w w') : OwnI w' B v l :=
  own_heap h fun g hg => hb.block g (World.ownsRow.lt h g hg).2
theorem OwnI.alloc {w : World} {B : Nat} {v : Value} {l : List Int} (h : OwnI w B v l) (o : Obj) : OwnI (w.alloc o) B v l := World.ownsRow.alloc h o
theorem OwnI.at {w : World} {B : Nat} {v : Value} {l : List Int} (h : OwnI w B v l) : ∃ A c, v = .slice A l.length c ∧ NumsAt w A l := by
  have h' := h
  unfold OwnI World.ownsRow at h
  rcases h.2 with ⟨rfl, h0⟩ | ⟨g, cap, cur, rfl, hB, hg, hcap, hm, hs, ht⟩
  · exact ⟨none, 0, by rw [h0], fun j hj => by omega⟩
  · refine ⟨some ⟨g, 0, none⟩, cap, rfl, fun j hj => ⟨g, 0, rfl, ?_⟩⟩
    unfold OwnI at h'
    rw [Nat.zero_add, h'.cellAt j (by omega), List.getElem?_map, List.getElem?_eq_getElem hj]; rfl
/-- a number is appended to a row of the call's own -/
theorem append_int {w : World} {ops : Array Oper} {rest : List Oper} {o : Oper} {a : Act} {Q : Exit → Act → World → Prop} (hgd : o.guard = none) (s x : Operand)
    (ho : o.op = .call { callee := .builtin .append, args := #[s, x], argTypes := #[23, 23] }) (B : Nat) (v : Value) (l : List Int) (hs : a.eval s = v) (hown : OwnI w B v l)
    (g c : Nat) (z : Int) (hx : a.eval x = .slice (some ⟨g, 0, none⟩) 1 c) (hc : w.cell? ⟨g, 0, none⟩ = some (.int .i64 z)) (hbig : l.length ≤ 1000000) (hB : B ≤ w.heap.size)
    (h : ∀ v' w', OwnI w' B v' (l ++ [z]) → w.grownBy w' v.ownBlock → wpList Tryd.prog ops Q rest (a.put o.dst v') w') : wpList Tryd.prog ops Q (o :: rest) a w := by
  obtain ⟨i0, hi, hz0, hz1, hz2⟩ := info_parts info_int
  refine wpList_append_own _ hgd s x 23 ho B 3 i0 _ 1 8 Tryd.underlying23 hi hz0 hz1 hz2 rfl (by decide) v _ _ hs hown ⟨g, 0, none⟩ 1 c [.int .i64 z] hx rfl (fun j q hq => ?_) (fun q hq => ?_) (by unfold maxLen; omega) (by omega) hB ?_
  · cases j with
    | zero => simp at hq; subst hq; exact hc
    | succ j => simp at hq
  · obtain rfl := List.mem_singleton.1 hq; rfl
  · intro v6 w6 hown6 hgrow _
    exact h v6 w6 (by unfold OwnI; rw [List.length_append, List.map_append]; exact hown6) hgrow
theorem take_eq_snoc {l m : List Int} {k : Nat} (hl : k < l.length) (hm : k < m.length) (h : l.take k = m.take k) (e : l[k] = m[k]) : l.take (k + 1) = m.take (k + 1) := by
  rw [List.take_succ_eq_append_getElem hl, List.take_succ_eq_append_getElem hm, h, e]
set_option maxHeartbeats 1000000 in
theorem equalInts_any (A A2 : Option Addr) (n c n2 c2 : Nat) (l l2 : List Int) (hn : l.length = n) (hn2 : l2.length = n2) (hm : n ≤ 140737488355328) (hm2 : n2 ≤ 140737488355328) (w : World) (hA : NumsAt w A l) (hA2 : NumsAt w A2 l2) :
    Calls Tryd.prog 17 #[.slice A n c, .slice A2 n2 c2] w fun e w' => e = .returned (.bool (decide (l = l2))) ∧ Below w.heap.size w w' := by
  by_cases hne : n = n2
  · subst hne
    have HN := Lib.hid hn
    have HN2 := Lib.hid hn2
    have HA := Lib.hid hA
    have HA2 := Lib.hid hA2
    clear hn hn2 hA hA2
    go_enter Tryd.func17, Tryd.ntmps17
    go_wp2_with fail
    go_loopw [13] (fun iv wr => ∃ k : Nat, k ≤ n ∧ iv = .int .i64 k ∧ Hid (l.take k = l2.take k) ∧ Hid (Below w.heap.size w wr)) (fun iv _ => n - (intOf iv).toNat)
    case atStart => exact ⟨0, Nat.zero_le _, rfl, rfl, Below.refl _ _⟩
    case round =>
      obtain ⟨k, hk, rfl, HT, HB⟩ := hrel
      by_cases hlt : k < n
      · have k1 : k < l.length := by rw [HN.out]; exact hlt
        have k2 : k < l2.length := by rw [HN2.out]; exact hlt
        obtain ⟨b, o, rfl, e1⟩ := (HA.out.below HB.out) k k1
        obtain ⟨b', o', rfl, e2⟩ := (HA2.out.below HB.out) k k2
        have h1 : (k : Int) < (n : Int) := by omega
        have h2 : (0 : Int) ≤ (k : Int) := by omega
        by_cases he : l[k] = l2[k]
        · have HT1 := Lib.hid (take_eq_snoc k1 k2 HT.out he)
          rw [← he] at e2
          generalize l[k] = z at e1 e2
          clear he
          go_upto_region 6 with fail
          go_quiet (fail)
          go_wp2_with fail
          go_roundw
          case rel => exact ⟨k + 1, by omega, by go_num, HT1.out, below_drewN HB.out _⟩
          case measure => simp [intOf]; omega
        · have HR : Hid (decide (l = l2) = false) := decide_eq_false fun h => he (by simp only [h])
          have hz : (l[k] != l2[k]) = true := by simpa using he
          generalize l[k] = z at e1 hz
          generalize l2[k] = z2 at e2 hz
          clear he
          go_upto_region 6 with fail
          go_quiet (fail)
          go_wp2_with fail
          go_ret
          exact ⟨ret_bool HR.out.symm, below_drewN HB.out _⟩
      · obtain rfl : k = n := by omega
        have HR : Hid (decide (l = l2) = true) := by
          have := HT.out
          rw [List.take_of_length_le (by rw [HN.out]; exact Nat.le_refl _), List.take_of_length_le (by rw [HN2.out]; exact Nat.le_refl _)] at this
          exact decide_eq_true this
        go_wp2_with fail
        go_ret
        exact ⟨ret_bool HR.out.symm, HB.out⟩
  · have HR : Hid (decide (l = l2) = false) := decide_eq_false fun h => hne (by rw [← hn, ← hn2, h])
    have h1 : ((n : Int) != (n2 : Int)) = true := by simp; omega
    clear hn hn2 hA hA2
    go_enter Tryd.func17, Tryd.ntmps17
    go_wp2_with fail
    go_ret
    exact ⟨ret_bool HR.out.symm, Below.refl _ _⟩
theorem sameInts_any (A A2 : Option Addr) (n c n2 c2 : Nat) (l l2 : List Int) (hn : l.length = n) (hn2 : l2.length = n2) (hm : n ≤ 140737488355328) (hm2 : n2 ≤ 140737488355328) (w : World) (hA : NumsAt w A l) (hA2 : NumsAt w A2 l2) :
    Calls Tryd.prog 11 #[.slice A n c, .slice A2 n2 c2] w fun e w' => e = .returned (.bool (decide (l = l2))) ∧ Below w.heap.size w w' := by
  go_enter Tryd.func11, Tryd.ntmps11
  go_wp2_with fail
  refine (equalInts_any A A2 n c n2 c2 l l2 hn hn2 hm hm2 _ hA hA2).mono ?_; rintro e w1 ⟨rfl, hb⟩
  go_wp2_with fail
  go_ret
  exact ⟨rfl, hb⟩
end Go.Proofs.YtoplcelimdkjeaaDoor
