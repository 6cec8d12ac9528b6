/- Texts of one kind, in one file: Str, Txt. -/
import Derived.Test.YtldffnmoafhidaaGreatDoorNum
import Derived.BigQuiet
import Derived.Deep.QuietTactic
import Derived.Test.YtldffnmoafhidaaGreatDoorPth
import Derived.Laws.AppendOwnNone
set_option linter.unusedVariables false
namespace Go.Proofs.YtldffnmoafhidaaGreatDoor
open Go.RowKit
/-- begins the text s with p -/
def hasPre (s p : ByteArray) : Bool := decide (p.data.toList <+: s.data.toList)
theorem hasPre_iff (s p : ByteArray) : hasPre s p = true ↔ p.data.toList <+: s.data.toList := by simp [hasPre]
theorem extract_list (s : ByteArray) (a b : Nat) : (s.extract a b).data.toList = (s.data.toList.take b).drop a := by
  rw [ByteArray.data_extract, Array.toList_extract]; simp [List.extract, List.drop_take]
theorem pre_extract (s p : ByteArray) (_h : p.size ≤ s.size) : (s.extract 0 p.size = p) ↔ p.data.toList <+: s.data.toList := by
  constructor
  · intro e
    have := congrArg (fun b : ByteArray => b.data.toList) e
    simp only [extract_list, List.drop_zero] at this
    exact ⟨s.data.toList.drop p.size, by conv => lhs; rw [← this]
                                         exact List.take_append_drop _ _⟩
  · rintro ⟨t, ht⟩
    apply ByteArray.ext; apply Array.toList_inj.1
    rw [extract_list, List.drop_zero, ← ht]
    exact List.take_left' (by simp)
set_option maxHeartbeats 400000 in
theorem lHasPrefix_any (s p : ByteArray) (w : World) (hs : s.size ≤ maxLen) (hp : p.size ≤ maxLen) : Calls Tryz.prog 170 #[.string s, .string p] w fun e w' => e = .returned (.bool (hasPre s p)) ∧ w = w' := by
  unfold maxLen at hs hp
  by_cases h : p.size ≤ s.size
  · go_enter Tryz.func170, Tryz.ntmps170
    go_wp2
    go_ret
    exact ⟨ret_bool (by rw [str_eq, Bool.eq_iff_iff, hasPre_iff, decide_eq_true_eq]; exact pre_extract s p h), rfl⟩
  · have h4 : hasPre s p = false := by simp only [hasPre, decide_eq_false_iff_not]; exact fun h5 => h (by simpa using h5.length_le)
    have H4 := Lib.hid h4
    clear h4
    go_enter Tryz.func170, Tryz.ntmps170
    go_wp2
    go_ret
    exact ⟨ret_bool H4.out.symm, rfl⟩
theorem HasPrefix_any (s p : ByteArray) (w : World) (hs : s.size ≤ maxLen) (hp : p.size ≤ maxLen) : Calls Tryz.prog 93 #[.string s, .string p] w fun e w' => e = .returned (.bool (hasPre s p)) ∧ w = w' := by
  go_enter Tryz.func93, Tryz.ntmps93
  go_wp2_with fail
  refine (lHasPrefix_any s p _ hs hp).mono ?_; rintro e w' ⟨rfl, rfl⟩
  go_wp2_with fail
  go_ret
  exact ⟨rfl, rfl⟩
end Go.Proofs.YtldffnmoafhidaaGreatDoor
/- Lists of strings that are appended to a row of the call's own. -/
set_option linter.unusedVariables false
set_option maxRecDepth 100000
namespace Go.Proofs.YtldffnmoafhidaaGreatDoor
open Go.RowKit
open Go.OpenShut
/-- append of a list of strings to a row of strings of the call's own -/
theorem append_texts {w : World} {ops : Array Oper} {rest : List Oper} {o : Oper} {a : Act} {Q : Exit → Act → World → Prop} (hgd : o.guard = none) (s x : Operand)
    (ho : o.op = .call { callee := .builtin .append, args := #[s, x], argTypes := #[79, 79] }) (B : Nat) (v : Value) (ls : List (List UInt8)) (hs : a.eval s = v) (hown : Texts w B v ls)
    (B' : Nat) (u : Value) (ps : List (List UInt8)) (hx : a.eval x = u) (hA : Texts w B' u ps) (hbig : (ls.length + ps.length) * 16 ≤ 140737488355328) (hB : B ≤ w.heap.size)
    (h : ∀ v' w', Texts w' B v' (ls ++ ps) → w.grownBy w' v.ownBlock → wpList Tryz.prog ops Q rest (a.put o.dst v') w') : wpList Tryz.prog ops Q (o :: rest) a w := by
  obtain ⟨i0, hi, hz0, hz1, hz2⟩ := info_parts info_str
  have hA' := hA
  unfold Texts World.ownsRow at hA'
  rcases hA'.2 with ⟨rfl, h0⟩ | ⟨g, cap, cur, rfl, hBg, hg, hcap, hm, hsz, ht⟩
  · obtain rfl : ps = [] := by
      have : (strC ps).length = ps.length * 1 := hA'.1
      exact List.eq_nil_of_length_eq_zero (by omega)
    refine wpList_append_own_none hgd s x 79 ho B 9 i0 1 Tryz.underlying79 hi v _ _ hs hown hx ?_
    exact h v w (by rw [List.append_nil]; exact hown) ⟨rfl, rfl, rfl, Nat.le_refl _, fun _ _ _ => rfl⟩
  · have hl : (strC ps).length = ps.length := by simp [strC]
    refine wpList_append_own _ hgd s x 79 ho B 9 i0 _ 1 16 Tryz.underlying79 hi hz0 hz1 hz2 rfl (by decide) v _ _ hs hown ⟨g, 0, none⟩ ps.length cap (strC ps) hx (by rw [hl, Nat.mul_one]) ?_ ?_ (by unfold maxLen at *; omega) hbig hB ?_
    · intro j q hq
      have hj := (List.getElem?_eq_some_iff.1 hq).1
      rw [Addr.add_lit, Nat.zero_add, World.ownsRow.cellAt hA j (by omega)]; exact hq
    · intro q hq
      obtain ⟨p, -, rfl⟩ := List.mem_map.1 hq
      rfl
    · intro v6 w6 hown6 hgrow _
      exact h v6 w6 (by unfold Texts; rw [List.length_append, strC_app]; exact hown6) hgrow
end Go.Proofs.YtldffnmoafhidaaGreatDoor
