/- What is told of a node, as a plain value; nothing of the program. -/
import Derived.Test.YtoplcelimdkjeaaDoorTiM
set_option linter.unusedVariables false
namespace Go.Proofs.YtoplcelimdkjeaaDoor
open Go.RowKit
structure MetaV where
  mode : Int
  uid : Int
  gid : Int
  user : List UInt8
  group : List UInt8
  second : Int
  nano : Int
def mdB (n : Int) : Bool := decide (0 ≤ n ∧ n ≤ 4095)
theorem mdB_yes {n : Int} (h : 0 ≤ n ∧ n ≤ 4095) : mdB n = true := decide_eq_true h
theorem mdB_no {n : Int} (h : ¬ (0 ≤ n ∧ n ≤ 4095)) : mdB n = false := decide_eq_false h
theorem mdB_of {n : Int} (h : mdB n = true) : 0 ≤ n ∧ n ≤ 4095 := of_decide_eq_true h
theorem mdB_off {n : Int} (h : mdB n = false) : ¬ (0 ≤ n ∧ n ≤ 4095) := of_decide_eq_false h
def idB (n : Int) : Bool := decide (0 ≤ n ∧ n ≤ 1125899906842624)
theorem idB_yes {n : Int} (h : 0 ≤ n ∧ n ≤ 1125899906842624) : idB n = true := decide_eq_true h
theorem idB_no {n : Int} (h : ¬ (0 ≤ n ∧ n ≤ 1125899906842624)) : idB n = false := decide_eq_false h
theorem idB_of {n : Int} (h : idB n = true) : 0 ≤ n ∧ n ≤ 1125899906842624 := of_decide_eq_true h
theorem idB_off {n : Int} (h : idB n = false) : ¬ (0 ≤ n ∧ n ≤ 1125899906842624) := of_decide_eq_false h
/-- what is wrong with a time -/
def inE (a b : Int) : Int := if inT a b = true then 0 else 4
/-- what is wrong with it -/
def metE (m : MetaV) : Int :=
  if (mdB m.mode && idB m.uid && idB m.gid) = true then
    if 60 < m.user.length ∨ 60 < m.group.length then 1
    else if (hasB 0 m.user || hasB 0 m.group) = true then 3
    else inE m.second m.nano
  else 4
theorem metE_range {m : MetaV} (h : (mdB m.mode && idB m.uid && idB m.gid) = false) : metE m = 4 := if_neg (by rw [h]; decide)
theorem metE_size {m : MetaV} (h : (mdB m.mode && idB m.uid && idB m.gid) = true) (h2 : 60 < m.user.length ∨ 60 < m.group.length) : metE m = 1 := by
  unfold metE; rw [if_pos h, if_pos h2]
theorem metE_form {m : MetaV} (h : (mdB m.mode && idB m.uid && idB m.gid) = true) (h2 : ¬ (60 < m.user.length ∨ 60 < m.group.length)) (h3 : (hasB 0 m.user || hasB 0 m.group) = true) : metE m = 3 := by
  unfold metE; rw [if_pos h, if_neg h2, if_pos h3]
theorem metE_time {m : MetaV} (h : (mdB m.mode && idB m.uid && idB m.gid) = true) (h2 : ¬ (60 < m.user.length ∨ 60 < m.group.length)) (h3 : (hasB 0 m.user || hasB 0 m.group) = false) : metE m = inE m.second m.nano := by
  unfold metE; rw [if_pos h, if_neg h2, if_neg (by rw [h3]; decide)]
/-- a node -/
structure NodeV where
  path : List UInt8
  kind : Int
  same : Int
  target : List UInt8
  md : MetaV
  data : List UInt8
instance : Inhabited NodeV := ⟨⟨[], 0, 0, [], ⟨0, 0, 0, [], [], 0, 0⟩, []⟩⟩
end Go.Proofs.YtoplcelimdkjeaaDoor
