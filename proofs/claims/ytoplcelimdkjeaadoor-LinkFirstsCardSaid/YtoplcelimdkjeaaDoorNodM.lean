/- Plain mathematics of nodes and trees: what is wrong with them, finding, putting, removing; nothing of the program. -/
import Derived.Test.YtoplcelimdkjeaaDoorMetV
import Derived.Test.YtoplcelimdkjeaaDoorSplM
import Derived.Test.YtoplcelimdkjeaaDoorPthM
set_option linter.unusedVariables false
namespace Go.Proofs.YtoplcelimdkjeaaDoor
open Go.RowKit
theorem MetaV.ext_iff' (a b : MetaV) : (a.mode = b.mode ∧ a.uid = b.uid ∧ a.gid = b.gid ∧ a.user = b.user ∧ a.group = b.group ∧ a.second = b.second ∧ a.nano = b.nano) ↔ a = b := by
  constructor
  · rintro ⟨h1, h2, h3, h4, h5, h6, h7⟩
    cases a; cases b; simp_all
  · rintro rfl; exact ⟨rfl, rfl, rfl, rfl, rfl, rfl, rfl⟩
instance : DecidableEq MetaV := fun a b => decidable_of_iff _ (MetaV.ext_iff' a b)
theorem NodeV.ext_iff' (a b : NodeV) : (a.path = b.path ∧ a.kind = b.kind ∧ a.same = b.same ∧ a.target = b.target ∧ a.md = b.md ∧ a.data = b.data) ↔ a = b := by
  constructor
  · rintro ⟨h1, h2, h3, h4, h5, h6⟩
    cases a; cases b; simp_all
  · rintro rfl; exact ⟨rfl, rfl, rfl, rfl, rfl, rfl⟩
instance : DecidableEq NodeV := fun a b => decidable_of_iff _ (NodeV.ext_iff' a b)
/-- what is wrong with a node's kind, target, number and data -/
def nodK (n : NodeV) : Int :=
  if n.kind = 1 then (if n.target ≠ [] ∨ n.same < 0 then 3 else if 2000 < n.data.length then 1 else 0)
  else if n.kind = 2 ∨ n.kind = 3 then
    (if n.data ≠ [] ∨ n.same ≠ 0 ∨ (n.kind = 2 ∧ n.target ≠ []) ∨ (n.kind = 3 ∧ n.target = []) ∨ hasB 0 n.target = true then 3 else if 400 < n.target.length then 1 else 0)
  else 2
/-- what is wrong with a node -/
def nodE (n : NodeV) : Int := if pathE n.path ≠ 0 then pathE n.path else if metE n.md ≠ 0 then metE n.md else nodK n
theorem nodE_path {n : NodeV} (h : pathE n.path ≠ 0) : nodE n = pathE n.path := if_pos h
theorem nodE_meta {n : NodeV} (h : pathE n.path = 0) (h2 : metE n.md ≠ 0) : nodE n = metE n.md := by unfold nodE; rw [if_neg (by simp [h]), if_pos h2]
theorem nodE_kind {n : NodeV} (h : pathE n.path = 0) (h2 : metE n.md = 0) : nodE n = nodK n := by unfold nodE; rw [if_neg (by simp [h]), if_neg (by simp [h2])]
/-- the place of the first node with a path, or as many as there are -/
def findL (t : List NodeV) (s : List UInt8) : Nat := (t.takeWhile fun n => !decide (n.path = s)).length
theorem findL_le (t : List NodeV) (s : List UInt8) : findL t s ≤ t.length := by
  unfold findL
  induction t with
  | nil => exact Nat.le_refl _
  | cons a t ih => rw [List.takeWhile_cons]; split <;> simp_all <;> omega
theorem findL_ne (t : List NodeV) (s : List UInt8) (k : Nat) (h : k < findL t s) (hk : k < t.length) : t[k].path ≠ s := by
  induction t generalizing k with
  | nil => exact absurd hk (by simp)
  | cons a t ih =>
    unfold findL at h
    rw [List.takeWhile_cons] at h
    by_cases e : a.path = s
    · simp [e] at h
    · simp only [e, decide_false, Bool.not_false, if_true, List.length_cons] at h
      cases k with
      | zero => simpa using e
      | succ k => simpa using ih k (by unfold findL; omega) (by simpa using hk)
theorem findL_at (t : List NodeV) (s : List UInt8) (h : findL t s < t.length) : (t[findL t s]'h).path = s := by
  induction t with
  | nil => exact absurd h (by simp)
  | cons a t ih =>
    by_cases e : a.path = s
    · have h0 : findL (a :: t) s = 0 := by unfold findL; simp [e]
      simp only [h0]; exact e
    · have h1 : findL (a :: t) s = findL t s + 1 := by unfold findL; simp [e]
      have h' : findL t s < t.length := by rw [h1, List.length_cons] at h; omega
      have := ih h'
      simp [h1, this]
theorem findL_stop (t : List NodeV) (s : List UInt8) (k : Nat) (hk : k < t.length) (h : k ≤ findL t s) (e : t[k].path = s) : findL t s = k := by
  rcases Nat.lt_or_eq_of_le h with h' | h'
  · exact absurd e (findL_ne t s k h' hk)
  · exact h'.symm
theorem findL_step (t : List NodeV) (s : List UInt8) (k : Nat) (hk : k < t.length) (h : k ≤ findL t s) (e : t[k].path ≠ s) : k + 1 ≤ findL t s := by
  rcases Nat.lt_or_eq_of_le h with h' | h'
  · exact h'
  · subst h'; exact absurd (findL_at t s hk) e
/-- is the directory of a path there -/
def upOk (t : List NodeV) (p : List UInt8) : Bool := decide (upL p = []) || t.any fun n => decide (n.path = upL p) && decide (n.kind = 2)
/-- is another node of the same file another one -/
def linkNo (t : List NodeV) (n : NodeV) : Bool := decide (n.same ≠ 0) && t.any fun x => decide (x.same = n.same) && !(decide (x.md = n.md) && decide (x.data = n.data))
/-- what is wrong with a node behind others -/
def atE (t : List NodeV) (n : NodeV) : Int :=
  if nodE n ≠ 0 then nodE n
  else if (match t.getLast? with | some x => !decide (pcmp x.path n.path = -1) | none => false) = true then 6
  else if upOk t n.path = false then 10
  else if linkNo t n = true then 11
  else 0
/-- what is wrong with nodes, those ahead of them being t -/
def walkE (t : List NodeV) : List NodeV → Int
  | [] => 0
  | n :: l => if atE t n ≠ 0 then atE t n else walkE (t ++ [n]) l
/-- what is wrong with a tree -/
def treeE (t : List NodeV) : Int := if 40 < t.length then 1 else walkE [] t
theorem walkE_app (t l m : List NodeV) (h : walkE t l = 0) : walkE t (l ++ m) = walkE (t ++ l) m := by
  induction l generalizing t with
  | nil => simp
  | cons n l ih =>
    rw [walkE] at h
    rw [List.cons_append, walkE]
    by_cases e : atE t n ≠ 0
    · rw [if_pos e] at h; exact absurd h e
    · rw [if_neg e] at h ⊢
      rw [ih _ h]; simp
/-- good as far as k, and then not: the fault is the k-th one's -/
theorem walkE_stop (l : List NodeV) (k : Nat) (hk : k < l.length) (h : walkE [] (l.take k) = 0) (he : atE (l.take k) l[k] ≠ 0) : walkE [] l = atE (l.take k) l[k] := by
  have h1 := walkE_app [] (l.take k) (l.drop k) h
  rw [List.take_append_drop, List.nil_append, List.drop_eq_getElem_cons hk, walkE, if_pos he] at h1
  exact h1
theorem walkE_step (l : List NodeV) (k : Nat) (hk : k < l.length) (h : walkE [] (l.take k) = 0) (he : atE (l.take k) l[k] = 0) : walkE [] (l.take (k + 1)) = 0 := by
  have h1 := walkE_app [] (l.take k) [l[k]] h
  rw [← List.take_succ_eq_append_getElem hk, List.nil_append, walkE, if_neg (by simp [he]), walkE] at h1
  exact h1
/-- a tree with a node put in, in the order of paths -/
def putL (t : List NodeV) (n : NodeV) : List NodeV := t.filter (fun x => decide (pcmp x.path n.path < 0)) ++ n :: t.filter fun x => decide (0 < pcmp x.path n.path)
/-- a tree without a path and all in it -/
def remL (t : List NodeV) (s : List UInt8) : List NodeV := t.filter fun n => !(decide (n.path = s) || inB n.path s)
def putT (t : List NodeV) (n : NodeV) : List NodeV × Int := if treeE t ≠ 0 then ([], treeE t) else if treeE (putL t n) ≠ 0 then ([], treeE (putL t n)) else (putL t n, 0)
def remT (t : List NodeV) (s : List UInt8) : List NodeV × Int := if treeE t ≠ 0 then ([], treeE t) else if findL t s = t.length then ([], 5) else (remL t s, 0)
/-- strictly rising paths -/
def Rises (t : List NodeV) : Prop := t.Pairwise fun x y => pcmp x.path y.path = -1
end Go.Proofs.YtoplcelimdkjeaaDoor
