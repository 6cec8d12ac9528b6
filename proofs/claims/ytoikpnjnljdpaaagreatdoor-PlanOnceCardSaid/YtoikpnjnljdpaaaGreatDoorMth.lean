/- Texts of one kind, in one file: FldM, TiM, MetV, PthM, PrtM, SplM, NodM, NodN, LnkM, LnkN, EntM, GlbM, GlbN, NodO, RepM, TreP, TreQ. -/
import Derived.Test.YtoikpnjnljdpaaaGreatDoorNum
import Derived.Lib.Bytealg
import Derived.Lib.SplitLaws
import Derived.Lib.LastIndexByte
import Derived.Lib.Join
import Derived.Lib.IndexBytes
import Derived.Lib.Repeat
import Derived.Test.YtoikpnjnljdpaaaGreatDoorArb
/- Plain mathematics of string fields; nothing of the program. -/
set_option linter.unusedVariables false
namespace Go.Proofs.YtoikpnjnljdpaaaGreatDoor
open Go.RowKit
/-- how many bytes stand ahead of the first byte c (all of them, where c does not occur) -/
def pos (c : UInt8) (l : List UInt8) : Nat := (l.takeWhile (· != c)).length
def hasB (c : UInt8) (l : List UInt8) : Bool := l.any (· == c)
theorem pos_nil (c : UInt8) : pos c [] = 0 := rfl
theorem pos_cons (c a : UInt8) (l : List UInt8) : pos c (a :: l) = if a = c then 0 else pos c l + 1 := by
  unfold pos
  rw [List.takeWhile_cons]
  by_cases h : a = c <;> simp [h]
theorem hasB_cons (c a : UInt8) (l : List UInt8) : hasB c (a :: l) = ((a == c) || hasB c l) := rfl
theorem pos_le (c : UInt8) (l : List UInt8) : pos c l ≤ l.length := by
  induction l with
  | nil => exact Nat.le_refl _
  | cons a l ih => rw [pos_cons, List.length_cons]; split <;> omega
theorem hasB_pos (c : UInt8) (l : List UInt8) : hasB c l = decide (pos c l < l.length) := by
  induction l with
  | nil => rfl
  | cons a l ih =>
    rw [hasB_cons, pos_cons, ih, List.length_cons, Bool.eq_iff_iff]
    by_cases h : a = c
    · simp [h]
    · simp [h]
theorem indexByte_pos (c : UInt8) (l : List UInt8) : Lib.indexByte l c = if hasB c l = true then (pos c l : Int) else -1 := by
  induction l with
  | nil => rfl
  | cons a l ih =>
    rw [Lib.indexByte, ih, hasB_cons, pos_cons]
    by_cases h : a = c
    · simp [h]
    · have h' : (a == c) = false := by simpa using h
      by_cases hb : hasB c l = true
      · simp [h, h', hb]
        try omega
      · simp [h', hb]
theorem pos_get (c : UInt8) (l : List UInt8) (h : pos c l < l.length) : l[pos c l] = c := by
  induction l with
  | nil => exact absurd h (by simp)
  | cons a l ih =>
    by_cases e : a = c
    · have : pos c (a :: l) = 0 := by rw [pos_cons, if_pos e]
      simp only [this]; exact e
    · have hp : pos c (a :: l) = pos c l + 1 := by rw [pos_cons, if_neg e]
      have h' : pos c l < l.length := by rw [hp, List.length_cons] at h; omega
      have := ih h'
      simp [hp, this]
theorem pos_ne (c : UInt8) (l : List UInt8) (k : Nat) (h : k < pos c l) (hk : k < l.length) : l[k] ≠ c := by
  induction l generalizing k with
  | nil => exact absurd hk (by simp)
  | cons a l ih =>
    by_cases e : a = c
    · rw [pos_cons, if_pos e] at h; omega
    · rw [pos_cons, if_neg e] at h
      cases k with
      | zero => simpa using e
      | succ k => simpa using ih k (by omega) (by simpa using hk)
theorem pos_stop (c : UInt8) (l : List UInt8) (k : Nat) (h : k ≤ pos c l) (hk : k < l.length) (e : l[k] = c) : pos c l = k := by
  rcases Nat.lt_or_eq_of_le h with h' | h'
  · exact absurd e (pos_ne c l k h' hk)
  · exact h'.symm
theorem pos_step (c : UInt8) (l : List UInt8) (k : Nat) (h : k ≤ pos c l) (hk : k < l.length) (e : l[k] ≠ c) : k + 1 ≤ pos c l := by
  rcases Nat.lt_or_eq_of_le h with h' | h'
  · exact h'
  · subst h'; exact absurd (pos_get c l hk) e
theorem pos_app (c : UInt8) (a b : List UInt8) (h : hasB c a = false) : pos c (a ++ b) = a.length + pos c b := by
  induction a with
  | nil => simp
  | cons x a ih =>
    rw [hasB_cons, Bool.or_eq_false_iff] at h
    rw [List.cons_append, pos_cons, if_neg (by simpa using h.1), ih h.2, List.length_cons]; omega
theorem hasB_app (c : UInt8) (a b : List UInt8) : hasB c (a ++ b) = (hasB c a || hasB c b) := by simp [hasB]
theorem hasB_take (c : UInt8) (l : List UInt8) (k : Nat) (h : k ≤ pos c l) : hasB c (l.take k) = false := by
  rw [hasB_pos]
  have h2 := pos_le c l
  have : ¬ pos c (l.take k) < (l.take k).length := by
    intro h1
    have hlen : (l.take k).length = k := by rw [List.length_take]; omega
    have e := pos_get c _ h1
    rw [List.getElem_take] at e
    exact pos_ne c l _ (by omega) (by omega) e
  exact decide_eq_false this
/-- all bytes are 0 -/
def allZ (l : List UInt8) : Bool := l.all (· == 0)
theorem allZ_rep (l : List UInt8) : allZ l = decide (l = List.replicate l.length 0) := by
  unfold allZ
  rw [Bool.eq_iff_iff]
  simp only [List.all_eq_true, beq_iff_eq, decide_eq_true_eq]
  constructor
  · intro h; exact List.eq_replicate_iff.2 ⟨rfl, h⟩
  · intro h b hb; rw [h] at hb; exact (List.mem_replicate.1 hb).2
theorem allZ_false (l : List UInt8) (k : Nat) (hk : k < l.length) (e : l[k] ≠ 0) : allZ l = false := by
  unfold allZ
  rw [← Bool.not_eq_true, List.all_eq_true]
  intro h
  exact e (by simpa using h _ (List.getElem_mem hk))
theorem allZ_take_all (l : List UInt8) (h : allZ (l.take l.length) = true) : allZ l = true := by rwa [List.take_length] at h
theorem allZ_snoc (l : List UInt8) (c : UInt8) : allZ (l ++ [c]) = (allZ l && (c == 0)) := by simp [allZ]
/-- a bytes' list as a Go string -/
def bs (l : List UInt8) : ByteArray := ⟨l.toArray⟩
theorem bs_list (l : List UInt8) : (bs l).data.toList = l := rfl
theorem bs_size (l : List UInt8) : (bs l).size = l.length := rfl
theorem bs_of (s : ByteArray) : bs s.data.toList = s := by apply ByteArray.ext; simp [bs]
/-- a text of n bytes 0 -/
def zer (n : Nat) : ByteArray := ⟨(List.replicate n (0 : UInt8)).toArray⟩
theorem zer_list (n : Nat) : (zer n).data.toList = List.replicate n 0 := rfl
theorem zer_size (n : Nat) : (zer n).size = n := by rw [zer, size_mk, List.length_replicate]
theorem zer_succ (k : Nat) : zer (k + 1) = zer k ++ ⟨#[0]⟩ := by
  rw [zer, List.replicate_succ', ← str_app]; rfl
theorem str_zer (s : ByteArray) (n : Nat) : s ++ zer n = ⟨(s.data.toList ++ List.replicate n 0).toArray⟩ := by
  rw [← str_app, zer]
/-- what is written for a text: the field, the error -/
def fldW (l : List UInt8) (x : Int) (whole : Bool) : ByteArray × Int :=
  if x < 1 ∨ 512 < x then (⟨#[]⟩, 4)
  else if x < l.length ∨ (whole = false ∧ x = l.length) then (⟨#[]⟩, 1)
  else if hasB 0 l = true then (⟨#[]⟩, 3)
  else (⟨(l ++ List.replicate (x.toNat - l.length) 0).toArray⟩, 0)
/-- what a field reads as: the text, the error -/
def fldR (l : List UInt8) (whole : Bool) : ByteArray × Int :=
  if l.length < 1 ∨ 512 < l.length then (⟨#[]⟩, 4)
  else if (whole = false ∧ pos 0 l = l.length) ∨ allZ (l.drop (pos 0 l)) = false then (⟨#[]⟩, 3)
  else (⟨(l.take (pos 0 l)).toArray⟩, 0)
theorem fldW_range {l : List UInt8} {x : Int} {wh : Bool} (h : x < 1 ∨ 512 < x) : fldW l x wh = (⟨#[]⟩, 4) := if_pos h
theorem fldW_size {l : List UInt8} {x : Int} {wh : Bool} (h : ¬ (x < 1 ∨ 512 < x)) (h2 : x < l.length ∨ (wh = false ∧ x = l.length)) : fldW l x wh = (⟨#[]⟩, 1) := by
  rw [fldW, if_neg h, if_pos h2]
theorem fldW_form {l : List UInt8} {x : Int} {wh : Bool} (h : ¬ (x < 1 ∨ 512 < x)) (h2 : ¬ (x < l.length ∨ (wh = false ∧ x = l.length))) (h3 : hasB 0 l = true) : fldW l x wh = (⟨#[]⟩, 3) := by
  rw [fldW, if_neg h, if_neg h2, if_pos h3]
theorem fldW_ok {l : List UInt8} {x : Int} {wh : Bool} (h : ¬ (x < 1 ∨ 512 < x)) (h2 : ¬ (x < l.length ∨ (wh = false ∧ x = l.length))) (h3 : hasB 0 l = false) : fldW l x wh = (⟨(l ++ List.replicate (x.toNat - l.length) 0).toArray⟩, 0) := by
  rw [fldW, if_neg h, if_neg h2, if_neg (by simp [h3])]
theorem fldR_range {l : List UInt8} {wh : Bool} (h : l.length < 1 ∨ 512 < l.length) : fldR l wh = (⟨#[]⟩, 4) := if_pos h
theorem fldR_form {l : List UInt8} {wh : Bool} (h : ¬ (l.length < 1 ∨ 512 < l.length)) (h2 : (wh = false ∧ pos 0 l = l.length) ∨ allZ (l.drop (pos 0 l)) = false) : fldR l wh = (⟨#[]⟩, 3) := by
  rw [fldR, if_neg h, if_pos h2]
theorem fldR_ok {l : List UInt8} {wh : Bool} (h : ¬ (l.length < 1 ∨ 512 < l.length)) (h2 : ¬ (wh = false ∧ pos 0 l = l.length)) (h3 : allZ (l.drop (pos 0 l)) = true) : fldR l wh = (⟨(l.take (pos 0 l)).toArray⟩, 0) := by
  rw [fldR, if_neg h, if_neg (by rintro (a | a); exact h2 a; rw [h3] at a; cases a)]
theorem getD_list (s : ByteArray) (k : Nat) (h : k < s.size) : s.data.toList[k]'(by simpa using h) = s[k] := rfl
end Go.Proofs.YtoikpnjnljdpaaaGreatDoor
/- The range of times; nothing of the program. -/
set_option linter.unusedVariables false
namespace Go.Proofs.YtoikpnjnljdpaaaGreatDoor
open Go.RowKit
def inT (a b : Int) : Bool := decide (-1099511627776 ≤ a ∧ a ≤ 1099511627776 ∧ 0 ≤ b ∧ b ≤ 999999999)
theorem inT_mk {a b : Int} (h : -1099511627776 ≤ a ∧ a ≤ 1099511627776 ∧ 0 ≤ b ∧ b ≤ 999999999) : inT a b = true := decide_eq_true h
theorem inT_no {a b : Int} (h : ¬ (-1099511627776 ≤ a ∧ a ≤ 1099511627776 ∧ 0 ≤ b ∧ b ≤ 999999999)) : inT a b = false := decide_eq_false h
theorem inT_of {a b : Int} (h : inT a b = true) : -1099511627776 ≤ a ∧ a ≤ 1099511627776 ∧ 0 ≤ b ∧ b ≤ 999999999 := of_decide_eq_true h
end Go.Proofs.YtoikpnjnljdpaaaGreatDoor
/- What is told of a node, as a plain value; nothing of the program. -/
set_option linter.unusedVariables false
namespace Go.Proofs.YtoikpnjnljdpaaaGreatDoor
open Go.RowKit
structure MetaV where
  mode : Int
  uid : Int
  gid : Int
  user : List UInt8
  group : List UInt8
  second : Int
  nano : Int
def mdB (n : Int) : Bool := decide (0 ≤ n ∧ n ≤ 4095)
theorem mdB_yes {n : Int} (h : 0 ≤ n ∧ n ≤ 4095) : mdB n = true := decide_eq_true h
theorem mdB_no {n : Int} (h : ¬ (0 ≤ n ∧ n ≤ 4095)) : mdB n = false := decide_eq_false h
theorem mdB_of {n : Int} (h : mdB n = true) : 0 ≤ n ∧ n ≤ 4095 := of_decide_eq_true h
theorem mdB_off {n : Int} (h : mdB n = false) : ¬ (0 ≤ n ∧ n ≤ 4095) := of_decide_eq_false h
def idB (n : Int) : Bool := decide (0 ≤ n ∧ n ≤ 1125899906842624)
theorem idB_yes {n : Int} (h : 0 ≤ n ∧ n ≤ 1125899906842624) : idB n = true := decide_eq_true h
theorem idB_no {n : Int} (h : ¬ (0 ≤ n ∧ n ≤ 1125899906842624)) : idB n = false := decide_eq_false h
theorem idB_of {n : Int} (h : idB n = true) : 0 ≤ n ∧ n ≤ 1125899906842624 := of_decide_eq_true h
theorem idB_off {n : Int} (h : idB n = false) : ¬ (0 ≤ n ∧ n ≤ 1125899906842624) := of_decide_eq_false h
/-- what is wrong with a time -/
def inE (a b : Int) : Int := if inT a b = true then 0 else 4
/-- what is wrong with it -/
def metE (m : MetaV) : Int :=
  if (mdB m.mode && idB m.uid && idB m.gid) = true then
    if 60 < m.user.length ∨ 60 < m.group.length then 1
    else if (hasB 0 m.user || hasB 0 m.group) = true then 3
    else inE m.second m.nano
  else 4
theorem metE_range {m : MetaV} (h : (mdB m.mode && idB m.uid && idB m.gid) = false) : metE m = 4 := if_neg (by rw [h]; decide)
theorem metE_size {m : MetaV} (h : (mdB m.mode && idB m.uid && idB m.gid) = true) (h2 : 60 < m.user.length ∨ 60 < m.group.length) : metE m = 1 := by
  unfold metE; rw [if_pos h, if_pos h2]
theorem metE_form {m : MetaV} (h : (mdB m.mode && idB m.uid && idB m.gid) = true) (h2 : ¬ (60 < m.user.length ∨ 60 < m.group.length)) (h3 : (hasB 0 m.user || hasB 0 m.group) = true) : metE m = 3 := by
  unfold metE; rw [if_pos h, if_neg h2, if_pos h3]
theorem metE_time {m : MetaV} (h : (mdB m.mode && idB m.uid && idB m.gid) = true) (h2 : ¬ (60 < m.user.length ∨ 60 < m.group.length)) (h3 : (hasB 0 m.user || hasB 0 m.group) = false) : metE m = inE m.second m.nano := by
  unfold metE; rw [if_pos h, if_neg h2, if_neg (by rw [h3]; decide)]
/-- a node -/
structure NodeV where
  path : List UInt8
  kind : Int
  same : Int
  target : List UInt8
  md : MetaV
  data : List UInt8
instance : Inhabited NodeV := ⟨⟨[], 0, 0, [], ⟨0, 0, 0, [], [], 0, 0⟩, []⟩⟩
end Go.Proofs.YtoikpnjnljdpaaaGreatDoor
/- Plain mathematics of paths; nothing of the program. -/
set_option linter.unusedVariables false
namespace Go.Proofs.YtoikpnjnljdpaaaGreatDoor
open Go.RowKit
/-! ### in -/
/-- does the text s begin with the text d and a slash (d empty: is s not empty) -/
def inB (s d : List UInt8) : Bool := if d = [] then !decide (s = []) else decide (d ++ [47] <+: s)
theorem inB_nil (s : List UInt8) : inB s [] = !decide (s = []) := rfl
theorem inB_ne {s d : List UInt8} (h : d ≠ []) : inB s d = decide (d ++ [47] <+: s) := if_neg h
theorem pre_snoc (d s : List UInt8) (c : UInt8) (h : d.length < s.length) : d ++ [c] <+: s ↔ (s.take d.length = d ∧ s[d.length] = c) := by
  constructor
  · rintro ⟨t, rfl⟩
    simp
  · rintro ⟨e, hc⟩
    refine ⟨s.drop (d.length + 1), ?_⟩
    conv => rhs; rw [← List.take_append_drop d.length s, e, List.drop_eq_getElem_cons h, hc]
    simp
theorem pre_short (d s : List UInt8) (c : UInt8) (h : ¬ d.length < s.length) : ¬ (d ++ [c] <+: s) := fun e => by
  have := e.length_le
  simp at this; omega
/-! ### the order -/
/-- a byte's rank: a slash ahead of all others -/
def rk (c : UInt8) : Int := if c = 47 then -1 else (c.toNat : Int)
def sgn (a b : Int) : Int := if a < b then -1 else if b < a then 1 else 0
theorem sgn_self (a : Int) : sgn a a = 0 := by unfold sgn; rw [if_neg (by omega), if_neg (by omega)]
theorem sgn_lt {a b : Int} (h : a < b) : sgn a b = -1 := if_pos h
theorem sgn_gt {a b : Int} (h : b < a) : sgn a b = 1 := by unfold sgn; rw [if_neg (by omega), if_pos h]
theorem sgn_eq {a b : Int} (h1 : ¬ a < b) (h2 : ¬ b < a) : sgn a b = 0 := by unfold sgn; rw [if_neg h1, if_neg h2]
theorem rk_lo (c : UInt8) : -1 ≤ rk c := by unfold rk; split <;> omega
theorem rk_hi (c : UInt8) : rk c ≤ 255 := by
  unfold rk
  have := u8_lt c
  split <;> omega
theorem rk_inj {a b : UInt8} (h : rk a = rk b) : a = b := by
  unfold rk at h
  split at h <;> split at h
  · subst_vars; rfl
  · omega
  · omega
  · exact UInt8.toNat_inj.1 (by omega)
/-- paths, part by part -/
def pcmp : List UInt8 → List UInt8 → Int
  | [], [] => 0
  | [], _ :: _ => -1
  | _ :: _, [] => 1
  | x :: a, y :: b => if x = y then pcmp a b else sgn (rk x) (rk y)
theorem pcmp_nil_cons (y : UInt8) (b : List UInt8) : pcmp [] (y :: b) = -1 := by rw [pcmp]
theorem pcmp_cons_nil (x : UInt8) (a : List UInt8) : pcmp (x :: a) [] = 1 := by rw [pcmp]
theorem pcmp_nil_nil : pcmp [] [] = 0 := by rw [pcmp]
theorem pcmp_cons (x y : UInt8) (a b : List UInt8) : pcmp (x :: a) (y :: b) = if x = y then pcmp a b else sgn (rk x) (rk y) := by rw [pcmp]
/-- an equal beginning does not count -/
theorem pcmp_app (p a b : List UInt8) : pcmp (p ++ a) (p ++ b) = pcmp a b := by
  induction p with
  | nil => rfl
  | cons x p ih => rw [List.cons_append, List.cons_append, pcmp_cons, if_pos rfl, ih]
theorem pcmp_short (a b : List UInt8) (h : a = [] ∨ b = []) : pcmp a b = sgn a.length b.length := by
  rcases h with rfl | rfl
  · cases b with
    | nil => rw [pcmp_nil_nil]; exact (sgn_self _).symm
    | cons y b => rw [pcmp_nil_cons, sgn_lt (by simp)]
  · cases a with
    | nil => rw [pcmp_nil_nil]; exact (sgn_self _).symm
    | cons y b => rw [pcmp_cons_nil, sgn_gt (by simp)]
/-- behind k equal bytes, where one text ends -/
theorem pcmp_end (a b : List UInt8) (k : Nat) (he : a.take k = b.take k) (ha : k ≤ a.length) (hb : k ≤ b.length) (h : k = a.length ∨ k = b.length) : pcmp a b = sgn a.length b.length := by
  have e1 : a = a.take k ++ a.drop k := (List.take_append_drop k a).symm
  have e2 : b = a.take k ++ b.drop k := by rw [he]; exact (List.take_append_drop k b).symm
  have l1 : (a.drop k).length = a.length - k := List.length_drop ..
  have l2 : (b.drop k).length = b.length - k := List.length_drop ..
  have : pcmp a b = pcmp (a.drop k) (b.drop k) := by
    conv => lhs; rw [e1, e2]
    exact pcmp_app _ _ _
  rw [this, pcmp_short _ _ (by rcases h with h | h; exact .inl (List.eq_nil_of_length_eq_zero (by omega)); exact .inr (List.eq_nil_of_length_eq_zero (by omega))), l1, l2]
  unfold sgn
  by_cases c1 : (a.length : Int) < b.length
  · rw [if_pos c1, if_pos (by omega)]
  · rw [if_neg c1, if_neg (by omega)]
    by_cases c2 : (b.length : Int) < a.length
    · rw [if_pos c2, if_pos (by omega)]
    · rw [if_neg c2, if_neg (by omega)]
/-- behind k equal bytes, two that differ -/
theorem pcmp_at (a b : List UInt8) (k : Nat) (he : a.take k = b.take k) (ha : k < a.length) (hb : k < b.length) (h : a[k] ≠ b[k]) : pcmp a b = sgn (rk a[k]) (rk b[k]) := by
  have e1 : a = a.take k ++ a[k] :: a.drop (k + 1) := by rw [← List.drop_eq_getElem_cons ha]; exact (List.take_append_drop k a).symm
  have e2 : b = a.take k ++ b[k] :: b.drop (k + 1) := by rw [← List.drop_eq_getElem_cons hb, he]; exact (List.take_append_drop k b).symm
  have : pcmp a b = pcmp (a[k] :: a.drop (k + 1)) (b[k] :: b.drop (k + 1)) := by
    conv => lhs; rw [e1, e2]
    exact pcmp_app _ _ _
  rw [this, pcmp_cons, if_neg h]
theorem sgn_neg (a b : Int) : sgn b a = -sgn a b := by
  unfold sgn
  by_cases c1 : a < b
  · rw [if_pos c1, if_neg (by omega), if_pos c1]; rfl
  · rw [if_neg c1]
    by_cases c2 : b < a
    · rw [if_pos c2, if_neg c1, if_pos c2]
    · rw [if_neg c2, if_neg c1, if_neg c2]; rfl
theorem sgn_cases (a b : Int) : (sgn a b = -1 ∧ a < b) ∨ (sgn a b = 0 ∧ a = b) ∨ (sgn a b = 1 ∧ b < a) := by
  unfold sgn
  by_cases c1 : a < b
  · rw [if_pos c1]; exact .inl ⟨rfl, c1⟩
  · rw [if_neg c1]
    by_cases c2 : b < a
    · rw [if_pos c2]; exact .inr (.inr ⟨rfl, c2⟩)
    · rw [if_neg c2]; exact .inr (.inl ⟨rfl, by omega⟩)
theorem pcmp_neg (a b : List UInt8) : pcmp b a = -pcmp a b := by
  induction a generalizing b with
  | nil => cases b <;> simp [pcmp]
  | cons x a ih =>
    cases b with
    | nil => simp [pcmp]
    | cons y b =>
      rw [pcmp_cons, pcmp_cons]
      by_cases h : x = y
      · rw [if_pos h, if_pos h.symm, ih]
      · rw [if_neg h, if_neg (fun e => h e.symm), sgn_neg]
theorem pcmp_bd (a b : List UInt8) : -1 ≤ pcmp a b ∧ pcmp a b ≤ 1 := by
  induction a generalizing b with
  | nil => cases b <;> simp [pcmp]
  | cons x a ih =>
    cases b with
    | nil => simp [pcmp]
    | cons y b =>
      rw [pcmp_cons]
      by_cases h : x = y
      · rw [if_pos h]; exact ih b
      · rw [if_neg h]; rcases sgn_cases (rk x) (rk y) with ⟨e, _⟩ | ⟨e, _⟩ | ⟨e, _⟩ <;> rw [e] <;> omega
theorem pcmp_zero (a b : List UInt8) : pcmp a b = 0 ↔ a = b := by
  induction a generalizing b with
  | nil => cases b <;> simp [pcmp]
  | cons x a ih =>
    cases b with
    | nil => simp [pcmp]
    | cons y b =>
      rw [pcmp_cons]
      by_cases h : x = y
      · rw [if_pos h, ih]; simp [h]
      · rw [if_neg h]
        have hr : rk x ≠ rk y := fun e => h (rk_inj e)
        rcases sgn_cases (rk x) (rk y) with ⟨e, _⟩ | ⟨_, e⟩ | ⟨e, _⟩
        · rw [e]; simp [h]
        · exact absurd e hr
        · rw [e]; simp [h]
theorem pcmp_trans (a b c : List UInt8) (h1 : pcmp a b ≤ 0) (h2 : pcmp b c ≤ 0) : pcmp a c ≤ 0 := by
  induction a generalizing b c with
  | nil => cases c <;> simp [pcmp]
  | cons x a ih =>
    cases b with
    | nil => rw [pcmp_cons_nil] at h1; omega
    | cons y b =>
      cases c with
      | nil => rw [pcmp_cons_nil] at h2; omega
      | cons z c =>
        rw [pcmp_cons] at h1 h2 ⊢
        by_cases e1 : x = y
        · subst e1
          rw [if_pos rfl] at h1
          by_cases e2 : x = z
          · subst e2
            rw [if_pos rfl] at h2 ⊢
            exact ih b c h1 h2
          · rw [if_neg e2] at h2 ⊢; exact h2
        · rw [if_neg e1] at h1
          have hr : rk x ≠ rk y := fun e => e1 (rk_inj e)
          have l1 : rk x < rk y := by rcases sgn_cases (rk x) (rk y) with ⟨_, e⟩ | ⟨_, e⟩ | ⟨e, _⟩ <;> omega
          by_cases e2 : y = z
          · subst e2
            rw [if_neg e1]; exact h1
          · rw [if_neg e2] at h2
            have l2 : rk y < rk z := by
              have hr2 : rk y ≠ rk z := fun e => e2 (rk_inj e)
              rcases sgn_cases (rk y) (rk z) with ⟨_, e⟩ | ⟨_, e⟩ | ⟨e, _⟩ <;> omega
            rw [if_neg (by intro e; subst e; omega), sgn_lt (by omega)]; omega
theorem pcmp_self (a : List UInt8) : pcmp a a = 0 := (pcmp_zero a a).2 rfl
end Go.Proofs.YtoikpnjnljdpaaaGreatDoor
/- Plain mathematics of the parts of a text; nothing of the program. -/
set_option linter.unusedVariables false
namespace Go.Proofs.YtoikpnjnljdpaaaGreatDoor
open Go.RowKit
def headCons (a : UInt8) : List (List UInt8) → List (List UInt8)
  | [] => [[a]]
  | h :: t => (a :: h) :: t
/-- the parts between the bytes c -/
def partsL (c : UInt8) : List UInt8 → List (List UInt8)
  | [] => [[]]
  | a :: l => if a = c then [] :: partsL c l else headCons a (partsL c l)
def lastSnoc (a : UInt8) : List (List UInt8) → List (List UInt8)
  | [] => [[a]]
  | [h] => [h ++ [a]]
  | h :: t :: r => h :: lastSnoc a (t :: r)
theorem partsL_nil (c : UInt8) : partsL c [] = [[]] := rfl
theorem partsL_cons (c a : UInt8) (l : List UInt8) : partsL c (a :: l) = if a = c then [] :: partsL c l else headCons a (partsL c l) := rfl
theorem headCons_ne (a : UInt8) (l : List (List UInt8)) : headCons a l ≠ [] := by cases l <;> simp [headCons]
theorem partsL_ne (c : UInt8) (l : List UInt8) : partsL c l ≠ [] := by
  cases l with
  | nil => simp [partsL]
  | cons a l =>
    rw [partsL_cons]
    by_cases h : a = c
    · rw [if_pos h]; simp
    · rw [if_neg h]; exact headCons_ne _ _
theorem partsL_pos (c : UInt8) (l : List UInt8) : 1 ≤ (partsL c l).length := by
  have := partsL_ne c l
  rcases h : partsL c l with _ | ⟨x, y⟩
  · exact absurd h this
  · simp
theorem headCons_length (a : UInt8) (l : List (List UInt8)) (h : l ≠ []) : (headCons a l).length = l.length := by
  cases l with
  | nil => exact absurd rfl h
  | cons x l => rfl
theorem partsL_length (c : UInt8) (l : List UInt8) : (partsL c l).length = l.count c + 1 := by
  induction l with
  | nil => rfl
  | cons a l ih =>
    rw [partsL_cons, List.count_cons]
    by_cases h : a = c
    · subst h; rw [if_pos rfl, List.length_cons, ih]; simp
    · rw [if_neg h, headCons_length _ _ (partsL_ne c l), ih]
      have : (a == c) = false := by simpa using h
      rw [this]; simp
theorem partsL_le (c : UInt8) (l : List UInt8) : (partsL c l).length ≤ l.length + 1 := by
  rw [partsL_length]
  have := List.count_le_length (l := l) (a := c)
  omega
theorem partsL_snoc_eq (c : UInt8) (l : List UInt8) : partsL c (l ++ [c]) = partsL c l ++ [[]] := by
  induction l with
  | nil => simp [partsL]
  | cons a l ih =>
    rw [List.cons_append, partsL_cons, partsL_cons, ih]
    by_cases h : a = c
    · rw [if_pos h, if_pos h]; rfl
    · rw [if_neg h, if_neg h]
      cases hp : partsL c l with
      | nil => exact absurd hp (partsL_ne c l)
      | cons x y => rfl
theorem lastSnoc_cons (a : UInt8) (x : List UInt8) (l : List (List UInt8)) (h : l ≠ []) : lastSnoc a (x :: l) = x :: lastSnoc a l := by
  cases l with
  | nil => exact absurd rfl h
  | cons y l => rfl
theorem lastSnoc_head (a b : UInt8) (l : List (List UInt8)) (h : l ≠ []) : lastSnoc a (headCons b l) = headCons b (lastSnoc a l) := by
  cases l with
  | nil => exact absurd rfl h
  | cons x l =>
    cases l with
    | nil => rfl
    | cons y l => rfl
theorem partsL_snoc_ne (c a : UInt8) (l : List UInt8) (h : a ≠ c) : partsL c (l ++ [a]) = lastSnoc a (partsL c l) := by
  induction l with
  | nil => simp [partsL, h, headCons, lastSnoc]
  | cons b l ih =>
    rw [List.cons_append, partsL_cons, partsL_cons, ih]
    by_cases hb : b = c
    · rw [if_pos hb, if_pos hb, lastSnoc_cons _ _ _ (partsL_ne c l)]
    · rw [if_neg hb, if_neg hb, lastSnoc_head _ _ _ (partsL_ne c l)]
theorem lastSnoc_set (a : UInt8) (l : List (List UInt8)) (n : Nat) (h : l.length = n + 1) : lastSnoc a l = l.set n (l.getD n [] ++ [a]) := by
  induction l generalizing n with
  | nil => simp at h
  | cons x l ih =>
    cases l with
    | nil =>
      have : n = 0 := by simpa using h.symm
      subst this; rfl
    | cons y l =>
      obtain ⟨m, rfl⟩ : ∃ m, n = m + 1 := ⟨n - 1, by simp at h; omega⟩
      rw [lastSnoc_cons _ _ _ (by simp), ih m (by simpa using h)]; rfl
theorem headCons_mem (a : UInt8) (l : List (List UInt8)) (n : Nat) (h : ∀ x ∈ l, x.length ≤ n) : ∀ x ∈ headCons a l, x.length ≤ n + 1 := by
  cases l with
  | nil => intro x hx; simp [headCons] at hx; subst hx; simp
  | cons y l =>
    intro x hx
    simp only [headCons, List.mem_cons] at hx
    rcases hx with rfl | hx
    · have := h y (by simp); simp; omega
    · have := h x (by simp [hx]); omega
theorem partsL_mem (c : UInt8) (l : List UInt8) : ∀ x ∈ partsL c l, x.length ≤ l.length := by
  induction l with
  | nil => intro x hx; simp [partsL] at hx; subst hx; exact Nat.le_refl _
  | cons a l ih =>
    rw [partsL_cons]
    by_cases h : a = c
    · rw [if_pos h]
      intro x hx
      rcases List.mem_cons.1 hx with rfl | hx
      · simp
      · have := ih x hx; simp; omega
    · rw [if_neg h]; exact headCons_mem a _ _ ih
theorem partsL_getD (c : UInt8) (l : List UInt8) (j : Nat) : ((partsL c l).getD j []).length ≤ l.length := by
  rw [List.getD_eq_getElem?_getD]
  by_cases h : j < (partsL c l).length
  · rw [List.getElem?_eq_getElem h]; exact partsL_mem c l _ (List.getElem_mem h)
  · rw [List.getElem?_eq_none (by omega)]; simp
/-- a text as a value, texts as cells -/
def strV (l : List UInt8) : Value := .string ⟨l.toArray⟩
def strC (ls : List (List UInt8)) : List Value := ls.map strV
@[simp] theorem strC_length (ls : List (List UInt8)) : (strC ls).length = ls.length := by simp [strC]
theorem strC_app (a b : List (List UInt8)) : strC (a ++ b) = strC a ++ strC b := by simp [strC]
theorem strC_set (ls : List (List UInt8)) (i : Nat) (x : List UInt8) : (strC ls).set i (strV x) = strC (ls.set i x) := by simp [strC, List.map_set]
theorem strC_get (ls : List (List UInt8)) (j : Nat) (h : j < ls.length) : (strC ls)[j]? = some (strV (ls.getD j [])) := by
  simp [strC, List.getD_eq_getElem?_getD, h]
/-! ### the order of lists of parts is pcmp -/
/-- is the text x less than the text y, byte by byte -/
def bless (x y : List UInt8) : Bool := Op.bytesLess x y
def lcmp : List (List UInt8) → List (List UInt8) → Int
  | [], [] => 0
  | [], _ :: _ => -1
  | _ :: _, [] => 1
  | x :: a, y :: b => if bless x y = true then -1 else if bless y x = true then 1 else lcmp a b
theorem bless_nil_r (x : List UInt8) : bless x [] = false := by cases x <;> rfl
theorem bless_nil_l (y : UInt8) (l : List UInt8) : bless [] (y :: l) = true := rfl
theorem bless_cons (a b : UInt8) (x y : List UInt8) : bless (a :: x) (b :: y) = (decide (a < b) || (a == b && bless x y)) := rfl
theorem bless_same (a : UInt8) (x y : List UInt8) : bless (a :: x) (a :: y) = bless x y := by
  rw [bless_cons]
  have : ¬ a < a := UInt8.lt_irrefl a
  simp [this]
theorem bless_self (x : List UInt8) : bless x x = false := by
  induction x with
  | nil => rfl
  | cons a x ih => rw [bless_same, ih]
theorem bless_diff (a b : UInt8) (x y : List UInt8) (h : a ≠ b) : bless (a :: x) (b :: y) = decide (a < b) := by
  rw [bless_cons]; simp [h]
theorem lcmp_nil_cons (y : List UInt8) (b : List (List UInt8)) : lcmp [] (y :: b) = -1 := by rw [lcmp]
theorem lcmp_cons_nil (x : List UInt8) (a : List (List UInt8)) : lcmp (x :: a) [] = 1 := by rw [lcmp]
theorem lcmp_nil_nil : lcmp [] [] = 0 := by rw [lcmp]
theorem lcmp_cons (x y : List UInt8) (a b : List (List UInt8)) : lcmp (x :: a) (y :: b) = if bless x y = true then -1 else if bless y x = true then 1 else lcmp a b := by rw [lcmp]
theorem lcmp_same (x : List UInt8) (a b : List (List UInt8)) : lcmp (x :: a) (x :: b) = lcmp a b := by rw [lcmp_cons, bless_self]; simp
theorem lcmp_head (a : UInt8) (P Q : List (List UInt8)) (hp : P ≠ []) (hq : Q ≠ []) : lcmp (headCons a P) (headCons a Q) = lcmp P Q := by
  cases P with
  | nil => exact absurd rfl hp
  | cons x P =>
    cases Q with
    | nil => exact absurd rfl hq
    | cons y Q => rw [headCons, headCons, lcmp_cons, lcmp_cons, bless_same, bless_same]
theorem lcmp_heads (a b : UInt8) (P Q : List (List UInt8)) (hp : P ≠ []) (hq : Q ≠ []) (h : a ≠ b) : lcmp (headCons a P) (headCons b Q) = sgn (a.toNat : Int) (b.toNat : Int) := by
  cases P with
  | nil => exact absurd rfl hp
  | cons x P =>
    cases Q with
    | nil => exact absurd rfl hq
    | cons y Q =>
      rw [headCons, headCons, lcmp_cons, bless_diff _ _ _ _ h, bless_diff _ _ _ _ (fun e => h e.symm)]
      have hn : a.toNat ≠ b.toNat := fun e => h (UInt8.toNat_inj.1 e)
      simp only [decide_eq_true_eq, UInt8.lt_iff_toNat_lt]
      by_cases hl : a.toNat < b.toNat
      · rw [if_pos hl, sgn_lt (by omega)]
      · rw [if_neg hl, if_pos (by omega), sgn_gt (by omega)]
/-- the parts of a path: the empty one has none -/
def pp (l : List UInt8) : List (List UInt8) := if l = [] then [] else partsL 47 l
theorem pp_nil : pp [] = [] := rfl
theorem pp_ne {l : List UInt8} (h : l ≠ []) : pp l = partsL 47 l := if_neg h
theorem pp_cons (a : UInt8) (l : List UInt8) : pp (a :: l) = partsL 47 (a :: l) := if_neg (by simp)
theorem rk_slash : rk 47 = -1 := rfl
theorem rk_other {c : UInt8} (h : c ≠ 47) : rk c = (c.toNat : Int) := if_neg h
theorem lcmp_parts (a b : List UInt8) : lcmp (partsL 47 a) (partsL 47 b) = pcmp a b := by
  induction a generalizing b with
  | nil =>
    cases b with
    | nil => rw [partsL_nil, lcmp_same, lcmp_nil_nil, pcmp_nil_nil]
    | cons y b =>
      rw [partsL_nil, partsL_cons, pcmp_nil_cons]
      by_cases h : y = 47
      · rw [if_pos h, lcmp_same]
        rcases hp : partsL 47 b with _ | ⟨u, v⟩
        · exact absurd hp (partsL_ne _ _)
        · exact lcmp_nil_cons _ _
      · rw [if_neg h]
        rcases hp : partsL 47 b with _ | ⟨u, v⟩
        · exact absurd hp (partsL_ne _ _)
        · rw [headCons, lcmp_cons, bless_nil_l]; simp
  | cons x a ih =>
    cases b with
    | nil =>
      rw [partsL_nil, partsL_cons, pcmp_cons_nil]
      by_cases h : x = 47
      · rw [if_pos h, lcmp_same]
        rcases hp : partsL 47 a with _ | ⟨u, v⟩
        · exact absurd hp (partsL_ne _ _)
        · exact lcmp_cons_nil _ _
      · rw [if_neg h]
        rcases hp : partsL 47 a with _ | ⟨u, v⟩
        · exact absurd hp (partsL_ne _ _)
        · rw [headCons, lcmp_cons, bless_nil_r, bless_nil_l]; simp
    | cons y b =>
      rw [partsL_cons, partsL_cons, pcmp_cons]
      by_cases hx : x = 47
      · subst hx
        rw [if_pos rfl]
        by_cases hy : y = 47
        · subst hy
          rw [if_pos rfl, if_pos rfl, lcmp_same, ih]
        · rw [if_neg hy, if_neg (fun e => hy e.symm), rk_slash, rk_other hy, sgn_lt (by omega)]
          rcases hp : partsL 47 b with _ | ⟨u, v⟩
          · exact absurd hp (partsL_ne _ _)
          · rw [headCons, lcmp_cons, bless_nil_l]; simp
      · rw [if_neg hx]
        by_cases hy : y = 47
        · subst hy
          rw [if_pos rfl, if_neg hx, rk_slash, rk_other hx, sgn_gt (by omega)]
          rcases hp : partsL 47 a with _ | ⟨u, v⟩
          · exact absurd hp (partsL_ne _ _)
          · rw [headCons, lcmp_cons, bless_nil_r, bless_nil_l]; simp
        · rw [if_neg hy]
          by_cases e : x = y
          · subst e
            rw [if_pos rfl, lcmp_head _ _ _ (partsL_ne _ _) (partsL_ne _ _), ih]
          · rw [if_neg e, lcmp_heads _ _ _ _ (partsL_ne _ _) (partsL_ne _ _) e, rk_other hx, rk_other hy]
theorem lcmp_pp (a b : List UInt8) : lcmp (pp a) (pp b) = pcmp a b := by
  cases a with
  | nil =>
    cases b with
    | nil => rfl
    | cons y b =>
      rw [pp_nil, pp_cons, pcmp_nil_cons]
      rcases hp : partsL 47 (y :: b) with _ | ⟨u, v⟩
      · exact absurd hp (partsL_ne _ _)
      · exact lcmp_nil_cons _ _
  | cons x a =>
    cases b with
    | nil =>
      rw [pp_nil, pp_cons, pcmp_cons_nil]
      rcases hp : partsL 47 (x :: a) with _ | ⟨u, v⟩
      · exact absurd hp (partsL_ne _ _)
      · exact lcmp_cons_nil _ _
    | cons y b => rw [pp_cons, pp_cons, lcmp_parts]
/-! ### behind k equal parts -/
theorem lcmp_app (p a b : List (List UInt8)) : lcmp (p ++ a) (p ++ b) = lcmp a b := by
  induction p with
  | nil => rfl
  | cons x p ih => rw [List.cons_append, List.cons_append, lcmp_same, ih]
theorem lcmp_short (a b : List (List UInt8)) (h : a = [] ∨ b = []) : lcmp a b = sgn a.length b.length := by
  rcases h with rfl | rfl
  · cases b with
    | nil => rw [lcmp_nil_nil]; exact (sgn_self _).symm
    | cons y b => rw [lcmp_nil_cons, sgn_lt (by simp)]
  · cases a with
    | nil => rw [lcmp_nil_nil]; exact (sgn_self _).symm
    | cons y b => rw [lcmp_cons_nil, sgn_gt (by simp)]
theorem lcmp_end (a b : List (List UInt8)) (k : Nat) (he : a.take k = b.take k) (ha : k ≤ a.length) (hb : k ≤ b.length) (h : k = a.length ∨ k = b.length) : lcmp a b = sgn a.length b.length := by
  have e1 : a = a.take k ++ a.drop k := (List.take_append_drop k a).symm
  have e2 : b = a.take k ++ b.drop k := by rw [he]; exact (List.take_append_drop k b).symm
  have l1 : (a.drop k).length = a.length - k := List.length_drop ..
  have l2 : (b.drop k).length = b.length - k := List.length_drop ..
  have : lcmp a b = lcmp (a.drop k) (b.drop k) := by
    conv => lhs; rw [e1, e2]
    exact lcmp_app _ _ _
  rw [this, lcmp_short _ _ (by rcases h with h | h; exact .inl (List.eq_nil_of_length_eq_zero (by omega)); exact .inr (List.eq_nil_of_length_eq_zero (by omega))), l1, l2]
  unfold sgn
  by_cases c1 : (a.length : Int) < b.length
  · rw [if_pos c1, if_pos (by omega)]
  · rw [if_neg c1, if_neg (by omega)]
    by_cases c2 : (b.length : Int) < a.length
    · rw [if_pos c2, if_pos (by omega)]
    · rw [if_neg c2, if_neg (by omega)]
theorem lcmp_at (a b : List (List UInt8)) (k : Nat) (he : a.take k = b.take k) (ha : k < a.length) (hb : k < b.length) :
    lcmp a b = if bless a[k] b[k] = true then -1 else if bless b[k] a[k] = true then 1 else lcmp (a.drop (k + 1)) (b.drop (k + 1)) := by
  have e1 : a = a.take k ++ a[k] :: a.drop (k + 1) := by rw [← List.drop_eq_getElem_cons ha]; exact (List.take_append_drop k a).symm
  have e2 : b = a.take k ++ b[k] :: b.drop (k + 1) := by rw [← List.drop_eq_getElem_cons hb, he]; exact (List.take_append_drop k b).symm
  have : lcmp a b = lcmp (a[k] :: a.drop (k + 1)) (b[k] :: b.drop (k + 1)) := by
    conv => lhs; rw [e1, e2]
    exact lcmp_app _ _ _
  rw [this, lcmp_cons]
theorem bless_total (x y : List UInt8) (h1 : bless x y = false) (h2 : bless y x = false) : x = y := by
  induction x generalizing y with
  | nil =>
    cases y with
    | nil => rfl
    | cons b y => rw [bless_nil_l] at h1; cases h1
  | cons a x ih =>
    cases y with
    | nil => rw [bless_nil_l] at h2; cases h2
    | cons b y =>
      by_cases e : a = b
      · subst e
        rw [bless_same] at h1 h2
        rw [ih y h1 h2]
      · rw [bless_diff _ _ _ _ e] at h1
        rw [bless_diff _ _ _ _ (fun h => e h.symm)] at h2
        have h1' := of_decide_eq_false h1
        have h2' := of_decide_eq_false h2
        rw [UInt8.lt_iff_toNat_lt] at h1' h2'
        exact absurd (UInt8.toNat_inj.1 (by omega)) e
theorem getD_take_snoc (ls : List (List UInt8)) (k : Nat) (h : k < ls.length) : ls.take (k + 1) = ls.take k ++ [ls.getD k []] := by
  rw [List.take_succ_eq_append_getElem h, List.getD_eq_getElem?_getD, List.getElem?_eq_getElem h]; rfl
theorem lcmp_step (a b : List (List UInt8)) (k : Nat) (he : a.take k = b.take k) (ha : k < a.length) (hb : k < b.length) :
    (bless (a.getD k []) (b.getD k []) = true → lcmp a b = -1) ∧ (bless (a.getD k []) (b.getD k []) = false → a.getD k [] ≠ b.getD k [] → lcmp a b = 1) ∧ (a.getD k [] = b.getD k [] → a.take (k + 1) = b.take (k + 1)) := by
  have ga : a.getD k [] = a[k] := by rw [List.getD_eq_getElem?_getD, List.getElem?_eq_getElem ha]; rfl
  have gb : b.getD k [] = b[k] := by rw [List.getD_eq_getElem?_getD, List.getElem?_eq_getElem hb]; rfl
  rw [ga, gb]
  refine ⟨fun h => ?_, fun h hne => ?_, fun h => ?_⟩
  · rw [lcmp_at a b k he ha hb, if_pos h]
  · rw [lcmp_at a b k he ha hb, if_neg (by rw [h]; simp), if_pos]
    cases h2 : bless b[k] a[k]
    · exact absurd (bless_total _ _ h h2) hne
    · rfl
  · rw [getD_take_snoc a k ha, getD_take_snoc b k hb, he, ga, gb, h]
end Go.Proofs.YtoikpnjnljdpaaaGreatDoor
/- Plain mathematics of splitting, joining, and the last part; nothing of the program. -/
set_option linter.unusedVariables false
namespace Go.Proofs.YtoikpnjnljdpaaaGreatDoor
open Go.RowKit
theorem headCons_app (a : UInt8) (l m : List (List UInt8)) (h : l ≠ []) : headCons a (l ++ m) = headCons a l ++ m := by
  cases l with
  | nil => exact absurd rfl h
  | cons x l => rfl
theorem partsL_app (c : UInt8) (a b : List UInt8) : partsL c (a ++ c :: b) = partsL c a ++ partsL c b := by
  induction a with
  | nil => rw [List.nil_append, partsL_cons, if_pos rfl, partsL_nil]; rfl
  | cons x a ih =>
    rw [List.cons_append, partsL_cons, partsL_cons, ih]
    by_cases h : x = c
    · rw [if_pos h, if_pos h]; rfl
    · rw [if_neg h, if_neg h, headCons_app _ _ _ (partsL_ne c a)]
theorem partsL_none (c : UInt8) (l : List UInt8) (h : hasB c l = false) : partsL c l = [l] := by
  induction l with
  | nil => rfl
  | cons x l ih =>
    rw [hasB_cons, Bool.or_eq_false_iff] at h
    have hx : x ≠ c := by simpa using h.1
    rw [partsL_cons, if_neg hx, ih h.2]; rfl
def joinL : List (List UInt8) → List UInt8
  | [] => []
  | [x] => x
  | x :: y :: r => x ++ 47 :: joinL (y :: r)
theorem joinL_cons (x : List UInt8) (l : List (List UInt8)) (h : l ≠ []) : joinL (x :: l) = x ++ 47 :: joinL l := by
  cases l with
  | nil => exact absurd rfl h
  | cons y l => rfl
theorem joinL_head (a : UInt8) (l : List (List UInt8)) (h : l ≠ []) : joinL (headCons a l) = a :: joinL l := by
  cases l with
  | nil => exact absurd rfl h
  | cons x l =>
    cases l with
    | nil => rfl
    | cons y l => rfl
theorem joinL_parts (l : List UInt8) : joinL (partsL 47 l) = l := by
  induction l with
  | nil => rfl
  | cons x l ih =>
    rw [partsL_cons]
    by_cases h : x = 47
    · rw [if_pos h, joinL_cons _ _ (partsL_ne _ _), ih, h]; rfl
    · rw [if_neg h, joinL_head _ _ (partsL_ne _ _), ih]
theorem joinL_snoc (ls : List (List UInt8)) (x : List UInt8) (h : ls ≠ []) : joinL (ls ++ [x]) = joinL ls ++ 47 :: x := by
  induction ls with
  | nil => exact absurd rfl h
  | cons y ls ih =>
    by_cases h2 : ls = []
    · subst h2; rfl
    · rw [List.cons_append, joinL_cons _ _ (by simp), ih h2, joinL_cons _ _ h2]; simp
theorem joinL_take_le (ls : List (List UInt8)) (k : Nat) : (joinL (ls.take k)).length ≤ (joinL ls).length := by
  induction ls generalizing k with
  | nil => simp
  | cons x ls ih =>
    cases k with
    | zero => simp [joinL]
    | succ k =>
      rw [List.take_succ_cons]
      by_cases h : ls = []
      · subst h; simp
      · rw [joinL_cons x ls h]
        by_cases h2 : ls.take k = []
        · rw [h2]; simp [joinL]
        · rw [joinL_cons _ _ h2]
          have := ih k
          simp only [List.length_append, List.length_cons]; omega
/-- what a path is in; its last part -/
def upL (l : List UInt8) : List UInt8 := joinL (partsL 47 l).dropLast
def baseL (l : List UInt8) : List UInt8 := (partsL 47 l).getLast (partsL_ne 47 l)
theorem up_base_at (l a b : List UInt8) (h : hasB 47 b = false) (e : l = a ++ 47 :: b) : upL l = a ∧ baseL l = b := by
  have hp : partsL 47 l = partsL 47 a ++ [b] := by rw [e, partsL_app, partsL_none 47 b h]
  refine ⟨?_, ?_⟩
  · unfold upL; rw [hp, List.dropLast_concat, joinL_parts]
  · unfold baseL; simp [hp]
theorem up_base_none (l : List UInt8) (h : hasB 47 l = false) : upL l = [] ∧ baseL l = l := by
  have hp := partsL_none 47 l h
  refine ⟨?_, ?_⟩
  · unfold upL; rw [hp]; rfl
  · unfold baseL; simp [hp]
theorem hasB_mem (c : UInt8) (l : List UInt8) : hasB c l = false ↔ ∀ x ∈ l, x ≠ c := by
  unfold hasB; simp
/-- the byte string's last byte c, by the library's word -/
theorem last_cases (s : ByteArray) : (Lib.lastIndexByte s 47 = -1 ∧ upL s.data.toList = [] ∧ baseL s.data.toList = s.data.toList ∧ hasB 47 s.data.toList = false) ∨
    ∃ i : Nat, i < s.size ∧ Lib.lastIndexByte s 47 = i ∧ upL s.data.toList = s.data.toList.take i ∧ baseL s.data.toList = s.data.toList.drop (i + 1) ∧ hasB 47 s.data.toList = true := by
  have hl : s.data.toList.length = s.size := by simp
  have hg : ∀ j (h : j < s.size), s.data[j]! = s.data.toList[j]'(by omega) := fun j h => by
    rw [getElem!_pos s.data j (by simpa using h)]; simp
  rcases Lib.lastIndexByte_spec s 47 with ⟨h1, h2⟩ | ⟨i, hi, h1, h2, h3⟩
  · refine .inl ⟨h1, ?_⟩
    have hb : hasB 47 s.data.toList = false := by
      rw [hasB_mem]
      intro x hx e
      obtain ⟨j, hj, rfl⟩ := List.getElem_of_mem hx
      refine h2 j (by omega) ?_
      rw [hg j (by omega), e]; rfl
    obtain ⟨u, b⟩ := up_base_none _ hb
    exact ⟨u, b, hb⟩
  · refine .inr ⟨i, hi, h1, ?_⟩
    have hil : i < s.data.toList.length := by omega
    have e47 : s.data.toList[i] = 47 := by
      have := h2; rw [hg i hi] at this
      exact UInt8.toNat_inj.1 (by show _ = 47; omega)
    have hb : hasB 47 (s.data.toList.drop (i + 1)) = false := by
      rw [hasB_mem]
      intro x hx e
      obtain ⟨j, hj, rfl⟩ := List.getElem_of_mem hx
      rw [List.length_drop] at hj
      refine h3 (i + 1 + j) (by omega) (by omega) ?_
      rw [hg _ (by omega)]
      rw [List.getElem_drop] at e
      rw [e]; rfl
    have e : s.data.toList = s.data.toList.take i ++ 47 :: s.data.toList.drop (i + 1) := by
      conv => lhs; rw [← List.take_append_drop i s.data.toList, List.drop_eq_getElem_cons hil, e47]
    obtain ⟨u, b⟩ := up_base_at _ _ _ hb e
    refine ⟨u, b, ?_⟩
    rw [e, hasB_app, hasB_cons]; simp
/-! ### strings.Split at one byte -/
theorem partsL_cut (c : UInt8) (l : List UInt8) (h : hasB c l = true) : partsL c l = l.take (pos c l) :: partsL c (l.drop (pos c l + 1)) := by
  have hp : pos c l < l.length := by rw [hasB_pos] at h; exact of_decide_eq_true h
  have e : l = l.take (pos c l) ++ c :: l.drop (pos c l + 1) := by
    conv => lhs; rw [← List.take_append_drop (pos c l) l, List.drop_eq_getElem_cons hp, pos_get c l hp]
  conv => lhs; rw [e]
  rw [partsL_app, partsL_none c _ (hasB_take c l _ (Nat.le_refl _))]; rfl
theorem count_cut (c : UInt8) (l : List UInt8) (h : hasB c l = true) : l.count c = (l.drop (pos c l + 1)).count c + 1 := by
  have := partsL_cut c l h
  have h2 := congrArg List.length this
  rw [partsL_length, List.length_cons, partsL_length] at h2
  omega
theorem splitK_parts (c : UInt8) (k : Nat) (l : List UInt8) (h : l.count c = k) : Lib.splitK [c] 0 k l = partsL c l := by
  induction k generalizing l with
  | zero =>
    have : hasB c l = false := by
      rw [hasB_mem]; intro x hx e; subst e
      have := List.count_pos_iff.2 hx; omega
    rw [partsL_none c l this]; rfl
  | succ k ih =>
    have hb : hasB c l = true := by
      rw [← Bool.not_eq_false, hasB_mem]; intro h2
      have : l.count c = 0 := List.count_eq_zero.2 (fun hm => h2 c hm rfl)
      omega
    have hi : Lib.index l [c] = (pos c l : Int) := by rw [Lib.index_one, indexByte_pos, if_pos hb]
    have hc := count_cut c l hb
    unfold Lib.splitK
    rw [hi, if_neg (by simp), partsL_cut c l hb, Int.toNat_natCast, Nat.add_zero, List.length_singleton, ih _ (by omega)]
theorem countB_slash (s : ByteArray) : Lib.countB s ⟨#[47]⟩ = s.data.toList.count 47 := Lib.count_one 47 s.data.toList
theorem splitB_parts (s : ByteArray) (k : Nat) (h : s.data.toList.count 47 = k) : (Lib.splitB ⟨#[47]⟩ 0 k s).map Value.string = strC (partsL 47 s.data.toList) := by
  have hd := Lib.splitB_data ⟨#[47]⟩ 0 k s
  rw [show (⟨#[47]⟩ : ByteArray).data.toList = [47] from rfl, splitK_parts 47 k _ h] at hd
  rw [← hd]
  unfold strC
  rw [List.map_map]
  refine List.map_congr_left fun x _ => ?_
  show Value.string x = strV x.data.toList
  unfold strV
  congr 1
/-! ### strings.Join -/
theorem join_joinL (ls : List (List UInt8)) : Lib.join ls [47] = joinL ls := by
  induction ls with
  | nil => rfl
  | cons x ls ih =>
    by_cases h : ls = []
    · subst h; rw [Lib.join_one]; rfl
    · rw [joinL_cons x ls h, ← ih]
      cases ls with
      | nil => exact absurd rfl h
      | cons y r => rw [Lib.join_cons, Lib.join_cons]; simp [Lib.joinTail]
/-- may a part be a name -/
def nameB (l : List UInt8) : Bool := !(decide (l = [])) && !(decide (l = [46])) && !(decide (l = [46, 46]))
theorem nameB_false (l : List UInt8) (h : l = [] ∨ l = [46] ∨ l = [46, 46]) : nameB l = false := by
  rcases h with rfl | rfl | rfl <;> rfl
theorem nameB_true (l : List UInt8) (h : l ≠ []) (h1 : l ≠ [46]) (h2 : l ≠ [46, 46]) : nameB l = true := by simp [nameB, h, h1, h2]
/-- what Check says of a path -/
def pathE (l : List UInt8) : Int :=
  if l.length < 1 ∨ 400 < l.length then 1 else if hasB 0 l = true then 3 else if (partsL 47 l).all nameB = true then 0 else 9
theorem pathE_size {l : List UInt8} (h : l.length < 1 ∨ 400 < l.length) : pathE l = 1 := if_pos h
theorem pathE_form {l : List UInt8} (h : ¬ (l.length < 1 ∨ 400 < l.length)) (h2 : hasB 0 l = true) : pathE l = 3 := by rw [pathE, if_neg h, if_pos h2]
theorem pathE_ok {l : List UInt8} (h : ¬ (l.length < 1 ∨ 400 < l.length)) (h2 : hasB 0 l = false) (h3 : (partsL 47 l).all nameB = true) : pathE l = 0 := by rw [pathE, if_neg h, if_neg (by simp [h2]), if_pos h3]
theorem pathE_no {l : List UInt8} (h : ¬ (l.length < 1 ∨ 400 < l.length)) (h2 : hasB 0 l = false) (h3 : (partsL 47 l).all nameB = false) : pathE l = 9 := by rw [pathE, if_neg h, if_neg (by simp [h2]), if_neg (by simp [h3])]
def allE (ls : List (List UInt8)) : Int := if ls.all nameB = true then 0 else 9
theorem allE_yes {ls : List (List UInt8)} (h : ls.all nameB = true) : allE ls = 0 := if_pos h
theorem allE_no {ls : List (List UInt8)} (h : ls.all nameB = false) : allE ls = 9 := if_neg (by simp [h])
theorem all_take_no (ls : List (List UInt8)) (p : List UInt8 → Bool) (k : Nat) (hk : k < ls.length) (h : p (ls.getD k []) = false) : ls.all p = false := by
  rw [← Bool.not_eq_true, List.all_eq_true]
  intro h2
  rw [List.getD_eq_getElem?_getD, List.getElem?_eq_getElem hk] at h
  have := h2 _ (List.getElem_mem hk)
  rw [Option.getD_some] at h
  rw [h] at this; cases this
theorem all_take_snoc (ls : List (List UInt8)) (p : List UInt8 → Bool) (k : Nat) (hk : k < ls.length) (h0 : (ls.take k).all p = true) (h : p (ls.getD k []) = true) : (ls.take (k + 1)).all p = true := by
  rw [getD_take_snoc ls k hk, List.all_append, h0]; simpa using h
theorem eq_const (s : ByteArray) (l : List UInt8) : (s.toList = l) = (s.data.toList = l) := by
  rw [ByteArray.toList_eq]
end Go.Proofs.YtoikpnjnljdpaaaGreatDoor
/- Plain mathematics of nodes and trees: what is wrong with them, finding, putting, removing; nothing of the program. -/
set_option linter.unusedVariables false
namespace Go.Proofs.YtoikpnjnljdpaaaGreatDoor
open Go.RowKit
theorem MetaV.ext_iff' (a b : MetaV) : (a.mode = b.mode ∧ a.uid = b.uid ∧ a.gid = b.gid ∧ a.user = b.user ∧ a.group = b.group ∧ a.second = b.second ∧ a.nano = b.nano) ↔ a = b := by
  constructor
  · rintro ⟨h1, h2, h3, h4, h5, h6, h7⟩
    cases a; cases b; simp_all
  · rintro rfl; exact ⟨rfl, rfl, rfl, rfl, rfl, rfl, rfl⟩
instance : DecidableEq MetaV := fun a b => decidable_of_iff _ (MetaV.ext_iff' a b)
theorem NodeV.ext_iff' (a b : NodeV) : (a.path = b.path ∧ a.kind = b.kind ∧ a.same = b.same ∧ a.target = b.target ∧ a.md = b.md ∧ a.data = b.data) ↔ a = b := by
  constructor
  · rintro ⟨h1, h2, h3, h4, h5, h6⟩
    cases a; cases b; simp_all
  · rintro rfl; exact ⟨rfl, rfl, rfl, rfl, rfl, rfl⟩
instance : DecidableEq NodeV := fun a b => decidable_of_iff _ (NodeV.ext_iff' a b)
/-- what is wrong with a node's kind, target, number and data -/
def nodK (n : NodeV) : Int :=
  if n.kind = 1 then (if n.target ≠ [] ∨ n.same < 0 then 3 else if 2000 < n.data.length then 1 else 0)
  else if n.kind = 2 ∨ n.kind = 3 then
    (if n.data ≠ [] ∨ n.same ≠ 0 ∨ (n.kind = 2 ∧ n.target ≠ []) ∨ (n.kind = 3 ∧ n.target = []) ∨ hasB 0 n.target = true then 3 else if 400 < n.target.length then 1 else 0)
  else 2
/-- what is wrong with a node -/
def nodE (n : NodeV) : Int := if pathE n.path ≠ 0 then pathE n.path else if metE n.md ≠ 0 then metE n.md else nodK n
theorem nodE_path {n : NodeV} (h : pathE n.path ≠ 0) : nodE n = pathE n.path := if_pos h
theorem nodE_meta {n : NodeV} (h : pathE n.path = 0) (h2 : metE n.md ≠ 0) : nodE n = metE n.md := by unfold nodE; rw [if_neg (by simp [h]), if_pos h2]
theorem nodE_kind {n : NodeV} (h : pathE n.path = 0) (h2 : metE n.md = 0) : nodE n = nodK n := by unfold nodE; rw [if_neg (by simp [h]), if_neg (by simp [h2])]
/-- the place of the first node with a path, or as many as there are -/
def findL (t : List NodeV) (s : List UInt8) : Nat := (t.takeWhile fun n => !decide (n.path = s)).length
theorem findL_le (t : List NodeV) (s : List UInt8) : findL t s ≤ t.length := by
  unfold findL
  induction t with
  | nil => exact Nat.le_refl _
  | cons a t ih => rw [List.takeWhile_cons]; split <;> simp_all <;> omega
theorem findL_ne (t : List NodeV) (s : List UInt8) (k : Nat) (h : k < findL t s) (hk : k < t.length) : t[k].path ≠ s := by
  induction t generalizing k with
  | nil => exact absurd hk (by simp)
  | cons a t ih =>
    unfold findL at h
    rw [List.takeWhile_cons] at h
    by_cases e : a.path = s
    · simp [e] at h
    · simp only [e, decide_false, Bool.not_false, if_true, List.length_cons] at h
      cases k with
      | zero => simpa using e
      | succ k => simpa using ih k (by unfold findL; omega) (by simpa using hk)
theorem findL_at (t : List NodeV) (s : List UInt8) (h : findL t s < t.length) : (t[findL t s]'h).path = s := by
  induction t with
  | nil => exact absurd h (by simp)
  | cons a t ih =>
    by_cases e : a.path = s
    · have h0 : findL (a :: t) s = 0 := by unfold findL; simp [e]
      simp only [h0]; exact e
    · have h1 : findL (a :: t) s = findL t s + 1 := by unfold findL; simp [e]
      have h' : findL t s < t.length := by rw [h1, List.length_cons] at h; omega
      have := ih h'
      simp [h1, this]
theorem findL_stop (t : List NodeV) (s : List UInt8) (k : Nat) (hk : k < t.length) (h : k ≤ findL t s) (e : t[k].path = s) : findL t s = k := by
  rcases Nat.lt_or_eq_of_le h with h' | h'
  · exact absurd e (findL_ne t s k h' hk)
  · exact h'.symm
theorem findL_step (t : List NodeV) (s : List UInt8) (k : Nat) (hk : k < t.length) (h : k ≤ findL t s) (e : t[k].path ≠ s) : k + 1 ≤ findL t s := by
  rcases Nat.lt_or_eq_of_le h with h' | h'
  · exact h'
  · subst h'; exact absurd (findL_at t s hk) e
/-- is the directory of a path there -/
def upOk (t : List NodeV) (p : List UInt8) : Bool := decide (upL p = []) || t.any fun n => decide (n.path = upL p) && decide (n.kind = 2)
/-- is another node of the same file another one -/
def linkNo (t : List NodeV) (n : NodeV) : Bool := decide (n.same ≠ 0) && t.any fun x => decide (x.same = n.same) && !(decide (x.md = n.md) && decide (x.data = n.data))
/-- what is wrong with a node behind others -/
def atE (t : List NodeV) (n : NodeV) : Int :=
  if nodE n ≠ 0 then nodE n
  else if (match t.getLast? with | some x => !decide (pcmp x.path n.path = -1) | none => false) = true then 6
  else if upOk t n.path = false then 10
  else if linkNo t n = true then 11
  else 0
/-- what is wrong with nodes, those ahead of them being t -/
def walkE (t : List NodeV) : List NodeV → Int
  | [] => 0
  | n :: l => if atE t n ≠ 0 then atE t n else walkE (t ++ [n]) l
/-- what is wrong with a tree -/
def treeE (t : List NodeV) : Int := if 40 < t.length then 1 else walkE [] t
theorem walkE_app (t l m : List NodeV) (h : walkE t l = 0) : walkE t (l ++ m) = walkE (t ++ l) m := by
  induction l generalizing t with
  | nil => simp
  | cons n l ih =>
    rw [walkE] at h
    rw [List.cons_append, walkE]
    by_cases e : atE t n ≠ 0
    · rw [if_pos e] at h; exact absurd h e
    · rw [if_neg e] at h ⊢
      rw [ih _ h]; simp
/-- good as far as k, and then not: the fault is the k-th one's -/
theorem walkE_stop (l : List NodeV) (k : Nat) (hk : k < l.length) (h : walkE [] (l.take k) = 0) (he : atE (l.take k) l[k] ≠ 0) : walkE [] l = atE (l.take k) l[k] := by
  have h1 := walkE_app [] (l.take k) (l.drop k) h
  rw [List.take_append_drop, List.nil_append, List.drop_eq_getElem_cons hk, walkE, if_pos he] at h1
  exact h1
theorem walkE_step (l : List NodeV) (k : Nat) (hk : k < l.length) (h : walkE [] (l.take k) = 0) (he : atE (l.take k) l[k] = 0) : walkE [] (l.take (k + 1)) = 0 := by
  have h1 := walkE_app [] (l.take k) [l[k]] h
  rw [← List.take_succ_eq_append_getElem hk, List.nil_append, walkE, if_neg (by simp [he]), walkE] at h1
  exact h1
/-- a tree with a node put in, in the order of paths -/
def putL (t : List NodeV) (n : NodeV) : List NodeV := t.filter (fun x => decide (pcmp x.path n.path < 0)) ++ n :: t.filter fun x => decide (0 < pcmp x.path n.path)
/-- a tree without a path and all in it -/
def remL (t : List NodeV) (s : List UInt8) : List NodeV := t.filter fun n => !(decide (n.path = s) || inB n.path s)
def putT (t : List NodeV) (n : NodeV) : List NodeV × Int := if treeE t ≠ 0 then ([], treeE t) else if treeE (putL t n) ≠ 0 then ([], treeE (putL t n)) else (putL t n, 0)
def remT (t : List NodeV) (s : List UInt8) : List NodeV × Int := if treeE t ≠ 0 then ([], treeE t) else if findL t s = t.length then ([], 5) else (remL t s, 0)
/-- strictly rising paths -/
def Rises (t : List NodeV) : Prop := t.Pairwise fun x y => pcmp x.path y.path = -1
end Go.Proofs.YtoikpnjnljdpaaaGreatDoor
/- Plain mathematics of valid trees; nothing of the program. -/
set_option linter.unusedVariables false
namespace Go.Proofs.YtoikpnjnljdpaaaGreatDoor
open Go.RowKit
theorem plt_trans {a b c : List UInt8} (h1 : pcmp a b = -1) (h2 : pcmp b c = -1) : pcmp a c = -1 := by
  have h := pcmp_trans a b c (by omega) (by omega)
  have hb := pcmp_bd a c
  rcases Int.lt_or_eq_of_le h with h | h
  · omega
  · have := (pcmp_zero a c).1 h
    subst this
    have := pcmp_neg a b; omega
theorem plt_irr (a : List UInt8) : pcmp a a ≠ -1 := by rw [pcmp_self]; decide
theorem plt_asym {a b : List UInt8} (h : pcmp a b = -1) : pcmp b a ≠ -1 := by rw [pcmp_neg, h]; decide
theorem pcmp_tri (a b : List UInt8) : pcmp a b = -1 ∨ a = b ∨ pcmp b a = -1 := by
  have h1 := pcmp_bd a b
  have h2 := pcmp_neg a b
  rcases (show pcmp a b = -1 ∨ pcmp a b = 0 ∨ pcmp a b = 1 by omega) with h | h | h
  · exact .inl h
  · exact .inr (.inl ((pcmp_zero a b).1 h))
  · exact .inr (.inr (by omega))
theorem up_join {p : List UInt8} (h : upL p ≠ []) : p = upL p ++ 47 :: baseL p := by
  have hd : (partsL 47 p).dropLast ≠ [] := by
    intro e; apply h; unfold upL; rw [e]; rfl
  have h1 := joinL_snoc (partsL 47 p).dropLast (baseL p) hd
  unfold baseL at h1 ⊢
  rw [List.dropLast_concat_getLast, joinL_parts] at h1
  exact h1
/-- a path's directory stands ahead of it -/
theorem up_before {p : List UInt8} (h : upL p ≠ []) : pcmp (upL p) p = -1 := by
  have h1 : hasB 47 p = true := by
    rcases e : hasB 47 p with _ | _
    · exact absurd (up_base_none p e).1 h
    · rfl
  obtain ⟨b, e⟩ : ∃ b, p = upL p ++ 47 :: b := ⟨baseL p, up_join h⟩
  have h2 : pcmp (upL p ++ []) (upL p ++ 47 :: b) = -1 := by rw [pcmp_app, pcmp_nil_cons]
  rw [List.append_nil, ← e] at h2
  exact h2
/-- what a tree is, apart from its size -/
structure Sound (t : List NodeV) : Prop where
  rises : Rises t
  node : ∀ n ∈ t, nodE n = 0
  up : ∀ n ∈ t, upL n.path = [] ∨ ∃ d ∈ t, d.path = upL n.path ∧ d.kind = 2
  link : ∀ x ∈ t, ∀ y ∈ t, x.same = y.same → x.same ≠ 0 → x.md = y.md ∧ x.data = y.data
theorem atE_zero (t : List NodeV) (n : NodeV) : atE t n = 0 ↔ nodE n = 0 ∧ (∀ x, t.getLast? = some x → pcmp x.path n.path = -1) ∧ upOk t n.path = true ∧ linkNo t n = false := by
  unfold atE
  by_cases h1 : nodE n ≠ 0
  · rw [if_pos h1]; exact ⟨fun h => absurd h h1, fun h => absurd h.1 h1⟩
  · rw [if_neg h1]
    have h1' : nodE n = 0 := by simpa using h1
    cases hg : t.getLast? with
    | none =>
      simp only [Bool.false_eq_true, if_false]
      cases upOk t n.path <;> cases linkNo t n <;> simp [h1']
    | some x =>
      by_cases h2 : pcmp x.path n.path = -1
      · cases upOk t n.path <;> cases linkNo t n <;> simp [h1', h2]
      · simp [h2]
theorem walkE_all (l : List NodeV) : ∀ s, walkE s l = 0 ↔ ∀ k (hk : k < l.length), atE (s ++ l.take k) l[k] = 0 := by
  induction l with
  | nil => intro s; simp [walkE]
  | cons n l ih =>
    intro s
    rw [walkE]
    constructor
    · intro h k hk
      by_cases e : atE s n ≠ 0
      · rw [if_pos e] at h; exact absurd h e
      · rw [if_neg e] at h
        cases k with
        | zero => simp only [List.take_zero, List.append_nil, List.getElem_cons_zero]; simpa using e
        | succ k =>
          have := (ih _).1 h k (by simpa using hk)
          simpa using this
    · intro h
      have h0 : atE s n = 0 := by
        have := h 0 (by simp)
        simpa only [List.take_zero, List.append_nil, List.getElem_cons_zero] using this
      rw [if_neg (by simp [h0])]
      refine (ih _).2 fun k hk => ?_
      have := h (k + 1) (by simpa using hk)
      simpa using this
theorem rises_get {t : List NodeV} (h : Rises t) (i j : Nat) (hi : i < t.length) (hj : j < t.length) (hij : i < j) : pcmp t[i].path t[j].path = -1 :=
  (List.pairwise_iff_getElem.1 h) i j hi hj hij
theorem rises_snoc {t : List NodeV} {n : NodeV} (h : Rises t) (hl : ∀ x, t.getLast? = some x → pcmp x.path n.path = -1) : Rises (t ++ [n]) := by
  unfold Rises at *
  rw [List.pairwise_append]
  refine ⟨h, List.pairwise_singleton _ _, fun x hx y hy => ?_⟩
  obtain rfl : y = n := by simpa using hy
  obtain ⟨i, hi, rfl⟩ := List.getElem_of_mem hx
  have hne : t ≠ [] := by intro e; subst e; simp at hi
  have hlast := hl _ (List.getLast?_eq_some_getLast hne)
  rw [List.getLast_eq_getElem] at hlast
  rcases Nat.lt_or_eq_of_le (show i ≤ t.length - 1 by omega) with h' | h'
  · exact plt_trans (rises_get h i (t.length - 1) hi (by omega) h') hlast
  · subst h'; exact hlast
/-- in a rising list what is less stands ahead -/
theorem rises_ahead {t : List NodeV} (h : Rises t) (k : Nat) (hk : k < t.length) (d : NodeV) (hd : d ∈ t) (hp : pcmp d.path t[k].path = -1) : d ∈ t.take k := by
  obtain ⟨i, hi, rfl⟩ := List.getElem_of_mem hd
  have hik : i < k := by
    rcases Nat.lt_trichotomy i k with h' | h' | h'
    · exact h'
    · subst h'; exact absurd hp (plt_irr _)
    · exact absurd (rises_get h k i hk hi h') (plt_asym hp)
  exact List.mem_take_iff_getElem.2 ⟨i, by omega, rfl⟩
theorem sound_snoc {t : List NodeV} {n : NodeV} (h : Sound t) (ha : atE t n = 0) : Sound (t ++ [n]) := by
  obtain ⟨h1, h2, h3, h4⟩ := (atE_zero t n).1 ha
  refine ⟨rises_snoc h.rises h2, fun x hx => ?_, fun x hx => ?_, fun x hx y hy e hne => ?_⟩
  · rcases List.mem_append.1 hx with a | a
    · exact h.node x a
    · obtain rfl : x = n := by simpa using a
      exact h1
  · rcases List.mem_append.1 hx with a | a
    · rcases h.up x a with e | ⟨d, hd, e⟩
      · exact .inl e
      · exact .inr ⟨d, List.mem_append_left _ hd, e⟩
    · obtain rfl : x = n := by simpa using a
      unfold upOk at h3
      rw [Bool.or_eq_true] at h3
      rcases h3 with e | e
      · exact .inl (by simpa using e)
      · obtain ⟨d, hd, e2⟩ := List.any_eq_true.1 e
        rw [Bool.and_eq_true] at e2
        exact .inr ⟨d, List.mem_append_left _ hd, by simpa using e2.1, by simpa using e2.2⟩
  · have key : ∀ z ∈ t, z.same = n.same → n.same ≠ 0 → z.md = n.md ∧ z.data = n.data := by
      intro z hz ez hz0
      by_cases hc : z.md = n.md ∧ z.data = n.data
      · exact hc
      · exfalso
        have : linkNo t n = true := by
          unfold linkNo
          rw [Bool.and_eq_true]
          refine ⟨by simpa using hz0, List.any_eq_true.2 ⟨z, hz, ?_⟩⟩
          rw [Bool.and_eq_true]
          refine ⟨by simpa using ez, ?_⟩
          rcases Classical.em (z.md = n.md) with em | em
          · have ed : ¬ z.data = n.data := fun e' => hc ⟨em, e'⟩
            simp [em, ed]
          · simp [em]
        rw [h4] at this; cases this
    rcases List.mem_append.1 hx with a | a <;> rcases List.mem_append.1 hy with b | b
    · exact h.link x a y b e hne
    · obtain rfl : y = n := by simpa using b
      exact key x a e (by rw [← e]; exact hne)
    · obtain rfl : x = n := by simpa using a
      have := key y b e.symm hne
      exact ⟨this.1.symm, this.2.symm⟩
    · obtain rfl : x = n := by simpa using a
      obtain rfl : y = x := by simpa using b
      exact ⟨rfl, rfl⟩
theorem sound_nil : Sound [] := ⟨List.Pairwise.nil, fun n h => by simp at h, fun n h => by simp at h, fun n h => by simp at h⟩
theorem walk_sound (t : List NodeV) : walkE [] t = 0 ↔ Sound t := by
  rw [walkE_all]
  constructor
  · intro h
    have key : ∀ k, k ≤ t.length → Sound (t.take k) := by
      intro k
      induction k with
      | zero => intro _; rw [List.take_zero]; exact sound_nil
      | succ k ih =>
        intro hk
        rw [List.take_succ_eq_append_getElem (by omega)]
        exact sound_snoc (ih (by omega)) (by have := h k (by omega); rwa [List.nil_append] at this)
    have := key t.length (Nat.le_refl _)
    rwa [List.take_length] at this
  · intro h k hk
    rw [List.nil_append, atE_zero]
    refine ⟨h.node _ (List.getElem_mem hk), fun x hx => ?_, ?_, ?_⟩
    · cases k with
      | zero => simp at hx
      | succ k =>
        rw [List.take_succ_eq_append_getElem (by omega), List.getLast?_append] at hx
        simp only [List.getLast?_singleton, Option.some_or, Option.some.injEq] at hx
        subst hx
        exact rises_get h.rises k (k + 1) (by omega) hk (by omega)
    · unfold upOk
      rw [Bool.or_eq_true]
      rcases h.up _ (List.getElem_mem hk) with e | ⟨d, hd, e1, e2⟩
      · exact .inl (by simpa using e)
      · by_cases hu : upL t[k].path = []
        · exact .inl (by simpa using hu)
        · refine .inr (List.any_eq_true.2 ⟨d, rises_ahead h.rises k hk d hd (by rw [e1]; exact up_before hu), ?_⟩)
          simp [e1, e2]
    · rw [Bool.eq_false_iff]
      intro hl
      unfold linkNo at hl
      rw [Bool.and_eq_true] at hl
      obtain ⟨z, hz, hz2⟩ := List.any_eq_true.1 hl.2
      rw [Bool.and_eq_true] at hz2
      have h1 := h.link z (List.mem_of_mem_take hz) _ (List.getElem_mem hk) (by simpa using hz2.1) (by
        have e1 : z.same = t[k].same := by simpa using hz2.1
        rw [e1]; simpa using hl.1)
      simp [h1.1, h1.2] at hz2
theorem treeE_zero (t : List NodeV) : treeE t = 0 ↔ t.length ≤ 40 ∧ Sound t := by
  unfold treeE
  by_cases h : 40 < t.length
  · rw [if_pos h]; exact ⟨fun e => absurd e (by decide), fun e => by omega⟩
  · rw [if_neg h, walk_sound]; exact ⟨fun e => ⟨by omega, e⟩, fun e => e.2⟩
/-! ### removing -/
theorem remL_sub (t : List NodeV) (s : List UInt8) : (remL t s).Sublist t := List.filter_sublist
theorem mem_remL {t : List NodeV} {s : List UInt8} {n : NodeV} : n ∈ remL t s ↔ n ∈ t ∧ n.path ≠ s ∧ inB n.path s = false := by
  unfold remL
  rw [List.mem_filter, Bool.not_eq_true', Bool.or_eq_false_iff]
  simp
theorem joinL_app (a b : List (List UInt8)) (ha : a ≠ []) (hb : b ≠ []) : joinL (a ++ b) = joinL a ++ 47 :: joinL b := by
  induction a with
  | nil => exact absurd rfl ha
  | cons x a ih =>
    by_cases h : a = []
    · subst h
      rw [List.cons_append, List.nil_append, joinL_cons _ _ hb]; rfl
    · rw [List.cons_append, joinL_cons _ _ (by simp [h]), joinL_cons _ _ h, ih h]; simp
theorem in_iff {p s : List UInt8} (h : s ≠ []) : inB p s = true ↔ ∃ r, p = s ++ 47 :: r := by
  rw [inB_ne h, decide_eq_true_eq]
  constructor
  · rintro ⟨r, e⟩; exact ⟨r, by rw [← e]; simp⟩
  · rintro ⟨r, rfl⟩; exact ⟨r, by simp⟩
/-- what is in s is directly in s, or its directory is in s -/
theorem up_in {p s : List UInt8} (h : s ≠ []) (hi : inB p s = true) : upL p = s ∨ inB (upL p) s = true := by
  obtain ⟨r, rfl⟩ := (in_iff h).1 hi
  have e : upL (s ++ 47 :: r) = joinL (partsL 47 s ++ (partsL 47 r).dropLast) := by
    unfold upL; rw [partsL_app, List.dropLast_append_of_ne_nil (partsL_ne 47 r)]
  by_cases hd : (partsL 47 r).dropLast = []
  · rw [hd, List.append_nil, joinL_parts] at e; exact .inl e
  · rw [joinL_app _ _ (partsL_ne 47 s) hd, joinL_parts] at e
    exact .inr ((in_iff h).2 ⟨_, e⟩)
theorem in_of_up {p s : List UInt8} (hu : upL p ≠ []) (h : s ≠ []) (hi : upL p = s ∨ inB (upL p) s = true) : inB p s = true := by
  have e := up_join hu
  rcases hi with e1 | e1
  · exact (in_iff h).2 ⟨baseL p, by rw [← e1]; exact e⟩
  · obtain ⟨r, e2⟩ := (in_iff h).1 e1
    refine (in_iff h).2 ⟨r ++ 47 :: baseL p, ?_⟩
    rw [e2] at e
    conv => lhs; rw [e]
    simp
theorem path_ne {n : NodeV} (h : nodE n = 0) : n.path ≠ [] := by
  intro e
  unfold nodE at h
  rw [e, show pathE [] = 1 from rfl, if_pos (by decide)] at h
  exact absurd h (by decide)
theorem rem_sound {t : List NodeV} (h : Sound t) (s : List UInt8) : Sound (remL t s) := by
  refine ⟨h.rises.sublist (remL_sub t s), fun n hn => h.node n (mem_remL.1 hn).1, fun n hn => ?_, fun x hx y hy => h.link x (mem_remL.1 hx).1 y (mem_remL.1 hy).1⟩
  obtain ⟨h1, h2, h3⟩ := mem_remL.1 hn
  by_cases hs : s = []
  · subst hs
    rw [inB_nil] at h3
    exact absurd (by simpa using h3) (path_ne (h.node n h1))
  · rcases h.up n h1 with e | ⟨d, hd, e1, e2⟩
    · exact .inl e
    · by_cases hu : upL n.path = []
      · exact .inl hu
      · refine .inr ⟨d, mem_remL.2 ⟨hd, fun e => ?_, ?_⟩, e1, e2⟩
        · rw [in_of_up hu hs (.inl (by rw [← e1]; exact e))] at h3; cases h3
        · rw [Bool.eq_false_iff]
          intro e
          rw [in_of_up hu hs (.inr (by rw [← e1]; exact e))] at h3; cases h3
/-- what is in s is behind a directory s -/
theorem in_has {t : List NodeV} (h : Sound t) {s : List UInt8} (hs : s ≠ []) : ∀ (k : Nat) (n : NodeV), n ∈ t → n.path.length = k → inB n.path s = true → ∃ d ∈ t, d.path = s := by
  intro k
  induction k using Nat.strongRecOn with
  | ind k ih =>
    intro n hn hk hi
    have hu : upL n.path ≠ [] := by
      rcases up_in hs hi with e | e
      · rw [e]; exact hs
      · intro e2
        obtain ⟨r, e3⟩ := (in_iff hs).1 e
        rw [e2] at e3
        exact absurd (congrArg List.length e3) (by simp)
    rcases h.up n hn with e | ⟨d, hd, e1, e2⟩
    · exact absurd e hu
    · rcases up_in hs hi with e | e
      · exact ⟨d, hd, by rw [e1, e]⟩
      · have hlen : (upL n.path).length < k := by
          have := congrArg List.length (up_join hu)
          rw [List.length_append, List.length_cons] at this
          omega
        exact ih _ hlen d hd (by rw [e1]) (by rw [e1]; exact e)
/-! ### finding -/
theorem findL_none {t : List NodeV} {s : List UInt8} : findL t s = t.length ↔ ∀ n ∈ t, n.path ≠ s := by
  constructor
  · intro h n hn
    obtain ⟨i, hi, rfl⟩ := List.getElem_of_mem hn
    exact findL_ne t s i (by rw [h]; exact hi) hi
  · intro h
    rcases Nat.lt_or_eq_of_le (findL_le t s) with h' | h'
    · exact absurd (findL_at t s h') (h _ (List.getElem_mem h'))
    · exact h'
theorem findL_mem {t : List NodeV} (h : Rises t) {n : NodeV} (hn : n ∈ t) : ∃ hk : findL t n.path < t.length, t[findL t n.path] = n := by
  have hk : findL t n.path < t.length := by
    rcases Nat.lt_or_eq_of_le (findL_le t n.path) with h' | h'
    · exact h'
    · exact absurd rfl (findL_none.1 h' n hn)
  refine ⟨hk, ?_⟩
  obtain ⟨i, hi, rfl⟩ := List.getElem_of_mem hn
  have he := findL_at t _ hk
  rcases Nat.lt_trichotomy (findL t t[i].path) i with h' | h' | h'
  · exact absurd (rises_get h _ _ hk hi h') (by rw [he]; exact plt_irr _)
  · simp only [h']
  · exact absurd (rises_get h _ _ hi hk h') (by rw [he]; exact plt_irr _)
/-! ### putting -/
theorem mem_putL {t : List NodeV} {n x : NodeV} : x ∈ putL t n ↔ x = n ∨ (x ∈ t ∧ x.path ≠ n.path) := by
  unfold putL
  rw [List.mem_append, List.mem_cons, List.mem_filter, List.mem_filter]
  have h0 : x.path ≠ n.path ↔ pcmp x.path n.path ≠ 0 := not_congr (pcmp_zero _ _).symm
  have hb := pcmp_bd x.path n.path
  rw [h0]
  simp only [decide_eq_true_eq]
  constructor
  · rintro (⟨a, b⟩ | a | ⟨a, b⟩)
    · exact .inr ⟨a, by omega⟩
    · exact .inl a
    · exact .inr ⟨a, by omega⟩
  · rintro (a | ⟨a, b⟩)
    · exact .inr (.inl a)
    · rcases Int.lt_or_lt_of_ne b with c | c
      · exact .inl ⟨a, c⟩
      · exact .inr (.inr ⟨a, c⟩)
theorem parted {t : List NodeV} (h : Rises t) (p : List UInt8) (hp : ∀ x ∈ t, x.path ≠ p) : t.filter (fun x => decide (pcmp x.path p < 0)) ++ t.filter (fun x => decide (0 < pcmp x.path p)) = t := by
  induction t with
  | nil => rfl
  | cons a t ih =>
    have ha := hp a (by simp)
    have hp2 := fun x hx => hp x (List.mem_cons_of_mem a hx)
    unfold Rises at h
    rw [List.pairwise_cons] at h
    have hb := pcmp_bd a.path p
    have h0 : pcmp a.path p ≠ 0 := fun e => ha ((pcmp_zero _ _).1 e)
    rcases (show pcmp a.path p < 0 ∨ 0 < pcmp a.path p by omega) with c | c
    · rw [List.filter_cons_of_pos (by simpa using c), List.filter_cons_of_neg (by simp; omega), List.cons_append, ih h.2 hp2]
    · have hpa : pcmp p a.path = -1 := by have := pcmp_neg a.path p; omega
      have e1 : t.filter (fun x => decide (pcmp x.path p < 0)) = [] := by
        rw [List.filter_eq_nil_iff]
        intro x hx
        have := pcmp_neg p x.path
        have := plt_trans hpa (h.1 x hx)
        simp; omega
      have e2 : t.filter (fun x => decide (0 < pcmp x.path p)) = t := by
        rw [List.filter_eq_self]
        intro x hx
        have := pcmp_neg p x.path
        have := plt_trans hpa (h.1 x hx)
        simp; omega
      rw [List.filter_cons_of_neg (by simp; omega), List.filter_cons_of_pos (by simpa using c), e1, e2]; rfl
/-- what was put where nothing was, and is removed, leaves all as it was -/
theorem put_rem {t : List NodeV} (h : Sound t) {n : NodeV} (hn : n.path ≠ []) (hp : ∀ x ∈ t, x.path ≠ n.path) : remL (putL t n) n.path = t := by
  have hk : ∀ x ∈ t, (!(decide (x.path = n.path) || inB x.path n.path)) = true := by
    intro x hx
    rw [Bool.not_eq_true', Bool.or_eq_false_iff]
    refine ⟨by simpa using hp x hx, ?_⟩
    rw [Bool.eq_false_iff]
    intro e
    obtain ⟨d, hd, e2⟩ := in_has h hn _ x hx rfl e
    exact hp d hd e2
  unfold remL putL
  rw [List.filter_append, List.filter_cons_of_neg (by simp), ← List.filter_append, parted h.rises n.path hp, List.filter_eq_self]
  exact hk
/-! ### putting, node by node -/
theorem putL_nil (n : NodeV) : putL [] n = [n] := rfl
/-- all ahead are less -/
def AllLt (t : List NodeV) (p : List UInt8) : Prop := ∀ x ∈ t, pcmp x.path p < 0
theorem putL_lt {t : List NodeV} {n : NodeV} (h : AllLt t n.path) : putL t n = t ++ [n] := by
  have e1 : t.filter (fun x => decide (pcmp x.path n.path < 0)) = t := List.filter_eq_self.2 fun x hx => by simpa using h x hx
  have e2 : t.filter (fun x => decide (0 < pcmp x.path n.path)) = [] := List.filter_eq_nil_iff.2 fun x hx => by have := h x hx; simp; omega
  unfold putL; rw [e1, e2]
theorem putL_eq {t : List NodeV} {n x : NodeV} (h : AllLt t n.path) (hx : pcmp x.path n.path = 0) : putL (t ++ [x]) n = t ++ [n] := by
  have h1 := putL_lt h
  unfold putL at h1 ⊢
  rw [List.filter_append, List.filter_append, List.filter_cons_of_neg (by simp [hx]), List.filter_cons_of_neg (by simp [hx]), List.filter_nil, List.append_nil, List.filter_nil, List.append_nil]
  exact h1
theorem putL_gt {t : List NodeV} {n x : NodeV} (hx : 0 < pcmp x.path n.path) : putL (t ++ [x]) n = putL t n ++ [x] := by
  unfold putL
  rw [List.filter_append, List.filter_append, List.filter_cons_of_neg (by simp; omega), List.filter_cons_of_pos (by simpa using hx), List.filter_nil, List.append_nil, List.filter_nil]
  simp
theorem allLt_snoc {t : List NodeV} {p : List UInt8} {x : NodeV} (h : AllLt t p) (hx : pcmp x.path p < 0) : AllLt (t ++ [x]) p := by
  intro y hy
  rcases List.mem_append.1 hy with a | a
  · exact h y a
  · obtain rfl : y = x := by simpa using a
    exact hx
/-- behind one that is not less, all are greater -/
theorem behind_gt {t : List NodeV} (h : Rises t) {p : List UInt8} (k : Nat) (hk : k < t.length) (hd : ¬ AllLt (t.take k) p) : 0 < pcmp t[k].path p := by
  obtain ⟨x, hx, hn⟩ : ∃ x ∈ t.take k, ¬ pcmp x.path p < 0 := by
    refine Classical.byContradiction fun e => hd fun x hx => ?_
    exact Classical.byContradiction fun e2 => e ⟨x, hx, e2⟩
  obtain ⟨i, hi, rfl⟩ := List.mem_take_iff_getElem.1 hx
  have hr := rises_get h i k (by omega) hk (by omega)
  have hb := pcmp_bd t[i].path p
  have h1 := pcmp_neg t[k].path p
  have h2 := pcmp_neg t[i].path p
  have h3 := pcmp_bd t[k].path p
  rcases (show pcmp t[i].path p = 0 ∨ pcmp t[i].path p = 1 by omega) with e | e
  · have := (pcmp_zero _ _).1 e
    rw [← this] at h1 ⊢
    have := pcmp_neg t[i].path t[k].path
    omega
  · have h4 : pcmp p t[i].path = -1 := by omega
    have h5 := plt_trans h4 hr
    omega
theorem remL_step (t : List NodeV) (s : List UInt8) (k : Nat) (hk : k < t.length) : remL (t.take (k + 1)) s = remL (t.take k) s ++ (if (decide (t[k].path = s) || inB t[k].path s) = true then [] else [t[k]]) := by
  unfold remL
  rw [List.take_succ_eq_append_getElem hk, List.filter_append]
  congr 1
  by_cases h : (decide (t[k].path = s) || inB t[k].path s) = true
  · rw [if_pos h, List.filter_cons_of_neg (by rw [h]; decide), List.filter_nil]
  · rw [if_neg h, List.filter_cons_of_pos (by simpa using h), List.filter_nil]
/-- what was put is there as it was; all else is as it was -/
theorem put_found {t : List NodeV} {n : NodeV} (h : Rises (putL t n)) : (∃ hk : findL (putL t n) n.path < (putL t n).length, (putL t n)[findL (putL t n) n.path] = n) ∧
    ∀ y ∈ t, ∃ hk : findL (putL t n) y.path < (putL t n).length, y.path ≠ n.path → (putL t n)[findL (putL t n) y.path] = y := by
  refine ⟨findL_mem h (mem_putL.2 (.inl rfl)), fun y hy => ?_⟩
  by_cases e : y.path = n.path
  · obtain ⟨hk, -⟩ := findL_mem h (n := n) (mem_putL.2 (.inl rfl))
    rw [← e] at hk
    exact ⟨hk, fun e2 => absurd e e2⟩
  · obtain ⟨hk, e2⟩ := findL_mem h (n := y) (mem_putL.2 (.inr ⟨hy, e⟩))
    exact ⟨hk, fun _ => e2⟩
theorem rem_shorter {t : List NodeV} {s : List UInt8} (h : ∃ n ∈ t, n.path = s) : (remL t s).length < t.length := by
  obtain ⟨n, hn, e⟩ := h
  have hsub := remL_sub t s
  rcases Nat.lt_or_eq_of_le hsub.length_le with h' | h'
  · exact h'
  · have := hsub.eq_of_length h'
    rw [← this] at hn
    exact absurd e (mem_remL.1 hn).2.1
end Go.Proofs.YtoikpnjnljdpaaaGreatDoor
/- Plain mathematics of hard links: the first name of a file, how many it has, numbers given anew. Nothing of the program. -/
set_option linter.unusedVariables false
namespace Go.Proofs.YtoikpnjnljdpaaaGreatDoor
open Go.RowKit
/-- which file a node is -/
def sameAt (t : List NodeV) (i : Nat) : Int := (t[i]?.map NodeV.same).getD 0
theorem sameAt_at {t : List NodeV} {i : Nat} (h : i < t.length) : sameAt t i = t[i].same := by unfold sameAt; rw [List.getElem?_eq_getElem h]; rfl
/-- is the k-th node another name of the i-th one's file? -/
def eqF (t : List NodeV) (k i : Nat) : Bool := decide (sameAt t i ≠ 0 ∧ sameAt t k = sameAt t i)
/-- the first node that is the i-th one's file -/
def firstF (t : List NodeV) (i : Nat) : Nat := ((List.range i).find? fun k => eqF t k i).getD i
theorem firstF_spec (t : List NodeV) (i : Nat) : firstF t i ≤ i ∧ (firstF t i < i → eqF t (firstF t i) i = true) ∧ ∀ k, k < firstF t i → eqF t k i = false := by
  unfold firstF
  cases h : (List.range i).find? fun k => eqF t k i with
  | none =>
    rw [Option.getD_none]
    refine ⟨Nat.le_refl _, fun h => absurd h (Nat.lt_irrefl _), fun k hk => ?_⟩
    have := List.find?_eq_none.1 h k (List.mem_range.2 hk)
    simpa using this
  | some m =>
    rw [Option.getD_some]
    have hm := List.find?_some h
    have hmem := List.mem_range.1 (List.mem_of_find?_eq_some h)
    refine ⟨Nat.le_of_lt hmem, fun _ => hm, fun k hk => ?_⟩
    obtain ⟨h1, la, lb, h2, h3⟩ := List.find?_eq_some_iff_append.1 h
    have hk2 : k ∈ la := by
      have hl : la.length = m := by
        have e1 : (List.range i)[la.length]? = some m := by rw [h2]; simp
        have e2 : la.length < i := by
          have := congrArg List.length h2
          simp at this; omega
        rw [List.getElem?_range e2] at e1
        simpa using e1
      have e3 : (List.range i)[k]? = some k := List.getElem?_range (by omega)
      rw [h2, List.getElem?_append_left (by omega)] at e3
      exact List.mem_of_getElem? e3
    have := h3 k hk2
    simpa using this
theorem firstF_stop {t : List NodeV} {i k : Nat} (hk : k ≤ i) (h : ∀ j, j < k → eqF t j i = false) (he : k = i ∨ eqF t k i = true) : firstF t i = k := by
  obtain ⟨h1, h2, h3⟩ := firstF_spec t i
  rcases Nat.lt_trichotomy (firstF t i) k with hl | hl | hl
  · have := h _ hl
    rw [h2 (by omega)] at this; cases this
  · exact hl
  · rcases he with e | e
    · omega
    · rw [h3 k hl] at e; cases e
/-- does a node count as a name of the i-th one's file? -/
def isF (t : List NodeV) (i k : Nat) : Bool := decide (k = i) || (decide (0 < sameAt t i) && decide (sameAt t k = sameAt t i))
def namesF (t : List NodeV) (i : Nat) : Nat := (List.range t.length).countP (isF t i)
theorem firstF_first (t : List NodeV) (i : Nat) : firstF t (firstF t i) = firstF t i := by
  obtain ⟨h1, h2, h3⟩ := firstF_spec t i
  refine firstF_stop (Nat.le_refl _) (fun j hj => ?_) (.inl rfl)
  rcases Nat.lt_or_eq_of_le h1 with hl | hl
  · have e := h2 hl
    have f := h3 j hj
    unfold eqF at e f ⊢
    obtain ⟨e1, e2⟩ := of_decide_eq_true e
    rw [e2]; exact f
  · rw [hl] at hj ⊢; exact h3 j (by rw [hl]; exact hj)
/-- two nodes have the same first one just if they are one file -/
theorem firstF_eq {t : List NodeV} (h0 : ∀ i, 0 ≤ sameAt t i) (i j : Nat) : firstF t j = firstF t i ↔ isF t i j = true := by
  obtain ⟨i1, i2, i3⟩ := firstF_spec t i
  obtain ⟨j1, j2, j3⟩ := firstF_spec t j
  unfold isF
  rw [Bool.or_eq_true, decide_eq_true_eq, Bool.and_eq_true, decide_eq_true_eq, decide_eq_true_eq]
  constructor
  · intro h
    by_cases hij : j = i
    · exact .inl hij
    · right
      rw [h] at j1 j2
      have hi : firstF t i < i → sameAt t i ≠ 0 ∧ sameAt t (firstF t i) = sameAt t i := fun hl => of_decide_eq_true (i2 hl)
      have hj : firstF t i < j → sameAt t j ≠ 0 ∧ sameAt t (firstF t i) = sameAt t j := fun hl => of_decide_eq_true (j2 hl)
      have hi0 := h0 i
      have hj0 := h0 j
      rcases Nat.lt_or_eq_of_le i1 with a | a
      · obtain ⟨a1, a2⟩ := hi a
        rcases Nat.lt_or_eq_of_le j1 with b | b
        · obtain ⟨b1, b2⟩ := hj b
          exact ⟨by omega, by omega⟩
        · rw [b] at a2
          exact ⟨by omega, a2⟩
      · rcases Nat.lt_or_eq_of_le j1 with b | b
        · obtain ⟨b1, b2⟩ := hj b
          rw [a] at b2
          exact ⟨by omega, b2.symm⟩
        · omega
  · rintro (rfl | ⟨h1, h2⟩)
    · rfl
    · have hne : sameAt t i ≠ 0 := by omega
      have hk : firstF t i ≤ j := by
        apply Classical.byContradiction
        intro hc
        have := i3 j (by omega)
        unfold eqF at this
        exact of_decide_eq_false this ⟨hne, h2⟩
      refine firstF_stop hk (fun k hk2 => ?_) ?_
      · have := i3 k hk2
        unfold eqF at this ⊢
        rw [h2]; exact this
      · right
        unfold eqF
        rw [h2]
        apply decide_eq_true
        refine ⟨hne, ?_⟩
        rcases Nat.lt_or_eq_of_le i1 with a | a
        · exact (of_decide_eq_true (i2 a) : sameAt t i ≠ 0 ∧ sameAt t (firstF t i) = sameAt t i).2
        · rw [a]
theorem namesF_first {t : List NodeV} (h0 : ∀ i, 0 ≤ sameAt t i) (i : Nat) : namesF t i = (List.range t.length).countP fun j => decide (firstF t j = firstF t i) := by
  unfold namesF
  apply List.countP_congr
  intro j _
  rw [decide_eq_true_eq, firstF_eq h0]
theorem namesF_same {t : List NodeV} (h0 : ∀ i, 0 ≤ sameAt t i) {i j : Nat} (h : firstF t j = firstF t i) : namesF t j = namesF t i := by
  rw [namesF_first h0, namesF_first h0, h]
theorem namesF_pos (t : List NodeV) {i : Nat} (h : i < t.length) : 1 ≤ namesF t i := by
  unfold namesF
  rw [Nat.one_le_iff_ne_zero, Ne, List.countP_eq_zero]
  intro hc
  have := hc i (List.mem_range.2 h)
  unfold isF at this
  simp at this
/-- two names at least -/
theorem namesF_two (t : List NodeV) {i k : Nat} (hi : i < t.length) (hk : k < t.length) (hne : k ≠ i) (h : isF t i k = true) : 2 ≤ namesF t i := by
  have hi2 : isF t i i = true := by unfold isF; simp
  unfold namesF
  have key : ∀ a b : Nat, a < b → b < t.length → isF t i a = true → isF t i b = true → 2 ≤ (List.range t.length).countP (isF t i) := fun a b hab hb ha1 hb1 => by
    have e : List.range t.length = List.range b ++ [b] ++ (List.range t.length).drop (b + 1) := by
      conv => lhs; rw [← List.take_append_drop (b + 1) (List.range t.length)]
      rw [List.take_range, Nat.min_eq_left (by omega), List.range_succ]
    rw [e, List.countP_append, List.countP_append, List.countP_singleton, if_pos hb1]
    have : 1 ≤ (List.range b).countP (isF t i) := by
      rw [Nat.one_le_iff_ne_zero, Ne, List.countP_eq_zero]
      intro hc
      exact hc a (List.mem_range.2 hab) ha1
    omega
  rcases Nat.lt_or_gt_of_ne hne with a | a
  · exact key k i a hi h hi2
  · exact key i k a hk hi2 h
/-- the tree with numbers given anew -/
def anewN (t : List NodeV) (i : Nat) (x : NodeV) : NodeV := { x with same := if 1 < namesF t i then (firstF t i : Int) + 1 else 0 }
def anewF (t : List NodeV) : List NodeV := t.mapIdx fun i x => anewN t i x
theorem anewF_len (t : List NodeV) : (anewF t).length = t.length := by unfold anewF; rw [List.length_mapIdx]
theorem anewF_at (t : List NodeV) (i : Nat) (h : i < t.length) : (anewF t)[i]'(by rw [anewF_len]; exact h) = anewN t i t[i] := by unfold anewF; rw [List.getElem_mapIdx]
theorem anew_same (t : List NodeV) (i : Nat) : sameAt (anewF t) i = if i < t.length ∧ 1 < namesF t i then (firstF t i : Int) + 1 else 0 := by
  by_cases h : i < t.length
  · rw [sameAt_at (by rw [anewF_len]; exact h), anewF_at t i h]
    show (if 1 < namesF t i then (firstF t i : Int) + 1 else 0) = _
    by_cases h2 : 1 < namesF t i
    · rw [if_pos h2, if_pos ⟨h, h2⟩]
    · rw [if_neg h2, if_neg fun h3 => h2 h3.2]
  · rw [if_neg fun h3 => h h3.1]
    unfold sameAt
    rw [List.getElem?_eq_none (by rw [anewF_len]; omega)]; rfl
theorem anew_pos (t : List NodeV) (i : Nat) : 0 ≤ sameAt (anewF t) i := by
  rw [anew_same]; split <;> omega
/-- numbers given anew tell of the same files -/
theorem anew_eqF {t : List NodeV} (h0 : ∀ i, 0 ≤ sameAt t i) {k i : Nat} (hk : k < i) (hi : i < t.length) : eqF (anewF t) k i = eqF t k i := by
  unfold eqF
  rw [anew_same, anew_same]
  have hkl : k < t.length := by omega
  rw [Bool.eq_iff_iff, decide_eq_true_eq, decide_eq_true_eq]
  constructor
  · rintro ⟨h1, h2⟩
    have c1 : 1 < namesF t i := by
      apply Classical.byContradiction
      intro hc
      exact h1 (if_neg fun h => hc h.2)
    rw [if_pos (⟨hi, c1⟩ : i < t.length ∧ 1 < namesF t i)] at h2
    have c2 : 1 < namesF t k := by
      apply Classical.byContradiction
      intro hc
      rw [if_neg (fun h => hc h.2 : ¬ (k < t.length ∧ 1 < namesF t k))] at h2
      omega
    rw [if_pos (⟨hkl, c2⟩ : k < t.length ∧ 1 < namesF t k)] at h2
    have h3 : firstF t k = firstF t i := by omega
    have h4 := (firstF_eq h0 i k).1 h3
    unfold isF at h4
    rw [Bool.or_eq_true, decide_eq_true_eq, Bool.and_eq_true, decide_eq_true_eq, decide_eq_true_eq] at h4
    rcases h4 with h4 | ⟨h4, h5⟩
    · omega
    · exact ⟨by omega, h5⟩
  · rintro ⟨h1, h2⟩
    have hpos := h0 i
    have hF : isF t i k = true := by
      unfold isF
      rw [Bool.or_eq_true, decide_eq_true_eq, Bool.and_eq_true, decide_eq_true_eq, decide_eq_true_eq]
      exact .inr ⟨by omega, h2⟩
    have h3 := (firstF_eq h0 i k).2 hF
    have c1 : 1 < namesF t i := namesF_two t hi hkl (by omega) hF
    have c2 : 1 < namesF t k := by rw [namesF_same h0 h3]; exact c1
    rw [if_pos (⟨hi, c1⟩ : i < t.length ∧ 1 < namesF t i), if_pos (⟨hkl, c2⟩ : k < t.length ∧ 1 < namesF t k), h3]
    exact ⟨by omega, rfl⟩
theorem anew_first {t : List NodeV} (h0 : ∀ i, 0 ≤ sameAt t i) {i : Nat} (hi : i < t.length) : firstF (anewF t) i = firstF t i := by
  obtain ⟨h1, h2, h3⟩ := firstF_spec t i
  refine firstF_stop h1 (fun j hj => ?_) ?_
  · rw [anew_eqF h0 (by omega) hi]; exact h3 j hj
  · rcases Nat.lt_or_eq_of_le h1 with a | a
    · right; rw [anew_eqF h0 a hi]; exact h2 a
    · exact .inl a
theorem anew_names {t : List NodeV} (h0 : ∀ i, 0 ≤ sameAt t i) {i : Nat} (hi : i < t.length) : namesF (anewF t) i = namesF t i := by
  rw [namesF_first (anew_pos t), namesF_first h0, anewF_len]
  apply List.countP_congr
  intro j hj
  rw [anew_first h0 hi, anew_first h0 (List.mem_range.1 hj)]
theorem anew_again {t : List NodeV} (h0 : ∀ i, 0 ≤ sameAt t i) : anewF (anewF t) = anewF t := by
  apply List.ext_getElem
  · rw [anewF_len]
  · intro i h1 h2
    have hi : i < t.length := by rwa [anewF_len] at h2
    rw [anewF_at (anewF t) i h2, anewF_at t i hi]
    unfold anewN
    rw [anew_names h0 hi, anew_first h0 hi]
end Go.Proofs.YtoikpnjnljdpaaaGreatDoor
/- Plain mathematics of hard links in sound trees: numbers given anew keep a tree sound. -/
set_option linter.unusedVariables false
namespace Go.Proofs.YtoikpnjnljdpaaaGreatDoor
open Go.RowKit
theorem node_kind {x : NodeV} (h : nodE x = 0) : nodK x = 0 := by
  unfold nodE at h
  split at h
  · rename_i h1; exact absurd h h1
  · split at h
    · rename_i h1; exact absurd h h1
    · exact h
theorem node_same {x : NodeV} (h : nodE x = 0) : 0 ≤ x.same ∧ (x.same ≠ 0 → x.kind = 1) := by
  have hk := node_kind h
  unfold nodK at hk
  split at hk
  · rename_i h1
    split at hk
    · cases hk
    · rename_i h2
      refine ⟨?_, fun _ => h1⟩
      apply Classical.byContradiction
      intro hc
      exact h2 (.inr (by omega))
  · split at hk
    · split at hk
      · cases hk
      · rename_i h2
        have h0 : x.same = 0 := by
          apply Classical.byContradiction
          intro hc
          exact h2 (.inr (.inl hc))
        exact ⟨by omega, fun hc => absurd h0 hc⟩
    · cases hk
theorem node_anew {x : NodeV} (h : nodE x = 0) {z : Int} (hz : 0 ≤ z) (hk : z ≠ 0 → x.kind = 1) : nodE { x with same := z } = 0 := by
  have h1 := node_kind h
  unfold nodE at h ⊢
  simp only
  by_cases hp : pathE x.path ≠ 0
  · rw [if_pos hp] at h; exact absurd h hp
  · rw [if_neg hp] at h ⊢
    by_cases hm : metE x.md ≠ 0
    · rw [if_pos hm] at h; exact absurd h hm
    · rw [if_neg hm]
      have h2 := h1
      unfold nodK at h2 ⊢
      simp only
      by_cases k1 : x.kind = 1
      · rw [if_pos k1] at h2 ⊢
        by_cases k2 : x.target ≠ [] ∨ x.same < 0
        · rw [if_pos k2] at h2; cases h2
        · rw [if_neg k2] at h2
          rw [if_neg (fun hc => by
            rcases hc with hc | hc
            · exact k2 (.inl hc)
            · omega)]
          exact h2
      · rw [if_neg k1] at h2 ⊢
        have hz0 : z = 0 := by
          apply Classical.byContradiction
          intro hc
          exact k1 (hk hc)
        by_cases k2 : x.kind = 2 ∨ x.kind = 3
        · rw [if_pos k2] at h2 ⊢
          have hs : x.same = 0 := by
            apply Classical.byContradiction
            intro hc
            rw [if_pos (.inr (.inl hc))] at h2
            cases h2
          rw [hs] at h2
          rw [hz0]
          exact h2
        · rw [if_neg k2] at h2
          cases h2
theorem Sound.pos {t : List NodeV} (h : Sound t) (i : Nat) : 0 ≤ sameAt t i := by
  by_cases hi : i < t.length
  · rw [sameAt_at hi]; exact (node_same (h.node _ (List.getElem_mem hi))).1
  · unfold sameAt
    rw [List.getElem?_eq_none (by omega)]
    exact Int.le_refl _
theorem count_one (i n : Nat) : (List.range n).countP (fun k => decide (k = i)) ≤ if i < n then 1 else 0 := by
  induction n with
  | zero => simp
  | succ n ih =>
    rw [List.range_succ, List.countP_append, List.countP_singleton]
    by_cases h1 : n = i
    · rw [if_pos (decide_eq_true h1), if_pos (by omega)]
      rw [if_neg (by omega)] at ih
      omega
    · rw [if_neg (by simpa using h1)]
      by_cases h2 : i < n
      · rw [if_pos h2] at ih
        rw [if_pos (by omega)]
        omega
      · rw [if_neg h2] at ih
        rw [if_neg (by omega)]
        omega
/-- who has a second name has a number -/
theorem namesF_pos2 {t : List NodeV} {i : Nat} (h : 1 < namesF t i) : 0 < sameAt t i := by
  apply Classical.byContradiction
  intro hc
  have e : namesF t i = (List.range t.length).countP fun k => decide (k = i) := by
    unfold namesF
    apply List.countP_congr
    intro k _
    unfold isF
    rw [decide_eq_false hc, Bool.false_and, Bool.or_false]
  have h2 := count_one i t.length
  rw [← e] at h2
  split at h2 <;> omega
theorem eqF_data {t : List NodeV} (h : Sound t) {k i : Nat} (hk : k < t.length) (hi : i < t.length) (he : eqF t k i = true) : t[k].md = t[i].md ∧ t[k].data = t[i].data := by
  obtain ⟨h1, h2⟩ : sameAt t i ≠ 0 ∧ sameAt t k = sameAt t i := of_decide_eq_true he
  rw [sameAt_at hi] at h1 h2
  rw [sameAt_at hk] at h2
  exact h.link _ (List.getElem_mem hk) _ (List.getElem_mem hi) h2 (by rw [h2]; exact h1)
theorem anew_path (t : List NodeV) : (anewF t).map (·.path) = t.map (·.path) := by
  apply List.ext_getElem
  · rw [List.length_map, List.length_map, anewF_len]
  · intro i h1 h2
    rw [List.length_map] at h2
    rw [List.getElem_map, List.getElem_map, anewF_at t i h2]; rfl
theorem mem_anew {t : List NodeV} {x : NodeV} (h : x ∈ anewF t) : ∃ i, ∃ hi : i < t.length, x = anewN t i t[i] := by
  obtain ⟨i, hi, e⟩ := List.getElem_of_mem h
  have hi2 : i < t.length := by rwa [anewF_len] at hi
  exact ⟨i, hi2, by rw [← e, anewF_at t i hi2]⟩
theorem sound_anew {t : List NodeV} (h : Sound t) : Sound (anewF t) := by
  have h0 := fun i => h.pos i
  refine ⟨?_, fun x hx => ?_, fun x hx => ?_, fun x hx y hy he hne => ?_⟩
  · have h1 : (t.map (·.path)).Pairwise fun a b => pcmp a b = -1 := List.pairwise_map.2 h.rises
    rw [← anew_path] at h1
    exact List.pairwise_map.1 h1
  · obtain ⟨i, hi, rfl⟩ := mem_anew hx
    have hn := h.node _ (List.getElem_mem hi)
    refine node_anew hn ?_ fun hz => ?_
    · split <;> omega
    · split at hz
      · rename_i hg
        have := namesF_pos2 hg
        rw [sameAt_at hi] at this
        exact (node_same hn).2 (by omega)
      · exact absurd rfl hz
  · obtain ⟨i, hi, rfl⟩ := mem_anew hx
    rcases h.up _ (List.getElem_mem hi) with h1 | ⟨d, hd, h1, h2⟩
    · exact .inl h1
    · obtain ⟨j, hj, rfl⟩ := List.getElem_of_mem hd
      refine .inr ⟨anewN t j t[j], ?_, h1, h2⟩
      rw [← anewF_at t j hj]
      exact List.getElem_mem _
  · obtain ⟨i, hi, rfl⟩ := mem_anew hx
    obtain ⟨j, hj, rfl⟩ := mem_anew hy
    have e1 : (anewN t i t[i]).same = if 1 < namesF t i then (firstF t i : Int) + 1 else 0 := rfl
    have e2 : (anewN t j t[j]).same = if 1 < namesF t j then (firstF t j : Int) + 1 else 0 := rfl
    rw [e1] at he hne
    rw [e2] at he
    have c1 : 1 < namesF t i := by
      apply Classical.byContradiction
      intro hc
      exact hne (if_neg hc)
    rw [if_pos c1] at he
    have c2 : 1 < namesF t j := by
      apply Classical.byContradiction
      intro hc
      rw [if_neg hc] at he
      omega
    rw [if_pos c2] at he
    have h3 : firstF t i = firstF t j := by omega
    have h4 := (firstF_eq h0 j i).1 h3
    unfold isF at h4
    rw [Bool.or_eq_true, decide_eq_true_eq, Bool.and_eq_true, decide_eq_true_eq, decide_eq_true_eq] at h4
    rcases h4 with rfl | ⟨h4, h5⟩
    · exact ⟨rfl, rfl⟩
    · exact eqF_data h hi hj (decide_eq_true ⟨by omega, h5⟩)
/-- two trees alike: the same but for numbers, and these tell of the same files -/
def alikeF (a b : List NodeV) : Prop := a.length = b.length ∧ (∀ i (h : i < a.length) (h2 : i < b.length), ({ a[i] with same := 0 } : NodeV) = { b[i] with same := 0 }) ∧
  ∀ i k, k < i → i < a.length → (0 < sameAt a i ∧ sameAt a i = sameAt a k ↔ 0 < sameAt b i ∧ sameAt b i = sameAt b k)
theorem alike_anew {t : List NodeV} (h : Sound t) : alikeF (anewF t) t := by
  have h0 := fun i => h.pos i
  refine ⟨anewF_len t, fun i h1 h2 => ?_, fun i k hk hi => ?_⟩
  · rw [anewF_at t i h2]; rfl
  · rw [anewF_len] at hi
    have h3 := anew_eqF h0 hk hi
    unfold eqF at h3
    have h4 := decide_eq_decide.1 h3
    have p1 := anew_pos t i
    have p2 := h0 i
    constructor
    · rintro ⟨a, b⟩
      obtain ⟨c, d⟩ := h4.1 ⟨by omega, b.symm⟩
      exact ⟨by omega, d.symm⟩
    · rintro ⟨a, b⟩
      obtain ⟨c, d⟩ := h4.2 ⟨by omega, b.symm⟩
      exact ⟨by omega, d.symm⟩
end Go.Proofs.YtoikpnjnljdpaaaGreatDoor
/- Plain mathematics of members: what is wrong with them, how a tree is planned, and grown of them. Nothing of the program. -/
set_option linter.unusedVariables false
namespace Go.Proofs.YtoikpnjnljdpaaaGreatDoor
open Go.RowKit
structure EntV where
  path : List UInt8
  kind : Int
  target : List UInt8
  md : MetaV
  data : List UInt8
instance : Inhabited EntV := ⟨⟨[], 0, [], ⟨0, 0, 0, [], [], 0, 0⟩, []⟩⟩
theorem EntV.ext_iff' (a b : EntV) : (a.path = b.path ∧ a.kind = b.kind ∧ a.target = b.target ∧ a.md = b.md ∧ a.data = b.data) ↔ a = b := by
  constructor
  · rintro ⟨h1, h2, h3, h4, h5⟩
    cases a; cases b; simp_all
  · rintro rfl; exact ⟨rfl, rfl, rfl, rfl, rfl⟩
instance : DecidableEq EntV := fun a b => decidable_of_iff _ (EntV.ext_iff' a b)
/-- a member as a node: its number is 0 -/
def EntV.nod (x : EntV) : NodeV := ⟨x.path, x.kind, 0, x.target, x.md, x.data⟩
/-- a node as a member -/
def NodeV.ent (x : NodeV) : EntV := ⟨x.path, x.kind, x.target, x.md, x.data⟩
/-- what is wrong with a member's kind, target and data -/
def entK (x : EntV) : Int :=
  if x.kind < 1 ∨ 4 < x.kind then 2
  else if (2 < x.kind ∧ x.target = []) ∨ (¬ 2 < x.kind ∧ x.target ≠ []) ∨ (1 < x.kind ∧ x.data ≠ []) then 3
  else if 2000 < x.data.length ∨ 400 < x.target.length then 1
  else if x.kind = 4 then pathE x.target
  else if hasB 0 x.target = true then 3 else 0
/-- what is wrong with a member -/
def entE (x : EntV) : Int := if pathE x.path ≠ 0 then pathE x.path else if metE x.md ≠ 0 then metE x.md else entK x
theorem entE_parts {x : EntV} (h : entE x = 0) : pathE x.path = 0 ∧ metE x.md = 0 ∧ entK x = 0 := by
  unfold entE at h
  split at h
  · rename_i h1; exact absurd h h1
  · rename_i h1
    split at h
    · rename_i h2; exact absurd h h2
    · rename_i h2
      exact ⟨by simpa using h1, by simpa using h2, h⟩
/-- the place of the first member with a path, or as many as there are -/
def findE (l : List EntV) (s : List UInt8) : Nat := findL (l.map EntV.nod) s
theorem findE_le (l : List EntV) (s : List UInt8) : findE l s ≤ l.length := by
  have := findL_le (l.map EntV.nod) s
  rwa [List.length_map] at this
theorem findE_at (l : List EntV) (s : List UInt8) (h : findE l s < l.length) : (l[findE l s]'h).path = s := by
  have := findL_at (l.map EntV.nod) s (by rw [List.length_map]; exact h)
  rw [List.getElem_map] at this
  exact this
theorem findE_ne (l : List EntV) (s : List UInt8) (k : Nat) (h : k < findE l s) (hk : k < l.length) : l[k].path ≠ s := by
  have := findL_ne (l.map EntV.nod) s k h (by rw [List.length_map]; exact hk)
  rw [List.getElem_map] at this
  exact this
theorem findE_stop (l : List EntV) (s : List UInt8) (k : Nat) (hk : k < l.length) (h : k ≤ findE l s) (e : l[k].path = s) : findE l s = k :=
  findL_stop (l.map EntV.nod) s k (by rw [List.length_map]; exact hk) h (by rw [List.getElem_map]; exact e)
theorem findE_step (l : List EntV) (s : List UInt8) (k : Nat) (hk : k < l.length) (h : k ≤ findE l s) (e : l[k].path ≠ s) : k + 1 ≤ findE l s :=
  findL_step (l.map EntV.nod) s k (by rw [List.length_map]; exact hk) h (by rw [List.getElem_map]; exact e)
/-- is the directory of a path among the members ahead -/
def upE (l : List EntV) (p : List UInt8) : Bool := decide (upL p = []) || if h : findE l (upL p) < l.length then decide ((l[findE l (upL p)]'h).kind = 2) else false
/-- is the file of a link among the members ahead -/
def aimE (l : List EntV) (x : EntV) : Bool := decide (x.kind ≠ 4) || if h : findE l x.target < l.length then decide ((l[findE l x.target]'h).kind = 1) && decide ((l[findE l x.target]'h).md = x.md) else false
/-- what is wrong with a member behind others -/
def eatE (l : List EntV) (x : EntV) : Int :=
  if entE x ≠ 0 then entE x
  else if (match l.getLast? with | some y => !decide (pcmp y.path x.path = -1) | none => false) = true then 6
  else if upE l x.path = false then 10
  else if aimE l x = false then 11
  else 0
/-- what is wrong with members, those ahead of them being l -/
def ewalkE (l : List EntV) : List EntV → Int
  | [] => 0
  | x :: m => if eatE l x ≠ 0 then eatE l x else ewalkE (l ++ [x]) m
/-- what is wrong with a list of members -/
def entsE (l : List EntV) : Int := if 40 < l.length then 1 else ewalkE [] l
theorem ewalkE_app (t l m : List EntV) (h : ewalkE t l = 0) : ewalkE t (l ++ m) = ewalkE (t ++ l) m := by
  induction l generalizing t with
  | nil => simp
  | cons n l ih =>
    rw [ewalkE] at h
    rw [List.cons_append, ewalkE]
    by_cases e : eatE t n ≠ 0
    · rw [if_pos e] at h; exact absurd h e
    · rw [if_neg e] at h ⊢
      rw [ih _ h]; simp
theorem ewalkE_stop (l : List EntV) (k : Nat) (hk : k < l.length) (h : ewalkE [] (l.take k) = 0) (he : eatE (l.take k) l[k] ≠ 0) : ewalkE [] l = eatE (l.take k) l[k] := by
  have h1 := ewalkE_app [] (l.take k) (l.drop k) h
  rw [List.take_append_drop, List.nil_append, List.drop_eq_getElem_cons hk, ewalkE, if_pos he] at h1
  exact h1
theorem ewalkE_step (l : List EntV) (k : Nat) (hk : k < l.length) (h : ewalkE [] (l.take k) = 0) (he : eatE (l.take k) l[k] = 0) : ewalkE [] (l.take (k + 1)) = 0 := by
  have h1 := ewalkE_app [] (l.take k) [l[k]] h
  rw [← List.take_succ_eq_append_getElem hk, List.nil_append, ewalkE, if_neg (by simp [he]), ewalkE] at h1
  exact h1
theorem ewalkE_all (l : List EntV) : ∀ s, ewalkE s l = 0 ↔ ∀ k (hk : k < l.length), eatE (s ++ l.take k) l[k] = 0 := by
  induction l with
  | nil => intro s; simp [ewalkE]
  | cons n l ih =>
    intro s
    rw [ewalkE]
    constructor
    · intro h k hk
      by_cases e : eatE s n ≠ 0
      · rw [if_pos e] at h; exact absurd h e
      · rw [if_neg e] at h
        cases k with
        | zero => simp only [List.take_zero, List.append_nil, List.getElem_cons_zero]; simpa using e
        | succ k =>
          have := (ih _).1 h k (by simpa using hk)
          simpa using this
    · intro h
      have h0 : eatE s n = 0 := by
        have := h 0 (by simp)
        simpa only [List.take_zero, List.append_nil, List.getElem_cons_zero] using this
      rw [if_neg (by simp [h0])]
      refine (ih _).2 fun k hk => ?_
      have := h (k + 1) (by simpa using hk)
      simpa using this
theorem eatE_zero (l : List EntV) (x : EntV) : eatE l x = 0 ↔ entE x = 0 ∧ (∀ y, l.getLast? = some y → pcmp y.path x.path = -1) ∧ upE l x.path = true ∧ aimE l x = true := by
  unfold eatE
  by_cases h1 : entE x ≠ 0
  · rw [if_pos h1]; exact ⟨fun h => absurd h h1, fun h => absurd h.1 h1⟩
  · rw [if_neg h1]
    have h1' : entE x = 0 := by simpa using h1
    cases hg : l.getLast? with
    | none =>
      simp only [Bool.false_eq_true, if_false]
      cases upE l x.path <;> cases aimE l x <;> simp [h1']
    | some y =>
      by_cases h2 : pcmp y.path x.path = -1
      · cases upE l x.path <;> cases aimE l x <;> simp [h1', h2]
      · simp [h2]
/-- the member of the i-th node of a tree: a link where the same file stands ahead -/
def planE (t : List NodeV) (i : Nat) (x : NodeV) : EntV :=
  if 0 < x.same ∧ firstF t i < i then ⟨x.path, 4, ((t[firstF t i]?).map NodeV.path).getD [], x.md, []⟩ else x.ent
def planL (t : List NodeV) : List EntV := t.mapIdx fun i x => planE t i x
theorem planL_len (t : List NodeV) : (planL t).length = t.length := by unfold planL; rw [List.length_mapIdx]
theorem planL_at (t : List NodeV) (i : Nat) (h : i < t.length) : (planL t)[i]'(by rw [planL_len]; exact h) = planE t i t[i] := by
  unfold planL; rw [List.getElem_mapIdx]
/-- the node of the i-th member -/
def growE (l : List EntV) (i : Nat) (x : EntV) : NodeV :=
  if x.kind = 4 then ⟨x.path, 1, (findE l x.target : Nat) + 1, [], x.md, ((l[findE l x.target]?).map EntV.data).getD []⟩
  else ⟨x.path, x.kind, if x.kind = 1 ∧ (l.any fun y => decide (y.kind = 4) && decide (y.target = x.path)) = true then (i : Int) + 1 else 0, x.target, x.md, x.data⟩
def growL (l : List EntV) : List NodeV := l.mapIdx fun i x => growE l i x
theorem growL_len (l : List EntV) : (growL l).length = l.length := by unfold growL; rw [List.length_mapIdx]
theorem growL_at (l : List EntV) (i : Nat) (h : i < l.length) : (growL l)[i]'(by rw [growL_len]; exact h) = growE l i l[i] := by
  unfold growL; rw [List.getElem_mapIdx]
end Go.Proofs.YtoikpnjnljdpaaaGreatDoor
/- Plain mathematics of patterns: things that fit signs, some of which stand for any number; the signs of a part of a pattern; patterns and paths. Nothing of the program. -/
set_option linter.unusedVariables false
namespace Go.Proofs.YtoikpnjnljdpaaaGreatDoor
open Go.RowKit
section
variable {α β : Type} (star : α → Bool) (fits : α → β → Bool)
/-- do things fit signs, one by one, where a star stands for any number? -/
def fitL : List α → List β → Bool
  | [], [] => true
  | [], _ :: _ => false
  | a :: us, [] => star a && fitL us []
  | a :: us, b :: bs => if star a then fitL us (b :: bs) || fitL (a :: us) bs else fits a b && fitL us bs
termination_by us bs => us.length + bs.length
variable {star fits}
theorem fitL_nil_nil : fitL star fits [] [] = true := by rw [fitL]
theorem fitL_nil_cons (b : β) (bs : List β) : fitL star fits [] (b :: bs) = false := by rw [fitL]
theorem fitL_cons_nil (a : α) (us : List α) : fitL star fits (a :: us) [] = (star a && fitL star fits us []) := by rw [fitL]
theorem fitL_cons_cons (a : α) (us : List α) (b : β) (bs : List β) : fitL star fits (a :: us) (b :: bs) = if star a then fitL star fits us (b :: bs) || fitL star fits (a :: us) bs else fits a b && fitL star fits us bs := by rw [fitL]
/-- a star in front -/
theorem fitL_star {a : α} (h : star a = true) (us : List α) (bs : List β) : fitL star fits (a :: us) bs = true ↔ ∃ b1 b2, bs = b1 ++ b2 ∧ fitL star fits us b2 = true := by
  induction bs with
  | nil =>
    rw [fitL_cons_nil, h, Bool.true_and]
    constructor
    · intro h1; exact ⟨[], [], rfl, h1⟩
    · rintro ⟨b1, b2, e, h1⟩
      obtain ⟨rfl, rfl⟩ := List.append_eq_nil_iff.1 e.symm
      exact h1
  | cons b bs ih =>
    rw [fitL_cons_cons, if_pos h, Bool.or_eq_true, ih]
    constructor
    · rintro (h1 | ⟨b1, b2, e, h1⟩)
      · exact ⟨[], _, rfl, h1⟩
      · exact ⟨b :: b1, b2, by rw [e]; rfl, h1⟩
    · rintro ⟨b1, b2, e, h1⟩
      cases b1 with
      | nil => left; rw [List.nil_append] at e; rw [e]; exact h1
      | cons c b1 =>
        right
        rw [List.cons_append] at e
        injection e with _ e
        exact ⟨b1, b2, e, h1⟩
/-- another sign in front -/
theorem fitL_sign {a : α} (h : star a = false) (us : List α) (bs : List β) : fitL star fits (a :: us) bs = true ↔ ∃ b bs', bs = b :: bs' ∧ fits a b = true ∧ fitL star fits us bs' = true := by
  cases bs with
  | nil =>
    rw [fitL_cons_nil, h, Bool.false_and]
    constructor
    · intro h1; cases h1
    · rintro ⟨b, bs', e, -⟩; cases e
  | cons b bs =>
    rw [fitL_cons_cons, if_neg (by rw [h]; decide), Bool.and_eq_true]
    constructor
    · rintro ⟨h1, h2⟩; exact ⟨b, bs, rfl, h1, h2⟩
    · rintro ⟨b', bs', e, h1, h2⟩
      injection e with e1 e2
      subst e1 e2
      exact ⟨h1, h2⟩
/-- what fits two lists of signs behind one another is what fits the one, and behind it what fits the other -/
theorem fitL_app (u1 u2 : List α) (bs : List β) : fitL star fits (u1 ++ u2) bs = true ↔ ∃ b1 b2, bs = b1 ++ b2 ∧ fitL star fits u1 b1 = true ∧ fitL star fits u2 b2 = true := by
  induction u1 generalizing bs with
  | nil =>
    rw [List.nil_append]
    constructor
    · intro h; exact ⟨[], bs, rfl, fitL_nil_nil, h⟩
    · rintro ⟨b1, b2, e, h1, h2⟩
      cases b1 with
      | nil => rw [e]; exact h2
      | cons b b1 => rw [fitL_nil_cons] at h1; cases h1
  | cons a u1 ih =>
    rw [List.cons_append]
    rcases h : star a with _ | _
    · rw [fitL_sign h]
      constructor
      · rintro ⟨b, bs', rfl, h1, h2⟩
        obtain ⟨b1, b2, rfl, h3, h4⟩ := (ih bs').1 h2
        exact ⟨b :: b1, b2, rfl, (fitL_sign h _ _).2 ⟨b, b1, rfl, h1, h3⟩, h4⟩
      · rintro ⟨b1, b2, rfl, h1, h2⟩
        obtain ⟨b, b1', rfl, h3, h4⟩ := (fitL_sign h _ _).1 h1
        exact ⟨b, b1' ++ b2, rfl, h3, (ih _).2 ⟨b1', b2, rfl, h4, h2⟩⟩
    · rw [fitL_star h]
      constructor
      · rintro ⟨c1, c2, rfl, h1⟩
        obtain ⟨b1, b2, rfl, h3, h4⟩ := (ih c2).1 h1
        exact ⟨c1 ++ b1, b2, by rw [List.append_assoc], (fitL_star h _ _).2 ⟨c1, b1, rfl, h3⟩, h4⟩
      · rintro ⟨b1, b2, rfl, h1, h2⟩
        obtain ⟨c1, c2, rfl, h3⟩ := (fitL_star h _ _).1 h1
        exact ⟨c1, c2 ++ b2, by rw [List.append_assoc], (ih _).2 ⟨c2, b2, rfl, h3, h2⟩⟩
/-- one sign alone -/
theorem fitL_one_star {a : α} (h : star a = true) (bs : List β) : fitL star fits [a] bs = true := (fitL_star h _ _).2 ⟨bs, [], by simp, fitL_nil_nil⟩
theorem fitL_one {a : α} (h : star a = false) (bs : List β) : fitL star fits [a] bs = true ↔ ∃ b, bs = [b] ∧ fits a b = true := by
  rw [fitL_sign h]
  constructor
  · rintro ⟨b, bs', rfl, h1, h2⟩
    cases bs' with
    | nil => exact ⟨b, rfl, h1⟩
    | cons c bs' => rw [fitL_nil_cons] at h2; cases h2
  · rintro ⟨b, rfl, h1⟩; exact ⟨b, [], rfl, h1, fitL_nil_nil⟩
/-- from the end: the rows of a table -/
theorem fitL_snoc_nil (us : List α) (a : α) : fitL star fits (us ++ [a]) [] = (fitL star fits us [] && star a) := by
  rw [Bool.eq_iff_iff, fitL_app, Bool.and_eq_true]
  constructor
  · rintro ⟨b1, b2, e, h1, h2⟩
    obtain ⟨rfl, rfl⟩ := List.append_eq_nil_iff.1 e.symm
    refine ⟨h1, ?_⟩
    rcases h : star a with _ | _
    · obtain ⟨b, e, -⟩ := (fitL_one h _).1 h2; cases e
    · rfl
  · rintro ⟨h1, h2⟩
    exact ⟨[], [], rfl, h1, fitL_one_star h2 _⟩
theorem fitL_snoc_snoc (us : List α) (a : α) (bs : List β) (b : β) : fitL star fits (us ++ [a]) (bs ++ [b]) = if star a then fitL star fits us (bs ++ [b]) || fitL star fits (us ++ [a]) bs else fitL star fits us bs && fits a b := by
  rcases h : star a with _ | _
  · rw [if_neg (by decide), Bool.eq_iff_iff, fitL_app, Bool.and_eq_true]
    constructor
    · rintro ⟨b1, b2, e, h1, h2⟩
      obtain ⟨c, rfl, h3⟩ := (fitL_one h _).1 h2
      obtain ⟨rfl, e2⟩ := List.append_inj' e rfl
      injection e2 with e2
      subst e2
      exact ⟨h1, h3⟩
    · rintro ⟨h1, h2⟩
      exact ⟨bs, [b], rfl, h1, (fitL_one h _).2 ⟨b, rfl, h2⟩⟩
  · rw [if_pos rfl, Bool.eq_iff_iff, fitL_app, Bool.or_eq_true, fitL_app]
    constructor
    · rintro ⟨b1, b2, e, h1, h2⟩
      rcases List.eq_nil_or_concat b2 with rfl | ⟨b2', c, rfl⟩
      · left
        rw [List.append_nil] at e
        rw [e]; exact h1
      · right
        rw [List.concat_eq_append, ← List.append_assoc] at e
        obtain ⟨rfl, -⟩ := List.append_inj' e rfl
        exact ⟨b1, b2', rfl, h1, fitL_one_star h _⟩
    · rintro (h1 | ⟨b1, b2, rfl, h1, h2⟩)
      · exact ⟨_, [], by rw [List.append_nil], h1, fitL_one_star h _⟩
      · exact ⟨b1, b2 ++ [b], by rw [List.append_assoc], h1, fitL_one_star h _⟩
/-- the table's four rules -/
theorem fitL_table (us : List α) (bs : List β) (da : α) (db : β) : (fitL star fits (us.take 0) (bs.take 0) = true) ∧ (∀ k, k < bs.length → fitL star fits (us.take 0) (bs.take (k + 1)) = false) ∧
    (∀ i, i < us.length → fitL star fits (us.take (i + 1)) (bs.take 0) = (fitL star fits (us.take i) (bs.take 0) && star (us.getD i da))) ∧
    (∀ i k, i < us.length → k < bs.length → fitL star fits (us.take (i + 1)) (bs.take (k + 1)) = if star (us.getD i da) then fitL star fits (us.take i) (bs.take (k + 1)) || fitL star fits (us.take (i + 1)) (bs.take k) else fitL star fits (us.take i) (bs.take k) && fits (us.getD i da) (bs.getD k db)) := by
  have eu : ∀ i, (h : i < us.length) → us.take (i + 1) = us.take i ++ [us.getD i da] := fun i h => by rw [List.take_succ_eq_append_getElem h]; simp [h]
  have eb : ∀ i, (h : i < bs.length) → bs.take (i + 1) = bs.take i ++ [bs.getD i db] := fun i h => by rw [List.take_succ_eq_append_getElem h]; simp [h]
  refine ⟨fitL_nil_nil, fun k hk => ?_, fun i hi => ?_, fun i k hi hk => ?_⟩
  · rw [List.take_zero]
    cases bs with
    | nil => simp at hk
    | cons b bs => exact fitL_nil_cons _ _
  · rw [eu i hi, List.take_zero, fitL_snoc_nil]
  · rw [eu i hi, eb k hk, fitL_snoc_snoc]
end
/-! ### the signs of a part -/
/-- a sign: a star; which bytes fit -/
abbrev Tok : Type := Bool × (UInt8 → Bool)
/-- the bytes from low to high -/
def span (low high : UInt8) : UInt8 → Bool := fun x => decide (low ≤ x ∧ x ≤ high)
/-- a set's bytes from here on, and what is behind its end -/
def setG (first : Bool) (acc : UInt8 → Bool) : List UInt8 → Option ((UInt8 → Bool) × List UInt8)
  | [] => none
  | [c] => if first = false ∧ c = 93 then some (acc, []) else none
  | [c, d] => if first = false ∧ c = 93 then some (acc, [d]) else setG false (fun x => acc x || span c c x) [d]
  | c :: d :: h :: r => if first = false ∧ c = 93 then some (acc, d :: h :: r) else if d = 45 ∧ h ≠ 93 then setG false (fun x => acc x || span c h x) r else setG false (fun x => acc x || span c c x) (d :: h :: r)
termination_by l => l.length
theorem setG_less : ∀ (n : Nat) (first : Bool) (acc : UInt8 → Bool) (l : List UInt8) (f : UInt8 → Bool) (r : List UInt8), l.length ≤ n → setG first acc l = some (f, r) → r.length < l.length := by
  intro n
  induction n with
  | zero =>
    intro first acc l f r hl h
    rw [List.eq_nil_of_length_eq_zero (Nat.le_zero.1 hl)] at h
    rw [setG] at h; cases h
  | succ n ih =>
    intro first acc l f r hl h
    match l, hl, h with
    | [], _, h => rw [setG] at h; cases h
    | [c], _, h =>
      rw [setG] at h
      split at h
      · injection h with h; injection h with _ h; rw [← h]; simp
      · cases h
    | [c, d], hl, h =>
      rw [setG] at h
      split at h
      · injection h with h; injection h with _ h; rw [← h]; simp
      · have := ih _ _ _ _ _ (by simp only [List.length_cons, List.length_nil] at hl ⊢; omega) h
        simp only [List.length_cons, List.length_nil] at this ⊢; omega
    | c :: d :: e :: l, hl, h =>
      rw [setG] at h
      simp only [List.length_cons] at hl
      split at h
      · injection h with h; injection h with _ h; rw [← h]; simp
      · split at h
        · have := ih _ _ _ _ _ (by omega) h
          simp only [List.length_cons]; omega
        · have := ih _ _ _ _ _ (by simp only [List.length_cons]; omega) h
          simp only [List.length_cons] at this ⊢; omega
/-- a set, behind its '[' -/
def setP (r : List UInt8) : Option ((UInt8 → Bool) × List UInt8) :=
  match r with
  | [] => none
  | c :: r' => if c = 33 then (setG true (fun _ => false) r').map fun q => (fun x => !q.1 x, q.2) else setG true (fun _ => false) (c :: r')
theorem setP_less {r : List UInt8} {f : UInt8 → Bool} {r2 : List UInt8} (h : setP r = some (f, r2)) : r2.length < r.length := by
  unfold setP at h
  cases r with
  | nil => cases h
  | cons c r =>
    simp only at h
    split at h
    · obtain ⟨q, hq, e⟩ := Option.map_eq_some_iff.1 h
      obtain ⟨g, r3⟩ := q
      injection e with _ e
      simp only at e
      subst e
      have := setG_less _ _ _ _ _ _ (Nat.le_refl _) hq
      rw [List.length_cons]; omega
    · exact setG_less _ _ _ _ _ _ (Nat.le_refl _) h
/-- the signs of a part; none: a set has no end -/
def tokL : List UInt8 → Option (List Tok)
  | [] => some []
  | c :: r =>
    if c = 91 then
      match h : setP r with
      | none => none
      | some (f, r2) => (tokL r2).map fun ts => (false, f) :: ts
    else (tokL r).map fun ts => (if c = 42 then (true, span 42 42) else if c = 63 then (false, fun _ => true) else (false, span c c)) :: ts
termination_by l => l.length
decreasing_by
  · have := setP_less h
    simp only [List.length_cons]; omega
  · simp
theorem tokL_len : ∀ (n : Nat) (l : List UInt8) (ts : List Tok), l.length ≤ n → tokL l = some ts → ts.length ≤ l.length := by
  intro n
  induction n with
  | zero =>
    intro l ts hl h
    rw [List.eq_nil_of_length_eq_zero (Nat.le_zero.1 hl), tokL] at h
    injection h with h; rw [← h]; simp
  | succ n ih =>
    intro l ts hl h
    cases l with
    | nil => rw [tokL] at h; injection h with h; rw [← h]; simp
    | cons c r =>
      rw [List.length_cons] at hl ⊢
      rw [tokL] at h
      split at h
      · split at h
        · cases h
        · rename_i f r2 hp
          obtain ⟨us, hu, e⟩ := Option.map_eq_some_iff.1 h
          have h1 := setP_less hp
          have := ih r2 us (by omega) hu
          subst e
          show us.length + 1 ≤ r.length + 1
          omega
      · obtain ⟨us, hu, e⟩ := Option.map_eq_some_iff.1 h
        have := ih r us (by omega) hu
        subst e
        show us.length + 1 ≤ r.length + 1
        omega
def tokStar (t : Tok) : Bool := t.1
def tokFits (t : Tok) (c : UInt8) : Bool := t.2 c
/-- does a part of a path fit a part of a pattern? -/
def partF (p s : List UInt8) : Bool := fitL tokStar tokFits ((tokL p).getD []) s
/-- is a part a pattern's sign for any number of parts? -/
def twoStars (p : List UInt8) : Bool := decide (p = [42, 42])
/-- what is said of a pattern -/
def partsE : List (List UInt8) → Int
  | [] => 0
  | s :: l => if s = [] then 9 else if (tokL s).isNone then 3 else partsE l
def globE (p : List UInt8) : Int := if p = [] ∨ 400 < p.length then 1 else partsE (partsL 47 p)
def globF (p s : List UInt8) : Bool := fitL twoStars partF (partsL 47 p) (partsL 47 s)
end Go.Proofs.YtoikpnjnljdpaaaGreatDoor
/- More plain mathematics of patterns: what the properties of globs say. Nothing of the program. -/
set_option linter.unusedVariables false
namespace Go.Proofs.YtoikpnjnljdpaaaGreatDoor
open Go.RowKit
/-- a byte that stands for itself -/
def plainC (c : UInt8) : Prop := c ≠ 42 ∧ c ≠ 63 ∧ c ≠ 91
theorem span_self (c x : UInt8) : span c c x = decide (x = c) := by
  unfold span
  by_cases h : x = c
  · rw [h]; simp
  · rw [decide_eq_false h]
    apply decide_eq_false
    rw [UInt8.le_iff_toNat_le, UInt8.le_iff_toNat_le]
    intro h2
    exact h (UInt8.toNat_inj.1 (by omega))
theorem tokL_step (c : UInt8) (r : List UInt8) (h : c ≠ 91) : tokL (c :: r) = (tokL r).map fun ts => (if c = 42 then (true, span 42 42) else if c = 63 then (false, fun _ => true) else (false, span c c)) :: ts := by
  rw [tokL, if_neg h]
theorem tokL_plain (l : List UInt8) (h : ∀ c ∈ l, plainC c) : tokL l = some (l.map fun c => (false, span c c)) := by
  induction l with
  | nil => rw [tokL]; rfl
  | cons c l ih =>
    obtain ⟨h1, h2, h3⟩ := h c (List.mem_cons_self ..)
    rw [tokL_step c l h3, ih fun d hd => h d (List.mem_cons_of_mem _ hd), if_neg h1, if_neg h2]; rfl
theorem fits_plain (l s : List UInt8) : fitL tokStar tokFits (l.map fun c => ((false, span c c) : Tok)) s = decide (l = s) := by
  induction l generalizing s with
  | nil =>
    cases s with
    | nil => exact fitL_nil_nil
    | cons x s => exact fitL_nil_cons _ _
  | cons c l ih =>
    rw [List.map_cons]
    cases s with
    | nil => rw [fitL_cons_nil]; rfl
    | cons x s =>
      rw [fitL_cons_cons, if_neg (by intro h; cases h), ih]
      show (span c c x && decide (l = s)) = _
      rw [span_self]
      by_cases h1 : x = c
      · by_cases h2 : l = s
        · rw [h1, h2]; simp
        · simp [h2]
      · have : ¬ c = x := fun h => h1 h.symm
        simp [h1, this]
theorem partF_plain (l s : List UInt8) (h : ∀ c ∈ l, plainC c) : partF l s = decide (l = s) := by
  unfold partF
  rw [tokL_plain l h, Option.getD_some, fits_plain]
theorem twoStars_plain (l : List UInt8) (h : ∀ c ∈ l, plainC c) : twoStars l = false := by
  unfold twoStars
  apply decide_eq_false
  rintro rfl
  exact (h 42 (List.mem_cons_self ..)).1 rfl
/-- parts that stand for themselves fit themselves alone -/
theorem fits_parts (ls ms : List (List UInt8)) (h : ∀ l ∈ ls, ∀ c ∈ l, plainC c) : fitL twoStars partF ls ms = decide (ls = ms) := by
  induction ls generalizing ms with
  | nil =>
    cases ms with
    | nil => exact fitL_nil_nil
    | cons x s => exact fitL_nil_cons _ _
  | cons l ls ih =>
    have h1 := twoStars_plain l (h l (List.mem_cons_self ..))
    cases ms with
    | nil => rw [fitL_cons_nil, h1]; rfl
    | cons m ms =>
      rw [fitL_cons_cons, if_neg (by rw [h1]; decide), ih _ fun k hk => h k (List.mem_cons_of_mem _ hk), partF_plain l m (h l (List.mem_cons_self ..))]
      by_cases h2 : l = m <;> by_cases h3 : ls = ms <;> simp [h2, h3]
theorem partsL_bytes (c : UInt8) (l : List UInt8) : ∀ p ∈ partsL c l, ∀ x ∈ p, x ∈ l := by
  induction l with
  | nil => intro p hp x hx; rw [partsL_nil, List.mem_singleton] at hp; rw [hp] at hx; cases hx
  | cons a l ih =>
    intro p hp x hx
    rw [partsL_cons] at hp
    by_cases h : a = c
    · rw [if_pos h] at hp
      rcases List.mem_cons.1 hp with rfl | hp
      · cases hx
      · exact List.mem_cons_of_mem _ (ih p hp x hx)
    · rw [if_neg h] at hp
      rcases hq : partsL c l with _ | ⟨q, r⟩
      · exact absurd hq (partsL_ne c l)
      · rw [hq] at hp ih
        rcases List.mem_cons.1 hp with rfl | hp
        · rcases List.mem_cons.1 hx with rfl | hx
          · exact List.mem_cons_self ..
          · exact List.mem_cons_of_mem _ (ih q (List.mem_cons_self ..) x hx)
        · exact List.mem_cons_of_mem _ (ih p (List.mem_cons_of_mem _ hp) x hx)
theorem partsL_inj {l m : List UInt8} (h : partsL 47 l = partsL 47 m) : l = m := by
  have := congrArg joinL h
  rwa [joinL_parts, joinL_parts] at this
/-- a path of bytes that stand for themselves fits itself alone -/
theorem globF_plain (p s : List UInt8) (h : ∀ c ∈ p, plainC c) : globF p s = decide (p = s) := by
  unfold globF
  rw [fits_parts _ _ fun l hl c hc => h c (partsL_bytes 47 p l hl c hc)]
  by_cases e : p = s
  · rw [e]; simp
  · rw [decide_eq_false e, decide_eq_false fun h2 => e (partsL_inj h2)]
/-- where two fit two, both behind one another fit both -/
theorem globF_join (p q s t : List UInt8) (h1 : globF p s = true) (h2 : globF q t = true) : globF (p ++ 47 :: q) (s ++ 47 :: t) = true := by
  unfold globF at h1 h2 ⊢
  rw [partsL_app, partsL_app, fitL_app]
  exact ⟨_, _, rfl, h1, h2⟩
/-- stars -/
theorem tokL_star : tokL [42] = some [(true, span 42 42)] := by rw [tokL_step _ _ (by decide), tokL]; rfl
theorem partF_star (s : List UInt8) : partF [42] s = true := by
  unfold partF
  rw [tokL_star, Option.getD_some]
  exact fitL_one_star rfl s
theorem globF_two (s : List UInt8) : globF [42, 42] s = true := by
  unfold globF
  rw [partsL_none 47 [42, 42] (by decide)]
  exact fitL_one_star rfl _
/-- n stars are any n parts -/
theorem fits_stars (n : Nat) (ms : List (List UInt8)) : fitL twoStars partF (List.replicate n [42]) ms = decide (ms.length = n) := by
  induction n generalizing ms with
  | zero =>
    cases ms with
    | nil => exact fitL_nil_nil
    | cons m ms => exact fitL_nil_cons _ _
  | succ n ih =>
    rw [List.replicate_succ]
    cases ms with
    | nil => rw [fitL_cons_nil]; rfl
    | cons m ms =>
      rw [fitL_cons_cons, if_neg (by decide), ih, partF_star, Bool.true_and, List.length_cons]
      by_cases h : ms.length = n
      · simp [h]
      · rw [decide_eq_false h, decide_eq_false (by omega)]
theorem globF_one (s : List UInt8) : globF [42] s = decide ((partsL 47 s).length = 1) := by
  unfold globF
  rw [partsL_none 47 [42] (by decide)]
  exact fits_stars 1 _
theorem globF_twoOne (s : List UInt8) : globF [42, 42, 47, 42] s = true := by
  unfold globF
  rw [show ([42, 42, 47, 42] : List UInt8) = [42, 42] ++ 47 :: [42] from rfl, partsL_app, partsL_none 47 [42, 42] (by decide), partsL_none 47 [42] (by decide)]
  rw [List.singleton_append, fitL_star rfl]
  rcases List.eq_nil_or_concat (partsL 47 s) with h | ⟨l, x, h⟩
  · exact absurd h (partsL_ne 47 s)
  · refine ⟨l, [x], by rw [h, List.concat_eq_append], ?_⟩
    have := fits_stars 1 [x]
    exact this
/-! ### many stars -/
/-- n stars, each with a sign behind it -/
def starL (c : UInt8) : Nat → List UInt8
  | 0 => []
  | n + 1 => 42 :: c :: starL c n
def starT (c : UInt8) : Nat → List Tok
  | 0 => []
  | n + 1 => (true, span 42 42) :: (false, span c c) :: starT c n
theorem tokL_stars (c : UInt8) (h : plainC c) (n : Nat) (r : List UInt8) : tokL (starL c n ++ r) = (tokL r).map fun ts => starT c n ++ ts := by
  induction n with
  | zero =>
    show tokL r = _
    cases tokL r <;> rfl
  | succ n ih =>
    rw [show starL c (n + 1) ++ r = 42 :: c :: (starL c n ++ r) from rfl, tokL_step _ _ (by decide), tokL_step _ _ h.2.2, ih, if_neg h.1, if_neg h.2.1, Option.map_map, Option.map_map]
    rfl
theorem fits_starT (c : UInt8) (n m : Nat) : fitL tokStar tokFits (starT c n) (List.replicate m c) = true ↔ (n = 0 → m = 0) ∧ n ≤ m := by
  induction n generalizing m with
  | zero =>
    cases m with
    | zero => simp [starT, fitL_nil_nil]
    | succ m => simp [starT, List.replicate_succ, fitL_nil_cons]
  | succ n ih =>
    rw [show starT c (n + 1) = (true, span 42 42) :: (false, span c c) :: starT c n from rfl, fitL_star rfl]
    constructor
    · rintro ⟨b1, b2, e, h⟩
      obtain ⟨x, b3, rfl, -, h3⟩ := (fitL_sign (star := tokStar) (fits := tokFits) (a := (false, span c c)) rfl _ _).1 h
      have h4 : b3 = List.replicate b3.length c := by
        apply List.eq_replicate_iff.2
        refine ⟨rfl, fun y hy => ?_⟩
        have : y ∈ List.replicate m c := by rw [e]; simp [hy]
        exact (List.mem_replicate.1 this).2
      have hl := congrArg List.length e
      rw [List.length_replicate, List.length_append, List.length_cons] at hl
      rw [h4] at h3
      have := (ih _).1 h3
      exact ⟨fun h => by omega, by omega⟩
    · rintro ⟨-, h⟩
      obtain ⟨k, rfl⟩ : ∃ k, m = k + 1 := ⟨m - 1, by omega⟩
      by_cases hn : n = 0
      · subst hn
        refine ⟨List.replicate k c, [c], by rw [List.replicate_succ'], ?_⟩
        rw [fitL_sign rfl]
        exact ⟨c, [], rfl, by show span c c c = true; rw [span_self]; simp, fitL_nil_nil⟩
      · refine ⟨[], List.replicate (k + 1) c, rfl, ?_⟩
        rw [List.replicate_succ, fitL_sign rfl]
        exact ⟨c, _, rfl, by show span c c c = true; rw [span_self]; simp, (ih k).2 ⟨fun h => absurd h hn, by omega⟩⟩
theorem hasB_same (c d : UInt8) (h : c ≠ d) (m : Nat) : hasB d (List.replicate m c) = false := by
  induction m with
  | zero => rfl
  | succ m ih => rw [List.replicate_succ]; simp [hasB, h] at *
theorem partF_stars (c : UInt8) (h : plainC c) (n m : Nat) (hn : 1 ≤ n) : partF (starL c n) (List.replicate m c) = decide (n ≤ m) := by
  unfold partF
  have e := tokL_stars c h n []
  rw [List.append_nil, tokL] at e
  rw [e, Option.map_some, Option.getD_some, List.append_nil]
  by_cases hm : n ≤ m
  · rw [decide_eq_true hm]; exact (fits_starT c n m).2 ⟨fun h => by omega, hm⟩
  · rw [decide_eq_false hm, ← Bool.not_eq_true]
    intro h2
    exact hm ((fits_starT c n m).1 h2).2
/-- with another sign at the end none fits -/
theorem partF_starsNo (c d : UInt8) (h : plainC c) (hd : plainC d) (hcd : d ≠ c) (n m : Nat) : partF (starL c n ++ [d]) (List.replicate m c) = false := by
  unfold partF
  have e1 := tokL_plain [d] (by intro x hx; rw [List.mem_singleton.1 hx]; exact hd)
  rw [tokL_stars c h n [d], e1, Option.map_some, Option.getD_some, ← Bool.not_eq_true, fitL_app]
  rintro ⟨b1, b2, e, -, h2⟩
  obtain ⟨x, rfl, hx⟩ := (fitL_one (star := tokStar) (fits := tokFits) (a := (false, span d d)) rfl _).1 h2
  have hx2 : span d d x = true := hx
  rw [span_self, decide_eq_true_eq] at hx2
  have : x ∈ List.replicate m c := by rw [e]; simp
  exact hcd (hx2 ▸ (List.mem_replicate.1 this).2)
/-! ### sets -/
theorem tokL_noSet (r : List UInt8) (h : setP r = none) : tokL (91 :: r) = none := by
  rw [tokL, if_pos rfl]
  split
  · rfl
  · rename_i f r2 e
    rw [h] at e; cases e
theorem setG_one_span (l h : UInt8) (hh : h ≠ 93) : setG true (fun _ => false) [l, 45, h, 93] = some (fun x => span l h x, []) := by
  rw [setG, if_neg (by intro h2; cases h2.1), if_pos ⟨rfl, hh⟩, setG, if_pos ⟨rfl, rfl⟩]
  simp
theorem tokL_in (a l h : UInt8) (ha : plainC a) (hl : l ≠ 33) (hh : h ≠ 93) : tokL [a, 91, l, 45, h, 93] = some [(false, span a a), (false, fun x => span l h x)] := by
  have hp : setP [l, 45, h, 93] = some (fun x => span l h x, []) := by
    unfold setP
    simp only
    rw [if_neg hl, setG_one_span l h hh]
  rw [tokL_step _ _ ha.2.2, if_neg ha.1, if_neg ha.2.1, tokL, if_pos rfl]
  split
  · rename_i e; rw [hp] at e; cases e
  · rename_i f r2 e
    rw [hp] at e
    injection e with e; injection e with e1 e2
    subst e1 e2
    rw [tokL]; rfl
theorem tokL_out (a l h : UInt8) (ha : plainC a) (hh : h ≠ 93) : tokL [a, 91, 33, l, 45, h, 93] = some [(false, span a a), (false, fun x => !span l h x)] := by
  have hp : setP [33, l, 45, h, 93] = some (fun x => !span l h x, []) := by
    unfold setP
    simp only
    rw [if_pos trivial, setG_one_span l h hh]; rfl
  rw [tokL_step _ _ ha.2.2, if_neg ha.1, if_neg ha.2.1, tokL, if_pos rfl]
  split
  · rename_i e; rw [hp] at e; cases e
  · rename_i f r2 e
    rw [hp] at e
    injection e with e; injection e with e1 e2
    subst e1 e2
    rw [tokL]; rfl
theorem fits_pair (a c : UInt8) (f : UInt8 → Bool) : fitL tokStar tokFits [(false, span a a), (false, f)] [a, c] = f c := by
  rw [fitL_cons_cons, if_neg (by intro h; cases h), fitL_cons_cons, if_neg (by intro h; cases h), fitL_nil_nil, Bool.and_true]
  show (span a a a && f c) = f c
  rw [span_self]; simp
theorem partF_in (a l h c : UInt8) (ha : plainC a) (hl : l ≠ 33) (hh : h ≠ 93) : partF [a, 91, l, 45, h, 93] [a, c] = span l h c := by
  unfold partF; rw [tokL_in a l h ha hl hh, Option.getD_some, fits_pair]
theorem partF_out (a l h c : UInt8) (ha : plainC a) (hh : h ≠ 93) : partF [a, 91, 33, l, 45, h, 93] [a, c] = !span l h c := by
  unfold partF; rw [tokL_out a l h ha hh, Option.getD_some, fits_pair]
theorem tokL_torn (a c : UInt8) (ha : plainC a) (hc : c ≠ 33) : tokL [a, 91, c] = none := by
  have hp : setP [c] = none := by
    unfold setP
    simp only
    rw [if_neg hc, setG, if_neg (by intro h2; cases h2.1)]
  rw [tokL_step _ _ ha.2.2, tokL_noSet _ hp]; rfl
/-! ### patterns and paths of one part -/
theorem starL_rep (c : UInt8) (n : Nat) : Lib.repeatL [42, c] n = starL c n := by
  induction n with
  | zero => rfl
  | succ n ih =>
    show [42, c] ++ Lib.repeatL [42, c] n = _
    rw [ih]; rfl
theorem starL_len (c : UInt8) (n : Nat) : (starL c n).length = 2 * n := by
  induction n with
  | zero => rfl
  | succ n ih =>
    show (starL c n).length + 1 + 1 = _
    omega
theorem hasB_starL (c d : UInt8) (h : c ≠ d) (h2 : (42 : UInt8) ≠ d) (n : Nat) : hasB d (starL c n) = false := by
  induction n with
  | zero => rfl
  | succ n ih =>
    show hasB d (42 :: c :: starL c n) = false
    rw [hasB_cons, hasB_cons, ih, beq_false_of_ne h, beq_false_of_ne h2]; rfl
theorem globE_one {p : List UInt8} (h0 : p ≠ []) (hl : p.length ≤ 400) (h : hasB 47 p = false) (ht : (tokL p).isSome = true) : globE p = 0 := by
  unfold globE
  rw [if_neg (by rintro (h2 | h2); exact h0 h2; omega), partsL_none 47 p h]
  show (if p = [] then (9 : Int) else if (tokL p).isNone then 3 else 0) = 0
  rw [if_neg h0, ← Option.not_isSome, ht]; rfl
theorem globE_torn {p : List UInt8} (h0 : p ≠ []) (hl : p.length ≤ 400) (h : hasB 47 p = false) (ht : tokL p = none) : globE p = 3 := by
  unfold globE
  rw [if_neg (by rintro (h2 | h2); exact h0 h2; omega), partsL_none 47 p h]
  show (if p = [] then (9 : Int) else if (tokL p).isNone then 3 else 0) = 3
  rw [if_neg h0, ht]; rfl
theorem pathE_one {p : List UInt8} (h0 : nameB p = true) (h1 : 1 ≤ p.length) (hl : p.length ≤ 400) (h : hasB 47 p = false) (hz : hasB 0 p = false) : pathE p = 0 := by
  refine pathE_ok (by omega) hz ?_
  rw [partsL_none 47 p h]
  simp [h0]
theorem globF_single {p s : List UInt8} (hp : hasB 47 p = false) (hs : hasB 47 s = false) (h2 : p ≠ [42, 42]) : globF p s = partF p s := by
  unfold globF
  rw [partsL_none 47 p hp, partsL_none 47 s hs, fitL_cons_cons, if_neg (by unfold twoStars; simpa using h2), fitL_nil_nil, Bool.and_true]
theorem nameB_rep (c : UInt8) (m : Nat) (hm : 1 ≤ m) (hc : c ≠ 46) : nameB (List.replicate m c) = true := by
  obtain ⟨k, rfl⟩ : ∃ k, m = k + 1 := ⟨m - 1, by omega⟩
  rw [List.replicate_succ]
  exact nameB_true _ (by simp) (by intro h; injection h with h; exact hc h) (by intro h; injection h with h; exact hc h)
end Go.Proofs.YtoikpnjnljdpaaaGreatDoor
/- Plain mathematics of putting by places, and of files that are the same; nothing of the program. -/
set_option linter.unusedVariables false
namespace Go.Proofs.YtoikpnjnljdpaaaGreatDoor
open Go.RowKit
/-- the place where a path belongs: all ahead are less, none behind -/
structure LowAt (t : List NodeV) (p : List UInt8) (i : Nat) : Prop where
  le : i ≤ t.length
  lt : ∀ k (hk : k < t.length), k < i → pcmp t[k].path p < 0
  ge : ∀ k (hk : k < t.length), i ≤ k → ¬ pcmp t[k].path p < 0
theorem less_ahead {t : List NodeV} (h : Rises t) {p : List UInt8} (k m : Nat) (hm : m < t.length) (hkm : k ≤ m) (hl : pcmp t[m].path p < 0) : pcmp (t[k]'(by omega)).path p < 0 := by
  rcases Nat.lt_or_eq_of_le hkm with h' | h'
  · have h1 := rises_get h k m (by omega) hm h'
    have hb := pcmp_bd t[m].path p
    have := plt_trans h1 (show pcmp t[m].path p = -1 by omega)
    omega
  · subst h'; exact hl
theorem more_behind {t : List NodeV} (h : Rises t) {p : List UInt8} (k m : Nat) (hm : m < t.length) (hkm : k ≤ m) (hl : ¬ pcmp (t[k]'(by omega)).path p < 0) : ¬ pcmp t[m].path p < 0 :=
  fun e => hl (less_ahead h k m hm hkm e)
theorem filter_lt_low {t : List NodeV} {p : List UInt8} {i : Nat} (h : LowAt t p i) : t.filter (fun x => decide (pcmp x.path p < 0)) = t.take i := by
  conv => lhs; rw [← List.take_append_drop i t]
  rw [List.filter_append]
  have e1 : (t.take i).filter (fun x => decide (pcmp x.path p < 0)) = t.take i := List.filter_eq_self.2 fun x hx => by
    obtain ⟨k, hk, rfl⟩ := List.mem_take_iff_getElem.1 hx
    exact decide_eq_true (h.lt k (by omega) (by omega))
  have e2 : (t.drop i).filter (fun x => decide (pcmp x.path p < 0)) = [] := List.filter_eq_nil_iff.2 fun x hx => by
    obtain ⟨k, hk, rfl⟩ := List.getElem_of_mem hx
    rw [List.length_drop] at hk
    rw [List.getElem_drop]
    have := h.ge (i + k) (by omega) (by omega)
    simpa using this
  rw [e1, e2, List.append_nil]
theorem filter_gt_low {t : List NodeV} (hr : Rises t) {p : List UInt8} {i e : Nat} (h : LowAt t p i) (he : e = if hi : i < t.length then (if pcmp t[i].path p = 0 then i + 1 else i) else i) : t.filter (fun x => decide (0 < pcmp x.path p)) = t.drop e := by
  have hie : i ≤ e := by rw [he]; split <;> (try split) <;> omega
  conv => lhs; rw [← List.take_append_drop e t]
  rw [List.filter_append]
  have e1 : (t.take e).filter (fun x => decide (0 < pcmp x.path p)) = [] := List.filter_eq_nil_iff.2 fun x hx => by
    obtain ⟨k, hk, rfl⟩ := List.mem_take_iff_getElem.1 hx
    rcases Nat.lt_or_ge k i with h' | h'
    · have := h.lt k (by omega) h'
      simp; omega
    · have hi : i < t.length := by omega
      rw [dif_pos hi] at he
      by_cases hz : pcmp t[i].path p = 0
      · rw [if_pos hz] at he
        obtain rfl : k = i := by omega
        simp [hz]
      · rw [if_neg hz] at he
        omega
  have e2 : (t.drop e).filter (fun x => decide (0 < pcmp x.path p)) = t.drop e := List.filter_eq_self.2 fun x hx => by
    obtain ⟨k, hk, rfl⟩ := List.getElem_of_mem hx
    rw [List.length_drop] at hk
    rw [List.getElem_drop]
    have hi : i < t.length := by omega
    rw [dif_pos hi] at he
    refine decide_eq_true ?_
    have h1 := h.ge (e + k) (by omega) (by omega)
    by_cases hz : pcmp t[i].path p = 0
    · rw [if_pos hz] at he
      have hlt := rises_get hr i (e + k) hi (by omega) (by omega)
      have hp := (pcmp_zero _ _).1 hz
      have hn := pcmp_neg t[e + k].path p
      rw [hp] at hlt
      omega
    · rw [if_neg hz] at he
      by_cases hk0 : e + k = i
      · have : pcmp t[e + k].path p ≠ 0 := by
          simp only [hk0]; exact hz
        omega
      · have hlt := rises_get hr i (e + k) hi (by omega) (by omega)
        have hne : pcmp t[e + k].path p ≠ 0 := fun e0 => by
          have hp := (pcmp_zero _ _).1 e0
          rw [hp] at hlt
          exact h.ge i hi (Nat.le_refl _) (by omega)
        omega
  rw [e1, e2, List.nil_append]
/-- where the place is known, putting is cutting -/
theorem putL_low {t : List NodeV} (hr : Rises t) {n : NodeV} {i e : Nat} (h : LowAt t n.path i) (he : e = if hi : i < t.length then (if pcmp t[i].path n.path = 0 then i + 1 else i) else i) : putL t n = t.take i ++ ([n] ++ t.drop e) := by
  unfold putL
  rw [filter_lt_low h, filter_gt_low hr h he]; rfl
/-- a file of this number is there: the link's fault by any one of them -/
theorem linkNo_one {t : List NodeV} (h : Sound t) {n y : NodeV} (hy : y ∈ t) (hs : y.same = n.same) (h0 : n.same ≠ 0) : linkNo t n = !(decide (y.md = n.md) && decide (y.data = n.data)) := by
  unfold linkNo
  rw [decide_eq_true h0, Bool.true_and, Bool.eq_iff_iff, List.any_eq_true]
  constructor
  · rintro ⟨x, hx, hx2⟩
    rw [Bool.and_eq_true, decide_eq_true_eq] at hx2
    have := h.link x hx y hy (by rw [hx2.1, hs]) (by rw [hx2.1]; exact h0)
    rw [← this.1, ← this.2]
    exact hx2.2
  · intro e
    exact ⟨y, hy, by rw [Bool.and_eq_true, decide_eq_true_eq]; exact ⟨hs, e⟩⟩
theorem linkNo_none {t : List NodeV} {n : NodeV} (h : ∀ y ∈ t, y.same ≠ n.same) : linkNo t n = false := by
  unfold linkNo
  rw [Bool.and_eq_false_iff]
  right
  rw [Bool.eq_false_iff]
  intro e
  obtain ⟨x, hx, hx2⟩ := List.any_eq_true.1 e
  rw [Bool.and_eq_true, decide_eq_true_eq] at hx2
  exact h x hx hx2.1
theorem linkNo_zero {t : List NodeV} {n : NodeV} (h : n.same = 0) : linkNo t n = false := by
  unfold linkNo; rw [decide_eq_false (by simp [h])]; rfl
end Go.Proofs.YtoikpnjnljdpaaaGreatDoor
/- Replacing bytes, by lists; nothing of the program. -/
set_option linter.unusedVariables false
namespace Go.Proofs.YtoikpnjnljdpaaaGreatDoor
open Go.RowKit
/-- each byte c is d -/
def rep (c d : UInt8) (l : List UInt8) : List UInt8 := l.map fun x => if x = c then d else x
theorem rep_length (c d : UInt8) (l : List UInt8) : (rep c d l).length = l.length := by simp [rep]
theorem rep_none (c d : UInt8) (l : List UInt8) (h : hasB c l = false) : rep c d l = l := by
  unfold rep
  conv => rhs; rw [← List.map_id l]
  apply List.map_congr_left
  intro x hx
  have : x ≠ c := by
    rintro rfl
    have h' : hasB x l = true := by unfold hasB; rw [List.any_eq_true]; exact ⟨x, hx, by simp⟩
    rw [h] at h'; cases h'
  simp [this]
theorem count_none (c : UInt8) (l : List UInt8) : l.count c = 0 ↔ hasB c l = false := by
  rw [List.count_eq_zero]
  unfold hasB
  rw [← Bool.not_eq_true, List.any_eq_true]
  constructor
  · rintro h ⟨x, hx, e⟩; exact h (by have := eq_of_beq e; subst this; exact hx)
  · intro h hx; exact h ⟨c, hx, by simp⟩
theorem split_pos (c : UInt8) (l : List UInt8) (h : pos c l < l.length) : l = l.take (pos c l) ++ c :: l.drop (pos c l + 1) := by
  conv => lhs; rw [← List.take_append_drop (pos c l) l]
  congr 1
  rw [List.drop_eq_getElem_cons h, pos_get c l h]
theorem rep_split (c d : UInt8) (l : List UInt8) (h : pos c l < l.length) : rep c d l = l.take (pos c l) ++ [d] ++ rep c d (l.drop (pos c l + 1)) := by
  conv => lhs; rw [split_pos c l h]
  have h1 := rep_none c d _ (hasB_take c l (pos c l) (Nat.le_refl _))
  unfold rep at h1 ⊢
  rw [List.map_append, h1, List.map_cons]; simp
theorem count_split (c : UInt8) (l : List UInt8) (h : pos c l < l.length) : l.count c = (l.drop (pos c l + 1)).count c + 1 := by
  conv => lhs; rw [split_pos c l h]
  have h1 := (count_none c _).2 (hasB_take c l (pos c l) (Nat.le_refl _))
  rw [List.count_append, h1, List.count_cons]; simp
/-- what 'clean' makes of a text -/
def cleanL (l : List UInt8) (m : Nat) : List UInt8 := (rep 0 48 l).take m
theorem hasB_mono (c : UInt8) (l : List UInt8) (m : Nat) (h : hasB c l = false) : hasB c (l.take m) = false := by
  unfold hasB at *
  rw [← Bool.not_eq_true, List.any_eq_true] at *
  rintro ⟨x, hx, e⟩; exact h ⟨x, List.mem_of_mem_take hx, e⟩
theorem hasB_rep (c d : UInt8) (l : List UInt8) (h : c ≠ d) : hasB c (rep c d l) = false := by
  unfold hasB rep
  rw [← Bool.not_eq_true, List.any_eq_true]
  rintro ⟨x, hx, e⟩
  rw [List.mem_map] at hx
  obtain ⟨y, _, rfl⟩ := hx
  by_cases hy : y = c
  · rw [if_pos hy] at e; exact h (eq_of_beq e).symm
  · rw [if_neg hy] at e; exact hy (eq_of_beq e)
theorem cleanL_has (l : List UInt8) (m : Nat) : hasB 0 (cleanL l m) = false := hasB_mono _ _ _ (hasB_rep 0 48 l (by decide))
theorem cleanL_le (l : List UInt8) (m : Nat) : (cleanL l m).length ≤ m := by unfold cleanL; rw [List.length_take]; omega
end Go.Proofs.YtoikpnjnljdpaaaGreatDoor
/- The drawing of trees: what is drawn; nothing of the program. -/
set_option linter.unusedVariables false
namespace Go.Proofs.YtoikpnjnljdpaaaGreatDoor
open Go.RowKit
def namesL : List (List UInt8) := [[97], [98], [97, 98], [66], [120, 32, 121], [195, 169], [99, 46, 116, 120, 116], List.replicate 60 110, List.replicate 130 109, [97, 33], [45]]
theorem namesL_length : namesL.length = 11 := rfl
def staffL : List UInt8 := [115, 116, 97, 102, 102]
def metaV (r : RawV) : MetaV :=
  { mode := pick r.a 4096
    uid := if pick r.kind 9 = 2 then pick r.b 1125899906842625 else pick r.b 3000
    gid := if pick r.kind 9 = 3 then pick r.a 1125899906842625 else pick r.a 3000
    user := cleanL r.text.data.toList 40
    group := if pick r.kind 9 = 4 then List.replicate (pick r.a 61).toNat 103 else staffL
    second := if pick r.kind 9 = 1 then -(pick r.b 17179869184) - 1 else pick r.b 17179869184
    nano := if pick r.kind 9 = 0 then pick r.a 1000000000 else 0 }
/-- the path that is drawn: a directory, a name -/
def pathT (ds : List (List UInt8)) (r : RawV) : List UInt8 :=
  let d := ds.getD (pick r.b ds.length).toNat []
  (if d = [] then [] else d ++ [47]) ++ namesL.getD (pick r.a 11).toNat []
def dataT (r : RawV) : List UInt8 := Lib.repeatL (cleanL r.text.data.toList 40) (pick r.b 30).toNat
def targT (r : RawV) : List UInt8 := 116 :: Lib.repeatL (cleanL r.text.data.toList 10) (pick r.a 20).toNat
def fileT (p : List UInt8) (r : RawV) : NodeV := ⟨p, 1, 0, [], metaV r, dataT r⟩
/-- one draw: the nodes, the directories -/
def stepT (m : Nat) (st : List NodeV × List (List UInt8)) (r : RawV) : List NodeV × List (List UInt8) :=
  if m ≤ st.1.length then st else
  let p := pathT st.2 r
  if 400 < p.length ∨ (st.1.any fun n => decide (n.path = p)) = true then st else
  let n := fileT p r
  let k := pick r.kind 7
  if k = 0 ∨ k = 1 then (st.1 ++ [{ n with kind := 2, data := [] }], st.2 ++ [p])
  else if k = 2 then (st.1 ++ [{ n with kind := 3, data := [], target := targT r }], st.2)
  else if k = 3 ∨ k = 4 then
    let j := (pick r.a (st.1.length + 1)).toNat
    match st.1[j]? with
    | none => (st.1 ++ [n], st.2)
    | some x => if x.kind = 1 then
        let x' := if x.same = 0 then { x with same := (j : Int) + 1 } else x
        (st.1.set j x' ++ [{ x' with path := p }], st.2)
      else (st.1 ++ [n], st.2)
  else (st.1 ++ [n], st.2)
theorem step_long (m : Nat) (st : List NodeV × List (List UInt8)) (r : RawV) (h : ¬ m ≤ st.1.length) (hp : 400 < (pathT st.2 r).length) : stepT m st r = st := by
  unfold stepT; rw [if_neg h]; simp only; rw [if_pos (.inl hp)]
theorem step_dup (m : Nat) (st : List NodeV × List (List UInt8)) (r : RawV) (h : ¬ m ≤ st.1.length) (hp : (st.1.any fun n => decide (n.path = pathT st.2 r)) = true) : stepT m st r = st := by
  unfold stepT; rw [if_neg h]; simp only; rw [if_pos (.inr hp)]
def treeS (m : Nat) (rs : List RawV) : List NodeV × List (List UInt8) := rs.foldl (stepT m) ([], [[]])
theorem treeS_snoc (m : Nat) (rs : List RawV) (k : Nat) (h : k < rs.length) : treeS m (rs.take (k + 1)) = stepT m (treeS m (rs.take k)) rs[k] := by
  unfold treeS
  rw [List.take_succ_eq_append_getElem h, List.foldl_append]; rfl
theorem step_full (m : Nat) (st : List NodeV × List (List UInt8)) (r : RawV) (h : m ≤ st.1.length) : stepT m st r = st := by
  unfold stepT; rw [if_pos h]
theorem treeS_full (m : Nat) (rs : List RawV) (k : Nat) (h : m ≤ (treeS m (rs.take k)).1.length) : treeS m rs = treeS m (rs.take k) := by
  have e : treeS m rs = (rs.drop k).foldl (stepT m) (treeS m (rs.take k)) := by
    unfold treeS
    conv => lhs; rw [← List.take_append_drop k rs, List.foldl_append]
  rw [e]
  generalize treeS m (rs.take k) = st at h
  induction rs.drop k with
  | nil => rfl
  | cons r l ih => rw [List.foldl_cons, step_full m st r h, ih]
/-- the bounds of a node -/
def Fits (n : NodeV) : Prop := n.path.length ≤ 400 ∧ n.data.length ≤ 1160
end Go.Proofs.YtoikpnjnljdpaaaGreatDoor
/- The trees that are drawn are valid; nothing of the program. -/
set_option linter.unusedVariables false
namespace Go.Proofs.YtoikpnjnljdpaaaGreatDoor
open Go.RowKit
theorem names_ok : ∀ x ∈ namesL, hasB 47 x = false ∧ hasB 0 x = false ∧ nameB x = true := by decide +kernel
theorem name_at (a : Int) : namesL.getD (pick a 11).toNat [] ∈ namesL := by
  have h := pick_bd a 11 (by omega)
  rw [List.getD_eq_getElem?_getD, List.getElem?_eq_getElem (by rw [namesL_length]; omega)]
  exact List.getElem_mem _
theorem hasB_append (c : UInt8) (a b : List UInt8) : hasB c (a ++ b) = (hasB c a || hasB c b) := by simp [hasB]
theorem repeatL_has (c : UInt8) (l : List UInt8) (n : Nat) (h : hasB c l = false) : hasB c (Lib.repeatL l n) = false := by
  induction n with
  | zero => rfl
  | succ n ih =>
    rw [show Lib.repeatL l (n + 1) = l ++ Lib.repeatL l n from rfl, hasB_append, h, ih]; rfl
theorem repeatL_len (l : List UInt8) (n : Nat) : (Lib.repeatL l n).length = l.length * n := by
  induction n with
  | zero => rfl
  | succ n ih => rw [show Lib.repeatL l (n + 1) = l ++ Lib.repeatL l n from rfl, List.length_append, ih, Nat.mul_succ, Nat.add_comm]
theorem metE_draw (r : RawV) : metE (metaV r) = 0 := by
  have m1 := pick_bd r.a 4096 (by omega)
  have u1 := pick_bd r.b 1125899906842625 (by omega)
  have u2 := pick_bd r.b 3000 (by omega)
  have g1 := pick_bd r.a 1125899906842625 (by omega)
  have g2 := pick_bd r.a 3000 (by omega)
  have s1 := pick_bd r.b 17179869184 (by omega)
  have n1 := pick_bd r.a 1000000000 (by omega)
  have k1 := pick_bd r.a 61 (by omega)
  have hu := cleanL_has r.text.data.toList 40
  have hl := cleanL_le r.text.data.toList 40
  have hg : (metaV r).group.length ≤ 60 ∧ hasB 0 (metaV r).group = false := by
    unfold metaV
    simp only
    split
    · refine ⟨by rw [List.length_replicate]; omega, ?_⟩
      rw [hasB_mem]; intro x hx; rw [(List.mem_replicate.1 hx).2]; decide
    · exact ⟨by decide, by decide⟩
  rw [metE_time]
  · unfold inE
    rw [if_pos (inT_mk _)]
    unfold metaV
    simp only
    refine ⟨?_, ?_, ?_, ?_⟩ <;> split <;> omega
  · unfold metaV
    simp only [Bool.and_eq_true]
    refine ⟨⟨mdB_yes (by omega), idB_yes ?_⟩, idB_yes ?_⟩ <;> split <;> omega
  · have : (metaV r).user.length ≤ 40 := hl
    omega
  · rw [hg.2, Bool.or_false]; exact hu
theorem data_len (r : RawV) : (dataT r).length ≤ 1160 := by
  have h := pick_bd r.b 30 (by omega)
  have hl := cleanL_le r.text.data.toList 40
  unfold dataT
  rw [repeatL_len]
  calc _ ≤ 40 * 29 := Nat.mul_le_mul hl (by omega)
    _ ≤ 1160 := by decide
theorem targ_ok (r : RawV) : (targT r).length ≤ 400 ∧ hasB 0 (targT r) = false ∧ targT r ≠ [] := by
  have h := pick_bd r.a 20 (by omega)
  have hl := cleanL_le r.text.data.toList 10
  refine ⟨?_, ?_, by unfold targT; simp⟩
  · unfold targT
    rw [List.length_cons, repeatL_len]
    have : (cleanL r.text.data.toList 10).length * (pick r.a 20).toNat ≤ 10 * 19 := Nat.mul_le_mul hl (by omega)
    omega
  · unfold targT
    rw [hasB_cons, repeatL_has 0 _ _ (cleanL_has _ _)]; rfl
/-- the path that is drawn -/
theorem path_draw (d name : List UInt8) (hd : d = [] ∨ pathE d = 0) (hn : name ∈ namesL) (hl : ¬ 400 < ((if d = [] then [] else d ++ [47]) ++ name).length) :
    pathE ((if d = [] then [] else d ++ [47]) ++ name) = 0 ∧ upL ((if d = [] then [] else d ++ [47]) ++ name) = d := by
  obtain ⟨h1, h2, h3⟩ := names_ok name hn
  have hne : name ≠ [] := by intro e; rw [e] at h3; exact absurd h3 (by decide)
  have hpos : 1 ≤ name.length := by
    cases name with
    | nil => exact absurd rfl hne
    | cons a l => simp
  by_cases e : d = []
  · subst e
    rw [if_pos rfl, List.nil_append] at hl ⊢
    refine ⟨pathE_ok (by omega) h2 ?_, (up_base_none name h1).1⟩
    rw [partsL_none 47 name h1]; simp [h3]
  · rw [if_neg e] at hl ⊢
    have hpd : pathE d = 0 := by
      rcases hd with h | h
      · exact absurd h e
      · exact h
    have hz : hasB 0 d = false ∧ (partsL 47 d).all nameB = true := by
      unfold pathE at hpd
      split at hpd
      · exact absurd hpd (by decide)
      · split at hpd
        · exact absurd hpd (by decide)
        · rename_i hh
          split at hpd
          · rename_i ha; exact ⟨by simpa using hh, ha⟩
          · exact absurd hpd (by decide)
    have ee : d ++ [47] ++ name = d ++ 47 :: name := by simp
    rw [ee] at hl ⊢
    refine ⟨pathE_ok (by rw [List.length_append, List.length_cons] at *; omega) ?_ ?_, (up_base_at _ d name h1 rfl).1⟩
    · rw [hasB_append, hz.1, hasB_cons, h2]; rfl
    · rw [partsL_app, List.all_append, hz.2, partsL_none 47 name h1]; simp [h3]
/-- the state of the draw -/
structure Drawn (ns : List NodeV) (ds : List (List UInt8)) : Prop where
  dirs : ∀ d ∈ ds, d = [] ∨ (pathE d = 0 ∧ ∃ n ∈ ns, n.path = d ∧ n.kind = 2)
  some : ds ≠ []
  node : ∀ n ∈ ns, nodE n = 0
  up : ∀ n ∈ ns, upL n.path = [] ∨ ∃ x ∈ ns, x.path = upL n.path ∧ x.kind = 2
  apart : (ns.map NodeV.path).Pairwise (· ≠ ·)
  first : ∀ x ∈ ns, x.same ≠ 0 → ∃ j, ∃ hj : j < ns.length, x.same = (j : Int) + 1 ∧ ns[j].same = (j : Int) + 1 ∧ ns[j].md = x.md ∧ ns[j].data = x.data
  plain : ∀ x ∈ ns, x.same ≠ 0 → x.kind = 1
theorem drawn_nil : Drawn [] [[]] := ⟨fun d hd => .inl (by simpa using hd), by simp, fun n h => by simp at h, fun n h => by simp at h, List.Pairwise.nil, fun n h => by simp at h, fun n h => by simp at h⟩
/-- a new node that is of no file met -/
theorem Drawn.push {ns : List NodeV} {ds : List (List UInt8)} (h : Drawn ns ds) {n : NodeV} {ds' : List (List UInt8)} (he : nodE n = 0) (hs : n.same = 0) (hu : upL n.path = [] ∨ ∃ x ∈ ns, x.path = upL n.path ∧ x.kind = 2)
    (ha : ∀ x ∈ ns, x.path ≠ n.path) (hd : ds' = ds ∨ (ds' = ds ++ [n.path] ∧ n.kind = 2 ∧ pathE n.path = 0)) : Drawn (ns ++ [n]) ds' := by
  refine ⟨fun d hd' => ?_, ?_, fun x hx => ?_, fun x hx => ?_, ?_, fun x hx hne => ?_, fun x hx hne => ?_⟩
  · have old : d ∈ ds → d = [] ∨ (pathE d = 0 ∧ ∃ y ∈ ns ++ [n], y.path = d ∧ y.kind = 2) := fun hm => by
      rcases h.dirs d hm with e | ⟨e, y, hy, e2⟩
      · exact .inl e
      · exact .inr ⟨e, y, List.mem_append_left _ hy, e2⟩
    rcases hd with rfl | ⟨rfl, hk, hp⟩
    · exact old hd'
    · rcases List.mem_append.1 hd' with a | a
      · exact old a
      · obtain rfl : d = n.path := by simpa using a
        exact .inr ⟨hp, n, by simp, rfl, hk⟩
  · rcases hd with rfl | ⟨rfl, -⟩
    · exact h.some
    · simp
  · rcases List.mem_append.1 hx with a | a
    · exact h.node x a
    · obtain rfl : x = n := by simpa using a
      exact he
  · have hu' : upL n.path = [] ∨ ∃ x ∈ ns ++ [n], x.path = upL n.path ∧ x.kind = 2 := by
      rcases hu with e | ⟨y, hy, e⟩
      · exact .inl e
      · exact .inr ⟨y, List.mem_append_left _ hy, e⟩
    rcases List.mem_append.1 hx with a | a
    · rcases h.up x a with e | ⟨y, hy, e⟩
      · exact .inl e
      · exact .inr ⟨y, List.mem_append_left _ hy, e⟩
    · obtain rfl : x = n := by simpa using a
      exact hu'
  · rw [List.map_append, List.pairwise_append]
    refine ⟨h.apart, List.pairwise_singleton _ _, fun x hx y hy => ?_⟩
    obtain rfl : y = n.path := by simpa using hy
    obtain ⟨z, hz, rfl⟩ := List.mem_map.1 hx
    exact ha z hz
  · rcases List.mem_append.1 hx with a | a
    · obtain ⟨j, hj, e1, e2, e3⟩ := h.first x a hne
      exact ⟨j, by rw [List.length_append]; omega, e1, by rw [List.getElem_append_left hj]; exact e2, by rw [List.getElem_append_left hj]; exact e3⟩
    · obtain rfl : x = n := by simpa using a
      exact absurd hs hne
  · rcases List.mem_append.1 hx with a | a
    · exact h.plain x a hne
    · obtain rfl : x = n := by simpa using a
      exact absurd hs hne
theorem nodK_one {n : NodeV} (h : nodE n = 0) (hk : n.kind = 1) : n.target = [] ∧ 0 ≤ n.same ∧ n.data.length ≤ 2000 ∧ pathE n.path = 0 ∧ metE n.md = 0 := by
  by_cases h1 : pathE n.path = 0
  · by_cases h2 : metE n.md = 0
    · rw [nodE_kind h1 h2] at h
      unfold nodK at h
      rw [if_pos hk] at h
      by_cases h3 : n.target ≠ [] ∨ n.same < 0
      · rw [if_pos h3] at h; exact absurd h (by decide)
      · rw [if_neg h3] at h
        by_cases h4 : 2000 < n.data.length
        · rw [if_pos h4] at h; exact absurd h (by decide)
        · refine ⟨Classical.byContradiction fun e => h3 (.inl e), ?_, by omega, h1, h2⟩
          rcases Int.lt_or_le n.same 0 with e | e
          · exact absurd (.inr e) h3
          · exact e
    · rw [nodE_meta h1 h2] at h; exact absurd h h2
  · rw [nodE_path h1] at h; exact absurd h h1
theorem nodE_one {n : NodeV} (hk : n.kind = 1) (ht : n.target = []) (hs : 0 ≤ n.same) (hd : n.data.length ≤ 2000) (hp : pathE n.path = 0) (hm : metE n.md = 0) : nodE n = 0 := by
  rw [nodE_kind hp hm]
  unfold nodK
  rw [if_pos hk, if_neg (by rintro (e | e); exact e ht; omega), if_neg (by omega)]
/-- one more name of a file -/
theorem Drawn.name {ns : List NodeV} {ds : List (List UInt8)} (h : Drawn ns ds) {j : Nat} (hj : j < ns.length) (hk : ns[j].kind = 1) {x' : NodeV} (hx' : x' = if ns[j].same = 0 then { ns[j] with same := (j : Int) + 1 } else ns[j])
    {p : List UInt8} (hp : pathE p = 0) (hu : upL p = [] ∨ ∃ x ∈ ns, x.path = upL p ∧ x.kind = 2) (ha : ∀ x ∈ ns, x.path ≠ p) : Drawn (ns.set j x' ++ [{ x' with path := p }]) ds := by
  have e1 : x'.path = ns[j].path ∧ x'.kind = 1 ∧ x'.md = ns[j].md ∧ x'.data = ns[j].data ∧ x'.target = ns[j].target ∧ x'.same ≠ 0 ∧ 0 ≤ x'.same := by
    have := nodK_one (h.node _ (List.getElem_mem hj)) hk
    rw [hx']
    by_cases e : ns[j].same = 0
    · rw [if_pos e]; exact ⟨rfl, hk, rfl, rfl, rfl, by show (j : Int) + 1 ≠ 0; omega, by show 0 ≤ (j : Int) + 1; omega⟩
    · rw [if_neg e]; exact ⟨rfl, hk, rfl, rfl, rfl, e, this.2.1⟩
  obtain ⟨p1, p2, p3, p4, p5, p6, p7⟩ := e1
  obtain ⟨q1, q2, q3, q4, q5⟩ := nodK_one (h.node _ (List.getElem_mem hj)) hk
  have stay : ∀ y ∈ ns, y.kind = 2 → y ∈ ns.set j x' := by
    intro y hy hky
    obtain ⟨i, hi, rfl⟩ := List.getElem_of_mem hy
    have hij : j ≠ i := by rintro rfl; rw [hk] at hky; exact absurd hky (by decide)
    have e : (ns.set j x')[i]'(by rw [List.length_set]; exact hi) = ns[i] := List.getElem_set_ne hij _
    rw [← e]; exact List.getElem_mem _
  have hfirst : ∀ (s : Int) (md : MetaV) (dt : List UInt8), (∃ i : Nat, ∃ hi : i < ns.length, s = (i : Int) + 1 ∧ ns[i].same = (i : Int) + 1 ∧ ns[i].md = md ∧ ns[i].data = dt) →
      ∃ i : Nat, ∃ hi : i < (ns.set j x' ++ [{ x' with path := p }]).length, s = (i : Int) + 1 ∧ (ns.set j x' ++ [{ x' with path := p }])[i].same = (i : Int) + 1 ∧ (ns.set j x' ++ [{ x' with path := p }])[i].md = md ∧ (ns.set j x' ++ [{ x' with path := p }])[i].data = dt := by
    rintro s md dt ⟨i, hi, e1, e2, e3, e4⟩
    have hi2 : i < (ns.set j x').length := by rw [List.length_set]; exact hi
    refine ⟨i, by rw [List.length_append]; omega, e1, ?_⟩
    rw [List.getElem_append_left hi2]
    by_cases hij : j = i
    · subst hij
      rw [List.getElem_set_self, hx', if_neg (by omega)]
      exact ⟨e2, e3, e4⟩
    · rw [List.getElem_set_ne hij]; exact ⟨e2, e3, e4⟩
  have hnew : ∃ i : Nat, ∃ hi : i < (ns.set j x' ++ [{ x' with path := p }]).length, x'.same = (i : Int) + 1 ∧ (ns.set j x' ++ [{ x' with path := p }])[i].same = (i : Int) + 1 ∧ (ns.set j x' ++ [{ x' with path := p }])[i].md = x'.md ∧ (ns.set j x' ++ [{ x' with path := p }])[i].data = x'.data := by
    by_cases e : ns[j].same = 0
    · have hj2 : j < (ns.set j x').length := by rw [List.length_set]; exact hj
      refine ⟨j, by rw [List.length_append]; omega, by rw [hx', if_pos e], ?_⟩
      rw [List.getElem_append_left hj2, List.getElem_set_self]
      exact ⟨by rw [hx', if_pos e], rfl, rfl⟩
    · have e3 : x'.same = ns[j].same := by rw [hx', if_neg e]
      exact hfirst x'.same x'.md x'.data (by rw [e3, p3, p4]; exact h.first _ (List.getElem_mem hj) e)
  refine ⟨fun d hd => ?_, h.some, fun x hx => ?_, fun x hx => ?_, ?_, fun x hx hne => ?_, fun x hx hne => ?_⟩
  · rcases h.dirs d hd with e | ⟨e, y, hy, e2, e3⟩
    · exact .inl e
    · exact .inr ⟨e, y, List.mem_append_left _ (stay y hy e3), e2, e3⟩
  · rcases List.mem_append.1 hx with a | a
    · rcases List.mem_or_eq_of_mem_set a with b | b
      · exact h.node x b
      · subst b
        exact nodE_one p2 (by rw [p5, q1]) p7 (by rw [p4]; exact q3) (by rw [p1]; exact q4) (by rw [p3]; exact q5)
    · obtain rfl : x = { x' with path := p } := by simpa using a
      exact nodE_one p2 (show x'.target = [] by rw [p5, q1]) p7 (show x'.data.length ≤ 2000 by rw [p4]; exact q3) hp (show metE x'.md = 0 by rw [p3]; exact q5)
  · have lift : ∀ q : List UInt8, (upL q = [] ∨ ∃ y ∈ ns, y.path = upL q ∧ y.kind = 2) → upL q = [] ∨ ∃ y ∈ ns.set j x' ++ [{ x' with path := p }], y.path = upL q ∧ y.kind = 2 := by
      rintro q (e | ⟨y, hy, e2, e3⟩)
      · exact .inl e
      · exact .inr ⟨y, List.mem_append_left _ (stay y hy e3), e2, e3⟩
    rcases List.mem_append.1 hx with a | a
    · rcases List.mem_or_eq_of_mem_set a with b | b
      · exact lift _ (h.up x b)
      · subst b
        exact lift _ (by rw [p1]; exact h.up _ (List.getElem_mem hj))
    · obtain rfl : x = { x' with path := p } := by simpa using a
      exact lift _ hu
  · have em : (ns.set j x').map NodeV.path = ns.map NodeV.path := by
      rw [List.map_set, p1]
      apply List.ext_getElem
      · simp
      · intro i h1 h2
        rw [List.getElem_set]
        split
        · rename_i e; subst e; simp
        · rfl
    rw [List.map_append, em, List.pairwise_append]
    refine ⟨h.apart, List.pairwise_singleton _ _, fun x hx y hy => ?_⟩
    obtain rfl : y = p := by simpa using hy
    obtain ⟨z, hz, rfl⟩ := List.mem_map.1 hx
    exact ha z hz
  · rcases List.mem_append.1 hx with a | a
    · rcases List.mem_or_eq_of_mem_set a with b | b
      · exact hfirst _ _ _ (h.first x b hne)
      · subst b; exact hnew
    · obtain rfl : x = { x' with path := p } := by simpa using a
      exact hnew
  · rcases List.mem_append.1 hx with a | a
    · rcases List.mem_or_eq_of_mem_set a with b | b
      · exact h.plain x b hne
      · subst b; exact p2
    · obtain rfl : x = { x' with path := p } := by simpa using a
      exact p2
/-- one draw -/
theorem Drawn.step {ns : List NodeV} {ds : List (List UInt8)} (h : Drawn ns ds) (m : Nat) (r : RawV) : Drawn (stepT m (ns, ds) r).1 (stepT m (ns, ds) r).2 := by
  unfold stepT
  by_cases hm : m ≤ ns.length
  · rw [if_pos hm]; exact h
  rw [if_neg hm]
  simp only
  by_cases hp : 400 < (pathT ds r).length ∨ (ns.any fun n => decide (n.path = pathT ds r)) = true
  · rw [if_pos hp]; exact h
  rw [if_neg hp]
  have ha : ∀ x ∈ ns, x.path ≠ pathT ds r := fun x hx e => hp (.inr (List.any_eq_true.2 ⟨x, hx, by simpa using e⟩))
  have hpos : 1 ≤ ds.length := by
    rcases hds : ds with _ | ⟨a, l⟩
    · exact absurd hds h.some
    · simp
  have hb := pick_bd r.b ds.length (by omega)
  have hdm : ds.getD (pick r.b ds.length).toNat [] ∈ ds := by
    rw [List.getD_eq_getElem?_getD, List.getElem?_eq_getElem (by omega)]
    exact List.getElem_mem _
  have hdir := h.dirs _ hdm
  have hpath := path_draw (ds.getD (pick r.b ds.length).toNat []) (namesL.getD (pick r.a 11).toNat []) (by rcases hdir with e | ⟨e, -⟩; exact .inl e; exact .inr e) (name_at r.a) (fun e => hp (.inl e))
  have hpe : pathE (pathT ds r) = 0 := hpath.1
  have hup : upL (pathT ds r) = [] ∨ ∃ x ∈ ns, x.path = upL (pathT ds r) ∧ x.kind = 2 := by
    have e : upL (pathT ds r) = ds.getD (pick r.b ds.length).toNat [] := hpath.2
    rw [e]
    rcases hdir with e | ⟨-, y, hy, e2⟩
    · exact .inl e
    · exact .inr ⟨y, hy, e2⟩
  have hfile : nodE (fileT (pathT ds r) r) = 0 := nodE_one rfl rfl (Int.le_refl 0) (by have := data_len r; show (dataT r).length ≤ 2000; omega) hpe (metE_draw r)
  have one : Drawn (ns ++ [fileT (pathT ds r) r]) ds := h.push hfile rfl hup ha (.inl rfl)
  obtain ⟨t1, t2, t3⟩ := targ_ok r
  split
  · refine h.push ?_ rfl hup ha (.inr ⟨rfl, rfl, hpe⟩)
    rw [nodE_kind hpe (metE_draw r)]
    rfl
  · split
    · refine h.push ?_ rfl hup ha (.inl rfl)
      rw [nodE_kind hpe (metE_draw r)]
      unfold nodK
      simp only [fileT]
      rw [if_neg (by decide), if_pos (by decide), if_neg (by simp [t2, t3]), if_neg (by omega)]
    · split
      · cases hx : ns[(pick r.a (ns.length + 1)).toNat]? with
        | none => exact one
        | some x =>
          obtain ⟨hj, rfl⟩ := List.getElem?_eq_some_iff.1 hx
          simp only
          split
          · rename_i hk
            exact h.name hj hk rfl hpe hup ha
          · exact one
      · exact one
theorem drawn_all (m : Nat) (rs : List RawV) : Drawn (treeS m rs).1 (treeS m rs).2 := by
  unfold treeS
  suffices key : ∀ (st : List NodeV × List (List UInt8)), Drawn st.1 st.2 → Drawn (rs.foldl (stepT m) st).1 (rs.foldl (stepT m) st).2 from key _ drawn_nil
  induction rs with
  | nil => intro st h; exact h
  | cons r rs ih => intro st h; rw [List.foldl_cons]; exact ih _ (h.step m r)
theorem step_len (m : Nat) (st : List NodeV × List (List UInt8)) (r : RawV) (h : st.1.length ≤ m) : (stepT m st r).1.length ≤ m := by
  unfold stepT
  by_cases hm : m ≤ st.1.length
  · rw [if_pos hm]; exact h
  rw [if_neg hm]
  simp only
  repeat' split
  all_goals first | exact h | (simp only [List.length_append, List.length_cons, List.length_nil, List.length_set]; omega)
theorem drawn_len (m : Nat) (rs : List RawV) : (treeS m rs).1.length ≤ m := by
  unfold treeS
  suffices key : ∀ (st : List NodeV × List (List UInt8)), st.1.length ≤ m → (rs.foldl (stepT m) st).1.length ≤ m from key _ (Nat.zero_le _)
  induction rs with
  | nil => intro st h; exact h
  | cons r rs ih => intro st h; rw [List.foldl_cons]; exact ih _ (step_len m st r h)
/-- in the order of paths they are a tree -/
theorem drawn_sound {m : Nat} {rs : List RawV} {l : List NodeV} (hp : l.Perm (treeS m rs).1) (hs : ∀ i j (hi : i < j) (hj : j < l.length), pcmp (l[i]'(by omega)).path l[j].path ≤ 0) : l.length ≤ m ∧ Sound l := by
  have h := drawn_all m rs
  have hlen := hp.length_eq
  have hdist : (l.map NodeV.path).Pairwise (· ≠ ·) := (hp.map NodeV.path).symm.pairwise h.apart (fun h => h.symm)
  refine ⟨by rw [hlen]; exact drawn_len m rs, ?_, fun n hn => h.node n (hp.mem_iff.1 hn), fun n hn => ?_, fun x hx y hy e hne => ?_⟩
  · refine List.pairwise_iff_getElem.2 fun i j hi hj hij => ?_
    have h1 := hs i j hij hj
    have h2 := (List.pairwise_iff_getElem.1 hdist) i j (by simpa using hi) (by simpa using hj) hij
    rw [List.getElem_map, List.getElem_map] at h2
    have h3 := pcmp_bd l[i].path l[j].path
    have h4 : pcmp l[i].path l[j].path ≠ 0 := fun e => h2 ((pcmp_zero _ _).1 e)
    omega
  · rcases h.up n (hp.mem_iff.1 hn) with e | ⟨d, hd, e⟩
    · exact .inl e
    · exact .inr ⟨d, hp.mem_iff.2 hd, e⟩
  · obtain ⟨i, hi, a1, a2, a3, a4⟩ := h.first x (hp.mem_iff.1 hx) hne
    obtain ⟨k, hk, b1, b2, b3, b4⟩ := h.first y (hp.mem_iff.1 hy) (by rw [← e]; exact hne)
    obtain rfl : i = k := by omega
    exact ⟨by rw [← a3, b3], by rw [← a4, b4]⟩
end Go.Proofs.YtoikpnjnljdpaaaGreatDoor
