/- Texts of one kind, in one file: DayM, FldM, TiM, StpM, ModM, MetV, PthM, PrtM, SplM, NodM, NodN, LnkM, LnkN, EntM, CutM, RecM, RecN, PaxM, HedM, PadM, MemM, PaxN, HedN, MemN, LinM, NearM, OrdM, MemO, MemR, RepM, TreP, TreQ, MemE. -/
import Derived.Test.YtdcbmjihpjnbbaaDoorNum
import Derived.Lib.Bytealg
import Derived.Lib.ItoaMem
import Derived.Lib.TrimByte
import Derived.Lib.AtoiTie
import Derived.Lib.SplitLaws
import Derived.Lib.LastIndexByte
import Derived.Lib.Join
import Derived.Lib.IndexBytes
import Derived.Lib.Strings
import Derived.Test.YtdcbmjihpjnbbaaDoorBlk
import Derived.Lib.Repeat
/- Plain mathematics of dates: a date has one number, a number one date. Nothing of the program. (Stage 20, ahead.) -/
set_option linter.unusedVariables false
namespace Go.Proofs.YtdcbmjihpjnbbaaDoor
open Go.RowKit
/-- is a year a leap year -/
def leapY (y : Int) : Bool := y % 4 == 0 && (y % 100 != 0 || y % 400 == 0)
theorem leapY_iff (y : Int) : leapY y = true ↔ y % 4 = 0 ∧ (y % 100 ≠ 0 ∨ y % 400 = 0) := by
  unfold leapY
  simp [bne_iff_ne]
/-- one day more in a leap year -/
def leapN (y : Int) : Int := if leapY y = true then 1 else 0
theorem leapN_cases (y : Int) : (leapN y = 1 ∧ y % 4 = 0 ∧ (y % 100 ≠ 0 ∨ y % 400 = 0)) ∨ (leapN y = 0 ∧ ¬ (y % 4 = 0 ∧ (y % 100 ≠ 0 ∨ y % 400 = 0))) := by
  unfold leapN
  by_cases h : leapY y = true
  · rw [if_pos h]; exact .inl ⟨rfl, (leapY_iff y).1 h⟩
  · rw [if_neg h]; exact .inr ⟨rfl, fun e => h ((leapY_iff y).2 e)⟩
/-- the first day of a year; 1970 begins with 0 -/
def begY (y : Int) : Int := 365 * (y - 1970) + ((y - 1) / 4 - (y - 1) / 100 + (y - 1) / 400 - 477)
theorem begY_1970 : begY 1970 = 0 := by decide
theorem begY_next (y : Int) : begY (y + 1) = begY y + 365 + leapN y := by
  unfold begY
  rcases leapN_cases y with ⟨e, h⟩ | ⟨e, h⟩ <;> rw [e] <;> omega
theorem begY_lt {y z : Int} (h : y < z) : begY y + 365 + leapN y ≤ begY z := by
  rw [← begY_next]
  unfold begY
  omega
theorem begY_round (y : Int) : begY (y + 400) = begY y + 146097 := by
  unfold begY
  omega
theorem leapN_bd (y : Int) : 0 ≤ leapN y ∧ leapN y ≤ 1 := by rcases leapN_cases y with ⟨e, -⟩ | ⟨e, -⟩ <;> omega
/-- how many days a month has; x: one more in February -/
def lenM (x m : Int) : Int := if m = 2 then 28 + x else if m = 4 ∨ m = 6 ∨ m = 9 ∨ m = 11 then 30 else 31
/-- the first day of a month in its year -/
def begM (x m : Int) : Int :=
  if m ≤ 1 then 0 else if m = 2 then 31 else
    x + (if m = 3 then 59 else if m = 4 then 90 else if m = 5 then 120 else if m = 6 then 151 else if m = 7 then 181 else if m = 8 then 212 else if m = 9 then 243 else if m = 10 then 273 else if m = 11 then 304 else if m = 12 then 334 else 365)
theorem month_cases {m : Int} (h1 : 1 ≤ m) (h2 : m ≤ 12) : m = 1 ∨ m = 2 ∨ m = 3 ∨ m = 4 ∨ m = 5 ∨ m = 6 ∨ m = 7 ∨ m = 8 ∨ m = 9 ∨ m = 10 ∨ m = 11 ∨ m = 12 := by omega
theorem begM_one (x : Int) : begM x 1 = 0 := rfl
theorem begM_next (x m : Int) (h1 : 1 ≤ m) (h2 : m ≤ 12) : begM x (m + 1) = begM x m + lenM x m := by
  rcases month_cases h1 h2 with rfl | rfl | rfl | rfl | rfl | rfl | rfl | rfl | rfl | rfl | rfl | rfl <;> simp [begM, lenM] <;> omega
theorem begM_end (x : Int) : begM x 13 = 365 + x := by simp [begM]; omega
theorem lenM_bd (x m : Int) (hx : 0 ≤ x ∧ x ≤ 1) : 28 ≤ lenM x m ∧ lenM x m ≤ 31 := by
  unfold lenM
  split
  · omega
  · split <;> omega
theorem begM_lt (x : Int) (hx : 0 ≤ x ∧ x ≤ 1) {m k : Int} (h1 : 1 ≤ m) (h2 : m < k) (h3 : k ≤ 13) : begM x m + lenM x m ≤ begM x k := by
  obtain ⟨n, rfl⟩ : ∃ n : Nat, k = m + 1 + n := ⟨(k - m - 1).toNat, by omega⟩
  induction n with
  | zero => rw [← begM_next x m h1 (by omega)]; simp
  | succ n ih =>
    have h := ih (by omega) (by omega)
    have h4 := begM_next x (m + 1 + (n : Int)) (by omega) (by omega)
    have h5 := lenM_bd x (m + 1 + (n : Int)) hx
    have e : m + 1 + ((n + 1 : Nat) : Int) = m + 1 + (n : Int) + 1 := by omega
    rw [e, h4]; omega
/-- the number of a date -/
def dayN (y m d : Int) : Int := begY y + begM (leapN y) m + d - 1
/-- is there such a date -/
def okD (y m d : Int) : Prop := 1 ≤ m ∧ m ≤ 12 ∧ 1 ≤ d ∧ d ≤ lenM (leapN y) m
theorem okD_in {y m d : Int} (h : okD y m d) : begY y ≤ dayN y m d ∧ dayN y m d < begY y + 365 + leapN y := by
  obtain ⟨h1, h2, h3, h4⟩ := h
  have hx := leapN_bd y
  have a := begM_lt (leapN y) hx h1 (show m < 13 by omega) (by omega)
  rw [begM_end] at a
  have b : 0 ≤ begM (leapN y) m := by
    by_cases e : m = 1
    · subst e; exact Int.le_refl _
    · have := begM_lt (leapN y) hx (show (1 : Int) ≤ 1 by omega) (show 1 < m by omega) (by omega)
      have := lenM_bd (leapN y) 1 hx
      rw [begM_one] at *
      omega
  unfold dayN
  omega
/-- A NUMBER HAS ONE DATE -/
theorem date_one {y m d y' m' d' : Int} (h : okD y m d) (h' : okD y' m' d') (e : dayN y m d = dayN y' m' d') : y = y' ∧ m = m' ∧ d = d' := by
  have a := okD_in h
  have b := okD_in h'
  have hy : y = y' := by
    apply Classical.byContradiction
    intro hne
    rcases Int.lt_or_gt_of_ne hne with hl | hl
    · have := begY_lt hl; omega
    · have := begY_lt hl; omega
  subst hy
  obtain ⟨h1, h2, h3, h4⟩ := h
  obtain ⟨g1, g2, g3, g4⟩ := h'
  have hx := leapN_bd y
  have hm : m = m' := by
    apply Classical.byContradiction
    intro hne
    unfold dayN at e
    rcases Int.lt_or_gt_of_ne hne with hl | hl
    · have := begM_lt (leapN y) hx h1 hl (by omega); omega
    · have := begM_lt (leapN y) hx g1 hl (by omega); omega
  subst hm
  unfold dayN at e
  exact ⟨rfl, rfl, by omega⟩
theorem okD_bd {y m d : Int} (h : okD y m d) : 1 ≤ m ∧ m ≤ 12 ∧ 1 ≤ d ∧ d ≤ 31 := by
  obtain ⟨h1, h2, h3, h4⟩ := h
  have := lenM_bd (leapN y) m (leapN_bd y)
  exact ⟨h1, h2, h3, by omega⟩
theorem okD_year {y m d : Int} (h : okD y m d) (h1 : -12725830 ≤ dayN y m d) (h2 : dayN y m d ≤ 12725830) : -40000 ≤ y ∧ y ≤ 40000 := by
  have h3 := okD_in h
  have h4 := leapN_bd y
  unfold begY at h3
  omega
end Go.Proofs.YtdcbmjihpjnbbaaDoor
/- Plain mathematics of string fields; nothing of the program. -/
set_option linter.unusedVariables false
namespace Go.Proofs.YtdcbmjihpjnbbaaDoor
open Go.RowKit
/-- how many bytes stand ahead of the first byte c (all of them, where c does not occur) -/
def pos (c : UInt8) (l : List UInt8) : Nat := (l.takeWhile (· != c)).length
def hasB (c : UInt8) (l : List UInt8) : Bool := l.any (· == c)
theorem pos_cons (c a : UInt8) (l : List UInt8) : pos c (a :: l) = if a = c then 0 else pos c l + 1 := by
  unfold pos
  rw [List.takeWhile_cons]
  by_cases h : a = c <;> simp [h]
theorem hasB_cons (c a : UInt8) (l : List UInt8) : hasB c (a :: l) = ((a == c) || hasB c l) := rfl
theorem pos_le (c : UInt8) (l : List UInt8) : pos c l ≤ l.length := by
  induction l with
  | nil => exact Nat.le_refl _
  | cons a l ih => rw [pos_cons, List.length_cons]; split <;> omega
theorem hasB_pos (c : UInt8) (l : List UInt8) : hasB c l = decide (pos c l < l.length) := by
  induction l with
  | nil => rfl
  | cons a l ih =>
    rw [hasB_cons, pos_cons, ih, List.length_cons, Bool.eq_iff_iff]
    by_cases h : a = c
    · simp [h]
    · simp [h]
theorem indexByte_pos (c : UInt8) (l : List UInt8) : Lib.indexByte l c = if hasB c l = true then (pos c l : Int) else -1 := by
  induction l with
  | nil => rfl
  | cons a l ih =>
    rw [Lib.indexByte, ih, hasB_cons, pos_cons]
    by_cases h : a = c
    · simp [h]
    · have h' : (a == c) = false := by simpa using h
      by_cases hb : hasB c l = true
      · simp [h, h', hb]
        try omega
      · simp [h', hb]
theorem pos_get (c : UInt8) (l : List UInt8) (h : pos c l < l.length) : l[pos c l] = c := by
  induction l with
  | nil => exact absurd h (by simp)
  | cons a l ih =>
    by_cases e : a = c
    · have : pos c (a :: l) = 0 := by rw [pos_cons, if_pos e]
      simp only [this]; exact e
    · have hp : pos c (a :: l) = pos c l + 1 := by rw [pos_cons, if_neg e]
      have h' : pos c l < l.length := by rw [hp, List.length_cons] at h; omega
      have := ih h'
      simp [hp, this]
theorem pos_ne (c : UInt8) (l : List UInt8) (k : Nat) (h : k < pos c l) (hk : k < l.length) : l[k] ≠ c := by
  induction l generalizing k with
  | nil => exact absurd hk (by simp)
  | cons a l ih =>
    by_cases e : a = c
    · rw [pos_cons, if_pos e] at h; omega
    · rw [pos_cons, if_neg e] at h
      cases k with
      | zero => simpa using e
      | succ k => simpa using ih k (by omega) (by simpa using hk)
theorem pos_stop (c : UInt8) (l : List UInt8) (k : Nat) (h : k ≤ pos c l) (hk : k < l.length) (e : l[k] = c) : pos c l = k := by
  rcases Nat.lt_or_eq_of_le h with h' | h'
  · exact absurd e (pos_ne c l k h' hk)
  · exact h'.symm
theorem pos_step (c : UInt8) (l : List UInt8) (k : Nat) (h : k ≤ pos c l) (hk : k < l.length) (e : l[k] ≠ c) : k + 1 ≤ pos c l := by
  rcases Nat.lt_or_eq_of_le h with h' | h'
  · exact h'
  · subst h'; exact absurd (pos_get c l hk) e
theorem hasB_app (c : UInt8) (a b : List UInt8) : hasB c (a ++ b) = (hasB c a || hasB c b) := by simp [hasB]
theorem hasB_take (c : UInt8) (l : List UInt8) (k : Nat) (h : k ≤ pos c l) : hasB c (l.take k) = false := by
  rw [hasB_pos]
  have h2 := pos_le c l
  have : ¬ pos c (l.take k) < (l.take k).length := by
    intro h1
    have hlen : (l.take k).length = k := by rw [List.length_take]; omega
    have e := pos_get c _ h1
    rw [List.getElem_take] at e
    exact pos_ne c l _ (by omega) (by omega) e
  exact decide_eq_false this
/-- all bytes are 0 -/
def allZ (l : List UInt8) : Bool := l.all (· == 0)
/-- a bytes' list as a Go string -/
def bs (l : List UInt8) : ByteArray := ⟨l.toArray⟩
theorem bs_list (l : List UInt8) : (bs l).data.toList = l := rfl
theorem bs_size (l : List UInt8) : (bs l).size = l.length := rfl
theorem bs_of (s : ByteArray) : bs s.data.toList = s := by apply ByteArray.ext; simp [bs]
/-- a text of n bytes 0 -/
def zer (n : Nat) : ByteArray := ⟨(List.replicate n (0 : UInt8)).toArray⟩
/-- what is written for a text: the field, the error -/
def fldW (l : List UInt8) (x : Int) (whole : Bool) : ByteArray × Int :=
  if x < 1 ∨ 512 < x then (⟨#[]⟩, 4)
  else if x < l.length ∨ (whole = false ∧ x = l.length) then (⟨#[]⟩, 1)
  else if hasB 0 l = true then (⟨#[]⟩, 3)
  else (⟨(l ++ List.replicate (x.toNat - l.length) 0).toArray⟩, 0)
/-- what a field reads as: the text, the error -/
def fldR (l : List UInt8) (whole : Bool) : ByteArray × Int :=
  if l.length < 1 ∨ 512 < l.length then (⟨#[]⟩, 4)
  else if (whole = false ∧ pos 0 l = l.length) ∨ allZ (l.drop (pos 0 l)) = false then (⟨#[]⟩, 3)
  else (⟨(l.take (pos 0 l)).toArray⟩, 0)
end Go.Proofs.YtdcbmjihpjnbbaaDoor
/- The range of times; nothing of the program. -/
set_option linter.unusedVariables false
namespace Go.Proofs.YtdcbmjihpjnbbaaDoor
open Go.RowKit
def inT (a b : Int) : Bool := decide (-1099511627776 ≤ a ∧ a ≤ 1099511627776 ∧ 0 ≤ b ∧ b ≤ 999999999)
theorem inT_mk {a b : Int} (h : -1099511627776 ≤ a ∧ a ≤ 1099511627776 ∧ 0 ≤ b ∧ b ≤ 999999999) : inT a b = true := decide_eq_true h
theorem inT_no {a b : Int} (h : ¬ (-1099511627776 ≤ a ∧ a ≤ 1099511627776 ∧ 0 ≤ b ∧ b ≤ 999999999)) : inT a b = false := decide_eq_false h
end Go.Proofs.YtdcbmjihpjnbbaaDoor
/- Plain mathematics of times as texts; nothing of the program. -/
set_option linter.unusedVariables false
namespace Go.Proofs.YtdcbmjihpjnbbaaDoor
open Go.RowKit
/-! ### decimal digits -/
theorem decDigits_len (u k : Nat) (h : u < 10 ^ (k + 1)) : (Lib.decDigits u).length ≤ k + 1 := by
  induction k generalizing u with
  | zero => rw [Lib.decDigits, dif_pos (by simpa using h)]; simp
  | succ k ih =>
    by_cases h' : u < 10
    · rw [Lib.decDigits, dif_pos h']; simp
    · rw [Lib.decDigits, dif_neg h', List.length_append, List.length_singleton]
      have := ih (u / 10) (by rw [Nat.pow_succ] at h; omega)
      omega
/-- the last j digits of m, all of them -/
def d10 : Nat → Nat → List UInt8
  | 0, _ => []
  | j + 1, m => UInt8.ofNat (48 + m / 10 ^ j) :: d10 j (m % 10 ^ j)
/-- the same without the zeros at the end -/
def fr : Nat → Nat → List UInt8
  | 0, _ => []
  | j + 1, m => if m = 0 then [] else UInt8.ofNat (48 + m / 10 ^ j) :: fr j (m % 10 ^ j)
/-! ### the text of a time -/
def fracL (n : Nat) : List UInt8 := if n = 0 then [] else 46 :: fr 9 n
/-- seconds and nanoseconds of the time with the other sign -/
def negV (a b : Int) : Int × Int := if b = 0 then (if a = -9223372036854775808 then -9223372036854775808 else -a, 0) else (if a = -9223372036854775808 then 9223372036854775807 else -a - 1, 1000000000 - b)
def absT (m n : Nat) : List UInt8 := Lib.decDigits m ++ fracL n
def textL (a b : Int) : List UInt8 := if a < 0 then 45 :: absT (negV a b).1.toNat (negV a b).2.toNat else absT a.toNat b.toNat
def tText (a b : Int) : ByteArray × Int := if inT a b = true then (bs (textL a b), 0) else (⟨#[]⟩, 4)
/-- which part of a text is read: the sign, what stands behind it -/
def minusL : List UInt8 → Bool
  | [] => false
  | c :: _ => c == 45
def sizeL (l : List UInt8) : List UInt8 := if minusL l = true then l.drop 1 else l
def wholeL (l : List UInt8) : List UInt8 := l.take (pos 46 l)
def digsL (l : List UInt8) : List UInt8 := l.drop (pos 46 l + 1)
def numO : Lib.NumEnd Int → Option Int
  | .ok v => some v
  | _ => none
def fracO (d : List UInt8) : Option Int := if d.length ≤ 9 then numO (Lib.atoiAll (d ++ List.replicate (9 - d.length) 48)) else none
/-- what the program reads, before it looks whether the text is the one of it -/
def parseO (l : List UInt8) : Option (Int × Int) :=
  match numO (Lib.atoiAll (wholeL (sizeL l))), fracO (digsL (sizeL l)) with
  | some a, some b => some (if minusL l = true then negV a b else (a, b))
  | _, _ => none
def tparse (l : List UInt8) : Int × Int × Int :=
  match parseO l with
  | some (a, b) => if inT a b = true ∧ textL a b = l then (a, b, 0) else (0, 0, 3)
  | none => (0, 0, 3)
/-! ### the reference's reading -/
def isD (c : UInt8) : Bool := decide (48 ≤ c.toNat ∧ c.toNat ≤ 57)
def rdInt : Nat → Nat → List UInt8 → Nat × List UInt8
  | 0, acc, l => (acc, l)
  | f + 1, acc, [] => (acc, [])
  | f + 1, acc, c :: r => if isD c = true then rdInt f (10 * acc + (c.toNat - 48)) r else (acc, c :: r)
def rdFrac : Nat → Nat → List UInt8 → Nat
  | 0, acc, _ => acc
  | j + 1, acc, [] => acc
  | j + 1, acc, c :: r => if isD c = true then rdFrac j (acc + 10 ^ j * (c.toNat - 48)) r else acc
def afterDot : List UInt8 → Nat
  | [] => 0
  | c :: r => if c = 46 then rdFrac 9 0 r else 0
def refV (l : List UInt8) : Int × Int :=
  if minusL l = true then
    (if afterDot (rdInt 14 0 (sizeL l)).2 = 0 then (-((rdInt 14 0 (sizeL l)).1 : Int), 0) else (-((rdInt 14 0 (sizeL l)).1 : Int) - 1, 1000000000 - (afterDot (rdInt 14 0 (sizeL l)).2 : Int)))
  else ((rdInt 14 0 (sizeL l)).1, afterDot (rdInt 14 0 (sizeL l)).2)
end Go.Proofs.YtdcbmjihpjnbbaaDoor
/- Plain mathematics of the symbolic form of modes; nothing of the program. -/
set_option linter.unusedVariables false
namespace Go.Proofs.YtdcbmjihpjnbbaaDoor
open Go.RowKit
/-- three signs: 'a' the three bits, 's' the special one, 't' whether they are those of the others -/
def md3 (a s : Nat) (t : Bool) : List UInt8 :=
  [if a / 4 % 2 = 1 then 114 else 45, if a / 2 % 2 = 1 then 119 else 45,
    if s = 1 then (if t = true then (if a % 2 = 1 then 116 else 84) else (if a % 2 = 1 then 115 else 83)) else (if a % 2 = 1 then 120 else 45)]
theorem md3_length (a s : Nat) (t : Bool) : (md3 a s t).length = 3 := rfl
/-- the signs of a mode -/
def mdL (n : Nat) : List UInt8 := md3 (n / 64 % 8) (n / 2048 % 2) false ++ md3 (n / 8 % 8) (n / 1024 % 2) false ++ md3 (n % 8) (n / 512 % 2) true
theorem mdL_length (n : Nat) : (mdL n).length = 9 := rfl
def mdW (n : Int) : ByteArray × Int := if 0 ≤ n ∧ n ≤ 4095 then (bs (mdL n.toNat), 0) else (⟨#[]⟩, 4)
theorem mdW_ok {n : Int} (h : 0 ≤ n ∧ n ≤ 4095) : mdW n = (bs (mdL n.toNat), 0) := if_pos h
theorem mdW_no {n : Int} (h : ¬ (0 ≤ n ∧ n ≤ 4095)) : mdW n = (⟨#[]⟩, 4) := if_neg h
/-- what three signs are: bits, and eight times the special one -/
def un3 (l : List UInt8) (t : Bool) : Option Nat := (List.range 16).find? fun x => md3 (x % 8) (x / 8) t == l
def mdR (l : List UInt8) : Int × Int :=
  if l.length = 9 then
    match un3 (l.take 3) false, un3 ((l.drop 3).take 3) false, un3 (l.drop 6) true with
    | some a, some b, some c => (((a % 8 * 64 + a / 8 * 2048 + (b % 8 * 8 + b / 8 * 1024) + (c % 8 + c / 8 * 512) : Nat) : Int), 0)
    | _, _, _ => (0, 3)
  else (0, 1)
end Go.Proofs.YtdcbmjihpjnbbaaDoor
/- What is told of a node, as a plain value; nothing of the program. -/
set_option linter.unusedVariables false
namespace Go.Proofs.YtdcbmjihpjnbbaaDoor
open Go.RowKit
structure MetaV where
  mode : Int
  uid : Int
  gid : Int
  user : List UInt8
  group : List UInt8
  second : Int
  nano : Int
def mdB (n : Int) : Bool := decide (0 ≤ n ∧ n ≤ 4095)
theorem mdB_yes {n : Int} (h : 0 ≤ n ∧ n ≤ 4095) : mdB n = true := decide_eq_true h
theorem mdB_no {n : Int} (h : ¬ (0 ≤ n ∧ n ≤ 4095)) : mdB n = false := decide_eq_false h
theorem mdB_of {n : Int} (h : mdB n = true) : 0 ≤ n ∧ n ≤ 4095 := of_decide_eq_true h
theorem mdB_off {n : Int} (h : mdB n = false) : ¬ (0 ≤ n ∧ n ≤ 4095) := of_decide_eq_false h
def idB (n : Int) : Bool := decide (0 ≤ n ∧ n ≤ 1125899906842624)
theorem idB_yes {n : Int} (h : 0 ≤ n ∧ n ≤ 1125899906842624) : idB n = true := decide_eq_true h
theorem idB_no {n : Int} (h : ¬ (0 ≤ n ∧ n ≤ 1125899906842624)) : idB n = false := decide_eq_false h
theorem idB_of {n : Int} (h : idB n = true) : 0 ≤ n ∧ n ≤ 1125899906842624 := of_decide_eq_true h
theorem idB_off {n : Int} (h : idB n = false) : ¬ (0 ≤ n ∧ n ≤ 1125899906842624) := of_decide_eq_false h
/-- what is wrong with a time -/
def inE (a b : Int) : Int := if inT a b = true then 0 else 4
/-- what is wrong with it -/
def metE (m : MetaV) : Int :=
  if (mdB m.mode && idB m.uid && idB m.gid) = true then
    if 60 < m.user.length ∨ 60 < m.group.length then 1
    else if (hasB 0 m.user || hasB 0 m.group) = true then 3
    else inE m.second m.nano
  else 4
theorem metE_range {m : MetaV} (h : (mdB m.mode && idB m.uid && idB m.gid) = false) : metE m = 4 := if_neg (by rw [h]; decide)
theorem metE_size {m : MetaV} (h : (mdB m.mode && idB m.uid && idB m.gid) = true) (h2 : 60 < m.user.length ∨ 60 < m.group.length) : metE m = 1 := by
  unfold metE; rw [if_pos h, if_pos h2]
theorem metE_form {m : MetaV} (h : (mdB m.mode && idB m.uid && idB m.gid) = true) (h2 : ¬ (60 < m.user.length ∨ 60 < m.group.length)) (h3 : (hasB 0 m.user || hasB 0 m.group) = true) : metE m = 3 := by
  unfold metE; rw [if_pos h, if_neg h2, if_pos h3]
theorem metE_time {m : MetaV} (h : (mdB m.mode && idB m.uid && idB m.gid) = true) (h2 : ¬ (60 < m.user.length ∨ 60 < m.group.length)) (h3 : (hasB 0 m.user || hasB 0 m.group) = false) : metE m = inE m.second m.nano := by
  unfold metE; rw [if_pos h, if_neg h2, if_neg (by rw [h3]; decide)]
/-- a node -/
structure NodeV where
  path : List UInt8
  kind : Int
  same : Int
  target : List UInt8
  md : MetaV
  data : List UInt8
instance : Inhabited NodeV := ⟨⟨[], 0, 0, [], ⟨0, 0, 0, [], [], 0, 0⟩, []⟩⟩
end Go.Proofs.YtdcbmjihpjnbbaaDoor
/- Plain mathematics of paths; nothing of the program. -/
set_option linter.unusedVariables false
namespace Go.Proofs.YtdcbmjihpjnbbaaDoor
open Go.RowKit
/-! ### in -/
/-- does the text s begin with the text d and a slash (d empty: is s not empty) -/
def inB (s d : List UInt8) : Bool := if d = [] then !decide (s = []) else decide (d ++ [47] <+: s)
theorem inB_nil (s : List UInt8) : inB s [] = !decide (s = []) := rfl
theorem inB_ne {s d : List UInt8} (h : d ≠ []) : inB s d = decide (d ++ [47] <+: s) := if_neg h
/-! ### the order -/
/-- a byte's rank: a slash ahead of all others -/
def rk (c : UInt8) : Int := if c = 47 then -1 else (c.toNat : Int)
def sgn (a b : Int) : Int := if a < b then -1 else if b < a then 1 else 0
theorem sgn_self (a : Int) : sgn a a = 0 := by unfold sgn; rw [if_neg (by omega), if_neg (by omega)]
theorem sgn_lt {a b : Int} (h : a < b) : sgn a b = -1 := if_pos h
theorem sgn_gt {a b : Int} (h : b < a) : sgn a b = 1 := by unfold sgn; rw [if_neg (by omega), if_pos h]
theorem sgn_eq {a b : Int} (h1 : ¬ a < b) (h2 : ¬ b < a) : sgn a b = 0 := by unfold sgn; rw [if_neg h1, if_neg h2]
theorem rk_lo (c : UInt8) : -1 ≤ rk c := by unfold rk; split <;> omega
theorem rk_inj {a b : UInt8} (h : rk a = rk b) : a = b := by
  unfold rk at h
  split at h <;> split at h
  · subst_vars; rfl
  · omega
  · omega
  · exact UInt8.toNat_inj.1 (by omega)
/-- paths, part by part -/
def pcmp : List UInt8 → List UInt8 → Int
  | [], [] => 0
  | [], _ :: _ => -1
  | _ :: _, [] => 1
  | x :: a, y :: b => if x = y then pcmp a b else sgn (rk x) (rk y)
theorem pcmp_nil_cons (y : UInt8) (b : List UInt8) : pcmp [] (y :: b) = -1 := by rw [pcmp]
theorem pcmp_cons_nil (x : UInt8) (a : List UInt8) : pcmp (x :: a) [] = 1 := by rw [pcmp]
theorem pcmp_nil_nil : pcmp [] [] = 0 := by rw [pcmp]
theorem pcmp_cons (x y : UInt8) (a b : List UInt8) : pcmp (x :: a) (y :: b) = if x = y then pcmp a b else sgn (rk x) (rk y) := by rw [pcmp]
/-- an equal beginning does not count -/
theorem pcmp_app (p a b : List UInt8) : pcmp (p ++ a) (p ++ b) = pcmp a b := by
  induction p with
  | nil => rfl
  | cons x p ih => rw [List.cons_append, List.cons_append, pcmp_cons, if_pos rfl, ih]
theorem pcmp_short (a b : List UInt8) (h : a = [] ∨ b = []) : pcmp a b = sgn a.length b.length := by
  rcases h with rfl | rfl
  · cases b with
    | nil => rw [pcmp_nil_nil]; exact (sgn_self _).symm
    | cons y b => rw [pcmp_nil_cons, sgn_lt (by simp)]
  · cases a with
    | nil => rw [pcmp_nil_nil]; exact (sgn_self _).symm
    | cons y b => rw [pcmp_cons_nil, sgn_gt (by simp)]
/-- behind k equal bytes, where one text ends -/
theorem pcmp_end (a b : List UInt8) (k : Nat) (he : a.take k = b.take k) (ha : k ≤ a.length) (hb : k ≤ b.length) (h : k = a.length ∨ k = b.length) : pcmp a b = sgn a.length b.length := by
  have e1 : a = a.take k ++ a.drop k := (List.take_append_drop k a).symm
  have e2 : b = a.take k ++ b.drop k := by rw [he]; exact (List.take_append_drop k b).symm
  have l1 : (a.drop k).length = a.length - k := List.length_drop ..
  have l2 : (b.drop k).length = b.length - k := List.length_drop ..
  have : pcmp a b = pcmp (a.drop k) (b.drop k) := by
    conv => lhs; rw [e1, e2]
    exact pcmp_app _ _ _
  rw [this, pcmp_short _ _ (by rcases h with h | h; exact .inl (List.eq_nil_of_length_eq_zero (by omega)); exact .inr (List.eq_nil_of_length_eq_zero (by omega))), l1, l2]
  unfold sgn
  by_cases c1 : (a.length : Int) < b.length
  · rw [if_pos c1, if_pos (by omega)]
  · rw [if_neg c1, if_neg (by omega)]
    by_cases c2 : (b.length : Int) < a.length
    · rw [if_pos c2, if_pos (by omega)]
    · rw [if_neg c2, if_neg (by omega)]
/-- behind k equal bytes, two that differ -/
theorem pcmp_at (a b : List UInt8) (k : Nat) (he : a.take k = b.take k) (ha : k < a.length) (hb : k < b.length) (h : a[k] ≠ b[k]) : pcmp a b = sgn (rk a[k]) (rk b[k]) := by
  have e1 : a = a.take k ++ a[k] :: a.drop (k + 1) := by rw [← List.drop_eq_getElem_cons ha]; exact (List.take_append_drop k a).symm
  have e2 : b = a.take k ++ b[k] :: b.drop (k + 1) := by rw [← List.drop_eq_getElem_cons hb, he]; exact (List.take_append_drop k b).symm
  have : pcmp a b = pcmp (a[k] :: a.drop (k + 1)) (b[k] :: b.drop (k + 1)) := by
    conv => lhs; rw [e1, e2]
    exact pcmp_app _ _ _
  rw [this, pcmp_cons, if_neg h]
theorem sgn_neg (a b : Int) : sgn b a = -sgn a b := by
  unfold sgn
  by_cases c1 : a < b
  · rw [if_pos c1, if_neg (by omega), if_pos c1]; rfl
  · rw [if_neg c1]
    by_cases c2 : b < a
    · rw [if_pos c2, if_neg c1, if_pos c2]
    · rw [if_neg c2, if_neg c1, if_neg c2]; rfl
theorem sgn_cases (a b : Int) : (sgn a b = -1 ∧ a < b) ∨ (sgn a b = 0 ∧ a = b) ∨ (sgn a b = 1 ∧ b < a) := by
  unfold sgn
  by_cases c1 : a < b
  · rw [if_pos c1]; exact .inl ⟨rfl, c1⟩
  · rw [if_neg c1]
    by_cases c2 : b < a
    · rw [if_pos c2]; exact .inr (.inr ⟨rfl, c2⟩)
    · rw [if_neg c2]; exact .inr (.inl ⟨rfl, by omega⟩)
theorem pcmp_neg (a b : List UInt8) : pcmp b a = -pcmp a b := by
  induction a generalizing b with
  | nil => cases b <;> simp [pcmp]
  | cons x a ih =>
    cases b with
    | nil => simp [pcmp]
    | cons y b =>
      rw [pcmp_cons, pcmp_cons]
      by_cases h : x = y
      · rw [if_pos h, if_pos h.symm, ih]
      · rw [if_neg h, if_neg (fun e => h e.symm), sgn_neg]
theorem pcmp_bd (a b : List UInt8) : -1 ≤ pcmp a b ∧ pcmp a b ≤ 1 := by
  induction a generalizing b with
  | nil => cases b <;> simp [pcmp]
  | cons x a ih =>
    cases b with
    | nil => simp [pcmp]
    | cons y b =>
      rw [pcmp_cons]
      by_cases h : x = y
      · rw [if_pos h]; exact ih b
      · rw [if_neg h]; rcases sgn_cases (rk x) (rk y) with ⟨e, _⟩ | ⟨e, _⟩ | ⟨e, _⟩ <;> rw [e] <;> omega
theorem pcmp_zero (a b : List UInt8) : pcmp a b = 0 ↔ a = b := by
  induction a generalizing b with
  | nil => cases b <;> simp [pcmp]
  | cons x a ih =>
    cases b with
    | nil => simp [pcmp]
    | cons y b =>
      rw [pcmp_cons]
      by_cases h : x = y
      · rw [if_pos h, ih]; simp [h]
      · rw [if_neg h]
        have hr : rk x ≠ rk y := fun e => h (rk_inj e)
        rcases sgn_cases (rk x) (rk y) with ⟨e, _⟩ | ⟨_, e⟩ | ⟨e, _⟩
        · rw [e]; simp [h]
        · exact absurd e hr
        · rw [e]; simp [h]
theorem pcmp_trans (a b c : List UInt8) (h1 : pcmp a b ≤ 0) (h2 : pcmp b c ≤ 0) : pcmp a c ≤ 0 := by
  induction a generalizing b c with
  | nil => cases c <;> simp [pcmp]
  | cons x a ih =>
    cases b with
    | nil => rw [pcmp_cons_nil] at h1; omega
    | cons y b =>
      cases c with
      | nil => rw [pcmp_cons_nil] at h2; omega
      | cons z c =>
        rw [pcmp_cons] at h1 h2 ⊢
        by_cases e1 : x = y
        · subst e1
          rw [if_pos rfl] at h1
          by_cases e2 : x = z
          · subst e2
            rw [if_pos rfl] at h2 ⊢
            exact ih b c h1 h2
          · rw [if_neg e2] at h2 ⊢; exact h2
        · rw [if_neg e1] at h1
          have hr : rk x ≠ rk y := fun e => e1 (rk_inj e)
          have l1 : rk x < rk y := by rcases sgn_cases (rk x) (rk y) with ⟨_, e⟩ | ⟨_, e⟩ | ⟨e, _⟩ <;> omega
          by_cases e2 : y = z
          · subst e2
            rw [if_neg e1]; exact h1
          · rw [if_neg e2] at h2
            have l2 : rk y < rk z := by
              have hr2 : rk y ≠ rk z := fun e => e2 (rk_inj e)
              rcases sgn_cases (rk y) (rk z) with ⟨_, e⟩ | ⟨_, e⟩ | ⟨e, _⟩ <;> omega
            rw [if_neg (by intro e; subst e; omega), sgn_lt (by omega)]; omega
theorem pcmp_self (a : List UInt8) : pcmp a a = 0 := (pcmp_zero a a).2 rfl
end Go.Proofs.YtdcbmjihpjnbbaaDoor
/- Plain mathematics of the parts of a text; nothing of the program. -/
set_option linter.unusedVariables false
namespace Go.Proofs.YtdcbmjihpjnbbaaDoor
open Go.RowKit
def headCons (a : UInt8) : List (List UInt8) → List (List UInt8)
  | [] => [[a]]
  | h :: t => (a :: h) :: t
/-- the parts between the bytes c -/
def partsL (c : UInt8) : List UInt8 → List (List UInt8)
  | [] => [[]]
  | a :: l => if a = c then [] :: partsL c l else headCons a (partsL c l)
def lastSnoc (a : UInt8) : List (List UInt8) → List (List UInt8)
  | [] => [[a]]
  | [h] => [h ++ [a]]
  | h :: t :: r => h :: lastSnoc a (t :: r)
theorem partsL_nil (c : UInt8) : partsL c [] = [[]] := rfl
theorem partsL_cons (c a : UInt8) (l : List UInt8) : partsL c (a :: l) = if a = c then [] :: partsL c l else headCons a (partsL c l) := rfl
theorem headCons_ne (a : UInt8) (l : List (List UInt8)) : headCons a l ≠ [] := by cases l <;> simp [headCons]
theorem partsL_ne (c : UInt8) (l : List UInt8) : partsL c l ≠ [] := by
  cases l with
  | nil => simp [partsL]
  | cons a l =>
    rw [partsL_cons]
    by_cases h : a = c
    · rw [if_pos h]; simp
    · rw [if_neg h]; exact headCons_ne _ _
theorem partsL_pos (c : UInt8) (l : List UInt8) : 1 ≤ (partsL c l).length := by
  have := partsL_ne c l
  rcases h : partsL c l with _ | ⟨x, y⟩
  · exact absurd h this
  · simp
theorem headCons_length (a : UInt8) (l : List (List UInt8)) (h : l ≠ []) : (headCons a l).length = l.length := by
  cases l with
  | nil => exact absurd rfl h
  | cons x l => rfl
theorem partsL_length (c : UInt8) (l : List UInt8) : (partsL c l).length = l.count c + 1 := by
  induction l with
  | nil => rfl
  | cons a l ih =>
    rw [partsL_cons, List.count_cons]
    by_cases h : a = c
    · subst h; rw [if_pos rfl, List.length_cons, ih]; simp
    · rw [if_neg h, headCons_length _ _ (partsL_ne c l), ih]
      have : (a == c) = false := by simpa using h
      rw [this]; simp
theorem partsL_le (c : UInt8) (l : List UInt8) : (partsL c l).length ≤ l.length + 1 := by
  rw [partsL_length]
  have := List.count_le_length (l := l) (a := c)
  omega
theorem partsL_snoc_eq (c : UInt8) (l : List UInt8) : partsL c (l ++ [c]) = partsL c l ++ [[]] := by
  induction l with
  | nil => simp [partsL]
  | cons a l ih =>
    rw [List.cons_append, partsL_cons, partsL_cons, ih]
    by_cases h : a = c
    · rw [if_pos h, if_pos h]; rfl
    · rw [if_neg h, if_neg h]
      cases hp : partsL c l with
      | nil => exact absurd hp (partsL_ne c l)
      | cons x y => rfl
theorem lastSnoc_cons (a : UInt8) (x : List UInt8) (l : List (List UInt8)) (h : l ≠ []) : lastSnoc a (x :: l) = x :: lastSnoc a l := by
  cases l with
  | nil => exact absurd rfl h
  | cons y l => rfl
theorem lastSnoc_head (a b : UInt8) (l : List (List UInt8)) (h : l ≠ []) : lastSnoc a (headCons b l) = headCons b (lastSnoc a l) := by
  cases l with
  | nil => exact absurd rfl h
  | cons x l =>
    cases l with
    | nil => rfl
    | cons y l => rfl
theorem partsL_snoc_ne (c a : UInt8) (l : List UInt8) (h : a ≠ c) : partsL c (l ++ [a]) = lastSnoc a (partsL c l) := by
  induction l with
  | nil => simp [partsL, h, headCons, lastSnoc]
  | cons b l ih =>
    rw [List.cons_append, partsL_cons, partsL_cons, ih]
    by_cases hb : b = c
    · rw [if_pos hb, if_pos hb, lastSnoc_cons _ _ _ (partsL_ne c l)]
    · rw [if_neg hb, if_neg hb, lastSnoc_head _ _ _ (partsL_ne c l)]
theorem lastSnoc_set (a : UInt8) (l : List (List UInt8)) (n : Nat) (h : l.length = n + 1) : lastSnoc a l = l.set n (l.getD n [] ++ [a]) := by
  induction l generalizing n with
  | nil => simp at h
  | cons x l ih =>
    cases l with
    | nil =>
      have : n = 0 := by simpa using h.symm
      subst this; rfl
    | cons y l =>
      obtain ⟨m, rfl⟩ : ∃ m, n = m + 1 := ⟨n - 1, by simp at h; omega⟩
      rw [lastSnoc_cons _ _ _ (by simp), ih m (by simpa using h)]; rfl
theorem headCons_mem (a : UInt8) (l : List (List UInt8)) (n : Nat) (h : ∀ x ∈ l, x.length ≤ n) : ∀ x ∈ headCons a l, x.length ≤ n + 1 := by
  cases l with
  | nil => intro x hx; simp [headCons] at hx; subst hx; simp
  | cons y l =>
    intro x hx
    simp only [headCons, List.mem_cons] at hx
    rcases hx with rfl | hx
    · have := h y (by simp); simp; omega
    · have := h x (by simp [hx]); omega
theorem partsL_mem (c : UInt8) (l : List UInt8) : ∀ x ∈ partsL c l, x.length ≤ l.length := by
  induction l with
  | nil => intro x hx; simp [partsL] at hx; subst hx; exact Nat.le_refl _
  | cons a l ih =>
    rw [partsL_cons]
    by_cases h : a = c
    · rw [if_pos h]
      intro x hx
      rcases List.mem_cons.1 hx with rfl | hx
      · simp
      · have := ih x hx; simp; omega
    · rw [if_neg h]; exact headCons_mem a _ _ ih
theorem partsL_getD (c : UInt8) (l : List UInt8) (j : Nat) : ((partsL c l).getD j []).length ≤ l.length := by
  rw [List.getD_eq_getElem?_getD]
  by_cases h : j < (partsL c l).length
  · rw [List.getElem?_eq_getElem h]; exact partsL_mem c l _ (List.getElem_mem h)
  · rw [List.getElem?_eq_none (by omega)]; simp
/-- a text as a value, texts as cells -/
def strV (l : List UInt8) : Value := .string ⟨l.toArray⟩
def strC (ls : List (List UInt8)) : List Value := ls.map strV
@[simp] theorem strC_length (ls : List (List UInt8)) : (strC ls).length = ls.length := by simp [strC]
theorem strC_app (a b : List (List UInt8)) : strC (a ++ b) = strC a ++ strC b := by simp [strC]
theorem strC_set (ls : List (List UInt8)) (i : Nat) (x : List UInt8) : (strC ls).set i (strV x) = strC (ls.set i x) := by simp [strC, List.map_set]
theorem strC_get (ls : List (List UInt8)) (j : Nat) (h : j < ls.length) : (strC ls)[j]? = some (strV (ls.getD j [])) := by
  simp [strC, List.getD_eq_getElem?_getD, h]
/-! ### the order of lists of parts is pcmp -/
/-- is the text x less than the text y, byte by byte -/
def bless (x y : List UInt8) : Bool := Op.bytesLess x y
def lcmp : List (List UInt8) → List (List UInt8) → Int
  | [], [] => 0
  | [], _ :: _ => -1
  | _ :: _, [] => 1
  | x :: a, y :: b => if bless x y = true then -1 else if bless y x = true then 1 else lcmp a b
theorem bless_nil_r (x : List UInt8) : bless x [] = false := by cases x <;> rfl
theorem bless_nil_l (y : UInt8) (l : List UInt8) : bless [] (y :: l) = true := rfl
theorem bless_cons (a b : UInt8) (x y : List UInt8) : bless (a :: x) (b :: y) = (decide (a < b) || (a == b && bless x y)) := rfl
theorem bless_same (a : UInt8) (x y : List UInt8) : bless (a :: x) (a :: y) = bless x y := by
  rw [bless_cons]
  have : ¬ a < a := UInt8.lt_irrefl a
  simp [this]
theorem bless_self (x : List UInt8) : bless x x = false := by
  induction x with
  | nil => rfl
  | cons a x ih => rw [bless_same, ih]
theorem bless_diff (a b : UInt8) (x y : List UInt8) (h : a ≠ b) : bless (a :: x) (b :: y) = decide (a < b) := by
  rw [bless_cons]; simp [h]
theorem lcmp_nil_cons (y : List UInt8) (b : List (List UInt8)) : lcmp [] (y :: b) = -1 := by rw [lcmp]
theorem lcmp_cons_nil (x : List UInt8) (a : List (List UInt8)) : lcmp (x :: a) [] = 1 := by rw [lcmp]
theorem lcmp_nil_nil : lcmp [] [] = 0 := by rw [lcmp]
theorem lcmp_cons (x y : List UInt8) (a b : List (List UInt8)) : lcmp (x :: a) (y :: b) = if bless x y = true then -1 else if bless y x = true then 1 else lcmp a b := by rw [lcmp]
theorem lcmp_same (x : List UInt8) (a b : List (List UInt8)) : lcmp (x :: a) (x :: b) = lcmp a b := by rw [lcmp_cons, bless_self]; simp
theorem lcmp_head (a : UInt8) (P Q : List (List UInt8)) (hp : P ≠ []) (hq : Q ≠ []) : lcmp (headCons a P) (headCons a Q) = lcmp P Q := by
  cases P with
  | nil => exact absurd rfl hp
  | cons x P =>
    cases Q with
    | nil => exact absurd rfl hq
    | cons y Q => rw [headCons, headCons, lcmp_cons, lcmp_cons, bless_same, bless_same]
theorem lcmp_heads (a b : UInt8) (P Q : List (List UInt8)) (hp : P ≠ []) (hq : Q ≠ []) (h : a ≠ b) : lcmp (headCons a P) (headCons b Q) = sgn (a.toNat : Int) (b.toNat : Int) := by
  cases P with
  | nil => exact absurd rfl hp
  | cons x P =>
    cases Q with
    | nil => exact absurd rfl hq
    | cons y Q =>
      rw [headCons, headCons, lcmp_cons, bless_diff _ _ _ _ h, bless_diff _ _ _ _ (fun e => h e.symm)]
      have hn : a.toNat ≠ b.toNat := fun e => h (UInt8.toNat_inj.1 e)
      simp only [decide_eq_true_eq, UInt8.lt_iff_toNat_lt]
      by_cases hl : a.toNat < b.toNat
      · rw [if_pos hl, sgn_lt (by omega)]
      · rw [if_neg hl, if_pos (by omega), sgn_gt (by omega)]
/-- the parts of a path: the empty one has none -/
def pp (l : List UInt8) : List (List UInt8) := if l = [] then [] else partsL 47 l
theorem pp_nil : pp [] = [] := rfl
theorem pp_ne {l : List UInt8} (h : l ≠ []) : pp l = partsL 47 l := if_neg h
theorem pp_cons (a : UInt8) (l : List UInt8) : pp (a :: l) = partsL 47 (a :: l) := if_neg (by simp)
theorem rk_slash : rk 47 = -1 := rfl
theorem rk_other {c : UInt8} (h : c ≠ 47) : rk c = (c.toNat : Int) := if_neg h
theorem lcmp_parts (a b : List UInt8) : lcmp (partsL 47 a) (partsL 47 b) = pcmp a b := by
  induction a generalizing b with
  | nil =>
    cases b with
    | nil => rw [partsL_nil, lcmp_same, lcmp_nil_nil, pcmp_nil_nil]
    | cons y b =>
      rw [partsL_nil, partsL_cons, pcmp_nil_cons]
      by_cases h : y = 47
      · rw [if_pos h, lcmp_same]
        rcases hp : partsL 47 b with _ | ⟨u, v⟩
        · exact absurd hp (partsL_ne _ _)
        · exact lcmp_nil_cons _ _
      · rw [if_neg h]
        rcases hp : partsL 47 b with _ | ⟨u, v⟩
        · exact absurd hp (partsL_ne _ _)
        · rw [headCons, lcmp_cons, bless_nil_l]; simp
  | cons x a ih =>
    cases b with
    | nil =>
      rw [partsL_nil, partsL_cons, pcmp_cons_nil]
      by_cases h : x = 47
      · rw [if_pos h, lcmp_same]
        rcases hp : partsL 47 a with _ | ⟨u, v⟩
        · exact absurd hp (partsL_ne _ _)
        · exact lcmp_cons_nil _ _
      · rw [if_neg h]
        rcases hp : partsL 47 a with _ | ⟨u, v⟩
        · exact absurd hp (partsL_ne _ _)
        · rw [headCons, lcmp_cons, bless_nil_r, bless_nil_l]; simp
    | cons y b =>
      rw [partsL_cons, partsL_cons, pcmp_cons]
      by_cases hx : x = 47
      · subst hx
        rw [if_pos rfl]
        by_cases hy : y = 47
        · subst hy
          rw [if_pos rfl, if_pos rfl, lcmp_same, ih]
        · rw [if_neg hy, if_neg (fun e => hy e.symm), rk_slash, rk_other hy, sgn_lt (by omega)]
          rcases hp : partsL 47 b with _ | ⟨u, v⟩
          · exact absurd hp (partsL_ne _ _)
          · rw [headCons, lcmp_cons, bless_nil_l]; simp
      · rw [if_neg hx]
        by_cases hy : y = 47
        · subst hy
          rw [if_pos rfl, if_neg hx, rk_slash, rk_other hx, sgn_gt (by omega)]
          rcases hp : partsL 47 a with _ | ⟨u, v⟩
          · exact absurd hp (partsL_ne _ _)
          · rw [headCons, lcmp_cons, bless_nil_r, bless_nil_l]; simp
        · rw [if_neg hy]
          by_cases e : x = y
          · subst e
            rw [if_pos rfl, lcmp_head _ _ _ (partsL_ne _ _) (partsL_ne _ _), ih]
          · rw [if_neg e, lcmp_heads _ _ _ _ (partsL_ne _ _) (partsL_ne _ _) e, rk_other hx, rk_other hy]
theorem lcmp_pp (a b : List UInt8) : lcmp (pp a) (pp b) = pcmp a b := by
  cases a with
  | nil =>
    cases b with
    | nil => rfl
    | cons y b =>
      rw [pp_nil, pp_cons, pcmp_nil_cons]
      rcases hp : partsL 47 (y :: b) with _ | ⟨u, v⟩
      · exact absurd hp (partsL_ne _ _)
      · exact lcmp_nil_cons _ _
  | cons x a =>
    cases b with
    | nil =>
      rw [pp_nil, pp_cons, pcmp_cons_nil]
      rcases hp : partsL 47 (x :: a) with _ | ⟨u, v⟩
      · exact absurd hp (partsL_ne _ _)
      · exact lcmp_cons_nil _ _
    | cons y b => rw [pp_cons, pp_cons, lcmp_parts]
/-! ### behind k equal parts -/
theorem lcmp_app (p a b : List (List UInt8)) : lcmp (p ++ a) (p ++ b) = lcmp a b := by
  induction p with
  | nil => rfl
  | cons x p ih => rw [List.cons_append, List.cons_append, lcmp_same, ih]
theorem lcmp_short (a b : List (List UInt8)) (h : a = [] ∨ b = []) : lcmp a b = sgn a.length b.length := by
  rcases h with rfl | rfl
  · cases b with
    | nil => rw [lcmp_nil_nil]; exact (sgn_self _).symm
    | cons y b => rw [lcmp_nil_cons, sgn_lt (by simp)]
  · cases a with
    | nil => rw [lcmp_nil_nil]; exact (sgn_self _).symm
    | cons y b => rw [lcmp_cons_nil, sgn_gt (by simp)]
theorem lcmp_end (a b : List (List UInt8)) (k : Nat) (he : a.take k = b.take k) (ha : k ≤ a.length) (hb : k ≤ b.length) (h : k = a.length ∨ k = b.length) : lcmp a b = sgn a.length b.length := by
  have e1 : a = a.take k ++ a.drop k := (List.take_append_drop k a).symm
  have e2 : b = a.take k ++ b.drop k := by rw [he]; exact (List.take_append_drop k b).symm
  have l1 : (a.drop k).length = a.length - k := List.length_drop ..
  have l2 : (b.drop k).length = b.length - k := List.length_drop ..
  have : lcmp a b = lcmp (a.drop k) (b.drop k) := by
    conv => lhs; rw [e1, e2]
    exact lcmp_app _ _ _
  rw [this, lcmp_short _ _ (by rcases h with h | h; exact .inl (List.eq_nil_of_length_eq_zero (by omega)); exact .inr (List.eq_nil_of_length_eq_zero (by omega))), l1, l2]
  unfold sgn
  by_cases c1 : (a.length : Int) < b.length
  · rw [if_pos c1, if_pos (by omega)]
  · rw [if_neg c1, if_neg (by omega)]
    by_cases c2 : (b.length : Int) < a.length
    · rw [if_pos c2, if_pos (by omega)]
    · rw [if_neg c2, if_neg (by omega)]
theorem lcmp_at (a b : List (List UInt8)) (k : Nat) (he : a.take k = b.take k) (ha : k < a.length) (hb : k < b.length) :
    lcmp a b = if bless a[k] b[k] = true then -1 else if bless b[k] a[k] = true then 1 else lcmp (a.drop (k + 1)) (b.drop (k + 1)) := by
  have e1 : a = a.take k ++ a[k] :: a.drop (k + 1) := by rw [← List.drop_eq_getElem_cons ha]; exact (List.take_append_drop k a).symm
  have e2 : b = a.take k ++ b[k] :: b.drop (k + 1) := by rw [← List.drop_eq_getElem_cons hb, he]; exact (List.take_append_drop k b).symm
  have : lcmp a b = lcmp (a[k] :: a.drop (k + 1)) (b[k] :: b.drop (k + 1)) := by
    conv => lhs; rw [e1, e2]
    exact lcmp_app _ _ _
  rw [this, lcmp_cons]
theorem bless_total (x y : List UInt8) (h1 : bless x y = false) (h2 : bless y x = false) : x = y := by
  induction x generalizing y with
  | nil =>
    cases y with
    | nil => rfl
    | cons b y => rw [bless_nil_l] at h1; cases h1
  | cons a x ih =>
    cases y with
    | nil => rw [bless_nil_l] at h2; cases h2
    | cons b y =>
      by_cases e : a = b
      · subst e
        rw [bless_same] at h1 h2
        rw [ih y h1 h2]
      · rw [bless_diff _ _ _ _ e] at h1
        rw [bless_diff _ _ _ _ (fun h => e h.symm)] at h2
        have h1' := of_decide_eq_false h1
        have h2' := of_decide_eq_false h2
        rw [UInt8.lt_iff_toNat_lt] at h1' h2'
        exact absurd (UInt8.toNat_inj.1 (by omega)) e
theorem getD_take_snoc (ls : List (List UInt8)) (k : Nat) (h : k < ls.length) : ls.take (k + 1) = ls.take k ++ [ls.getD k []] := by
  rw [List.take_succ_eq_append_getElem h, List.getD_eq_getElem?_getD, List.getElem?_eq_getElem h]; rfl
theorem lcmp_step (a b : List (List UInt8)) (k : Nat) (he : a.take k = b.take k) (ha : k < a.length) (hb : k < b.length) :
    (bless (a.getD k []) (b.getD k []) = true → lcmp a b = -1) ∧ (bless (a.getD k []) (b.getD k []) = false → a.getD k [] ≠ b.getD k [] → lcmp a b = 1) ∧ (a.getD k [] = b.getD k [] → a.take (k + 1) = b.take (k + 1)) := by
  have ga : a.getD k [] = a[k] := by rw [List.getD_eq_getElem?_getD, List.getElem?_eq_getElem ha]; rfl
  have gb : b.getD k [] = b[k] := by rw [List.getD_eq_getElem?_getD, List.getElem?_eq_getElem hb]; rfl
  rw [ga, gb]
  refine ⟨fun h => ?_, fun h hne => ?_, fun h => ?_⟩
  · rw [lcmp_at a b k he ha hb, if_pos h]
  · rw [lcmp_at a b k he ha hb, if_neg (by rw [h]; simp), if_pos]
    cases h2 : bless b[k] a[k]
    · exact absurd (bless_total _ _ h h2) hne
    · rfl
  · rw [getD_take_snoc a k ha, getD_take_snoc b k hb, he, ga, gb, h]
end Go.Proofs.YtdcbmjihpjnbbaaDoor
/- Plain mathematics of splitting, joining, and the last part; nothing of the program. -/
set_option linter.unusedVariables false
namespace Go.Proofs.YtdcbmjihpjnbbaaDoor
open Go.RowKit
theorem headCons_app (a : UInt8) (l m : List (List UInt8)) (h : l ≠ []) : headCons a (l ++ m) = headCons a l ++ m := by
  cases l with
  | nil => exact absurd rfl h
  | cons x l => rfl
theorem partsL_app (c : UInt8) (a b : List UInt8) : partsL c (a ++ c :: b) = partsL c a ++ partsL c b := by
  induction a with
  | nil => rw [List.nil_append, partsL_cons, if_pos rfl, partsL_nil]; rfl
  | cons x a ih =>
    rw [List.cons_append, partsL_cons, partsL_cons, ih]
    by_cases h : x = c
    · rw [if_pos h, if_pos h]; rfl
    · rw [if_neg h, if_neg h, headCons_app _ _ _ (partsL_ne c a)]
theorem partsL_none (c : UInt8) (l : List UInt8) (h : hasB c l = false) : partsL c l = [l] := by
  induction l with
  | nil => rfl
  | cons x l ih =>
    rw [hasB_cons, Bool.or_eq_false_iff] at h
    have hx : x ≠ c := by simpa using h.1
    rw [partsL_cons, if_neg hx, ih h.2]; rfl
def joinL : List (List UInt8) → List UInt8
  | [] => []
  | [x] => x
  | x :: y :: r => x ++ 47 :: joinL (y :: r)
theorem joinL_cons (x : List UInt8) (l : List (List UInt8)) (h : l ≠ []) : joinL (x :: l) = x ++ 47 :: joinL l := by
  cases l with
  | nil => exact absurd rfl h
  | cons y l => rfl
theorem joinL_head (a : UInt8) (l : List (List UInt8)) (h : l ≠ []) : joinL (headCons a l) = a :: joinL l := by
  cases l with
  | nil => exact absurd rfl h
  | cons x l =>
    cases l with
    | nil => rfl
    | cons y l => rfl
theorem joinL_parts (l : List UInt8) : joinL (partsL 47 l) = l := by
  induction l with
  | nil => rfl
  | cons x l ih =>
    rw [partsL_cons]
    by_cases h : x = 47
    · rw [if_pos h, joinL_cons _ _ (partsL_ne _ _), ih, h]; rfl
    · rw [if_neg h, joinL_head _ _ (partsL_ne _ _), ih]
theorem joinL_snoc (ls : List (List UInt8)) (x : List UInt8) (h : ls ≠ []) : joinL (ls ++ [x]) = joinL ls ++ 47 :: x := by
  induction ls with
  | nil => exact absurd rfl h
  | cons y ls ih =>
    by_cases h2 : ls = []
    · subst h2; rfl
    · rw [List.cons_append, joinL_cons _ _ (by simp), ih h2, joinL_cons _ _ h2]; simp
theorem joinL_take_le (ls : List (List UInt8)) (k : Nat) : (joinL (ls.take k)).length ≤ (joinL ls).length := by
  induction ls generalizing k with
  | nil => simp
  | cons x ls ih =>
    cases k with
    | zero => simp [joinL]
    | succ k =>
      rw [List.take_succ_cons]
      by_cases h : ls = []
      · subst h; simp
      · rw [joinL_cons x ls h]
        by_cases h2 : ls.take k = []
        · rw [h2]; simp [joinL]
        · rw [joinL_cons _ _ h2]
          have := ih k
          simp only [List.length_append, List.length_cons]; omega
/-- what a path is in; its last part -/
def upL (l : List UInt8) : List UInt8 := joinL (partsL 47 l).dropLast
def baseL (l : List UInt8) : List UInt8 := (partsL 47 l).getLast (partsL_ne 47 l)
theorem up_base_at (l a b : List UInt8) (h : hasB 47 b = false) (e : l = a ++ 47 :: b) : upL l = a ∧ baseL l = b := by
  have hp : partsL 47 l = partsL 47 a ++ [b] := by rw [e, partsL_app, partsL_none 47 b h]
  refine ⟨?_, ?_⟩
  · unfold upL; rw [hp, List.dropLast_concat, joinL_parts]
  · unfold baseL; simp [hp]
theorem up_base_none (l : List UInt8) (h : hasB 47 l = false) : upL l = [] ∧ baseL l = l := by
  have hp := partsL_none 47 l h
  refine ⟨?_, ?_⟩
  · unfold upL; rw [hp]; rfl
  · unfold baseL; simp [hp]
theorem hasB_mem (c : UInt8) (l : List UInt8) : hasB c l = false ↔ ∀ x ∈ l, x ≠ c := by
  unfold hasB; simp
/-- the byte string's last byte c, by the library's word -/
theorem last_cases (s : ByteArray) : (Lib.lastIndexByte s 47 = -1 ∧ upL s.data.toList = [] ∧ baseL s.data.toList = s.data.toList ∧ hasB 47 s.data.toList = false) ∨
    ∃ i : Nat, i < s.size ∧ Lib.lastIndexByte s 47 = i ∧ upL s.data.toList = s.data.toList.take i ∧ baseL s.data.toList = s.data.toList.drop (i + 1) ∧ hasB 47 s.data.toList = true := by
  have hl : s.data.toList.length = s.size := by simp
  have hg : ∀ j (h : j < s.size), s.data[j]! = s.data.toList[j]'(by omega) := fun j h => by
    rw [getElem!_pos s.data j (by simpa using h)]; simp
  rcases Lib.lastIndexByte_spec s 47 with ⟨h1, h2⟩ | ⟨i, hi, h1, h2, h3⟩
  · refine .inl ⟨h1, ?_⟩
    have hb : hasB 47 s.data.toList = false := by
      rw [hasB_mem]
      intro x hx e
      obtain ⟨j, hj, rfl⟩ := List.getElem_of_mem hx
      refine h2 j (by omega) ?_
      rw [hg j (by omega), e]; rfl
    obtain ⟨u, b⟩ := up_base_none _ hb
    exact ⟨u, b, hb⟩
  · refine .inr ⟨i, hi, h1, ?_⟩
    have hil : i < s.data.toList.length := by omega
    have e47 : s.data.toList[i] = 47 := by
      have := h2; rw [hg i hi] at this
      exact UInt8.toNat_inj.1 (by show _ = 47; omega)
    have hb : hasB 47 (s.data.toList.drop (i + 1)) = false := by
      rw [hasB_mem]
      intro x hx e
      obtain ⟨j, hj, rfl⟩ := List.getElem_of_mem hx
      rw [List.length_drop] at hj
      refine h3 (i + 1 + j) (by omega) (by omega) ?_
      rw [hg _ (by omega)]
      rw [List.getElem_drop] at e
      rw [e]; rfl
    have e : s.data.toList = s.data.toList.take i ++ 47 :: s.data.toList.drop (i + 1) := by
      conv => lhs; rw [← List.take_append_drop i s.data.toList, List.drop_eq_getElem_cons hil, e47]
    obtain ⟨u, b⟩ := up_base_at _ _ _ hb e
    refine ⟨u, b, ?_⟩
    rw [e, hasB_app, hasB_cons]; simp
/-! ### strings.Split at one byte -/
theorem partsL_cut (c : UInt8) (l : List UInt8) (h : hasB c l = true) : partsL c l = l.take (pos c l) :: partsL c (l.drop (pos c l + 1)) := by
  have hp : pos c l < l.length := by rw [hasB_pos] at h; exact of_decide_eq_true h
  have e : l = l.take (pos c l) ++ c :: l.drop (pos c l + 1) := by
    conv => lhs; rw [← List.take_append_drop (pos c l) l, List.drop_eq_getElem_cons hp, pos_get c l hp]
  conv => lhs; rw [e]
  rw [partsL_app, partsL_none c _ (hasB_take c l _ (Nat.le_refl _))]; rfl
theorem count_cut (c : UInt8) (l : List UInt8) (h : hasB c l = true) : l.count c = (l.drop (pos c l + 1)).count c + 1 := by
  have := partsL_cut c l h
  have h2 := congrArg List.length this
  rw [partsL_length, List.length_cons, partsL_length] at h2
  omega
theorem splitK_parts (c : UInt8) (k : Nat) (l : List UInt8) (h : l.count c = k) : Lib.splitK [c] 0 k l = partsL c l := by
  induction k generalizing l with
  | zero =>
    have : hasB c l = false := by
      rw [hasB_mem]; intro x hx e; subst e
      have := List.count_pos_iff.2 hx; omega
    rw [partsL_none c l this]; rfl
  | succ k ih =>
    have hb : hasB c l = true := by
      rw [← Bool.not_eq_false, hasB_mem]; intro h2
      have : l.count c = 0 := List.count_eq_zero.2 (fun hm => h2 c hm rfl)
      omega
    have hi : Lib.index l [c] = (pos c l : Int) := by rw [Lib.index_one, indexByte_pos, if_pos hb]
    have hc := count_cut c l hb
    unfold Lib.splitK
    rw [hi, if_neg (by simp), partsL_cut c l hb, Int.toNat_natCast, Nat.add_zero, List.length_singleton, ih _ (by omega)]
theorem countB_slash (s : ByteArray) : Lib.countB s ⟨#[47]⟩ = s.data.toList.count 47 := Lib.count_one 47 s.data.toList
theorem splitB_parts (s : ByteArray) (k : Nat) (h : s.data.toList.count 47 = k) : (Lib.splitB ⟨#[47]⟩ 0 k s).map Value.string = strC (partsL 47 s.data.toList) := by
  have hd := Lib.splitB_data ⟨#[47]⟩ 0 k s
  rw [show (⟨#[47]⟩ : ByteArray).data.toList = [47] from rfl, splitK_parts 47 k _ h] at hd
  rw [← hd]
  unfold strC
  rw [List.map_map]
  refine List.map_congr_left fun x _ => ?_
  show Value.string x = strV x.data.toList
  unfold strV
  congr 1
/-! ### strings.Join -/
/-- may a part be a name -/
def nameB (l : List UInt8) : Bool := !(decide (l = [])) && !(decide (l = [46])) && !(decide (l = [46, 46]))
theorem nameB_false (l : List UInt8) (h : l = [] ∨ l = [46] ∨ l = [46, 46]) : nameB l = false := by
  rcases h with rfl | rfl | rfl <;> rfl
theorem nameB_true (l : List UInt8) (h : l ≠ []) (h1 : l ≠ [46]) (h2 : l ≠ [46, 46]) : nameB l = true := by simp [nameB, h, h1, h2]
/-- what Check says of a path -/
def pathE (l : List UInt8) : Int :=
  if l.length < 1 ∨ 400 < l.length then 1 else if hasB 0 l = true then 3 else if (partsL 47 l).all nameB = true then 0 else 9
theorem pathE_size {l : List UInt8} (h : l.length < 1 ∨ 400 < l.length) : pathE l = 1 := if_pos h
theorem pathE_form {l : List UInt8} (h : ¬ (l.length < 1 ∨ 400 < l.length)) (h2 : hasB 0 l = true) : pathE l = 3 := by rw [pathE, if_neg h, if_pos h2]
theorem pathE_ok {l : List UInt8} (h : ¬ (l.length < 1 ∨ 400 < l.length)) (h2 : hasB 0 l = false) (h3 : (partsL 47 l).all nameB = true) : pathE l = 0 := by rw [pathE, if_neg h, if_neg (by simp [h2]), if_pos h3]
theorem pathE_no {l : List UInt8} (h : ¬ (l.length < 1 ∨ 400 < l.length)) (h2 : hasB 0 l = false) (h3 : (partsL 47 l).all nameB = false) : pathE l = 9 := by rw [pathE, if_neg h, if_neg (by simp [h2]), if_neg (by simp [h3])]
def allE (ls : List (List UInt8)) : Int := if ls.all nameB = true then 0 else 9
theorem allE_yes {ls : List (List UInt8)} (h : ls.all nameB = true) : allE ls = 0 := if_pos h
theorem allE_no {ls : List (List UInt8)} (h : ls.all nameB = false) : allE ls = 9 := if_neg (by simp [h])
theorem all_take_no (ls : List (List UInt8)) (p : List UInt8 → Bool) (k : Nat) (hk : k < ls.length) (h : p (ls.getD k []) = false) : ls.all p = false := by
  rw [← Bool.not_eq_true, List.all_eq_true]
  intro h2
  rw [List.getD_eq_getElem?_getD, List.getElem?_eq_getElem hk] at h
  have := h2 _ (List.getElem_mem hk)
  rw [Option.getD_some] at h
  rw [h] at this; cases this
theorem all_take_snoc (ls : List (List UInt8)) (p : List UInt8 → Bool) (k : Nat) (hk : k < ls.length) (h0 : (ls.take k).all p = true) (h : p (ls.getD k []) = true) : (ls.take (k + 1)).all p = true := by
  rw [getD_take_snoc ls k hk, List.all_append, h0]; simpa using h
theorem eq_const (s : ByteArray) (l : List UInt8) : (s.toList = l) = (s.data.toList = l) := by
  rw [ByteArray.toList_eq]
end Go.Proofs.YtdcbmjihpjnbbaaDoor
/- Plain mathematics of nodes and trees: what is wrong with them, finding, putting, removing; nothing of the program. -/
set_option linter.unusedVariables false
namespace Go.Proofs.YtdcbmjihpjnbbaaDoor
open Go.RowKit
theorem MetaV.ext_iff' (a b : MetaV) : (a.mode = b.mode ∧ a.uid = b.uid ∧ a.gid = b.gid ∧ a.user = b.user ∧ a.group = b.group ∧ a.second = b.second ∧ a.nano = b.nano) ↔ a = b := by
  constructor
  · rintro ⟨h1, h2, h3, h4, h5, h6, h7⟩
    cases a; cases b; simp_all
  · rintro rfl; exact ⟨rfl, rfl, rfl, rfl, rfl, rfl, rfl⟩
instance : DecidableEq MetaV := fun a b => decidable_of_iff _ (MetaV.ext_iff' a b)
theorem NodeV.ext_iff' (a b : NodeV) : (a.path = b.path ∧ a.kind = b.kind ∧ a.same = b.same ∧ a.target = b.target ∧ a.md = b.md ∧ a.data = b.data) ↔ a = b := by
  constructor
  · rintro ⟨h1, h2, h3, h4, h5, h6⟩
    cases a; cases b; simp_all
  · rintro rfl; exact ⟨rfl, rfl, rfl, rfl, rfl, rfl⟩
instance : DecidableEq NodeV := fun a b => decidable_of_iff _ (NodeV.ext_iff' a b)
/-- what is wrong with a node's kind, target, number and data -/
def nodK (n : NodeV) : Int :=
  if n.kind = 1 then (if n.target ≠ [] ∨ n.same < 0 then 3 else if 2000 < n.data.length then 1 else 0)
  else if n.kind = 2 ∨ n.kind = 3 then
    (if n.data ≠ [] ∨ n.same ≠ 0 ∨ (n.kind = 2 ∧ n.target ≠ []) ∨ (n.kind = 3 ∧ n.target = []) ∨ hasB 0 n.target = true then 3 else if 400 < n.target.length then 1 else 0)
  else 2
/-- what is wrong with a node -/
def nodE (n : NodeV) : Int := if pathE n.path ≠ 0 then pathE n.path else if metE n.md ≠ 0 then metE n.md else nodK n
theorem nodE_path {n : NodeV} (h : pathE n.path ≠ 0) : nodE n = pathE n.path := if_pos h
theorem nodE_meta {n : NodeV} (h : pathE n.path = 0) (h2 : metE n.md ≠ 0) : nodE n = metE n.md := by unfold nodE; rw [if_neg (by simp [h]), if_pos h2]
theorem nodE_kind {n : NodeV} (h : pathE n.path = 0) (h2 : metE n.md = 0) : nodE n = nodK n := by unfold nodE; rw [if_neg (by simp [h]), if_neg (by simp [h2])]
/-- the place of the first node with a path, or as many as there are -/
def findL (t : List NodeV) (s : List UInt8) : Nat := (t.takeWhile fun n => !decide (n.path = s)).length
theorem findL_le (t : List NodeV) (s : List UInt8) : findL t s ≤ t.length := by
  unfold findL
  induction t with
  | nil => exact Nat.le_refl _
  | cons a t ih => rw [List.takeWhile_cons]; split <;> simp_all <;> omega
theorem findL_ne (t : List NodeV) (s : List UInt8) (k : Nat) (h : k < findL t s) (hk : k < t.length) : t[k].path ≠ s := by
  induction t generalizing k with
  | nil => exact absurd hk (by simp)
  | cons a t ih =>
    unfold findL at h
    rw [List.takeWhile_cons] at h
    by_cases e : a.path = s
    · simp [e] at h
    · simp only [e, decide_false, Bool.not_false, if_true, List.length_cons] at h
      cases k with
      | zero => simpa using e
      | succ k => simpa using ih k (by unfold findL; omega) (by simpa using hk)
theorem findL_at (t : List NodeV) (s : List UInt8) (h : findL t s < t.length) : (t[findL t s]'h).path = s := by
  induction t with
  | nil => exact absurd h (by simp)
  | cons a t ih =>
    by_cases e : a.path = s
    · have h0 : findL (a :: t) s = 0 := by unfold findL; simp [e]
      simp only [h0]; exact e
    · have h1 : findL (a :: t) s = findL t s + 1 := by unfold findL; simp [e]
      have h' : findL t s < t.length := by rw [h1, List.length_cons] at h; omega
      have := ih h'
      simp [h1, this]
theorem findL_stop (t : List NodeV) (s : List UInt8) (k : Nat) (hk : k < t.length) (h : k ≤ findL t s) (e : t[k].path = s) : findL t s = k := by
  rcases Nat.lt_or_eq_of_le h with h' | h'
  · exact absurd e (findL_ne t s k h' hk)
  · exact h'.symm
theorem findL_step (t : List NodeV) (s : List UInt8) (k : Nat) (hk : k < t.length) (h : k ≤ findL t s) (e : t[k].path ≠ s) : k + 1 ≤ findL t s := by
  rcases Nat.lt_or_eq_of_le h with h' | h'
  · exact h'
  · subst h'; exact absurd (findL_at t s hk) e
/-- is the directory of a path there -/
def upOk (t : List NodeV) (p : List UInt8) : Bool := decide (upL p = []) || t.any fun n => decide (n.path = upL p) && decide (n.kind = 2)
/-- is another node of the same file another one -/
def linkNo (t : List NodeV) (n : NodeV) : Bool := decide (n.same ≠ 0) && t.any fun x => decide (x.same = n.same) && !(decide (x.md = n.md) && decide (x.data = n.data))
/-- what is wrong with a node behind others -/
def atE (t : List NodeV) (n : NodeV) : Int :=
  if nodE n ≠ 0 then nodE n
  else if (match t.getLast? with | some x => !decide (pcmp x.path n.path = -1) | none => false) = true then 6
  else if upOk t n.path = false then 10
  else if linkNo t n = true then 11
  else 0
/-- what is wrong with nodes, those ahead of them being t -/
def walkE (t : List NodeV) : List NodeV → Int
  | [] => 0
  | n :: l => if atE t n ≠ 0 then atE t n else walkE (t ++ [n]) l
/-- what is wrong with a tree -/
def treeE (t : List NodeV) : Int := if 40 < t.length then 1 else walkE [] t
/-- a tree with a node put in, in the order of paths -/
def putL (t : List NodeV) (n : NodeV) : List NodeV := t.filter (fun x => decide (pcmp x.path n.path < 0)) ++ n :: t.filter fun x => decide (0 < pcmp x.path n.path)
/-- a tree without a path and all in it -/
def remL (t : List NodeV) (s : List UInt8) : List NodeV := t.filter fun n => !(decide (n.path = s) || inB n.path s)
def putT (t : List NodeV) (n : NodeV) : List NodeV × Int := if treeE t ≠ 0 then ([], treeE t) else if treeE (putL t n) ≠ 0 then ([], treeE (putL t n)) else (putL t n, 0)
def remT (t : List NodeV) (s : List UInt8) : List NodeV × Int := if treeE t ≠ 0 then ([], treeE t) else if findL t s = t.length then ([], 5) else (remL t s, 0)
/-- strictly rising paths -/
def Rises (t : List NodeV) : Prop := t.Pairwise fun x y => pcmp x.path y.path = -1
end Go.Proofs.YtdcbmjihpjnbbaaDoor
/- Plain mathematics of valid trees; nothing of the program. -/
set_option linter.unusedVariables false
namespace Go.Proofs.YtdcbmjihpjnbbaaDoor
open Go.RowKit
theorem plt_trans {a b c : List UInt8} (h1 : pcmp a b = -1) (h2 : pcmp b c = -1) : pcmp a c = -1 := by
  have h := pcmp_trans a b c (by omega) (by omega)
  have hb := pcmp_bd a c
  rcases Int.lt_or_eq_of_le h with h | h
  · omega
  · have := (pcmp_zero a c).1 h
    subst this
    have := pcmp_neg a b; omega
/-- what a tree is, apart from its size -/
structure Sound (t : List NodeV) : Prop where
  rises : Rises t
  node : ∀ n ∈ t, nodE n = 0
  up : ∀ n ∈ t, upL n.path = [] ∨ ∃ d ∈ t, d.path = upL n.path ∧ d.kind = 2
  link : ∀ x ∈ t, ∀ y ∈ t, x.same = y.same → x.same ≠ 0 → x.md = y.md ∧ x.data = y.data
theorem rises_get {t : List NodeV} (h : Rises t) (i j : Nat) (hi : i < t.length) (hj : j < t.length) (hij : i < j) : pcmp t[i].path t[j].path = -1 :=
  (List.pairwise_iff_getElem.1 h) i j hi hj hij
theorem rises_snoc {t : List NodeV} {n : NodeV} (h : Rises t) (hl : ∀ x, t.getLast? = some x → pcmp x.path n.path = -1) : Rises (t ++ [n]) := by
  unfold Rises at *
  rw [List.pairwise_append]
  refine ⟨h, List.pairwise_singleton _ _, fun x hx y hy => ?_⟩
  obtain rfl : y = n := by simpa using hy
  obtain ⟨i, hi, rfl⟩ := List.getElem_of_mem hx
  have hne : t ≠ [] := by intro e; subst e; simp at hi
  have hlast := hl _ (List.getLast?_eq_some_getLast hne)
  rw [List.getLast_eq_getElem] at hlast
  rcases Nat.lt_or_eq_of_le (show i ≤ t.length - 1 by omega) with h' | h'
  · exact plt_trans (rises_get h i (t.length - 1) hi (by omega) h') hlast
  · subst h'; exact hlast
/-! ### removing -/
/-! ### finding -/
/-! ### putting -/
/-! ### putting, node by node -/
/-- all ahead are less -/
def AllLt (t : List NodeV) (p : List UInt8) : Prop := ∀ x ∈ t, pcmp x.path p < 0
end Go.Proofs.YtdcbmjihpjnbbaaDoor
/- Plain mathematics of hard links: the first name of a file, how many it has, numbers given anew. Nothing of the program. -/
set_option linter.unusedVariables false
namespace Go.Proofs.YtdcbmjihpjnbbaaDoor
open Go.RowKit
/-- which file a node is -/
def sameAt (t : List NodeV) (i : Nat) : Int := (t[i]?.map NodeV.same).getD 0
theorem sameAt_at {t : List NodeV} {i : Nat} (h : i < t.length) : sameAt t i = t[i].same := by unfold sameAt; rw [List.getElem?_eq_getElem h]; rfl
/-- is the k-th node another name of the i-th one's file? -/
def eqF (t : List NodeV) (k i : Nat) : Bool := decide (sameAt t i ≠ 0 ∧ sameAt t k = sameAt t i)
/-- the first node that is the i-th one's file -/
def firstF (t : List NodeV) (i : Nat) : Nat := ((List.range i).find? fun k => eqF t k i).getD i
/-- does a node count as a name of the i-th one's file? -/
def isF (t : List NodeV) (i k : Nat) : Bool := decide (k = i) || (decide (0 < sameAt t i) && decide (sameAt t k = sameAt t i))
def namesF (t : List NodeV) (i : Nat) : Nat := (List.range t.length).countP (isF t i)
/-- the tree with numbers given anew -/
def anewN (t : List NodeV) (i : Nat) (x : NodeV) : NodeV := { x with same := if 1 < namesF t i then (firstF t i : Int) + 1 else 0 }
def anewF (t : List NodeV) : List NodeV := t.mapIdx fun i x => anewN t i x
end Go.Proofs.YtdcbmjihpjnbbaaDoor
/- Plain mathematics of hard links in sound trees: numbers given anew keep a tree sound. -/
set_option linter.unusedVariables false
namespace Go.Proofs.YtdcbmjihpjnbbaaDoor
open Go.RowKit
theorem node_kind {x : NodeV} (h : nodE x = 0) : nodK x = 0 := by
  unfold nodE at h
  split at h
  · rename_i h1; exact absurd h h1
  · split at h
    · rename_i h1; exact absurd h h1
    · exact h
theorem node_same {x : NodeV} (h : nodE x = 0) : 0 ≤ x.same ∧ (x.same ≠ 0 → x.kind = 1) := by
  have hk := node_kind h
  unfold nodK at hk
  split at hk
  · rename_i h1
    split at hk
    · cases hk
    · rename_i h2
      refine ⟨?_, fun _ => h1⟩
      apply Classical.byContradiction
      intro hc
      exact h2 (.inr (by omega))
  · split at hk
    · split at hk
      · cases hk
      · rename_i h2
        have h0 : x.same = 0 := by
          apply Classical.byContradiction
          intro hc
          exact h2 (.inr (.inl hc))
        exact ⟨by omega, fun hc => absurd h0 hc⟩
    · cases hk
theorem Sound.pos {t : List NodeV} (h : Sound t) (i : Nat) : 0 ≤ sameAt t i := by
  by_cases hi : i < t.length
  · rw [sameAt_at hi]; exact (node_same (h.node _ (List.getElem_mem hi))).1
  · unfold sameAt
    rw [List.getElem?_eq_none (by omega)]
    exact Int.le_refl _
theorem count_one (i n : Nat) : (List.range n).countP (fun k => decide (k = i)) ≤ if i < n then 1 else 0 := by
  induction n with
  | zero => simp
  | succ n ih =>
    rw [List.range_succ, List.countP_append, List.countP_singleton]
    by_cases h1 : n = i
    · rw [if_pos (decide_eq_true h1), if_pos (by omega)]
      rw [if_neg (by omega)] at ih
      omega
    · rw [if_neg (by simpa using h1)]
      by_cases h2 : i < n
      · rw [if_pos h2] at ih
        rw [if_pos (by omega)]
        omega
      · rw [if_neg h2] at ih
        rw [if_neg (by omega)]
        omega
/-- two trees alike: the same but for numbers, and these tell of the same files -/
def alikeF (a b : List NodeV) : Prop := a.length = b.length ∧ (∀ i (h : i < a.length) (h2 : i < b.length), ({ a[i] with same := 0 } : NodeV) = { b[i] with same := 0 }) ∧
  ∀ i k, k < i → i < a.length → (0 < sameAt a i ∧ sameAt a i = sameAt a k ↔ 0 < sameAt b i ∧ sameAt b i = sameAt b k)
end Go.Proofs.YtdcbmjihpjnbbaaDoor
/- Plain mathematics of members: what is wrong with them, how a tree is planned, and grown of them. Nothing of the program. -/
set_option linter.unusedVariables false
namespace Go.Proofs.YtdcbmjihpjnbbaaDoor
open Go.RowKit
structure EntV where
  path : List UInt8
  kind : Int
  target : List UInt8
  md : MetaV
  data : List UInt8
instance : Inhabited EntV := ⟨⟨[], 0, [], ⟨0, 0, 0, [], [], 0, 0⟩, []⟩⟩
theorem EntV.ext_iff' (a b : EntV) : (a.path = b.path ∧ a.kind = b.kind ∧ a.target = b.target ∧ a.md = b.md ∧ a.data = b.data) ↔ a = b := by
  constructor
  · rintro ⟨h1, h2, h3, h4, h5⟩
    cases a; cases b; simp_all
  · rintro rfl; exact ⟨rfl, rfl, rfl, rfl, rfl⟩
instance : DecidableEq EntV := fun a b => decidable_of_iff _ (EntV.ext_iff' a b)
/-- a member as a node: its number is 0 -/
def EntV.nod (x : EntV) : NodeV := ⟨x.path, x.kind, 0, x.target, x.md, x.data⟩
/-- a node as a member -/
def NodeV.ent (x : NodeV) : EntV := ⟨x.path, x.kind, x.target, x.md, x.data⟩
/-- what is wrong with a member's kind, target and data -/
def entK (x : EntV) : Int :=
  if x.kind < 1 ∨ 4 < x.kind then 2
  else if (2 < x.kind ∧ x.target = []) ∨ (¬ 2 < x.kind ∧ x.target ≠ []) ∨ (1 < x.kind ∧ x.data ≠ []) then 3
  else if 2000 < x.data.length ∨ 400 < x.target.length then 1
  else if x.kind = 4 then pathE x.target
  else if hasB 0 x.target = true then 3 else 0
/-- what is wrong with a member -/
def entE (x : EntV) : Int := if pathE x.path ≠ 0 then pathE x.path else if metE x.md ≠ 0 then metE x.md else entK x
theorem entE_parts {x : EntV} (h : entE x = 0) : pathE x.path = 0 ∧ metE x.md = 0 ∧ entK x = 0 := by
  unfold entE at h
  split at h
  · rename_i h1; exact absurd h h1
  · rename_i h1
    split at h
    · rename_i h2; exact absurd h h2
    · rename_i h2
      exact ⟨by simpa using h1, by simpa using h2, h⟩
/-- the place of the first member with a path, or as many as there are -/
def findE (l : List EntV) (s : List UInt8) : Nat := findL (l.map EntV.nod) s
theorem findE_le (l : List EntV) (s : List UInt8) : findE l s ≤ l.length := by
  have := findL_le (l.map EntV.nod) s
  rwa [List.length_map] at this
theorem findE_at (l : List EntV) (s : List UInt8) (h : findE l s < l.length) : (l[findE l s]'h).path = s := by
  have := findL_at (l.map EntV.nod) s (by rw [List.length_map]; exact h)
  rw [List.getElem_map] at this
  exact this
theorem findE_ne (l : List EntV) (s : List UInt8) (k : Nat) (h : k < findE l s) (hk : k < l.length) : l[k].path ≠ s := by
  have := findL_ne (l.map EntV.nod) s k h (by rw [List.length_map]; exact hk)
  rw [List.getElem_map] at this
  exact this
theorem findE_stop (l : List EntV) (s : List UInt8) (k : Nat) (hk : k < l.length) (h : k ≤ findE l s) (e : l[k].path = s) : findE l s = k :=
  findL_stop (l.map EntV.nod) s k (by rw [List.length_map]; exact hk) h (by rw [List.getElem_map]; exact e)
theorem findE_step (l : List EntV) (s : List UInt8) (k : Nat) (hk : k < l.length) (h : k ≤ findE l s) (e : l[k].path ≠ s) : k + 1 ≤ findE l s :=
  findL_step (l.map EntV.nod) s k (by rw [List.length_map]; exact hk) h (by rw [List.getElem_map]; exact e)
/-- is the directory of a path among the members ahead -/
def upE (l : List EntV) (p : List UInt8) : Bool := decide (upL p = []) || if h : findE l (upL p) < l.length then decide ((l[findE l (upL p)]'h).kind = 2) else false
/-- is the file of a link among the members ahead -/
def aimE (l : List EntV) (x : EntV) : Bool := decide (x.kind ≠ 4) || if h : findE l x.target < l.length then decide ((l[findE l x.target]'h).kind = 1) && decide ((l[findE l x.target]'h).md = x.md) else false
/-- what is wrong with a member behind others -/
def eatE (l : List EntV) (x : EntV) : Int :=
  if entE x ≠ 0 then entE x
  else if (match l.getLast? with | some y => !decide (pcmp y.path x.path = -1) | none => false) = true then 6
  else if upE l x.path = false then 10
  else if aimE l x = false then 11
  else 0
/-- what is wrong with members, those ahead of them being l -/
def ewalkE (l : List EntV) : List EntV → Int
  | [] => 0
  | x :: m => if eatE l x ≠ 0 then eatE l x else ewalkE (l ++ [x]) m
/-- what is wrong with a list of members -/
def entsE (l : List EntV) : Int := if 40 < l.length then 1 else ewalkE [] l
theorem ewalkE_app (t l m : List EntV) (h : ewalkE t l = 0) : ewalkE t (l ++ m) = ewalkE (t ++ l) m := by
  induction l generalizing t with
  | nil => simp
  | cons n l ih =>
    rw [ewalkE] at h
    rw [List.cons_append, ewalkE]
    by_cases e : eatE t n ≠ 0
    · rw [if_pos e] at h; exact absurd h e
    · rw [if_neg e] at h ⊢
      rw [ih _ h]; simp
theorem ewalkE_stop (l : List EntV) (k : Nat) (hk : k < l.length) (h : ewalkE [] (l.take k) = 0) (he : eatE (l.take k) l[k] ≠ 0) : ewalkE [] l = eatE (l.take k) l[k] := by
  have h1 := ewalkE_app [] (l.take k) (l.drop k) h
  rw [List.take_append_drop, List.nil_append, List.drop_eq_getElem_cons hk, ewalkE, if_pos he] at h1
  exact h1
theorem ewalkE_step (l : List EntV) (k : Nat) (hk : k < l.length) (h : ewalkE [] (l.take k) = 0) (he : eatE (l.take k) l[k] = 0) : ewalkE [] (l.take (k + 1)) = 0 := by
  have h1 := ewalkE_app [] (l.take k) [l[k]] h
  rw [← List.take_succ_eq_append_getElem hk, List.nil_append, ewalkE, if_neg (by simp [he]), ewalkE] at h1
  exact h1
theorem ewalkE_all (l : List EntV) : ∀ s, ewalkE s l = 0 ↔ ∀ k (hk : k < l.length), eatE (s ++ l.take k) l[k] = 0 := by
  induction l with
  | nil => intro s; simp [ewalkE]
  | cons n l ih =>
    intro s
    rw [ewalkE]
    constructor
    · intro h k hk
      by_cases e : eatE s n ≠ 0
      · rw [if_pos e] at h; exact absurd h e
      · rw [if_neg e] at h
        cases k with
        | zero => simp only [List.take_zero, List.append_nil, List.getElem_cons_zero]; simpa using e
        | succ k =>
          have := (ih _).1 h k (by simpa using hk)
          simpa using this
    · intro h
      have h0 : eatE s n = 0 := by
        have := h 0 (by simp)
        simpa only [List.take_zero, List.append_nil, List.getElem_cons_zero] using this
      rw [if_neg (by simp [h0])]
      refine (ih _).2 fun k hk => ?_
      have := h (k + 1) (by simpa using hk)
      simpa using this
theorem eatE_zero (l : List EntV) (x : EntV) : eatE l x = 0 ↔ entE x = 0 ∧ (∀ y, l.getLast? = some y → pcmp y.path x.path = -1) ∧ upE l x.path = true ∧ aimE l x = true := by
  unfold eatE
  by_cases h1 : entE x ≠ 0
  · rw [if_pos h1]; exact ⟨fun h => absurd h h1, fun h => absurd h.1 h1⟩
  · rw [if_neg h1]
    have h1' : entE x = 0 := by simpa using h1
    cases hg : l.getLast? with
    | none =>
      simp only [Bool.false_eq_true, if_false]
      cases upE l x.path <;> cases aimE l x <;> simp [h1']
    | some y =>
      by_cases h2 : pcmp y.path x.path = -1
      · cases upE l x.path <;> cases aimE l x <;> simp [h1', h2]
      · simp [h2]
/-- the member of the i-th node of a tree: a link where the same file stands ahead -/
def planE (t : List NodeV) (i : Nat) (x : NodeV) : EntV :=
  if 0 < x.same ∧ firstF t i < i then ⟨x.path, 4, ((t[firstF t i]?).map NodeV.path).getD [], x.md, []⟩ else x.ent
def planL (t : List NodeV) : List EntV := t.mapIdx fun i x => planE t i x
/-- the node of the i-th member -/
def growE (l : List EntV) (i : Nat) (x : EntV) : NodeV :=
  if x.kind = 4 then ⟨x.path, 1, (findE l x.target : Nat) + 1, [], x.md, ((l[findE l x.target]?).map EntV.data).getD []⟩
  else ⟨x.path, x.kind, if x.kind = 1 ∧ (l.any fun y => decide (y.kind = 4) && decide (y.target = x.path)) = true then (i : Int) + 1 else 0, x.target, x.md, x.data⟩
def growL (l : List EntV) : List NodeV := l.mapIdx fun i x => growE l i x
end Go.Proofs.YtdcbmjihpjnbbaaDoor
/- Plain mathematics of the cutting of paths; nothing of the program. -/
set_option linter.unusedVariables false
namespace Go.Proofs.YtdcbmjihpjnbbaaDoor
open Go.RowKit
/-- at the byte i a long path may be cut -/
def fits (l : List UInt8) (i : Nat) : Bool := decide (1 ≤ i ∧ i ≤ 155 ∧ i + 2 ≤ l.length ∧ l.length ≤ i + 101) && (l.getD i 0 == 47)
/-- the first such byte -/
def cutAt (l : List UInt8) : Option Nat := (List.range l.length).find? (fits l)
/-- none below k -/
def noFit (l : List UInt8) (k : Nat) : Prop := ∀ j, j < k → fits l j = false
/-- where it is cut, or -1 -/
def slashV (l : List UInt8) : Int := match cutAt l with | some k => k | none => -1
/-- the two parts of a path and the error -/
def cutV (l : List UInt8) : List UInt8 × List UInt8 × Int :=
  if l = [] ∨ hasB 0 l = true then ([], [], 3)
  else if l.length ≤ 100 then ([], l, 0)
  else match cutAt l with
    | some k => (l.take k, l.drop (k + 1), 0)
    | none => ([], [], 1)
/-- a prefix and a name put together -/
def joinP (p n : List UInt8) : List UInt8 := if p = [] then n else p ++ [47] ++ n
/-- the path of two parts and the error -/
def oneV (p n : List UInt8) : List UInt8 × Int :=
  if n.length < 1 ∨ 100 < n.length ∨ 155 < p.length then ([], 1)
  else if cutV (joinP p n) = (p, n, 0) then (joinP p n, 0)
  else ([], 3)
/-! ### three parts of one byte each -/
/-- the path of CutShort -/
def xyz (a b c : Nat) : List UInt8 := List.replicate a 120 ++ [47] ++ List.replicate b 121 ++ [47] ++ List.replicate c 122
end Go.Proofs.YtdcbmjihpjnbbaaDoor
/- Plain mathematics of length-prefixed records; nothing of the program. -/
set_option linter.unusedVariables false
namespace Go.Proofs.YtdcbmjihpjnbbaaDoor
open Go.RowKit
/-! ### how long a record is -/
/-- the length of a record, its own number with it, where all but the number has L bytes -/
def recN (L : Nat) : Nat := if L + 1 < 10 then L + 1 else if L + 2 < 100 then L + 2 else L + 3
/-! ### the text of a record -/
def chkR (k v : List UInt8) : Int :=
  if k.length = 0 ∨ 60 < k.length ∨ 500 < v.length then 1
  else if hasB 61 k = true ∨ hasB 10 k = true ∨ hasB 0 v = true then 3 else 0
/-- all of a record behind its number -/
def recT (k v : List UInt8) : List UInt8 := 32 :: (k ++ 61 :: (v ++ [10]))
def recL (k v : List UInt8) : List UInt8 := Lib.decDigits (recN (k.length + v.length + 3)) ++ recT k v
def recW (k v : List UInt8) : ByteArray × Int := if chkR k v = 0 then (bs (recL k v), 0) else (⟨#[]⟩, chkR k v)
/-! ### reading a record -/
def dVal (l : List UInt8) : Nat := l.foldl (fun a c => 10 * a + (c.toNat - 48)) 0
/-- the digits ahead -/
def digP (l : List UInt8) : List UInt8 := l.takeWhile isD
/-- is the front of a record as it must be: one to four digits, the first not 0, a space -/
def frontOk (l : List UInt8) : Prop := 1 ≤ (digP l).length ∧ (digP l).length ≤ 4 ∧ l.head? ≠ some 48 ∧ l[(digP l).length]? = some 32
instance (l : List UInt8) : Decidable (frontOk l) := by unfold frontOk; infer_instance
/-- what stands between the space and the line feed -/
def bodyR (l : List UInt8) : List UInt8 := (l.take (dVal (digP l) - 1)).drop ((digP l).length + 1)
/-- the key, the value, what is behind, the error -/
def recR (l : List UInt8) : List UInt8 × List UInt8 × List UInt8 × Int :=
  if ¬ frontOk l then ([], [], [], 3)
  else if l.length < dVal (digP l) then ([], [], [], 7)
  else if dVal (digP l) < (digP l).length + 2 ∨ l[dVal (digP l) - 1]? ≠ some 10 then ([], [], [], 3)
  else if hasB 61 (bodyR l) = false then ([], [], [], 3)
  else if chkR ((bodyR l).take (pos 61 (bodyR l))) ((bodyR l).drop (pos 61 (bodyR l) + 1)) ≠ 0 then ([], [], [], chkR ((bodyR l).take (pos 61 (bodyR l))) ((bodyR l).drop (pos 61 (bodyR l) + 1)))
  else if recL ((bodyR l).take (pos 61 (bodyR l))) ((bodyR l).drop (pos 61 (bodyR l) + 1)) ≠ l.take (dVal (digP l)) then ([], [], [], 3)
  else ((bodyR l).take (pos 61 (bodyR l)), (bodyR l).drop (pos 61 (bodyR l) + 1), l.drop (dVal (digP l)), 0)
end Go.Proofs.YtdcbmjihpjnbbaaDoor
/- Plain mathematics of reading a record; nothing of the program. -/
set_option linter.unusedVariables false
namespace Go.Proofs.YtdcbmjihpjnbbaaDoor
open Go.RowKit
/-- one to four digits, the first not 0 -/
def numB (l : List UInt8) : Bool := decide (1 ≤ l.length ∧ l.length ≤ 4 ∧ l.head? ≠ some 48) && l.all isD
/-! ### the split -/
def splB (l : List UInt8) (st : Nat) : List UInt8 := Lib.trimSuffix (l.drop st) [10]
def splO (l : List UInt8) (st : Nat) : Bool := decide (st < l.length) && (Lib.hasSuffix (l.drop st) [10] && hasB 61 (splB l st))
def splK (l : List UInt8) (st : Nat) : List UInt8 := (splB l st).take (pos 61 (splB l st))
def splV (l : List UInt8) (st : Nat) : List UInt8 := (splB l st).drop (pos 61 (splB l st) + 1)
/-! ### what is read, case by case -/
section
variable {l : List UInt8} {n p : Nat} (hb : hasB 32 l = true) (hn : numB (l.take (pos 32 l)) = true) (hp : pos 32 l = p) (hv : dVal (l.take (pos 32 l)) = n)
include hb hn hv
end
end Go.Proofs.YtdcbmjihpjnbbaaDoor
/- Plain mathematics of lists of records; nothing of the program. -/
set_option linter.unusedVariables false
namespace Go.Proofs.YtdcbmjihpjnbbaaDoor
open Go.RowKit
/-! ### the order of texts -/
/-! ### lists of records -/
abbrev Rc : Type := List UInt8 × List UInt8
def chkG : List UInt8 → List Rc → Int
  | _, [] => 0
  | last, r :: l => if chkR r.1 r.2 ≠ 0 then chkR r.1 r.2 else if Op.bytesLess last r.1 = true then chkG r.1 l else 6
def chkP (l : List Rc) : Int := if 12 < l.length then 1 else chkG [] l
def textP (l : List Rc) : List UInt8 := l.flatMap fun r => recL r.1 r.2
def paxW (l : List Rc) : List UInt8 × Int := if chkP l = 0 then (textP l, 0) else ([], chkP l)
/-! ### reading -/
def rdP : Nat → List UInt8 → List Rc × Int
  | 0, _ => ([], 0)
  | _ + 1, [] => ([], 0)
  | f + 1, c :: l =>
    if (recR (c :: l)).2.2.2 ≠ 0 then ([], (recR (c :: l)).2.2.2)
    else if (rdP f (recR (c :: l)).2.2.1).2 ≠ 0 then ([], (rdP f (recR (c :: l)).2.2.1).2)
    else (((recR (c :: l)).1, (recR (c :: l)).2.1) :: (rdP f (recR (c :: l)).2.2.1).1, 0)
/-- all the records of a text, the error -/
def rdAll (l : List UInt8) : List Rc × Int := rdP l.length l
/-- the same, behind the records that were read before -/
def rdAcc (acc : List Rc) (l : List UInt8) : List Rc × Int := if (rdAll l).2 ≠ 0 then ([], (rdAll l).2) else (acc ++ (rdAll l).1, 0)
def paxR (l : List UInt8) : List Rc × Int := if (rdAll l).2 ≠ 0 then ([], (rdAll l).2) else if chkP (rdAll l).1 ≠ 0 then ([], chkP (rdAll l).1) else ((rdAll l).1, 0)
/-! ### finding -/
def paxF : List Rc → List UInt8 → List UInt8 × Bool
  | [], _ => ([], false)
  | r :: l, key => if r.1 = key then (r.2, true) else paxF l key
end Go.Proofs.YtdcbmjihpjnbbaaDoor
/- Plain mathematics of header blocks; nothing of the program. -/
set_option linter.unusedVariables false
namespace Go.Proofs.YtdcbmjihpjnbbaaDoor
open Go.RowKit
/-! ### the sum of a block -/
def sumB (l : List UInt8) : Nat := (l.map fun c => c.toNat).sum
/-- what the first k bytes of a block sum up to, its checksum field read as spaces -/
def sumK (l : List UInt8) (k : Nat) : Nat := sumB (l.take (min k 148)) + 32 * (min k 156 - 148) + sumB ((l.take k).drop 156)
/-- the sum of a block -/
def sumH (l : List UInt8) : Nat := sumB (l.take 148) + 256 + sumB (l.drop 156)
def sumV (l : List UInt8) : Int × Int := if l.length = 512 then ((sumH l : Int), 0) else (0, 1)
/-! ### the checksum field -/
def ckL (n : Nat) : List UInt8 := D n 6 ++ [0] ++ [32]
/-- is the checksum field of a block that of its sum? -/
def ckOk (l : List UInt8) : Bool := decide ((l.take 156).drop 148 = ckL (sumH l))
/-! ### headers -/
structure HeadV where
  name : List UInt8
  pre : List UInt8
  link : List UInt8
  mode : Int
  uid : Int
  gid : Int
  size : Int
  time : Int
  typ : UInt8
  user : List UInt8
  group : List UInt8
def headZ : HeadV := ⟨[], [], [], 0, 0, 0, 0, 0, 0, [], []⟩
def typB (c : UInt8) : Bool := hasB c [48, 49, 50, 53, 120]
def magicL : List UInt8 := [117, 115, 116, 97, 114, 0, 48, 48]
/-- the first error of a list -/
def first1 (w e : Int) : Int := if w = 0 then e else w
def firstE (l : List Int) : Int := l.foldl first1 0
def fw (l : List UInt8) (x : Int) (wh : Bool) : List UInt8 := (fldW l x wh).1.data.toList
def ow (n x : Int) : List UInt8 := (octW n x).1.data.toList
def frontH (h : HeadV) : List UInt8 := fw h.name 100 true ++ ow h.mode 8 ++ ow h.uid 8 ++ ow h.gid 8 ++ ow h.size 12 ++ ow h.time 12
def backH (h : HeadV) : List UInt8 := [h.typ] ++ fw h.link 100 true ++ magicL ++ fw h.user 32 false ++ fw h.group 32 false ++ ow 0 8 ++ ow 0 8 ++ fw h.pre 155 true ++ List.replicate 12 0
def errsH (h : HeadV) : List Int := [(fldW h.name 100 true).2, (octW h.mode 8).2, (octW h.uid 8).2, (octW h.gid 8).2, (octW h.size 12).2, (octW h.time 12).2, (fldW h.link 100 true).2, (fldW h.user 32 false).2, (fldW h.group 32 false).2, (octW 0 8).2, (octW 0 8).2, (fldW h.pre 155 true).2]
def headE (h : HeadV) : Int := if typB h.typ = true then firstE (errsH h) else 2
def headW (h : HeadV) : ByteArray × Int := if headE h = 0 then (bs (frontH h ++ (ckL (sumB (frontH h) + 256 + sumB (backH h)) ++ backH h)), 0) else (⟨#[]⟩, headE h)
/-! ### reading a block -/
def sl (l : List UInt8) (a b : Nat) : List UInt8 := (l.take b).drop a
def zeroL : List UInt8 := [48, 48, 48, 48, 48, 48, 48, 0, 48, 48, 48, 48, 48, 48, 48, 0]
def rdS (l : List UInt8) (a b : Nat) (wh : Bool) : List UInt8 := (fldR (sl l a b) wh).1.data.toList
def readH (l : List UInt8) : HeadV :=
  ⟨rdS l 0 100 true, rdS l 345 500 true, rdS l 157 257 true, (octR (sl l 100 108)).1, (octR (sl l 108 116)).1, (octR (sl l 116 124)).1, (octR (sl l 124 136)).1, (octR (sl l 136 148)).1, l.getD 156 0, rdS l 265 297 false, rdS l 297 329 false⟩
def bad (b : Bool) : Int := if b = true then 0 else 3
def errsR (l : List UInt8) : List Int :=
  [(fldR (sl l 0 100) true).2, (octR (sl l 100 108)).2, (octR (sl l 108 116)).2, (octR (sl l 116 124)).2, (octR (sl l 124 136)).2, (octR (sl l 136 148)).2, bad (typB (l.getD 156 0)), (fldR (sl l 157 257) true).2, bad (decide (sl l 257 265 = magicL)),
    (fldR (sl l 265 297) false).2, (fldR (sl l 297 329) false).2, bad (decide (sl l 329 345 = zeroL)), (fldR (sl l 345 500) true).2, bad (decide (sl l 500 512 = List.replicate 12 0))]
def headR (l : List UInt8) : HeadV × Int :=
  if l.length ≠ 512 then (headZ, 1) else if ckOk l = false then (headZ, 8) else if firstE (errsR l) ≠ 0 then (headZ, firstE (errsR l)) else (readH l, 0)
/-! ### what was written is read -/
def partsH (h : HeadV) (ck : List UInt8) : List (List UInt8) :=
  [fw h.name (100 : Nat) true, ow h.mode (8 : Nat), ow h.uid (8 : Nat), ow h.gid (8 : Nat), ow h.size (12 : Nat), ow h.time (12 : Nat), ck, [h.typ], fw h.link (100 : Nat) true, magicL, fw h.user (32 : Nat) false, fw h.group (32 : Nat) false, zeroL, fw h.pre (155 : Nat) true, List.replicate 12 0]
end Go.Proofs.YtdcbmjihpjnbbaaDoor
/- Plain mathematics of padding; nothing of the program. -/
set_option linter.unusedVariables false
namespace Go.Proofs.YtdcbmjihpjnbbaaDoor
open Go.RowKit
/-- the number of blocks of n bytes -/
def padN (n : Nat) : Nat := (n + 511) / 512
def padB (n : Int) : Int × Int := if 0 ≤ n ∧ n < 8589934592 then ((padN n.toNat : Int), 0) else (0, 4)
/-- bytes filled up -/
def padF (l : List UInt8) : List UInt8 := l ++ List.replicate (512 * padN l.length - l.length) 0
/-- what is cut off -/
def padC (l : List UInt8) (n : Int) : (List UInt8 × List UInt8) × Int :=
  if 0 ≤ n ∧ n < 8589934592 then
    if l.length < 512 * padN n.toNat then (([], []), 7)
    else if allZ ((l.take (512 * padN n.toNat)).drop n.toNat) = true then ((l.take n.toNat, l.drop (512 * padN n.toNat)), 0) else (([], []), 3)
  else (([], []), 4)
end Go.Proofs.YtdcbmjihpjnbbaaDoor
/- Plain mathematics of members as bytes: their records, their headers, their encoding. Nothing of the program. (Stage 17, ahead.) -/
set_option linter.unusedVariables false
namespace Go.Proofs.YtdcbmjihpjnbbaaDoor
open Go.RowKit
def kGid : List UInt8 := [103, 105, 100]
def kGname : List UInt8 := [103, 110, 97, 109, 101]
def kLink : List UInt8 := [108, 105, 110, 107, 112, 97, 116, 104]
def kMtime : List UInt8 := [109, 116, 105, 109, 101]
def kPath : List UInt8 := [112, 97, 116, 104]
def kUid : List UInt8 := [117, 105, 100]
def kUname : List UInt8 := [117, 110, 97, 109, 101]
def atLong : List UInt8 := [64, 108, 111, 110, 103]
def atPax : List UInt8 := [64, 112, 97, 120]
/-- is the time beyond a header? -/
def lateM (x : EntV) : Bool := decide (x.md.nano ≠ 0 ∨ x.md.second < 0 ∨ 8589934592 ≤ x.md.second)
def recIf (b : Bool) (k v : List UInt8) : List Rc := if b = true then [(k, v)] else []
/-- the records of a member, sorted by key -/
def recsM (x : EntV) : List Rc :=
  recIf (decide (2097152 ≤ x.md.gid)) kGid (Lib.itoa x.md.gid) ++ (recIf (decide (31 < x.md.group.length)) kGname x.md.group ++ (recIf (decide (100 < x.target.length)) kLink x.target ++
  (recIf (lateM x) kMtime (tText x.md.second x.md.nano).1.data.toList ++ (recIf (decide ((cutV x.path).2.2 ≠ 0)) kPath x.path ++ (recIf (decide (2097152 ≤ x.md.uid)) kUid (Lib.itoa x.md.uid) ++ recIf (decide (31 < x.md.user.length)) kUname x.md.user)))))
/-- the type of a kind -/
def typM (k : Int) : UInt8 := if k = 1 then 48 else if k = 2 then 53 else if k = 3 then 50 else 49
/-- the header of a member -/
def headM (x : EntV) : HeadV :=
  { name := if (cutV x.path).2.2 ≠ 0 then atLong else (cutV x.path).2.1
    pre := (cutV x.path).1
    link := if 100 < x.target.length then atLong else x.target
    mode := x.md.mode
    uid := if 2097152 ≤ x.md.uid then 0 else x.md.uid
    gid := if 2097152 ≤ x.md.gid then 0 else x.md.gid
    size := x.data.length
    time := if lateM x = true then 0 else x.md.second
    typ := typM x.kind
    user := if 31 < x.md.user.length then [] else x.md.user
    group := if 31 < x.md.group.length then [] else x.md.group }
/-- the header of the records -/
def paxH (n : Nat) : HeadV := { headZ with name := atPax, size := n, typ := 120 }
/-- the encoding of a member -/
def bytesM (x : EntV) : List UInt8 :=
  (if recsM x = [] then [] else (headW (paxH (paxW (recsM x)).1.length)).1.data.toList ++ padF (paxW (recsM x)).1) ++ ((headW (headM x)).1.data.toList ++ padF x.data)
end Go.Proofs.YtdcbmjihpjnbbaaDoor
/- Plain mathematics of lists of records, continued: reading from a front, the records that are kept, sorted keys; nothing of the program. -/
set_option linter.unusedVariables false
namespace Go.Proofs.YtdcbmjihpjnbbaaDoor
open Go.RowKit
/-! ### what a reading says of the text -/
/-- the size of the encoding that a text begins with -/
def szR (l : List UInt8) : Nat := if (recR l).2.2.2 = 0 then (recL (recR l).1 (recR l).2.1).length else 0
/-! ### the records that are kept while reading: thirteen at most -/
/-! ### sorted keys -/
end Go.Proofs.YtdcbmjihpjnbbaaDoor
/- Reading header blocks as the program does; plain mathematics. -/
set_option linter.unusedVariables false
namespace Go.Proofs.YtdcbmjihpjnbbaaDoor
open Go.RowKit
def zero8 : List UInt8 := [48, 48, 48, 48, 48, 48, 48, 0]
/-- the errors of a reading, in the program's order -/
def errsP (l : List UInt8) : List Int :=
  [(fldR (sl l 0 100) true).2, (octR (sl l 100 108)).2, (octR (sl l 108 116)).2, (octR (sl l 116 124)).2, (octR (sl l 124 136)).2, (octR (sl l 136 148)).2, bad (typB (l.getD 156 0)), (fldR (sl l 157 257) true).2, bad (decide (sl l 257 265 = magicL)),
    (fldR (sl l 265 297) false).2, (fldR (sl l 297 329) false).2, (octR (sl l 329 337)).2, bad (decide ((octR (sl l 329 337)).1 = 0)), (octR (sl l 337 345)).2, bad (decide ((octR (sl l 337 345)).1 = 0)), (fldR (sl l 345 500) true).2, bad (decide (sl l 500 512 = List.replicate 12 0))]
/-! ### bytes of a text's rest -/
end Go.Proofs.YtdcbmjihpjnbbaaDoor
/- Plain mathematics of members as bytes: the header and the records of a good member are good. Nothing of the program. (Stage 17, ahead.) -/
set_option linter.unusedVariables false
namespace Go.Proofs.YtdcbmjihpjnbbaaDoor
open Go.RowKit
/-- what is asked of a good member's texts -/
structure GoodT (x : EntV) : Prop where
  path : 1 ≤ x.path.length ∧ x.path.length ≤ 400 ∧ hasB 0 x.path = false
  target : x.target.length ≤ 400 ∧ hasB 0 x.target = false
  data : x.data.length ≤ 2000
  kind : 1 ≤ x.kind ∧ x.kind ≤ 4
  mode : 0 ≤ x.md.mode ∧ x.md.mode ≤ 4095
  uid : 0 ≤ x.md.uid ∧ x.md.uid ≤ 1125899906842624
  gid : 0 ≤ x.md.gid ∧ x.md.gid ≤ 1125899906842624
  user : x.md.user.length ≤ 60 ∧ hasB 0 x.md.user = false
  group : x.md.group.length ≤ 60 ∧ hasB 0 x.md.group = false
  time : inT x.md.second x.md.nano = true
theorem pathE_zero0 {p : List UInt8} (h : pathE p = 0) : 1 ≤ p.length ∧ p.length ≤ 400 ∧ hasB 0 p = false := by
  unfold pathE at h
  split at h
  · cases h
  · rename_i h1
    split at h
    · cases h
    · rename_i h2
      exact ⟨by omega, by omega, by simpa using h2⟩
theorem entE_good {x : EntV} (h : entE x = 0) : GoodT x := by
  obtain ⟨h1, h2, h3⟩ := entE_parts h
  have hm : ((0 ≤ x.md.mode ∧ x.md.mode ≤ 4095) ∧ (0 ≤ x.md.uid ∧ x.md.uid ≤ 1125899906842624) ∧ (0 ≤ x.md.gid ∧ x.md.gid ≤ 1125899906842624)) ∧ (x.md.user.length ≤ 60 ∧ x.md.group.length ≤ 60) ∧ (hasB 0 x.md.user = false ∧ hasB 0 x.md.group = false) ∧ inT x.md.second x.md.nano = true := by
    unfold metE at h2
    split at h2
    · rename_i a
      rw [Bool.and_eq_true, Bool.and_eq_true] at a
      obtain ⟨⟨a1, a2⟩, a3⟩ := a
      split at h2
      · cases h2
      · rename_i b
        split at h2
        · cases h2
        · rename_i c
          have c' : (hasB 0 x.md.user || hasB 0 x.md.group) = false := by simpa using c
          rw [Bool.or_eq_false_iff] at c'
          refine ⟨⟨of_decide_eq_true a1, of_decide_eq_true a2, of_decide_eq_true a3⟩, by omega, c', ?_⟩
          unfold inE at h2
          split at h2
          · assumption
          · cases h2
    · cases h2
  have hk : (1 ≤ x.kind ∧ x.kind ≤ 4) ∧ x.data.length ≤ 2000 ∧ x.target.length ≤ 400 ∧ hasB 0 x.target = false := by
    unfold entK at h3
    split at h3
    · cases h3
    · rename_i a
      split at h3
      · cases h3
      · split at h3
        · cases h3
        · rename_i c
          split at h3
          · exact ⟨by omega, by omega, by omega, (pathE_zero0 h3).2.2⟩
          · split at h3
            · cases h3
            · rename_i d
              exact ⟨by omega, by omega, by omega, by simpa using d⟩
  exact ⟨pathE_zero0 h1, ⟨hk.2.2.1, hk.2.2.2⟩, hk.2.1, hk.1, hm.1.1, hm.1.2.1, hm.1.2.2, ⟨hm.2.1.1, hm.2.2.1.1⟩, ⟨hm.2.1.2, hm.2.2.1.2⟩, hm.2.2.2⟩
/-! ### the records -/
def recs3 (L : List (Bool × List UInt8 × List UInt8)) : List Rc := L.flatMap fun t => recIf t.1 t.2.1 t.2.2
/-- how many records there are -/
def longM (x : EntV) : Nat := (if 2097152 ≤ x.md.gid then 1 else 0) + (if 31 < x.md.group.length then 1 else 0) + (if 100 < x.target.length then 1 else 0) + (if lateM x = true then 1 else 0) + (if 2097152 ≤ x.md.uid then 1 else 0) + (if 31 < x.md.user.length then 1 else 0)
end Go.Proofs.YtdcbmjihpjnbbaaDoor
/- Plain mathematics of lines. Nothing of the program. (Stage 20, ahead.) -/
set_option linter.unusedVariables false
namespace Go.Proofs.YtdcbmjihpjnbbaaDoor
open Go.RowKit
/-- a number of two digits at least -/
def twoM (n : Int) : List UInt8 := if n < 10 then 48 :: Lib.itoa n else Lib.itoa n
/-- the letter of a kind -/
def kindC (k : Int) : UInt8 := if k = 1 then 45 else if k = 2 then 100 else if k = 3 then 108 else 104
/-- a name, or a number -/
def orN (s : List UInt8) (n : Int) : List UInt8 := if s = [] then Lib.itoa n else s
/-- what stands at a line's end -/
def tailM (x : EntV) : List UInt8 := if x.kind = 3 then [32, 45, 62, 32] ++ x.target else if x.kind = 4 then [32, 108, 105, 110, 107, 32, 116, 111, 32] ++ x.target else []
/-- a line up to the number of bytes -/
def lineH (x : EntV) : List UInt8 := kindC x.kind :: mdL x.md.mode.toNat ++ [32] ++ orN x.md.user x.md.uid ++ [47] ++ orN x.md.group x.md.gid ++ [32] ++ Lib.itoa (x.data.length : Nat)
/-- the date, and the path -/
def lineD (x : EntV) (y m d l : Int) : List UInt8 := [32] ++ Lib.itoa y ++ [45] ++ twoM m ++ [45] ++ twoM d ++ [32] ++ twoM (l / 3600) ++ [58] ++ twoM (l % 3600 / 60) ++ [32] ++ x.path
/-- a member's line, its date given -/
def lineM (x : EntV) (y m d : Int) : List UInt8 := lineH x ++ lineD x y m d (x.md.second % 86400) ++ tailM x
theorem itoa_short {n : Int} (h1 : -1000000000000000000 < n) (h2 : n < 1000000000000000000) : (Lib.itoa n).length ≤ 19 := by
  unfold Lib.itoa
  by_cases h : n < 0
  · rw [if_pos h, List.length_cons]
    have := decDigits_len n.natAbs 17 (by omega)
    omega
  · rw [if_neg h]
    have := decDigits_len n.toNat 17 (by omega)
    omega
theorem twoM_short {n : Int} (h1 : -1000000000000000000 < n) (h2 : n < 1000000000000000000) : (twoM n).length ≤ 20 := by
  have := itoa_short h1 h2
  unfold twoM
  split
  · rw [List.length_cons]; omega
  · omega
theorem orN_short {s : List UInt8} {n : Int} (h : s.length ≤ 60) (h1 : 0 ≤ n) (h2 : n ≤ 1125899906842624) : (orN s n).length ≤ 60 := by
  have := itoa_short (n := n) (by omega) (by omega)
  unfold orN
  split <;> omega
theorem bs_plus (a b : List UInt8) : bs a ++ bs b = bs (a ++ b) := by
  apply ByteArray.ext
  simp [bs, ByteArray.data_append]
end Go.Proofs.YtdcbmjihpjnbbaaDoor
/- Plain mathematics of what is near a directory in the order of paths. -/
set_option linter.unusedVariables false
namespace Go.Proofs.YtdcbmjihpjnbbaaDoor
open Go.RowKit
theorem between_pre (d x t : List UInt8) (h1 : pcmp d x < 0) (h2 : pcmp x (d ++ 47 :: t) < 0) : d ++ [47] <+: x := by
  induction d generalizing x with
  | nil =>
    cases x with
    | nil => rw [pcmp_nil_nil] at h1; omega
    | cons y x =>
      rw [List.nil_append, pcmp_cons] at h2
      by_cases e : y = 47
      · subst e; exact ⟨x, rfl⟩
      · rw [if_neg e] at h2
        have hr := rk_lo y
        have h47 : rk 47 = -1 := rfl
        rcases sgn_cases (rk y) (rk 47) with ⟨_, a⟩ | ⟨a, _⟩ | ⟨a, _⟩ <;> omega
  | cons c d ih =>
    cases x with
    | nil => rw [pcmp_cons_nil] at h1; omega
    | cons y x =>
      rw [List.cons_append] at h2 ⊢
      rw [pcmp_cons] at h1 h2
      by_cases e : c = y
      · subst e
        rw [if_pos rfl] at h1 h2
        obtain ⟨u, hu⟩ := ih x h1 h2
        exact ⟨u, by rw [List.cons_append, List.append_assoc] at *; simp [← hu]⟩
      · rw [if_neg e] at h1
        rw [if_neg (fun a => e a.symm)] at h2
        rcases sgn_cases (rk c) (rk y) with ⟨_, a⟩ | ⟨a, _⟩ | ⟨a, _⟩ <;> rcases sgn_cases (rk y) (rk c) with ⟨_, b⟩ | ⟨b, _⟩ | ⟨b, _⟩ <;> omega
theorem between {d x e : List UInt8} (h : inB e d = true) (h1 : pcmp d x < 0) (h2 : pcmp x e < 0) : inB x d = true := by
  by_cases hd : d = []
  · subst hd
    cases x with
    | nil => rw [pcmp_nil_nil] at h1; omega
    | cons y x => rw [inB_nil]; simp
  · rw [inB_ne hd, decide_eq_true_eq] at h ⊢
    obtain ⟨t, rfl⟩ := h
    rw [List.append_assoc, List.singleton_append] at h2
    exact between_pre d x t h1 h2
end Go.Proofs.YtdcbmjihpjnbbaaDoor
/- Plain mathematics of traversing a tree: what lies in a directory is its nodes, each followed by what lies in it. Nothing of the program. -/
set_option linter.unusedVariables false
namespace Go.Proofs.YtdcbmjihpjnbbaaDoor
open Go.RowKit
/-- the nodes directly in a directory -/
def kids (t : List NodeV) (d : List UInt8) : List NodeV := t.filter fun x => decide (upL x.path = d)
/-- all nodes in a directory, at any depth -/
def subs (t : List NodeV) (d : List UInt8) : List NodeV := t.filter fun x => inB x.path d
/-- the answer of Names -/
def namesT (t : List NodeV) (d : List UInt8) : List (List UInt8) := (kids t d).map fun x => baseL x.path
theorem Sound.path {t : List NodeV} (hs : Sound t) {x : NodeV} (hx : x ∈ t) : pathE x.path = 0 := by
  by_cases h : pathE x.path = 0
  · exact h
  · have := hs.node x hx
    rw [nodE_path h] at this; exact this
end Go.Proofs.YtdcbmjihpjnbbaaDoor
/- Plain mathematics of members as bytes: how long they are; header and records tell the whole member but its bytes. Nothing of the program. (Stage 17, ahead.) -/
set_option linter.unusedVariables false
namespace Go.Proofs.YtdcbmjihpjnbbaaDoor
open Go.RowKit
/-! ### what header and records tell -/
def look (K : List UInt8) (l : List Rc) : Option (List UInt8) := (l.find? fun r => decide (r.1 = K)).map (·.2)
end Go.Proofs.YtdcbmjihpjnbbaaDoor
/- Plain mathematics of members read: what bytes tell, and that it is told of one member alone. Nothing of the program. (Stage 17, ahead.) -/
set_option linter.unusedVariables false
namespace Go.Proofs.YtdcbmjihpjnbbaaDoor
open Go.RowKit
/-- the bytes of a header -/
def hdB (h : HeadV) : List UInt8 := (headW h).1.data.toList
/-- the first block of bytes, with what it has: the header, that, how many bytes these are; what is wrong -/
def firstM (b : List UInt8) : (HeadV × List UInt8 × Nat) × Int :=
  if b.length < 512 then ((headZ, [], 0), 7)
  else if (headR (b.take 512)).2 ≠ 0 then ((headZ, [], 0), (headR (b.take 512)).2)
  else if (padC (b.drop 512) (headR (b.take 512)).1.size).2 ≠ 0 then ((headZ, [], 0), (padC (b.drop 512) (headR (b.take 512)).1.size).2)
  else (((headR (b.take 512)).1, (padC (b.drop 512) (headR (b.take 512)).1.size).1.1, 512 + 512 * padN (padC (b.drop 512) (headR (b.take 512)).1.size).1.1.length), 0)
/-- what bytes tell: the header, the records, the data, how many bytes these are; what is wrong -/
def partsM (b : List UInt8) : (HeadV × List Rc × List UInt8 × Nat) × Int :=
  if (firstM b).2 ≠ 0 then ((headZ, [], [], 0), (firstM b).2)
  else if (firstM b).1.1.typ = 120 then
    if (paxR (firstM b).1.2.1).2 ≠ 0 then ((headZ, [], [], 0), (paxR (firstM b).1.2.1).2)
    else if (firstM (b.drop (firstM b).1.2.2)).2 ≠ 0 then ((headZ, [], [], 0), (firstM (b.drop (firstM b).1.2.2)).2)
    else (((firstM (b.drop (firstM b).1.2.2)).1.1, (paxR (firstM b).1.2.1).1, (firstM (b.drop (firstM b).1.2.2)).1.2.1, (firstM b).1.2.2 + (firstM (b.drop (firstM b).1.2.2)).1.2.2), 0)
  else (((firstM b).1.1, [], (firstM b).1.2.1, (firstM b).1.2.2), 0)
/-! ### reading -/
def entZ : EntV := ⟨[], 0, [], ⟨0, 0, 0, [], [], 0, 0⟩, []⟩
open Classical in
/-- the member that bytes begin with, how many bytes it has, what is wrong -/
noncomputable def readM (b : List UInt8) : (EntV × Nat) × Int :=
  if (partsM b).2 ≠ 0 then ((entZ, 0), (partsM b).2)
  else if h : ∃ x, entE x = 0 ∧ bytesM x = b.take (partsM b).1.2.2.2 then ((h.choose, (partsM b).1.2.2.2), 0) else ((entZ, 0), 3)
/-- a candidate that is right wherever the bytes are those of a member -/
def Told (h : HeadV) (rs : List Rc) (d : List UInt8) (y : EntV) : Prop := ∀ x, entE x = 0 → headM x = h → recsM x = rs → x.data = d → y = x
/-- the kind of a type -/
def kindT (c : UInt8) : Int := if c = 48 then 1 else if c = 53 then 2 else if c = 50 then 3 else if c = 49 then 4 else 0
end Go.Proofs.YtdcbmjihpjnbbaaDoor
/- Replacing bytes, by lists; nothing of the program. -/
set_option linter.unusedVariables false
namespace Go.Proofs.YtdcbmjihpjnbbaaDoor
open Go.RowKit
/-- each byte c is d -/
def rep (c d : UInt8) (l : List UInt8) : List UInt8 := l.map fun x => if x = c then d else x
theorem rep_length (c d : UInt8) (l : List UInt8) : (rep c d l).length = l.length := by simp [rep]
theorem rep_none (c d : UInt8) (l : List UInt8) (h : hasB c l = false) : rep c d l = l := by
  unfold rep
  conv => rhs; rw [← List.map_id l]
  apply List.map_congr_left
  intro x hx
  have : x ≠ c := by
    rintro rfl
    have h' : hasB x l = true := by unfold hasB; rw [List.any_eq_true]; exact ⟨x, hx, by simp⟩
    rw [h] at h'; cases h'
  simp [this]
theorem count_none (c : UInt8) (l : List UInt8) : l.count c = 0 ↔ hasB c l = false := by
  rw [List.count_eq_zero]
  unfold hasB
  rw [← Bool.not_eq_true, List.any_eq_true]
  constructor
  · rintro h ⟨x, hx, e⟩; exact h (by have := eq_of_beq e; subst this; exact hx)
  · intro h hx; exact h ⟨c, hx, by simp⟩
theorem split_pos (c : UInt8) (l : List UInt8) (h : pos c l < l.length) : l = l.take (pos c l) ++ c :: l.drop (pos c l + 1) := by
  conv => lhs; rw [← List.take_append_drop (pos c l) l]
  congr 1
  rw [List.drop_eq_getElem_cons h, pos_get c l h]
theorem rep_split (c d : UInt8) (l : List UInt8) (h : pos c l < l.length) : rep c d l = l.take (pos c l) ++ [d] ++ rep c d (l.drop (pos c l + 1)) := by
  conv => lhs; rw [split_pos c l h]
  have h1 := rep_none c d _ (hasB_take c l (pos c l) (Nat.le_refl _))
  unfold rep at h1 ⊢
  rw [List.map_append, h1, List.map_cons]; simp
theorem count_split (c : UInt8) (l : List UInt8) (h : pos c l < l.length) : l.count c = (l.drop (pos c l + 1)).count c + 1 := by
  conv => lhs; rw [split_pos c l h]
  have h1 := (count_none c _).2 (hasB_take c l (pos c l) (Nat.le_refl _))
  rw [List.count_append, h1, List.count_cons]; simp
/-- what 'clean' makes of a text -/
def cleanL (l : List UInt8) (m : Nat) : List UInt8 := (rep 0 48 l).take m
theorem hasB_mono (c : UInt8) (l : List UInt8) (m : Nat) (h : hasB c l = false) : hasB c (l.take m) = false := by
  unfold hasB at *
  rw [← Bool.not_eq_true, List.any_eq_true] at *
  rintro ⟨x, hx, e⟩; exact h ⟨x, List.mem_of_mem_take hx, e⟩
theorem hasB_rep (c d : UInt8) (l : List UInt8) (h : c ≠ d) : hasB c (rep c d l) = false := by
  unfold hasB rep
  rw [← Bool.not_eq_true, List.any_eq_true]
  rintro ⟨x, hx, e⟩
  rw [List.mem_map] at hx
  obtain ⟨y, _, rfl⟩ := hx
  by_cases hy : y = c
  · rw [if_pos hy] at e; exact h (eq_of_beq e).symm
  · rw [if_neg hy] at e; exact hy (eq_of_beq e)
theorem cleanL_has (l : List UInt8) (m : Nat) : hasB 0 (cleanL l m) = false := hasB_mono _ _ _ (hasB_rep 0 48 l (by decide))
theorem cleanL_le (l : List UInt8) (m : Nat) : (cleanL l m).length ≤ m := by unfold cleanL; rw [List.length_take]; omega
end Go.Proofs.YtdcbmjihpjnbbaaDoor
/- The drawing of trees: what is drawn; nothing of the program. -/
set_option linter.unusedVariables false
namespace Go.Proofs.YtdcbmjihpjnbbaaDoor
open Go.RowKit
def namesL : List (List UInt8) := [[97], [98], [97, 98], [66], [120, 32, 121], [195, 169], [99, 46, 116, 120, 116], List.replicate 60 110, List.replicate 130 109, [97, 33], [45]]
theorem namesL_length : namesL.length = 11 := rfl
def staffL : List UInt8 := [115, 116, 97, 102, 102]
def metaV (r : RawV) : MetaV :=
  { mode := pick r.a 4096
    uid := if pick r.kind 9 = 2 then pick r.b 1125899906842625 else pick r.b 3000
    gid := if pick r.kind 9 = 3 then pick r.a 1125899906842625 else pick r.a 3000
    user := cleanL r.text.data.toList 40
    group := if pick r.kind 9 = 4 then List.replicate (pick r.a 61).toNat 103 else staffL
    second := if pick r.kind 9 = 1 then -(pick r.b 17179869184) - 1 else pick r.b 17179869184
    nano := if pick r.kind 9 = 0 then pick r.a 1000000000 else 0 }
/-- the path that is drawn: a directory, a name -/
def pathT (ds : List (List UInt8)) (r : RawV) : List UInt8 :=
  let d := ds.getD (pick r.b ds.length).toNat []
  (if d = [] then [] else d ++ [47]) ++ namesL.getD (pick r.a 11).toNat []
def dataT (r : RawV) : List UInt8 := Lib.repeatL (cleanL r.text.data.toList 40) (pick r.b 30).toNat
def targT (r : RawV) : List UInt8 := 116 :: Lib.repeatL (cleanL r.text.data.toList 10) (pick r.a 20).toNat
def fileT (p : List UInt8) (r : RawV) : NodeV := ⟨p, 1, 0, [], metaV r, dataT r⟩
/-- one draw: the nodes, the directories -/
def stepT (m : Nat) (st : List NodeV × List (List UInt8)) (r : RawV) : List NodeV × List (List UInt8) :=
  if m ≤ st.1.length then st else
  let p := pathT st.2 r
  if 400 < p.length ∨ (st.1.any fun n => decide (n.path = p)) = true then st else
  let n := fileT p r
  let k := pick r.kind 7
  if k = 0 ∨ k = 1 then (st.1 ++ [{ n with kind := 2, data := [] }], st.2 ++ [p])
  else if k = 2 then (st.1 ++ [{ n with kind := 3, data := [], target := targT r }], st.2)
  else if k = 3 ∨ k = 4 then
    let j := (pick r.a (st.1.length + 1)).toNat
    match st.1[j]? with
    | none => (st.1 ++ [n], st.2)
    | some x => if x.kind = 1 then
        let x' := if x.same = 0 then { x with same := (j : Int) + 1 } else x
        (st.1.set j x' ++ [{ x' with path := p }], st.2)
      else (st.1 ++ [n], st.2)
  else (st.1 ++ [n], st.2)
def treeS (m : Nat) (rs : List RawV) : List NodeV × List (List UInt8) := rs.foldl (stepT m) ([], [[]])
/-- the bounds of a node -/
def Fits (n : NodeV) : Prop := n.path.length ≤ 400 ∧ n.data.length ≤ 1160
end Go.Proofs.YtdcbmjihpjnbbaaDoor
/- The trees that are drawn are valid; nothing of the program. -/
set_option linter.unusedVariables false
namespace Go.Proofs.YtdcbmjihpjnbbaaDoor
open Go.RowKit
theorem names_ok : ∀ x ∈ namesL, hasB 47 x = false ∧ hasB 0 x = false ∧ nameB x = true := by decide +kernel
theorem name_at (a : Int) : namesL.getD (pick a 11).toNat [] ∈ namesL := by
  have h := pick_bd a 11 (by omega)
  rw [List.getD_eq_getElem?_getD, List.getElem?_eq_getElem (by rw [namesL_length]; omega)]
  exact List.getElem_mem _
theorem hasB_append (c : UInt8) (a b : List UInt8) : hasB c (a ++ b) = (hasB c a || hasB c b) := by simp [hasB]
theorem repeatL_has (c : UInt8) (l : List UInt8) (n : Nat) (h : hasB c l = false) : hasB c (Lib.repeatL l n) = false := by
  induction n with
  | zero => rfl
  | succ n ih =>
    rw [show Lib.repeatL l (n + 1) = l ++ Lib.repeatL l n from rfl, hasB_append, h, ih]; rfl
theorem repeatL_len (l : List UInt8) (n : Nat) : (Lib.repeatL l n).length = l.length * n := by
  induction n with
  | zero => rfl
  | succ n ih => rw [show Lib.repeatL l (n + 1) = l ++ Lib.repeatL l n from rfl, List.length_append, ih, Nat.mul_succ, Nat.add_comm]
theorem metE_draw (r : RawV) : metE (metaV r) = 0 := by
  have m1 := pick_bd r.a 4096 (by omega)
  have u1 := pick_bd r.b 1125899906842625 (by omega)
  have u2 := pick_bd r.b 3000 (by omega)
  have g1 := pick_bd r.a 1125899906842625 (by omega)
  have g2 := pick_bd r.a 3000 (by omega)
  have s1 := pick_bd r.b 17179869184 (by omega)
  have n1 := pick_bd r.a 1000000000 (by omega)
  have k1 := pick_bd r.a 61 (by omega)
  have hu := cleanL_has r.text.data.toList 40
  have hl := cleanL_le r.text.data.toList 40
  have hg : (metaV r).group.length ≤ 60 ∧ hasB 0 (metaV r).group = false := by
    unfold metaV
    simp only
    split
    · refine ⟨by rw [List.length_replicate]; omega, ?_⟩
      rw [hasB_mem]; intro x hx; rw [(List.mem_replicate.1 hx).2]; decide
    · exact ⟨by decide, by decide⟩
  rw [metE_time]
  · unfold inE
    rw [if_pos (inT_mk _)]
    unfold metaV
    simp only
    refine ⟨?_, ?_, ?_, ?_⟩ <;> split <;> omega
  · unfold metaV
    simp only [Bool.and_eq_true]
    refine ⟨⟨mdB_yes (by omega), idB_yes ?_⟩, idB_yes ?_⟩ <;> split <;> omega
  · have : (metaV r).user.length ≤ 40 := hl
    omega
  · rw [hg.2, Bool.or_false]; exact hu
theorem data_len (r : RawV) : (dataT r).length ≤ 1160 := by
  have h := pick_bd r.b 30 (by omega)
  have hl := cleanL_le r.text.data.toList 40
  unfold dataT
  rw [repeatL_len]
  calc _ ≤ 40 * 29 := Nat.mul_le_mul hl (by omega)
    _ ≤ 1160 := by decide
theorem targ_ok (r : RawV) : (targT r).length ≤ 400 ∧ hasB 0 (targT r) = false ∧ targT r ≠ [] := by
  have h := pick_bd r.a 20 (by omega)
  have hl := cleanL_le r.text.data.toList 10
  refine ⟨?_, ?_, by unfold targT; simp⟩
  · unfold targT
    rw [List.length_cons, repeatL_len]
    have : (cleanL r.text.data.toList 10).length * (pick r.a 20).toNat ≤ 10 * 19 := Nat.mul_le_mul hl (by omega)
    omega
  · unfold targT
    rw [hasB_cons, repeatL_has 0 _ _ (cleanL_has _ _)]; rfl
/-- the path that is drawn -/
theorem path_draw (d name : List UInt8) (hd : d = [] ∨ pathE d = 0) (hn : name ∈ namesL) (hl : ¬ 400 < ((if d = [] then [] else d ++ [47]) ++ name).length) :
    pathE ((if d = [] then [] else d ++ [47]) ++ name) = 0 ∧ upL ((if d = [] then [] else d ++ [47]) ++ name) = d := by
  obtain ⟨h1, h2, h3⟩ := names_ok name hn
  have hne : name ≠ [] := by intro e; rw [e] at h3; exact absurd h3 (by decide)
  have hpos : 1 ≤ name.length := by
    cases name with
    | nil => exact absurd rfl hne
    | cons a l => simp
  by_cases e : d = []
  · subst e
    rw [if_pos rfl, List.nil_append] at hl ⊢
    refine ⟨pathE_ok (by omega) h2 ?_, (up_base_none name h1).1⟩
    rw [partsL_none 47 name h1]; simp [h3]
  · rw [if_neg e] at hl ⊢
    have hpd : pathE d = 0 := by
      rcases hd with h | h
      · exact absurd h e
      · exact h
    have hz : hasB 0 d = false ∧ (partsL 47 d).all nameB = true := by
      unfold pathE at hpd
      split at hpd
      · exact absurd hpd (by decide)
      · split at hpd
        · exact absurd hpd (by decide)
        · rename_i hh
          split at hpd
          · rename_i ha; exact ⟨by simpa using hh, ha⟩
          · exact absurd hpd (by decide)
    have ee : d ++ [47] ++ name = d ++ 47 :: name := by simp
    rw [ee] at hl ⊢
    refine ⟨pathE_ok (by rw [List.length_append, List.length_cons] at *; omega) ?_ ?_, (up_base_at _ d name h1 rfl).1⟩
    · rw [hasB_append, hz.1, hasB_cons, h2]; rfl
    · rw [partsL_app, List.all_append, hz.2, partsL_none 47 name h1]; simp [h3]
/-- the state of the draw -/
structure Drawn (ns : List NodeV) (ds : List (List UInt8)) : Prop where
  dirs : ∀ d ∈ ds, d = [] ∨ (pathE d = 0 ∧ ∃ n ∈ ns, n.path = d ∧ n.kind = 2)
  some : ds ≠ []
  node : ∀ n ∈ ns, nodE n = 0
  up : ∀ n ∈ ns, upL n.path = [] ∨ ∃ x ∈ ns, x.path = upL n.path ∧ x.kind = 2
  apart : (ns.map NodeV.path).Pairwise (· ≠ ·)
  first : ∀ x ∈ ns, x.same ≠ 0 → ∃ j, ∃ hj : j < ns.length, x.same = (j : Int) + 1 ∧ ns[j].same = (j : Int) + 1 ∧ ns[j].md = x.md ∧ ns[j].data = x.data
  plain : ∀ x ∈ ns, x.same ≠ 0 → x.kind = 1
/-- a new node that is of no file met -/
theorem Drawn.push {ns : List NodeV} {ds : List (List UInt8)} (h : Drawn ns ds) {n : NodeV} {ds' : List (List UInt8)} (he : nodE n = 0) (hs : n.same = 0) (hu : upL n.path = [] ∨ ∃ x ∈ ns, x.path = upL n.path ∧ x.kind = 2)
    (ha : ∀ x ∈ ns, x.path ≠ n.path) (hd : ds' = ds ∨ (ds' = ds ++ [n.path] ∧ n.kind = 2 ∧ pathE n.path = 0)) : Drawn (ns ++ [n]) ds' := by
  refine ⟨fun d hd' => ?_, ?_, fun x hx => ?_, fun x hx => ?_, ?_, fun x hx hne => ?_, fun x hx hne => ?_⟩
  · have old : d ∈ ds → d = [] ∨ (pathE d = 0 ∧ ∃ y ∈ ns ++ [n], y.path = d ∧ y.kind = 2) := fun hm => by
      rcases h.dirs d hm with e | ⟨e, y, hy, e2⟩
      · exact .inl e
      · exact .inr ⟨e, y, List.mem_append_left _ hy, e2⟩
    rcases hd with rfl | ⟨rfl, hk, hp⟩
    · exact old hd'
    · rcases List.mem_append.1 hd' with a | a
      · exact old a
      · obtain rfl : d = n.path := by simpa using a
        exact .inr ⟨hp, n, by simp, rfl, hk⟩
  · rcases hd with rfl | ⟨rfl, -⟩
    · exact h.some
    · simp
  · rcases List.mem_append.1 hx with a | a
    · exact h.node x a
    · obtain rfl : x = n := by simpa using a
      exact he
  · have hu' : upL n.path = [] ∨ ∃ x ∈ ns ++ [n], x.path = upL n.path ∧ x.kind = 2 := by
      rcases hu with e | ⟨y, hy, e⟩
      · exact .inl e
      · exact .inr ⟨y, List.mem_append_left _ hy, e⟩
    rcases List.mem_append.1 hx with a | a
    · rcases h.up x a with e | ⟨y, hy, e⟩
      · exact .inl e
      · exact .inr ⟨y, List.mem_append_left _ hy, e⟩
    · obtain rfl : x = n := by simpa using a
      exact hu'
  · rw [List.map_append, List.pairwise_append]
    refine ⟨h.apart, List.pairwise_singleton _ _, fun x hx y hy => ?_⟩
    obtain rfl : y = n.path := by simpa using hy
    obtain ⟨z, hz, rfl⟩ := List.mem_map.1 hx
    exact ha z hz
  · rcases List.mem_append.1 hx with a | a
    · obtain ⟨j, hj, e1, e2, e3⟩ := h.first x a hne
      exact ⟨j, by rw [List.length_append]; omega, e1, by rw [List.getElem_append_left hj]; exact e2, by rw [List.getElem_append_left hj]; exact e3⟩
    · obtain rfl : x = n := by simpa using a
      exact absurd hs hne
  · rcases List.mem_append.1 hx with a | a
    · exact h.plain x a hne
    · obtain rfl : x = n := by simpa using a
      exact absurd hs hne
theorem nodK_one {n : NodeV} (h : nodE n = 0) (hk : n.kind = 1) : n.target = [] ∧ 0 ≤ n.same ∧ n.data.length ≤ 2000 ∧ pathE n.path = 0 ∧ metE n.md = 0 := by
  by_cases h1 : pathE n.path = 0
  · by_cases h2 : metE n.md = 0
    · rw [nodE_kind h1 h2] at h
      unfold nodK at h
      rw [if_pos hk] at h
      by_cases h3 : n.target ≠ [] ∨ n.same < 0
      · rw [if_pos h3] at h; exact absurd h (by decide)
      · rw [if_neg h3] at h
        by_cases h4 : 2000 < n.data.length
        · rw [if_pos h4] at h; exact absurd h (by decide)
        · refine ⟨Classical.byContradiction fun e => h3 (.inl e), ?_, by omega, h1, h2⟩
          rcases Int.lt_or_le n.same 0 with e | e
          · exact absurd (.inr e) h3
          · exact e
    · rw [nodE_meta h1 h2] at h; exact absurd h h2
  · rw [nodE_path h1] at h; exact absurd h h1
theorem nodE_one {n : NodeV} (hk : n.kind = 1) (ht : n.target = []) (hs : 0 ≤ n.same) (hd : n.data.length ≤ 2000) (hp : pathE n.path = 0) (hm : metE n.md = 0) : nodE n = 0 := by
  rw [nodE_kind hp hm]
  unfold nodK
  rw [if_pos hk, if_neg (by rintro (e | e); exact e ht; omega), if_neg (by omega)]
/-- one more name of a file -/
theorem Drawn.name {ns : List NodeV} {ds : List (List UInt8)} (h : Drawn ns ds) {j : Nat} (hj : j < ns.length) (hk : ns[j].kind = 1) {x' : NodeV} (hx' : x' = if ns[j].same = 0 then { ns[j] with same := (j : Int) + 1 } else ns[j])
    {p : List UInt8} (hp : pathE p = 0) (hu : upL p = [] ∨ ∃ x ∈ ns, x.path = upL p ∧ x.kind = 2) (ha : ∀ x ∈ ns, x.path ≠ p) : Drawn (ns.set j x' ++ [{ x' with path := p }]) ds := by
  have e1 : x'.path = ns[j].path ∧ x'.kind = 1 ∧ x'.md = ns[j].md ∧ x'.data = ns[j].data ∧ x'.target = ns[j].target ∧ x'.same ≠ 0 ∧ 0 ≤ x'.same := by
    have := nodK_one (h.node _ (List.getElem_mem hj)) hk
    rw [hx']
    by_cases e : ns[j].same = 0
    · rw [if_pos e]; exact ⟨rfl, hk, rfl, rfl, rfl, by show (j : Int) + 1 ≠ 0; omega, by show 0 ≤ (j : Int) + 1; omega⟩
    · rw [if_neg e]; exact ⟨rfl, hk, rfl, rfl, rfl, e, this.2.1⟩
  obtain ⟨p1, p2, p3, p4, p5, p6, p7⟩ := e1
  obtain ⟨q1, q2, q3, q4, q5⟩ := nodK_one (h.node _ (List.getElem_mem hj)) hk
  have stay : ∀ y ∈ ns, y.kind = 2 → y ∈ ns.set j x' := by
    intro y hy hky
    obtain ⟨i, hi, rfl⟩ := List.getElem_of_mem hy
    have hij : j ≠ i := by rintro rfl; rw [hk] at hky; exact absurd hky (by decide)
    have e : (ns.set j x')[i]'(by rw [List.length_set]; exact hi) = ns[i] := List.getElem_set_ne hij _
    rw [← e]; exact List.getElem_mem _
  have hfirst : ∀ (s : Int) (md : MetaV) (dt : List UInt8), (∃ i : Nat, ∃ hi : i < ns.length, s = (i : Int) + 1 ∧ ns[i].same = (i : Int) + 1 ∧ ns[i].md = md ∧ ns[i].data = dt) →
      ∃ i : Nat, ∃ hi : i < (ns.set j x' ++ [{ x' with path := p }]).length, s = (i : Int) + 1 ∧ (ns.set j x' ++ [{ x' with path := p }])[i].same = (i : Int) + 1 ∧ (ns.set j x' ++ [{ x' with path := p }])[i].md = md ∧ (ns.set j x' ++ [{ x' with path := p }])[i].data = dt := by
    rintro s md dt ⟨i, hi, e1, e2, e3, e4⟩
    have hi2 : i < (ns.set j x').length := by rw [List.length_set]; exact hi
    refine ⟨i, by rw [List.length_append]; omega, e1, ?_⟩
    rw [List.getElem_append_left hi2]
    by_cases hij : j = i
    · subst hij
      rw [List.getElem_set_self, hx', if_neg (by omega)]
      exact ⟨e2, e3, e4⟩
    · rw [List.getElem_set_ne hij]; exact ⟨e2, e3, e4⟩
  have hnew : ∃ i : Nat, ∃ hi : i < (ns.set j x' ++ [{ x' with path := p }]).length, x'.same = (i : Int) + 1 ∧ (ns.set j x' ++ [{ x' with path := p }])[i].same = (i : Int) + 1 ∧ (ns.set j x' ++ [{ x' with path := p }])[i].md = x'.md ∧ (ns.set j x' ++ [{ x' with path := p }])[i].data = x'.data := by
    by_cases e : ns[j].same = 0
    · have hj2 : j < (ns.set j x').length := by rw [List.length_set]; exact hj
      refine ⟨j, by rw [List.length_append]; omega, by rw [hx', if_pos e], ?_⟩
      rw [List.getElem_append_left hj2, List.getElem_set_self]
      exact ⟨by rw [hx', if_pos e], rfl, rfl⟩
    · have e3 : x'.same = ns[j].same := by rw [hx', if_neg e]
      exact hfirst x'.same x'.md x'.data (by rw [e3, p3, p4]; exact h.first _ (List.getElem_mem hj) e)
  refine ⟨fun d hd => ?_, h.some, fun x hx => ?_, fun x hx => ?_, ?_, fun x hx hne => ?_, fun x hx hne => ?_⟩
  · rcases h.dirs d hd with e | ⟨e, y, hy, e2, e3⟩
    · exact .inl e
    · exact .inr ⟨e, y, List.mem_append_left _ (stay y hy e3), e2, e3⟩
  · rcases List.mem_append.1 hx with a | a
    · rcases List.mem_or_eq_of_mem_set a with b | b
      · exact h.node x b
      · subst b
        exact nodE_one p2 (by rw [p5, q1]) p7 (by rw [p4]; exact q3) (by rw [p1]; exact q4) (by rw [p3]; exact q5)
    · obtain rfl : x = { x' with path := p } := by simpa using a
      exact nodE_one p2 (show x'.target = [] by rw [p5, q1]) p7 (show x'.data.length ≤ 2000 by rw [p4]; exact q3) hp (show metE x'.md = 0 by rw [p3]; exact q5)
  · have lift : ∀ q : List UInt8, (upL q = [] ∨ ∃ y ∈ ns, y.path = upL q ∧ y.kind = 2) → upL q = [] ∨ ∃ y ∈ ns.set j x' ++ [{ x' with path := p }], y.path = upL q ∧ y.kind = 2 := by
      rintro q (e | ⟨y, hy, e2, e3⟩)
      · exact .inl e
      · exact .inr ⟨y, List.mem_append_left _ (stay y hy e3), e2, e3⟩
    rcases List.mem_append.1 hx with a | a
    · rcases List.mem_or_eq_of_mem_set a with b | b
      · exact lift _ (h.up x b)
      · subst b
        exact lift _ (by rw [p1]; exact h.up _ (List.getElem_mem hj))
    · obtain rfl : x = { x' with path := p } := by simpa using a
      exact lift _ hu
  · have em : (ns.set j x').map NodeV.path = ns.map NodeV.path := by
      rw [List.map_set, p1]
      apply List.ext_getElem
      · simp
      · intro i h1 h2
        rw [List.getElem_set]
        split
        · rename_i e; subst e; simp
        · rfl
    rw [List.map_append, em, List.pairwise_append]
    refine ⟨h.apart, List.pairwise_singleton _ _, fun x hx y hy => ?_⟩
    obtain rfl : y = p := by simpa using hy
    obtain ⟨z, hz, rfl⟩ := List.mem_map.1 hx
    exact ha z hz
  · rcases List.mem_append.1 hx with a | a
    · rcases List.mem_or_eq_of_mem_set a with b | b
      · exact hfirst _ _ _ (h.first x b hne)
      · subst b; exact hnew
    · obtain rfl : x = { x' with path := p } := by simpa using a
      exact hnew
  · rcases List.mem_append.1 hx with a | a
    · rcases List.mem_or_eq_of_mem_set a with b | b
      · exact h.plain x b hne
      · subst b; exact p2
    · obtain rfl : x = { x' with path := p } := by simpa using a
      exact p2
/-- one draw -/
theorem Drawn.step {ns : List NodeV} {ds : List (List UInt8)} (h : Drawn ns ds) (m : Nat) (r : RawV) : Drawn (stepT m (ns, ds) r).1 (stepT m (ns, ds) r).2 := by
  unfold stepT
  by_cases hm : m ≤ ns.length
  · rw [if_pos hm]; exact h
  rw [if_neg hm]
  simp only
  by_cases hp : 400 < (pathT ds r).length ∨ (ns.any fun n => decide (n.path = pathT ds r)) = true
  · rw [if_pos hp]; exact h
  rw [if_neg hp]
  have ha : ∀ x ∈ ns, x.path ≠ pathT ds r := fun x hx e => hp (.inr (List.any_eq_true.2 ⟨x, hx, by simpa using e⟩))
  have hpos : 1 ≤ ds.length := by
    rcases hds : ds with _ | ⟨a, l⟩
    · exact absurd hds h.some
    · simp
  have hb := pick_bd r.b ds.length (by omega)
  have hdm : ds.getD (pick r.b ds.length).toNat [] ∈ ds := by
    rw [List.getD_eq_getElem?_getD, List.getElem?_eq_getElem (by omega)]
    exact List.getElem_mem _
  have hdir := h.dirs _ hdm
  have hpath := path_draw (ds.getD (pick r.b ds.length).toNat []) (namesL.getD (pick r.a 11).toNat []) (by rcases hdir with e | ⟨e, -⟩; exact .inl e; exact .inr e) (name_at r.a) (fun e => hp (.inl e))
  have hpe : pathE (pathT ds r) = 0 := hpath.1
  have hup : upL (pathT ds r) = [] ∨ ∃ x ∈ ns, x.path = upL (pathT ds r) ∧ x.kind = 2 := by
    have e : upL (pathT ds r) = ds.getD (pick r.b ds.length).toNat [] := hpath.2
    rw [e]
    rcases hdir with e | ⟨-, y, hy, e2⟩
    · exact .inl e
    · exact .inr ⟨y, hy, e2⟩
  have hfile : nodE (fileT (pathT ds r) r) = 0 := nodE_one rfl rfl (Int.le_refl 0) (by have := data_len r; show (dataT r).length ≤ 2000; omega) hpe (metE_draw r)
  have one : Drawn (ns ++ [fileT (pathT ds r) r]) ds := h.push hfile rfl hup ha (.inl rfl)
  obtain ⟨t1, t2, t3⟩ := targ_ok r
  split
  · refine h.push ?_ rfl hup ha (.inr ⟨rfl, rfl, hpe⟩)
    rw [nodE_kind hpe (metE_draw r)]
    rfl
  · split
    · refine h.push ?_ rfl hup ha (.inl rfl)
      rw [nodE_kind hpe (metE_draw r)]
      unfold nodK
      simp only [fileT]
      rw [if_neg (by decide), if_pos (by decide), if_neg (by simp [t2, t3]), if_neg (by omega)]
    · split
      · cases hx : ns[(pick r.a (ns.length + 1)).toNat]? with
        | none => exact one
        | some x =>
          obtain ⟨hj, rfl⟩ := List.getElem?_eq_some_iff.1 hx
          simp only
          split
          · rename_i hk
            exact h.name hj hk rfl hpe hup ha
          · exact one
      · exact one
end Go.Proofs.YtdcbmjihpjnbbaaDoor
/- The members that are drawn are good; nothing of the program. (Stage 17, ahead.) -/
set_option linter.unusedVariables false
namespace Go.Proofs.YtdcbmjihpjnbbaaDoor
open Go.RowKit
/-- a text without a byte 0, of which no part is empty or begins with a dot, but for the last one, that may be empty -/
def mild : Bool → List UInt8 → Bool
  | _, [] => true
  | st, c :: l => decide (c ≠ 0) && !(st && (decide (c = 47) || decide (c = 46))) && mild (decide (c = 47)) l
theorem mild_cons {st : Bool} {c : UInt8} {l : List UInt8} (h : mild st (c :: l) = true) : c ≠ 0 ∧ (st = true → c ≠ 47 ∧ c ≠ 46) ∧ mild (decide (c = 47)) l = true := by
  unfold mild at h
  rw [Bool.and_eq_true, Bool.and_eq_true, decide_eq_true_eq] at h
  refine ⟨h.1.1, fun hs => ?_, h.2⟩
  have h2 := h.1.2
  rw [hs] at h2
  simpa using h2
theorem mild_take : ∀ (l : List UInt8) (st : Bool) (n : Nat), mild st l = true → mild st (l.take n) = true
  | [], st, n, h => by rw [List.take_nil]; rfl
  | c :: l, st, 0, h => rfl
  | c :: l, st, n + 1, h => by
    obtain ⟨h1, h2, h3⟩ := mild_cons h
    rw [List.take_succ_cons]
    unfold mild at h ⊢
    rw [Bool.and_eq_true] at h ⊢
    exact ⟨h.1, mild_take l _ n h3⟩
theorem mild_zero : ∀ (l : List UInt8) (st : Bool), mild st l = true → hasB 0 l = false
  | [], st, h => rfl
  | c :: l, st, h => by
    obtain ⟨h1, h2, h3⟩ := mild_cons h
    have := mild_zero l _ h3
    unfold hasB at this ⊢
    rw [List.any_cons, this, Bool.or_false]
    simpa using h1
theorem mild_free : ∀ (l : List UInt8), (∀ c ∈ l, c ≠ 0 ∧ c ≠ 47) → mild false l = true
  | [], h => rfl
  | c :: l, h => by
    have hc := h c (by simp)
    unfold mild
    rw [show decide (c = 47) = false by simpa using hc.2, mild_free l fun x hx => h x (by simp [hx])]
    simp [hc.1]
theorem mild_name {l : List UInt8} (h : l ≠ []) (h2 : ∀ c ∈ l, c ≠ 0 ∧ c ≠ 47) (h3 : l.head? ≠ some 46) (st : Bool) : mild st l = true := by
  cases l with
  | nil => exact absurd rfl h
  | cons c l =>
    have hc := h2 c (by simp)
    have h4 : c ≠ 46 := by simpa using h3
    unfold mild
    rw [show decide (c = 47) = false by simpa using hc.2, mild_free l fun x hx => h2 x (by simp [hx])]
    simp [hc.1, h4]
theorem mild_app : ∀ (l m : List UInt8) (st : Bool), mild st l = true → (l = [] → st = false) → (l.getLast? ≠ some 47) → mild true m = true → mild st (l ++ 47 :: m) = true
  | [], m, st, h, h0, h1, h2 => by
    rw [h0 rfl, List.nil_append]
    unfold mild
    rw [show decide ((47 : UInt8) = 47) = true from rfl, h2]; rfl
  | c :: l, m, st, h, h0, h1, h2 => by
    obtain ⟨a, b, d⟩ := mild_cons h
    have e : mild (decide (c = 47)) (l ++ 47 :: m) = true := by
      cases l with
      | nil =>
        have hc : c ≠ 47 := by simpa using h1
        refine mild_app [] m _ rfl (fun _ => by simpa using hc) (by simp) h2
      | cons x l => exact mild_app (x :: l) m _ d (fun h => by cases h) (by rw [List.getLast?_cons_cons] at h1; exact h1) h2
    rw [List.cons_append]
    unfold mild at h ⊢
    rw [Bool.and_eq_true] at h ⊢
    exact ⟨h.1, e⟩
/-- the parts of such a text are names, but for the first one where it does not begin there -/
theorem mild_parts : ∀ (l : List UInt8) (st : Bool), mild st l = true → l.getLast? ≠ some 47 → (st = true → l ≠ []) →
    ∃ h t, partsL 47 l = h :: t ∧ (∀ x ∈ t, nameB x = true) ∧ (st = true → nameB h = true)
  | [], st, h, h1, h2 => ⟨[], [], rfl, by simp, fun e => absurd rfl (h2 e)⟩
  | c :: l, st, h, h1, h2 => by
    obtain ⟨a, b, d⟩ := mild_cons h
    have hl : l.getLast? ≠ some 47 := by
      cases l with
      | nil => simp
      | cons x l => rw [List.getLast?_cons_cons] at h1; exact h1
    by_cases hc : c = 47
    · subst hc
      have hne : l ≠ [] := fun e => h1 (by rw [e]; rfl)
      obtain ⟨h', t', e, e1, e2⟩ := mild_parts l true d hl fun _ => hne
      refine ⟨[], h' :: t', by rw [partsL_cons, if_pos rfl, e], fun x hx => ?_, fun hs => absurd rfl (b hs).1⟩
      rcases List.mem_cons.1 hx with rfl | hx
      · exact e2 rfl
      · exact e1 x hx
    · obtain ⟨h', t', e, e1, e2⟩ := mild_parts l false (by rw [show decide (c = 47) = false by simpa using hc] at d; exact d) hl fun h => by cases h
      refine ⟨c :: h', t', by rw [partsL_cons, if_neg hc, e]; rfl, e1, fun hs => ?_⟩
      have h46 := (b hs).2
      exact nameB_true _ (by simp) (by simp [h46]) (by simp [h46])
theorem mild_path {l : List UInt8} (h : mild true l = true) (h1 : l.getLast? ≠ some 47) (h2 : l ≠ []) (h3 : l.length ≤ 400) : pathE l = 0 := by
  obtain ⟨a, t, e, e1, e2⟩ := mild_parts l true h h1 fun _ => h2
  have hp : 1 ≤ l.length := by
    cases l with
    | nil => exact absurd rfl h2
    | cons c l => simp
  refine pathE_ok (by omega) (mild_zero l _ h) ?_
  rw [e, List.all_cons, e2 rfl, Bool.true_and, List.all_eq_true]
  exact e1
/-! ### what is drawn -/
theorem names_mild : ∀ x ∈ namesL, x ≠ [] ∧ (∀ c ∈ x, c ≠ 0 ∧ c ≠ 47) ∧ x.head? ≠ some 46 ∧ x.length ≤ 130 := by decide +kernel
/-- the path of k parts more -/
def joinD (r : RawV) : Nat → List UInt8
  | 0 => namesL.getD (pick r.a 11).toNat []
  | k + 1 => joinD r k ++ 47 :: namesL.getD (pick (IntKind.i64.wrap (r.a + k)) 11).toNat []
theorem joinD_ok (r : RawV) : ∀ k, mild true (joinD r k) = true ∧ (joinD r k).getLast? ≠ some 47 ∧ joinD r k ≠ [] ∧ (joinD r k).length ≤ 131 * k + 130
  | 0 => by
    obtain ⟨a, b, c, d⟩ := names_mild _ (name_at r.a)
    refine ⟨mild_name a b c _, fun e => ?_, a, d⟩
    exact (b 47 (List.mem_of_getLast? e)).2 rfl
  | k + 1 => by
    obtain ⟨a, b, c, d⟩ := names_mild _ (name_at (IntKind.i64.wrap (r.a + k)))
    obtain ⟨e1, e2, e3, e4⟩ := joinD_ok r k
    have hsp : joinD r (k + 1) = joinD r k ++ 47 :: namesL.getD (pick (IntKind.i64.wrap (r.a + k)) 11).toNat [] := rfl
    generalize namesL.getD (pick (IntKind.i64.wrap (r.a + k)) 11).toNat [] = m at *
    rw [hsp]
    refine ⟨mild_app _ _ _ e1 (fun h => absurd h e3) e2 (mild_name a b c _), ?_, by simp, by rw [List.length_append, List.length_cons]; omega⟩
    rw [List.getLast?_append, List.getLast?_cons]
    cases hm : m.getLast? with
    | none => exact absurd (List.getLast?_eq_none_iff.1 hm) a
    | some x =>
      have := (b x (List.mem_of_getLast? hm)).2
      simpa using this
/-- the path that is drawn -/
def pathJ (r : RawV) : List UInt8 := joinD r (pick r.b 5).toNat
def pathK (r : RawV) : List UInt8 := if 400 < (pathJ r).length then (pathJ r).take 100 else pathJ r
def pathDr (r : RawV) : List UInt8 := Lib.trimSuffix (pathK r) [47]
theorem suffix_slash (l : List UInt8) : Lib.hasSuffix l [47] = decide (l.getLast? = some 47) := by
  rcases List.eq_nil_or_concat l with rfl | ⟨l, c, rfl⟩
  · rfl
  · rw [List.concat_eq_append, List.getLast?_append]
    unfold Lib.hasSuffix
    rw [Bool.eq_iff_iff, List.isSuffixOf_iff_suffix, decide_eq_true_eq]
    constructor
    · rintro ⟨t, ht⟩
      have := List.append_inj_right' ht rfl
      injection this with h _
      simp [h]
    · intro h
      have : c = 47 := by simpa using h
      rw [this]; exact ⟨l, rfl⟩
theorem pathDr_ok (r : RawV) : pathE (pathDr r) = 0 ∧ (pathK r).length ≤ 400 := by
  have hk := pick_bd r.b 5 (by omega)
  obtain ⟨e1, e2, e3, e4⟩ := joinD_ok r (pick r.b 5).toNat
  change mild true (pathJ r) = true at e1
  change (pathJ r).getLast? ≠ some 47 at e2
  change pathJ r ≠ [] at e3
  change (pathJ r).length ≤ _ at e4
  have hlen : (pathK r).length ≤ 400 := by
    unfold pathK
    split
    · rw [List.length_take]; omega
    · omega
  refine ⟨?_, hlen⟩
  unfold pathDr
  have hm : mild true (pathK r) = true := by
    unfold pathK
    split
    · exact mild_take _ _ _ e1
    · exact e1
  have hne : pathK r ≠ [] := by
    unfold pathK
    split
    · intro h
      have := congrArg List.length h
      rw [List.length_take] at this
      simp only [List.length_nil] at this
      omega
    · exact e3
  generalize pathK r = K at *
  unfold Lib.trimSuffix
  rw [suffix_slash]
  by_cases hs : K.getLast? = some 47
  · rw [if_pos (by simpa using hs)]
    obtain ⟨l, rfl⟩ : ∃ l, K = l ++ [47] := by
      rcases List.eq_nil_or_concat K with h | ⟨l, c, h⟩
      · exact absurd h hne
      · refine ⟨l, ?_⟩
        rw [h, List.concat_eq_append, List.getLast?_append] at hs
        rw [h, List.concat_eq_append]
        have : c = 47 := by simpa using hs
        rw [this]
    have ht : (l ++ [47]).take ((l ++ [47]).length - [(47 : UInt8)].length) = l := by simp
    rw [ht]
    have hml : mild true l = true := by
      have := mild_take _ _ l.length hm
      rwa [List.take_left'] at this
      rfl
    -- no part is empty
    have key : ∀ (l : List UInt8) (st : Bool), mild st (l ++ [47]) = true → (l = [] → st = false) ∧ l.getLast? ≠ some 47 := by
      intro l
      induction l with
      | nil =>
        intro st h
        refine ⟨fun _ => ?_, by simp⟩
        have := (mild_cons h).2.1
        cases st with
        | false => rfl
        | true => exact absurd rfl (this rfl).1
      | cons c l ih =>
        intro st h
        refine ⟨fun h => (by cases h), ?_⟩
        have h3 := ih _ (mild_cons h).2.2
        cases l with
        | nil =>
          have := h3.1 rfl
          simpa using this
        | cons x l => rw [List.getLast?_cons_cons]; exact h3.2
    have hk2 := key l true hm
    have hl0 : l ≠ [] := fun h => by have := hk2.1 h; cases this
    exact mild_path hml hk2.2 hl0 (by rw [List.length_append] at hlen; omega)
  · rw [if_neg (by simpa using hs)]
    exact mild_path hm hs hne hlen
/-- the member that is drawn -/
def entD (r : RawV) : EntV :=
  { path := pathDr r
    kind := 1 + pick r.kind 4
    target := if 1 < pick r.kind 4 then 116 :: List.replicate (pick r.b 150).toNat 117 else []
    md := metaV r
    data := if pick r.kind 4 = 0 then Lib.repeatL (cleanL r.text.data.toList 40) (pick r.b 40).toNat else [] }
theorem entD_good (r : RawV) : entE (entD r) = 0 := by
  have hk := pick_bd r.kind 4 (by omega)
  have hb := pick_bd r.b 150 (by omega)
  have hb2 := pick_bd r.b 40 (by omega)
  have hc := cleanL_le r.text.data.toList 40
  unfold entE
  have h1 : pathE (entD r).path = 0 := (pathDr_ok r).1
  have h2 : metE (entD r).md = 0 := metE_draw r
  rw [if_neg (by simpa using h1), if_neg (by simpa using h2)]
  have hdl : (entD r).data.length ≤ 1600 := by
    show (if pick r.kind 4 = 0 then Lib.repeatL (cleanL r.text.data.toList 40) (pick r.b 40).toNat else []).length ≤ 1600
    split
    · rw [repeatL_len]
      have : (cleanL r.text.data.toList 40).length * (pick r.b 40).toNat ≤ 40 * 40 := Nat.mul_le_mul hc (by omega)
      omega
    · simp
  have htl : (entD r).target.length ≤ 151 := by
    show (if 1 < pick r.kind 4 then 116 :: List.replicate (pick r.b 150).toNat 117 else []).length ≤ 151
    split
    · rw [List.length_cons, List.length_replicate]; omega
    · simp
  have hm : (1 : Int) < pick r.kind 4 → mild true (entD r).target = true ∧ (entD r).target.getLast? ≠ some 47 ∧ (entD r).target ≠ [] := fun h => by
    have e : (entD r).target = 116 :: List.replicate (pick r.b 150).toNat 117 := if_pos h
    rw [e]
    have hf : ∀ c ∈ (116 :: List.replicate (pick r.b 150).toNat 117 : List UInt8), c ≠ 0 ∧ c ≠ 47 := fun c hc => by
      rcases List.mem_cons.1 hc with rfl | hc
      · decide
      · rw [(List.mem_replicate.1 hc).2]; decide
    exact ⟨mild_name (by simp) hf (by simp) _, fun e => (hf 47 (List.mem_of_getLast? e)).2 rfl, by simp⟩
  have hkd : (entD r).kind = 1 + pick r.kind 4 := rfl
  unfold entK
  rw [hkd, if_neg (by omega)]
  rw [if_neg (by
    rintro (⟨a, b⟩ | ⟨a, b⟩ | ⟨a, b⟩)
    · exact (hm (by omega)).2.2 b
    · refine b ?_
      show (if 1 < pick r.kind 4 then _ else _) = _
      rw [if_neg (by omega)]
    · refine b ?_
      show (if pick r.kind 4 = 0 then _ else _) = _
      rw [if_neg (by omega)])]
  rw [if_neg (by omega)]
  split
  · rename_i h4
    obtain ⟨a, b, c⟩ := hm (by omega)
    exact mild_path a b c (by omega)
  · by_cases h : 1 < pick r.kind 4
    · rw [if_neg (by rw [mild_zero _ _ (hm h).1]; decide)]
    · have e : (entD r).target = [] := if_neg h
      rw [e, if_neg (by decide)]
end Go.Proofs.YtdcbmjihpjnbbaaDoor
