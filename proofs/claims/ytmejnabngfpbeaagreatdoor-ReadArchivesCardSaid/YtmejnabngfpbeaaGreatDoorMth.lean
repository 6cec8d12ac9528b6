/- Texts of one kind, in one file: Num, FldM, TiM, MetV, PthM, PrtM, SplM, NodM, NodN, LnkM, LnkN, EntM, CutM, StpM, RecM, RecN, PaxM, HedM, PadM, MemM, PaxN, HedN, MemN, MemO, RepM. -/
import Derived.Test.YtmejnabngfpbeaaGreatDoorRows
import Derived.WalkKit
import Derived.WalkSpells
import Derived.WalkLawsBesides
import Derived.Lib.Hide
import Derived.OpenShut
import Derived.Lib.Bytealg
import Derived.Lib.SplitLaws
import Derived.Lib.LastIndexByte
import Derived.Lib.Join
import Derived.Lib.IndexBytes
import Derived.Lib.ItoaMem
import Derived.Lib.TrimByte
import Derived.Lib.AtoiTie
import Derived.Lib.Strings
set_option linter.unusedVariables false
namespace Go.Proofs.YtmejnabngfpbeaaGreatDoor
open Go.RowKit
theorem ret_int {k : IntKind} {a b : Int} (h : a = b) : Ending.returned (.int k a) = .returned (.int k b) := by rw [h]
theorem hid_name {α : Type} (a : α) : ∃ b, Hid (a = b) := ⟨a, rfl⟩
theorem ret_bool {a b : Bool} (h : a = b) : Ending.returned (.bool a) = .returned (.bool b) := by rw [h]
theorem str_eq (a b : ByteArray) : (a.toList == b.toList) = decide (a = b) := by
 rw [ByteArray.toList_eq, ByteArray.toList_eq, Bool.eq_iff_iff, beq_iff_eq, decide_eq_true_eq]
 exact ⟨fun h => by apply ByteArray.ext; exact Array.toList_inj.1 h, fun h => by rw [h]⟩
theorem ret_2int {k k' : IntKind} {a b a' b' : Int} (h : a = a') (h' : b = b') : Ending.returned (.tuple #[.int k a, .int k' b]) = .returned (.tuple #[.int k a', .int k' b']) := by rw [h, h']
theorem flip_same {P : Program} {f : FuncId} {args : Array Value} {w : World} {v : Value} (h : Calls P f args w fun e w' => e = .returned v ∧ w = w') : Calls P f args w fun e w' => e = .returned v ∧ w' = w := h.mono fun _ _ ⟨a, b⟩ => ⟨a, b.symm⟩
def strLen : Value → Nat | .string b => b.size | _ => 0
theorem str_app (a b : List UInt8) : (⟨a.toArray⟩ : ByteArray) ++ ⟨b.toArray⟩ = ⟨(a ++ b).toArray⟩ := by
 apply ByteArray.ext
 simp [ByteArray.data_append]
theorem size_mk (l : List UInt8) : (⟨l.toArray⟩ : ByteArray).size = l.length := rfl
theorem ret_strint {b : List UInt8} {k : IntKind} {n : Int} (s : ByteArray) (h : s = ⟨b.toArray⟩) : Ending.returned (.tuple #[.string s, .int k n]) = .returned (.tuple #[.string ⟨b.toArray⟩, .int k n]) := by rw [h]
theorem ret_str {s s' : ByteArray} (h : s = s') : Ending.returned (.string s) = .returned (.string s') := by rw [h]
theorem ret_strint2 {s s' : ByteArray} {k : IntKind} {n n' : Int} (h : s = s') (h' : n = n') : Ending.returned (.tuple #[.string s, .int k n]) = .returned (.tuple #[.string s', .int k n']) := by rw [h, h']
def bInts (l : List UInt8) : List Int := l.map fun (c : UInt8) => (c.toNat : Int)
def bCells (l : List UInt8) : List Value := (bInts l).map (Value.int .u8)
@[simp] theorem bInts_length (l : List UInt8) : (bInts l).length = l.length := by simp [bInts]
@[simp] theorem bCells_length (l : List UInt8) : (bCells l).length = l.length := by simp [bCells]
theorem bCells_set (l : List UInt8) (i : Nat) (c : UInt8) : (bCells l).set i (.int .u8 (c.toNat : Int)) = bCells (l.set i c) := by
 simp [bCells, bInts, List.map_set]
theorem bCells_append (a b : List UInt8) : bCells (a ++ b) = bCells a ++ bCells b := by simp [bCells, bInts]
theorem made_zeros (n : Nat) : (madeCells #[Value.int .u8 0] n).toList = bCells (List.replicate n 0) := by
 apply List.ext_getElem
 ·simp [madeCells]
 ·intro i h1 h2
  simp [madeCells, bCells, bInts, Nat.mod_one]
theorem strOfNums_bytes (l : List UInt8) : strOfNums (bInts l) = ⟨l.toArray⟩ := by
 simp only [strOfNums, bInts, List.map_map]
 congr 1
 have : ((fun n : Int => UInt8.ofNat n.toNat) ∘ fun c : UInt8 => (c.toNat : Int)) = id := by funext c; simp
 rw [this, List.map_id]
theorem bCells_get (l : List UInt8) (j : Nat) (h : j < l.length) : (bCells l)[j]? = some (.int .u8 ((bInts l).getD j 0)) := by
 simp [bCells, bInts, h]
theorem run_str_own {P : Program} {w : World} {base e : Nat} {g n cap : Nat} {l : List UInt8} (h : w.ownsRow base e 1 (.slice (some ⟨g, 0, none⟩) n cap) n (bCells l))
  (src e' dst : TypeId) (hs : P.underlying src = some (.slice e')) (he : P.underlying e' = some (.int .u8)) (hd : P.underlying dst = some .string) :
  (convert src dst (.slice (some ⟨g, 0, none⟩) n cap)).run P w = .ok (.string ⟨l.toArray⟩) w := by
 have hl : l.length = n := by have := h.1; simpa using this
 rw [← strOfNums_bytes]
 refine run_convert_bytes_arg w src e' hs he g 0 n cap (bInts l) (by simpa using hl) (fun i hi => ?_) dst hd
 rw [Nat.zero_add, h.cellAt i (by omega), bCells_get _ _ (by omega)]
def wOk (x : Int) : Bool := decide (2 ≤ x ∧ x ≤ 12)
theorem wOk_mk {x : Int} (h : 2 ≤ x ∧ x ≤ 12) : wOk x = true := by simp [wOk, h]
theorem wOk_no {x : Int} (h : ¬ (2 ≤ x ∧ x ≤ 12)) : wOk x = false := by simp only [wOk, decide_eq_false_iff_not]; exact h
theorem split12 {x : Int} (h : 2 ≤ x ∧ x ≤ 12) : x = 2 ∨ x = 3 ∨ x = 4 ∨ x = 5 ∨ x = 6 ∨ x = 7 ∨ x = 8 ∨ x = 9 ∨ x = 10 ∨ x = 11 ∨ x = 12 := by omega
def most (x : Int) : Int := 8 ^ (x.toNat - 1) - 1
theorem pow8_le (k : Nat) (h : k ≤ 11) : (8 : Int) ^ k ≤ 8589934592 := by
 have : (8 : Nat) ^ k ≤ 8 ^ 11 := Nat.pow_le_pow_right (by omega) h
 have e : ((8 : Nat) ^ k : Nat) = ((8 : Int) ^ k) := by simp
 omega
theorem most_le {x : Int} (h : x ≤ 12) : most x ≤ 8589934592 := by
 have := pow8_le (x.toNat - 1) (by omega)
 unfold most; omega
theorem pow8_pos (k : Nat) : (1 : Int) ≤ 8 ^ k := by
 have : 0 < (8 : Nat) ^ k := Nat.pow_pos (by omega)
 have e : ((8 : Nat) ^ k : Nat) = ((8 : Int) ^ k) := by simp
 omega
theorem take_snoc (s : ByteArray) (k : Nat) (h : k < s.size) : s.data.toList.take (k + 1) = s.data.toList.take k ++ [s[k]] := by
 rw [List.take_succ_eq_append_getElem (by simpa using h)]; rfl
theorem u8_lt (c : UInt8) : c.toNat < 256 := c.toNat_lt
def digL (l : List UInt8) : Bool := l.all fun c => decide (48 ≤ c.toNat ∧ c.toNat ≤ 55)
def octVal (l : List UInt8) : Nat := l.foldl (fun a c => a * 8 + (c.toNat - 48)) 0
theorem octVal_snoc (l : List UInt8) (c : UInt8) : octVal (l ++ [c]) = octVal l * 8 + (c.toNat - 48) := by simp [octVal]
theorem digL_snoc (l : List UInt8) (c : UInt8) : digL (l ++ [c]) = (digL l && decide (48 ≤ c.toNat ∧ c.toNat ≤ 55)) := by simp [digL, List.all_append]
theorem snoc_ind {p : List UInt8 → Prop} (h0 : p []) (h1 : ∀ l c, p l → p (l ++ [c])) (l : List UInt8) : p l := by
 have : ∀ r : List UInt8, p r.reverse := by
  intro r
  induction r with
  | nil => exact h0
  | cons c r ih => rw [List.reverse_cons]; exact h1 _ _ ih
 simpa using this l.reverse
theorem octVal_lt (l : List UInt8) (h : digL l = true) : octVal l < 8 ^ l.length := by
 revert h
 refine snoc_ind (p := fun l => digL l = true → octVal l < 8 ^ l.length) (fun _ => by simp [octVal]) (fun l c ih h => ?_) l
 rw [digL_snoc, Bool.and_eq_true, decide_eq_true_eq] at h
 have := ih h.1
 rw [octVal_snoc, List.length_append, List.length_singleton, Nat.pow_succ]
 omega
theorem ref_step (l : List UInt8) (c : UInt8) (n k : Nat) (hn : k + 2 ≤ n) (h : 48 ≤ c.toNat) :
  ((octVal l * 8 ^ (n - 1 - k) : Nat) : Int) + ((c.toNat : Int) - 48) * 8 ^ (n - 2 - k) = ((octVal (l ++ [c]) * 8 ^ (n - 1 - (k + 1)) : Nat) : Int) := by
 have e1 : n - 1 - k = (n - 2 - k) + 1 := by omega
 have e2 : n - 1 - (k + 1) = n - 2 - k := by omega
 have e3 : (c.toNat : Int) - 48 = ((c.toNat - 48 : Nat) : Int) := by omega
 have e4 : (8 : Int) ^ (n - 2 - k) = ((8 ^ (n - 2 - k) : Nat) : Int) := by simp
 rw [e1, e2, e3, e4, octVal_snoc, Nat.pow_succ, ← Int.natCast_mul, ← Int.natCast_add]
 congr 1
 rw [Nat.add_mul, Nat.mul_comm (8 ^ (n - 2 - k)) 8, Nat.mul_assoc]
def octR (l : List UInt8) : Int × Int :=
 if 2 ≤ l.length ∧ l.length ≤ 12 then
  if digL (l.take (l.length - 1)) = true ∧ l.getD (l.length - 1) 1 = 0 then (octVal (l.take (l.length - 1)), 0) else (0, 3)
 else (0, 4)
def D (n : Nat) : Nat → List UInt8
 | 0 => []
 | j + 1 => UInt8.ofNat (48 + n / 8 ^ j % 8) :: D n j
@[simp] theorem D_length (n j : Nat) : (D n j).length = j := by induction j with
 | zero => rfl
 | succ j ih => simp [D, ih]
theorem digit_str (r : Nat) (h : r < 8) : (⟨#[48, 49, 50, 51, 52, 53, 54, 55]⟩ : ByteArray).extract r (r + 1) = ⟨[UInt8.ofNat (48 + r)].toArray⟩ := by
 match r, h with
 | 0, _ => rfl
 | 1, _ => rfl
 | 2, _ => rfl
 | 3, _ => rfl
 | 4, _ => rfl
 | 5, _ => rfl
 | 6, _ => rfl
 | 7, _ => rfl
theorem D_succ (m k q : Nat) (h : m / 8 ^ k = q) : D m (k + 1) = UInt8.ofNat (48 + q % 8) :: D m k := by rw [D, h]
theorem div_succ (m k q : Nat) (h : m / 8 ^ k = q) : m / 8 ^ (k + 1) = q / 8 := by rw [Nat.pow_succ, ← Nat.div_div_eq_div_mul, h]
def buf (m y k : Nat) : List UInt8 := List.replicate (y - 1 - k) 0 ++ D m k ++ [0]
theorem buf_start (m y : Nat) (h : 1 ≤ y) : (madeCells #[Value.int .u8 0] y).toList = bCells (buf m y 0) := by
 obtain ⟨z, rfl⟩ : ∃ z, y = z + 1 := ⟨y - 1, by omega⟩
 rw [made_zeros]
 simp [buf, D, List.replicate_succ']
theorem buf_set (m y k q j : Nat) (hq : m / 8 ^ k = q) (hj : j + k + 1 = y) (h1 : 1 ≤ j) : (bCells (buf m y k)).set (j - 1) (.int .u8 (48 + (q : Int) % 8)) = bCells (buf m y (k + 1)) := by
 obtain ⟨i, rfl⟩ : ∃ i, j = i + 1 := ⟨j - 1, by omega⟩
 have e1 : y - 1 - k = i + 1 := by omega
 have e2 : y - 1 - (k + 1) = i := by omega
 have e3 : (48 + (q : Int) % 8) = ((UInt8.ofNat (48 + q % 8)).toNat : Int) := by rw [UInt8.toNat_ofNat']; omega
 rw [e3, bCells_set]
 simp only [buf, e1, e2, D_succ _ _ _ hq, List.replicate_succ', List.append_assoc, Nat.add_sub_cancel]
 rw [List.set_append_right _ _ (by simp)]
 simp
theorem buf_end (m y : Nat) : buf m y (y - 1) = D m (y - 1) ++ [0] := by simp [buf]
def pick (n m : Int) : Int := (if n < 0 then -(n + 1) else n) % m
def octW (n x : Int) : ByteArray × Int := if 2 ≤ x ∧ x ≤ 12 ∧ 0 ≤ n ∧ n ≤ most x then (⟨(D n.toNat (x.toNat - 1) ++ [0]).toArray⟩, 0) else (⟨#[]⟩, 4)
def mostV (x : Int) : Int × Int := if 2 ≤ x ∧ x ≤ 12 then (most x, 0) else (0, 4)
theorem octW_yes {n x : Int} (h : 2 ≤ x ∧ x ≤ 12) (h' : 0 ≤ n ∧ n ≤ most x) : octW n x = (⟨(D n.toNat (x.toNat - 1) ++ [0]).toArray⟩, 0) := if_pos ⟨h.1, h.2, h'.1, h'.2⟩
theorem octW_no {n x : Int} (h : ¬ (2 ≤ x ∧ x ≤ 12 ∧ 0 ≤ n ∧ n ≤ most x)) : octW n x = (⟨#[]⟩, 4) := if_neg h
theorem getD_byte (s : ByteArray) (k : Nat) (h : k < s.size) (d : UInt8) : s.data.toList.getD k d = s[k] := by
 have : k < s.data.toList.length := by simpa using h
 rw [List.getD_eq_getElem?_getD, List.getElem?_eq_getElem this]; rfl
theorem octR_out {l : List UInt8} (h : ¬ (2 ≤ l.length ∧ l.length ≤ 12)) : octR l = (0, 4) := if_neg h
theorem octR_yes {l : List UInt8} (h1 : 2 ≤ l.length ∧ l.length ≤ 12) (h2 : digL (l.take (l.length - 1)) = true) (h3 : l.getD (l.length - 1) 1 = 0) : octR l = ((octVal (l.take (l.length - 1)) : Int), 0) := by
 unfold octR; rw [if_pos h1, if_pos ⟨h2, h3⟩]
theorem octR_no {l : List UInt8} (h1 : 2 ≤ l.length ∧ l.length ≤ 12) (h2 : ¬ (digL (l.take (l.length - 1)) = true ∧ l.getD (l.length - 1) 1 = 0)) : octR l = (0, 3) := by
 unfold octR; rw [if_pos h1, if_neg h2]
theorem digL_take_false (l : List UInt8) (k n : Nat) (h : k ≤ n) (hd : digL (l.take k) = false) : digL (l.take n) = false := by
 have e : l.take n = l.take k ++ (l.take n).drop k := by
  conv => lhs; rw [← List.take_append_drop k (l.take n)]
  rw [List.take_take, Nat.min_eq_left h]
 rw [e]; simp only [digL, List.all_append] at *
 rw [hd]; rfl
theorem octVal_cons (c : UInt8) (l : List UInt8) : octVal (c :: l) = (c.toNat - 48) * 8 ^ l.length + octVal l := by
 refine snoc_ind (p := fun l => octVal (c :: l) = (c.toNat - 48) * 8 ^ l.length + octVal l) (by simp [octVal]) (fun l d ih => ?_) l
 rw [← List.cons_append, octVal_snoc, ih, octVal_snoc, List.length_append, List.length_singleton, Nat.pow_succ, Nat.add_mul, Nat.mul_assoc]; omega
theorem digit_toNat (r : Nat) (h : r < 8) : (UInt8.ofNat (48 + r)).toNat = 48 + r := by rw [UInt8.toNat_ofNat']; omega
theorem octVal_D (m j : Nat) : octVal (D m j) = m % 8 ^ j := by
 induction j with
 | zero => simp [D, octVal, Nat.mod_one]
 | succ j ih =>
  rw [D, octVal_cons, ih, D_length, digit_toNat _ (Nat.mod_lt _ (by omega)), Nat.pow_succ, Nat.mod_mul, Nat.add_comm, Nat.mul_comm, Nat.add_sub_cancel_left]
theorem digL_D (m j : Nat) : digL (D m j) = true := by
 induction j with
 | zero => rfl
 | succ j ih =>
  have := Nat.mod_lt (m / 8 ^ j) (show 0 < 8 by omega)
  simp only [digL, D, List.all_cons] at *
  rw [ih, digit_toNat _ this]; simp; omega
theorem octR_D (m j : Nat) (h1 : 1 ≤ j) (h2 : j ≤ 11) (h : m < 8 ^ j) : octR (D m j ++ [0]) = ((m : Int), 0) := by
 have hl : (D m j ++ [0]).length = j + 1 := by simp
 have ht : (D m j ++ [0]).take ((D m j ++ [0]).length - 1) = D m j := by rw [hl]; simp
 rw [octR_yes (by omega) (by rw [ht]; exact digL_D m j) (by rw [hl]; simp), ht, octVal_D, Nat.mod_eq_of_lt h]
theorem most_nat (x : Int) (h : 2 ≤ x) (n : Int) (h0 : 0 ≤ n) (hn : n ≤ most x) : n.toNat < 8 ^ (x.toNat - 1) := by
 have e : (8 : Int) ^ (x.toNat - 1) = ((8 ^ (x.toNat - 1) : Nat) : Int) := by simp
 unfold most at hn; omega
def pos (c : UInt8) (l : List UInt8) : Nat := (l.takeWhile (· != c)).length
def hasB (c : UInt8) (l : List UInt8) : Bool := l.any (· == c)
theorem pos_cons (c a : UInt8) (l : List UInt8) : pos c (a :: l) = if a = c then 0 else pos c l + 1 := by
 unfold pos
 rw [List.takeWhile_cons]
 by_cases h : a = c <;> simp [h]
theorem hasB_cons (c a : UInt8) (l : List UInt8) : hasB c (a :: l) = ((a == c) || hasB c l) := rfl
theorem pos_le (c : UInt8) (l : List UInt8) : pos c l ≤ l.length := by
 induction l with
 | nil => exact Nat.le_refl _
 | cons a l ih => rw [pos_cons, List.length_cons]; split <;> omega
theorem hasB_pos (c : UInt8) (l : List UInt8) : hasB c l = decide (pos c l < l.length) := by
 induction l with
 | nil => rfl
 | cons a l ih =>
  rw [hasB_cons, pos_cons, ih, List.length_cons, Bool.eq_iff_iff]
  by_cases h : a = c
  ·simp [h]
  ·simp [h]
theorem indexByte_pos (c : UInt8) (l : List UInt8) : Lib.indexByte l c = if hasB c l = true then (pos c l : Int) else -1 := by
 induction l with
 | nil => rfl
 | cons a l ih =>
  rw [Lib.indexByte, ih, hasB_cons, pos_cons]
  by_cases h : a = c
  ·simp [h]
  ·have h' : (a == c) = false := by simpa using h
   by_cases hb : hasB c l = true
   ·simp [h, h', hb]
    try omega
   ·simp [h', hb]
theorem pos_get (c : UInt8) (l : List UInt8) (h : pos c l < l.length) : l[pos c l] = c := by
 induction l with
 | nil => exact absurd h (by simp)
 | cons a l ih =>
  by_cases e : a = c
  ·have : pos c (a :: l) = 0 := by rw [pos_cons, if_pos e]
   simp only [this]; exact e
  ·have hp : pos c (a :: l) = pos c l + 1 := by rw [pos_cons, if_neg e]
   have h' : pos c l < l.length := by rw [hp, List.length_cons] at h; omega
   have := ih h'
   simp [hp, this]
theorem pos_ne (c : UInt8) (l : List UInt8) (k : Nat) (h : k < pos c l) (hk : k < l.length) : l[k] ≠ c := by
 induction l generalizing k with
 | nil => exact absurd hk (by simp)
 | cons a l ih =>
  by_cases e : a = c
  ·rw [pos_cons, if_pos e] at h; omega
  ·rw [pos_cons, if_neg e] at h
   cases k with
   | zero => simpa using e
   | succ k => simpa using ih k (by omega) (by simpa using hk)
theorem pos_stop (c : UInt8) (l : List UInt8) (k : Nat) (h : k ≤ pos c l) (hk : k < l.length) (e : l[k] = c) : pos c l = k := by
 rcases Nat.lt_or_eq_of_le h with h' | h'
 ·exact absurd e (pos_ne c l k h' hk)
 ·exact h'.symm
theorem pos_step (c : UInt8) (l : List UInt8) (k : Nat) (h : k ≤ pos c l) (hk : k < l.length) (e : l[k] ≠ c) : k + 1 ≤ pos c l := by
 rcases Nat.lt_or_eq_of_le h with h' | h'
 ·exact h'
 ·subst h'; exact absurd (pos_get c l hk) e
theorem pos_app (c : UInt8) (a b : List UInt8) (h : hasB c a = false) : pos c (a ++ b) = a.length + pos c b := by
 induction a with
 | nil => simp
 | cons x a ih =>
  rw [hasB_cons, Bool.or_eq_false_iff] at h
  rw [List.cons_append, pos_cons, if_neg (by simpa using h.1), ih h.2, List.length_cons]; omega
theorem hasB_app (c : UInt8) (a b : List UInt8) : hasB c (a ++ b) = (hasB c a || hasB c b) := by simp [hasB]
theorem hasB_take (c : UInt8) (l : List UInt8) (k : Nat) (h : k ≤ pos c l) : hasB c (l.take k) = false := by
 rw [hasB_pos]
 have h2 := pos_le c l
 have : ¬ pos c (l.take k) < (l.take k).length := by
  intro h1
  have hlen : (l.take k).length = k := by rw [List.length_take]; omega
  have e := pos_get c _ h1
  rw [List.getElem_take] at e
  exact pos_ne c l _ (by omega) (by omega) e
 exact decide_eq_false this
def allZ (l : List UInt8) : Bool := l.all (· == 0)
theorem allZ_rep (l : List UInt8) : allZ l = decide (l = List.replicate l.length 0) := by
 unfold allZ
 rw [Bool.eq_iff_iff]
 simp only [List.all_eq_true, beq_iff_eq, decide_eq_true_eq]
 constructor
 ·intro h; exact List.eq_replicate_iff.2 ⟨rfl, h⟩
 ·intro h b hb; rw [h] at hb; exact (List.mem_replicate.1 hb).2
theorem allZ_false (l : List UInt8) (k : Nat) (hk : k < l.length) (e : l[k] ≠ 0) : allZ l = false := by
 unfold allZ
 rw [← Bool.not_eq_true, List.all_eq_true]
 intro h
 exact e (by simpa using h _ (List.getElem_mem hk))
theorem allZ_take_all (l : List UInt8) (h : allZ (l.take l.length) = true) : allZ l = true := by rwa [List.take_length] at h
theorem allZ_snoc (l : List UInt8) (c : UInt8) : allZ (l ++ [c]) = (allZ l && (c == 0)) := by simp [allZ]
def bs (l : List UInt8) : ByteArray := ⟨l.toArray⟩
theorem bs_list (l : List UInt8) : (bs l).data.toList = l := rfl
theorem bs_size (l : List UInt8) : (bs l).size = l.length := rfl
theorem bs_of (s : ByteArray) : bs s.data.toList = s := by apply ByteArray.ext; simp [bs]
def zer (n : Nat) : ByteArray := ⟨(List.replicate n (0 : UInt8)).toArray⟩
theorem zer_size (n : Nat) : (zer n).size = n := by rw [zer, size_mk, List.length_replicate]
theorem zer_succ (k : Nat) : zer (k + 1) = zer k ++ ⟨#[0]⟩ := by
 rw [zer, List.replicate_succ', ← str_app]; rfl
theorem str_zer (s : ByteArray) (n : Nat) : s ++ zer n = ⟨(s.data.toList ++ List.replicate n 0).toArray⟩ := by
 rw [← str_app, zer]
def fldW (l : List UInt8) (x : Int) (whole : Bool) : ByteArray × Int :=
 if x < 1 ∨ 512 < x then (⟨#[]⟩, 4)
 else if x < l.length ∨ (whole = false ∧ x = l.length) then (⟨#[]⟩, 1)
 else if hasB 0 l = true then (⟨#[]⟩, 3)
 else (⟨(l ++ List.replicate (x.toNat - l.length) 0).toArray⟩, 0)
def fldR (l : List UInt8) (whole : Bool) : ByteArray × Int :=
 if l.length < 1 ∨ 512 < l.length then (⟨#[]⟩, 4)
 else if (whole = false ∧ pos 0 l = l.length) ∨ allZ (l.drop (pos 0 l)) = false then (⟨#[]⟩, 3)
 else (⟨(l.take (pos 0 l)).toArray⟩, 0)
theorem fldW_range {l : List UInt8} {x : Int} {wh : Bool} (h : x < 1 ∨ 512 < x) : fldW l x wh = (⟨#[]⟩, 4) := if_pos h
theorem fldW_size {l : List UInt8} {x : Int} {wh : Bool} (h : ¬ (x < 1 ∨ 512 < x)) (h2 : x < l.length ∨ (wh = false ∧ x = l.length)) : fldW l x wh = (⟨#[]⟩, 1) := by
 rw [fldW, if_neg h, if_pos h2]
theorem fldW_form {l : List UInt8} {x : Int} {wh : Bool} (h : ¬ (x < 1 ∨ 512 < x)) (h2 : ¬ (x < l.length ∨ (wh = false ∧ x = l.length))) (h3 : hasB 0 l = true) : fldW l x wh = (⟨#[]⟩, 3) := by
 rw [fldW, if_neg h, if_neg h2, if_pos h3]
theorem fldW_ok {l : List UInt8} {x : Int} {wh : Bool} (h : ¬ (x < 1 ∨ 512 < x)) (h2 : ¬ (x < l.length ∨ (wh = false ∧ x = l.length))) (h3 : hasB 0 l = false) : fldW l x wh = (⟨(l ++ List.replicate (x.toNat - l.length) 0).toArray⟩, 0) := by
 rw [fldW, if_neg h, if_neg h2, if_neg (by simp [h3])]
theorem fldR_range {l : List UInt8} {wh : Bool} (h : l.length < 1 ∨ 512 < l.length) : fldR l wh = (⟨#[]⟩, 4) := if_pos h
theorem fldR_form {l : List UInt8} {wh : Bool} (h : ¬ (l.length < 1 ∨ 512 < l.length)) (h2 : (wh = false ∧ pos 0 l = l.length) ∨ allZ (l.drop (pos 0 l)) = false) : fldR l wh = (⟨#[]⟩, 3) := by
 rw [fldR, if_neg h, if_pos h2]
theorem fldR_ok {l : List UInt8} {wh : Bool} (h : ¬ (l.length < 1 ∨ 512 < l.length)) (h2 : ¬ (wh = false ∧ pos 0 l = l.length)) (h3 : allZ (l.drop (pos 0 l)) = true) : fldR l wh = (⟨(l.take (pos 0 l)).toArray⟩, 0) := by
 rw [fldR, if_neg h, if_neg (by rintro (a | a); exact h2 a; rw [h3] at a; cases a)]
theorem getD_list (s : ByteArray) (k : Nat) (h : k < s.size) : s.data.toList[k]'(by simpa using h) = s[k] := rfl
def inT (a b : Int) : Bool := decide (-1099511627776 ≤ a ∧ a ≤ 1099511627776 ∧ 0 ≤ b ∧ b ≤ 999999999)
theorem inT_mk {a b : Int} (h : -1099511627776 ≤ a ∧ a ≤ 1099511627776 ∧ 0 ≤ b ∧ b ≤ 999999999) : inT a b = true := decide_eq_true h
theorem inT_no {a b : Int} (h : ¬ (-1099511627776 ≤ a ∧ a ≤ 1099511627776 ∧ 0 ≤ b ∧ b ≤ 999999999)) : inT a b = false := decide_eq_false h
theorem inT_of {a b : Int} (h : inT a b = true) : -1099511627776 ≤ a ∧ a ≤ 1099511627776 ∧ 0 ≤ b ∧ b ≤ 999999999 := of_decide_eq_true h
structure MetaV where
 mode : Int
 uid : Int
 gid : Int
 user : List UInt8
 group : List UInt8
 second : Int
 nano : Int
def mdB (n : Int) : Bool := decide (0 ≤ n ∧ n ≤ 4095)
theorem mdB_yes {n : Int} (h : 0 ≤ n ∧ n ≤ 4095) : mdB n = true := decide_eq_true h
theorem mdB_no {n : Int} (h : ¬ (0 ≤ n ∧ n ≤ 4095)) : mdB n = false := decide_eq_false h
theorem mdB_of {n : Int} (h : mdB n = true) : 0 ≤ n ∧ n ≤ 4095 := of_decide_eq_true h
theorem mdB_off {n : Int} (h : mdB n = false) : ¬ (0 ≤ n ∧ n ≤ 4095) := of_decide_eq_false h
def idB (n : Int) : Bool := decide (0 ≤ n ∧ n ≤ 1125899906842624)
theorem idB_yes {n : Int} (h : 0 ≤ n ∧ n ≤ 1125899906842624) : idB n = true := decide_eq_true h
theorem idB_no {n : Int} (h : ¬ (0 ≤ n ∧ n ≤ 1125899906842624)) : idB n = false := decide_eq_false h
theorem idB_of {n : Int} (h : idB n = true) : 0 ≤ n ∧ n ≤ 1125899906842624 := of_decide_eq_true h
theorem idB_off {n : Int} (h : idB n = false) : ¬ (0 ≤ n ∧ n ≤ 1125899906842624) := of_decide_eq_false h
def inE (a b : Int) : Int := if inT a b = true then 0 else 4
def metE (m : MetaV) : Int :=
 if (mdB m.mode && idB m.uid && idB m.gid) = true then
  if 60 < m.user.length ∨ 60 < m.group.length then 1
  else if (hasB 0 m.user || hasB 0 m.group) = true then 3
  else inE m.second m.nano
 else 4
theorem metE_range {m : MetaV} (h : (mdB m.mode && idB m.uid && idB m.gid) = false) : metE m = 4 := if_neg (by rw [h]; decide)
theorem metE_size {m : MetaV} (h : (mdB m.mode && idB m.uid && idB m.gid) = true) (h2 : 60 < m.user.length ∨ 60 < m.group.length) : metE m = 1 := by
 unfold metE; rw [if_pos h, if_pos h2]
theorem metE_form {m : MetaV} (h : (mdB m.mode && idB m.uid && idB m.gid) = true) (h2 : ¬ (60 < m.user.length ∨ 60 < m.group.length)) (h3 : (hasB 0 m.user || hasB 0 m.group) = true) : metE m = 3 := by
 unfold metE; rw [if_pos h, if_neg h2, if_pos h3]
theorem metE_time {m : MetaV} (h : (mdB m.mode && idB m.uid && idB m.gid) = true) (h2 : ¬ (60 < m.user.length ∨ 60 < m.group.length)) (h3 : (hasB 0 m.user || hasB 0 m.group) = false) : metE m = inE m.second m.nano := by
 unfold metE; rw [if_pos h, if_neg h2, if_neg (by rw [h3]; decide)]
structure NodeV where
 path : List UInt8
 kind : Int
 same : Int
 target : List UInt8
 md : MetaV
 data : List UInt8
instance : Inhabited NodeV := ⟨⟨[], 0, 0, [], ⟨0, 0, 0, [], [], 0, 0⟩, []⟩⟩
def inB (s d : List UInt8) : Bool := if d = [] then !decide (s = []) else decide (d ++ [47] <+: s)
def rk (c : UInt8) : Int := if c = 47 then -1 else (c.toNat : Int)
def sgn (a b : Int) : Int := if a < b then -1 else if b < a then 1 else 0
theorem sgn_self (a : Int) : sgn a a = 0 := by unfold sgn; rw [if_neg (by omega), if_neg (by omega)]
theorem sgn_lt {a b : Int} (h : a < b) : sgn a b = -1 := if_pos h
theorem sgn_gt {a b : Int} (h : b < a) : sgn a b = 1 := by unfold sgn; rw [if_neg (by omega), if_pos h]
theorem sgn_eq {a b : Int} (h1 : ¬ a < b) (h2 : ¬ b < a) : sgn a b = 0 := by unfold sgn; rw [if_neg h1, if_neg h2]
theorem rk_inj {a b : UInt8} (h : rk a = rk b) : a = b := by
 unfold rk at h
 split at h <;> split at h
 ·subst_vars; rfl
 ·omega
 ·omega
 ·exact UInt8.toNat_inj.1 (by omega)
def pcmp : List UInt8 → List UInt8 → Int
 | [], [] => 0
 | [], _ :: _ => -1
 | _ :: _, [] => 1
 | x :: a, y :: b => if x = y then pcmp a b else sgn (rk x) (rk y)
theorem pcmp_nil_cons (y : UInt8) (b : List UInt8) : pcmp [] (y :: b) = -1 := by rw [pcmp]
theorem pcmp_cons_nil (x : UInt8) (a : List UInt8) : pcmp (x :: a) [] = 1 := by rw [pcmp]
theorem pcmp_nil_nil : pcmp [] [] = 0 := by rw [pcmp]
theorem pcmp_cons (x y : UInt8) (a b : List UInt8) : pcmp (x :: a) (y :: b) = if x = y then pcmp a b else sgn (rk x) (rk y) := by rw [pcmp]
theorem pcmp_app (p a b : List UInt8) : pcmp (p ++ a) (p ++ b) = pcmp a b := by
 induction p with
 | nil => rfl
 | cons x p ih => rw [List.cons_append, List.cons_append, pcmp_cons, if_pos rfl, ih]
theorem pcmp_short (a b : List UInt8) (h : a = [] ∨ b = []) : pcmp a b = sgn a.length b.length := by
 rcases h with rfl | rfl
 ·cases b with
  | nil => rw [pcmp_nil_nil]; exact (sgn_self _).symm
  | cons y b => rw [pcmp_nil_cons, sgn_lt (by simp)]
 ·cases a with
  | nil => rw [pcmp_nil_nil]; exact (sgn_self _).symm
  | cons y b => rw [pcmp_cons_nil, sgn_gt (by simp)]
theorem pcmp_end (a b : List UInt8) (k : Nat) (he : a.take k = b.take k) (ha : k ≤ a.length) (hb : k ≤ b.length) (h : k = a.length ∨ k = b.length) : pcmp a b = sgn a.length b.length := by
 have e1 : a = a.take k ++ a.drop k := (List.take_append_drop k a).symm
 have e2 : b = a.take k ++ b.drop k := by rw [he]; exact (List.take_append_drop k b).symm
 have l1 : (a.drop k).length = a.length - k := List.length_drop ..
 have l2 : (b.drop k).length = b.length - k := List.length_drop ..
 have : pcmp a b = pcmp (a.drop k) (b.drop k) := by
  conv => lhs; rw [e1, e2]
  exact pcmp_app _ _ _
 rw [this, pcmp_short _ _ (by rcases h with h | h; exact .inl (List.eq_nil_of_length_eq_zero (by omega)); exact .inr (List.eq_nil_of_length_eq_zero (by omega))), l1, l2]
 unfold sgn
 by_cases c1 : (a.length : Int) < b.length
 ·rw [if_pos c1, if_pos (by omega)]
 ·rw [if_neg c1, if_neg (by omega)]
  by_cases c2 : (b.length : Int) < a.length
  ·rw [if_pos c2, if_pos (by omega)]
  ·rw [if_neg c2, if_neg (by omega)]
theorem pcmp_at (a b : List UInt8) (k : Nat) (he : a.take k = b.take k) (ha : k < a.length) (hb : k < b.length) (h : a[k] ≠ b[k]) : pcmp a b = sgn (rk a[k]) (rk b[k]) := by
 have e1 : a = a.take k ++ a[k] :: a.drop (k + 1) := by rw [← List.drop_eq_getElem_cons ha]; exact (List.take_append_drop k a).symm
 have e2 : b = a.take k ++ b[k] :: b.drop (k + 1) := by rw [← List.drop_eq_getElem_cons hb, he]; exact (List.take_append_drop k b).symm
 have : pcmp a b = pcmp (a[k] :: a.drop (k + 1)) (b[k] :: b.drop (k + 1)) := by
  conv => lhs; rw [e1, e2]
  exact pcmp_app _ _ _
 rw [this, pcmp_cons, if_neg h]
theorem sgn_neg (a b : Int) : sgn b a = -sgn a b := by
 unfold sgn
 by_cases c1 : a < b
 ·rw [if_pos c1, if_neg (by omega), if_pos c1]; rfl
 ·rw [if_neg c1]
  by_cases c2 : b < a
  ·rw [if_pos c2, if_neg c1, if_pos c2]
  ·rw [if_neg c2, if_neg c1, if_neg c2]; rfl
theorem sgn_cases (a b : Int) : (sgn a b = -1 ∧ a < b) ∨ (sgn a b = 0 ∧ a = b) ∨ (sgn a b = 1 ∧ b < a) := by
 unfold sgn
 by_cases c1 : a < b
 ·rw [if_pos c1]; exact .inl ⟨rfl, c1⟩
 ·rw [if_neg c1]
  by_cases c2 : b < a
  ·rw [if_pos c2]; exact .inr (.inr ⟨rfl, c2⟩)
  ·rw [if_neg c2]; exact .inr (.inl ⟨rfl, by omega⟩)
theorem pcmp_neg (a b : List UInt8) : pcmp b a = -pcmp a b := by
 induction a generalizing b with
 | nil => cases b <;> simp [pcmp]
 | cons x a ih =>
  cases b with
  | nil => simp [pcmp]
  | cons y b =>
   rw [pcmp_cons, pcmp_cons]
   by_cases h : x = y
   ·rw [if_pos h, if_pos h.symm, ih]
   ·rw [if_neg h, if_neg (fun e => h e.symm), sgn_neg]
theorem pcmp_bd (a b : List UInt8) : -1 ≤ pcmp a b ∧ pcmp a b ≤ 1 := by
 induction a generalizing b with
 | nil => cases b <;> simp [pcmp]
 | cons x a ih =>
  cases b with
  | nil => simp [pcmp]
  | cons y b =>
   rw [pcmp_cons]
   by_cases h : x = y
   ·rw [if_pos h]; exact ih b
   ·rw [if_neg h]; rcases sgn_cases (rk x) (rk y) with ⟨e, _⟩ | ⟨e, _⟩ | ⟨e, _⟩ <;> rw [e] <;> omega
theorem pcmp_zero (a b : List UInt8) : pcmp a b = 0 ↔ a = b := by
 induction a generalizing b with
 | nil => cases b <;> simp [pcmp]
 | cons x a ih =>
  cases b with
  | nil => simp [pcmp]
  | cons y b =>
   rw [pcmp_cons]
   by_cases h : x = y
   ·rw [if_pos h, ih]; simp [h]
   ·rw [if_neg h]
    have hr : rk x ≠ rk y := fun e => h (rk_inj e)
    rcases sgn_cases (rk x) (rk y) with ⟨e, _⟩ | ⟨_, e⟩ | ⟨e, _⟩
    ·rw [e]; simp [h]
    ·exact absurd e hr
    ·rw [e]; simp [h]
theorem pcmp_trans (a b c : List UInt8) (h1 : pcmp a b ≤ 0) (h2 : pcmp b c ≤ 0) : pcmp a c ≤ 0 := by
 induction a generalizing b c with
 | nil => cases c <;> simp [pcmp]
 | cons x a ih =>
  cases b with
  | nil => rw [pcmp_cons_nil] at h1; omega
  | cons y b =>
   cases c with
   | nil => rw [pcmp_cons_nil] at h2; omega
   | cons z c =>
    rw [pcmp_cons] at h1 h2 ⊢
    by_cases e1 : x = y
    ·subst e1
     rw [if_pos rfl] at h1
     by_cases e2 : x = z
     ·subst e2
      rw [if_pos rfl] at h2 ⊢
      exact ih b c h1 h2
     ·rw [if_neg e2] at h2 ⊢; exact h2
    ·rw [if_neg e1] at h1
     have hr : rk x ≠ rk y := fun e => e1 (rk_inj e)
     have l1 : rk x < rk y := by rcases sgn_cases (rk x) (rk y) with ⟨_, e⟩ | ⟨_, e⟩ | ⟨e, _⟩ <;> omega
     by_cases e2 : y = z
     ·subst e2
      rw [if_neg e1]; exact h1
     ·rw [if_neg e2] at h2
      have l2 : rk y < rk z := by
       have hr2 : rk y ≠ rk z := fun e => e2 (rk_inj e)
       rcases sgn_cases (rk y) (rk z) with ⟨_, e⟩ | ⟨_, e⟩ | ⟨e, _⟩ <;> omega
      rw [if_neg (by intro e; subst e; omega), sgn_lt (by omega)]; omega
theorem pcmp_self (a : List UInt8) : pcmp a a = 0 := (pcmp_zero a a).2 rfl
def headCons (a : UInt8) : List (List UInt8) → List (List UInt8)
 | [] => [[a]]
 | h :: t => (a :: h) :: t
def partsL (c : UInt8) : List UInt8 → List (List UInt8)
 | [] => [[]]
 | a :: l => if a = c then [] :: partsL c l else headCons a (partsL c l)
def lastSnoc (a : UInt8) : List (List UInt8) → List (List UInt8)
 | [] => [[a]]
 | [h] => [h ++ [a]]
 | h :: t :: r => h :: lastSnoc a (t :: r)
theorem partsL_nil (c : UInt8) : partsL c [] = [[]] := rfl
theorem partsL_cons (c a : UInt8) (l : List UInt8) : partsL c (a :: l) = if a = c then [] :: partsL c l else headCons a (partsL c l) := rfl
theorem headCons_ne (a : UInt8) (l : List (List UInt8)) : headCons a l ≠ [] := by cases l <;> simp [headCons]
theorem partsL_ne (c : UInt8) (l : List UInt8) : partsL c l ≠ [] := by
 cases l with
 | nil => simp [partsL]
 | cons a l =>
  rw [partsL_cons]
  by_cases h : a = c
  ·rw [if_pos h]; simp
  ·rw [if_neg h]; exact headCons_ne _ _
theorem partsL_pos (c : UInt8) (l : List UInt8) : 1 ≤ (partsL c l).length := by
 have := partsL_ne c l
 rcases h : partsL c l with _ | ⟨x, y⟩
 ·exact absurd h this
 ·simp
theorem headCons_length (a : UInt8) (l : List (List UInt8)) (h : l ≠ []) : (headCons a l).length = l.length := by
 cases l with
 | nil => exact absurd rfl h
 | cons x l => rfl
theorem partsL_length (c : UInt8) (l : List UInt8) : (partsL c l).length = l.count c + 1 := by
 induction l with
 | nil => rfl
 | cons a l ih =>
  rw [partsL_cons, List.count_cons]
  by_cases h : a = c
  ·subst h; rw [if_pos rfl, List.length_cons, ih]; simp
  ·rw [if_neg h, headCons_length _ _ (partsL_ne c l), ih]
   have : (a == c) = false := by simpa using h
   rw [this]; simp
theorem partsL_le (c : UInt8) (l : List UInt8) : (partsL c l).length ≤ l.length + 1 := by
 rw [partsL_length]
 have := List.count_le_length (l := l) (a := c)
 omega
theorem partsL_snoc_eq (c : UInt8) (l : List UInt8) : partsL c (l ++ [c]) = partsL c l ++ [[]] := by
 induction l with
 | nil => simp [partsL]
 | cons a l ih =>
  rw [List.cons_append, partsL_cons, partsL_cons, ih]
  by_cases h : a = c
  ·rw [if_pos h, if_pos h]; rfl
  ·rw [if_neg h, if_neg h]
   cases hp : partsL c l with
   | nil => exact absurd hp (partsL_ne c l)
   | cons x y => rfl
theorem lastSnoc_cons (a : UInt8) (x : List UInt8) (l : List (List UInt8)) (h : l ≠ []) : lastSnoc a (x :: l) = x :: lastSnoc a l := by
 cases l with
 | nil => exact absurd rfl h
 | cons y l => rfl
theorem lastSnoc_head (a b : UInt8) (l : List (List UInt8)) (h : l ≠ []) : lastSnoc a (headCons b l) = headCons b (lastSnoc a l) := by
 cases l with
 | nil => exact absurd rfl h
 | cons x l =>
  cases l with
  | nil => rfl
  | cons y l => rfl
theorem partsL_snoc_ne (c a : UInt8) (l : List UInt8) (h : a ≠ c) : partsL c (l ++ [a]) = lastSnoc a (partsL c l) := by
 induction l with
 | nil => simp [partsL, h, headCons, lastSnoc]
 | cons b l ih =>
  rw [List.cons_append, partsL_cons, partsL_cons, ih]
  by_cases hb : b = c
  ·rw [if_pos hb, if_pos hb, lastSnoc_cons _ _ _ (partsL_ne c l)]
  ·rw [if_neg hb, if_neg hb, lastSnoc_head _ _ _ (partsL_ne c l)]
theorem lastSnoc_set (a : UInt8) (l : List (List UInt8)) (n : Nat) (h : l.length = n + 1) : lastSnoc a l = l.set n (l.getD n [] ++ [a]) := by
 induction l generalizing n with
 | nil => simp at h
 | cons x l ih =>
  cases l with
  | nil =>
   have : n = 0 := by simpa using h.symm
   subst this; rfl
  | cons y l =>
   obtain ⟨m, rfl⟩ : ∃ m, n = m + 1 := ⟨n - 1, by simp at h; omega⟩
   rw [lastSnoc_cons _ _ _ (by simp), ih m (by simpa using h)]; rfl
theorem headCons_mem (a : UInt8) (l : List (List UInt8)) (n : Nat) (h : ∀ x ∈ l, x.length ≤ n) : ∀ x ∈ headCons a l, x.length ≤ n + 1 := by
 cases l with
 | nil => intro x hx; simp [headCons] at hx; subst hx; simp
 | cons y l =>
  intro x hx
  simp only [headCons, List.mem_cons] at hx
  rcases hx with rfl | hx
  ·have := h y (by simp); simp; omega
  ·have := h x (by simp [hx]); omega
theorem partsL_mem (c : UInt8) (l : List UInt8) : ∀ x ∈ partsL c l, x.length ≤ l.length := by
 induction l with
 | nil => intro x hx; simp [partsL] at hx; subst hx; exact Nat.le_refl _
 | cons a l ih =>
  rw [partsL_cons]
  by_cases h : a = c
  ·rw [if_pos h]
   intro x hx
   rcases List.mem_cons.1 hx with rfl | hx
   ·simp
   ·have := ih x hx; simp; omega
  ·rw [if_neg h]; exact headCons_mem a _ _ ih
theorem partsL_getD (c : UInt8) (l : List UInt8) (j : Nat) : ((partsL c l).getD j []).length ≤ l.length := by
 rw [List.getD_eq_getElem?_getD]
 by_cases h : j < (partsL c l).length
 ·rw [List.getElem?_eq_getElem h]; exact partsL_mem c l _ (List.getElem_mem h)
 ·rw [List.getElem?_eq_none (by omega)]; simp
def strV (l : List UInt8) : Value := .string ⟨l.toArray⟩
def strC (ls : List (List UInt8)) : List Value := ls.map strV
@[simp] theorem strC_length (ls : List (List UInt8)) : (strC ls).length = ls.length := by simp [strC]
theorem strC_app (a b : List (List UInt8)) : strC (a ++ b) = strC a ++ strC b := by simp [strC]
theorem strC_set (ls : List (List UInt8)) (i : Nat) (x : List UInt8) : (strC ls).set i (strV x) = strC (ls.set i x) := by simp [strC, List.map_set]
theorem strC_get (ls : List (List UInt8)) (j : Nat) (h : j < ls.length) : (strC ls)[j]? = some (strV (ls.getD j [])) := by
 simp [strC, List.getD_eq_getElem?_getD, h]
def bless (x y : List UInt8) : Bool := Op.bytesLess x y
def lcmp : List (List UInt8) → List (List UInt8) → Int
 | [], [] => 0
 | [], _ :: _ => -1
 | _ :: _, [] => 1
 | x :: a, y :: b => if bless x y = true then -1 else if bless y x = true then 1 else lcmp a b
theorem bless_nil_r (x : List UInt8) : bless x [] = false := by cases x <;> rfl
theorem bless_nil_l (y : UInt8) (l : List UInt8) : bless [] (y :: l) = true := rfl
theorem bless_cons (a b : UInt8) (x y : List UInt8) : bless (a :: x) (b :: y) = (decide (a < b) || (a == b && bless x y)) := rfl
theorem bless_same (a : UInt8) (x y : List UInt8) : bless (a :: x) (a :: y) = bless x y := by
 rw [bless_cons]
 have : ¬ a < a := UInt8.lt_irrefl a
 simp [this]
theorem bless_self (x : List UInt8) : bless x x = false := by
 induction x with
 | nil => rfl
 | cons a x ih => rw [bless_same, ih]
theorem bless_diff (a b : UInt8) (x y : List UInt8) (h : a ≠ b) : bless (a :: x) (b :: y) = decide (a < b) := by
 rw [bless_cons]; simp [h]
theorem lcmp_nil_cons (y : List UInt8) (b : List (List UInt8)) : lcmp [] (y :: b) = -1 := by rw [lcmp]
theorem lcmp_cons_nil (x : List UInt8) (a : List (List UInt8)) : lcmp (x :: a) [] = 1 := by rw [lcmp]
theorem lcmp_nil_nil : lcmp [] [] = 0 := by rw [lcmp]
theorem lcmp_cons (x y : List UInt8) (a b : List (List UInt8)) : lcmp (x :: a) (y :: b) = if bless x y = true then -1 else if bless y x = true then 1 else lcmp a b := by rw [lcmp]
theorem lcmp_same (x : List UInt8) (a b : List (List UInt8)) : lcmp (x :: a) (x :: b) = lcmp a b := by rw [lcmp_cons, bless_self]; simp
theorem lcmp_head (a : UInt8) (P Q : List (List UInt8)) (hp : P ≠ []) (hq : Q ≠ []) : lcmp (headCons a P) (headCons a Q) = lcmp P Q := by
 cases P with
 | nil => exact absurd rfl hp
 | cons x P =>
  cases Q with
  | nil => exact absurd rfl hq
  | cons y Q => rw [headCons, headCons, lcmp_cons, lcmp_cons, bless_same, bless_same]
theorem lcmp_heads (a b : UInt8) (P Q : List (List UInt8)) (hp : P ≠ []) (hq : Q ≠ []) (h : a ≠ b) : lcmp (headCons a P) (headCons b Q) = sgn (a.toNat : Int) (b.toNat : Int) := by
 cases P with
 | nil => exact absurd rfl hp
 | cons x P =>
  cases Q with
  | nil => exact absurd rfl hq
  | cons y Q =>
   rw [headCons, headCons, lcmp_cons, bless_diff _ _ _ _ h, bless_diff _ _ _ _ (fun e => h e.symm)]
   have hn : a.toNat ≠ b.toNat := fun e => h (UInt8.toNat_inj.1 e)
   simp only [decide_eq_true_eq, UInt8.lt_iff_toNat_lt]
   by_cases hl : a.toNat < b.toNat
   ·rw [if_pos hl, sgn_lt (by omega)]
   ·rw [if_neg hl, if_pos (by omega), sgn_gt (by omega)]
def pp (l : List UInt8) : List (List UInt8) := if l = [] then [] else partsL 47 l
theorem pp_nil : pp [] = [] := rfl
theorem pp_ne {l : List UInt8} (h : l ≠ []) : pp l = partsL 47 l := if_neg h
theorem pp_cons (a : UInt8) (l : List UInt8) : pp (a :: l) = partsL 47 (a :: l) := if_neg (by simp)
theorem rk_slash : rk 47 = -1 := rfl
theorem rk_other {c : UInt8} (h : c ≠ 47) : rk c = (c.toNat : Int) := if_neg h
theorem lcmp_parts (a b : List UInt8) : lcmp (partsL 47 a) (partsL 47 b) = pcmp a b := by
 induction a generalizing b with
 | nil =>
  cases b with
  | nil => rw [partsL_nil, lcmp_same, lcmp_nil_nil, pcmp_nil_nil]
  | cons y b =>
   rw [partsL_nil, partsL_cons, pcmp_nil_cons]
   by_cases h : y = 47
   ·rw [if_pos h, lcmp_same]
    rcases hp : partsL 47 b with _ | ⟨u, v⟩
    ·exact absurd hp (partsL_ne _ _)
    ·exact lcmp_nil_cons _ _
   ·rw [if_neg h]
    rcases hp : partsL 47 b with _ | ⟨u, v⟩
    ·exact absurd hp (partsL_ne _ _)
    ·rw [headCons, lcmp_cons, bless_nil_l]; simp
 | cons x a ih =>
  cases b with
  | nil =>
   rw [partsL_nil, partsL_cons, pcmp_cons_nil]
   by_cases h : x = 47
   ·rw [if_pos h, lcmp_same]
    rcases hp : partsL 47 a with _ | ⟨u, v⟩
    ·exact absurd hp (partsL_ne _ _)
    ·exact lcmp_cons_nil _ _
   ·rw [if_neg h]
    rcases hp : partsL 47 a with _ | ⟨u, v⟩
    ·exact absurd hp (partsL_ne _ _)
    ·rw [headCons, lcmp_cons, bless_nil_r, bless_nil_l]; simp
  | cons y b =>
   rw [partsL_cons, partsL_cons, pcmp_cons]
   by_cases hx : x = 47
   ·subst hx
    rw [if_pos rfl]
    by_cases hy : y = 47
    ·subst hy
     rw [if_pos rfl, if_pos rfl, lcmp_same, ih]
    ·rw [if_neg hy, if_neg (fun e => hy e.symm), rk_slash, rk_other hy, sgn_lt (by omega)]
     rcases hp : partsL 47 b with _ | ⟨u, v⟩
     ·exact absurd hp (partsL_ne _ _)
     ·rw [headCons, lcmp_cons, bless_nil_l]; simp
   ·rw [if_neg hx]
    by_cases hy : y = 47
    ·subst hy
     rw [if_pos rfl, if_neg hx, rk_slash, rk_other hx, sgn_gt (by omega)]
     rcases hp : partsL 47 a with _ | ⟨u, v⟩
     ·exact absurd hp (partsL_ne _ _)
     ·rw [headCons, lcmp_cons, bless_nil_r, bless_nil_l]; simp
    ·rw [if_neg hy]
     by_cases e : x = y
     ·subst e
      rw [if_pos rfl, lcmp_head _ _ _ (partsL_ne _ _) (partsL_ne _ _), ih]
     ·rw [if_neg e, lcmp_heads _ _ _ _ (partsL_ne _ _) (partsL_ne _ _) e, rk_other hx, rk_other hy]
theorem lcmp_pp (a b : List UInt8) : lcmp (pp a) (pp b) = pcmp a b := by
 cases a with
 | nil =>
  cases b with
  | nil => rfl
  | cons y b =>
   rw [pp_nil, pp_cons, pcmp_nil_cons]
   rcases hp : partsL 47 (y :: b) with _ | ⟨u, v⟩
   ·exact absurd hp (partsL_ne _ _)
   ·exact lcmp_nil_cons _ _
 | cons x a =>
  cases b with
  | nil =>
   rw [pp_nil, pp_cons, pcmp_cons_nil]
   rcases hp : partsL 47 (x :: a) with _ | ⟨u, v⟩
   ·exact absurd hp (partsL_ne _ _)
   ·exact lcmp_cons_nil _ _
  | cons y b => rw [pp_cons, pp_cons, lcmp_parts]
theorem lcmp_app (p a b : List (List UInt8)) : lcmp (p ++ a) (p ++ b) = lcmp a b := by
 induction p with
 | nil => rfl
 | cons x p ih => rw [List.cons_append, List.cons_append, lcmp_same, ih]
theorem lcmp_short (a b : List (List UInt8)) (h : a = [] ∨ b = []) : lcmp a b = sgn a.length b.length := by
 rcases h with rfl | rfl
 ·cases b with
  | nil => rw [lcmp_nil_nil]; exact (sgn_self _).symm
  | cons y b => rw [lcmp_nil_cons, sgn_lt (by simp)]
 ·cases a with
  | nil => rw [lcmp_nil_nil]; exact (sgn_self _).symm
  | cons y b => rw [lcmp_cons_nil, sgn_gt (by simp)]
theorem lcmp_end (a b : List (List UInt8)) (k : Nat) (he : a.take k = b.take k) (ha : k ≤ a.length) (hb : k ≤ b.length) (h : k = a.length ∨ k = b.length) : lcmp a b = sgn a.length b.length := by
 have e1 : a = a.take k ++ a.drop k := (List.take_append_drop k a).symm
 have e2 : b = a.take k ++ b.drop k := by rw [he]; exact (List.take_append_drop k b).symm
 have l1 : (a.drop k).length = a.length - k := List.length_drop ..
 have l2 : (b.drop k).length = b.length - k := List.length_drop ..
 have : lcmp a b = lcmp (a.drop k) (b.drop k) := by
  conv => lhs; rw [e1, e2]
  exact lcmp_app _ _ _
 rw [this, lcmp_short _ _ (by rcases h with h | h; exact .inl (List.eq_nil_of_length_eq_zero (by omega)); exact .inr (List.eq_nil_of_length_eq_zero (by omega))), l1, l2]
 unfold sgn
 by_cases c1 : (a.length : Int) < b.length
 ·rw [if_pos c1, if_pos (by omega)]
 ·rw [if_neg c1, if_neg (by omega)]
  by_cases c2 : (b.length : Int) < a.length
  ·rw [if_pos c2, if_pos (by omega)]
  ·rw [if_neg c2, if_neg (by omega)]
theorem lcmp_at (a b : List (List UInt8)) (k : Nat) (he : a.take k = b.take k) (ha : k < a.length) (hb : k < b.length) :
  lcmp a b = if bless a[k] b[k] = true then -1 else if bless b[k] a[k] = true then 1 else lcmp (a.drop (k + 1)) (b.drop (k + 1)) := by
 have e1 : a = a.take k ++ a[k] :: a.drop (k + 1) := by rw [← List.drop_eq_getElem_cons ha]; exact (List.take_append_drop k a).symm
 have e2 : b = a.take k ++ b[k] :: b.drop (k + 1) := by rw [← List.drop_eq_getElem_cons hb, he]; exact (List.take_append_drop k b).symm
 have : lcmp a b = lcmp (a[k] :: a.drop (k + 1)) (b[k] :: b.drop (k + 1)) := by
  conv => lhs; rw [e1, e2]
  exact lcmp_app _ _ _
 rw [this, lcmp_cons]
theorem bless_total (x y : List UInt8) (h1 : bless x y = false) (h2 : bless y x = false) : x = y := by
 induction x generalizing y with
 | nil =>
  cases y with
  | nil => rfl
  | cons b y => rw [bless_nil_l] at h1; cases h1
 | cons a x ih =>
  cases y with
  | nil => rw [bless_nil_l] at h2; cases h2
  | cons b y =>
   by_cases e : a = b
   ·subst e
    rw [bless_same] at h1 h2
    rw [ih y h1 h2]
   ·rw [bless_diff _ _ _ _ e] at h1
    rw [bless_diff _ _ _ _ (fun h => e h.symm)] at h2
    have h1' := of_decide_eq_false h1
    have h2' := of_decide_eq_false h2
    rw [UInt8.lt_iff_toNat_lt] at h1' h2'
    exact absurd (UInt8.toNat_inj.1 (by omega)) e
theorem getD_take_snoc (ls : List (List UInt8)) (k : Nat) (h : k < ls.length) : ls.take (k + 1) = ls.take k ++ [ls.getD k []] := by
 rw [List.take_succ_eq_append_getElem h, List.getD_eq_getElem?_getD, List.getElem?_eq_getElem h]; rfl
theorem lcmp_step (a b : List (List UInt8)) (k : Nat) (he : a.take k = b.take k) (ha : k < a.length) (hb : k < b.length) :
  (bless (a.getD k []) (b.getD k []) = true → lcmp a b = -1) ∧ (bless (a.getD k []) (b.getD k []) = false → a.getD k [] ≠ b.getD k [] → lcmp a b = 1) ∧ (a.getD k [] = b.getD k [] → a.take (k + 1) = b.take (k + 1)) := by
 have ga : a.getD k [] = a[k] := by rw [List.getD_eq_getElem?_getD, List.getElem?_eq_getElem ha]; rfl
 have gb : b.getD k [] = b[k] := by rw [List.getD_eq_getElem?_getD, List.getElem?_eq_getElem hb]; rfl
 rw [ga, gb]
 refine ⟨fun h => ?_, fun h hne => ?_, fun h => ?_⟩
 ·rw [lcmp_at a b k he ha hb, if_pos h]
 ·rw [lcmp_at a b k he ha hb, if_neg (by rw [h]; simp), if_pos]
  cases h2 : bless b[k] a[k]
  ·exact absurd (bless_total _ _ h h2) hne
  ·rfl
 ·rw [getD_take_snoc a k ha, getD_take_snoc b k hb, he, ga, gb, h]
theorem headCons_app (a : UInt8) (l m : List (List UInt8)) (h : l ≠ []) : headCons a (l ++ m) = headCons a l ++ m := by
 cases l with
 | nil => exact absurd rfl h
 | cons x l => rfl
theorem partsL_app (c : UInt8) (a b : List UInt8) : partsL c (a ++ c :: b) = partsL c a ++ partsL c b := by
 induction a with
 | nil => rw [List.nil_append, partsL_cons, if_pos rfl, partsL_nil]; rfl
 | cons x a ih =>
  rw [List.cons_append, partsL_cons, partsL_cons, ih]
  by_cases h : x = c
  ·rw [if_pos h, if_pos h]; rfl
  ·rw [if_neg h, if_neg h, headCons_app _ _ _ (partsL_ne c a)]
theorem partsL_none (c : UInt8) (l : List UInt8) (h : hasB c l = false) : partsL c l = [l] := by
 induction l with
 | nil => rfl
 | cons x l ih =>
  rw [hasB_cons, Bool.or_eq_false_iff] at h
  have hx : x ≠ c := by simpa using h.1
  rw [partsL_cons, if_neg hx, ih h.2]; rfl
def joinL : List (List UInt8) → List UInt8
 | [] => []
 | [x] => x
 | x :: y :: r => x ++ 47 :: joinL (y :: r)
theorem joinL_cons (x : List UInt8) (l : List (List UInt8)) (h : l ≠ []) : joinL (x :: l) = x ++ 47 :: joinL l := by
 cases l with
 | nil => exact absurd rfl h
 | cons y l => rfl
theorem joinL_head (a : UInt8) (l : List (List UInt8)) (h : l ≠ []) : joinL (headCons a l) = a :: joinL l := by
 cases l with
 | nil => exact absurd rfl h
 | cons x l =>
  cases l with
  | nil => rfl
  | cons y l => rfl
theorem joinL_parts (l : List UInt8) : joinL (partsL 47 l) = l := by
 induction l with
 | nil => rfl
 | cons x l ih =>
  rw [partsL_cons]
  by_cases h : x = 47
  ·rw [if_pos h, joinL_cons _ _ (partsL_ne _ _), ih, h]; rfl
  ·rw [if_neg h, joinL_head _ _ (partsL_ne _ _), ih]
theorem joinL_snoc (ls : List (List UInt8)) (x : List UInt8) (h : ls ≠ []) : joinL (ls ++ [x]) = joinL ls ++ 47 :: x := by
 induction ls with
 | nil => exact absurd rfl h
 | cons y ls ih =>
  by_cases h2 : ls = []
  ·subst h2; rfl
  ·rw [List.cons_append, joinL_cons _ _ (by simp), ih h2, joinL_cons _ _ h2]; simp
theorem joinL_take_le (ls : List (List UInt8)) (k : Nat) : (joinL (ls.take k)).length ≤ (joinL ls).length := by
 induction ls generalizing k with
 | nil => simp
 | cons x ls ih =>
  cases k with
  | zero => simp [joinL]
  | succ k =>
   rw [List.take_succ_cons]
   by_cases h : ls = []
   ·subst h; simp
   ·rw [joinL_cons x ls h]
    by_cases h2 : ls.take k = []
    ·rw [h2]; simp [joinL]
    ·rw [joinL_cons _ _ h2]
     have := ih k
     simp only [List.length_append, List.length_cons]; omega
def upL (l : List UInt8) : List UInt8 := joinL (partsL 47 l).dropLast
def baseL (l : List UInt8) : List UInt8 := (partsL 47 l).getLast (partsL_ne 47 l)
theorem up_base_at (l a b : List UInt8) (h : hasB 47 b = false) (e : l = a ++ 47 :: b) : upL l = a ∧ baseL l = b := by
 have hp : partsL 47 l = partsL 47 a ++ [b] := by rw [e, partsL_app, partsL_none 47 b h]
 refine ⟨?_, ?_⟩
 ·unfold upL; rw [hp, List.dropLast_concat, joinL_parts]
 ·unfold baseL; simp [hp]
theorem up_base_none (l : List UInt8) (h : hasB 47 l = false) : upL l = [] ∧ baseL l = l := by
 have hp := partsL_none 47 l h
 refine ⟨?_, ?_⟩
 ·unfold upL; rw [hp]; rfl
 ·unfold baseL; simp [hp]
theorem hasB_mem (c : UInt8) (l : List UInt8) : hasB c l = false ↔ ∀ x ∈ l, x ≠ c := by
 unfold hasB; simp
theorem last_cases (s : ByteArray) : (Lib.lastIndexByte s 47 = -1 ∧ upL s.data.toList = [] ∧ baseL s.data.toList = s.data.toList ∧ hasB 47 s.data.toList = false) ∨
  ∃ i : Nat, i < s.size ∧ Lib.lastIndexByte s 47 = i ∧ upL s.data.toList = s.data.toList.take i ∧ baseL s.data.toList = s.data.toList.drop (i + 1) ∧ hasB 47 s.data.toList = true := by
 have hl : s.data.toList.length = s.size := by simp
 have hg : ∀ j (h : j < s.size), s.data[j]! = s.data.toList[j]'(by omega) := fun j h => by
  rw [getElem!_pos s.data j (by simpa using h)]; simp
 rcases Lib.lastIndexByte_spec s 47 with ⟨h1, h2⟩ | ⟨i, hi, h1, h2, h3⟩
 ·refine .inl ⟨h1, ?_⟩
  have hb : hasB 47 s.data.toList = false := by
   rw [hasB_mem]
   intro x hx e
   obtain ⟨j, hj, rfl⟩ := List.getElem_of_mem hx
   refine h2 j (by omega) ?_
   rw [hg j (by omega), e]; rfl
  obtain ⟨u, b⟩ := up_base_none _ hb
  exact ⟨u, b, hb⟩
 ·refine .inr ⟨i, hi, h1, ?_⟩
  have hil : i < s.data.toList.length := by omega
  have e47 : s.data.toList[i] = 47 := by
   have := h2; rw [hg i hi] at this
   exact UInt8.toNat_inj.1 (by show _ = 47; omega)
  have hb : hasB 47 (s.data.toList.drop (i + 1)) = false := by
   rw [hasB_mem]
   intro x hx e
   obtain ⟨j, hj, rfl⟩ := List.getElem_of_mem hx
   rw [List.length_drop] at hj
   refine h3 (i + 1 + j) (by omega) (by omega) ?_
   rw [hg _ (by omega)]
   rw [List.getElem_drop] at e
   rw [e]; rfl
  have e : s.data.toList = s.data.toList.take i ++ 47 :: s.data.toList.drop (i + 1) := by
   conv => lhs; rw [← List.take_append_drop i s.data.toList, List.drop_eq_getElem_cons hil, e47]
  obtain ⟨u, b⟩ := up_base_at _ _ _ hb e
  refine ⟨u, b, ?_⟩
  rw [e, hasB_app, hasB_cons]; simp
theorem partsL_cut (c : UInt8) (l : List UInt8) (h : hasB c l = true) : partsL c l = l.take (pos c l) :: partsL c (l.drop (pos c l + 1)) := by
 have hp : pos c l < l.length := by rw [hasB_pos] at h; exact of_decide_eq_true h
 have e : l = l.take (pos c l) ++ c :: l.drop (pos c l + 1) := by
  conv => lhs; rw [← List.take_append_drop (pos c l) l, List.drop_eq_getElem_cons hp, pos_get c l hp]
 conv => lhs; rw [e]
 rw [partsL_app, partsL_none c _ (hasB_take c l _ (Nat.le_refl _))]; rfl
theorem count_cut (c : UInt8) (l : List UInt8) (h : hasB c l = true) : l.count c = (l.drop (pos c l + 1)).count c + 1 := by
 have := partsL_cut c l h
 have h2 := congrArg List.length this
 rw [partsL_length, List.length_cons, partsL_length] at h2
 omega
theorem splitK_parts (c : UInt8) (k : Nat) (l : List UInt8) (h : l.count c = k) : Lib.splitK [c] 0 k l = partsL c l := by
 induction k generalizing l with
 | zero =>
  have : hasB c l = false := by
   rw [hasB_mem]; intro x hx e; subst e
   have := List.count_pos_iff.2 hx; omega
  rw [partsL_none c l this]; rfl
 | succ k ih =>
  have hb : hasB c l = true := by
   rw [← Bool.not_eq_false, hasB_mem]; intro h2
   have : l.count c = 0 := List.count_eq_zero.2 (fun hm => h2 c hm rfl)
   omega
  have hi : Lib.index l [c] = (pos c l : Int) := by rw [Lib.index_one, indexByte_pos, if_pos hb]
  have hc := count_cut c l hb
  unfold Lib.splitK
  rw [hi, if_neg (by simp), partsL_cut c l hb, Int.toNat_natCast, Nat.add_zero, List.length_singleton, ih _ (by omega)]
theorem countB_slash (s : ByteArray) : Lib.countB s ⟨#[47]⟩ = s.data.toList.count 47 := Lib.count_one 47 s.data.toList
theorem splitB_parts (s : ByteArray) (k : Nat) (h : s.data.toList.count 47 = k) : (Lib.splitB ⟨#[47]⟩ 0 k s).map Value.string = strC (partsL 47 s.data.toList) := by
 have hd := Lib.splitB_data ⟨#[47]⟩ 0 k s
 rw [show (⟨#[47]⟩ : ByteArray).data.toList = [47] from rfl, splitK_parts 47 k _ h] at hd
 rw [← hd]
 unfold strC
 rw [List.map_map]
 refine List.map_congr_left fun x _ => ?_
 show Value.string x = strV x.data.toList
 unfold strV
 congr 1
def nameB (l : List UInt8) : Bool := !(decide (l = [])) && !(decide (l = [46])) && !(decide (l = [46, 46]))
theorem nameB_false (l : List UInt8) (h : l = [] ∨ l = [46] ∨ l = [46, 46]) : nameB l = false := by
 rcases h with rfl | rfl | rfl <;> rfl
theorem nameB_true (l : List UInt8) (h : l ≠ []) (h1 : l ≠ [46]) (h2 : l ≠ [46, 46]) : nameB l = true := by simp [nameB, h, h1, h2]
def pathE (l : List UInt8) : Int :=
 if l.length < 1 ∨ 400 < l.length then 1 else if hasB 0 l = true then 3 else if (partsL 47 l).all nameB = true then 0 else 9
theorem pathE_size {l : List UInt8} (h : l.length < 1 ∨ 400 < l.length) : pathE l = 1 := if_pos h
theorem pathE_form {l : List UInt8} (h : ¬ (l.length < 1 ∨ 400 < l.length)) (h2 : hasB 0 l = true) : pathE l = 3 := by rw [pathE, if_neg h, if_pos h2]
theorem pathE_ok {l : List UInt8} (h : ¬ (l.length < 1 ∨ 400 < l.length)) (h2 : hasB 0 l = false) (h3 : (partsL 47 l).all nameB = true) : pathE l = 0 := by rw [pathE, if_neg h, if_neg (by simp [h2]), if_pos h3]
theorem pathE_no {l : List UInt8} (h : ¬ (l.length < 1 ∨ 400 < l.length)) (h2 : hasB 0 l = false) (h3 : (partsL 47 l).all nameB = false) : pathE l = 9 := by rw [pathE, if_neg h, if_neg (by simp [h2]), if_neg (by simp [h3])]
def allE (ls : List (List UInt8)) : Int := if ls.all nameB = true then 0 else 9
theorem allE_yes {ls : List (List UInt8)} (h : ls.all nameB = true) : allE ls = 0 := if_pos h
theorem allE_no {ls : List (List UInt8)} (h : ls.all nameB = false) : allE ls = 9 := if_neg (by simp [h])
theorem all_take_no (ls : List (List UInt8)) (p : List UInt8 → Bool) (k : Nat) (hk : k < ls.length) (h : p (ls.getD k []) = false) : ls.all p = false := by
 rw [← Bool.not_eq_true, List.all_eq_true]
 intro h2
 rw [List.getD_eq_getElem?_getD, List.getElem?_eq_getElem hk] at h
 have := h2 _ (List.getElem_mem hk)
 rw [Option.getD_some] at h
 rw [h] at this; cases this
theorem all_take_snoc (ls : List (List UInt8)) (p : List UInt8 → Bool) (k : Nat) (hk : k < ls.length) (h0 : (ls.take k).all p = true) (h : p (ls.getD k []) = true) : (ls.take (k + 1)).all p = true := by
 rw [getD_take_snoc ls k hk, List.all_append, h0]; simpa using h
theorem eq_const (s : ByteArray) (l : List UInt8) : (s.toList = l) = (s.data.toList = l) := by
 rw [ByteArray.toList_eq]
theorem MetaV.ext_iff' (a b : MetaV) : (a.mode = b.mode ∧ a.uid = b.uid ∧ a.gid = b.gid ∧ a.user = b.user ∧ a.group = b.group ∧ a.second = b.second ∧ a.nano = b.nano) ↔ a = b := by
 constructor
 ·rintro ⟨h1, h2, h3, h4, h5, h6, h7⟩
  cases a; cases b; simp_all
 ·rintro rfl; exact ⟨rfl, rfl, rfl, rfl, rfl, rfl, rfl⟩
instance : DecidableEq MetaV := fun a b => decidable_of_iff _ (MetaV.ext_iff' a b)
theorem NodeV.ext_iff' (a b : NodeV) : (a.path = b.path ∧ a.kind = b.kind ∧ a.same = b.same ∧ a.target = b.target ∧ a.md = b.md ∧ a.data = b.data) ↔ a = b := by
 constructor
 ·rintro ⟨h1, h2, h3, h4, h5, h6⟩
  cases a; cases b; simp_all
 ·rintro rfl; exact ⟨rfl, rfl, rfl, rfl, rfl, rfl⟩
instance : DecidableEq NodeV := fun a b => decidable_of_iff _ (NodeV.ext_iff' a b)
def nodK (n : NodeV) : Int :=
 if n.kind = 1 then (if n.target ≠ [] ∨ n.same < 0 then 3 else if 2000 < n.data.length then 1 else 0)
 else if n.kind = 2 ∨ n.kind = 3 then
  (if n.data ≠ [] ∨ n.same ≠ 0 ∨ (n.kind = 2 ∧ n.target ≠ []) ∨ (n.kind = 3 ∧ n.target = []) ∨ hasB 0 n.target = true then 3 else if 400 < n.target.length then 1 else 0)
 else 2
def nodE (n : NodeV) : Int := if pathE n.path ≠ 0 then pathE n.path else if metE n.md ≠ 0 then metE n.md else nodK n
def findL (t : List NodeV) (s : List UInt8) : Nat := (t.takeWhile fun n => !decide (n.path = s)).length
theorem findL_le (t : List NodeV) (s : List UInt8) : findL t s ≤ t.length := by
 unfold findL
 induction t with
 | nil => exact Nat.le_refl _
 | cons a t ih => rw [List.takeWhile_cons]; split <;> simp_all <;> omega
theorem findL_ne (t : List NodeV) (s : List UInt8) (k : Nat) (h : k < findL t s) (hk : k < t.length) : t[k].path ≠ s := by
 induction t generalizing k with
 | nil => exact absurd hk (by simp)
 | cons a t ih =>
  unfold findL at h
  rw [List.takeWhile_cons] at h
  by_cases e : a.path = s
  ·simp [e] at h
  ·simp only [e, decide_false, Bool.not_false, if_true, List.length_cons] at h
   cases k with
   | zero => simpa using e
   | succ k => simpa using ih k (by unfold findL; omega) (by simpa using hk)
theorem findL_at (t : List NodeV) (s : List UInt8) (h : findL t s < t.length) : (t[findL t s]'h).path = s := by
 induction t with
 | nil => exact absurd h (by simp)
 | cons a t ih =>
  by_cases e : a.path = s
  ·have h0 : findL (a :: t) s = 0 := by unfold findL; simp [e]
   simp only [h0]; exact e
  ·have h1 : findL (a :: t) s = findL t s + 1 := by unfold findL; simp [e]
   have h' : findL t s < t.length := by rw [h1, List.length_cons] at h; omega
   have := ih h'
   simp [h1, this]
theorem findL_stop (t : List NodeV) (s : List UInt8) (k : Nat) (hk : k < t.length) (h : k ≤ findL t s) (e : t[k].path = s) : findL t s = k := by
 rcases Nat.lt_or_eq_of_le h with h' | h'
 ·exact absurd e (findL_ne t s k h' hk)
 ·exact h'.symm
theorem findL_step (t : List NodeV) (s : List UInt8) (k : Nat) (hk : k < t.length) (h : k ≤ findL t s) (e : t[k].path ≠ s) : k + 1 ≤ findL t s := by
 rcases Nat.lt_or_eq_of_le h with h' | h'
 ·exact h'
 ·subst h'; exact absurd (findL_at t s hk) e
def upOk (t : List NodeV) (p : List UInt8) : Bool := decide (upL p = []) || t.any fun n => decide (n.path = upL p) && decide (n.kind = 2)
def linkNo (t : List NodeV) (n : NodeV) : Bool := decide (n.same ≠ 0) && t.any fun x => decide (x.same = n.same) && !(decide (x.md = n.md) && decide (x.data = n.data))
def atE (t : List NodeV) (n : NodeV) : Int :=
 if nodE n ≠ 0 then nodE n
 else if (match t.getLast? with | some x => !decide (pcmp x.path n.path = -1) | none => false) = true then 6
 else if upOk t n.path = false then 10
 else if linkNo t n = true then 11
 else 0
def walkE (t : List NodeV) : List NodeV → Int
 | [] => 0
 | n :: l => if atE t n ≠ 0 then atE t n else walkE (t ++ [n]) l
def treeE (t : List NodeV) : Int := if 40 < t.length then 1 else walkE [] t
def putL (t : List NodeV) (n : NodeV) : List NodeV := t.filter (fun x => decide (pcmp x.path n.path < 0)) ++ n :: t.filter fun x => decide (0 < pcmp x.path n.path)
def remL (t : List NodeV) (s : List UInt8) : List NodeV := t.filter fun n => !(decide (n.path = s) || inB n.path s)
def putT (t : List NodeV) (n : NodeV) : List NodeV × Int := if treeE t ≠ 0 then ([], treeE t) else if treeE (putL t n) ≠ 0 then ([], treeE (putL t n)) else (putL t n, 0)
def remT (t : List NodeV) (s : List UInt8) : List NodeV × Int := if treeE t ≠ 0 then ([], treeE t) else if findL t s = t.length then ([], 5) else (remL t s, 0)
def Rises (t : List NodeV) : Prop := t.Pairwise fun x y => pcmp x.path y.path = -1
theorem plt_trans {a b c : List UInt8} (h1 : pcmp a b = -1) (h2 : pcmp b c = -1) : pcmp a c = -1 := by
 have h := pcmp_trans a b c (by omega) (by omega)
 have hb := pcmp_bd a c
 rcases Int.lt_or_eq_of_le h with h | h
 ·omega
 ·have := (pcmp_zero a c).1 h
  subst this
  have := pcmp_neg a b; omega
structure Sound (t : List NodeV) : Prop where
 rises : Rises t
 node : ∀ n ∈ t, nodE n = 0
 up : ∀ n ∈ t, upL n.path = [] ∨ ∃ d ∈ t, d.path = upL n.path ∧ d.kind = 2
 link : ∀ x ∈ t, ∀ y ∈ t, x.same = y.same → x.same ≠ 0 → x.md = y.md ∧ x.data = y.data
theorem rises_get {t : List NodeV} (h : Rises t) (i j : Nat) (hi : i < t.length) (hj : j < t.length) (hij : i < j) : pcmp t[i].path t[j].path = -1 :=
 (List.pairwise_iff_getElem.1 h) i j hi hj hij
theorem rises_snoc {t : List NodeV} {n : NodeV} (h : Rises t) (hl : ∀ x, t.getLast? = some x → pcmp x.path n.path = -1) : Rises (t ++ [n]) := by
 unfold Rises at *
 rw [List.pairwise_append]
 refine ⟨h, List.pairwise_singleton _ _, fun x hx y hy => ?_⟩
 obtain rfl : y = n := by simpa using hy
 obtain ⟨i, hi, rfl⟩ := List.getElem_of_mem hx
 have hne : t ≠ [] := by intro e; subst e; simp at hi
 have hlast := hl _ (List.getLast?_eq_some_getLast hne)
 rw [List.getLast_eq_getElem] at hlast
 rcases Nat.lt_or_eq_of_le (show i ≤ t.length - 1 by omega) with h' | h'
 ·exact plt_trans (rises_get h i (t.length - 1) hi (by omega) h') hlast
 ·subst h'; exact hlast
def AllLt (t : List NodeV) (p : List UInt8) : Prop := ∀ x ∈ t, pcmp x.path p < 0
def sameAt (t : List NodeV) (i : Nat) : Int := (t[i]?.map NodeV.same).getD 0
theorem sameAt_at {t : List NodeV} {i : Nat} (h : i < t.length) : sameAt t i = t[i].same := by unfold sameAt; rw [List.getElem?_eq_getElem h]; rfl
def eqF (t : List NodeV) (k i : Nat) : Bool := decide (sameAt t i ≠ 0 ∧ sameAt t k = sameAt t i)
def firstF (t : List NodeV) (i : Nat) : Nat := ((List.range i).find? fun k => eqF t k i).getD i
def isF (t : List NodeV) (i k : Nat) : Bool := decide (k = i) || (decide (0 < sameAt t i) && decide (sameAt t k = sameAt t i))
def namesF (t : List NodeV) (i : Nat) : Nat := (List.range t.length).countP (isF t i)
def anewN (t : List NodeV) (i : Nat) (x : NodeV) : NodeV := { x with same := if 1 < namesF t i then (firstF t i : Int) + 1 else 0 }
def anewF (t : List NodeV) : List NodeV := t.mapIdx fun i x => anewN t i x
theorem node_kind {x : NodeV} (h : nodE x = 0) : nodK x = 0 := by
 unfold nodE at h
 split at h
 ·rename_i h1; exact absurd h h1
 ·split at h
  ·rename_i h1; exact absurd h h1
  ·exact h
theorem node_same {x : NodeV} (h : nodE x = 0) : 0 ≤ x.same ∧ (x.same ≠ 0 → x.kind = 1) := by
 have hk := node_kind h
 unfold nodK at hk
 split at hk
 ·rename_i h1
  split at hk
  ·cases hk
  ·rename_i h2
   refine ⟨?_, fun _ => h1⟩
   apply Classical.byContradiction
   intro hc
   exact h2 (.inr (by omega))
 ·split at hk
  ·split at hk
   ·cases hk
   ·rename_i h2
    have h0 : x.same = 0 := by
     apply Classical.byContradiction
     intro hc
     exact h2 (.inr (.inl hc))
    exact ⟨by omega, fun hc => absurd h0 hc⟩
  ·cases hk
theorem Sound.pos {t : List NodeV} (h : Sound t) (i : Nat) : 0 ≤ sameAt t i := by
 by_cases hi : i < t.length
 ·rw [sameAt_at hi]; exact (node_same (h.node _ (List.getElem_mem hi))).1
 ·unfold sameAt
  rw [List.getElem?_eq_none (by omega)]
  exact Int.le_refl _
theorem count_one (i n : Nat) : (List.range n).countP (fun k => decide (k = i)) ≤ if i < n then 1 else 0 := by
 induction n with
 | zero => simp
 | succ n ih =>
  rw [List.range_succ, List.countP_append, List.countP_singleton]
  by_cases h1 : n = i
  ·rw [if_pos (decide_eq_true h1), if_pos (by omega)]
   rw [if_neg (by omega)] at ih
   omega
  ·rw [if_neg (by simpa using h1)]
   by_cases h2 : i < n
   ·rw [if_pos h2] at ih
    rw [if_pos (by omega)]
    omega
   ·rw [if_neg h2] at ih
    rw [if_neg (by omega)]
    omega
def alikeF (a b : List NodeV) : Prop := a.length = b.length ∧ (∀ i (h : i < a.length) (h2 : i < b.length), ({ a[i] with same := 0 } : NodeV) = { b[i] with same := 0 }) ∧
 ∀ i k, k < i → i < a.length → (0 < sameAt a i ∧ sameAt a i = sameAt a k ↔ 0 < sameAt b i ∧ sameAt b i = sameAt b k)
structure EntV where
 path : List UInt8
 kind : Int
 target : List UInt8
 md : MetaV
 data : List UInt8
instance : Inhabited EntV := ⟨⟨[], 0, [], ⟨0, 0, 0, [], [], 0, 0⟩, []⟩⟩
theorem EntV.ext_iff' (a b : EntV) : (a.path = b.path ∧ a.kind = b.kind ∧ a.target = b.target ∧ a.md = b.md ∧ a.data = b.data) ↔ a = b := by
 constructor
 ·rintro ⟨h1, h2, h3, h4, h5⟩
  cases a; cases b; simp_all
 ·rintro rfl; exact ⟨rfl, rfl, rfl, rfl, rfl⟩
instance : DecidableEq EntV := fun a b => decidable_of_iff _ (EntV.ext_iff' a b)
def EntV.nod (x : EntV) : NodeV := ⟨x.path, x.kind, 0, x.target, x.md, x.data⟩
def NodeV.ent (x : NodeV) : EntV := ⟨x.path, x.kind, x.target, x.md, x.data⟩
def entK (x : EntV) : Int :=
 if x.kind < 1 ∨ 4 < x.kind then 2
 else if (2 < x.kind ∧ x.target = []) ∨ (¬ 2 < x.kind ∧ x.target ≠ []) ∨ (1 < x.kind ∧ x.data ≠ []) then 3
 else if 2000 < x.data.length ∨ 400 < x.target.length then 1
 else if x.kind = 4 then pathE x.target
 else if hasB 0 x.target = true then 3 else 0
def entE (x : EntV) : Int := if pathE x.path ≠ 0 then pathE x.path else if metE x.md ≠ 0 then metE x.md else entK x
theorem entE_parts {x : EntV} (h : entE x = 0) : pathE x.path = 0 ∧ metE x.md = 0 ∧ entK x = 0 := by
 unfold entE at h
 split at h
 ·rename_i h1; exact absurd h h1
 ·rename_i h1
  split at h
  ·rename_i h2; exact absurd h h2
  ·rename_i h2
   exact ⟨by simpa using h1, by simpa using h2, h⟩
def findE (l : List EntV) (s : List UInt8) : Nat := findL (l.map EntV.nod) s
theorem findE_le (l : List EntV) (s : List UInt8) : findE l s ≤ l.length := by
 have := findL_le (l.map EntV.nod) s
 rwa [List.length_map] at this
theorem findE_at (l : List EntV) (s : List UInt8) (h : findE l s < l.length) : (l[findE l s]'h).path = s := by
 have := findL_at (l.map EntV.nod) s (by rw [List.length_map]; exact h)
 rw [List.getElem_map] at this
 exact this
theorem findE_ne (l : List EntV) (s : List UInt8) (k : Nat) (h : k < findE l s) (hk : k < l.length) : l[k].path ≠ s := by
 have := findL_ne (l.map EntV.nod) s k h (by rw [List.length_map]; exact hk)
 rw [List.getElem_map] at this
 exact this
theorem findE_stop (l : List EntV) (s : List UInt8) (k : Nat) (hk : k < l.length) (h : k ≤ findE l s) (e : l[k].path = s) : findE l s = k :=
 findL_stop (l.map EntV.nod) s k (by rw [List.length_map]; exact hk) h (by rw [List.getElem_map]; exact e)
theorem findE_step (l : List EntV) (s : List UInt8) (k : Nat) (hk : k < l.length) (h : k ≤ findE l s) (e : l[k].path ≠ s) : k + 1 ≤ findE l s :=
 findL_step (l.map EntV.nod) s k (by rw [List.length_map]; exact hk) h (by rw [List.getElem_map]; exact e)
def upE (l : List EntV) (p : List UInt8) : Bool := decide (upL p = []) || if h : findE l (upL p) < l.length then decide ((l[findE l (upL p)]'h).kind = 2) else false
def aimE (l : List EntV) (x : EntV) : Bool := decide (x.kind ≠ 4) || if h : findE l x.target < l.length then decide ((l[findE l x.target]'h).kind = 1) && decide ((l[findE l x.target]'h).md = x.md) else false
def eatE (l : List EntV) (x : EntV) : Int :=
 if entE x ≠ 0 then entE x
 else if (match l.getLast? with | some y => !decide (pcmp y.path x.path = -1) | none => false) = true then 6
 else if upE l x.path = false then 10
 else if aimE l x = false then 11
 else 0
def ewalkE (l : List EntV) : List EntV → Int
 | [] => 0
 | x :: m => if eatE l x ≠ 0 then eatE l x else ewalkE (l ++ [x]) m
def entsE (l : List EntV) : Int := if 40 < l.length then 1 else ewalkE [] l
theorem ewalkE_app (t l m : List EntV) (h : ewalkE t l = 0) : ewalkE t (l ++ m) = ewalkE (t ++ l) m := by
 induction l generalizing t with
 | nil => simp
 | cons n l ih =>
  rw [ewalkE] at h
  rw [List.cons_append, ewalkE]
  by_cases e : eatE t n ≠ 0
  ·rw [if_pos e] at h; exact absurd h e
  ·rw [if_neg e] at h ⊢
   rw [ih _ h]; simp
theorem ewalkE_stop (l : List EntV) (k : Nat) (hk : k < l.length) (h : ewalkE [] (l.take k) = 0) (he : eatE (l.take k) l[k] ≠ 0) : ewalkE [] l = eatE (l.take k) l[k] := by
 have h1 := ewalkE_app [] (l.take k) (l.drop k) h
 rw [List.take_append_drop, List.nil_append, List.drop_eq_getElem_cons hk, ewalkE, if_pos he] at h1
 exact h1
theorem ewalkE_step (l : List EntV) (k : Nat) (hk : k < l.length) (h : ewalkE [] (l.take k) = 0) (he : eatE (l.take k) l[k] = 0) : ewalkE [] (l.take (k + 1)) = 0 := by
 have h1 := ewalkE_app [] (l.take k) [l[k]] h
 rw [← List.take_succ_eq_append_getElem hk, List.nil_append, ewalkE, if_neg (by simp [he]), ewalkE] at h1
 exact h1
theorem ewalkE_all (l : List EntV) : ∀ s, ewalkE s l = 0 ↔ ∀ k (hk : k < l.length), eatE (s ++ l.take k) l[k] = 0 := by
 induction l with
 | nil => intro s; simp [ewalkE]
 | cons n l ih =>
  intro s
  rw [ewalkE]
  constructor
  ·intro h k hk
   by_cases e : eatE s n ≠ 0
   ·rw [if_pos e] at h; exact absurd h e
   ·rw [if_neg e] at h
    cases k with
    | zero => simp only [List.take_zero, List.append_nil, List.getElem_cons_zero]; simpa using e
    | succ k =>
     have := (ih _).1 h k (by simpa using hk)
     simpa using this
  ·intro h
   have h0 : eatE s n = 0 := by
    have := h 0 (by simp)
    simpa only [List.take_zero, List.append_nil, List.getElem_cons_zero] using this
   rw [if_neg (by simp [h0])]
   refine (ih _).2 fun k hk => ?_
   have := h (k + 1) (by simpa using hk)
   simpa using this
theorem eatE_zero (l : List EntV) (x : EntV) : eatE l x = 0 ↔ entE x = 0 ∧ (∀ y, l.getLast? = some y → pcmp y.path x.path = -1) ∧ upE l x.path = true ∧ aimE l x = true := by
 unfold eatE
 by_cases h1 : entE x ≠ 0
 ·rw [if_pos h1]; exact ⟨fun h => absurd h h1, fun h => absurd h.1 h1⟩
 ·rw [if_neg h1]
  have h1' : entE x = 0 := by simpa using h1
  cases hg : l.getLast? with
  | none =>
   simp only [Bool.false_eq_true, if_false]
   cases upE l x.path <;> cases aimE l x <;> simp [h1']
  | some y =>
   by_cases h2 : pcmp y.path x.path = -1
   ·cases upE l x.path <;> cases aimE l x <;> simp [h1', h2]
   ·simp [h2]
def planE (t : List NodeV) (i : Nat) (x : NodeV) : EntV :=
 if 0 < x.same ∧ firstF t i < i then ⟨x.path, 4, ((t[firstF t i]?).map NodeV.path).getD [], x.md, []⟩ else x.ent
def planL (t : List NodeV) : List EntV := t.mapIdx fun i x => planE t i x
def growE (l : List EntV) (i : Nat) (x : EntV) : NodeV :=
 if x.kind = 4 then ⟨x.path, 1, (findE l x.target : Nat) + 1, [], x.md, ((l[findE l x.target]?).map EntV.data).getD []⟩
 else ⟨x.path, x.kind, if x.kind = 1 ∧ (l.any fun y => decide (y.kind = 4) && decide (y.target = x.path)) = true then (i : Int) + 1 else 0, x.target, x.md, x.data⟩
def growL (l : List EntV) : List NodeV := l.mapIdx fun i x => growE l i x
def fits (l : List UInt8) (i : Nat) : Bool := decide (1 ≤ i ∧ i ≤ 155 ∧ i + 2 ≤ l.length ∧ l.length ≤ i + 101) && (l.getD i 0 == 47)
def cutAt (l : List UInt8) : Option Nat := (List.range l.length).find? (fits l)
theorem fits_lt {l : List UInt8} {i : Nat} (h : fits l i = true) : i < l.length := by
 unfold fits at h; rw [Bool.and_eq_true, decide_eq_true_eq] at h; omega
theorem fits_bd {l : List UInt8} {i : Nat} (h : fits l i = true) : 1 ≤ i ∧ i ≤ 155 ∧ i + 2 ≤ l.length ∧ l.length ≤ i + 101 := by
 unfold fits at h; rw [Bool.and_eq_true, decide_eq_true_eq] at h; exact h.1
theorem fits_byte {l : List UInt8} {i : Nat} (h : fits l i = true) : l.getD i 0 = 47 := by
 unfold fits at h; rw [Bool.and_eq_true, beq_iff_eq] at h; exact h.2
theorem fits_mk {l : List UInt8} {i : Nat} (h : 1 ≤ i ∧ i ≤ 155 ∧ i + 2 ≤ l.length ∧ l.length ≤ i + 101) (e : l.getD i 0 = 47) : fits l i = true := by
 unfold fits; rw [Bool.and_eq_true, decide_eq_true_eq, beq_iff_eq]; exact ⟨h, e⟩
theorem fits_no {l : List UInt8} {i : Nat} (h : ¬ (1 ≤ i ∧ i ≤ 155 ∧ i + 2 ≤ l.length ∧ l.length ≤ i + 101)) : fits l i = false := by
 rw [← Bool.not_eq_true]; exact fun e => h (fits_bd e)
theorem fits_ne {l : List UInt8} {i : Nat} (h : l.getD i 0 ≠ 47) : fits l i = false := by
 rw [← Bool.not_eq_true]; exact fun e => h (fits_byte e)
def noFit (l : List UInt8) (k : Nat) : Prop := ∀ j, j < k → fits l j = false
theorem noFit_succ {l : List UInt8} {k : Nat} (h : noFit l k) (e : fits l k = false) : noFit l (k + 1) := fun j hj => by
 rcases Nat.lt_or_eq_of_le (Nat.le_of_lt_succ hj) with a | a
 ·exact h j a
 ·rw [a]; exact e
theorem cutAt_some {l : List UInt8} {k : Nat} (h : noFit l k) (e : fits l k = true) : cutAt l = some k := by
 unfold cutAt
 rw [List.find?_range_eq_some]
 exact ⟨e, List.mem_range.2 (fits_lt e), fun j hj => by rw [h j hj]; rfl⟩
theorem cutAt_none {l : List UInt8} {k : Nat} (h : noFit l k) (hk : l.length < k + 2 ∨ 155 < k) : cutAt l = none := by
 unfold cutAt
 rw [List.find?_range_eq_none]
 intro j hj
 by_cases a : j < k
 ·rw [h j a]; rfl
 ·rw [fits_no (by omega)]; rfl
theorem cutAt_bd {l : List UInt8} {k : Nat} (h : cutAt l = some k) : fits l k = true := by
 unfold cutAt at h
 rw [List.find?_range_eq_some] at h
 exact h.1
def slashV (l : List UInt8) : Int := match cutAt l with | some k => k | none => -1
def cutV (l : List UInt8) : List UInt8 × List UInt8 × Int :=
 if l = [] ∨ hasB 0 l = true then ([], [], 3)
 else if l.length ≤ 100 then ([], l, 0)
 else match cutAt l with
  | some k => (l.take k, l.drop (k + 1), 0)
  | none => ([], [], 1)
theorem cutV_form {l : List UInt8} (h : l = [] ∨ hasB 0 l = true) : cutV l = ([], [], 3) := if_pos h
theorem cutV_short {l : List UInt8} (h : l ≠ []) (h0 : hasB 0 l = false) (h1 : l.length ≤ 100) : cutV l = ([], l, 0) := by
 rw [cutV, if_neg (by rintro (a | a); exact h a; rw [h0] at a; cases a), if_pos h1]
theorem cutV_some {l : List UInt8} {k : Nat} (h0 : hasB 0 l = false) (h1 : 100 < l.length) (e : cutAt l = some k) : cutV l = (l.take k, l.drop (k + 1), 0) := by
 rw [cutV, if_neg (by rintro (a | a); rw [a] at h1; exact absurd h1 (by simp); rw [h0] at a; cases a), if_neg (by omega), e]
theorem cutV_none {l : List UInt8} (h0 : hasB 0 l = false) (h1 : 100 < l.length) (e : cutAt l = none) : cutV l = ([], [], 1) := by
 rw [cutV, if_neg (by rintro (a | a); rw [a] at h1; exact absurd h1 (by simp); rw [h0] at a; cases a), if_neg (by omega), e]
def joinP (p n : List UInt8) : List UInt8 := if p = [] then n else p ++ [47] ++ n
def oneV (p n : List UInt8) : List UInt8 × Int :=
 if n.length < 1 ∨ 100 < n.length ∨ 155 < p.length then ([], 1)
 else if cutV (joinP p n) = (p, n, 0) then (joinP p n, 0)
 else ([], 3)
theorem oneV_size {p n : List UInt8} (h : n.length < 1 ∨ 100 < n.length ∨ 155 < p.length) : oneV p n = ([], 1) := if_pos h
theorem oneV_ok {p n : List UInt8} (h : ¬ (n.length < 1 ∨ 100 < n.length ∨ 155 < p.length)) (e : cutV (joinP p n) = (p, n, 0)) : oneV p n = (joinP p n, 0) := by
 rw [oneV, if_neg h, if_pos e]
theorem oneV_form {p n : List UInt8} (h : ¬ (n.length < 1 ∨ 100 < n.length ∨ 155 < p.length)) (e : cutV (joinP p n) ≠ (p, n, 0)) : oneV p n = ([], 3) := by
 rw [oneV, if_neg h, if_neg e]
theorem cut_back {l : List UInt8} {p n : List UInt8} (h : cutV l = (p, n, 0)) : oneV p n = (l, 0) ∧ p.length ≤ 155 ∧ n.length ≤ 100 := by
 have hj : joinP p n = l ∧ 1 ≤ n.length ∧ n.length ≤ 100 ∧ p.length ≤ 155 := by
  by_cases h1 : l = [] ∨ hasB 0 l = true
  ·rw [cutV_form h1] at h; simp at h
  ·have hne : l ≠ [] := fun a => h1 (.inl a)
   have h0 : hasB 0 l = false := by rw [← Bool.not_eq_true]; exact fun a => h1 (.inr a)
   have hpos := List.length_pos_iff.2 hne
   by_cases h2 : l.length ≤ 100
   ·rw [cutV_short hne h0 h2] at h
    simp only [Prod.mk.injEq] at h
    obtain ⟨rfl, rfl, -⟩ := h
    exact ⟨if_pos rfl, hpos, h2, by simp⟩
   ·cases hc : cutAt l with
    | none => rw [cutV_none h0 (by omega) hc] at h; simp at h
    | some k =>
     have hf := cutAt_bd hc
     have hb := fits_bd hf
     have hk := fits_lt hf
     rw [cutV_some h0 (by omega) hc] at h
     simp only [Prod.mk.injEq] at h
     obtain ⟨rfl, rfl, -⟩ := h
     have hy := fits_byte hf
     rw [List.getD_eq_getElem?_getD, List.getElem?_eq_getElem hk] at hy
     refine ⟨?_, by rw [List.length_drop]; omega, by rw [List.length_drop]; omega, by rw [List.length_take]; omega⟩
     have hn : ¬ l.take k = [] := by
      intro a
      have h9 : (l.take k).length = 0 := by rw [a]; rfl
      rw [List.length_take] at h9; omega
     rw [joinP, if_neg hn]
     have e : l[k] = 47 := hy
     rw [← e, ← List.take_succ_eq_append_getElem hk, List.take_append_drop]
 refine ⟨?_, hj.2.2.2, hj.2.2.1⟩
 rw [oneV_ok (by omega) (by rw [hj.1]; exact h), hj.1]
theorem cut_bad {l : List UInt8} (h : (cutV l).2.2 ≠ 0) : (cutV l).1 = [] ∧ (cutV l).2.1 = [] := by
 revert h; unfold cutV
 split
 ·simp
 ·split
  ·simp
  ·split <;> simp
def xyz (a b c : Nat) : List UInt8 := List.replicate a 120 ++ [47] ++ List.replicate b 121 ++ [47] ++ List.replicate c 122
theorem dig_toNat (r : Nat) (h : r < 10) : (UInt8.ofNat (48 + r)).toNat = 48 + r := by rw [UInt8.toNat_ofNat']; omega
theorem digitVal_dig (r : Nat) (h : r < 10) : Lib.digitVal (UInt8.ofNat (48 + r)) = some r := by
 unfold Lib.digitVal; rw [dig_toNat r h, if_pos (by omega)]; congr 1; omega
theorem decFrom_app (l r : List UInt8) (acc v : Nat) (h : Lib.decFrom acc l = some v) : Lib.decFrom acc (l ++ r) = Lib.decFrom v r := by
 induction l generalizing acc with
 | nil => simp only [Lib.decFrom, Option.some.injEq] at h; subst h; rfl
 | cons c l ih =>
  cases hc : Lib.digitVal c with
  | none => simp [Lib.decFrom, hc] at h
  | some d =>
   simp only [Lib.decFrom, hc, List.cons_append] at h ⊢
   exact ih _ h
theorem decFrom_decDigits (u : Nat) : Lib.decFrom 0 (Lib.decDigits u) = some u := by
 induction u using Nat.strongRecOn with
 | _ u ih =>
  by_cases h : u < 10
  ·rw [Lib.decDigits, dif_pos h]; simp only [Lib.decFrom, digitVal_dig u h]; congr 1; omega
  ·rw [Lib.decDigits, dif_neg h, decFrom_app _ _ _ _ (ih (u / 10) (by omega))]
   simp only [Lib.decFrom, digitVal_dig (u % 10) (by omega)]
   congr 1; omega
theorem decDigits_len (u k : Nat) (h : u < 10 ^ (k + 1)) : (Lib.decDigits u).length ≤ k + 1 := by
 induction k generalizing u with
 | zero => rw [Lib.decDigits, dif_pos (by simpa using h)]; simp
 | succ k ih =>
  by_cases h' : u < 10
  ·rw [Lib.decDigits, dif_pos h']; simp
  ·rw [Lib.decDigits, dif_neg h', List.length_append, List.length_singleton]
   have := ih (u / 10) (by rw [Nat.pow_succ] at h; omega)
   omega
theorem decDigits_dig (u : Nat) : ∀ c ∈ Lib.decDigits u, 48 ≤ c.toNat ∧ c.toNat ≤ 57 := by
 induction u using Nat.strongRecOn with
 | _ u ih =>
  intro c hc
  by_cases h : u < 10
  ·rw [Lib.decDigits, dif_pos h, List.mem_singleton] at hc
   subst hc; rw [dig_toNat u h]; omega
  ·rw [Lib.decDigits, dif_neg h, List.mem_append, List.mem_singleton] at hc
   rcases hc with hc | rfl
   ·exact ih _ (by omega) c hc
   ·rw [dig_toNat _ (by omega)]; omega
theorem decDigits_cons (u : Nat) : ∃ c r, Lib.decDigits u = c :: r ∧ 48 ≤ c.toNat ∧ c.toNat ≤ 57 ∧ (1 ≤ u → c.toNat ≠ 48) := by
 induction u using Nat.strongRecOn with
 | _ u ih =>
  by_cases h : u < 10
  ·rw [Lib.decDigits, dif_pos h]
   refine ⟨_, _, rfl, ?_⟩
   rw [dig_toNat u h]; omega
  ·obtain ⟨c, r, e, h1, h2, h3⟩ := ih (u / 10) (by omega)
   rw [Lib.decDigits, dif_neg h, e]
   exact ⟨c, r ++ _, rfl, h1, h2, fun _ => h3 (by omega)⟩
theorem hasB_dig (l : List UInt8) (h : ∀ c ∈ l, 48 ≤ c.toNat ∧ c.toNat ≤ 57) (x : UInt8) (hx : x.toNat < 48) : hasB x l = false := by
 unfold hasB
 rw [← Bool.not_eq_true, List.any_eq_true]
 rintro ⟨c, hc, e⟩
 have := h c hc
 rw [beq_iff_eq] at e
 rw [e] at this; omega
def d10 : Nat → Nat → List UInt8
 | 0, _ => []
 | j + 1, m => UInt8.ofNat (48 + m / 10 ^ j) :: d10 j (m % 10 ^ j)
def fr : Nat → Nat → List UInt8
 | 0, _ => []
 | j + 1, m => if m = 0 then [] else UInt8.ofNat (48 + m / 10 ^ j) :: fr j (m % 10 ^ j)
theorem pow10_pos (j : Nat) : 0 < 10 ^ j := Nat.pow_pos (by omega)
theorem div10_lt {m j : Nat} (h : m < 10 ^ (j + 1)) : m / 10 ^ j < 10 := by
 rw [Nat.div_lt_iff_lt_mul (pow10_pos j), Nat.mul_comm]; rwa [Nat.pow_succ] at h
theorem mod10_lt (m j : Nat) : m % 10 ^ j < 10 ^ j := Nat.mod_lt _ (pow10_pos j)
theorem d10_length (j m : Nat) : (d10 j m).length = j := by
 induction j generalizing m with
 | zero => rfl
 | succ j ih => simp [d10, ih]
theorem d10_snoc (j m : Nat) : d10 (j + 1) m = d10 j (m / 10) ++ [UInt8.ofNat (48 + m % 10)] ∨ ¬ m < 10 ^ (j + 1) := by
 by_cases h : m < 10 ^ (j + 1)
 ·left
  induction j generalizing m with
  | zero =>
   have : m < 10 := by simpa using h
   simp only [d10, Nat.pow_zero, Nat.div_one, List.nil_append]
   congr 3; omega
  | succ j ih =>
   rw [d10, ih _ (mod10_lt m (j + 1)), d10]
   have e1 : m % 10 ^ (j + 1) / 10 = m / 10 % 10 ^ j := by rw [Nat.pow_succ, Nat.mul_comm, Nat.mod_mul_right_div_self]
   have e2 : m % 10 ^ (j + 1) % 10 = m % 10 := by rw [Nat.pow_succ, Nat.mod_mul_left_mod]
   have e3 : m / 10 ^ (j + 1) = m / 10 / 10 ^ j := by rw [Nat.div_div_eq_div_mul, Nat.pow_succ, Nat.mul_comm]
   rw [e1, e2, e3]; rfl
 ·exact .inr h
theorem decDigits_lead (j m : Nat) (h : m < 10 ^ j) : Lib.decDigits (10 ^ j + m) = 49 :: d10 j m := by
 induction j generalizing m with
 | zero =>
  have : m = 0 := by simpa using h
  subst this
  rw [Lib.decDigits, dif_pos (by decide)]; rfl
 | succ j ih =>
  have hp := pow10_pos j
  have e1 : (10 ^ (j + 1) + m) / 10 = 10 ^ j + m / 10 := by rw [Nat.pow_succ]; omega
  have e2 : (10 ^ (j + 1) + m) % 10 = m % 10 := by rw [Nat.pow_succ]; omega
  have h' : m / 10 < 10 ^ j := by rw [Nat.pow_succ] at h; omega
  rw [Lib.decDigits, dif_neg (by rw [Nat.pow_succ]; omega), e1, e2, ih _ h']
  rcases d10_snoc j m with e | e
  ·rw [e]; rfl
  ·exact absurd h e
theorem trimR_cons (c : UInt8) (l : List UInt8) : Lib.trimRightB (c :: l) 48 = if Lib.trimRightB l 48 = [] then (if c = 48 then [] else [c]) else c :: Lib.trimRightB l 48 := by
 unfold Lib.trimRightB
 rw [List.reverse_cons, List.dropWhile_append]
 by_cases h : l.reverse.dropWhile (· == (48 : UInt8)) = []
 ·rw [h]
  by_cases hc : c = 48
  ·simp [hc]
  ·simp [hc]
 ·have h2 : ¬ (l.reverse.dropWhile (· == (48 : UInt8))).isEmpty = true := by simpa using h
  rw [if_neg h2, if_neg (by simpa using h), List.reverse_append]; rfl
theorem fr_zero (j : Nat) : fr j 0 = [] := by cases j <;> simp [fr]
theorem fr_nil {j m : Nat} (h : m < 10 ^ j) (e : fr j m = []) : m = 0 := by
 cases j with
 | zero => simpa using h
 | succ j =>
  rw [fr] at e
  split at e
  ·assumption
  ·cases e
theorem trimR_d10 (j m : Nat) (h : m < 10 ^ j) : Lib.trimRightB (d10 j m) 48 = fr j m := by
 induction j generalizing m with
 | zero => rfl
 | succ j ih =>
  rw [d10, trimR_cons, ih _ (mod10_lt m j), fr]
  have hd := div10_lt h
  have hdm := Nat.div_add_mod m (10 ^ j)
  by_cases h0 : m = 0
  ·subst h0; simp [fr_zero]
  ·rw [if_neg h0]
   by_cases hf : fr j (m % 10 ^ j) = []
   ·rw [if_pos hf, hf]
    have hm := fr_nil (mod10_lt m j) hf
    rw [hm] at hdm
    rw [if_neg ?_]
    intro e
    have e2 := congrArg UInt8.toNat e
    rw [dig_toNat _ hd] at e2
    have : (48 : UInt8).toNat = 48 := rfl
    have h1 : m / 10 ^ j = 0 := by omega
    rw [h1] at hdm; omega
   ·rw [if_neg hf]
theorem fr_len (j m : Nat) : (fr j m).length ≤ j := by
 induction j generalizing m with
 | zero => simp [fr]
 | succ j ih =>
  rw [fr]; split
  ·simp
  ·have := ih (m % 10 ^ j); simp; omega
theorem fr_dig (j m : Nat) (h : m < 10 ^ j) : ∀ c ∈ fr j m, 48 ≤ c.toNat ∧ c.toNat ≤ 57 := by
 induction j generalizing m with
 | zero => intro c hc; cases hc
 | succ j ih =>
  intro c hc
  rw [fr] at hc
  split at hc
  ·cases hc
  ·rcases List.mem_cons.1 hc with rfl | hc
   ·have := div10_lt h; rw [dig_toNat _ this]; revert this; generalize m / 10 ^ j = q; omega
   ·exact ih _ (mod10_lt m j) c hc
theorem decFrom_zeros (k acc : Nat) : Lib.decFrom acc (List.replicate k 48) = some (acc * 10 ^ k) := by
 induction k generalizing acc with
 | zero => simp [Lib.decFrom]
 | succ k ih =>
  rw [List.replicate_succ]
  have : Lib.digitVal 48 = some 0 := rfl
  simp only [Lib.decFrom, this]
  rw [ih, Nat.pow_succ]; congr 1; rw [Nat.add_zero, Nat.mul_assoc, Nat.mul_comm 10]
theorem decFrom_fr (j m acc : Nat) (h : m < 10 ^ j) : Lib.decFrom acc (fr j m ++ List.replicate (j - (fr j m).length) 48) = some (acc * 10 ^ j + m) := by
 induction j generalizing m acc with
 | zero =>
  have : m = 0 := by simpa using h
  subst this; simp [fr, Lib.decFrom]
 | succ j ih =>
  rw [fr]
  by_cases h0 : m = 0
  ·subst h0; rw [if_pos rfl, List.nil_append, List.length_nil, decFrom_zeros]; rfl
  ·have hd := div10_lt h
   have hdm := Nat.div_add_mod m (10 ^ j)
   rw [if_neg h0, List.length_cons, List.cons_append, Nat.add_sub_add_right]
   simp only [Lib.decFrom, digitVal_dig _ hd]
   rw [ih _ _ (mod10_lt m j), Nat.add_mul, Nat.mul_assoc, Nat.pow_succ, Nat.mul_comm 10, Nat.add_assoc, Nat.mul_comm (m / 10 ^ j), hdm]
def fracL (n : Nat) : List UInt8 := if n = 0 then [] else 46 :: fr 9 n
def negV (a b : Int) : Int × Int := if b = 0 then (if a = -9223372036854775808 then -9223372036854775808 else -a, 0) else (if a = -9223372036854775808 then 9223372036854775807 else -a - 1, 1000000000 - b)
def absT (m n : Nat) : List UInt8 := Lib.decDigits m ++ fracL n
def textL (a b : Int) : List UInt8 := if a < 0 then 45 :: absT (negV a b).1.toNat (negV a b).2.toNat else absT a.toNat b.toNat
def tText (a b : Int) : ByteArray × Int := if inT a b = true then (bs (textL a b), 0) else (⟨#[]⟩, 4)
theorem fracL_len (n : Nat) : (fracL n).length ≤ 10 := by
 unfold fracL; split
 ·simp
 ·have := fr_len 9 n; simp; omega
theorem absT_len (m n : Nat) (h : m < 10 ^ 14) : (absT m n).length ≤ 24 := by
 have h1 := decDigits_len m 13 h
 have h2 := fracL_len n
 rw [absT, List.length_append]; omega
def minusL : List UInt8 → Bool
 | [] => false
 | c :: _ => c == 45
def sizeL (l : List UInt8) : List UInt8 := if minusL l = true then l.drop 1 else l
def wholeL (l : List UInt8) : List UInt8 := l.take (pos 46 l)
def digsL (l : List UInt8) : List UInt8 := l.drop (pos 46 l + 1)
def numO : Lib.NumEnd Int → Option Int
 | .ok v => some v
 | _ => none
def fracO (d : List UInt8) : Option Int := if d.length ≤ 9 then numO (Lib.atoiAll (d ++ List.replicate (9 - d.length) 48)) else none
def parseO (l : List UInt8) : Option (Int × Int) :=
 match numO (Lib.atoiAll (wholeL (sizeL l))), fracO (digsL (sizeL l)) with
 | some a, some b => some (if minusL l = true then negV a b else (a, b))
 | _, _ => none
def tparse (l : List UInt8) : Int × Int × Int :=
 match parseO l with
 | some (a, b) => if inT a b = true ∧ textL a b = l then (a, b, 0) else (0, 0, 3)
 | none => (0, 0, 3)
theorem tparse_none {l : List UInt8} (h : parseO l = none) : tparse l = (0, 0, 3) := by simp [tparse, h]
theorem tparse_yes {l : List UInt8} {a b : Int} (h : parseO l = some (a, b)) (h1 : inT a b = true) (h2 : textL a b = l) : tparse l = (a, b, 0) := by
 simp only [tparse, h]; rw [if_pos ⟨h1, h2⟩]
theorem tparse_no {l : List UInt8} {a b : Int} (h : parseO l = some (a, b)) (h1 : ¬ (inT a b = true ∧ textL a b = l)) : tparse l = (0, 0, 3) := by
 simp only [tparse, h]; rw [if_neg h1]
theorem atoi_dec (u : Nat) (h : u < 10 ^ 14) : Lib.atoiAll (Lib.decDigits u) = .ok (u : Int) := by
 rw [Lib.atoiAll_short _ (Nat.le_trans (decDigits_len u 13 h) (by decide))]
 obtain ⟨c, r, e, h1, h2, -⟩ := decDigits_cons u
 have hv := decFrom_decDigits u
 rw [e] at hv ⊢
 have c1 : (c == 45) = false := by rw [beq_eq_false_iff_ne]; rintro rfl; exact absurd h1 (by decide)
 have c2 : (c == 43) = false := by rw [beq_eq_false_iff_ne]; rintro rfl; exact absurd h1 (by decide)
 simp only [Lib.atoi, c1, c2]
 simp [Lib.decNat, hv, Lib.NumEnd.ofOption]
theorem atoi_fr (m : Nat) (h : m < 10 ^ 9) : fracO (fr 9 m) = some (m : Int) := by
 have hl := fr_len 9 m
 have hv := decFrom_fr 9 m 0 h
 rw [Nat.zero_mul, Nat.zero_add] at hv
 unfold fracO
 rw [if_pos hl, Lib.atoiAll_short _ (by rw [List.length_append, List.length_replicate]; omega)]
 have hd : ∀ c ∈ fr 9 m ++ List.replicate (9 - (fr 9 m).length) 48, 48 ≤ c.toNat := by
  intro c hc
  rcases List.mem_append.1 hc with hc | hc
  ·exact (fr_dig 9 m h c hc).1
  ·rw [(List.mem_replicate.1 hc).2]; decide
 have hn : (fr 9 m ++ List.replicate (9 - (fr 9 m).length) 48).length = 9 := by rw [List.length_append, List.length_replicate]; omega
 revert hv hd hn
 generalize fr 9 m ++ List.replicate (9 - (fr 9 m).length) 48 = L
 intro hv hd hn
 cases L with
 | nil => cases hn
 | cons c r =>
  have h1 := hd c (by simp)
  have c1 : (c == 45) = false := by rw [beq_eq_false_iff_ne]; rintro rfl; exact absurd h1 (by decide)
  have c2 : (c == 43) = false := by rw [beq_eq_false_iff_ne]; rintro rfl; exact absurd h1 (by decide)
  simp only [Lib.atoi, c1, c2]
  simp [Lib.decNat, hv, Lib.NumEnd.ofOption, numO]
theorem absT_parts (m n : Nat) : wholeL (absT m n) = Lib.decDigits m ∧ digsL (absT m n) = fr 9 n := by
 have h1 : hasB 46 (Lib.decDigits m) = false := hasB_dig _ (decDigits_dig m) 46 (by decide)
 have h2 : pos 46 (absT m n) = (Lib.decDigits m).length := by
  rw [absT, pos_app _ _ _ h1]
  unfold fracL; split
  ·rfl
  ·rw [pos_cons, if_pos rfl]; rfl
 unfold wholeL digsL
 rw [h2]
 refine ⟨by rw [absT]; simp, ?_⟩
 rw [absT, List.drop_append, List.drop_of_length_le (by omega), List.nil_append, Nat.add_sub_cancel_left]
 unfold fracL; split
 ·rename_i h; subst h; rw [fr_zero]; rfl
 ·rfl
theorem minusL_abs (m n : Nat) : minusL (absT m n) = false := by
 obtain ⟨c, r, e, h1, -, -⟩ := decDigits_cons m
 rw [absT, e]
 show (c == 45) = false
 rw [beq_eq_false_iff_ne]; rintro rfl; exact absurd h1 (by decide)
theorem textL_abs (a b : Int) (h : inT a b = true) : ∃ m n : Nat, m < 10 ^ 14 ∧ n < 10 ^ 9 ∧ ((a < 0 ∧ textL a b = 45 :: absT m n ∧ negV m n = (a, b) ∧ negV a b = ((m : Int), (n : Int))) ∨ (0 ≤ a ∧ textL a b = absT m n ∧ (a, b) = ((m : Int), (n : Int)))) := by
 have hr := inT_of h
 have e14 : (10 : Nat) ^ 14 = 100000000000000 := by decide
 have e9 : (10 : Nat) ^ 9 = 1000000000 := by decide
 rw [e14, e9]
 by_cases h0 : a < 0
 ·unfold textL
  rw [if_pos h0]
  by_cases hb : b = 0
  ·subst hb
   have e : negV a 0 = (-a, 0) := by unfold negV; rw [if_pos rfl, if_neg (by omega)]
   refine ⟨(-a).toNat, 0, by omega, by omega, .inl ⟨h0, by rw [e]; rfl, ?_, ?_⟩⟩
   ·unfold negV; rw [if_pos (show ((0 : Nat) : Int) = 0 from rfl), if_neg (by omega)]; apply Prod.ext
    ·show -((-a).toNat : Int) = a; omega
    ·rfl
   ·rw [e]; apply Prod.ext
    ·show -a = ((-a).toNat : Int); omega
    ·rfl
  ·have e : negV a b = (-a - 1, 1000000000 - b) := by unfold negV; rw [if_neg hb, if_neg (by omega)]
   refine ⟨(-a - 1).toNat, (1000000000 - b).toNat, by omega, by omega, .inl ⟨h0, by rw [e], ?_, ?_⟩⟩
   ·unfold negV; rw [if_neg (by omega), if_neg (by omega)]; apply Prod.ext
    ·show -((-a - 1).toNat : Int) - 1 = a; omega
    ·show 1000000000 - ((1000000000 - b).toNat : Int) = b; omega
   ·rw [e]; apply Prod.ext
    ·show -a - 1 = ((-a - 1).toNat : Int); omega
    ·show 1000000000 - b = ((1000000000 - b).toNat : Int); omega
 ·refine ⟨a.toNat, b.toNat, by omega, by omega, .inr ⟨by omega, by unfold textL; rw [if_neg h0], ?_⟩⟩
  apply Prod.ext
  ·show a = (a.toNat : Int); omega
  ·show b = (b.toNat : Int); omega
theorem parseO_text (a b : Int) (h : inT a b = true) : parseO (textL a b) = some (a, b) := by
 obtain ⟨m, n, hm, hn, ⟨h0, e, e2, -⟩ | ⟨h0, e, e2⟩⟩ := textL_abs a b h
 ·have hs : sizeL (45 :: absT m n) = absT m n := rfl
  rw [e]
  unfold parseO
  rw [hs, (absT_parts m n).1, (absT_parts m n).2, atoi_dec m hm, atoi_fr n hn]
  show some (negV m n) = _
  rw [e2]
 ·have hs : sizeL (absT m n) = absT m n := by unfold sizeL; rw [minusL_abs]; rfl
  rw [e]
  unfold parseO
  rw [hs, (absT_parts m n).1, (absT_parts m n).2, atoi_dec m hm, atoi_fr n hn, minusL_abs]
  show some ((m : Int), (n : Int)) = _
  rw [e2]
theorem tparse_text (a b : Int) (h : inT a b = true) : tparse (textL a b) = (a, b, 0) := tparse_yes (parseO_text a b h) h rfl
theorem tparse_cases (l : List UInt8) : (∃ a b, inT a b = true ∧ textL a b = l ∧ tparse l = (a, b, 0)) ∨ (tparse l = (0, 0, 3) ∧ ∀ a b, inT a b = true → textL a b ≠ l) := by
 cases h : parseO l with
 | none => exact .inr ⟨tparse_none h, fun a b hi e => by rw [← e, parseO_text a b hi] at h; cases h⟩
 | some p =>
  obtain ⟨a, b⟩ := p
  by_cases hc : inT a b = true ∧ textL a b = l
  ·exact .inl ⟨a, b, hc.1, hc.2, tparse_yes h hc.1 hc.2⟩
  ·refine .inr ⟨tparse_no h hc, fun a' b' hi e => ?_⟩
   rw [← e, parseO_text a' b' hi] at h
   obtain ⟨rfl, rfl⟩ := Prod.mk.inj (Option.some.inj h)
   exact hc ⟨hi, e⟩
def isD (c : UInt8) : Bool := decide (48 ≤ c.toNat ∧ c.toNat ≤ 57)
def rdInt : Nat → Nat → List UInt8 → Nat × List UInt8
 | 0, acc, l => (acc, l)
 | f + 1, acc, [] => (acc, [])
 | f + 1, acc, c :: r => if isD c = true then rdInt f (10 * acc + (c.toNat - 48)) r else (acc, c :: r)
def rdFrac : Nat → Nat → List UInt8 → Nat
 | 0, acc, _ => acc
 | j + 1, acc, [] => acc
 | j + 1, acc, c :: r => if isD c = true then rdFrac j (acc + 10 ^ j * (c.toNat - 48)) r else acc
def afterDot : List UInt8 → Nat
 | [] => 0
 | c :: r => if c = 46 then rdFrac 9 0 r else 0
def refV (l : List UInt8) : Int × Int :=
 if minusL l = true then
  (if afterDot (rdInt 14 0 (sizeL l)).2 = 0 then (-((rdInt 14 0 (sizeL l)).1 : Int), 0) else (-((rdInt 14 0 (sizeL l)).1 : Int) - 1, 1000000000 - (afterDot (rdInt 14 0 (sizeL l)).2 : Int)))
 else ((rdInt 14 0 (sizeL l)).1, afterDot (rdInt 14 0 (sizeL l)).2)
theorem isD_val {c : UInt8} {d : Nat} (h : Lib.digitVal c = some d) : isD c = true ∧ c.toNat - 48 = d := by
 obtain ⟨h1, h2, h3⟩ := Lib.digitVal_eq h
 exact ⟨decide_eq_true ⟨h1, h2⟩, h3.symm⟩
theorem rdInt_dec (l r : List UInt8) (f acc v : Nat) (h : Lib.decFrom acc l = some v) (hl : l.length ≤ f) (hr : ∀ c t, r = c :: t → isD c = false) : rdInt f acc (l ++ r) = (v, r) := by
 induction l generalizing f acc with
 | nil =>
  simp only [Lib.decFrom, Option.some.injEq] at h; subst h
  cases f with
  | zero => rfl
  | succ f =>
   cases r with
   | nil => rfl
   | cons c t => show rdInt (f + 1) acc (c :: t) = _; rw [rdInt, hr c t rfl]; rfl
 | cons c l ih =>
  cases f with
  | zero => simp at hl
  | succ f =>
   cases hc : Lib.digitVal c with
   | none => simp [Lib.decFrom, hc] at h
   | some d =>
    simp only [Lib.decFrom, hc] at h
    obtain ⟨h1, h2⟩ := isD_val hc
    rw [List.cons_append, rdInt, if_pos h1, h2, Nat.mul_comm]
    exact ih f _ h (by simpa using hl)
theorem rdFrac_fr (j m acc : Nat) (h : m < 10 ^ j) : rdFrac j acc (fr j m) = acc + m := by
 induction j generalizing m acc with
 | zero =>
  have : m = 0 := by simpa using h
  subst this; rfl
 | succ j ih =>
  by_cases h0 : m = 0
  ·subst h0; rw [fr_zero]; rfl
  ·have hd := div10_lt h
   have hdm := Nat.div_add_mod m (10 ^ j)
   have hD : isD (UInt8.ofNat (48 + m / 10 ^ j)) = true := by unfold isD; rw [dig_toNat _ hd]; refine decide_eq_true ?_; revert hd; generalize m / 10 ^ j = q; omega
   rw [fr, if_neg h0, rdFrac, if_pos hD, dig_toNat _ hd, Nat.add_sub_cancel_left, ih _ _ (mod10_lt m j), Nat.add_assoc, hdm]
theorem rd_abs (m n : Nat) (hm : m < 10 ^ 14) (hn : n < 10 ^ 9) : (rdInt 14 0 (absT m n)).1 = m ∧ afterDot (rdInt 14 0 (absT m n)).2 = n := by
 have h : rdInt 14 0 (absT m n) = (m, fracL n) := by
  refine rdInt_dec _ _ _ _ _ (decFrom_decDigits m) (decDigits_len m 13 hm) ?_
  intro c t e
  unfold fracL at e
  split at e
  ·cases e
  ·injection e with e1 _; subst e1; rfl
 rw [h]
 refine ⟨rfl, ?_⟩
 show afterDot (fracL n) = n
 unfold fracL
 split
 ·rename_i e; rw [e]; rfl
 ·rw [afterDot, if_pos rfl, rdFrac_fr 9 n 0 hn, Nat.zero_add]
theorem refV_text (a b : Int) (h : inT a b = true) : refV (textL a b) = (a, b) := by
 obtain ⟨m, n, hm, hn, ⟨h0, e, e2, -⟩ | ⟨h0, e, e2⟩⟩ := textL_abs a b h
 ·have hs : sizeL (45 :: absT m n) = absT m n := rfl
  have e14 : (10 : Nat) ^ 14 = 100000000000000 := by decide
  rw [e]
  unfold refV
  rw [if_pos (show minusL (45 :: absT m n) = true from rfl), hs, (rd_abs m n hm hn).1, (rd_abs m n hm hn).2, ← e2]
  unfold negV
  by_cases hz : n = 0
  ·subst hz; rw [if_pos rfl, if_pos (show ((0 : Nat) : Int) = 0 from rfl), if_neg (by omega)]
  ·rw [if_neg hz, if_neg (by omega), if_neg (by omega)]
 ·have hs : sizeL (absT m n) = absT m n := by unfold sizeL; rw [minusL_abs]; rfl
  rw [e]
  unfold refV
  rw [if_neg (by rw [minusL_abs]; decide), hs, (rd_abs m n hm hn).1, (rd_abs m n hm hn).2, e2]
theorem tparse_ref (l : List UInt8) : tparse l = if inT (refV l).1 (refV l).2 = true ∧ textL (refV l).1 (refV l).2 = l then ((refV l).1, (refV l).2, 0) else (0, 0, 3) := by
 rcases tparse_cases l with ⟨a, b, h1, h2, h3⟩ | ⟨h1, h2⟩
 ·have e : refV l = (a, b) := by rw [← h2, refV_text a b h1]
  rw [e, h3, if_pos ⟨h1, h2⟩]
 ·rw [h1, if_neg]
  rintro ⟨x, y⟩; exact h2 _ _ x y
def recN (L : Nat) : Nat := if L + 1 < 10 then L + 1 else if L + 2 < 100 then L + 2 else L + 3
theorem nDig1 {n : Nat} (h : n < 10) : Lib.nDigits n = 1 := Lib.nDigits_small h
theorem nDig2 {n : Nat} (h0 : 10 ≤ n) (h : n < 100) : Lib.nDigits n = 2 := Lib.nDigits_unique 1 n (by omega) (by omega)
theorem nDig3 {n : Nat} (h0 : 100 ≤ n) (h : n < 1000) : Lib.nDigits n = 3 := Lib.nDigits_unique 2 n (by omega) (by omega)
theorem recN_bd (L : Nat) : L < recN L ∧ recN L ≤ L + 3 := by
 unfold recN; split
 ·omega
 ·split <;> omega
theorem recN_len (L : Nat) (h : L ≤ 900) : Lib.nDigits (recN L) + L = recN L := by
 unfold recN
 split
 ·rw [nDig1 (by omega)]; omega
 ·split
  ·rw [nDig2 (by omega) (by omega)]; omega
  ·rw [nDig3 (by omega) (by omega)]; omega
theorem recN_least (L m : Nat) (h : L ≤ 900) (hm : m < recN L) : Lib.nDigits m + L ≠ m := by
 have hb := recN_bd L
 have hm3 : m < L + 3 := by omega
 clear hb
 intro e
 unfold recN at hm
 by_cases h1 : m < 10
 ·rw [nDig1 h1] at e
  split at hm
  ·omega
  ·split at hm <;> omega
 ·by_cases h2 : m < 100
  ·rw [nDig2 (by omega) h2] at e
   split at hm
   ·omega
   ·split at hm <;> omega
  ·rw [nDig3 (by omega) (by omega)] at e
   split at hm
   ·omega
   ·split at hm <;> omega
def chkR (k v : List UInt8) : Int :=
 if k.length = 0 ∨ 60 < k.length ∨ 500 < v.length then 1
 else if hasB 61 k = true ∨ hasB 10 k = true ∨ hasB 0 v = true then 3 else 0
theorem chkR_size {k v : List UInt8} (h : k.length = 0 ∨ 60 < k.length ∨ 500 < v.length) : chkR k v = 1 := if_pos h
theorem chkR_form {k v : List UInt8} (h : ¬ (k.length = 0 ∨ 60 < k.length ∨ 500 < v.length)) (h2 : hasB 61 k = true ∨ hasB 10 k = true ∨ hasB 0 v = true) : chkR k v = 3 := by
 rw [chkR, if_neg h, if_pos h2]
theorem chkR_ok {k v : List UInt8} (h : ¬ (k.length = 0 ∨ 60 < k.length ∨ 500 < v.length)) (h2 : ¬ (hasB 61 k = true ∨ hasB 10 k = true ∨ hasB 0 v = true)) : chkR k v = 0 := by
 rw [chkR, if_neg h, if_neg h2]
theorem chkR_of {k v : List UInt8} (h : chkR k v = 0) : 1 ≤ k.length ∧ k.length ≤ 60 ∧ v.length ≤ 500 ∧ hasB 61 k = false ∧ hasB 10 k = false ∧ hasB 0 v = false := by
 unfold chkR at h
 split at h
 ·cases h
 ·split at h
  ·cases h
  ·rename_i h1 h2
   refine ⟨by omega, by omega, by omega, ?_, ?_, ?_⟩
   ·cases e : hasB 61 k
    ·rfl
    ·exact absurd (.inl e) h2
   ·cases e : hasB 10 k
    ·rfl
    ·exact absurd (.inr (.inl e)) h2
   ·cases e : hasB 0 v
    ·rfl
    ·exact absurd (.inr (.inr e)) h2
def recT (k v : List UInt8) : List UInt8 := 32 :: (k ++ 61 :: (v ++ [10]))
def recL (k v : List UInt8) : List UInt8 := Lib.decDigits (recN (k.length + v.length + 3)) ++ recT k v
theorem recT_len (k v : List UInt8) : (recT k v).length = k.length + v.length + 3 := by simp [recT]; omega
theorem recL_len (k v : List UInt8) (h : k.length + v.length ≤ 800) : (recL k v).length = recN (k.length + v.length + 3) := by
 rw [recL, List.length_append, Lib.decDigits_length, recT_len]; exact recN_len _ (by omega)
def recW (k v : List UInt8) : ByteArray × Int := if chkR k v = 0 then (bs (recL k v), 0) else (⟨#[]⟩, chkR k v)
theorem recW_ok {k v : List UInt8} (h : chkR k v = 0) : recW k v = (bs (recL k v), 0) := if_pos h
theorem recW_no {k v : List UInt8} (h : chkR k v ≠ 0) : recW k v = (⟨#[]⟩, chkR k v) := if_neg h
def dVal (l : List UInt8) : Nat := l.foldl (fun a c => 10 * a + (c.toNat - 48)) 0
theorem dVal_snoc (l : List UInt8) (c : UInt8) : dVal (l ++ [c]) = 10 * dVal l + (c.toNat - 48) := by simp [dVal]
theorem foldl_dec (l : List UInt8) (acc v : Nat) (h : Lib.decFrom acc l = some v) : l.foldl (fun a c => 10 * a + (c.toNat - 48)) acc = v := by
 induction l generalizing acc with
 | nil => simpa [Lib.decFrom] using h
 | cons c l ih =>
  cases hc : Lib.digitVal c with
  | none => simp [Lib.decFrom, hc] at h
  | some d =>
   simp only [Lib.decFrom, hc] at h
   rw [List.foldl_cons, (isD_val hc).2, Nat.mul_comm]; exact ih _ h
theorem dVal_dec (n : Nat) : dVal (Lib.decDigits n) = n := foldl_dec _ _ _ (decFrom_decDigits n)
theorem dVal_lt (l : List UInt8) (h : ∀ c ∈ l, isD c = true) : dVal l < 10 ^ l.length := by
 revert h
 refine snoc_ind (p := fun l => (∀ c ∈ l, isD c = true) → dVal l < 10 ^ l.length) (fun _ => by simp [dVal]) (fun l c ih h => ?_) l
 have h1 := ih fun x hx => h x (List.mem_append_left _ hx)
 have h2 := (of_decide_eq_true (h c (by simp))).2
 rw [dVal_snoc, List.length_append, List.length_singleton, Nat.pow_succ]; omega
def digP (l : List UInt8) : List UInt8 := l.takeWhile isD
theorem digP_all (l : List UInt8) : ∀ c ∈ digP l, isD c = true := by
 intro c hc
 unfold digP at hc
 induction l with
 | nil => cases hc
 | cons x l ih =>
  rw [List.takeWhile_cons] at hc
  split at hc
  ·rename_i hx
   rcases List.mem_cons.1 hc with rfl | hc
   ·exact hx
   ·exact ih hc
  ·cases hc
theorem digP_app (a b : List UInt8) (ha : ∀ c ∈ a, isD c = true) (hb : ∀ c t, b = c :: t → isD c = false) : digP (a ++ b) = a := by
 unfold digP
 induction a with
 | nil =>
  cases b with
  | nil => rfl
  | cons c t => rw [List.nil_append, List.takeWhile_cons, if_neg (by rw [hb c t rfl]; decide)]
 | cons x a ih =>
  rw [List.cons_append, List.takeWhile_cons, if_pos (ha x (by simp)), ih fun c hc => ha c (List.mem_cons_of_mem _ hc)]
theorem digP_take (l : List UInt8) : digP l = l.take (digP l).length := by
 unfold digP
 induction l with
 | nil => rfl
 | cons x l ih =>
  rw [List.takeWhile_cons]
  split
  ·rw [List.length_cons, List.take_succ_cons, ← ih]
  ·rfl
theorem digP_le (l : List UInt8) : (digP l).length ≤ l.length := List.Sublist.length_le (List.takeWhile_sublist _)
theorem digP_stop (l : List UInt8) (k : Nat) (h : k < l.length) (hk : k = (digP l).length) : isD l[k] = false := by
 induction l generalizing k with
 | nil => cases h
 | cons x l ih =>
  unfold digP at hk
  rw [List.takeWhile_cons] at hk
  split at hk
  ·rw [List.length_cons] at hk
   subst hk
   simp only [List.getElem_cons_succ]
   exact ih _ (by simpa using h) rfl
  ·rename_i hx
   subst hk
   simpa using hx
def frontOk (l : List UInt8) : Prop := 1 ≤ (digP l).length ∧ (digP l).length ≤ 4 ∧ l.head? ≠ some 48 ∧ l[(digP l).length]? = some 32
instance (l : List UInt8) : Decidable (frontOk l) := by unfold frontOk; infer_instance
def bodyR (l : List UInt8) : List UInt8 := (l.take (dVal (digP l) - 1)).drop ((digP l).length + 1)
def recR (l : List UInt8) : List UInt8 × List UInt8 × List UInt8 × Int :=
 if ¬ frontOk l then ([], [], [], 3)
 else if l.length < dVal (digP l) then ([], [], [], 7)
 else if dVal (digP l) < (digP l).length + 2 ∨ l[dVal (digP l) - 1]? ≠ some 10 then ([], [], [], 3)
 else if hasB 61 (bodyR l) = false then ([], [], [], 3)
 else if chkR ((bodyR l).take (pos 61 (bodyR l))) ((bodyR l).drop (pos 61 (bodyR l) + 1)) ≠ 0 then ([], [], [], chkR ((bodyR l).take (pos 61 (bodyR l))) ((bodyR l).drop (pos 61 (bodyR l) + 1)))
 else if recL ((bodyR l).take (pos 61 (bodyR l))) ((bodyR l).drop (pos 61 (bodyR l) + 1)) ≠ l.take (dVal (digP l)) then ([], [], [], 3)
 else ((bodyR l).take (pos 61 (bodyR l)), (bodyR l).drop (pos 61 (bodyR l) + 1), l.drop (dVal (digP l)), 0)
theorem isD_dig (n : Nat) : ∀ c ∈ Lib.decDigits n, isD c = true := fun c hc => decide_eq_true (decDigits_dig n c hc)
theorem digP_rec (n : Nat) (r : List UInt8) : digP (Lib.decDigits n ++ 32 :: r) = Lib.decDigits n :=
 digP_app _ _ (isD_dig n) (fun c t e => by injection e with e _; subst e; rfl)
theorem front_rec (n : Nat) (r : List UInt8) (h1 : 1 ≤ n) (h2 : n < 10000) : frontOk (Lib.decDigits n ++ 32 :: r) := by
 unfold frontOk
 rw [digP_rec]
 obtain ⟨c, t, e, -, -, hc⟩ := decDigits_cons n
 refine ⟨by rw [e]; simp, decDigits_len n 3 (by omega), ?_, ?_⟩
 ·rw [e, List.cons_append, List.head?_cons]
  intro x; injection x with x; exact hc h1 (by rw [x]; rfl)
 ·rw [List.getElem?_append_right (Nat.le_refl _), Nat.sub_self]; rfl
theorem recR_text (k v more : List UInt8) (h : chkR k v = 0) : recR (recL k v ++ more) = (k, v, more, 0) := by
 obtain ⟨k1, k2, v1, hk, hk2, hv⟩ := chkR_of h
 have hL := recL_len k v (by omega)
 have hb := recN_bd (k.length + v.length + 3)
 obtain ⟨n, hn⟩ : ∃ n, recN (k.length + v.length + 3) = n := ⟨_, rfl⟩
 have e : recL k v ++ more = Lib.decDigits n ++ 32 :: (k ++ 61 :: (v ++ [10]) ++ more) := by
  unfold recL recT; rw [hn]; simp
 have eL : recL k v = Lib.decDigits n ++ 32 :: (k ++ 61 :: (v ++ [10])) := by unfold recL recT; rw [hn]
 rw [hn] at hL hb
 have hd : digP (recL k v ++ more) = Lib.decDigits n := by rw [e]; exact digP_rec _ _
 have hf : frontOk (recL k v ++ more) := by rw [e]; exact front_rec _ _ (by omega) (by omega)
 have hdl : (Lib.decDigits n).length + (k.length + v.length + 3) = n := by
  rw [eL] at hL; simp at hL; omega
 have htk : (recL k v ++ more).take (n - 1) = Lib.decDigits n ++ 32 :: (k ++ 61 :: v) := by
  rw [List.take_append_of_le_length (by omega), eL]
  have : Lib.decDigits n ++ 32 :: (k ++ 61 :: (v ++ [10])) = (Lib.decDigits n ++ 32 :: (k ++ 61 :: v)) ++ [10] := by simp
  rw [this, List.take_append_of_le_length (by simp; omega), List.take_of_length_le (by simp; omega)]
 have hbody : bodyR (recL k v ++ more) = k ++ 61 :: v := by
  unfold bodyR
  rw [hd, dVal_dec, htk, List.drop_append, List.drop_of_length_le (by omega), List.nil_append, Nat.add_sub_cancel_left]; rfl
 have hpos : pos 61 (k ++ 61 :: v) = k.length := by rw [pos_app _ _ _ hk, pos_cons, if_pos rfl]; rfl
 have e1 : (k ++ 61 :: v).take k.length = k := by simp
 have e2 : (k ++ 61 :: v).drop (k.length + 1) = v := by
  rw [List.drop_append, List.drop_of_length_le (by omega), List.nil_append, Nat.add_sub_cancel_left]; rfl
 have hlast : (recL k v ++ more)[n - 1]? = some 10 := by
  rw [List.getElem?_append_left (by omega), eL]
  have : Lib.decDigits n ++ 32 :: (k ++ 61 :: (v ++ [10])) = (Lib.decDigits n ++ 32 :: (k ++ 61 :: v)) ++ [10] := by simp
  rw [this, List.getElem?_append_right (by simp; omega)]
  have : n - 1 - (Lib.decDigits n ++ 32 :: (k ++ 61 :: v)).length = 0 := by simp; omega
  rw [this]; rfl
 unfold recR
 rw [if_neg (by simpa using hf), hd, dVal_dec, if_neg (by rw [List.length_append]; omega), if_neg ?_, hbody, hpos, e1, e2, if_neg ?_, if_neg (by simpa using h), if_neg ?_]
 ·rw [List.drop_append, List.drop_of_length_le (by omega), List.nil_append, hL, Nat.sub_self]; rfl
 ·rw [List.take_append_of_le_length (by omega), List.take_of_length_le (by omega)]; simp
 ·rw [hasB_app, hk, hasB_cons]; simp
 ·rw [hlast]; simp; omega
def numB (l : List UInt8) : Bool := decide (1 ≤ l.length ∧ l.length ≤ 4 ∧ l.head? ≠ some 48) && l.all isD
theorem numB_of {l : List UInt8} (h : numB l = true) : (1 ≤ l.length ∧ l.length ≤ 4 ∧ l.head? ≠ some 48) ∧ ∀ c ∈ l, isD c = true := by
 unfold numB at h
 rw [Bool.and_eq_true, decide_eq_true_eq, List.all_eq_true] at h
 exact h
theorem numB_mk {l : List UInt8} (h : 1 ≤ l.length ∧ l.length ≤ 4 ∧ l.head? ≠ some 48) (h2 : ∀ c ∈ l, isD c = true) : numB l = true := by
 unfold numB
 rw [Bool.and_eq_true, decide_eq_true_eq, List.all_eq_true]
 exact ⟨h, h2⟩
theorem decFrom_all (l : List UInt8) (acc : Nat) (h : ∀ c ∈ l, isD c = true) : Lib.decFrom acc l = some (l.foldl (fun a c => 10 * a + (c.toNat - 48)) acc) := by
 induction l generalizing acc with
 | nil => rfl
 | cons c l ih =>
  have hc := of_decide_eq_true (h c (List.mem_cons_self ..))
  have hv : Lib.digitVal c = some (c.toNat - 48) := by unfold Lib.digitVal; rw [if_pos hc]
  simp only [Lib.decFrom, hv, List.foldl_cons]
  rw [Nat.mul_comm 10 acc]
  exact ih _ fun x hx => h x (List.mem_cons_of_mem _ hx)
theorem atoi_num (l : List UInt8) (h : numB l = true) : Lib.atoiAll l = .ok (dVal l : Int) := by
 obtain ⟨⟨h1, h2, h3⟩, h4⟩ := numB_of h
 rw [Lib.atoiAll_short l (by omega)]
 cases l with
 | nil => simp at h1
 | cons c r =>
  have hc := of_decide_eq_true (h4 c (List.mem_cons_self ..))
  have c1 : (c == 45) = false := by rw [beq_eq_false_iff_ne]; rintro rfl; revert hc; decide
  have c2 : (c == 43) = false := by rw [beq_eq_false_iff_ne]; rintro rfl; revert hc; decide
  have hd : Lib.decNat (c :: r) = some (dVal (c :: r)) := decFrom_all (c :: r) 0 h4
  unfold Lib.atoi
  simp only [c1, c2, hd]
  rfl
theorem dVal_num (l : List UInt8) (h : numB l = true) : 1 ≤ dVal l ∧ dVal l < 10000 := by
 obtain ⟨⟨h1, h2, h3⟩, h4⟩ := numB_of h
 constructor
 ·cases l with
  | nil => simp at h1
  | cons c r =>
   have hc := of_decide_eq_true (h4 c (List.mem_cons_self ..))
   have hc48 : c.toNat ≠ 48 := fun e => h3 (by rw [List.head?_cons]; congr 1; exact UInt8.toNat_inj.1 e)
   have key : ∀ (r : List UInt8) (a : Nat), 1 ≤ a → 1 ≤ r.foldl (fun a c => 10 * a + (c.toNat - 48)) a := by
    intro r
    induction r with
    | nil => intro a ha; exact ha
    | cons x r ih => intro a ha; rw [List.foldl_cons]; exact ih _ (by omega)
   unfold dVal
   rw [List.foldl_cons]
   exact key r _ (by omega)
 ·have := dVal_lt l h4
  have h5 : 10 ^ l.length ≤ 10 ^ 4 := Nat.pow_le_pow_right (by omega) h2
  have : (10 : Nat) ^ 4 = 10000 := by decide
  omega
theorem no32 {l : List UInt8} (h : ∀ c ∈ l, isD c = true) : hasB 32 l = false := by
 unfold hasB
 rw [← Bool.not_eq_true, List.any_eq_true]
 rintro ⟨x, hx, e⟩
 have := h x hx
 rw [eq_of_beq e] at this
 revert this; decide
theorem rsplit_pos {c : UInt8} {l : List UInt8} (h : hasB c l = true) : l = l.take (pos c l) ++ c :: l.drop (pos c l + 1) := by
 rw [hasB_pos] at h
 have h' := of_decide_eq_true h
 conv => lhs; rw [← List.take_append_drop (pos c l) l]
 congr 1
 rw [List.drop_eq_getElem_cons h', pos_get c l h']
theorem front_iff (l : List UInt8) : frontOk l ↔ hasB 32 l = true ∧ numB (l.take (pos 32 l)) = true := by
 constructor
 ·rintro ⟨h1, h2, h3, h4⟩
  obtain ⟨n, hn⟩ : ∃ n, (digP l).length = n := ⟨_, rfl⟩
  have ht := digP_take l
  have hall := digP_all l
  rw [hn] at h1 h2 h4 ht
  have hlt : n < l.length := by
   rcases Nat.lt_or_ge n l.length with h | h
   ·exact h
   ·rw [List.getElem?_eq_none h] at h4; cases h4
  rw [List.getElem?_eq_getElem hlt] at h4
  have h4' := Option.some.inj h4
  have hp : pos 32 l = n := by
   have e : l = l.take n ++ l.drop n := (List.take_append_drop n l).symm
   rw [e, pos_app _ _ _ (no32 (by rw [← ht]; exact hall)), List.length_take, List.drop_eq_getElem_cons hlt, h4', pos_cons, if_pos rfl]; omega
  have hb : hasB 32 l = true := by rw [hasB_pos, hp]; exact decide_eq_true hlt
  refine ⟨hb, ?_⟩
  rw [hp, ← ht]
  refine numB_mk ⟨by omega, by omega, ?_⟩ hall
  rw [ht, List.head?_take]
  rw [if_neg (by omega)]; exact h3
 ·rintro ⟨hb, hn⟩
  obtain ⟨⟨h1, h2, h3⟩, h4⟩ := numB_of hn
  have hs := rsplit_pos hb
  have hd : digP l = l.take (pos 32 l) := by
   conv => lhs; rw [hs]
   exact digP_app _ _ h4 (fun c t e => by injection e with e _; subst e; rfl)
  have hlt : pos 32 l < l.length := by rw [hasB_pos] at hb; exact of_decide_eq_true hb
  have hlen : (l.take (pos 32 l)).length = pos 32 l := by rw [List.length_take]; omega
  rw [hlen] at h1 h2
  refine ⟨by rw [hd, hlen]; exact h1, by rw [hd, hlen]; exact h2, ?_, ?_⟩
  ·rw [List.head?_take, if_neg (by omega)] at h3; exact h3
  ·rw [hd, hlen, List.getElem?_eq_getElem hlt, pos_get 32 l hlt]
theorem front_dig {l : List UInt8} (hb : hasB 32 l = true) (hn : numB (l.take (pos 32 l)) = true) : digP l = l.take (pos 32 l) ∧ (digP l).length = pos 32 l := by
 obtain ⟨-, h4⟩ := numB_of hn
 have hs := rsplit_pos hb
 have hd : digP l = l.take (pos 32 l) := by
  conv => lhs; rw [hs]
  exact digP_app _ _ h4 (fun c t e => by injection e with e _; subst e; rfl)
 have hlt : pos 32 l < l.length := by rw [hasB_pos] at hb; exact of_decide_eq_true hb
 exact ⟨hd, by rw [hd, List.length_take]; omega⟩
def splB (l : List UInt8) (st : Nat) : List UInt8 := Lib.trimSuffix (l.drop st) [10]
def splO (l : List UInt8) (st : Nat) : Bool := decide (st < l.length) && (Lib.hasSuffix (l.drop st) [10] && hasB 61 (splB l st))
def splK (l : List UInt8) (st : Nat) : List UInt8 := (splB l st).take (pos 61 (splB l st))
def splV (l : List UInt8) (st : Nat) : List UInt8 := (splB l st).drop (pos 61 (splB l st) + 1)
theorem suf_snoc (l : List UInt8) (c : UInt8) : Lib.hasSuffix (l ++ [c]) [10] = (c == 10) := by
 unfold Lib.hasSuffix
 rw [Bool.eq_iff_iff, List.isSuffixOf_iff_suffix, beq_iff_eq]
 constructor
 ·rintro ⟨t, ht⟩
  have := List.append_inj_right' ht rfl
  injection this with h _; exact h.symm
 ·rintro rfl; exact ⟨l, rfl⟩
theorem trim_snoc (l : List UInt8) : Lib.trimSuffix (l ++ [10]) [10] = l := by
 unfold Lib.trimSuffix
 rw [suf_snoc, if_pos (by decide)]
 simp
theorem spl_body {l : List UInt8} {n d : Nat} (h1 : d + 2 ≤ n) (h2 : n ≤ l.length) : (l.take n).drop (d + 1) = (l.take (n - 1)).drop (d + 1) ++ [l[n - 1]'(by omega)] := by
 obtain ⟨m, rfl⟩ : ∃ m, n = m + 1 := ⟨n - 1, by omega⟩
 rw [List.take_succ_eq_append_getElem (by omega), List.drop_append_of_le_length (by rw [List.length_take]; omega)]
 rfl
theorem spl_facts {l : List UInt8} (hl : dVal (digP l) ≤ l.length) :
  splO (l.take (dVal (digP l))) ((digP l).length + 1) = decide (¬ (dVal (digP l) < (digP l).length + 2 ∨ l[dVal (digP l) - 1]? ≠ some 10) ∧ hasB 61 (bodyR l) = true) ∧
  (splO (l.take (dVal (digP l))) ((digP l).length + 1) = true → splB (l.take (dVal (digP l))) ((digP l).length + 1) = bodyR l) := by
 unfold bodyR
 generalize (digP l).length = d
 generalize dVal (digP l) = n at *
 by_cases h1 : n < d + 2
 ·have e : splO (l.take n) (d + 1) = false := by
   unfold splO
   rw [decide_eq_false (by rw [List.length_take]; omega), Bool.false_and]
  rw [e]
  refine ⟨(decide_eq_false (fun h => h.1 (.inl h1))).symm, fun h => by cases h⟩
 ·have hb := spl_body (l := l) (n := n) (d := d) (by omega) hl
  have hlt : n - 1 < l.length := by omega
  have e : splO (l.take n) (d + 1) = ((l[n - 1] == 10) && hasB 61 (splB (l.take n) (d + 1))) := by
   unfold splO
   rw [decide_eq_true (by rw [List.length_take]; omega), Bool.true_and, hb, suf_snoc]
  rw [e, List.getElem?_eq_getElem hlt]
  by_cases hc : l[n - 1] = 10
  ·have eB : splB (l.take n) (d + 1) = (l.take (n - 1)).drop (d + 1) := by
    unfold splB; rw [hb, hc, trim_snoc]
   rw [eB, hc]
   refine ⟨?_, fun _ => rfl⟩
   rw [show ((10 : UInt8) == 10) = true from rfl, Bool.true_and, Bool.eq_iff_iff, decide_eq_true_eq]
   exact ⟨fun h => ⟨fun h' => h'.elim (fun a => h1 a) (fun a => a rfl), h⟩, fun h => h.2⟩
  ·have hc' : (l[n - 1] == 10) = false := by simpa using hc
   rw [hc', Bool.false_and]
   refine ⟨(decide_eq_false (fun h => h.1 (.inr (fun a => hc (Option.some.inj a))))).symm, fun h => by cases h⟩
theorem recR_front {l : List UInt8} (h : ¬ (hasB 32 l = true ∧ numB (l.take (pos 32 l)) = true)) : recR l = ([], [], [], 3) := by
 unfold recR; rw [if_pos (by rw [front_iff]; exact h)]
section
variable {l : List UInt8} {n p : Nat} (hb : hasB 32 l = true) (hn : numB (l.take (pos 32 l)) = true) (hp : pos 32 l = p) (hv : dVal (l.take (pos 32 l)) = n)
include hb hn hv
theorem recR_short (h : l.length < n) : recR l = ([], [], [], 7) := by
 obtain ⟨e1, e2⟩ := front_dig hb hn
 unfold recR
 rw [if_neg (by rw [front_iff]; exact fun a => a ⟨hb, hn⟩), if_pos (by rw [e1, hv]; exact h)]
include hp
theorem recR_split (h : n ≤ l.length) (h2 : splO (l.take n) (p + 1) = false) : recR l = ([], [], [], 3) := by
 obtain ⟨e1, e2⟩ := front_dig hb hn
 have e3 : dVal (digP l) = n := by rw [e1, hv]
 have hs := (spl_facts (l := l) (by rw [e3]; exact h)).1
 rw [e2, e3, hp, h2] at hs
 unfold recR
 rw [if_neg (by rw [front_iff]; exact fun a => a ⟨hb, hn⟩), e3, if_neg (by omega), e2, hp]
 by_cases hx : n < p + 2 ∨ l[n - 1]? ≠ some 10
 ·rw [if_pos hx]
 ·rw [if_neg hx]
  have := of_decide_eq_false hs.symm
  rw [if_pos (by
   cases e : hasB 61 (bodyR l)
   ·rfl
   ·exact absurd ⟨hx, e⟩ this)]
theorem recR_past (h : n ≤ l.length) (h2 : splO (l.take n) (p + 1) = true) :
  recR l = if chkR (splK (l.take n) (p + 1)) (splV (l.take n) (p + 1)) ≠ 0 then ([], [], [], chkR (splK (l.take n) (p + 1)) (splV (l.take n) (p + 1)))
   else if recL (splK (l.take n) (p + 1)) (splV (l.take n) (p + 1)) ≠ l.take n then ([], [], [], 3)
   else (splK (l.take n) (p + 1), splV (l.take n) (p + 1), l.drop n, 0) := by
 obtain ⟨e1, e2⟩ := front_dig hb hn
 have e3 : dVal (digP l) = n := by rw [e1, hv]
 obtain ⟨hs, hB⟩ := spl_facts (l := l) (by rw [e3]; exact h)
 rw [e2, e3, hp] at hs hB
 rw [h2] at hs
 obtain ⟨hx, hy⟩ := of_decide_eq_true hs.symm
 have hB' := hB h2
 unfold splK splV
 rw [hB']
 unfold recR
 rw [if_neg (by rw [front_iff]; exact fun a => a ⟨hb, hn⟩), e3, if_neg (by omega), e2, hp, if_neg hx, if_neg (by rw [hy]; decide)]
theorem recR_err (h : n ≤ l.length) (h2 : splO (l.take n) (p + 1) = true) (h3 : chkR (splK (l.take n) (p + 1)) (splV (l.take n) (p + 1)) ≠ 0) : recR l = ([], [], [], chkR (splK (l.take n) (p + 1)) (splV (l.take n) (p + 1))) := by
 rw [recR_past hb hn hp hv h h2, if_pos h3]
theorem recR_off (h : n ≤ l.length) (h2 : splO (l.take n) (p + 1) = true) (h3 : chkR (splK (l.take n) (p + 1)) (splV (l.take n) (p + 1)) = 0) (h4 : recL (splK (l.take n) (p + 1)) (splV (l.take n) (p + 1)) ≠ l.take n) : recR l = ([], [], [], 3) := by
 rw [recR_past hb hn hp hv h h2, if_neg (by simpa using h3), if_pos h4]
theorem recR_yes (h : n ≤ l.length) (h2 : splO (l.take n) (p + 1) = true) (h3 : chkR (splK (l.take n) (p + 1)) (splV (l.take n) (p + 1)) = 0) (h4 : recL (splK (l.take n) (p + 1)) (splV (l.take n) (p + 1)) = l.take n) : recR l = (splK (l.take n) (p + 1), splV (l.take n) (p + 1), l.drop n, 0) := by
 rw [recR_past hb hn hp hv h h2, if_neg (by simpa using h3), if_neg (by simpa using h4)]
end
end Go.Proofs.YtmejnabngfpbeaaGreatDoor
namespace Go.Proofs.YtmejnabngfpbeaaGreatDoor
open Go.RowKit
theorem less_self (a : List UInt8) : Op.bytesLess a a = false := by
 induction a with
 | nil => rfl
 | cons x a ih => simp [Op.bytesLess, ih]
theorem less_asym (a b : List UInt8) (h : Op.bytesLess a b = true) : Op.bytesLess b a = false := by
 induction a generalizing b with
 | nil =>
  cases b with
  | nil => rfl
  | cons y b => rfl
 | cons x a ih =>
  cases b with
  | nil => cases h
  | cons y b =>
   simp only [Op.bytesLess, Bool.or_eq_true, Bool.and_eq_true, decide_eq_true_eq, beq_iff_eq] at h
   rcases h with h | ⟨rfl, h⟩
   ·have h1 : ¬ y < x := fun h' => by simp only [UInt8.lt_iff_toNat_lt] at h h'; omega
    have h2 : (y == x) = false := by rw [beq_eq_false_iff_ne]; rintro rfl; simp only [UInt8.lt_iff_toNat_lt] at h; omega
    simp [Op.bytesLess, h1, h2]
   ·have h1 : ¬ x < x := fun h' => by simp only [UInt8.lt_iff_toNat_lt] at h'; omega
    simp [Op.bytesLess, h1, ih b h]
theorem less_total (a b : List UInt8) (h : Op.bytesLess a b = false) (hne : a ≠ b) : Op.bytesLess b a = true := by
 induction a generalizing b with
 | nil =>
  cases b with
  | nil => exact absurd rfl hne
  | cons y b => cases h
 | cons x a ih =>
  cases b with
  | nil => rfl
  | cons y b =>
   simp only [Op.bytesLess, Bool.or_eq_false_iff, Bool.and_eq_false_iff, decide_eq_false_iff_not, beq_eq_false_iff_ne] at h
   obtain ⟨h1, h2⟩ := h
   simp only [Op.bytesLess, Bool.or_eq_true, Bool.and_eq_true, decide_eq_true_eq, beq_iff_eq]
   by_cases e : x = y
   ·subst e
    rcases h2 with h2 | h2
    ·exact absurd rfl h2
    ·exact .inr ⟨rfl, ih b h2 (fun e => hne (by rw [e]))⟩
   ·refine .inl ?_
    simp only [UInt8.lt_iff_toNat_lt] at h1 ⊢
    have : x.toNat ≠ y.toNat := fun e' => e (UInt8.toNat_inj.1 e')
    omega
theorem le_less (a b : List UInt8) : (Op.bytesLess a b || a == b) = !(Op.bytesLess b a) := by
 cases h : Op.bytesLess b a
 ·cases h2 : Op.bytesLess a b
  ·by_cases e : a = b
   ·simp [e]
   ·rw [less_total a b h2 e] at h; cases h
  ·simp
 ·rw [less_asym b a h]
  have : (a == b) = false := by rw [beq_eq_false_iff_ne]; rintro rfl; rw [less_self] at h; cases h
  rw [this]; rfl
abbrev Rc : Type := List UInt8 × List UInt8
def chkG : List UInt8 → List Rc → Int
 | _, [] => 0
 | last, r :: l => if chkR r.1 r.2 ≠ 0 then chkR r.1 r.2 else if Op.bytesLess last r.1 = true then chkG r.1 l else 6
def chkP (l : List Rc) : Int := if 12 < l.length then 1 else chkG [] l
theorem chkG_err {last : List UInt8} {r : Rc} {l : List Rc} (h : chkR r.1 r.2 ≠ 0) : chkG last (r :: l) = chkR r.1 r.2 := by rw [chkG, if_pos h]
theorem chkG_twice {last : List UInt8} {r : Rc} {l : List Rc} (h : chkR r.1 r.2 = 0) (h2 : Op.bytesLess last r.1 = false) : chkG last (r :: l) = 6 := by rw [chkG, if_neg (by simpa using h), if_neg (by rw [h2]; decide)]
theorem chkG_go {last : List UInt8} {r : Rc} {l : List Rc} (h : chkR r.1 r.2 = 0) (h2 : Op.bytesLess last r.1 = true) : chkG last (r :: l) = chkG r.1 l := by rw [chkG, if_neg (by simpa using h), if_pos h2]
theorem chkP_many {l : List Rc} (h : 12 < l.length) : chkP l = 1 := if_pos h
theorem chkP_few {l : List Rc} (h : l.length ≤ 12) : chkP l = chkG [] l := if_neg (by omega)
theorem chkG_all {last : List UInt8} {l : List Rc} (h : chkG last l = 0) : ∀ r ∈ l, chkR r.1 r.2 = 0 := by
 induction l generalizing last with
 | nil => intro r hr; cases hr
 | cons x l ih =>
  unfold chkG at h
  split at h
  ·rename_i h1; exact absurd h h1
  ·rename_i h1
   split at h
   ·intro r hr
    rcases List.mem_cons.1 hr with rfl | hr
    ·simpa using h1
    ·exact ih h r hr
   ·cases h
theorem chkP_all {l : List Rc} (h : chkP l = 0) : l.length ≤ 12 ∧ chkG [] l = 0 ∧ ∀ r ∈ l, chkR r.1 r.2 = 0 := by
 by_cases hl : 12 < l.length
 ·rw [chkP_many hl] at h; cases h
 ·rw [chkP_few (by omega)] at h
  exact ⟨by omega, h, chkG_all h⟩
def textP (l : List Rc) : List UInt8 := l.flatMap fun r => recL r.1 r.2
theorem textP_nil : textP [] = [] := rfl
theorem textP_cons (r : Rc) (l : List Rc) : textP (r :: l) = recL r.1 r.2 ++ textP l := rfl
theorem textP_app (a b : List Rc) : textP (a ++ b) = textP a ++ textP b := by simp [textP]
theorem recL_pos (k v : List UInt8) : 1 ≤ (recL k v).length := by
 unfold recL recT
 rw [List.length_append, List.length_cons]; omega
theorem textP_len {l : List Rc} (h : ∀ r ∈ l, chkR r.1 r.2 = 0) : (textP l).length ≤ l.length * 566 := by
 induction l with
 | nil => exact Nat.le_refl _
 | cons r l ih =>
  have h1 := ih fun x hx => h x (List.mem_cons_of_mem _ hx)
  obtain ⟨-, k2, v2, -⟩ := chkR_of (h r (List.mem_cons_self ..))
  have h2 := recL_len r.1 r.2 (by omega)
  have h3 := recN_bd (r.1.length + r.2.length + 3)
  rw [textP_cons, List.length_append, List.length_cons]; omega
def paxW (l : List Rc) : List UInt8 × Int := if chkP l = 0 then (textP l, 0) else ([], chkP l)
theorem paxW_ok {l : List Rc} (h : chkP l = 0) : paxW l = (textP l, 0) := if_pos h
theorem paxW_no {l : List Rc} (h : chkP l ≠ 0) : paxW l = ([], chkP l) := if_neg h
theorem recR_rest {l : List UInt8} (h : (recR l).2.2.2 = 0) : (recR l).2.2.1.length < l.length := by
 unfold recR at h ⊢
 split at h
 ·cases h
 ·rename_i h1
  split at h
  ·cases h
  ·rename_i h2
   split at h
   ·cases h
   ·rename_i h3
    split at h
    ·cases h
    ·rename_i h4
     split at h
     ·rename_i h5; exact absurd h h5
     ·rename_i h5
      split at h
      ·cases h
      ·rename_i h6
       rw [if_neg h1, if_neg h2, if_neg h3, if_neg h4, if_neg h5, if_neg h6]
       have hn : 1 ≤ dVal (digP l) := by omega
       show (l.drop (dVal (digP l))).length < l.length
       rw [List.length_drop]; omega
def rdP : Nat → List UInt8 → List Rc × Int
 | 0, _ => ([], 0)
 | _ + 1, [] => ([], 0)
 | f + 1, c :: l =>
  if (recR (c :: l)).2.2.2 ≠ 0 then ([], (recR (c :: l)).2.2.2)
  else if (rdP f (recR (c :: l)).2.2.1).2 ≠ 0 then ([], (rdP f (recR (c :: l)).2.2.1).2)
  else (((recR (c :: l)).1, (recR (c :: l)).2.1) :: (rdP f (recR (c :: l)).2.2.1).1, 0)
theorem rdP_fuel (f g : Nat) (l : List UInt8) (hf : l.length ≤ f) (hg : l.length ≤ g) : rdP f l = rdP g l := by
 induction f generalizing g l with
 | zero =>
  have : l = [] := List.eq_nil_of_length_eq_zero (by omega)
  subst this
  cases g <;> rfl
 | succ f ih =>
  cases l with
  | nil => cases g <;> rfl
  | cons c l =>
   cases g with
   | zero => simp at hg
   | succ g =>
    rw [rdP, rdP]
    by_cases h : (recR (c :: l)).2.2.2 = 0
    ·have hr := recR_rest h
     simp only [List.length_cons] at hr hf hg
     rw [ih g _ (by omega) (by omega)]
    ·rw [if_pos h, if_pos h]
def rdAll (l : List UInt8) : List Rc × Int := rdP l.length l
def rdAcc (acc : List Rc) (l : List UInt8) : List Rc × Int := if (rdAll l).2 ≠ 0 then ([], (rdAll l).2) else (acc ++ (rdAll l).1, 0)
theorem rdAll_nil : rdAll [] = ([], 0) := rfl
theorem rdAll_step {l : List UInt8} (hl : l ≠ []) (h : (recR l).2.2.2 = 0) :
  rdAll l = if (rdAll (recR l).2.2.1).2 ≠ 0 then ([], (rdAll (recR l).2.2.1).2) else (((recR l).1, (recR l).2.1) :: (rdAll (recR l).2.2.1).1, 0) := by
 cases l with
 | nil => exact absurd rfl hl
 | cons c l =>
  have hr := recR_rest h
  unfold rdAll
  rw [List.length_cons, rdP, if_neg (by simpa using h)]
  rw [List.length_cons] at hr
  rw [rdP_fuel l.length (recR (c :: l)).2.2.1.length _ (by omega) (Nat.le_refl _)]
theorem rdAll_err {l : List UInt8} (hl : l ≠ []) (h : (recR l).2.2.2 ≠ 0) : rdAll l = ([], (recR l).2.2.2) := by
 cases l with
 | nil => exact absurd rfl hl
 | cons c l =>
  unfold rdAll
  rw [List.length_cons, rdP, if_pos h]
theorem rdAll_acc (l : List UInt8) : rdAcc [] l = rdAll l := by
 have key : (rdAll l).2 = 0 ∨ (rdAll l).1 = [] := by
  cases l with
  | nil => exact .inl rfl
  | cons c l =>
   by_cases h : (recR (c :: l)).2.2.2 = 0
   ·rw [rdAll_step (by simp) h]
    split
    ·exact .inr rfl
    ·exact .inl rfl
   ·rw [rdAll_err (by simp) h]; exact .inr rfl
 unfold rdAcc
 split
 ·rename_i h
  rcases key with k | k
  ·exact absurd k h
  ·rw [← k]
 ·rename_i h
  rw [List.nil_append]
  have : (rdAll l).2 = 0 := by simpa using h
  rw [← this]
theorem rdAcc_nil (acc : List Rc) : rdAcc acc [] = (acc, 0) := by
 unfold rdAcc
 rw [rdAll_nil, if_neg (by decide), List.append_nil]
theorem rdAcc_err {acc : List Rc} {l : List UInt8} (hl : l ≠ []) (h : (recR l).2.2.2 ≠ 0) : rdAcc acc l = ([], (recR l).2.2.2) := by
 unfold rdAcc
 rw [rdAll_err hl h, if_pos h]
theorem rdAcc_step {acc : List Rc} {l : List UInt8} (hl : l ≠ []) (h : (recR l).2.2.2 = 0) : rdAcc acc l = rdAcc (acc ++ [((recR l).1, (recR l).2.1)]) (recR l).2.2.1 := by
 unfold rdAcc
 rw [rdAll_step hl h]
 by_cases e : (rdAll (recR l).2.2.1).2 = 0
 ·rw [if_neg (show ¬ (rdAll (recR l).2.2.1).2 ≠ 0 by simpa using e)]
  simp [e]
 ·rw [if_pos e, if_pos e, if_pos e]
def paxR (l : List UInt8) : List Rc × Int := if (rdAll l).2 ≠ 0 then ([], (rdAll l).2) else if chkP (rdAll l).1 ≠ 0 then ([], chkP (rdAll l).1) else ((rdAll l).1, 0)
theorem paxR_err {l : List UInt8} {e : Int} (h : rdAll l = ([], e)) (he : e ≠ 0) : paxR l = ([], e) := by unfold paxR; rw [h, if_pos he]
theorem paxR_chk {l : List UInt8} {x : List Rc} (h : rdAll l = (x, 0)) (hx : chkP x ≠ 0) : paxR l = ([], chkP x) := by unfold paxR; rw [h, if_neg (fun a => a rfl), if_pos hx]
theorem paxR_ok {l : List UInt8} {x : List Rc} (h : rdAll l = (x, 0)) (hx : chkP x = 0) : paxR l = (x, 0) := by unfold paxR; rw [h, if_neg (fun a => a rfl), if_neg (by simpa using hx)]
theorem rdAll_text (x : List Rc) (h : ∀ r ∈ x, chkR r.1 r.2 = 0) : rdAll (textP x) = (x, 0) := by
 induction x with
 | nil => rfl
 | cons r x ih =>
  have h1 := h r (List.mem_cons_self ..)
  have h2 := ih fun y hy => h y (List.mem_cons_of_mem _ hy)
  have hr := recR_text r.1 r.2 (textP x) h1
  rw [textP_cons]
  rw [rdAll_step ?_ (by rw [hr]), hr, h2, if_neg (fun a => a rfl)]
  intro e
  have := congrArg List.length e
  rw [List.length_append, List.length_nil] at this
  have := recL_pos r.1 r.2; omega
def paxF : List Rc → List UInt8 → List UInt8 × Bool
 | [], _ => ([], false)
 | r :: l, key => if r.1 = key then (r.2, true) else paxF l key
def sumB (l : List UInt8) : Nat := (l.map fun c => c.toNat).sum
theorem sumB_nil : sumB [] = 0 := rfl
theorem sumB_cons (c : UInt8) (l : List UInt8) : sumB (c :: l) = c.toNat + sumB l := by simp [sumB]
theorem sumB_app (a b : List UInt8) : sumB (a ++ b) = sumB a + sumB b := by simp [sumB]
theorem sumB_le (l : List UInt8) : sumB l ≤ 255 * l.length := by
 induction l with
 | nil => exact Nat.le_refl _
 | cons c l ih => rw [sumB_cons, List.length_cons]; have := c.toNat_lt; omega
theorem sumB_take (l : List UInt8) (k : Nat) (h : k < l.length) : sumB (l.take (k + 1)) = sumB (l.take k) + l[k].toNat := by
 rw [List.take_succ_eq_append_getElem h, sumB_app, sumB_cons, sumB_nil]; rfl
def sumK (l : List UInt8) (k : Nat) : Nat := sumB (l.take (min k 148)) + 32 * (min k 156 - 148) + sumB ((l.take k).drop 156)
theorem sumK_zero (l : List UInt8) : sumK l 0 = 0 := by simp [sumK, sumB_nil]
theorem sumK_in (l : List UInt8) (k : Nat) (h : 148 ≤ k) (h2 : k < 156) : sumK l (k + 1) = sumK l k + 32 := by
 unfold sumK
 rw [show min (k + 1) 148 = 148 by omega, show min (k + 1) 156 = k + 1 by omega, show min k 148 = 148 by omega, show min k 156 = k by omega, show (l.take (k + 1)).drop 156 = [] from List.drop_of_length_le (by rw [List.length_take]; omega), show (l.take k).drop 156 = [] from List.drop_of_length_le (by rw [List.length_take]; omega)]
 omega
theorem sumK_out (l : List UInt8) (k : Nat) (h : ¬ (148 ≤ k ∧ k < 156)) (hk : k < l.length) : sumK l (k + 1) = sumK l k + l[k].toNat := by
 unfold sumK
 by_cases h1 : k < 148
 ·rw [show min (k + 1) 148 = k + 1 by omega, show min (k + 1) 156 = k + 1 by omega, show min k 148 = k by omega, show min k 156 = k by omega, show (l.take (k + 1)).drop 156 = [] from List.drop_of_length_le (by rw [List.length_take]; omega), show (l.take k).drop 156 = [] from List.drop_of_length_le (by rw [List.length_take]; omega), sumB_take l k hk]
  simp only [sumB_nil]; omega
 ·rw [show min (k + 1) 148 = 148 by omega, show min (k + 1) 156 = 156 by omega, show min k 148 = 148 by omega, show min k 156 = 156 by omega, List.take_succ_eq_append_getElem hk, List.drop_append_of_le_length (by rw [List.length_take]; omega), sumB_app, sumB_cons, sumB_nil]
  omega
def sumH (l : List UInt8) : Nat := sumB (l.take 148) + 256 + sumB (l.drop 156)
theorem sumK_all (l : List UInt8) (h : l.length = 512) : sumK l 512 = sumH l := by
 unfold sumK sumH
 rw [show l.take 512 = l from List.take_of_length_le (by omega)]
 rfl
theorem sumK_le (l : List UInt8) (k : Nat) (h : k ≤ 512) : sumK l k ≤ 512 * 255 + 256 + 512 * 255 := by
 unfold sumK
 have h1 := sumB_le (l.take (min k 148))
 have h2 := sumB_le ((l.take k).drop 156)
 rw [List.length_take] at h1
 rw [List.length_drop, List.length_take] at h2
 omega
theorem sumH_lt (l : List UInt8) (h : l.length = 512) : sumH l < 262144 := by
 unfold sumH
 have h1 := sumB_le (l.take 148)
 have h2 := sumB_le (l.drop 156)
 rw [List.length_take] at h1
 rw [List.length_drop] at h2
 omega
def sumV (l : List UInt8) : Int × Int := if l.length = 512 then ((sumH l : Int), 0) else (0, 1)
theorem sumV_ok {l : List UInt8} (h : l.length = 512) : sumV l = ((sumH l : Int), 0) := if_pos h
theorem sumV_no {l : List UInt8} (h : ¬ l.length = 512) : sumV l = (0, 1) := if_neg h
theorem sumH_mid (a c b : List UInt8) (ha : a.length = 148) (hc : c.length = 8) : sumH (a ++ (c ++ b)) = sumB a + 256 + sumB b := by
 unfold sumH
 have e : (a ++ (c ++ b)).drop 156 = b := by
  rw [← List.append_assoc, show (156 : Nat) = (a ++ c).length by rw [List.length_append]; omega, List.drop_left]
 rw [List.take_left' ha, e]
def ckL (n : Nat) : List UInt8 := D n 6 ++ [0] ++ [32]
theorem ckL_length (n : Nat) : (ckL n).length = 8 := by simp [ckL]
theorem octW_ck (n : Nat) (h : n < 262144) : octW (n : Int) 7 = (bs (D n 6 ++ [0]), 0) := by
 rw [octW_yes (by omega) ⟨by omega, by unfold most; simp; omega⟩]; rfl
def ckOk (l : List UInt8) : Bool := decide ((l.take 156).drop 148 = ckL (sumH l))
theorem ckOk_mid (a c b : List UInt8) (ha : a.length = 148) (hc : c.length = 8) : ckOk (a ++ (c ++ b)) = decide (c = ckL (sumB a + 256 + sumB b)) := by
 unfold ckOk
 rw [sumH_mid a c b ha hc]
 have e : ((a ++ (c ++ b)).take 156).drop 148 = c := by
  rw [← List.append_assoc, List.take_append_of_le_length (by rw [List.length_append]; omega), List.take_of_length_le (by rw [List.length_append]; omega), ← ha, List.drop_left]
 rw [e]
structure HeadV where
 name : List UInt8
 pre : List UInt8
 link : List UInt8
 mode : Int
 uid : Int
 gid : Int
 size : Int
 time : Int
 typ : UInt8
 user : List UInt8
 group : List UInt8
def headZ : HeadV := ⟨[], [], [], 0, 0, 0, 0, 0, 0, [], []⟩
def typB (c : UInt8) : Bool := hasB c [48, 49, 50, 53, 120]
def magicL : List UInt8 := [117, 115, 116, 97, 114, 0, 48, 48]
def first1 (w e : Int) : Int := if w = 0 then e else w
def firstE (l : List Int) : Int := l.foldl first1 0
theorem first1_zero (e : Int) : first1 0 e = e := rfl
theorem firstE_of (l : List Int) (h : ∀ e ∈ l, e = 0) : firstE l = 0 := by
 unfold firstE
 induction l with
 | nil => rfl
 | cons x l ih =>
  rw [List.foldl_cons, h x (List.mem_cons_self ..)]
  exact ih fun e he => h e (List.mem_cons_of_mem _ he)
theorem foldl_stuck (l : List Int) (w : Int) (h : w ≠ 0) : l.foldl first1 w = w := by
 induction l with
 | nil => rfl
 | cons x l ih =>
  rw [List.foldl_cons, show first1 w x = w from if_neg h]; exact ih
theorem firstE_zero {l : List Int} (h : firstE l = 0) : ∀ e ∈ l, e = 0 := by
 induction l with
 | nil => intro e he; cases he
 | cons x l ih =>
  unfold firstE at h ih
  rw [List.foldl_cons, first1_zero] at h
  by_cases hx : x = 0
  ·subst hx
   intro e he
   rcases List.mem_cons.1 he with rfl | he
   ·rfl
   ·exact ih h e he
  ·rw [foldl_stuck l x hx] at h; exact absurd h hx
def fw (l : List UInt8) (x : Int) (wh : Bool) : List UInt8 := (fldW l x wh).1.data.toList
def ow (n x : Int) : List UInt8 := (octW n x).1.data.toList
def frontH (h : HeadV) : List UInt8 := fw h.name 100 true ++ ow h.mode 8 ++ ow h.uid 8 ++ ow h.gid 8 ++ ow h.size 12 ++ ow h.time 12
def backH (h : HeadV) : List UInt8 := [h.typ] ++ fw h.link 100 true ++ magicL ++ fw h.user 32 false ++ fw h.group 32 false ++ ow 0 8 ++ ow 0 8 ++ fw h.pre 155 true ++ List.replicate 12 0
def errsH (h : HeadV) : List Int := [(fldW h.name 100 true).2, (octW h.mode 8).2, (octW h.uid 8).2, (octW h.gid 8).2, (octW h.size 12).2, (octW h.time 12).2, (fldW h.link 100 true).2, (fldW h.user 32 false).2, (fldW h.group 32 false).2, (octW 0 8).2, (octW 0 8).2, (fldW h.pre 155 true).2]
def headE (h : HeadV) : Int := if typB h.typ = true then firstE (errsH h) else 2
def headW (h : HeadV) : ByteArray × Int := if headE h = 0 then (bs (frontH h ++ (ckL (sumB (frontH h) + 256 + sumB (backH h)) ++ backH h)), 0) else (⟨#[]⟩, headE h)
theorem headW_ok {h : HeadV} (e : headE h = 0) : headW h = (bs (frontH h ++ (ckL (sumB (frontH h) + 256 + sumB (backH h)) ++ backH h)), 0) := if_pos e
theorem headW_no {h : HeadV} (e : headE h ≠ 0) : headW h = (⟨#[]⟩, headE h) := if_neg e
theorem fw_len {l : List UInt8} {n : Nat} {wh : Bool} (h : (fldW l n wh).2 = 0) : (fw l n wh).length = n ∧ hasB 0 l = false ∧ l.length ≤ n ∧ (wh = true ∨ l.length < n) ∧ 1 ≤ n ∧ n ≤ 512 ∧ fw l n wh = l ++ List.replicate (n - l.length) 0 := by
 by_cases h1 : (n : Int) < 1 ∨ 512 < (n : Int)
 ·rw [fldW_range h1] at h; cases h
 ·by_cases h2 : (n : Int) < l.length ∨ (wh = false ∧ (n : Int) = l.length)
  ·rw [fldW_size h1 h2] at h; cases h
  ·by_cases h3 : hasB 0 l = true
   ·rw [fldW_form h1 h2 h3] at h; cases h
   ·have e : fw l n wh = l ++ List.replicate (n - l.length) 0 := by
     unfold fw
     rw [fldW_ok h1 h2 (by simpa using h3), Int.toNat_natCast]
    refine ⟨?_, by simpa using h3, by omega, ?_, by omega, by omega, e⟩
    ·rw [e, List.length_append, List.length_replicate]; omega
    ·cases wh
     ·right
      rcases Nat.lt_or_ge l.length n with a | a
      ·exact a
      ·exact absurd (.inr ⟨rfl, by omega⟩) h2
     ·left; rfl
theorem ow_len {v : Int} {n : Nat} (h : (octW v n).2 = 0) : (ow v n).length = n ∧ 2 ≤ n ∧ n ≤ 12 ∧ 0 ≤ v ∧ v.toNat < 8 ^ (n - 1) ∧ ow v n = D v.toNat (n - 1) ++ [0] := by
 by_cases h1 : 2 ≤ (n : Int) ∧ (n : Int) ≤ 12 ∧ 0 ≤ v ∧ v ≤ most n
 ·obtain ⟨a, b, c, d⟩ := h1
  have e : ow v n = D v.toNat (n - 1) ++ [0] := by
   unfold ow
   rw [octW_yes ⟨a, b⟩ ⟨c, d⟩, Int.toNat_natCast]
  refine ⟨by rw [e]; simp; omega, by omega, by omega, c, ?_, e⟩
  have := most_nat n (by omega) v c d
  rwa [Int.toNat_natCast] at this
 ·rw [octW_no h1] at h; cases h
theorem headE_ok {h : HeadV} (e : headE h = 0) : typB h.typ = true ∧ ∀ x ∈ errsH h, x = 0 := by
 unfold headE at e
 split at e
 ·rename_i ht; exact ⟨ht, firstE_zero e⟩
 ·cases e
theorem front_len {h : HeadV} (e : headE h = 0) : (frontH h).length = 148 := by
 obtain ⟨-, he⟩ := headE_ok e
 have h1 := (fw_len (n := 100) (he (fldW h.name 100 true).2 (by simp [errsH]))).1
 have h2 := (ow_len (n := 8) (he (octW h.mode 8).2 (by simp [errsH]))).1
 have h3 := (ow_len (n := 8) (he (octW h.uid 8).2 (by simp [errsH]))).1
 have h4 := (ow_len (n := 8) (he (octW h.gid 8).2 (by simp [errsH]))).1
 have h5 := (ow_len (n := 12) (he (octW h.size 12).2 (by simp [errsH]))).1
 have h6 := (ow_len (n := 12) (he (octW h.time 12).2 (by simp [errsH]))).1
 unfold frontH
 simp only [List.length_append]
 show (fw h.name (100 : Nat) true).length + (ow h.mode (8 : Nat)).length + (ow h.uid (8 : Nat)).length + (ow h.gid (8 : Nat)).length + (ow h.size (12 : Nat)).length + (ow h.time (12 : Nat)).length = 148
 omega
theorem back_len {h : HeadV} (e : headE h = 0) : (backH h).length = 356 := by
 obtain ⟨-, he⟩ := headE_ok e
 have h1 := (fw_len (n := 100) (he (fldW h.link 100 true).2 (by simp [errsH]))).1
 have h2 := (fw_len (n := 32) (he (fldW h.user 32 false).2 (by simp [errsH]))).1
 have h3 := (fw_len (n := 32) (he (fldW h.group 32 false).2 (by simp [errsH]))).1
 have h4 := (ow_len (n := 8) (he (octW 0 8).2 (by simp [errsH]))).1
 have h5 := (fw_len (n := 155) (he (fldW h.pre 155 true).2 (by simp [errsH]))).1
 unfold backH magicL
 simp only [List.length_append, List.length_cons, List.length_nil, List.length_replicate]
 show 0 + 1 + (fw h.link (100 : Nat) true).length + 8 + (fw h.user (32 : Nat) false).length + (fw h.group (32 : Nat) false).length + (ow 0 (8 : Nat)).length + (ow 0 (8 : Nat)).length + (fw h.pre (155 : Nat) true).length + 12 = 356
 omega
theorem headW_block {h : HeadV} (e : headE h = 0) : (frontH h ++ (ckL (sumB (frontH h) + 256 + sumB (backH h)) ++ backH h)).length = 512 ∧ ckOk (frontH h ++ (ckL (sumB (frontH h) + 256 + sumB (backH h)) ++ backH h)) = true := by
 have h1 := front_len e
 have h2 := back_len e
 refine ⟨?_, ?_⟩
 ·rw [List.length_append, List.length_append, ckL_length, h1, h2]
 ·rw [ckOk_mid _ _ _ h1 (ckL_length _)]; exact decide_eq_true rfl
def sl (l : List UInt8) (a b : Nat) : List UInt8 := (l.take b).drop a
theorem sl_len (l : List UInt8) (a b : Nat) (h : b ≤ l.length) : (sl l a b).length = b - a := by
 unfold sl; rw [List.length_drop, List.length_take]; omega
theorem sl_flat (ps : List (List UInt8)) (i : Nat) (hi : i < ps.length) (a b : Nat) (ha : a = ((ps.take i).map List.length).sum) (hb : b = a + ps[i].length) : sl ps.flatten a b = ps[i] := by
 have e : ps.flatten = (ps.take i).flatten ++ (ps[i] ++ (ps.drop (i + 1)).flatten) := by
  conv => lhs; rw [← List.take_append_drop i ps, List.drop_eq_getElem_cons hi, List.flatten_append, List.flatten_cons]
 have hl : (ps.take i).flatten.length = a := by rw [List.length_flatten, ha]
 unfold sl
 rw [e, ← List.append_assoc, List.take_append_of_le_length (by rw [List.length_append]; omega), List.take_of_length_le (by rw [List.length_append]; omega), ← hl, List.drop_left]
def zeroL : List UInt8 := [48, 48, 48, 48, 48, 48, 48, 0, 48, 48, 48, 48, 48, 48, 48, 0]
def rdS (l : List UInt8) (a b : Nat) (wh : Bool) : List UInt8 := (fldR (sl l a b) wh).1.data.toList
def readH (l : List UInt8) : HeadV :=
 ⟨rdS l 0 100 true, rdS l 345 500 true, rdS l 157 257 true, (octR (sl l 100 108)).1, (octR (sl l 108 116)).1, (octR (sl l 116 124)).1, (octR (sl l 124 136)).1, (octR (sl l 136 148)).1, l.getD 156 0, rdS l 265 297 false, rdS l 297 329 false⟩
def bad (b : Bool) : Int := if b = true then 0 else 3
def errsR (l : List UInt8) : List Int :=
 [(fldR (sl l 0 100) true).2, (octR (sl l 100 108)).2, (octR (sl l 108 116)).2, (octR (sl l 116 124)).2, (octR (sl l 124 136)).2, (octR (sl l 136 148)).2, bad (typB (l.getD 156 0)), (fldR (sl l 157 257) true).2, bad (decide (sl l 257 265 = magicL)),
  (fldR (sl l 265 297) false).2, (fldR (sl l 297 329) false).2, bad (decide (sl l 329 345 = zeroL)), (fldR (sl l 345 500) true).2, bad (decide (sl l 500 512 = List.replicate 12 0))]
def headR (l : List UInt8) : HeadV × Int :=
 if l.length ≠ 512 then (headZ, 1) else if ckOk l = false then (headZ, 8) else if firstE (errsR l) ≠ 0 then (headZ, firstE (errsR l)) else (readH l, 0)
theorem headR_size {l : List UInt8} (h : l.length ≠ 512) : headR l = (headZ, 1) := if_pos h
theorem headR_sum {l : List UInt8} (h : l.length = 512) (h2 : ckOk l = false) : headR l = (headZ, 8) := by rw [headR, if_neg (by simpa using h), if_pos h2]
theorem headR_err {l : List UInt8} (h : l.length = 512) (h2 : ckOk l = true) (h3 : firstE (errsR l) ≠ 0) : headR l = (headZ, firstE (errsR l)) := by rw [headR, if_neg (by simpa using h), if_neg (by simp [h2]), if_pos h3]
theorem headR_ok {l : List UInt8} (h : l.length = 512) (h2 : ckOk l = true) (h3 : firstE (errsR l) = 0) : headR l = (readH l, 0) := by rw [headR, if_neg (by simpa using h), if_neg (by simp [h2]), if_neg (by simpa using h3)]
theorem firstE_three {l : List Int} (h : ∀ e ∈ l, e = 0 ∨ e = 3) : firstE l = 0 ∨ firstE l = 3 := by
 unfold firstE
 have key : ∀ (l : List Int) (w : Int), (w = 0 ∨ w = 3) → (∀ e ∈ l, e = 0 ∨ e = 3) → (l.foldl first1 w = 0 ∨ l.foldl first1 w = 3) := by
  intro l
  induction l with
  | nil => intro w hw _; exact hw
  | cons x l ih =>
   intro w hw h
   rw [List.foldl_cons]
   refine ih _ ?_ fun e he => h e (List.mem_cons_of_mem _ he)
   unfold first1
   split
   ·exact h x (List.mem_cons_self ..)
   ·exact hw
 exact key l 0 (.inl rfl) h
theorem pos_zrep (k : Nat) : pos 0 (List.replicate k 0) = 0 := by
 cases k with
 | zero => rfl
 | succ k => rw [List.replicate_succ, pos_cons, if_pos rfl]
theorem allZ_rep0 (k : Nat) : allZ (List.replicate k 0) = true := by
 rw [allZ_rep, List.length_replicate]; exact decide_eq_true rfl
theorem fldR_fw {l : List UInt8} {n : Nat} {wh : Bool} (h : (fldW l n wh).2 = 0) : fldR (fw l n wh) wh = (bs l, 0) := by
 obtain ⟨h1, h2, h3, h4, h5, h6, e⟩ := fw_len h
 have hp : pos 0 (l ++ List.replicate (n - l.length) 0) = l.length := by rw [pos_app _ _ _ h2, pos_zrep]; rfl
 rw [e] at h1 ⊢
 rw [fldR_ok (by omega) ?_ ?_, hp, List.take_left]
 ·rfl
 ·rintro ⟨rfl, e2⟩
  rw [hp] at e2
  rcases h4 with h4 | h4
  ·cases h4
  ·omega
 ·rw [hp, List.drop_left]; exact allZ_rep0 _
theorem octR_ow {v : Int} {n : Nat} (h : (octW v n).2 = 0) : octR (ow v n) = (v, 0) := by
 obtain ⟨-, h2, h3, h4, h5, e⟩ := ow_len h
 rw [e, octR_D _ _ (by omega) (by omega) h5, Int.toNat_of_nonneg h4]
theorem ow_zero : ow 0 8 = [48, 48, 48, 48, 48, 48, 48, 0] := by decide +kernel
def partsH (h : HeadV) (ck : List UInt8) : List (List UInt8) :=
 [fw h.name (100 : Nat) true, ow h.mode (8 : Nat), ow h.uid (8 : Nat), ow h.gid (8 : Nat), ow h.size (12 : Nat), ow h.time (12 : Nat), ck, [h.typ], fw h.link (100 : Nat) true, magicL, fw h.user (32 : Nat) false, fw h.group (32 : Nat) false, zeroL, fw h.pre (155 : Nat) true, List.replicate 12 0]
theorem parts_flat (h : HeadV) (ck : List UInt8) : frontH h ++ (ck ++ backH h) = (partsH h ck).flatten := by
 have e : ow 0 8 ++ ow 0 8 = zeroL := by rw [ow_zero]; rfl
 unfold frontH backH partsH
 rw [← e]
 simp
theorem headR_headW {h : HeadV} (e : headE h = 0) : headR (frontH h ++ (ckL (sumB (frontH h) + 256 + sumB (backH h)) ++ backH h)) = (h, 0) := by
 obtain ⟨hlen, hck⟩ := headW_block e
 obtain ⟨ht, he⟩ := headE_ok e
 have w1 := he (fldW h.name 100 true).2 (by simp [errsH])
 have w2 := he (octW h.mode 8).2 (by simp [errsH])
 have w3 := he (octW h.uid 8).2 (by simp [errsH])
 have w4 := he (octW h.gid 8).2 (by simp [errsH])
 have w5 := he (octW h.size 12).2 (by simp [errsH])
 have w6 := he (octW h.time 12).2 (by simp [errsH])
 have w7 := he (fldW h.link 100 true).2 (by simp [errsH])
 have w8 := he (fldW h.user 32 false).2 (by simp [errsH])
 have w9 := he (fldW h.group 32 false).2 (by simp [errsH])
 have wA := he (fldW h.pre 155 true).2 (by simp [errsH])
 have l1 := (fw_len (n := 100) w1).1
 have l2 := (ow_len (n := 8) w2).1
 have l3 := (ow_len (n := 8) w3).1
 have l4 := (ow_len (n := 8) w4).1
 have l5 := (ow_len (n := 12) w5).1
 have l6 := (ow_len (n := 12) w6).1
 have l7 := (fw_len (n := 100) w7).1
 have l8 := (fw_len (n := 32) w8).1
 have l9 := (fw_len (n := 32) w9).1
 have lA := (fw_len (n := 155) wA).1
 have lk := ckL_length (sumB (frontH h) + 256 + sumB (backH h))
 have r1 := fldR_fw (n := 100) w1
 have r2 := octR_ow (n := 8) w2
 have r3 := octR_ow (n := 8) w3
 have r4 := octR_ow (n := 8) w4
 have r5 := octR_ow (n := 12) w5
 have r6 := octR_ow (n := 12) w6
 have r7 := fldR_fw (n := 100) w7
 have r8 := fldR_fw (n := 32) w8
 have r9 := fldR_fw (n := 32) w9
 have rA := fldR_fw (n := 155) wA
 generalize ckL (sumB (frontH h) + 256 + sumB (backH h)) = ck at *
 rw [parts_flat] at hlen hck ⊢
 have hps : (partsH h ck).length = 15 := rfl
 have S : ∀ i (hi : i < (partsH h ck).length) a b, a = (((partsH h ck).take i).map List.length).sum → b = a + (partsH h ck)[i].length → sl (partsH h ck).flatten a b = (partsH h ck)[i] := fun i hi a b ha hb => sl_flat _ i hi a b ha hb
 have lm : magicL.length = 8 := rfl
 have lz : zeroL.length = 16 := rfl
 have lr : (List.replicate 12 (0 : UInt8)).length = 12 := rfl
 have s0 : sl (partsH h ck).flatten 0 100 = fw h.name (100 : Nat) true := S 0 (by omega) 0 100 rfl (by show 100 = 0 + (fw h.name (100 : Nat) true).length; omega)
 have s1 : sl (partsH h ck).flatten 100 108 = ow h.mode (8 : Nat) := S 1 (by omega) 100 108 (by simp only [partsH, List.take_succ_cons, List.take_zero, List.map_cons, List.map_nil, List.sum_cons, List.sum_nil]; omega) (by show 108 = 100 + (ow h.mode (8 : Nat)).length; omega)
 have s2 : sl (partsH h ck).flatten 108 116 = ow h.uid (8 : Nat) := S 2 (by omega) 108 116 (by simp only [partsH, List.take_succ_cons, List.take_zero, List.map_cons, List.map_nil, List.sum_cons, List.sum_nil]; omega) (by show 116 = 108 + (ow h.uid (8 : Nat)).length; omega)
 have s3 : sl (partsH h ck).flatten 116 124 = ow h.gid (8 : Nat) := S 3 (by omega) 116 124 (by simp only [partsH, List.take_succ_cons, List.take_zero, List.map_cons, List.map_nil, List.sum_cons, List.sum_nil]; omega) (by show 124 = 116 + (ow h.gid (8 : Nat)).length; omega)
 have s4 : sl (partsH h ck).flatten 124 136 = ow h.size (12 : Nat) := S 4 (by omega) 124 136 (by simp only [partsH, List.take_succ_cons, List.take_zero, List.map_cons, List.map_nil, List.sum_cons, List.sum_nil]; omega) (by show 136 = 124 + (ow h.size (12 : Nat)).length; omega)
 have s5 : sl (partsH h ck).flatten 136 148 = ow h.time (12 : Nat) := S 5 (by omega) 136 148 (by simp only [partsH, List.take_succ_cons, List.take_zero, List.map_cons, List.map_nil, List.sum_cons, List.sum_nil]; omega) (by show 148 = 136 + (ow h.time (12 : Nat)).length; omega)
 have s7 : sl (partsH h ck).flatten 156 157 = [h.typ] := S 7 (by omega) 156 157 (by simp only [partsH, List.take_succ_cons, List.take_zero, List.map_cons, List.map_nil, List.sum_cons, List.sum_nil]; omega) rfl
 have s8 : sl (partsH h ck).flatten 157 257 = fw h.link (100 : Nat) true := S 8 (by omega) 157 257 (by simp only [partsH, List.take_succ_cons, List.take_zero, List.map_cons, List.map_nil, List.sum_cons, List.sum_nil, List.length_cons, List.length_nil]; omega) (by show 257 = 157 + (fw h.link (100 : Nat) true).length; omega)
 have s9 : sl (partsH h ck).flatten 257 265 = magicL := S 9 (by omega) 257 265 (by simp only [partsH, List.take_succ_cons, List.take_zero, List.map_cons, List.map_nil, List.sum_cons, List.sum_nil, List.length_cons, List.length_nil]; omega) rfl
 have sA : sl (partsH h ck).flatten 265 297 = fw h.user (32 : Nat) false := S 10 (by omega) 265 297 (by simp only [partsH, List.take_succ_cons, List.take_zero, List.map_cons, List.map_nil, List.sum_cons, List.sum_nil, List.length_cons, List.length_nil]; omega) (by show 297 = 265 + (fw h.user (32 : Nat) false).length; omega)
 have sB : sl (partsH h ck).flatten 297 329 = fw h.group (32 : Nat) false := S 11 (by omega) 297 329 (by simp only [partsH, List.take_succ_cons, List.take_zero, List.map_cons, List.map_nil, List.sum_cons, List.sum_nil, List.length_cons, List.length_nil]; omega) (by show 329 = 297 + (fw h.group (32 : Nat) false).length; omega)
 have sC : sl (partsH h ck).flatten 329 345 = zeroL := S 12 (by omega) 329 345 (by simp only [partsH, List.take_succ_cons, List.take_zero, List.map_cons, List.map_nil, List.sum_cons, List.sum_nil, List.length_cons, List.length_nil]; omega) rfl
 have sD : sl (partsH h ck).flatten 345 500 = fw h.pre (155 : Nat) true := S 13 (by omega) 345 500 (by simp only [partsH, List.take_succ_cons, List.take_zero, List.map_cons, List.map_nil, List.sum_cons, List.sum_nil, List.length_cons, List.length_nil]; omega) (by show 500 = 345 + (fw h.pre (155 : Nat) true).length; omega)
 have sE : sl (partsH h ck).flatten 500 512 = List.replicate 12 0 := S 14 (by omega) 500 512 (by simp only [partsH, List.take_succ_cons, List.take_zero, List.map_cons, List.map_nil, List.sum_cons, List.sum_nil, List.length_cons, List.length_nil]; omega) rfl
 have sT : (partsH h ck).flatten.getD 156 0 = h.typ := by
  generalize (partsH h ck).flatten = l at *
  have e1 : (sl l 156 157)[0]? = some h.typ := by rw [s7]; rfl
  unfold sl at e1
  rw [List.getElem?_drop, List.getElem?_take_of_lt (by omega)] at e1
  rw [List.getD_eq_getElem?_getD, e1]; rfl
 have hE : firstE (errsR (partsH h ck).flatten) = 0 := by
  refine firstE_of _ ?_
  unfold errsR
  rw [s0, s1, s2, s3, s4, s5, s8, s9, sA, sB, sC, sD, sE, sT, r1, r2, r3, r4, r5, r6, r7, r8, r9, rA, ht]
  simp [bad]
 rw [headR_ok hlen hck hE]
 unfold readH rdS
 rw [s0, s1, s2, s3, s4, s5, s8, sA, sB, sD, sT, r1, r2, r3, r4, r5, r6, r7, r8, r9, rA]
 rfl
def padN (n : Nat) : Nat := (n + 511) / 512
theorem padN_ge (n : Nat) : n ≤ 512 * padN n := by unfold padN; omega
theorem padN_lt (n : Nat) : 512 * padN n < n + 512 := by unfold padN; omega
theorem padN_mul (k : Nat) : padN (512 * k) = k := by unfold padN; omega
theorem padN_ref (n : Nat) : padN n = if n / 512 * 512 < n then n / 512 + 1 else n / 512 := by unfold padN; split <;> omega
def padB (n : Int) : Int × Int := if 0 ≤ n ∧ n < 8589934592 then ((padN n.toNat : Int), 0) else (0, 4)
theorem padB_ok {n : Int} (h : 0 ≤ n ∧ n < 8589934592) : padB n = ((padN n.toNat : Int), 0) := if_pos h
theorem padB_no {n : Int} (h : ¬ (0 ≤ n ∧ n < 8589934592)) : padB n = (0, 4) := if_neg h
def padF (l : List UInt8) : List UInt8 := l ++ List.replicate (512 * padN l.length - l.length) 0
theorem padF_length (l : List UInt8) : (padF l).length = 512 * padN l.length := by
 have := padN_ge l.length
 unfold padF; rw [List.length_append, List.length_replicate]; omega
theorem padF_whole (l : List UInt8) (k : Nat) (h : l.length = 512 * k) : padF l = l := by
 unfold padF; rw [h, padN_mul, Nat.sub_self, List.replicate_zero, List.append_nil]
theorem padF_step (l : List UInt8) (h : l.length % 512 ≠ 0) : padF (l ++ [0]) = padF l := by
 have e : padN (l.length + 1) = padN l.length := by unfold padN; omega
 have g := padN_ge l.length
 have g2 : l.length + 1 ≤ 512 * padN l.length := by unfold padN; omega
 unfold padF
 rw [List.length_append, List.length_singleton, e, List.append_assoc]
 congr 1
 obtain ⟨k, hk⟩ : ∃ k, 512 * padN l.length - l.length = k + 1 := ⟨512 * padN l.length - l.length - 1, by omega⟩
 rw [hk, show 512 * padN l.length - (l.length + 1) = k by omega, List.replicate_succ]
 rfl
def padC (l : List UInt8) (n : Int) : (List UInt8 × List UInt8) × Int :=
 if 0 ≤ n ∧ n < 8589934592 then
  if l.length < 512 * padN n.toNat then (([], []), 7)
  else if allZ ((l.take (512 * padN n.toNat)).drop n.toNat) = true then ((l.take n.toNat, l.drop (512 * padN n.toNat)), 0) else (([], []), 3)
 else (([], []), 4)
theorem padC_range {l : List UInt8} {n : Int} (h : ¬ (0 ≤ n ∧ n < 8589934592)) : padC l n = (([], []), 4) := if_neg h
theorem padC_short {l : List UInt8} {n : Int} (h : 0 ≤ n ∧ n < 8589934592) (h2 : l.length < 512 * padN n.toNat) : padC l n = (([], []), 7) := by rw [padC, if_pos h, if_pos h2]
theorem padC_form {l : List UInt8} {n : Int} (h : 0 ≤ n ∧ n < 8589934592) (h2 : 512 * padN n.toNat ≤ l.length) (h3 : allZ ((l.take (512 * padN n.toNat)).drop n.toNat) = false) : padC l n = (([], []), 3) := by
 rw [padC, if_pos h, if_neg (by omega), if_neg (by simp [h3])]
theorem padC_ok {l : List UInt8} {n : Int} (h : 0 ≤ n ∧ n < 8589934592) (h2 : 512 * padN n.toNat ≤ l.length) (h3 : allZ ((l.take (512 * padN n.toNat)).drop n.toNat) = true) : padC l n = ((l.take n.toNat, l.drop (512 * padN n.toNat)), 0) := by
 rw [padC, if_pos h, if_neg (by omega), if_pos h3]
theorem padMAllZ_zeros (k : Nat) : allZ (List.replicate k 0) = true := by rw [allZ_rep, List.length_replicate]; exact decide_eq_true rfl
theorem padC_padF (l m : List UInt8) (h : l.length < 8589934592) : padC (padF l ++ m) (l.length : Int) = ((l, m), 0) := by
 have hl := padF_length l
 have e1 : (padF l ++ m).take (512 * padN l.length) = padF l := List.take_left' hl
 have e2 : (padF l ++ m).drop (512 * padN l.length) = m := by rw [← hl, List.drop_left]
 have e3 : (padF l ++ m).take l.length = l := by unfold padF; rw [List.append_assoc, List.take_left]
 have e4 : (padF l).drop l.length = List.replicate (512 * padN l.length - l.length) 0 := by unfold padF; rw [List.drop_left]
 rw [padC_ok ⟨by omega, by omega⟩ (by rw [Int.toNat_natCast, List.length_append, hl]; omega) (by rw [Int.toNat_natCast, e1, e4]; exact padMAllZ_zeros _), Int.toNat_natCast, e2, e3]
def kGid : List UInt8 := [103, 105, 100]
def kGname : List UInt8 := [103, 110, 97, 109, 101]
def kLink : List UInt8 := [108, 105, 110, 107, 112, 97, 116, 104]
def kMtime : List UInt8 := [109, 116, 105, 109, 101]
def kPath : List UInt8 := [112, 97, 116, 104]
def kUid : List UInt8 := [117, 105, 100]
def kUname : List UInt8 := [117, 110, 97, 109, 101]
def atLong : List UInt8 := [64, 108, 111, 110, 103]
def atPax : List UInt8 := [64, 112, 97, 120]
def lateM (x : EntV) : Bool := decide (x.md.nano ≠ 0 ∨ x.md.second < 0 ∨ 8589934592 ≤ x.md.second)
def recIf (b : Bool) (k v : List UInt8) : List Rc := if b = true then [(k, v)] else []
def recsM (x : EntV) : List Rc :=
 recIf (decide (2097152 ≤ x.md.gid)) kGid (Lib.itoa x.md.gid) ++ (recIf (decide (31 < x.md.group.length)) kGname x.md.group ++ (recIf (decide (100 < x.target.length)) kLink x.target ++
 (recIf (lateM x) kMtime (tText x.md.second x.md.nano).1.data.toList ++ (recIf (decide ((cutV x.path).2.2 ≠ 0)) kPath x.path ++ (recIf (decide (2097152 ≤ x.md.uid)) kUid (Lib.itoa x.md.uid) ++ recIf (decide (31 < x.md.user.length)) kUname x.md.user)))))
def typM (k : Int) : UInt8 := if k = 1 then 48 else if k = 2 then 53 else if k = 3 then 50 else 49
def headM (x : EntV) : HeadV :=
 {name := if (cutV x.path).2.2 ≠ 0 then atLong else (cutV x.path).2.1
  pre := (cutV x.path).1
  link := if 100 < x.target.length then atLong else x.target
  mode := x.md.mode
  uid := if 2097152 ≤ x.md.uid then 0 else x.md.uid
  gid := if 2097152 ≤ x.md.gid then 0 else x.md.gid
  size := x.data.length
  time := if lateM x = true then 0 else x.md.second
  typ := typM x.kind
  user := if 31 < x.md.user.length then [] else x.md.user
  group := if 31 < x.md.group.length then [] else x.md.group }
def paxH (n : Nat) : HeadV := { headZ with name := atPax, size := n, typ := 120 }
def bytesM (x : EntV) : List UInt8 :=
 (if recsM x = [] then [] else (headW (paxH (paxW (recsM x)).1.length)).1.data.toList ++ padF (paxW (recsM x)).1) ++ ((headW (headM x)).1.data.toList ++ padF x.data)
theorem recR_turn {l : List UInt8} (h : (recR l).2.2.2 = 0) : chkR (recR l).1 (recR l).2.1 = 0 ∧ l = recL (recR l).1 (recR l).2.1 ++ (recR l).2.2.1 := by
 unfold recR at h ⊢
 split at h
 ·cases h
 ·rename_i h1
  split at h
  ·cases h
  ·rename_i h2
   split at h
   ·cases h
   ·rename_i h3
    split at h
    ·cases h
    ·rename_i h4
     split at h
     ·rename_i h5; exact absurd h h5
     ·rename_i h5
      split at h
      ·cases h
      ·rename_i h6
       rw [if_neg h1, if_neg h2, if_neg h3, if_neg h4, if_neg h5, if_neg h6]
       refine ⟨by simpa using h5, ?_⟩
       have h7 := Decidable.not_not.1 h6
       show l = recL _ _ ++ l.drop (dVal (digP l))
       rw [h7]
       exact (List.take_append_drop _ _).symm
theorem recR_no {l : List UInt8} (h : (recR l).2.2.2 ≠ 0) : recR l = ([], [], [], (recR l).2.2.2) := by
 unfold recR at h ⊢
 by_cases h1 : ¬ frontOk l
 ·rw [if_pos h1]
 ·rw [if_neg h1] at h ⊢
  by_cases h2 : l.length < dVal (digP l)
  ·rw [if_pos h2]
  ·rw [if_neg h2] at h ⊢
   by_cases h3 : dVal (digP l) < (digP l).length + 2 ∨ l[dVal (digP l) - 1]? ≠ some 10
   ·rw [if_pos h3]
   ·rw [if_neg h3] at h ⊢
    by_cases h4 : hasB 61 (bodyR l) = false
    ·rw [if_pos h4]
    ·rw [if_neg h4] at h ⊢
     by_cases h5 : chkR ((bodyR l).take (pos 61 (bodyR l))) ((bodyR l).drop (pos 61 (bodyR l) + 1)) ≠ 0
     ·rw [if_pos h5]
     ·rw [if_neg h5] at h ⊢
      by_cases h6 : recL ((bodyR l).take (pos 61 (bodyR l))) ((bodyR l).drop (pos 61 (bodyR l) + 1)) ≠ l.take (dVal (digP l))
      ·rw [if_pos h6]
      ·rw [if_neg h6] at h
       exact absurd rfl h
def szR (l : List UInt8) : Nat := if (recR l).2.2.2 = 0 then (recL (recR l).1 (recR l).2.1).length else 0
theorem szR_no {l : List UInt8} (h : (recR l).2.2.2 ≠ 0) : szR l = 0 := if_neg h
theorem szR_ok {l : List UInt8} (h : (recR l).2.2.2 = 0) : szR l = (recL (recR l).1 (recR l).2.1).length ∧ szR l + (recR l).2.2.1.length = l.length ∧ l.drop (szR l) = (recR l).2.2.1 ∧ 1 ≤ szR l := by
 obtain ⟨-, e⟩ := recR_turn h
 have e1 : szR l = (recL (recR l).1 (recR l).2.1).length := if_pos h
 refine ⟨e1, ?_, ?_, by rw [e1]; exact recL_pos _ _⟩
 ·rw [e1]
  conv => rhs; rw [e]
  rw [List.length_append]
 ·rw [e1]
  generalize (recR l).2.2.1 = r at *
  generalize recL (recR l).1 (recR l).2.1 = f at *
  subst e
  exact List.drop_left
theorem recR_front_of {l : List UInt8} {m : Nat} (h : (recR (l.take m)).2.2.2 = 0) :
  (recR l).1 = (recR (l.take m)).1 ∧ (recR l).2.1 = (recR (l.take m)).2.1 ∧ (recR l).2.2.2 = 0 ∧ szR l = (l.take m).length - (recR (l.take m)).2.2.1.length := by
 obtain ⟨hc, e⟩ := recR_turn h
 have h2 := szR_ok h
 have e2 : recR l = ((recR (l.take m)).1, (recR (l.take m)).2.1, (recR (l.take m)).2.2.1 ++ l.drop m, 0) := by
  conv => lhs; rw [← List.take_append_drop m l, e]
  rw [List.append_assoc]
  exact recR_text _ _ _ hc
 have h3 : (recR l).2.2.2 = 0 := by rw [e2]
 refine ⟨by rw [e2], by rw [e2], h3, ?_⟩
 rw [(szR_ok h3).1, e2]
 show (recL (recR (l.take m)).1 (recR (l.take m)).2.1).length = _
 omega
theorem chkP_take (a : List Rc) : chkP (a.take 13) = chkP a := by
 by_cases h : a.length ≤ 12
 ·rw [List.take_of_length_le (by omega)]
 ·rw [chkP_many (by rw [List.length_take]; omega), chkP_many (by omega)]
theorem take13_few {a : List Rc} (r : Rc) (h : (a.take 13).length ≤ 12) : (a ++ [r]).take 13 = a.take 13 ++ [r] := by
 rw [List.length_take] at h
 rw [List.take_of_length_le (by rw [List.length_append, List.length_singleton]; omega), List.take_of_length_le (by omega)]
theorem take13_many {a : List Rc} (r : Rc) (h : ¬ (a.take 13).length ≤ 12) : (a ++ [r]).take 13 = a.take 13 := by
 rw [List.length_take] at h
 rw [List.take_append_of_le_length (by omega)]
theorem take13_ok {a : List Rc} (h : chkP a = 0) : a.take 13 = a := by
 obtain ⟨h1, -⟩ := chkP_all h
 exact List.take_of_length_le (by omega)
theorem paxR_end {l : List UInt8} {a : List Rc} (h : rdAll l = (a, 0)) : paxR l = if chkP (a.take 13) ≠ 0 then ([], chkP (a.take 13)) else (a.take 13, 0) := by
 rw [chkP_take]
 by_cases hc : chkP a = 0
 ·rw [if_neg (by simpa using hc), take13_ok hc, paxR_ok h hc]
 ·rw [if_pos hc, paxR_chk h hc]
theorem less_trans (a b c : List UInt8) (h : Op.bytesLess a b = true) (h2 : Op.bytesLess b c = true) : Op.bytesLess a c = true := by
 induction a generalizing b c with
 | nil =>
  cases b with
  | nil => cases h
  | cons y b =>
   cases c with
   | nil => cases h2
   | cons z c => rfl
 | cons x a ih =>
  cases b with
  | nil => cases h
  | cons y b =>
   cases c with
   | nil => cases h2
   | cons z c =>
    simp only [Op.bytesLess, Bool.or_eq_true, Bool.and_eq_true, decide_eq_true_eq, beq_iff_eq] at h h2 ⊢
    rcases h with h | ⟨rfl, h⟩
    ·rcases h2 with h2 | ⟨rfl, h2⟩
     ·exact .inl (by simp only [UInt8.lt_iff_toNat_lt] at *; omega)
     ·exact .inl h
    ·rcases h2 with h2 | ⟨rfl, h2⟩
     ·exact .inl h2
     ·exact .inr ⟨rfl, ih b c h h2⟩
theorem digL_cons (c : UInt8) (l : List UInt8) : digL (c :: l) = (decide (48 ≤ c.toNat ∧ c.toNat ≤ 55) && digL l) := rfl
theorem octVal_zero (l : List UInt8) (hd : digL l = true) (h : octVal l = 0) : l = List.replicate l.length 48 := by
 induction l with
 | nil => rfl
 | cons c l ih =>
  rw [digL_cons, Bool.and_eq_true, decide_eq_true_eq] at hd
  rw [octVal_cons] at h
  have h1 := Nat.eq_zero_of_add_eq_zero_left h
  have h2 : (c.toNat - 48) * 8 ^ l.length = 0 := by omega
  have h3 : c.toNat - 48 = 0 := by
   rcases Nat.mul_eq_zero.1 h2 with a | a
   ·exact a
   ·have := Nat.pow_pos (a := 8) (n := l.length) (by omega); omega
  have h4 : c = 48 := UInt8.toNat_inj.1 (by show c.toNat = 48; omega)
  rw [List.length_cons, List.replicate_succ, ← ih hd.2 h1, h4]
theorem octR_err (l : List UInt8) (h : 2 ≤ l.length ∧ l.length ≤ 12) : (octR l).2 = 0 ∨ (octR l).2 = 3 := by
 unfold octR
 rw [if_pos h]
 split
 ·exact .inl rfl
 ·exact .inr rfl
theorem fldR_err (l : List UInt8) (wh : Bool) (h : 1 ≤ l.length ∧ l.length ≤ 512) : (fldR l wh).2 = 0 ∨ (fldR l wh).2 = 3 := by
 unfold fldR
 rw [if_neg (by omega)]
 split
 ·exact .inr rfl
 ·exact .inl rfl
theorem bad_err (b : Bool) : bad b = 0 ∨ bad b = 3 := by cases b <;> simp [bad]
theorem bad_zero (b : Bool) : bad b = 0 ↔ b = true := by cases b <;> simp [bad]
def zero8 : List UInt8 := [48, 48, 48, 48, 48, 48, 48, 0]
theorem octR_zero8 (l : List UInt8) (hl : l.length = 8) : ((octR l).2 = 0 ∧ (octR l).1 = 0) ↔ l = zero8 := by
 constructor
 ·rintro ⟨h1, h2⟩
  by_cases h : digL (l.take (l.length - 1)) = true ∧ l.getD (l.length - 1) 1 = 0
  ·rw [octR_yes (by omega) h.1 h.2] at h2
   have h3 := octVal_zero _ h.1 (by simpa using h2)
   have e := h.2
   rw [hl] at h3 e
   rw [List.length_take, hl] at h3
   rw [List.getD_eq_getElem?_getD, List.getElem?_eq_getElem (by omega)] at e
   have e2 : l = l.take 7 ++ [l[7]] := by
    conv => lhs; rw [← List.take_append_drop 7 l, List.drop_eq_getElem_cons (by omega), List.drop_of_length_le (by omega)]
   rw [e2, h3]
   simp only [Option.getD_some] at e
   rw [e]; rfl
  ·rw [octR_no (by omega) h] at h1; cases h1
 ·rintro rfl; exact ⟨by decide +kernel, by decide +kernel⟩
def errsP (l : List UInt8) : List Int :=
 [(fldR (sl l 0 100) true).2, (octR (sl l 100 108)).2, (octR (sl l 108 116)).2, (octR (sl l 116 124)).2, (octR (sl l 124 136)).2, (octR (sl l 136 148)).2, bad (typB (l.getD 156 0)), (fldR (sl l 157 257) true).2, bad (decide (sl l 257 265 = magicL)),
  (fldR (sl l 265 297) false).2, (fldR (sl l 297 329) false).2, (octR (sl l 329 337)).2, bad (decide ((octR (sl l 329 337)).1 = 0)), (octR (sl l 337 345)).2, bad (decide ((octR (sl l 337 345)).1 = 0)), (fldR (sl l 345 500) true).2, bad (decide (sl l 500 512 = List.replicate 12 0))]
theorem sl_app (l : List UInt8) (a b c : Nat) (h1 : a ≤ b) (h2 : b ≤ c) : sl l a c = sl l a b ++ sl l b c := by
 unfold sl
 have e : l.take b = (l.take c).take b := by rw [List.take_take, Nat.min_eq_left h2]
 rw [e]
 generalize l.take c = m
 rcases Nat.lt_or_ge m.length b with h | h
 ·rw [List.take_of_length_le (by omega : m.length ≤ b), List.drop_of_length_le (show m.length ≤ b by omega), List.append_nil]
 ·conv => lhs; rw [← List.take_append_drop b m]
  rw [List.drop_append_of_le_length (by rw [List.length_take]; omega)]
theorem zero16 (l : List UInt8) (h : l.length = 512) : (sl l 329 345 = zeroL) ↔ (sl l 329 337 = zero8 ∧ sl l 337 345 = zero8) := by
 rw [sl_app l 329 337 345 (by omega) (by omega), show zeroL = zero8 ++ zero8 from rfl]
 have h1 := sl_len l 329 337 (by omega)
 constructor
 ·intro e; exact List.append_inj e (by rw [h1]; rfl)
 ·rintro ⟨a, b⟩; rw [a, b]
theorem firstE_same {a b : List Int} (ha : ∀ e ∈ a, e = 0 ∨ e = 3) (hb : ∀ e ∈ b, e = 0 ∨ e = 3) (h : (∀ e ∈ a, e = 0) ↔ (∀ e ∈ b, e = 0)) : firstE a = firstE b := by
 rcases firstE_three ha with h1 | h1
 ·rw [h1, firstE_of b (h.1 (firstE_zero h1))]
 ·rcases firstE_three hb with h2 | h2
  ·rw [h2, firstE_of a (h.2 (firstE_zero h2))]
  ·rw [h1, h2]
theorem errs_same (l : List UInt8) (h : l.length = 512) : firstE (errsP l) = firstE (errsR l) := by
 have F : ∀ a b wh, a < b → b ≤ 512 → (fldR (sl l a b) wh).2 = 0 ∨ (fldR (sl l a b) wh).2 = 3 := fun a b wh h1 h2 => fldR_err _ _ (by rw [sl_len _ _ _ (by omega)]; omega)
 have O : ∀ a b, a + 2 ≤ b → b ≤ a + 12 → b ≤ 512 → (octR (sl l a b)).2 = 0 ∨ (octR (sl l a b)).2 = 3 := fun a b h1 h2 h3 => octR_err _ (by rw [sl_len _ _ _ (by omega)]; omega)
 have z1 := octR_zero8 (sl l 329 337) (by rw [sl_len _ _ _ (by omega)])
 have z2 := octR_zero8 (sl l 337 345) (by rw [sl_len _ _ _ (by omega)])
 have z3 := zero16 l h
 refine firstE_same ?_ ?_ ?_
 ·simp only [errsP, List.mem_cons, List.not_mem_nil, or_false, forall_eq_or_imp, forall_eq]
  exact ⟨F _ _ _ (by omega) (by omega), O _ _ (by omega) (by omega) (by omega), O _ _ (by omega) (by omega) (by omega), O _ _ (by omega) (by omega) (by omega), O _ _ (by omega) (by omega) (by omega), O _ _ (by omega) (by omega) (by omega), bad_err _, F _ _ _ (by omega) (by omega), bad_err _, F _ _ _ (by omega) (by omega), F _ _ _ (by omega) (by omega), O _ _ (by omega) (by omega) (by omega), bad_err _, O _ _ (by omega) (by omega) (by omega), bad_err _, F _ _ _ (by omega) (by omega), bad_err _⟩
 ·simp only [errsR, List.mem_cons, List.not_mem_nil, or_false, forall_eq_or_imp, forall_eq]
  exact ⟨F _ _ _ (by omega) (by omega), O _ _ (by omega) (by omega) (by omega), O _ _ (by omega) (by omega) (by omega), O _ _ (by omega) (by omega) (by omega), O _ _ (by omega) (by omega) (by omega), O _ _ (by omega) (by omega) (by omega), bad_err _, F _ _ _ (by omega) (by omega), bad_err _, F _ _ _ (by omega) (by omega), F _ _ _ (by omega) (by omega), bad_err _, F _ _ _ (by omega) (by omega), bad_err _⟩
 ·simp only [errsP, errsR, List.mem_cons, List.not_mem_nil, or_false, forall_eq_or_imp, forall_eq, bad_zero, decide_eq_true_eq, z3, ← z1, ← z2]
  constructor
  ·rintro ⟨a1, a2, a3, a4, a5, a6, a7, a8, a9, aA, aB, aC, aD, aE, aF, aG, aH⟩
   exact ⟨a1, a2, a3, a4, a5, a6, a7, a8, a9, aA, aB, ⟨⟨aC, aD⟩, aE, aF⟩, aG, aH⟩
  ·rintro ⟨a1, a2, a3, a4, a5, a6, a7, a8, a9, aA, aB, ⟨⟨aC, aD⟩, aE, aF⟩, aG, aH⟩
   exact ⟨a1, a2, a3, a4, a5, a6, a7, a8, a9, aA, aB, aC, aD, aE, aF, aG, aH⟩
theorem bs_take (l : List UInt8) (k n : Nat) (h : k + n ≤ l.length) : (bs (l.drop k)).extract 0 n = bs (sl l k (k + n)) := by
 apply ByteArray.ext; apply Array.toList_inj.1
 rw [ByteArray.data_extract, Array.toList_extract]
 simp [List.extract, bs, sl, List.take_drop]
theorem bs_drop (l : List UInt8) (k n : Nat) : (bs (l.drop k)).extract n (bs (l.drop k)).size = bs (l.drop (k + n)) := by
 apply ByteArray.ext; apply Array.toList_inj.1
 rw [ByteArray.data_extract, Array.toList_extract, bs_size]
 simp [List.extract, bs]
 rw [List.take_of_length_le (by simp; omega)]
theorem fw_le (l : List UInt8) (x : Int) (wh : Bool) : (fw l x wh).length ≤ 512 := by
 unfold fw fldW
 split
 ·simp
 ·split
  ·simp
  ·split
   ·simp
   ·rename_i h1 h2 h3
    simp only [List.length_append, List.length_replicate]
    omega
theorem ow_le (n x : Int) : (ow n x).length ≤ 512 := by
 unfold ow octW
 split
 ·simp only [List.length_append, D_length, List.length_cons, List.length_nil]; omega
 ·simp
theorem hasB_no_of {c : UInt8} {a b : List UInt8} (h : hasB c a = false) (hs : ∀ x ∈ b, x ∈ a) : hasB c b = false :=
 (hasB_mem c b).2 fun x hx => (hasB_mem c a).1 h x (hs x hx)
structure GoodT (x : EntV) : Prop where
 path : 1 ≤ x.path.length ∧ x.path.length ≤ 400 ∧ hasB 0 x.path = false
 target : x.target.length ≤ 400 ∧ hasB 0 x.target = false
 data : x.data.length ≤ 2000
 kind : 1 ≤ x.kind ∧ x.kind ≤ 4
 mode : 0 ≤ x.md.mode ∧ x.md.mode ≤ 4095
 uid : 0 ≤ x.md.uid ∧ x.md.uid ≤ 1125899906842624
 gid : 0 ≤ x.md.gid ∧ x.md.gid ≤ 1125899906842624
 user : x.md.user.length ≤ 60 ∧ hasB 0 x.md.user = false
 group : x.md.group.length ≤ 60 ∧ hasB 0 x.md.group = false
 time : inT x.md.second x.md.nano = true
theorem pathE_zero0 {p : List UInt8} (h : pathE p = 0) : 1 ≤ p.length ∧ p.length ≤ 400 ∧ hasB 0 p = false := by
 unfold pathE at h
 split at h
 ·cases h
 ·rename_i h1
  split at h
  ·cases h
  ·rename_i h2
   exact ⟨by omega, by omega, by simpa using h2⟩
theorem entE_good {x : EntV} (h : entE x = 0) : GoodT x := by
 obtain ⟨h1, h2, h3⟩ := entE_parts h
 have hm : ((0 ≤ x.md.mode ∧ x.md.mode ≤ 4095) ∧ (0 ≤ x.md.uid ∧ x.md.uid ≤ 1125899906842624) ∧ (0 ≤ x.md.gid ∧ x.md.gid ≤ 1125899906842624)) ∧ (x.md.user.length ≤ 60 ∧ x.md.group.length ≤ 60) ∧ (hasB 0 x.md.user = false ∧ hasB 0 x.md.group = false) ∧ inT x.md.second x.md.nano = true := by
  unfold metE at h2
  split at h2
  ·rename_i a
   rw [Bool.and_eq_true, Bool.and_eq_true] at a
   obtain ⟨⟨a1, a2⟩, a3⟩ := a
   split at h2
   ·cases h2
   ·rename_i b
    split at h2
    ·cases h2
    ·rename_i c
     have c' : (hasB 0 x.md.user || hasB 0 x.md.group) = false := by simpa using c
     rw [Bool.or_eq_false_iff] at c'
     refine ⟨⟨of_decide_eq_true a1, of_decide_eq_true a2, of_decide_eq_true a3⟩, by omega, c', ?_⟩
     unfold inE at h2
     split at h2
     ·assumption
     ·cases h2
  ·cases h2
 have hk : (1 ≤ x.kind ∧ x.kind ≤ 4) ∧ x.data.length ≤ 2000 ∧ x.target.length ≤ 400 ∧ hasB 0 x.target = false := by
  unfold entK at h3
  split at h3
  ·cases h3
  ·rename_i a
   split at h3
   ·cases h3
   ·split at h3
    ·cases h3
    ·rename_i c
     split at h3
     ·exact ⟨by omega, by omega, by omega, (pathE_zero0 h3).2.2⟩
     ·split at h3
      ·cases h3
      ·rename_i d
       exact ⟨by omega, by omega, by omega, by simpa using d⟩
 exact ⟨pathE_zero0 h1, ⟨hk.2.2.1, hk.2.2.2⟩, hk.2.1, hk.1, hm.1.1, hm.1.2.1, hm.1.2.2, ⟨hm.2.1.1, hm.2.2.1.1⟩, ⟨hm.2.1.2, hm.2.2.1.2⟩, hm.2.2.2⟩
theorem cutV_good {l : List UInt8} (h : hasB 0 l = false) : (cutV l).1.length ≤ 155 ∧ (cutV l).2.1.length ≤ 100 ∧ hasB 0 (cutV l).1 = false ∧ hasB 0 (cutV l).2.1 = false := by
 unfold cutV
 split
 ·exact ⟨by simp, by simp, rfl, rfl⟩
 ·split
  ·rename_i h1
   exact ⟨by simp, h1, rfl, h⟩
  ·split
   ·rename_i k hk
    have hb := fits_bd (cutAt_bd hk)
    exact ⟨by simp only [List.length_take]; omega, by simp only [List.length_drop]; omega, hasB_no_of h fun x hx => List.mem_of_mem_take hx, hasB_no_of h fun x hx => List.mem_of_mem_drop hx⟩
   ·exact ⟨by simp, by simp, rfl, rfl⟩
theorem most_8 : most 8 = 2097151 := by decide
theorem most_12 : most 12 = 8589934591 := by decide
theorem fld_ok {l : List UInt8} {x : Int} {wh : Bool} (h : 1 ≤ x ∧ x ≤ 512) (hl : (l.length : Int) ≤ x ∧ (wh = false → (l.length : Int) ≠ x)) (h0 : hasB 0 l = false) : (fldW l x wh).2 = 0 := by
 rw [fldW_ok (by omega) (by rintro (a | ⟨a, b⟩); omega; exact hl.2 a b.symm) h0]
theorem oct_ok {n x : Int} (h : 2 ≤ x ∧ x ≤ 12) (hn : 0 ≤ n ∧ n ≤ most x) : (octW n x).2 = 0 := by rw [octW_yes h hn]
theorem headM_ok {x : EntV} (h : entE x = 0) : headE (headM x) = 0 := by
 have g := entE_good h
 obtain ⟨c1, c2, c3, c4⟩ := cutV_good g.path.2.2
 have ht : typB (typM x.kind) = true := by
  unfold typM
  split
  ·decide
  ·split
   ·decide
   ·split <;> decide
 unfold headE
 rw [if_pos (show typB (headM x).typ = true from ht)]
 refine firstE_of _ fun e he => ?_
 unfold errsH headM at he
 simp only [List.mem_cons, List.not_mem_nil, or_false] at he
 have i1 := inT_of g.time
 rcases he with rfl | rfl | rfl | rfl | rfl | rfl | rfl | rfl | rfl | rfl | rfl | rfl
 ·refine fld_ok (by omega) ?_ ?_
  ·split
   ·exact ⟨by decide, fun h => by cases h⟩
   ·exact ⟨by omega, fun h => by cases h⟩
  ·split
   ·decide
   ·exact c4
 ·exact oct_ok (by omega) (by rw [most_8]; have := g.mode; omega)
 ·refine oct_ok (by omega) (by rw [most_8]; have := g.uid; split <;> omega)
 ·refine oct_ok (by omega) (by rw [most_8]; have := g.gid; split <;> omega)
 ·exact oct_ok (by omega) (by rw [most_12]; have := g.data; omega)
 ·refine oct_ok (by omega) ?_
  rw [most_12]
  split
  ·omega
  ·rename_i hl
   unfold lateM at hl
   have hl2 : ¬ (x.md.nano ≠ 0 ∨ x.md.second < 0 ∨ 8589934592 ≤ x.md.second) := by simpa using hl
   omega
 ·refine fld_ok (by omega) ?_ ?_
  ·split
   ·exact ⟨by decide, fun h => by cases h⟩
   ·exact ⟨by omega, fun h => by cases h⟩
  ·split
   ·decide
   ·exact g.target.2
 ·refine fld_ok (by omega) ?_ ?_
  ·split
   ·exact ⟨by decide, fun _ => by decide⟩
   ·exact ⟨by omega, fun _ => by omega⟩
  ·split
   ·decide
   ·exact g.user.2
 ·refine fld_ok (by omega) ?_ ?_
  ·split
   ·exact ⟨by decide, fun _ => by decide⟩
   ·exact ⟨by omega, fun _ => by omega⟩
  ·split
   ·decide
   ·exact g.group.2
 ·exact oct_ok (by omega) (by rw [most_8]; omega)
 ·exact oct_ok (by omega) (by rw [most_8]; omega)
 ·exact fld_ok (by omega) ⟨by omega, fun h => by cases h⟩ c3
def recs3 (L : List (Bool × List UInt8 × List UInt8)) : List Rc := L.flatMap fun t => recIf t.1 t.2.1 t.2.2
theorem recsM_eq (x : EntV) : recsM x = recs3 [(decide (2097152 ≤ x.md.gid), kGid, Lib.itoa x.md.gid), (decide (31 < x.md.group.length), kGname, x.md.group), (decide (100 < x.target.length), kLink, x.target), (lateM x, kMtime, (tText x.md.second x.md.nano).1.data.toList),
  (decide ((cutV x.path).2.2 ≠ 0), kPath, x.path), (decide (2097152 ≤ x.md.uid), kUid, Lib.itoa x.md.uid), (decide (31 < x.md.user.length), kUname, x.md.user)] := by
 unfold recsM recs3
 simp only [List.flatMap_cons, List.flatMap_nil, List.append_nil]
theorem chk3 (L : List (Bool × List UInt8 × List UInt8)) : ∀ (last : List UInt8), (∀ t ∈ L, Op.bytesLess last t.2.1 = true) → L.Pairwise (fun a b => Op.bytesLess a.2.1 b.2.1 = true) → (∀ t ∈ L, t.1 = true → chkR t.2.1 t.2.2 = 0) → chkG last (recs3 L) = 0 := by
 induction L with
 | nil => intro last _ _ _; rfl
 | cons t L ih =>
  intro last hs hp hc
  rw [List.pairwise_cons] at hp
  show chkG last (recIf t.1 t.2.1 t.2.2 ++ recs3 L) = 0
  have hc' := fun u hu => hc u (List.mem_cons_of_mem _ hu)
  unfold recIf
  by_cases hb : t.1 = true
  ·rw [if_pos hb, List.singleton_append]
   rw [chkG_go (hc t List.mem_cons_self hb) (hs t List.mem_cons_self)]
   exact ih _ hp.1 hp.2 hc'
  ·rw [if_neg hb, List.nil_append]
   exact ih _ (fun u hu => hs u (List.mem_cons_of_mem _ hu)) hp.2 hc'
theorem recs3_len (L : List (Bool × List UInt8 × List UInt8)) : (recs3 L).length ≤ L.length := by
 induction L with
 | nil => exact Nat.le_refl _
 | cons t L ih =>
  show (recIf t.1 t.2.1 t.2.2 ++ recs3 L).length ≤ _
  rw [List.length_append, List.length_cons]
  have : (recIf t.1 t.2.1 t.2.2).length ≤ 1 := by unfold recIf; split <;> simp
  omega
theorem itoa_val {n : Int} (h : 0 ≤ n) (h2 : n ≤ 1125899906842624) : (Lib.itoa n).length ≤ 16 ∧ hasB 0 (Lib.itoa n) = false := by
 have e : Lib.itoa n = Lib.decDigits n.toNat := by unfold Lib.itoa; rw [if_neg (by omega)]
 rw [e]
 exact ⟨decDigits_len _ 15 (by omega), hasB_dig _ (decDigits_dig _) 0 (by decide)⟩
theorem time_val {a b : Int} (h : inT a b = true) : (tText a b).1.data.toList = textL a b := by
 unfold tText; rw [if_pos h, bs_list]
theorem absT_no0 (m n : Nat) (h : n < 10 ^ 9) : hasB 0 (absT m n) = false := by
 unfold absT
 rw [hasB_app, hasB_dig _ (decDigits_dig _) 0 (by decide), Bool.false_or]
 unfold fracL
 split
 ·rfl
 ·rw [hasB_cons, hasB_dig _ (fr_dig 9 n h) 0 (by decide)]; rfl
theorem textL_val {a b : Int} (h : inT a b = true) : (textL a b).length ≤ 25 ∧ hasB 0 (textL a b) = false := by
 obtain ⟨m, n, hm, hn, hc⟩ := textL_abs a b h
 have hl := absT_len m n hm
 have h0 := absT_no0 m n hn
 rcases hc with ⟨-, e, -⟩ | ⟨-, e, -⟩
 ·rw [e]; exact ⟨by rw [List.length_cons]; omega, by rw [hasB_cons, h0]; rfl⟩
 ·rw [e]; exact ⟨by omega, h0⟩
theorem recsM_ok {x : EntV} (h : entE x = 0) : chkP (recsM x) = 0 := by
 have g := entE_good h
 have hlen : (recsM x).length ≤ 12 := by
  rw [recsM_eq]
  refine Nat.le_trans (recs3_len _) (by simp)
 rw [chkP_few hlen, recsM_eq]
 refine chk3 _ _ ?_ ?_ ?_
 ·intro t ht
  simp only [List.mem_cons, List.not_mem_nil, or_false] at ht
  rcases ht with rfl | rfl | rfl | rfl | rfl | rfl | rfl <;> (dsimp only; decide +kernel)
 ·simp only [List.pairwise_cons, List.mem_cons, List.not_mem_nil, or_false, List.Pairwise.nil, and_true]
  refine ⟨?_, ?_, ?_, ?_, ?_, ?_, ?_⟩
  ·rintro t (rfl | rfl | rfl | rfl | rfl | rfl) <;> (dsimp only; decide +kernel)
  ·rintro t (rfl | rfl | rfl | rfl | rfl) <;> (dsimp only; decide +kernel)
  ·rintro t (rfl | rfl | rfl | rfl) <;> (dsimp only; decide +kernel)
  ·rintro t (rfl | rfl | rfl) <;> (dsimp only; decide +kernel)
  ·rintro t (rfl | rfl) <;> (dsimp only; decide +kernel)
  ·rintro t rfl; dsimp only; decide +kernel
  ·intro t ht; exact ht.elim
 ·have i1 := itoa_val g.gid.1 g.gid.2
  have i2 := itoa_val g.uid.1 g.uid.2
  have tt := textL_val g.time
  rw [← time_val g.time] at tt
  intro t ht _
  simp only [List.mem_cons, List.not_mem_nil, or_false] at ht
  have hx : ∀ (k v : List UInt8), (1 ≤ k.length ∧ k.length ≤ 60) → hasB 61 k = false → hasB 10 k = false → v.length ≤ 500 → hasB 0 v = false → chkR k v = 0 := fun k v a b c d e =>
   chkR_ok (by omega) (by rintro (q | q | q); rw [b] at q; cases q; rw [c] at q; cases q; rw [e] at q; cases q)
  rcases ht with rfl | rfl | rfl | rfl | rfl | rfl | rfl
  ·exact hx kGid _ (by decide) (by decide) (by decide) (by show (Lib.itoa x.md.gid).length ≤ 500; omega) i1.2
  ·exact hx kGname _ (by decide) (by decide) (by decide) (by show x.md.group.length ≤ 500; have := g.group; omega) g.group.2
  ·exact hx kLink _ (by decide) (by decide) (by decide) (by show x.target.length ≤ 500; have := g.target; omega) g.target.2
  ·exact hx kMtime _ (by decide) (by decide) (by decide) (by show (tText x.md.second x.md.nano).1.data.toList.length ≤ 500; have := tt.1; omega) tt.2
  ·exact hx kPath _ (by decide) (by decide) (by decide) (by show x.path.length ≤ 500; have := g.path; omega) g.path.2.2
  ·exact hx kUid _ (by decide) (by decide) (by decide) (by show (Lib.itoa x.md.uid).length ≤ 500; omega) i2.2
  ·exact hx kUname _ (by decide) (by decide) (by decide) (by show x.md.user.length ≤ 500; have := g.user; omega) g.user.2
theorem paxW_recs {x : EntV} (h : entE x = 0) : paxW (recsM x) = (textP (recsM x), 0) := by unfold paxW; rw [if_pos (recsM_ok h)]
def longM (x : EntV) : Nat := (if 2097152 ≤ x.md.gid then 1 else 0) + (if 31 < x.md.group.length then 1 else 0) + (if 100 < x.target.length then 1 else 0) + (if lateM x = true then 1 else 0) + (if 2097152 ≤ x.md.uid then 1 else 0) + (if 31 < x.md.user.length then 1 else 0)
theorem recIf_len (b : Bool) (k v : List UInt8) : (recIf b k v).length = if b = true then 1 else 0 := by unfold recIf; split <;> rfl
theorem head_len {h : HeadV} (e : headE h = 0) : (headW h).1.data.toList.length = 512 := by
 rw [headW_ok e, bs_list]; exact (headW_block e).1
theorem recs_len {x : EntV} (h : entE x = 0) : (textP (recsM x)).length ≤ 6792 := by
 have h1 := chkP_all (recsM_ok h)
 have h2 := textP_len h1.2.2
 omega
theorem paxH_ok {n : Nat} (h : n ≤ 6792) : headE (paxH n) = 0 := by
 unfold headE
 rw [if_pos (show typB (paxH n).typ = true by show typB 120 = true; decide)]
 refine firstE_of _ fun e he => ?_
 unfold errsH paxH headZ at he
 simp only [List.mem_cons, List.not_mem_nil, or_false] at he
 rcases he with rfl | rfl | rfl | rfl | rfl | rfl | rfl | rfl | rfl | rfl | rfl | rfl
 ·exact fld_ok (by omega) ⟨by decide, fun h => by cases h⟩ (by decide)
 ·exact oct_ok (by omega) (by rw [most_8]; omega)
 ·exact oct_ok (by omega) (by rw [most_8]; omega)
 ·exact oct_ok (by omega) (by rw [most_8]; omega)
 ·exact oct_ok (by omega) (by rw [most_12]; omega)
 ·exact oct_ok (by omega) (by rw [most_12]; omega)
 ·exact fld_ok (by omega) ⟨by decide, fun h => by cases h⟩ (by decide)
 ·exact fld_ok (by omega) ⟨by decide, fun _ => by decide⟩ (by decide)
 ·exact fld_ok (by omega) ⟨by decide, fun _ => by decide⟩ (by decide)
 ·exact oct_ok (by omega) (by rw [most_8]; omega)
 ·exact oct_ok (by omega) (by rw [most_8]; omega)
 ·exact fld_ok (by omega) ⟨by decide, fun h => by cases h⟩ (by decide)
theorem bytesM_len {x : EntV} (h : entE x = 0) : (bytesM x).length = 512 * (1 + padN x.data.length) + if recsM x = [] then 0 else 512 * (1 + padN (textP (recsM x)).length) := by
 have h1 := head_len (headM_ok h)
 have h2 := recs_len h
 unfold bytesM
 rw [paxW_recs h]
 simp only
 split
 ·rw [List.nil_append, List.length_append, h1, padF_length]; omega
 ·have h3 := head_len (paxH_ok h2)
  rw [List.length_append, List.length_append, List.length_append, h1, h3, padF_length, padF_length]; omega
def look (K : List UInt8) (l : List Rc) : Option (List UInt8) := (l.find? fun r => decide (r.1 = K)).map (·.2)
theorem look_if (K : List UInt8) (b : Bool) (k v : List UInt8) (l : List Rc) : look K (recIf b k v ++ l) = if b = true ∧ k = K then some v else look K l := by
 unfold look recIf
 cases b with
 | false => rw [if_neg (by decide), if_neg (by simp), List.nil_append]
 | true =>
  rw [if_pos rfl, List.singleton_append, List.find?_cons]
  by_cases hk : k = K
  ·rw [if_pos ⟨rfl, hk⟩]; simp [hk]
  ·rw [if_neg (fun h => hk h.2)]; simp [hk]
theorem look_end (K : List UInt8) (b : Bool) (k v : List UInt8) : look K (recIf b k v) = if b = true ∧ k = K then some v else none := by
 have := look_if K b k v []
 rwa [List.append_nil] at this
theorem look_gid (x : EntV) : look kGid (recsM x) = if 2097152 ≤ x.md.gid then some (Lib.itoa x.md.gid) else none := by
 unfold recsM; simp only [look_if, look_end, decide_eq_true_eq]
 have d0 : kGname ≠ kGid := by decide
 have d1 : kLink ≠ kGid := by decide
 have d2 : kMtime ≠ kGid := by decide
 have d3 : kPath ≠ kGid := by decide
 have d4 : kUid ≠ kGid := by decide
 have d5 : kUname ≠ kGid := by decide
 simp [*]
theorem look_gname (x : EntV) : look kGname (recsM x) = if 31 < x.md.group.length then some x.md.group else none := by
 unfold recsM; simp only [look_if, look_end, decide_eq_true_eq]
 have d0 : kGid ≠ kGname := by decide
 have d1 : kLink ≠ kGname := by decide
 have d2 : kMtime ≠ kGname := by decide
 have d3 : kPath ≠ kGname := by decide
 have d4 : kUid ≠ kGname := by decide
 have d5 : kUname ≠ kGname := by decide
 simp [*]
theorem look_link (x : EntV) : look kLink (recsM x) = if 100 < x.target.length then some x.target else none := by
 unfold recsM; simp only [look_if, look_end, decide_eq_true_eq]
 have d0 : kGid ≠ kLink := by decide
 have d1 : kGname ≠ kLink := by decide
 have d2 : kMtime ≠ kLink := by decide
 have d3 : kPath ≠ kLink := by decide
 have d4 : kUid ≠ kLink := by decide
 have d5 : kUname ≠ kLink := by decide
 simp [*]
theorem look_mtime (x : EntV) : look kMtime (recsM x) = if lateM x = true then some (tText x.md.second x.md.nano).1.data.toList else none := by
 unfold recsM; simp only [look_if, look_end, decide_eq_true_eq]
 have d0 : kGid ≠ kMtime := by decide
 have d1 : kGname ≠ kMtime := by decide
 have d2 : kLink ≠ kMtime := by decide
 have d3 : kPath ≠ kMtime := by decide
 have d4 : kUid ≠ kMtime := by decide
 have d5 : kUname ≠ kMtime := by decide
 simp [*]
theorem look_path (x : EntV) : look kPath (recsM x) = if (cutV x.path).2.2 ≠ 0 then some x.path else none := by
 unfold recsM; simp only [look_if, look_end, decide_eq_true_eq]
 have d0 : kGid ≠ kPath := by decide
 have d1 : kGname ≠ kPath := by decide
 have d2 : kLink ≠ kPath := by decide
 have d3 : kMtime ≠ kPath := by decide
 have d4 : kUid ≠ kPath := by decide
 have d5 : kUname ≠ kPath := by decide
 simp [*]
theorem look_uid (x : EntV) : look kUid (recsM x) = if 2097152 ≤ x.md.uid then some (Lib.itoa x.md.uid) else none := by
 unfold recsM; simp only [look_if, look_end, decide_eq_true_eq]
 have d0 : kGid ≠ kUid := by decide
 have d1 : kGname ≠ kUid := by decide
 have d2 : kLink ≠ kUid := by decide
 have d3 : kMtime ≠ kUid := by decide
 have d4 : kPath ≠ kUid := by decide
 have d5 : kUname ≠ kUid := by decide
 simp [*]
theorem look_uname (x : EntV) : look kUname (recsM x) = if 31 < x.md.user.length then some x.md.user else none := by
 unfold recsM; simp only [look_if, look_end, decide_eq_true_eq]
 have d0 : kGid ≠ kUname := by decide
 have d1 : kGname ≠ kUname := by decide
 have d2 : kLink ≠ kUname := by decide
 have d3 : kMtime ≠ kUname := by decide
 have d4 : kPath ≠ kUname := by decide
 have d5 : kUid ≠ kUname := by decide
 simp [*]
theorem itoa_inj {a b : Int} (ha : 0 ≤ a) (hb : 0 ≤ b) (h : Lib.itoa a = Lib.itoa b) : a = b := by
 unfold Lib.itoa at h
 rw [if_neg (by omega), if_neg (by omega)] at h
 have h1 := decFrom_decDigits a.toNat
 rw [h, decFrom_decDigits] at h1
 injection h1 with h1
 omega
theorem typM_inj {a b : Int} (ha : 1 ≤ a ∧ a ≤ 4) (hb : 1 ≤ b ∧ b ≤ 4) (h : typM a = typM b) : a = b := by
 have : a = 1 ∨ a = 2 ∨ a = 3 ∨ a = 4 := by omega
 have : b = 1 ∨ b = 2 ∨ b = 3 ∨ b = 4 := by omega
 rcases ‹a = 1 ∨ a = 2 ∨ a = 3 ∨ a = 4› with rfl | rfl | rfl | rfl <;> rcases ‹b = 1 ∨ b = 2 ∨ b = 3 ∨ b = 4› with rfl | rfl | rfl | rfl <;> first | rfl | (exact absurd h (by decide))
theorem either {α β : Type} {p q : Prop} [Decidable p] [Decidable q] {u v : α} {a b z : β} (h1 : (if p then some u else none) = if q then some v else none) (h2 : (if p then z else a) = if q then z else b) : (p ∧ q ∧ u = v) ∨ (¬ p ∧ ¬ q ∧ a = b) := by
 by_cases hp : p
 ·rw [if_pos hp] at h1
  by_cases hq : q
  ·rw [if_pos hq] at h1
   injection h1 with h1
   exact .inl ⟨hp, hq, h1⟩
  ·rw [if_neg hq] at h1; cases h1
 ·rw [if_neg hp] at h1 h2
  by_cases hq : q
  ·rw [if_pos hq] at h1; cases h1
  ·rw [if_neg hq] at h2
   exact .inr ⟨hp, hq, h2⟩
theorem member_told {x y : EntV} (hx : entE x = 0) (hy : entE y = 0) (h1 : headM x = headM y) (h2 : recsM x = recsM y) : ({ x with data := [] } : EntV) = { y with data := [] } ∧ x.data.length = y.data.length := by
 have gx := entE_good hx
 have gy := entE_good hy
 have hn := congrArg HeadV.name h1
 have hp := congrArg HeadV.pre h1
 have hl := congrArg HeadV.link h1
 have hm : x.md.mode = y.md.mode := congrArg HeadV.mode h1
 have hu := congrArg HeadV.uid h1
 have hg := congrArg HeadV.gid h1
 have hs := congrArg HeadV.size h1
 have ht := congrArg HeadV.time h1
 have hk := typM_inj gx.kind gy.kind (congrArg HeadV.typ h1)
 have hus := congrArg HeadV.user h1
 have hgr := congrArg HeadV.group h1
 unfold headM at hn hp hl hu hg hs ht hus hgr
 simp only at hn hp hl hu hg hs ht hus hgr
 have r1 := congrArg (look kGid) h2
 have r2 := congrArg (look kGname) h2
 have r3 := congrArg (look kLink) h2
 have r4 := congrArg (look kMtime) h2
 have r5 := congrArg (look kPath) h2
 have r6 := congrArg (look kUid) h2
 have r7 := congrArg (look kUname) h2
 rw [look_gid, look_gid] at r1
 rw [look_gname, look_gname] at r2
 rw [look_link, look_link] at r3
 rw [look_mtime, look_mtime] at r4
 rw [look_path, look_path] at r5
 rw [look_uid, look_uid] at r6
 rw [look_uname, look_uname] at r7
 have e1 : x.md.gid = y.md.gid := by
  rcases either r1 hg with ⟨-, -, e⟩ | ⟨-, -, e⟩
  ·exact itoa_inj gx.gid.1 gy.gid.1 e
  ·exact e
 have e2 : x.md.group = y.md.group := by rcases either r2 hgr with ⟨-, -, e⟩ | ⟨-, -, e⟩ <;> exact e
 have e3 : x.target = y.target := by rcases either r3 hl with ⟨-, -, e⟩ | ⟨-, -, e⟩ <;> exact e
 have e4 : x.md.second = y.md.second ∧ x.md.nano = y.md.nano := by
  rcases either r4 ht with ⟨-, -, e⟩ | ⟨a, b, e⟩
  ·rw [time_val gx.time, time_val gy.time] at e
   have p1 := tparse_text _ _ gx.time
   rw [e, tparse_text _ _ gy.time] at p1
   injection p1 with p1 p2
   injection p2 with p2 _
   exact ⟨p1.symm, p2.symm⟩
  ·have a' : ¬ (x.md.nano ≠ 0 ∨ x.md.second < 0 ∨ 8589934592 ≤ x.md.second) := fun h => a (decide_eq_true h)
   have b' : ¬ (y.md.nano ≠ 0 ∨ y.md.second < 0 ∨ 8589934592 ≤ y.md.second) := fun h => b (decide_eq_true h)
   exact ⟨e, by omega⟩
 have e5 : x.path = y.path := by
  rcases either r5 hn with ⟨-, -, e⟩ | ⟨a, b, e⟩
  ·exact e
  ·have cx : cutV x.path = ((cutV x.path).1, (cutV x.path).2.1, 0) := by
    have : (cutV x.path).2.2 = 0 := by simpa using a
    rw [← this]
   have cy : cutV y.path = ((cutV y.path).1, (cutV y.path).2.1, 0) := by
    have : (cutV y.path).2.2 = 0 := by simpa using b
    rw [← this]
   have o1 := (cut_back cx).1
   have o2 := (cut_back cy).1
   rw [hp, e, o2] at o1
   injection o1 with o1 _
   exact o1.symm
 have e6 : x.md.uid = y.md.uid := by
  rcases either r6 hu with ⟨-, -, e⟩ | ⟨-, -, e⟩
  ·exact itoa_inj gx.uid.1 gy.uid.1 e
  ·exact e
 have e7 : x.md.user = y.md.user := by rcases either r7 hus with ⟨-, -, e⟩ | ⟨-, -, e⟩ <;> exact e
 refine ⟨?_, by omega⟩
 obtain ⟨xp, xk, xt, ⟨x0, x1, x2, x3, x4, x5, x6⟩, xd⟩ := x
 obtain ⟨yp, yk, yt, ⟨y0, y1, y2, y3, y4, y5, y6⟩, yd⟩ := y
 simp only at e1 e2 e3 e4 e5 e6 e7 hm hk
 obtain ⟨e4, e8⟩ := e4
 subst e1 e2 e3 e4 e5 e6 e7 e8 hm hk
 rfl
def rep (c d : UInt8) (l : List UInt8) : List UInt8 := l.map fun x => if x = c then d else x
def cleanL (l : List UInt8) (m : Nat) : List UInt8 := (rep 0 48 l).take m
end Go.Proofs.YtmejnabngfpbeaaGreatDoor
