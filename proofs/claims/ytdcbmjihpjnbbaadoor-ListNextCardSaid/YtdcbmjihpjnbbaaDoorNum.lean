/- Plain mathematics; nothing of the program. -/
import Derived.Test.YtdcbmjihpjnbbaaDoorRows
import Derived.WalkKit
import Derived.WalkSpells
import Derived.WalkLawsBesides
import Derived.Lib.Hide
import Derived.OpenShut
set_option linter.unusedVariables false
namespace Go.Proofs.YtdcbmjihpjnbbaaDoor
open Go.RowKit

theorem ret_int {k : IntKind} {a b : Int} (h : a = b) : Ending.returned (.int k a) = .returned (.int k b) := by rw [h]

theorem hid_name {α : Type} (a : α) : ∃ b, Hid (a = b) := ⟨a, rfl⟩
theorem ret_bool {a b : Bool} (h : a = b) : Ending.returned (.bool a) = .returned (.bool b) := by rw [h]
theorem str_eq (a b : ByteArray) : (a.toList == b.toList) = decide (a = b) := by
  rw [ByteArray.toList_eq, ByteArray.toList_eq, Bool.eq_iff_iff, beq_iff_eq, decide_eq_true_eq]
  exact ⟨fun h => by apply ByteArray.ext; exact Array.toList_inj.1 h, fun h => by rw [h]⟩
theorem ret_2int {k k' : IntKind} {a b a' b' : Int} (h : a = a') (h' : b = b') : Ending.returned (.tuple #[.int k a, .int k' b]) = .returned (.tuple #[.int k a', .int k' b']) := by rw [h, h']
theorem flip_same {P : Program} {f : FuncId} {args : Array Value} {w : World} {v : Value} (h : Calls P f args w fun e w' => e = .returned v ∧ w = w') : Calls P f args w fun e w' => e = .returned v ∧ w' = w := h.mono fun _ _ ⟨a, b⟩ => ⟨a, b.symm⟩
def strLen : Value → Nat | .string b => b.size | _ => 0
theorem str_app (a b : List UInt8) : (⟨a.toArray⟩ : ByteArray) ++ ⟨b.toArray⟩ = ⟨(a ++ b).toArray⟩ := by
  apply ByteArray.ext
  simp [ByteArray.data_append]
theorem size_mk (l : List UInt8) : (⟨l.toArray⟩ : ByteArray).size = l.length := rfl
theorem ret_strint {b : List UInt8} {k : IntKind} {n : Int} (s : ByteArray) (h : s = ⟨b.toArray⟩) : Ending.returned (.tuple #[.string s, .int k n]) = .returned (.tuple #[.string ⟨b.toArray⟩, .int k n]) := by rw [h]
theorem ret_str {s s' : ByteArray} (h : s = s') : Ending.returned (.string s) = .returned (.string s') := by rw [h]
theorem ret_strint2 {s s' : ByteArray} {k : IntKind} {n n' : Int} (h : s = s') (h' : n = n') : Ending.returned (.tuple #[.string s, .int k n]) = .returned (.tuple #[.string s', .int k n']) := by rw [h, h']
/-! ### bytes as cells -/
def bInts (l : List UInt8) : List Int := l.map fun (c : UInt8) => (c.toNat : Int)
def bCells (l : List UInt8) : List Value := (bInts l).map (Value.int .u8)
@[simp] theorem bInts_length (l : List UInt8) : (bInts l).length = l.length := by simp [bInts]
@[simp] theorem bCells_length (l : List UInt8) : (bCells l).length = l.length := by simp [bCells]
theorem bCells_set (l : List UInt8) (i : Nat) (c : UInt8) : (bCells l).set i (.int .u8 (c.toNat : Int)) = bCells (l.set i c) := by
  simp [bCells, bInts, List.map_set]
theorem bCells_append (a b : List UInt8) : bCells (a ++ b) = bCells a ++ bCells b := by simp [bCells, bInts]
theorem made_zeros (n : Nat) : (madeCells #[Value.int .u8 0] n).toList = bCells (List.replicate n 0) := by
  apply List.ext_getElem
  · simp [madeCells]
  · intro i h1 h2
    simp [madeCells, bCells, bInts, Nat.mod_one]
theorem strOfNums_bytes (l : List UInt8) : strOfNums (bInts l) = ⟨l.toArray⟩ := by
  simp only [strOfNums, bInts, List.map_map]
  congr 1
  have : ((fun n : Int => UInt8.ofNat n.toNat) ∘ fun c : UInt8 => (c.toNat : Int)) = id := by funext c; simp
  rw [this, List.map_id]
theorem bCells_get (l : List UInt8) (j : Nat) (h : j < l.length) : (bCells l)[j]? = some (.int .u8 ((bInts l).getD j 0)) := by
  simp [bCells, bInts, h]
/-- a row of bytes of the call's own, made a string -/
theorem run_str_own {P : Program} {w : World} {base e : Nat} {g n cap : Nat} {l : List UInt8} (h : w.ownsRow base e 1 (.slice (some ⟨g, 0, none⟩) n cap) n (bCells l))
    (src e' dst : TypeId) (hs : P.underlying src = some (.slice e')) (he : P.underlying e' = some (.int .u8)) (hd : P.underlying dst = some .string) :
    (convert src dst (.slice (some ⟨g, 0, none⟩) n cap)).run P w = .ok (.string ⟨l.toArray⟩) w := by
  have hl : l.length = n := by have := h.1; simpa using this
  rw [← strOfNums_bytes]
  refine run_convert_bytes_arg w src e' hs he g 0 n cap (bInts l) (by simpa using hl) (fun i hi => ?_) dst hd
  rw [Nat.zero_add, h.cellAt i (by omega), bCells_get _ _ (by omega)]
/-! ### octal -/
def wOk (x : Int) : Bool := decide (2 ≤ x ∧ x ≤ 12)
theorem wOk_mk {x : Int} (h : 2 ≤ x ∧ x ≤ 12) : wOk x = true := by simp [wOk, h]
theorem wOk_no {x : Int} (h : ¬ (2 ≤ x ∧ x ≤ 12)) : wOk x = false := by simp only [wOk, decide_eq_false_iff_not]; exact h
theorem split12 {x : Int} (h : 2 ≤ x ∧ x ≤ 12) : x = 2 ∨ x = 3 ∨ x = 4 ∨ x = 5 ∨ x = 6 ∨ x = 7 ∨ x = 8 ∨ x = 9 ∨ x = 10 ∨ x = 11 ∨ x = 12 := by omega
/-- the greatest number of a field of x bytes -/
def most (x : Int) : Int := 8 ^ (x.toNat - 1) - 1
theorem pow8_le (k : Nat) (h : k ≤ 11) : (8 : Int) ^ k ≤ 8589934592 := by
  have : (8 : Nat) ^ k ≤ 8 ^ 11 := Nat.pow_le_pow_right (by omega) h
  have e : ((8 : Nat) ^ k : Nat) = ((8 : Int) ^ k) := by simp
  omega
theorem most_le {x : Int} (h : x ≤ 12) : most x ≤ 8589934592 := by
  have := pow8_le (x.toNat - 1) (by omega)
  unfold most; omega
theorem pow8_pos (k : Nat) : (1 : Int) ≤ 8 ^ k := by
  have : 0 < (8 : Nat) ^ k := Nat.pow_pos (by omega)
  have e : ((8 : Nat) ^ k : Nat) = ((8 : Int) ^ k) := by simp
  omega
/-! ### strings' bytes -/
theorem take_snoc (s : ByteArray) (k : Nat) (h : k < s.size) : s.data.toList.take (k + 1) = s.data.toList.take k ++ [s[k]] := by
  rw [List.take_succ_eq_append_getElem (by simpa using h)]; rfl
theorem u8_lt (c : UInt8) : c.toNat < 256 := c.toNat_lt
/-! ### octal, again -/
def digL (l : List UInt8) : Bool := l.all fun c => decide (48 ≤ c.toNat ∧ c.toNat ≤ 55)
def octVal (l : List UInt8) : Nat := l.foldl (fun a c => a * 8 + (c.toNat - 48)) 0
theorem octVal_snoc (l : List UInt8) (c : UInt8) : octVal (l ++ [c]) = octVal l * 8 + (c.toNat - 48) := by simp [octVal]
theorem digL_snoc (l : List UInt8) (c : UInt8) : digL (l ++ [c]) = (digL l && decide (48 ≤ c.toNat ∧ c.toNat ≤ 55)) := by simp [digL, List.all_append]
theorem snoc_ind {p : List UInt8 → Prop} (h0 : p []) (h1 : ∀ l c, p l → p (l ++ [c])) (l : List UInt8) : p l := by
  have : ∀ r : List UInt8, p r.reverse := by
    intro r
    induction r with
    | nil => exact h0
    | cons c r ih => rw [List.reverse_cons]; exact h1 _ _ ih
  simpa using this l.reverse
theorem octVal_lt (l : List UInt8) (h : digL l = true) : octVal l < 8 ^ l.length := by
  revert h
  refine snoc_ind (p := fun l => digL l = true → octVal l < 8 ^ l.length) (fun _ => by simp [octVal]) (fun l c ih h => ?_) l
  rw [digL_snoc, Bool.and_eq_true, decide_eq_true_eq] at h
  have := ih h.1
  rw [octVal_snoc, List.length_append, List.length_singleton, Nat.pow_succ]
  omega
theorem ref_step (l : List UInt8) (c : UInt8) (n k : Nat) (hn : k + 2 ≤ n) (h : 48 ≤ c.toNat) :
    ((octVal l * 8 ^ (n - 1 - k) : Nat) : Int) + ((c.toNat : Int) - 48) * 8 ^ (n - 2 - k) = ((octVal (l ++ [c]) * 8 ^ (n - 1 - (k + 1)) : Nat) : Int) := by
  have e1 : n - 1 - k = (n - 2 - k) + 1 := by omega
  have e2 : n - 1 - (k + 1) = n - 2 - k := by omega
  have e3 : (c.toNat : Int) - 48 = ((c.toNat - 48 : Nat) : Int) := by omega
  have e4 : (8 : Int) ^ (n - 2 - k) = ((8 ^ (n - 2 - k) : Nat) : Int) := by simp
  rw [e1, e2, e3, e4, octVal_snoc, Nat.pow_succ, ← Int.natCast_mul, ← Int.natCast_add]
  congr 1
  rw [Nat.add_mul, Nat.mul_comm (8 ^ (n - 2 - k)) 8, Nat.mul_assoc]
/-- what a field reads as: the number, the error -/
def octR (l : List UInt8) : Int × Int :=
  if 2 ≤ l.length ∧ l.length ≤ 12 then
    if digL (l.take (l.length - 1)) = true ∧ l.getD (l.length - 1) 1 = 0 then (octVal (l.take (l.length - 1)), 0) else (0, 3)
  else (0, 4)
/-- the last j octal digits of n -/
def D (n : Nat) : Nat → List UInt8
  | 0 => []
  | j + 1 => UInt8.ofNat (48 + n / 8 ^ j % 8) :: D n j
@[simp] theorem D_length (n j : Nat) : (D n j).length = j := by induction j with
  | zero => rfl
  | succ j ih => simp [D, ih]
theorem digit_str (r : Nat) (h : r < 8) : (⟨#[48, 49, 50, 51, 52, 53, 54, 55]⟩ : ByteArray).extract r (r + 1) = ⟨[UInt8.ofNat (48 + r)].toArray⟩ := by
  match r, h with
  | 0, _ => rfl
  | 1, _ => rfl
  | 2, _ => rfl
  | 3, _ => rfl
  | 4, _ => rfl
  | 5, _ => rfl
  | 6, _ => rfl
  | 7, _ => rfl
theorem D_succ (m k q : Nat) (h : m / 8 ^ k = q) : D m (k + 1) = UInt8.ofNat (48 + q % 8) :: D m k := by rw [D, h]
theorem div_succ (m k q : Nat) (h : m / 8 ^ k = q) : m / 8 ^ (k + 1) = q / 8 := by rw [Nat.pow_succ, ← Nat.div_div_eq_div_mul, h]
/-- what the field holds behind k rounds: the digits fill it from its end -/
def buf (m y k : Nat) : List UInt8 := List.replicate (y - 1 - k) 0 ++ D m k ++ [0]
theorem buf_length (m y k : Nat) (h : k + 1 ≤ y) : (buf m y k).length = y := by simp [buf]; omega
theorem buf_start (m y : Nat) (h : 1 ≤ y) : (madeCells #[Value.int .u8 0] y).toList = bCells (buf m y 0) := by
  obtain ⟨z, rfl⟩ : ∃ z, y = z + 1 := ⟨y - 1, by omega⟩
  rw [made_zeros]
  simp [buf, D, List.replicate_succ']
theorem buf_set (m y k q j : Nat) (hq : m / 8 ^ k = q) (hj : j + k + 1 = y) (h1 : 1 ≤ j) : (bCells (buf m y k)).set (j - 1) (.int .u8 (48 + (q : Int) % 8)) = bCells (buf m y (k + 1)) := by
  obtain ⟨i, rfl⟩ : ∃ i, j = i + 1 := ⟨j - 1, by omega⟩
  have e1 : y - 1 - k = i + 1 := by omega
  have e2 : y - 1 - (k + 1) = i := by omega
  have e3 : (48 + (q : Int) % 8) = ((UInt8.ofNat (48 + q % 8)).toNat : Int) := by rw [UInt8.toNat_ofNat']; omega
  rw [e3, bCells_set]
  simp only [buf, e1, e2, D_succ _ _ _ hq, List.replicate_succ', List.append_assoc, Nat.add_sub_cancel]
  rw [List.set_append_right _ _ (by simp)]
  simp
theorem buf_end (m y : Nat) : buf m y (y - 1) = D m (y - 1) ++ [0] := by simp [buf]
/-- the number that 'picked' gives -/
def pick (n m : Int) : Int := (if n < 0 then -(n + 1) else n) % m
theorem pick_bd (n m : Int) (h : 1 ≤ m) : 0 ≤ pick n m ∧ pick n m < m := by
  unfold pick
  exact ⟨Int.emod_nonneg _ (by omega), Int.emod_lt_of_pos _ (by omega)⟩
/-- what is written for a number: the text, the error -/
def octW (n x : Int) : ByteArray × Int := if 2 ≤ x ∧ x ≤ 12 ∧ 0 ≤ n ∧ n ≤ most x then (⟨(D n.toNat (x.toNat - 1) ++ [0]).toArray⟩, 0) else (⟨#[]⟩, 4)
def mostV (x : Int) : Int × Int := if 2 ≤ x ∧ x ≤ 12 then (most x, 0) else (0, 4)
theorem octW_yes {n x : Int} (h : 2 ≤ x ∧ x ≤ 12) (h' : 0 ≤ n ∧ n ≤ most x) : octW n x = (⟨(D n.toNat (x.toNat - 1) ++ [0]).toArray⟩, 0) := if_pos ⟨h.1, h.2, h'.1, h'.2⟩
theorem octW_no {n x : Int} (h : ¬ (2 ≤ x ∧ x ≤ 12 ∧ 0 ≤ n ∧ n ≤ most x)) : octW n x = (⟨#[]⟩, 4) := if_neg h
theorem getD_byte (s : ByteArray) (k : Nat) (h : k < s.size) (d : UInt8) : s.data.toList.getD k d = s[k] := by
  have : k < s.data.toList.length := by simpa using h
  rw [List.getD_eq_getElem?_getD, List.getElem?_eq_getElem this]; rfl
theorem octR_out {l : List UInt8} (h : ¬ (2 ≤ l.length ∧ l.length ≤ 12)) : octR l = (0, 4) := if_neg h
theorem octR_yes {l : List UInt8} (h1 : 2 ≤ l.length ∧ l.length ≤ 12) (h2 : digL (l.take (l.length - 1)) = true) (h3 : l.getD (l.length - 1) 1 = 0) : octR l = ((octVal (l.take (l.length - 1)) : Int), 0) := by
  unfold octR; rw [if_pos h1, if_pos ⟨h2, h3⟩]
theorem octR_no {l : List UInt8} (h1 : 2 ≤ l.length ∧ l.length ≤ 12) (h2 : ¬ (digL (l.take (l.length - 1)) = true ∧ l.getD (l.length - 1) 1 = 0)) : octR l = (0, 3) := by
  unfold octR; rw [if_pos h1, if_neg h2]
theorem digL_take_false (l : List UInt8) (k n : Nat) (h : k ≤ n) (hd : digL (l.take k) = false) : digL (l.take n) = false := by
  have e : l.take n = l.take k ++ (l.take n).drop k := by
    conv => lhs; rw [← List.take_append_drop k (l.take n)]
    rw [List.take_take, Nat.min_eq_left h]
  rw [e]; simp only [digL, List.all_append] at *
  rw [hd]; rfl
theorem octVal_cons (c : UInt8) (l : List UInt8) : octVal (c :: l) = (c.toNat - 48) * 8 ^ l.length + octVal l := by
  refine snoc_ind (p := fun l => octVal (c :: l) = (c.toNat - 48) * 8 ^ l.length + octVal l) (by simp [octVal]) (fun l d ih => ?_) l
  rw [← List.cons_append, octVal_snoc, ih, octVal_snoc, List.length_append, List.length_singleton, Nat.pow_succ, Nat.add_mul, Nat.mul_assoc]; omega
theorem digit_toNat (r : Nat) (h : r < 8) : (UInt8.ofNat (48 + r)).toNat = 48 + r := by rw [UInt8.toNat_ofNat']; omega
theorem octVal_D (m j : Nat) : octVal (D m j) = m % 8 ^ j := by
  induction j with
  | zero => simp [D, octVal, Nat.mod_one]
  | succ j ih =>
    rw [D, octVal_cons, ih, D_length, digit_toNat _ (Nat.mod_lt _ (by omega)), Nat.pow_succ, Nat.mod_mul, Nat.add_comm, Nat.mul_comm, Nat.add_sub_cancel_left]
theorem digL_D (m j : Nat) : digL (D m j) = true := by
  induction j with
  | zero => rfl
  | succ j ih =>
    have := Nat.mod_lt (m / 8 ^ j) (show 0 < 8 by omega)
    simp only [digL, D, List.all_cons] at *
    rw [ih, digit_toNat _ this]; simp; omega
theorem octR_D (m j : Nat) (h1 : 1 ≤ j) (h2 : j ≤ 11) (h : m < 8 ^ j) : octR (D m j ++ [0]) = ((m : Int), 0) := by
  have hl : (D m j ++ [0]).length = j + 1 := by simp
  have ht : (D m j ++ [0]).take ((D m j ++ [0]).length - 1) = D m j := by rw [hl]; simp
  rw [octR_yes (by omega) (by rw [ht]; exact digL_D m j) (by rw [hl]; simp), ht, octVal_D, Nat.mod_eq_of_lt h]
theorem most_nat (x : Int) (h : 2 ≤ x) (n : Int) (h0 : 0 ≤ n) (hn : n ≤ most x) : n.toNat < 8 ^ (x.toNat - 1) := by
  have e : (8 : Int) ^ (x.toNat - 1) = ((8 ^ (x.toNat - 1) : Nat) : Int) := by simp
  unfold most at hn; omega
theorem most_ge (x : Int) (h : 2 ≤ x) : 7 ≤ most x := by
  have : (8 : Nat) ^ 1 ≤ 8 ^ (x.toNat - 1) := Nat.pow_le_pow_right (by omega) (by omega)
  have e : (8 : Int) ^ (x.toNat - 1) = ((8 ^ (x.toNat - 1) : Nat) : Int) := by simp
  unfold most; omega
end Go.Proofs.YtdcbmjihpjnbbaaDoor
