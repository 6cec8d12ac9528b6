/- Plain mathematics; nothing of the program. -/
import Derived.Test.YtdcbmjihpjnbbaaDoorRows
import Derived.WalkKit
import Derived.WalkSpells
import Derived.WalkLawsBesides
import Derived.Lib.Hide
import Derived.OpenShut
set_option linter.unusedVariables false
namespace Go.Proofs.YtdcbmjihpjnbbaaDoor
open Go.RowKit

theorem ret_int {k : IntKind} {a b : Int} (h : a = b) : Ending.returned (.int k a) = .returned (.int k b) := by rw [h]

theorem hid_name {α : Type} (a : α) : ∃ b, Hid (a = b) := ⟨a, rfl⟩
theorem ret_bool {a b : Bool} (h : a = b) : Ending.returned (.bool a) = .returned (.bool b) := by rw [h]
theorem str_eq (a b : ByteArray) : (a.toList == b.toList) = decide (a = b) := by
  rw [ByteArray.toList_eq, ByteArray.toList_eq, Bool.eq_iff_iff, beq_iff_eq, decide_eq_true_eq]
  exact ⟨fun h => by apply ByteArray.ext; exact Array.toList_inj.1 h, fun h => by rw [h]⟩
theorem flip_same {P : Program} {f : FuncId} {args : Array Value} {w : World} {v : Value} (h : Calls P f args w fun e w' => e = .returned v ∧ w = w') : Calls P f args w fun e w' => e = .returned v ∧ w' = w := h.mono fun _ _ ⟨a, b⟩ => ⟨a, b.symm⟩
def strLen : Value → Nat | .string b => b.size | _ => 0
theorem str_app (a b : List UInt8) : (⟨a.toArray⟩ : ByteArray) ++ ⟨b.toArray⟩ = ⟨(a ++ b).toArray⟩ := by
  apply ByteArray.ext
  simp [ByteArray.data_append]
theorem size_mk (l : List UInt8) : (⟨l.toArray⟩ : ByteArray).size = l.length := rfl
theorem ret_str {s s' : ByteArray} (h : s = s') : Ending.returned (.string s) = .returned (.string s') := by rw [h]
/-! ### bytes as cells -/
def bInts (l : List UInt8) : List Int := l.map fun (c : UInt8) => (c.toNat : Int)
def bCells (l : List UInt8) : List Value := (bInts l).map (Value.int .u8)
@[simp] theorem bInts_length (l : List UInt8) : (bInts l).length = l.length := by simp [bInts]
@[simp] theorem bCells_length (l : List UInt8) : (bCells l).length = l.length := by simp [bCells]
theorem bCells_append (a b : List UInt8) : bCells (a ++ b) = bCells a ++ bCells b := by simp [bCells, bInts]
theorem made_zeros (n : Nat) : (madeCells #[Value.int .u8 0] n).toList = bCells (List.replicate n 0) := by
  apply List.ext_getElem
  · simp [madeCells]
  · intro i h1 h2
    simp [madeCells, bCells, bInts, Nat.mod_one]
theorem bCells_get (l : List UInt8) (j : Nat) (h : j < l.length) : (bCells l)[j]? = some (.int .u8 ((bInts l).getD j 0)) := by
  simp [bCells, bInts, h]
/-! ### octal -/
def wOk (x : Int) : Bool := decide (2 ≤ x ∧ x ≤ 12)
/-- the greatest number of a field of x bytes -/
def most (x : Int) : Int := 8 ^ (x.toNat - 1) - 1
theorem pow8_le (k : Nat) (h : k ≤ 11) : (8 : Int) ^ k ≤ 8589934592 := by
  have : (8 : Nat) ^ k ≤ 8 ^ 11 := Nat.pow_le_pow_right (by omega) h
  have e : ((8 : Nat) ^ k : Nat) = ((8 : Int) ^ k) := by simp
  omega
theorem pow8_pos (k : Nat) : (1 : Int) ≤ 8 ^ k := by
  have : 0 < (8 : Nat) ^ k := Nat.pow_pos (by omega)
  have e : ((8 : Nat) ^ k : Nat) = ((8 : Int) ^ k) := by simp
  omega
/-! ### strings' bytes -/
theorem take_snoc (s : ByteArray) (k : Nat) (h : k < s.size) : s.data.toList.take (k + 1) = s.data.toList.take k ++ [s[k]] := by
  rw [List.take_succ_eq_append_getElem (by simpa using h)]; rfl
theorem u8_lt (c : UInt8) : c.toNat < 256 := c.toNat_lt
/-! ### octal, again -/
def digL (l : List UInt8) : Bool := l.all fun c => decide (48 ≤ c.toNat ∧ c.toNat ≤ 55)
def octVal (l : List UInt8) : Nat := l.foldl (fun a c => a * 8 + (c.toNat - 48)) 0
/-- what a field reads as: the number, the error -/
def octR (l : List UInt8) : Int × Int :=
  if 2 ≤ l.length ∧ l.length ≤ 12 then
    if digL (l.take (l.length - 1)) = true ∧ l.getD (l.length - 1) 1 = 0 then (octVal (l.take (l.length - 1)), 0) else (0, 3)
  else (0, 4)
/-- the last j octal digits of n -/
def D (n : Nat) : Nat → List UInt8
  | 0 => []
  | j + 1 => UInt8.ofNat (48 + n / 8 ^ j % 8) :: D n j
@[simp] theorem D_length (n j : Nat) : (D n j).length = j := by induction j with
  | zero => rfl
  | succ j ih => simp [D, ih]
/-- what the field holds behind k rounds: the digits fill it from its end -/
def buf (m y k : Nat) : List UInt8 := List.replicate (y - 1 - k) 0 ++ D m k ++ [0]
/-- the number that 'picked' gives -/
def pick (n m : Int) : Int := (if n < 0 then -(n + 1) else n) % m
theorem pick_bd (n m : Int) (h : 1 ≤ m) : 0 ≤ pick n m ∧ pick n m < m := by
  unfold pick
  exact ⟨Int.emod_nonneg _ (by omega), Int.emod_lt_of_pos _ (by omega)⟩
/-- what is written for a number: the text, the error -/
def octW (n x : Int) : ByteArray × Int := if 2 ≤ x ∧ x ≤ 12 ∧ 0 ≤ n ∧ n ≤ most x then (⟨(D n.toNat (x.toNat - 1) ++ [0]).toArray⟩, 0) else (⟨#[]⟩, 4)
def mostV (x : Int) : Int × Int := if 2 ≤ x ∧ x ≤ 12 then (most x, 0) else (0, 4)
end Go.Proofs.YtdcbmjihpjnbbaaDoor
