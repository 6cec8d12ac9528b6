/- Plain mathematics of the symbolic form of modes; nothing of the program. -/
import Derived.Test.YthdkfpknblinfaaDoorFldM
set_option linter.unusedVariables false
namespace Go.Proofs.YthdkfpknblinfaaDoor
open Go.RowKit
/-- three signs: 'a' the three bits, 's' the special one, 't' whether they are those of the others -/
def md3 (a s : Nat) (t : Bool) : List UInt8 :=
  [if a / 4 % 2 = 1 then 114 else 45, if a / 2 % 2 = 1 then 119 else 45,
    if s = 1 then (if t = true then (if a % 2 = 1 then 116 else 84) else (if a % 2 = 1 then 115 else 83)) else (if a % 2 = 1 then 120 else 45)]
theorem md3_length (a s : Nat) (t : Bool) : (md3 a s t).length = 3 := rfl
/-- the signs of a mode -/
def mdL (n : Nat) : List UInt8 := md3 (n / 64 % 8) (n / 2048 % 2) false ++ md3 (n / 8 % 8) (n / 1024 % 2) false ++ md3 (n % 8) (n / 512 % 2) true
theorem mdL_length (n : Nat) : (mdL n).length = 9 := rfl
def mdW (n : Int) : ByteArray × Int := if 0 ≤ n ∧ n ≤ 4095 then (bs (mdL n.toNat), 0) else (⟨#[]⟩, 4)
theorem mdW_ok {n : Int} (h : 0 ≤ n ∧ n ≤ 4095) : mdW n = (bs (mdL n.toNat), 0) := if_pos h
theorem mdW_no {n : Int} (h : ¬ (0 ≤ n ∧ n ≤ 4095)) : mdW n = (⟨#[]⟩, 4) := if_neg h
/-- what three signs are: bits, and eight times the special one -/
def un3 (l : List UInt8) (t : Bool) : Option Nat := (List.range 16).find? fun x => md3 (x % 8) (x / 8) t == l
theorem un3_md3 : ∀ (a : Fin 8) (s : Fin 2) (t : Bool), un3 (md3 a.val s.val t) t = some (a.val + 8 * s.val) := by decide +kernel
theorem un3_of {l : List UInt8} {t : Bool} {x : Nat} (h : un3 l t = some x) : x < 16 ∧ md3 (x % 8) (x / 8) t = l := by
  unfold un3 at h
  refine ⟨List.mem_range.1 (List.mem_of_find?_eq_some h), ?_⟩
  simpa using List.find?_some h
theorem un3_none {l : List UInt8} {t : Bool} (h : un3 l t = none) (x : Nat) (hx : x < 16) : md3 (x % 8) (x / 8) t ≠ l := by
  unfold un3 at h
  rw [List.find?_eq_none] at h
  simpa using h x (List.mem_range.2 hx)
theorem un3_only {l : List UInt8} {t : Bool} {x : Nat} (h : un3 l t = some x) (y : Nat) (hy : y < 16) : md3 (y % 8) (y / 8) t = l ↔ y = x := by
  obtain ⟨hx, e⟩ := un3_of h
  constructor
  · intro e2
    have h1 := un3_md3 ⟨y % 8, Nat.mod_lt _ (by omega)⟩ ⟨y / 8, by omega⟩ t
    simp only at h1
    rw [e2, h] at h1
    injection h1 with h1
    omega
  · rintro rfl; exact e
def mdR (l : List UInt8) : Int × Int :=
  if l.length = 9 then
    match un3 (l.take 3) false, un3 ((l.drop 3).take 3) false, un3 (l.drop 6) true with
    | some a, some b, some c => (((a % 8 * 64 + a / 8 * 2048 + (b % 8 * 8 + b / 8 * 1024) + (c % 8 + c / 8 * 512) : Nat) : Int), 0)
    | _, _, _ => (0, 3)
  else (0, 1)
theorem mdR_size {l : List UInt8} (h : l.length ≠ 9) : mdR l = (0, 1) := if_neg h
theorem mdR_ok {l : List UInt8} {a b c : Nat} (h : l.length = 9) (ha : un3 (l.take 3) false = some a) (hb : un3 ((l.drop 3).take 3) false = some b) (hc : un3 (l.drop 6) true = some c) :
    mdR l = (((a % 8 * 64 + a / 8 * 2048 + (b % 8 * 8 + b / 8 * 1024) + (c % 8 + c / 8 * 512) : Nat) : Int), 0) := by
  unfold mdR; rw [if_pos h, ha, hb, hc]
theorem mdR_form {l : List UInt8} (h : l.length = 9) (hn : un3 (l.take 3) false = none ∨ un3 ((l.drop 3).take 3) false = none ∨ un3 (l.drop 6) true = none) : mdR l = (0, 3) := by
  unfold mdR; rw [if_pos h]
  rcases hn with e | e | e
  · rw [e]
  · rw [e]; cases un3 (l.take 3) false <;> rfl
  · rw [e]; cases un3 (l.take 3) false <;> cases un3 ((l.drop 3).take 3) false <;> rfl
/-- the mode is read as it was told -/
theorem mdR_mdL (n : Nat) (h : n < 4096) : mdR (mdL n) = ((n : Int), 0) := by
  have ha := un3_md3 ⟨n / 64 % 8, Nat.mod_lt _ (by omega)⟩ ⟨n / 2048 % 2, Nat.mod_lt _ (by omega)⟩ false
  have hb := un3_md3 ⟨n / 8 % 8, Nat.mod_lt _ (by omega)⟩ ⟨n / 1024 % 2, Nat.mod_lt _ (by omega)⟩ false
  have hc := un3_md3 ⟨n % 8, Nat.mod_lt _ (by omega)⟩ ⟨n / 512 % 2, Nat.mod_lt _ (by omega)⟩ true
  rw [mdR_ok (mdL_length n) (show un3 ((mdL n).take 3) false = _ from ha) (show un3 (((mdL n).drop 3).take 3) false = _ from hb) (show un3 ((mdL n).drop 6) true = _ from hc)]
  congr 2
  simp only
  omega
theorem md_val : ∀ (a b c : Fin 16), let n := a.val % 8 * 64 + a.val / 8 * 2048 + (b.val % 8 * 8 + b.val / 8 * 1024) + (c.val % 8 + c.val / 8 * 512);
    n < 4096 ∧ n / 64 % 8 = a.val % 8 ∧ n / 2048 % 2 = a.val / 8 ∧ n / 8 % 8 = b.val % 8 ∧ n / 1024 % 2 = b.val / 8 ∧ n % 8 = c.val % 8 ∧ n / 512 % 2 = c.val / 8 := by decide +kernel
/-- what is read is told so -/
theorem mdL_mdR {l : List UInt8} {n : Int} (h : mdR l = (n, 0)) : ∃ m : Nat, n = m ∧ m < 4096 ∧ mdL m = l := by
  by_cases hl : l.length = 9
  · cases ha : un3 (l.take 3) false with
    | none => rw [mdR_form hl (.inl ha)] at h; cases h
    | some a =>
      cases hb : un3 ((l.drop 3).take 3) false with
      | none => rw [mdR_form hl (.inr (.inl hb))] at h; cases h
      | some b =>
        cases hc : un3 (l.drop 6) true with
        | none => rw [mdR_form hl (.inr (.inr hc))] at h; cases h
        | some c =>
          rw [mdR_ok hl ha hb hc] at h
          obtain ⟨a1, a2⟩ := un3_of ha
          obtain ⟨b1, b2⟩ := un3_of hb
          obtain ⟨c1, c2⟩ := un3_of hc
          injection h with h1 _
          obtain ⟨v0, v1, v2, v3, v4, v5, v6⟩ := md_val ⟨a, a1⟩ ⟨b, b1⟩ ⟨c, c1⟩
          simp only at v0 v1 v2 v3 v4 v5 v6
          refine ⟨_, h1.symm, v0, ?_⟩
          have e : l = l.take 3 ++ (l.drop 3).take 3 ++ l.drop 6 := by
            rw [List.append_assoc, show l.drop 6 = (l.drop 3).drop 3 by rw [List.drop_drop], List.take_append_drop, List.take_append_drop]
          unfold mdL
          rw [v1, v2, v3, v4, v5, v6, a2, b2, c2]
          exact e.symm
  · rw [mdR_size hl] at h; cases h
end Go.Proofs.YthdkfpknblinfaaDoor
