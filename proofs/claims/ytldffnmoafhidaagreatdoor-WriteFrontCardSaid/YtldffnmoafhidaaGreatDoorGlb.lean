/- Texts of one kind, in one file: GlbA, GlbF, GlbB, GlbC, GlbD, GlbE. -/
import Derived.Test.YtldffnmoafhidaaGreatDoorMth
import Derived.Test.YtldffnmoafhidaaGreatDoorBas
import Derived.Deep.DeepCutAuto
import Derived.Test.YtldffnmoafhidaaGreatDoorPth
import Derived.Shelf.SlicesQ.Load
import Derived.Lib.SliceRun
import Derived.Deep.Upon
import Derived.Deep.MidRow
import Derived.Great.BuildSlice
import Derived.BigQuiet
import Derived.Test.YtldffnmoafhidaaGreatDoorSpl
import Derived.Deep.RegionWith
/- The reference's table. -/
set_option linter.unusedVariables false
set_option maxRecDepth 100000
namespace Go.Proofs.YtldffnmoafhidaaGreatDoor
open Go.RowKit
open Go.OpenShut
/-- a row of the table -/
def rowR (R : Nat → Nat → Bool) (i m : Nat) : List Bool := (List.range (m + 1)).map (R i)
/-- the next row under way: k of its truths behind the first -/
def nextR (R : Nat → Nat → Bool) (i m k : Nat) : List Bool := (List.range (k + 1)).map (R (i + 1)) ++ List.replicate (m - k) false
theorem rowR_get (R : Nat → Nat → Bool) (i m k : Nat) (hk : k < m + 1) : (rowR R i m)[k]? = some (R i k) := by
  unfold rowR; simp [hk]
def bA (l : List Bool) : Array Value := (l.map Value.bool).toArray
theorem bA_get (l : List Bool) (k : Nat) : (bA l)[k]? = l[k]?.map Value.bool := by unfold bA; simp
theorem bA_set (l : List Bool) (k : Nat) (b : Bool) : (bA l).setIfInBounds k (.bool b) = bA (l.set k b) := by
  unfold bA; rw [List.setIfInBounds_toArray, List.map_set]
theorem info_bool : (Tryz.prog.info? 4).map (fun i => (i.zero, i.size, i.bytes)) = some (some (.bool false), 1, 1) := by kernel_rfl
/-- make([]bool, n) -/
theorem made_bools (n : Nat) (hn : n ≤ 1000000) : ∀ W : World, (Instr.makeSlice 292 (.int .i64 (n : Int)) (.int .i64 (n : Int))).run Tryz.prog W = .ok (.slice (some ⟨W.heap.size, 0, none⟩) n n) (W.alloc (.cells (bA (List.replicate n false)) 4)) := fun W => by
  obtain ⟨i0, hi, hz0, hz1, hz2⟩ := info_parts info_bool
  have h := run_make (P := Tryz.prog) W 292 4 i0 (.bool false) Tryz.underlying292 hi hz0 .i64 .i64 (n : Int) (n : Int) (by omega) (by omega) (by rw [hz2]; omega) (by omega)
  have hM : madeCells (Value.bool false).cells (((n : Nat) : Int).toNat * i0.size) = bA (List.replicate n false) := by
    rw [hz1, Int.toNat_natCast, Nat.mul_one]
    apply Array.ext
    · simp [madeCells, bA]
    · intro j h1 h2
      simp [madeCells, bA, Value.cells, Nat.mod_one]
  rw [hM] at h
  simpa using h
end Go.Proofs.YtldffnmoafhidaaGreatDoor
/- Plain mathematics of patterns' signs, of sets, and of what is said of patterns. Nothing of the program. -/
set_option linter.unusedVariables false
set_option maxRecDepth 100000
namespace Go.Proofs.YtldffnmoafhidaaGreatDoor
open Go.RowKit
def bitsC (f : UInt8 → Bool) : List Value := (List.range 256).map fun c => .bool (f (UInt8.ofNat c))
theorem bitsC_len (f : UInt8 → Bool) : (bitsC f).length = 256 := by unfold bitsC; rw [List.length_map, List.length_range]
theorem bitsC_at (f : UInt8 → Bool) (j : Nat) (h : j < 256) : (bitsC f)[j]? = some (.bool (f (UInt8.ofNat j))) := by
  unfold bitsC
  rw [List.getElem?_map, List.getElem?_range (by omega)]
  rfl
theorem drop_at (s : ByteArray) (k : Nat) (h : k < s.size) : s.data.toList.drop k = s[k] :: s.data.toList.drop (k + 1) := List.drop_eq_getElem_cons (by simpa using h)
theorem tokL_nil : tokL [] = some [] := by rw [tokL]
theorem tokL_other (c : UInt8) (r : List UInt8) (h : c ≠ 91) : tokL (c :: r) = (tokL r).map fun ts => (if c = 42 then (true, span 42 42) else if c = 63 then (false, fun _ => true) else (false, span c c)) :: ts := by
  rw [tokL, if_neg h]
theorem tokL_none (r : List UInt8) (h : setP r = none) : tokL (91 :: r) = none := by
  rw [tokL, if_pos rfl]
  split
  · rfl
  · rename_i f r2 e
    rw [h] at e; cases e
theorem tokL_set (r r2 : List UInt8) (f : UInt8 → Bool) (h : setP r = some (f, r2)) : tokL (91 :: r) = (tokL r2).map fun ts => (false, f) :: ts := by
  rw [tokL, if_pos rfl]
  split
  · rename_i e
    rw [h] at e; cases e
  · rename_i f' r2' e
    rw [h] at e
    injection e with e; injection e with e1 e2
    subst e1 e2; rfl
theorem setG_nil (first : Bool) (acc : UInt8 → Bool) : setG first acc [] = none := by rw [setG]
theorem setG_end (acc : UInt8 → Bool) (l : List UInt8) : setG false acc (93 :: l) = some (acc, l) := by
  match l with
  | [] => rw [setG, if_pos ⟨rfl, rfl⟩]
  | [d] => rw [setG, if_pos ⟨rfl, rfl⟩]
  | d :: h :: r => rw [setG, if_pos ⟨rfl, rfl⟩]
theorem setG_range {first : Bool} (acc : UInt8 → Bool) {c h : UInt8} (r : List UInt8) (hn : ¬(first = false ∧ c = 93)) (hh : h ≠ 93) : setG first acc (c :: 45 :: h :: r) = setG false (fun x => acc x || span c h x) r := by
  rw [setG, if_neg hn, if_pos ⟨rfl, hh⟩]
theorem setG_one {first : Bool} (acc : UInt8 → Bool) {c : UInt8} (l : List UInt8) (hn : ¬(first = false ∧ c = 93)) (hl : ∀ h r, l = 45 :: h :: r → h = 93) : setG first acc (c :: l) = setG false (fun x => acc x || span c c x) l := by
  match l with
  | [] =>
    rw [setG_nil]
    conv => lhs; rw [setG, if_neg hn]
  | [d] =>
    conv => lhs; rw [setG, if_neg hn]
  | d :: h :: r => rw [setG, if_neg hn, if_neg (by rintro ⟨rfl, h2⟩; exact h2 (hl h r rfl))]
/-- does a set begin as the others? -/
def notS (l : List UInt8) : Bool := decide (l.head? = some 33)
theorem setP_eq (l : List UInt8) : setP l = (setG true (fun _ => false) (if notS l then l.drop 1 else l)).map fun q => (fun x => notS l != q.1 x, q.2) := by
  unfold setP notS
  cases l with
  | nil => rw [if_neg (by decide), setG_nil]; rfl
  | cons c r =>
    simp only [List.head?_cons, Option.some.injEq, decide_eq_true_eq, List.drop_one, List.tail_cons]
    by_cases h : c = 33
    · rw [if_pos h, if_pos h]; congr 1; funext q; simp [h]
    · rw [if_neg h, if_neg h]
      cases setG true (fun _ => false) (c :: r) with
      | none => rfl
      | some q => simp [h]
theorem u8_num (c d : UInt8) (h : c = d) : ((c.toNat : Int) == (d.toNat : Int)) = true := by rw [byte_eq]; simpa using h
theorem u8_not (c d : UInt8) (h : c ≠ d) : ((c.toNat : Int) == (d.toNat : Int)) = false := by rw [byte_eq]; simpa using h
theorem partsE_cons (s : List UInt8) (l : List (List UInt8)) : partsE (s :: l) = if s = [] then 9 else if (tokL s).isNone then 3 else partsE l := rfl
theorem getD_drop (ls : List (List UInt8)) (k : Nat) (hk : k < ls.length) : ls.drop k = ls.getD k [] :: ls.drop (k + 1) := by
  rw [List.drop_eq_getElem_cons hk, List.getD_eq_getElem?_getD, List.getElem?_eq_getElem hk]; rfl
theorem globE_size {p : List UInt8} (h : p = [] ∨ 400 < p.length) : globE p = 1 := if_pos h
theorem globE_parts {p : List UInt8} (h : ¬ (p = [] ∨ 400 < p.length)) : globE p = partsE (partsL 47 p) := if_neg h
/-- what Fits says -/
def fitsE (p s : List UInt8) : Int := if globE p = 0 then pathE s else globE p
def fitsB (p s : List UInt8) : Bool := decide (fitsE p s = 0) && globF p s
theorem two_is (l : List UInt8) : ((⟨l.toArray⟩ : ByteArray).toList == [42, 42]) = twoStars l := by
  rw [ByteArray.toList_eq]
  unfold twoStars
  by_cases h : l = [42, 42]
  · rw [decide_eq_true h, h]; rfl
  · rw [decide_eq_false h]
    simpa using h
end Go.Proofs.YtldffnmoafhidaaGreatDoor
/- The signs of a part, as the reference reads them: a sign's cells. -/
set_option linter.unusedVariables false
set_option maxRecDepth 100000
namespace Go.Proofs.YtldffnmoafhidaaGreatDoor
open Go.RowKit
open Go.OpenShut
end Go.Proofs.YtldffnmoafhidaaGreatDoor
/- The signs of a part, as the reference reads them: the walk. -/
set_option linter.unusedVariables false
set_option maxRecDepth 100000
namespace Go.Proofs.YtldffnmoafhidaaGreatDoor
open Go.RowKit
open Go.OpenShut
end Go.Proofs.YtldffnmoafhidaaGreatDoor
/- Parts of paths and of patterns, as the reference fits them. -/
set_option linter.unusedVariables false
set_option maxRecDepth 100000
namespace Go.Proofs.YtldffnmoafhidaaGreatDoor
open Go.RowKit
open Go.OpenShut
end Go.Proofs.YtldffnmoafhidaaGreatDoor
/- The reference's GlobFault and GlobFits. -/
set_option linter.unusedVariables false
set_option maxRecDepth 100000
namespace Go.Proofs.YtldffnmoafhidaaGreatDoor
open Go.RowKit
open Go.OpenShut
end Go.Proofs.YtldffnmoafhidaaGreatDoor
