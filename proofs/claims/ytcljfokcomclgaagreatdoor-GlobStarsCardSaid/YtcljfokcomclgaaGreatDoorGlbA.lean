/- The reference's table. -/
import Derived.Test.YtcljfokcomclgaaGreatDoorGlbM
import Derived.Test.YtcljfokcomclgaaGreatDoorOwb
import Derived.Deep.DeepCutAuto
set_option linter.unusedVariables false
set_option maxRecDepth 100000
namespace Go.Proofs.YtcljfokcomclgaaGreatDoor
open Go.RowKit
open Go.OpenShut
/-- a row of the table -/
def rowR (R : Nat → Nat → Bool) (i m : Nat) : List Bool := (List.range (m + 1)).map (R i)
/-- the next row under way: k of its truths behind the first -/
def nextR (R : Nat → Nat → Bool) (i m k : Nat) : List Bool := (List.range (k + 1)).map (R (i + 1)) ++ List.replicate (m - k) false
theorem rowR_get (R : Nat → Nat → Bool) (i m k : Nat) (hk : k < m + 1) : (rowR R i m)[k]? = some (R i k) := by
  unfold rowR; simp [hk]
theorem nextR_get (R : Nat → Nat → Bool) (i m k j : Nat) (hj : j < k + 1) : (nextR R i m k)[j]? = some (R (i + 1) j) := by
  unfold nextR
  rw [List.getElem?_append_left (by simp; omega)]
  simp [hj]
theorem nextR_len (R : Nat → Nat → Bool) (i m k : Nat) (hk : k ≤ m) : (nextR R i m k).length = m + 1 := by unfold nextR; simp; omega
theorem nextR_end (R : Nat → Nat → Bool) (i m : Nat) : nextR R i m m = rowR R (i + 1) m := by unfold nextR rowR; simp
theorem nextR_set (R : Nat → Nat → Bool) (i m k : Nat) (hk : k < m) : (nextR R i m k).set (k + 1) (R (i + 1) (k + 1)) = nextR R i m (k + 1) := by
  unfold nextR
  rw [List.set_append_right _ _ (by simp)]
  simp only [List.length_map, List.length_range, Nat.sub_self]
  obtain ⟨q, hq⟩ : ∃ q, m - k = q + 1 := ⟨m - k - 1, by omega⟩
  rw [hq, List.replicate_succ, List.set_cons_zero, show m - (k + 1) = q by omega, List.range_succ (n := k + 1), List.map_append]
  simp
def bA (l : List Bool) : Array Value := (l.map Value.bool).toArray
theorem bA_get (l : List Bool) (k : Nat) : (bA l)[k]? = l[k]?.map Value.bool := by unfold bA; simp
theorem bA_set (l : List Bool) (k : Nat) (b : Bool) : (bA l).setIfInBounds k (.bool b) = bA (l.set k b) := by
  unfold bA; rw [List.setIfInBounds_toArray, List.map_set]
theorem info_bool : (Tryz.prog.info? 4).map (fun i => (i.zero, i.size, i.bytes)) = some (some (.bool false), 1, 1) := by kernel_rfl
/-- make([]bool, n) -/
theorem made_bools (n : Nat) (hn : n ≤ 1000000) : ∀ W : World, (Instr.makeSlice 76 (.int .i64 (n : Int)) (.int .i64 (n : Int))).run Tryz.prog W = .ok (.slice (some ⟨W.heap.size, 0, none⟩) n n) (W.alloc (.cells (bA (List.replicate n false)) 4)) := fun W => by
  obtain ⟨i0, hi, hz0, hz1, hz2⟩ := info_parts info_bool
  have h := run_make (P := Tryz.prog) W 76 4 i0 (.bool false) Tryz.underlying76 hi hz0 .i64 .i64 (n : Int) (n : Int) (by omega) (by omega) (by rw [hz2]; omega) (by omega)
  have hM : madeCells (Value.bool false).cells (((n : Nat) : Int).toNat * i0.size) = bA (List.replicate n false) := by
    rw [hz1, Int.toNat_natCast, Nat.mul_one]
    apply Array.ext
    · simp [madeCells, bA]
    · intro j h1 h2
      simp [madeCells, bA, Value.cells, Nat.mod_one]
  rw [hM] at h
  simpa using h
end Go.Proofs.YtcljfokcomclgaaGreatDoor
