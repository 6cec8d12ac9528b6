/- Texts of one kind, in one file: PadA, PadB, PadC, PadD. -/
import Derived.Test.YtldffnmoafhidaaGreatDoorMth
import Derived.Test.YtldffnmoafhidaaGreatDoorBas
import Derived.IntWalk
import Derived.Test.YtldffnmoafhidaaGreatDoorTrm
import Derived.Deep.RegionWith
import Derived.Deep.RegionHeld3
import Derived.Deep.DeepCutAuto
import Derived.Deep.QuietTactic
/- Package pad: blocks, zeros, filling up, the end. -/
set_option linter.unusedVariables false
set_option maxRecDepth 100000
namespace Go.Proofs.YtldffnmoafhidaaGreatDoor
open Go.RowKit
open Go.OpenShut
theorem count_any (n : Nat) (w : World) (hn : n ≤ 140737488351232) : Calls Tryz.prog 132 #[.int .i64 n] w fun e w' => e = .returned (.int .i64 (padN n : Nat)) ∧ w = w' := by
  go_enter Tryz.func132, Tryz.ntmps132
  go_wp2_with fail
  go_ret
  exact ⟨ret_int (by unfold padN; omega), rfl⟩
/-- made zeros, as bytes of the call's own -/
theorem made_own (w : World) (n : Nat) (hn : n ≤ 140737488355328) (i0 : TypeInfo) (hi : Tryz.prog.info? 5 = some i0) (hz0 : i0.zero = some (.int .u8 0)) (hz1 : i0.size = 1) (hz2 : i0.bytes = 1) :
    ∃ M : Array Value, M.toList = bCells (List.replicate n 0) ∧ (∀ W : World, (Instr.makeSlice 22 (.int .i64 (n : Int)) (.int .i64 (n : Int))).run Tryz.prog W = .ok (.slice (some ⟨W.heap.size, 0, none⟩) n n) (W.alloc (.cells M 5))) ∧
      ∀ (W : World) (B : Nat), B ≤ W.heap.size → OwnB (W.alloc (.cells M 5)) B (.slice (some ⟨W.heap.size, 0, none⟩) n n) (List.replicate n 0) := by
  obtain ⟨M, hM⟩ : ∃ M, M = madeCells (Value.int .u8 0).cells (((n : Nat) : Int).toNat * i0.size) := ⟨_, rfl⟩
  have hMl : M.toList = bCells (List.replicate n 0) := by rw [hM, hz1, Nat.mul_one, Int.toNat_natCast, ← made_zeros]; rfl
  have hMs : M.size = n := by rw [← Array.length_toList, hMl]; simp
  refine ⟨M, hMl, fun W => ?_, fun W B hB => ?_⟩
  · have h := run_make (P := Tryz.prog) W 22 5 i0 (.int .u8 0) Tryz.underlying22 hi hz0 .i64 .i64 (n : Int) (n : Int) (by omega) (by omega) (by rw [hz2]; omega) (by omega)
    rw [← hM] at h
    simpa using h
  · have h := World.ownsRow_lit (base := B) (e := 5) (size := 1) W M n hB (by unfold maxLen; omega) (by rw [hMs, Nat.mul_one])
    unfold OwnB
    rw [← hMl, List.length_replicate]; exact h
theorem End_any (w : World) : Calls Tryz.prog 54 #[] w fun e w' => ∃ v, e = .returned v ∧ OwnB w' w.heap.size v (List.replicate 1024 0) ∧ Below w.heap.size w w' := by
  obtain ⟨i0, hi, hz0, hz1, hz2⟩ := info_parts oinfo_u8
  obtain ⟨M, hMl, hmk, hown⟩ := made_own w 1024 (by decide) i0 hi hz0 hz1 hz2
  have HO := Lib.hid (hown w w.heap.size (Nat.le_refl _))
  have HB : Hid (Below w.heap.size w (w.alloc (.cells M 5))) := (Below.refl _ _).alloc (Nat.le_refl _) _
  simp only [show ((1024 : Nat) : Int) = 1024 from rfl] at hmk
  clear hMl hown
  go_enter Tryz.func54, Tryz.ntmps54
  go_wp2_with fail
  go_ret
  exact ⟨_, rfl, HO.out, HB.out⟩
theorem Fill_any (A : Option Addr) (n c : Nat) (l : List UInt8) (hn : l.length = n) (hn2 : n ≤ 140737488351232) (w : World) (hA : BytsAt w A l) :
    Calls Tryz.prog 142 #[.slice A n c] w fun e w' => ∃ v, e = .returned v ∧ OwnB w' w.heap.size v (padF l) ∧ Below w.heap.size w w' := by
  obtain ⟨i0, hi, hz0, hz1, hz2⟩ := info_parts oinfo_u8
  have hge := padN_ge n
  have hlt := padN_lt n
  obtain ⟨p, hp⟩ := hid_name (padN n)
  rw [hp.out] at hge hlt
  obtain ⟨M, hMl, hmk, hown⟩ := made_own w (512 * p) (by omega) i0 hi hz0 hz1 hz2
  have hcount := Lib.hid fun W => count_any n W (by omega)
  rw [hp.out] at hcount
  have hmul : IntKind.i64.wrap ((p : Int) * 512) = ((512 * p : Nat) : Int) := by rw [IntKind.wrap_i64]; omega
  have HB : Hid (Below w.heap.size w (w.alloc (.cells M 5))) := (Below.refl _ _).alloc (Nat.le_refl _) _
  have HF : Hid (l ++ (List.replicate (512 * p) 0).drop n = padF l) := by unfold Hid padF; rw [hn, hp.out, List.drop_replicate]
  obtain ⟨q, hq⟩ := hid_name (512 * p)
  rw [hq.out] at hmk hmul hge HF hown
  obtain ⟨W2, hcp, hO2, hB2⟩ := copied (hown w w.heap.size (Nat.le_refl _)) List.length_replicate A n c l hn hge (hA.below HB.out) 3
  rw [HF.out] at hO2
  have HO2 := Lib.hid hO2
  have HB2 := Lib.hid (hB2 _ _ (Nat.le_refl _) HB.out)
  clear hn hA hown hMl hO2 hB2 HF
  go_enter Tryz.func142, Tryz.ntmps142
  go_wp2_with fail
  refine (hcount.out _).mono ?_; rintro e w' ⟨rfl, rfl⟩
  go_wp2_with fail
  go_ret
  exact ⟨_, rfl, HO2.out, HB2.out⟩
end Go.Proofs.YtldffnmoafhidaaGreatDoor
/- Package pad: the reference's filling up; the laws PadFills, PadFew. -/
set_option linter.unusedVariables false
set_option maxRecDepth 100000
namespace Go.Proofs.YtldffnmoafhidaaGreatDoor
open Go.RowKit
open Go.OpenShut
def slLen : Value → Nat | .slice _ n _ => n | _ => 0
end Go.Proofs.YtldffnmoafhidaaGreatDoor
/- Package pad: Cut. -/
set_option linter.unusedVariables false
set_option maxRecDepth 100000
namespace Go.Proofs.YtldffnmoafhidaaGreatDoor
open Go.RowKit
open Go.OpenShut
theorem elem_bytes : Tryz.prog.underlying 22 = some (.slice (Tryz.prog.elem 22)) := by kernel_rfl
theorem size_u8 : ∀ W, (sizeOf (Tryz.prog.elem 22)).run Tryz.prog W = .ok 1 W := by
  intro W
  have e : Tryz.prog.elem 22 = 5 := by kernel_rfl
  rw [e]; exact Tryz.sizeOf5 W
/-- the first k bytes -/
theorem slice_to (W : World) (A : Option Addr) (n c k : Nat) (h : k ≤ c) : (Instr.slice 22 (.slice A n c) none (some (.int .i64 (k : Int))) none).run Tryz.prog W = .ok (.slice A k c) W := by
  rw [run_slice_h W 22 A n c elem_bytes .i64 (k : Int) (by omega) (by omega), size_u8]
  have e := cutA_zero A c
  unfold cutA at e
  simp [Result.andThen, sliced] at e ⊢
  exact e
/-- all but the first k bytes -/
theorem slice_from (W : World) (A : Option Addr) (n c k : Nat) (h : k ≤ n) : (Instr.slice 22 (.slice A n c) (some (.int .i64 (k : Int))) none none).run Tryz.prog W = .ok (.slice (cutA A c k) (n - k) (c - k)) W := by
  rw [run_slice_l W 22 A n c elem_bytes .i64 (k : Int) (by omega) (by omega), size_u8]
  simp [Result.andThen, sliced, cutA]
end Go.Proofs.YtldffnmoafhidaaGreatDoor
/- Package pad: the reference's Cut. -/
set_option linter.unusedVariables false
set_option maxRecDepth 100000
namespace Go.Proofs.YtldffnmoafhidaaGreatDoor
open Go.RowKit
open Go.OpenShut
theorem alloc_new' {W : World} {o : Obj} {g : Nat} (h : g = W.heap.size) : (W.alloc o).heap[g]? = some o := by subst h; exact heap_alloc_new W o
theorem alloc_old {W : World} {o x : Obj} {g : Nat} (h : W.heap[g]? = some x) : (W.alloc o).heap[g]? = some x := by
  have hlt : g < W.heap.size := (Array.getElem?_eq_some_iff.1 h).1
  exact ((World.grownBy_alloc W o none).block g hlt (by simp)).trans h
/-- an empty row of bytes just made -/
def Fresh (g : Nat) (W : World) : Prop := W.heap[g]? = some (.cells #[] 5 (0, 0))
theorem Fresh.new {g : Nat} {W : World} (h : g = W.heap.size) : Fresh g (W.alloc (.cells #[] 5)) := alloc_new' h
theorem Fresh.old {g : Nat} {W : World} (h : Fresh g W) (o : Obj) : Fresh g (W.alloc o) := alloc_old h
theorem Fresh.drew {g : Nat} {W : World} (h : Fresh g W) : Fresh g W.drew := h
theorem Fresh.kept {g g1 : Nat} {W W' : World} (h : Fresh g W) (hk : ∀ k, k < W.heap.size → k ≠ g1 → W'.heap[k]? = W.heap[k]?) (hne : g ≠ g1) : Fresh g W' :=
  (hk g (Array.getElem?_eq_some_iff.1 h).1 hne).trans h
/-- a row that another append does not touch -/
theorem OwnB.kept {w w' : World} {B g : Nat} {v : Value} {l : List UInt8} (h : OwnB w B v l) (hk : ∀ k, k < w.heap.size → k ≠ g → w'.heap[k]? = w.heap[k]?) (hne : ∀ k, v.ownBlock = some k → k ≠ g) : OwnB w' B v l :=
  own_heap h fun k e => hk k (World.ownsRow.lt h k e).2 (hne k e)
end Go.Proofs.YtldffnmoafhidaaGreatDoor
