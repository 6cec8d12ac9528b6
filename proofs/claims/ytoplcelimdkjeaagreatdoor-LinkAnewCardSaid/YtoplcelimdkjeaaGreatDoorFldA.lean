/- Contracts of package field and of what it calls. -/
import Derived.Test.YtoplcelimdkjeaaGreatDoorMth
import Derived.Lib.Bytealg
import Derived.Laws.Externs
import Derived.Lib.BufferWrite
import Derived.Laws.MakeOwn
import Derived.Laws.CopyOwn
import Derived.BigQuiet
import Derived.Deep.QuietTactic
set_option linter.unusedVariables false
set_option maxRecDepth 100000
namespace Go.Proofs.YtoplcelimdkjeaaGreatDoor
open Go.RowKit
open Go.OpenShut
theorem ext_IndexByte (args : Array Value) (w : World) : (callFunc 105 args).run Tryz.prog w = ((Extern.BytealgIndexByte.indexByte args).run Tryz.prog w).andThen fun v w' => .ok (.value v) w' :=
  run_callFunc_extern (P := Tryz.prog) (f := 105) Tryz.func105 (by kernel_rfl) (by kernel_rfl) (by kernel_rfl) (e := Extern.BytealgIndexByte.indexByte) (by kernel_rfl) args w
theorem lIndexByte_any (s : ByteArray) (c : Int) (w : World) : Calls Tryz.prog 101 #[.string s, .int .u8 c] w fun e w' => e = .returned (.int .i64 (Lib.indexByte s.data.toList c.toNat.toUInt8)) ∧ w = w' := by
  go_enter Tryz.func101, Tryz.ntmps101
  go_wp2
  rw [ext_IndexByte, Lib.run_indexByteString]
  simp only [Result.andThen]
  rw [Oper.upon_value]
  go_wp2
  go_ret
  exact ⟨rfl, rfl⟩
theorem IndexByte_any (s : ByteArray) (c : Int) (w : World) : Calls Tryz.prog 92 #[.string s, .int .u8 c] w fun e w' => e = .returned (.int .i64 (Lib.indexByte s.data.toList c.toNat.toUInt8)) ∧ w = w' := by
  go_enter Tryz.func92, Tryz.ntmps92
  go_wp2_with fail
  refine (lIndexByte_any _ _ _).mono ?_; rintro e w' ⟨rfl, rfl⟩
  go_wp2_with fail
  go_ret
  exact ⟨rfl, rfl⟩
theorem IndexByte_no (s : ByteArray) (w : World) (h : hasB 0 s.data.toList = false) : Calls Tryz.prog 92 #[.string s, .int .u8 0] w fun e w' => e = .returned (.int .i64 (-1)) ∧ w = w' := by
  refine (IndexByte_any s 0 w).mono ?_; rintro e w' ⟨rfl, rfl⟩
  exact ⟨ret_int (by rw [indexByte_pos, show (Int.toNat 0).toUInt8 = 0 from rfl, h]; rfl), rfl⟩
theorem IndexByte_yes (s : ByteArray) (w : World) (h : hasB 0 s.data.toList = true) : Calls Tryz.prog 92 #[.string s, .int .u8 0] w fun e w' => e = .returned (.int .i64 (pos 0 s.data.toList)) ∧ w = w' := by
  refine (IndexByte_any s 0 w).mono ?_; rintro e w' ⟨rfl, rfl⟩
  exact ⟨ret_int (by rw [indexByte_pos, show (Int.toNat 0).toUInt8 = 0 from rfl, h]; rfl), rfl⟩
end Go.Proofs.YtoplcelimdkjeaaGreatDoor
