/- Contracts of package field and of what it calls. -/
import Derived.Test.YtoikpnjnljdpaaaDoorMth
import Derived.Lib.Bytealg
import Derived.Laws.Externs
import Derived.Lib.BufferWrite
import Derived.Laws.MakeOwn
import Derived.Laws.CopyOwn
import Derived.BigQuiet
import Derived.Deep.QuietTactic
set_option linter.unusedVariables false
set_option maxRecDepth 100000
namespace Go.Proofs.YtoikpnjnljdpaaaDoor
open Go.RowKit
open Go.OpenShut
theorem ext_IndexByte (args : Array Value) (w : World) : (callFunc 49 args).run Tryd.prog w = ((Extern.BytealgIndexByte.indexByte args).run Tryd.prog w).andThen fun v w' => .ok (.value v) w' :=
  run_callFunc_extern (P := Tryd.prog) (f := 49) Tryd.func49 (by kernel_rfl) (by kernel_rfl) (by kernel_rfl) (e := Extern.BytealgIndexByte.indexByte) (by kernel_rfl) args w
theorem lIndexByte_any (s : ByteArray) (c : Int) (w : World) : Calls Tryd.prog 43 #[.string s, .int .u8 c] w fun e w' => e = .returned (.int .i64 (Lib.indexByte s.data.toList c.toNat.toUInt8)) ∧ w = w' := by
  go_enter Tryd.func43, Tryd.ntmps43
  go_wp2
  rw [ext_IndexByte, Lib.run_indexByteString]
  simp only [Result.andThen]
  rw [Oper.upon_value]
  go_wp2
  go_ret
  exact ⟨rfl, rfl⟩
theorem IndexByte_any (s : ByteArray) (c : Int) (w : World) : Calls Tryd.prog 28 #[.string s, .int .u8 c] w fun e w' => e = .returned (.int .i64 (Lib.indexByte s.data.toList c.toNat.toUInt8)) ∧ w = w' := by
  go_enter Tryd.func28, Tryd.ntmps28
  go_wp2_with fail
  refine (lIndexByte_any _ _ _).mono ?_; rintro e w' ⟨rfl, rfl⟩
  go_wp2_with fail
  go_ret
  exact ⟨rfl, rfl⟩
theorem IndexByte_no (s : ByteArray) (w : World) (h : hasB 0 s.data.toList = false) : Calls Tryd.prog 28 #[.string s, .int .u8 0] w fun e w' => e = .returned (.int .i64 (-1)) ∧ w = w' := by
  refine (IndexByte_any s 0 w).mono ?_; rintro e w' ⟨rfl, rfl⟩
  exact ⟨ret_int (by rw [indexByte_pos, show (Int.toNat 0).toUInt8 = 0 from rfl, h]; rfl), rfl⟩
theorem IndexByte_yes (s : ByteArray) (w : World) (h : hasB 0 s.data.toList = true) : Calls Tryd.prog 28 #[.string s, .int .u8 0] w fun e w' => e = .returned (.int .i64 (pos 0 s.data.toList)) ∧ w = w' := by
  refine (IndexByte_any s 0 w).mono ?_; rintro e w' ⟨rfl, rfl⟩
  exact ⟨ret_int (by rw [indexByte_pos, show (Int.toNat 0).toUInt8 = 0 from rfl, h]; rfl), rfl⟩
end Go.Proofs.YtoikpnjnljdpaaaDoor
