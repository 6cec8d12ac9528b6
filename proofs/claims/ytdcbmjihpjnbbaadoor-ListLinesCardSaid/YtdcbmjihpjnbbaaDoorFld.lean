/- Texts of one kind, in one file: FldA, FldB, FldD. -/
import Derived.Test.YtdcbmjihpjnbbaaDoorMth
import Derived.Lib.Bytealg
import Derived.Laws.Externs
import Derived.Lib.BufferWrite
import Derived.Laws.MakeOwn
import Derived.Laws.CopyOwn
import Derived.BigQuiet
import Derived.Deep.QuietTactic
import Derived.WalkSmall
import Derived.WalkLawsBesides
import Derived.Test.YtdcbmjihpjnbbaaDoorShelf
/- Contracts of package field and of what it calls. -/
set_option linter.unusedVariables false
set_option maxRecDepth 100000
namespace Go.Proofs.YtdcbmjihpjnbbaaDoor
open Go.RowKit
open Go.OpenShut
theorem ext_IndexByte (args : Array Value) (w : World) : (callFunc 101 args).run Tryd.prog w = ((Extern.BytealgIndexByte.indexByte args).run Tryd.prog w).andThen fun v w' => .ok (.value v) w' :=
  run_callFunc_extern (P := Tryd.prog) (f := 101) Tryd.func101 (by kernel_rfl) (by kernel_rfl) (by kernel_rfl) (e := Extern.BytealgIndexByte.indexByte) (by kernel_rfl) args w
theorem lIndexByte_any (s : ByteArray) (c : Int) (w : World) : Calls Tryd.prog 87 #[.string s, .int .u8 c] w fun e w' => e = .returned (.int .i64 (Lib.indexByte s.data.toList c.toNat.toUInt8)) ∧ w = w' := by
  go_enter Tryd.func87, Tryd.ntmps87
  go_wp2
  rw [ext_IndexByte, Lib.run_indexByteString]
  simp only [Result.andThen]
  rw [Oper.upon_value]
  go_wp2
  go_ret
  exact ⟨rfl, rfl⟩
theorem IndexByte_any (s : ByteArray) (c : Int) (w : World) : Calls Tryd.prog 68 #[.string s, .int .u8 c] w fun e w' => e = .returned (.int .i64 (Lib.indexByte s.data.toList c.toNat.toUInt8)) ∧ w = w' := by
  go_enter Tryd.func68, Tryd.ntmps68
  go_wp2_with fail
  refine (lIndexByte_any _ _ _).mono ?_; rintro e w' ⟨rfl, rfl⟩
  go_wp2_with fail
  go_ret
  exact ⟨rfl, rfl⟩
theorem IndexByte_no (s : ByteArray) (w : World) (h : hasB 0 s.data.toList = false) : Calls Tryd.prog 68 #[.string s, .int .u8 0] w fun e w' => e = .returned (.int .i64 (-1)) ∧ w = w' := by
  refine (IndexByte_any s 0 w).mono ?_; rintro e w' ⟨rfl, rfl⟩
  exact ⟨ret_int (by rw [indexByte_pos, show (Int.toNat 0).toUInt8 = 0 from rfl, h]; rfl), rfl⟩
theorem IndexByte_yes (s : ByteArray) (w : World) (h : hasB 0 s.data.toList = true) : Calls Tryd.prog 68 #[.string s, .int .u8 0] w fun e w' => e = .returned (.int .i64 (pos 0 s.data.toList)) ∧ w = w' := by
  refine (IndexByte_any s 0 w).mono ?_; rintro e w' ⟨rfl, rfl⟩
  exact ⟨ret_int (by rw [indexByte_pos, show (Int.toNat 0).toUInt8 = 0 from rfl, h]; rfl), rfl⟩
end Go.Proofs.YtdcbmjihpjnbbaaDoor
/- Contracts of the reference's string fields. -/
set_option linter.unusedVariables false
set_option maxRecDepth 100000
namespace Go.Proofs.YtdcbmjihpjnbbaaDoor
open Go.RowKit
open Go.OpenShut
set_option maxHeartbeats 400000 in
theorem has_any (s : ByteArray) (c : Int) (b : UInt8) (w : World) (hs : s.size ≤ maxLen) (hc : (b.toNat : Int) = c) : Calls Tryd.prog 58 #[.string s, .int .u8 c] w fun e w' => e = .returned (.bool (hasB b s.data.toList)) ∧ w = w' := by
  subst hc
  have hb := u8_lt b
  unfold maxLen at hs
  go_enter Tryd.func58, Tryd.ntmps58
  go_wp2
  go_loop [5] (fun i => ∃ k : Nat, k ≤ s.size ∧ i = .int .i64 k ∧ k ≤ pos b s.data.toList) (fun i => s.size - (intOf i).toNat)
  case atStart => exact ⟨0, Nat.zero_le _, rfl, Nat.zero_le _⟩
  case round =>
    obtain ⟨k, hk, rfl, hz⟩ := hrel
    by_cases hlt : k < s.size
    · by_cases hc : s[k] = b
      · have hc' : ((s[k].toNat : Int) == (b.toNat : Int)) = true := by simp [hc]
        have hf := Lib.hid (show hasB b s.data.toList = true by rw [hasB_pos, pos_stop b _ k hz (by simpa using hlt) hc]; exact decide_eq_true (by simpa using hlt))
        clear hc
        go_wp2
        go_ret
        exact ⟨ret_bool hf.out.symm, rfl⟩
      · have hc' : ((s[k].toNat : Int) == (b.toNat : Int)) = false := by
          rw [beq_eq_false_iff_ne]
          intro h; exact hc (UInt8.toNat_inj.1 (by omega))
        have hf := pos_step b _ k hz (by simpa using hlt) hc
        clear hc
        go_wp2
        go_round
        case rel => exact ⟨k + 1, by omega, by go_num, hf⟩
        case measure => simp [intOf]; omega
    · obtain rfl : k = s.size := by omega
      have hf := Lib.hid (show hasB b s.data.toList = false by rw [hasB_pos]; exact decide_eq_false (by simp; omega))
      go_wp2
      go_ret
      exact ⟨ret_bool hf.out.symm, rfl⟩
end Go.Proofs.YtdcbmjihpjnbbaaDoor
/- Package field's reading. -/
set_option linter.unusedVariables false
set_option maxRecDepth 100000
namespace Go.Proofs.YtdcbmjihpjnbbaaDoor
open Go.RowKit
open Go.OpenShut
theorem Clone_any (s : ByteArray) (w : World) (hs : s.size ≤ 281474976710656) : Calls Tryd.prog 89 #[.string s] w fun e w' => e = .returned (.string s) ∧ Below w.heap.size w w' := by
  go_enter Tryd.func89, Tryd.ntmps89
  go_wp2_with fail
  refine (Tryd.stringslite_Clone s _ hs).mono ?_; rintro e w1 ⟨rfl, hb⟩
  go_wp2_with fail
  go_ret
  exact ⟨rfl, hb⟩
end Go.Proofs.YtdcbmjihpjnbbaaDoor
