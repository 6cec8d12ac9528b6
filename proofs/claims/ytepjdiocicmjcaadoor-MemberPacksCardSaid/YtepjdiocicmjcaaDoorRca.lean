/- Texts of one kind, in one file: RecA, RecB, RecC. -/
import Derived.Test.YtepjdiocicmjcaaDoorMth
import Derived.Test.YtepjdiocicmjcaaDoorBlk
import Derived.Test.YtepjdiocicmjcaaDoorAny
import Derived.Test.YtepjdiocicmjcaaDoorFld
import Derived.Test.YtepjdiocicmjcaaDoorFldD
import Derived.Test.YtepjdiocicmjcaaDoorStpC
import Derived.Deep.DeepCutAuto
import Derived.Deep.RegionHeld3
import Derived.Deep.DrawnRows
/- Package record: the check, the text of a record; the reference's. -/
set_option linter.unusedVariables false
set_option maxRecDepth 100000
namespace Go.Proofs.YtepjdiocicmjcaaDoor
open Go.RowKit
open Go.OpenShut
theorem ascii_two : asciiL (⟨#[61, 10]⟩ : ByteArray).data.toList := by
  intro j b hb
  match j, hb with
  | 0, hb => cases hb; decide
  | 1, hb => cases hb; decide
  | j + 2, hb => simp at hb
theorem str_none {k : ByteArray} (h : k.size = 0) : k = ⟨#[]⟩ := by
  apply ByteArray.ext; apply Array.toList_inj.1
  have := size_list k
  rw [h] at this
  exact List.eq_nil_of_length_eq_zero this
theorem str_some {k : ByteArray} (h : k.size ≠ 0) : k.toList.isEmpty = false := by
  rw [Lib.toList_data]
  cases e : k.data.toList with
  | nil => have := size_list k; rw [e] at this; exact absurd this.symm h
  | cons _ _ => rfl
/-- a record's value -/
def recV (k v : ByteArray) : Value := .agg #[.string k, .string v]
end Go.Proofs.YtepjdiocicmjcaaDoor
/- Package record: the text of a record; the reference's. -/
set_option linter.unusedVariables false
set_option maxRecDepth 100000
namespace Go.Proofs.YtepjdiocicmjcaaDoor
open Go.RowKit
open Go.OpenShut
theorem nDig_le3 {n : Nat} (h : n < 1000) : Lib.nDigits n ≤ 3 := by
  by_cases h1 : n < 10
  · rw [nDig1 h1]; omega
  · by_cases h2 : n < 100
    · rw [nDig2 (by omega) h2]; omega
    · rw [nDig3 (by omega) h]; omega
theorem dec_len (n : Nat) : (bs (Lib.decDigits n)).size = Lib.nDigits n := by rw [bs_size, Lib.decDigits_length]
theorem recR_cat (k v : ByteArray) : (⟨#[32]⟩ : ByteArray) ++ k ++ ⟨#[61]⟩ ++ v ++ ⟨#[10]⟩ = bs (recT k.data.toList v.data.toList) := by
  apply bs_ext
  simp [ByteArray.data_append, recT]
theorem add_named {a b A : ByteArray} (h : a ++ b = A) (hs : a.size + b.size ≤ 9223372036854775807) : ∀ W : World, (Op.stringOp .add a b).run Tryd.prog W = .ok (.string A) W := fun W => by
  rw [← h]; exact run_string_add_sum (P := Tryd.prog) (w := W) a b hs
/-- a record's text behind its number, sum by sum -/
structure Sums (k v R A1 A2 A3 : ByteArray) : Prop where
  e1 : (⟨#[32]⟩ : ByteArray) ++ k = A1
  e2 : A1 ++ ⟨#[61]⟩ = A2
  e3 : A2 ++ v = A3
  e4 : A3 ++ ⟨#[10]⟩ = R
theorem sums_of (k v : ByteArray) : ∃ A1 A2 A3, Sums k v (bs (recT k.data.toList v.data.toList)) A1 A2 A3 :=
  ⟨_, _, _, rfl, rfl, rfl, recR_cat k v⟩
theorem chkR_le {k v : ByteArray} (h : chkR k.data.toList v.data.toList = 0) : k.size ≤ 60 ∧ v.size ≤ 500 := by
  obtain ⟨-, h1, h2, -⟩ := chkR_of h
  rw [size_list] at h1 h2; exact ⟨h1, h2⟩
end Go.Proofs.YtepjdiocicmjcaaDoor
/- The reference's text of a record. -/
set_option linter.unusedVariables false
set_option maxRecDepth 100000
namespace Go.Proofs.YtepjdiocicmjcaaDoor
open Go.RowKit
open Go.OpenShut
end Go.Proofs.YtepjdiocicmjcaaDoor
