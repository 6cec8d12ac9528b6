/- Texts of one kind, in one file: RecF, RecG. -/
import Derived.Test.YtepjdiocicmjcaaGreatDoorRca
import Derived.Test.YtepjdiocicmjcaaGreatDoorRcd
/- The reference's reading of a record. -/
set_option linter.unusedVariables false
set_option maxRecDepth 100000
namespace Go.Proofs.YtepjdiocicmjcaaGreatDoor
open Go.RowKit
open Go.OpenShut
theorem Read_any (s : ByteArray) (w : World) (T : Tab w) (hs : s.size ≤ 281474976710656) : Calls Tryz.prog 120 #[.string s] w fun e w' => e = .returned (rdV (recR s.data.toList)) ∧ Below w.heap.size w w' := by
  by_cases h1 : hasB 32 s.data.toList = true ∧ numB (s.data.toList.take (pos 32 s.data.toList)) = true
  · obtain ⟨hb, hn⟩ := h1
    by_cases h : s.size < dVal (s.data.toList.take (pos 32 s.data.toList))
    · exact Read_short s w hs hb hn h
    · cases h2 : splO (s.data.toList.take (dVal (s.data.toList.take (pos 32 s.data.toList)))) (pos 32 s.data.toList + 1)
      · exact Read_split s w hs hb hn (by omega) h2
      · by_cases h3 : chkR (splK (s.data.toList.take (dVal (s.data.toList.take (pos 32 s.data.toList)))) (pos 32 s.data.toList + 1)) (splV (s.data.toList.take (dVal (s.data.toList.take (pos 32 s.data.toList)))) (pos 32 s.data.toList + 1)) = 0
        · by_cases h4 : recL (splK (s.data.toList.take (dVal (s.data.toList.take (pos 32 s.data.toList)))) (pos 32 s.data.toList + 1)) (splV (s.data.toList.take (dVal (s.data.toList.take (pos 32 s.data.toList)))) (pos 32 s.data.toList + 1)) = s.data.toList.take (dVal (s.data.toList.take (pos 32 s.data.toList)))
          · exact Read_yes s w T hs hb hn (by omega) h2 h3 h4
          · exact Read_off s w T hs hb hn (by omega) h2 h3 h4
        · exact Read_err s w T hs hb hn (by omega) h2 h3
  · exact Read_front s w hs h1
/-! ### the digits ahead -/
end Go.Proofs.YtepjdiocicmjcaaGreatDoor
/- The reference's reading of a record: the body. -/
set_option linter.unusedVariables false
set_option maxRecDepth 100000
namespace Go.Proofs.YtepjdiocicmjcaaGreatDoor
open Go.RowKit
open Go.OpenShut
end Go.Proofs.YtepjdiocicmjcaaGreatDoor
