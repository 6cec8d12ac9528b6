/- Leaf contracts of the drawing of trees: names, metadata. -/
import Derived.Test.YtdcbmjihpjnbbaaDoorSpl
import Derived.Test.YtdcbmjihpjnbbaaDoorBlk
import Derived.Test.YtdcbmjihpjnbbaaDoorRep
import Derived.Test.YtdcbmjihpjnbbaaDoorOctA
import Derived.Test.YtdcbmjihpjnbbaaDoorMth
import Derived.Deep.RegionHeld3
import Derived.Deep.DrawnRows
import Derived.Deep.DeepCutAuto
import Derived.Laws.Rows
set_option linter.unusedVariables false
set_option maxRecDepth 100000
namespace Go.Proofs.YtdcbmjihpjnbbaaDoor
open Go.RowKit
open Go.OpenShut
theorem rep_one (c : UInt8) (n : Nat) : (⟨(Lib.repeatL (⟨#[c]⟩ : ByteArray).data.toList n).toArray⟩ : ByteArray) = ⟨(List.replicate n c).toArray⟩ := by
  have := Lib.repeatL_replicate c 1 n
  rw [Nat.mul_one] at this
  rw [← this]; rfl
theorem names_any (w : World) : Calls Tryd.prog 37 #[] w fun e w' => ∃ g, e = .returned (.slice (some ⟨g, 0, none⟩) 11 11) ∧ Texts w' w.heap.size (.slice (some ⟨g, 0, none⟩) 11 11) namesL ∧ Below w.heap.size w w' := by
  go_enter Tryd.func37, Tryd.ntmps37
  go_wp2_with fail
  refine (Tryd.strings_Repeat ⟨#[110]⟩ 60 _ (by decide) (by decide)).mono ?_; rintro e w1 ⟨rfl, hb1⟩
  rw [rep_one]
  obtain ⟨s1, Hs1⟩ := hid_name (⟨(List.replicate 60 110).toArray⟩ : ByteArray)
  rw [Hs1.out]
  have HB1 := Lib.hid hb1
  clear hb1
  go_wp2_with fail
  refine (Tryd.strings_Repeat ⟨#[109]⟩ 130 _ (by decide) (by decide)).mono ?_; rintro e w2 ⟨rfl, hb2⟩
  rw [rep_one]
  obtain ⟨s2, Hs2⟩ := hid_name (⟨(List.replicate 130 109).toArray⟩ : ByteArray)
  rw [Hs2.out]
  have HB2 := Lib.hid (HB1.out.trans (hb2.mono HB1.out.size))
  clear hb2 HB1
  go_wp2_with fail
  go_ret
  have ht := (Texts.lit (w := w2) namesL (by decide)).mono HB2.out.size
  have hc : (strC namesL).toArray = #[.string ⟨#[97]⟩, .string ⟨#[98]⟩, .string ⟨#[97, 98]⟩, .string ⟨#[66]⟩, .string ⟨#[120, 32, 121]⟩, .string ⟨#[195, 169]⟩, .string ⟨#[99, 46, 116, 120, 116]⟩, .string s1, .string s2, .string ⟨#[97, 33]⟩, .string ⟨#[45]⟩] := by
    rw [← Hs1.out, ← Hs2.out]; rfl
  rw [hc] at ht
  exact ⟨_, rfl, ht, HB2.out.alloc HB2.out.size _⟩
def metaC (m : MetaV) : List Value := [.int .i64 m.mode, .int .i64 m.uid, .int .i64 m.gid, strV m.user, strV m.group, .int .i64 m.second, .int .i64 m.nano]
end Go.Proofs.YtdcbmjihpjnbbaaDoor
