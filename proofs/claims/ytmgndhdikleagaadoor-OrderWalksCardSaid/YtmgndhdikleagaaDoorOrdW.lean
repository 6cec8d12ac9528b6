/- The laws on order.Names, order.Walk and order.Depth. -/
import Derived.Test.YtmgndhdikleagaaDoorOrdD
import Derived.Test.YtmgndhdikleagaaDoorSplB
set_option linter.unusedVariables false
set_option maxRecDepth 100000
namespace Go.Proofs.YtmgndhdikleagaaDoor
open Go.RowKit
open Go.OpenShut
theorem same_texts {w : World} {B B' : Nat} {v u : Value} {ls : List (List UInt8)} (h : Texts w B v ls) (h' : Texts w B' u ls) (hl : ls.length ≤ 9223372036854775807) :
    Calls Tryd.prog 7 #[v, u] w fun e w' => e = .returned (.bool true) ∧ Below w.heap.size w w' := by
  obtain ⟨A, ca, rfl, hA⟩ := h.any
  obtain ⟨B, cb, rfl, hB⟩ := h'.any
  refine (sameTexts_any A B ca cb ls ls w hl hl (fun j hj => ?_) (fun j hj => ?_)).mono ?_
  · obtain ⟨g, e, _, _, hc⟩ := hA j hj; exact ⟨g, e, hc⟩
  · obtain ⟨g, e, _, _, hc⟩ := hB j hj; exact ⟨g, e, hc⟩
  rintro e w' ⟨rfl, q, rfl⟩
  exact ⟨by rw [decide_eq_true rfl], drewN_below (Below.refl _ _) _⟩
theorem namesR_len (t : List NodeV) (d : List UInt8) : (namesR t d).length ≤ t.length := by
  unfold namesR
  split
  · exact names_len t d
  · exact Nat.zero_le _
theorem walkR_len (t : List NodeV) : (walkR t).length ≤ t.length := by
  unfold walkR
  split
  · rw [List.length_map]; exact Nat.le_refl _
  · exact Nat.zero_le _
set_option maxHeartbeats 2000000 in
theorem OrderNames_walk (A0 : Option Addr) (n0 c0 : Nat) (l0 : List NodeV) (a1 : ByteArray) (hn0 : l0.length = n0) (hm0 : n0 * 144 ≤ 140737488351232) (hf0 : ∀ r ∈ l0, r.wf) (hs0 : SlOk A0 n0 c0) (w1 : a1.size ≤ maxLen) (w : World) (hr0 : NodesAt w A0 l0) :
    Calls Tryd.prog 3 #[.slice A0 n0 c0, .string a1] w fun e w' => e = .returned (.bool true) ∧ Below w.heap.size w w' := by
  have hsz : ∀ x ∈ l0, x.sz := fun x hx => (hf0 x hx).sz
  have HA := Lib.hid hr0
  have H1 := Lib.hid fun W h => Names_any A0 n0 c0 l0 a1 hn0 hs0 hsz W h
  have H2 := Lib.hid fun W h => rNames_any A0 n0 c0 l0 a1 hn0 hs0 hsz W h
  have hl : (namesR l0 a1.data.toList).length ≤ 9223372036854775807 := by have := namesR_len l0 a1.data.toList; omega
  have HS := Lib.hid fun w B B' v u h h' => same_texts (w := w) (B := B) (B' := B') (v := v) (u := u) (ls := namesR l0 a1.data.toList) h h' hl
  generalize namesR l0 a1.data.toList = r at *
  generalize namesE l0 a1.data.toList = t at *
  clear hr0 hf0 hsz w1 hn0 hs0 hl
  go_enter Tryd.func3, Tryd.ntmps3
  go_wp2_with fail
  refine (H1.out _ HA.out).mono ?_; rintro e1 wa ⟨v1, rfl, hT, hb⟩
  have HB1 := Lib.hid hb
  have HT1 := Lib.hid hT
  clear hb hT
  go_wp2_with fail
  refine (H2.out _ (HA.out.below HB1.out)).mono ?_; rintro e1 wb ⟨v2, rfl, hT, hb⟩
  have HB2 := Lib.hid (HB1.out.trans (hb.mono HB1.out.size))
  have HT2 := Lib.hid hT
  have HT1b := Lib.hid (HT1.out.below hb)
  clear hb hT
  go_wp2_with fail
  refine (HS.out wb _ _ v1 v2 HT1b.out HT2.out).mono ?_; rintro e1 wc ⟨rfl, hb⟩
  have HB3 := Lib.hid (HB2.out.trans (hb.mono HB2.out.size))
  clear hb
  go_wp2_with fail
  go_ret
  exact ⟨rfl, HB3.out⟩
set_option maxHeartbeats 2000000 in
theorem OrderWalks_walk (A0 : Option Addr) (n0 c0 : Nat) (l0 : List NodeV) (hn0 : l0.length = n0) (hm0 : n0 * 144 ≤ 140737488351232) (hf0 : ∀ r ∈ l0, r.wf) (hs0 : SlOk A0 n0 c0) (w : World) (hr0 : NodesAt w A0 l0) :
    Calls Tryd.prog 4 #[.slice A0 n0 c0] w fun e w' => e = .returned (.bool true) ∧ Below w.heap.size w w' := by
  have hsz : ∀ x ∈ l0, x.sz := fun x hx => (hf0 x hx).sz
  have HA := Lib.hid hr0
  have H1 := Lib.hid fun W h => Walk_any A0 n0 c0 l0 hn0 hs0 hsz W h
  have H2 := Lib.hid fun W h => Depth_any A0 n0 c0 l0 hn0 hs0 hsz W h
  have H3 := Lib.hid fun W h => rWalk_any A0 n0 c0 l0 hn0 hs0 hsz W h
  have H4 := Lib.hid fun W h => rDepth_any A0 n0 c0 l0 hn0 hs0 hsz W h
  have hl : (walkR l0).length ≤ 9223372036854775807 := by have := walkR_len l0; omega
  have HS := Lib.hid fun w B B' v u h h' => same_texts (w := w) (B := B) (B' := B') (v := v) (u := u) (ls := walkR l0) h h' hl
  generalize walkR l0 = r at *
  generalize deepR l0 = q at *
  generalize treeE l0 = t at *
  clear hr0 hf0 hsz hn0 hs0 hl
  go_enter Tryd.func4, Tryd.ntmps4
  go_wp2_with fail
  refine (H1.out _ HA.out).mono ?_; rintro e1 wa ⟨v1, rfl, hT, hb⟩
  have HB1 := Lib.hid hb
  have HT1 := Lib.hid hT
  clear hb hT
  go_wp2_with fail
  refine (H2.out _ (HA.out.below HB1.out)).mono ?_; rintro e1 wb ⟨rfl, hb⟩
  have HB2 := Lib.hid (HB1.out.trans (hb.mono HB1.out.size))
  have HT1b := Lib.hid (HT1.out.below hb)
  clear hb
  go_wp2_with fail
  refine (H3.out _ (HA.out.below HB2.out)).mono ?_; rintro e1 wc ⟨v2, rfl, hT, hb⟩
  have HB3 := Lib.hid (HB2.out.trans (hb.mono HB2.out.size))
  have HT2 := Lib.hid hT
  have HT1c := Lib.hid (HT1b.out.below hb)
  clear hb hT
  go_wp2_with fail
  refine (H4.out _ (HA.out.below HB3.out)).mono ?_; rintro e1 wd ⟨rfl, hb⟩
  have HB4 := Lib.hid (HB3.out.trans (hb.mono HB3.out.size))
  have HT1d := Lib.hid (HT1c.out.below hb)
  have HT2d := Lib.hid (HT2.out.below hb)
  clear hb
  go_wp2_with fail
  refine (HS.out wd _ _ v1 v2 HT1d.out HT2d.out).mono ?_; rintro e1 we ⟨rfl, hb⟩
  have HB5 := Lib.hid (HB4.out.trans (hb.mono HB4.out.size))
  clear hb
  go_wp2_with fail
  go_ret
  exact ⟨rfl, HB5.out⟩
end Go.Proofs.YtmgndhdikleagaaDoor
