/- The laws of hard links over drawn trees: LinkGroups, LinkCounts, LinkAnew. -/
import Derived.Test.YtoplcelimdkjeaaGreatDoorLnkK
set_option linter.unusedVariables false
set_option maxRecDepth 100000
namespace Go.Proofs.YtoplcelimdkjeaaGreatDoor
open Go.RowKit
open Go.OpenShut
theorem own_sel' {w : World} {B : Nat} {v : Value} {xs : List NodP} {l : List NodeV} (h : OwnN w B v xs) (hm : xs.map (·.1) = l) : ∃ A c, v = .slice A l.length c ∧ SlOk A l.length c ∧ NodesAt w A l := by
  obtain ⟨A, c, e, h1, h2⟩ := h.at
  have hl : xs.length = l.length := by rw [← hm, List.length_map]
  rw [hm] at h2
  rw [hl] at e h1
  exact ⟨A, c, e, h1, h2⟩
theorem sm_tree3 : treeE [smA, smB, smC] = 0 := by decide +kernel
theorem sm_sz3 : ∀ x ∈ [smA, smB, smC], x.sz := fun x hx => nodE_sz (((treeE_zero _).1 sm_tree3).2.node x hx)
theorem sm_fs : fsL [smA, smB, smC] = [0, 1, 2] := by decide +kernel
theorem sm_nm : nmL [smA, smB, smC] = [1, 1, 1] := by decide +kernel
theorem three_ints (W : World) (a b c : Int) : NumsAt (W.alloc (.cells #[.int .i64 a, .int .i64 b, .int .i64 c] 3)) (some ⟨W.heap.size, 0, none⟩) [a, b, c] := fun j hj => by
  have hb := Blk.new W 3 #[.int .i64 a, .int .i64 b, .int .i64 c]
  match j, hj with
  | 0, _ => exact ⟨_, 0, rfl, hb.cell 0⟩
  | 1, _ => exact ⟨_, 0, rfl, hb.cell 1⟩
  | 2, _ => exact ⟨_, 0, rfl, hb.cell 2⟩
set_option maxHeartbeats 4000000 in
theorem LinkAnew_walk (A0 : Option Addr) (n0 c0 : Nat) (rs0 : List RawV) (hn0 : rs0.length = n0) (hm0 : n0 ≤ 140737488355328) (hf0 : ∀ r ∈ rs0, r.wf) (w : World) (hr0 : RawsAt w A0 rs0) :
    Calls Tryz.prog 3 #[.slice A0 n0 c0] w fun e w' => e = .returned (.bool true) ∧ Below w.heap.size w w' := by
  have HD := Lib.hid (drawn_any A0 n0 c0 rs0 hn0 hm0 hf0 30 (by omega) w hr0)
  clear hn0 hf0 hr0
  go_enter Tryz.func3, Tryz.ntmps3
  go_wp2_with fail
  refine HD.out.mono ?_; rintro e w1 ⟨l, T, k, d, rfl, hk, -, hS, hN, hk30, hSo, hsz, hB⟩
  have ht := sound_tree hSo (by omega)
  have hSa := sound_anew hSo
  have hlen : (anewF l).length = k := by rw [anewF_len]; exact hk
  have hta := sound_tree hSa (by omega)
  have HT2 := Lib.hid fun (A : Option Addr) (c : Nat) (hs : SlOk A k c) (W : World) (hN : NodesAt W A (anewF l)) => by
    have h := lAnew_any A k c (anewF l) hlen hs (fun x hx => nodE_sz (hSa.node x hx)) W hN
    rw [hta, if_pos rfl, anew_again fun i => hSo.pos i] at h
    exact h
  have HT3 := Lib.hid fun (g : Nat) (W : World) (hN : NodesAt W (some ⟨g, 0, none⟩) [smA, smB, smC]) => by
    have h := lAnew_any (some ⟨g, 0, none⟩) 3 3 [smA, smB, smC] rfl ⟨Nat.le_refl _, by decide, fun e => by cases e⟩ sm_sz3 W hN
    rw [sm_tree3, if_pos rfl] at h
    exact h
  have HAl := Lib.hid fun (A : Option Addr) (c : Nat) (W : World) (h1 : NodesAt W A (anewF l)) (h2 : NodesAt W T l) => Alike_yes A T k c d (anewF l) l hlen hk (by omega) (alike_anew hSo) W h1 h2
  have HST := Lib.hid fun (A A2 : Option Addr) (c c2 : Nat) (W : World) (h1 : NodesAt W A (anewF l)) (h2 : NodesAt W A2 (anewF l)) => by
    have h := keepTree_any A A2 k c k c2 (anewF l) (anewF l) hlen hlen (by omega) (by omega) W h1 h2
    rw [decide_eq_true rfl] at h
    exact h
  have h1 := lAnew_any T k d l hk hS hsz w1 hN
  rw [ht, if_pos rfl] at h1
  have H1 := Lib.hid h1
  have HB1 := Lib.hid hB
  have HN1 := Lib.hid hN
  have HK := Lib.hid hlen
  clear hB hN hk hS hSo hsz ht hSa hlen hta h1 HD
  go_wp2_with fail
  refine H1.out.mono ?_; rintro e w2 ⟨v, xs, rfl, hm, ho, hb⟩
  obtain ⟨Ax, cx, rfl, hsx, hNx⟩ := own_sel' ho hm
  rw [HK.out] at hsx ⊢
  have H2 := Lib.hid (HT2.out Ax cx hsx w2 hNx)
  have HNx := Lib.hid hNx
  have HN1b := Lib.hid (HN1.out.below hb)
  have HB2 := Lib.hid (HB1.out.trans (hb.mono HB1.out.size))
  clear hm ho hNx hb hsx H1 HN1
  go_wp2_with fail
  refine H2.out.mono ?_; rintro e w3 ⟨v, ys, rfl, hm, ho, hb⟩
  obtain ⟨Ay, cy, rfl, -, hNy⟩ := own_sel' ho hm
  rw [HK.out]
  have HNy := Lib.hid hNy
  have HNx2 := Lib.hid (HNx.out.below hb)
  have HN1c := Lib.hid (HN1b.out.below hb)
  have HB3 := Lib.hid (HB2.out.trans (hb.mono HB2.out.size))
  clear hm ho hNy hb H2 HN1b HNx
  go_wp2_with fail
  refine (small_any _).mono ?_; rintro e w4 ⟨g, rfl, hNs, hb⟩
  have H3 := Lib.hid (HT3.out g w4 hNs)
  have HNy2 := Lib.hid (HNy.out.below hb)
  have HNx3 := Lib.hid (HNx2.out.below hb)
  have HN1d := Lib.hid (HN1c.out.below hb)
  have HB4 := Lib.hid (HB3.out.trans (hb.mono HB3.out.size))
  clear hNs hb HN1c HNx2 HNy
  go_wp2_with fail
  refine H3.out.mono ?_; rintro e w5 ⟨v, zs, rfl, hm, ho, hb⟩
  obtain ⟨Az, cz, rfl, -, -⟩ := own_sel' ho hm
  rw [anewF_len]
  have HNy3 := Lib.hid (HNy2.out.below hb)
  have HNx4 := Lib.hid (HNx3.out.below hb)
  have HN1e := Lib.hid (HN1d.out.below hb)
  have HB5 := Lib.hid (HB4.out.trans (hb.mono HB4.out.size))
  clear hm ho hb HN1d HNx3 HNy2 H3
  go_wp2_with fail
  refine (HAl.out Ax cx w5 HNx4.out HN1e.out).mono ?_; rintro e w6 ⟨rfl, hb⟩
  have HB6 := Lib.hid (HB5.out.trans (hb.mono HB5.out.size))
  have H6 := Lib.hid (HST.out Ax Ay cx cy w6 (HNx4.out.below hb) (HNy3.out.below hb))
  clear hb
  go_wp2_with fail
  refine H6.out.mono ?_; rintro e w7 ⟨rfl, hb⟩
  have HB7 := Lib.hid (HB6.out.trans (hb.mono HB6.out.size))
  clear hb
  go_wp2_with fail
  go_ret
  exact ⟨rfl, HB7.out⟩
end Go.Proofs.YtoplcelimdkjeaaGreatDoor
