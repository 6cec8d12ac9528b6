/- Copies of trees: tree.Copy, and the reference's. -/
import Derived.Test.YtoplcelimdkjeaaGreatDoorTrgE
import Derived.Deep.DeepCutAuto
set_option linter.unusedVariables false
set_option maxRecDepth 100000
namespace Go.Proofs.YtoplcelimdkjeaaGreatDoor
open Go.RowKit
open Go.OpenShut
theorem RowN.row {w : World} {B : Nat} {v : Value} {xs : List NodP} (h : RowN w B v xs) (hx : 0 < xs.length) : ∃ g cap, v = .slice (some ⟨g, 0, none⟩) xs.length cap ∧ B ≤ g ∧ g < w.heap.size ∧ xs.length ≤ cap ∧ cap ≤ maxLen := by
  have h' := h
  unfold RowN World.ownsRow at h
  rcases h.2 with ⟨rfl, h0⟩ | ⟨g, cap, cur, rfl, hB, hg, hcap, hm, hs, ht⟩
  · omega
  · exact ⟨g, cap, rfl, hB, (World.ownsRow.lt h' g rfl).2, hcap, hm⟩
/-- writing the data of the j-th node -/
theorem RowN.setData {w : World} {B g cap n : Nat} {xs : List NodP} (h : RowN w B (.slice (some ⟨g, 0, none⟩) n cap) xs) (hn : n = xs.length) (j : Nat) (hj : j < xs.length) (v : Value) :
    RowN (w.setCell ⟨g, j * 12 + 11, none⟩ v) B (.slice (some ⟨g, 0, none⟩) n cap) (xs.set j (xs[j].1, v)) ∧ w.grownBy (w.setCell ⟨g, j * 12 + 11, none⟩ v) (some g) := by
  subst hn
  unfold RowN at h ⊢
  obtain ⟨h1, h2⟩ := World.ownsRow.stored h (j * 12 + 11) v
  rw [rowN_set xs j v hj] at h1
  rw [List.length_set]
  exact ⟨h1, h2⟩
theorem set_last (xs : List NodP) (y z : NodP) : (xs ++ [y]).set xs.length z = xs ++ [z] := by
  rw [List.set_append_right _ _ (Nat.le_refl _), Nat.sub_self]; rfl
theorem get_last (xs : List NodP) (y : NodP) (h : xs.length < (xs ++ [y]).length) : (xs ++ [y])[xs.length] = y := by simp
theorem map_snoc_take {l : List NodeV} {xs : List NodP} {k : Nat} (hk : k < l.length) (h : xs.map (·.1) = l.take k) (v : Value) : (xs ++ [(l[k], v)]).map (·.1) = l.take (k + 1) := by
  rw [List.map_append, h, List.take_succ_eq_append_getElem hk]; rfl
theorem map_len {l : List NodeV} {xs : List NodP} {k : Nat} (hk : k ≤ l.length) (h : xs.map (·.1) = l.take k) : xs.length = k := by
  have := congrArg List.length h
  rw [List.length_map, List.length_take] at this; omega
set_option maxHeartbeats 4000000 in
theorem Copy_any (A : Option Addr) (n c : Nat) (l : List NodeV) (hn : l.length = n) (hm : n * 144 ≤ 140737488351232) (hsz : ∀ x ∈ l, x.sz) (w : World) (hA : NodesAt w A l) :
    Calls Tryz.prog 23 #[.slice A n c] w fun e w' => ∃ v xs, e = .returned v ∧ xs.map (·.1) = l ∧ OwnN w' w.heap.size v xs ∧ Below w.heap.size w w' := by
  obtain ⟨i0, hi, hz0, hz1, hz2⟩ := info_parts zinfo
  obtain ⟨M, hmk, hown⟩ := madeN_room w n (by omega) i0 hi hz0 hz1 hz2
  have HO := Lib.hid (hown w w.heap.size (Nat.le_refl _))
  have HB0 : Hid (Below w.heap.size w (w.alloc (.cells M 37))) := (Below.refl _ _).alloc (Nat.le_refl _) _
  have HN := Lib.hid hn
  have HA := Lib.hid hA
  have HSZ := Lib.hid hsz
  clear hn hA hsz hown hi hz0 hz1 hz2
  go_enter Tryz.func23, Tryz.ntmps23
  go_wp2_with fail
  go_loopw [3, 11] (fun ov i wr => ∃ k : Nat, k ≤ n ∧ i = .int .i64 k ∧ ∃ xs : List NodP, Hid (OwnN wr w.heap.size ov xs) ∧ Hid (xs.map (·.1) = l.take k) ∧ Hid (Below w.heap.size w wr)) (fun _ i _ => n - (intOf i).toNat)
  case atStart => exact ⟨0, Nat.zero_le _, rfl, [], HO.out, by unfold Hid; rw [List.take_zero]; rfl, HB0.out⟩
  case round =>
    obtain ⟨k, hk, rfl, xs, HX, HT, HB⟩ := hrel
    by_cases hlt : k < n
    · have hk1 : k < l.length := by rw [HN.out]; exact hlt
      obtain ⟨b, o, D, cc, rfl, c0, c1, c2', c3, ⟨c4, c5, c6, c7, c8, c9, cA⟩, cB, -, hD⟩ := (HA.out.below HB.out).cells k hk1
      have hxsz := HSZ.out _ (List.getElem_mem hk1)
      have HT2 := Lib.hid fun v => map_snoc_take hk1 HT.out v
      have hlen := map_len (by omega) HT.out
      generalize hx : l[k] = x at *
      have HC := Lib.hid fun W h => copyOf_any x D cc hxsz W h
      unfold nodC at HC
      have HD := Lib.hid hD
      clear hD hxsz hx
      go_upto_region 5 with fail
      have HBl := Blk.new wr 37 #[.string (bs x.path), .int .i64 x.kind, .int .i64 x.same, .string (bs x.target), .int .i64 x.md.mode, .int .i64 x.md.uid, .int .i64 x.md.gid, .string (bs x.md.user), .string (bs x.md.group), .int .i64 x.md.second, .int .i64 x.md.nano, .slice D x.data.length cc]
      have hBa : ∀ o, Below wr.heap.size wr (wr.alloc o) := fun o => belowA (Below.refl _ _) o
      generalize hwa : wr.alloc _ = wa at HBl ⊢
      have HBa : Hid (Below wr.heap.size wr wa) := by rw [← hwa]; exact hBa _
      obtain ⟨⟨e0, e1, e2, e3, e4, e5, e6, e7, e8, e9, eA, eB⟩, -⟩ := blk12 HBl
      clear hwa c0 c1 c2' c3 c4 c5 c6 c7 c8 c9 cA cB HBl hBa
      go_wp2_with fail
      refine (HC.out _ (HD.out.below HBa.out)).mono ?_; rintro e w5 ⟨v, rfl, hO, hb⟩
      have HBr : Hid (Below wr.heap.size wr w5) := HBa.out.trans (hb.mono HBa.out.size)
      have HOv := Lib.hid (hO.mono (B' := w.heap.size) (Nat.le_trans HB.out.size HBa.out.size))
      obtain ⟨Av, cv, rfl, -, -⟩ := hO.form
      have HX5 := Lib.hid (HX.out.below HBr.out)
      have HB5 := Lib.hid (HB.out.trans (HBr.out.mono HB.out.size))
      unfold nodV
      clear hO hb e0 e1 e2 e3 e4 e5 e6 e7 e8 e9 eA eB
      go_wp2_with (at_builtin; refine Stay.go ?_)
      refine Stay.on ?_
      refine append_nodes rfl (.tmp 15) (.tmp 18) rfl w.heap.size _ xs rfl (HX5.out.1.alloc _) (some ⟨w5.heap.size, 0, none⟩) 1 1 [(x, .slice Av x.data.length cv)] rfl rfl (cells_new w5 (x, .slice Av x.data.length cv)) (by simp [Value.oneCell']) (fun e => by cases e) (by omega) (by simp; have := HB5.out.size; omega) ?_
      intro v6 w6 hown6 hgrow
      have HX6 := Lib.hid (OwnN.push (HX5.out.alloc _) (HOv.out.below (belowA (Below.refl w5.heap.size w5) _) |>.mono (Nat.le_refl _)) hown6 hgrow)
      have HB6 : Hid (Below w.heap.size w w6) := (HB5.out.alloc HB5.out.size _).grown hgrow (by simp; have := HB5.out.size; omega) HX5.out.1.above
      have HT6 := Lib.hid (HT2.out (.slice Av x.data.length cv))
      clear hown6 hgrow
      go_wp2_with fail
      go_roundw
      case rel => exact ⟨k + 1, by omega, by go_num, _, HX6.out, HT6.out, HB6.out⟩
      case measure => simp [intOf]; omega
    · obtain rfl : k = n := by omega
      have HV : Hid (xs.map (·.1) = l) := by
        have := HT.out
        rwa [List.take_of_length_le (by rw [HN.out]; omega)] at this
      go_wp2_with fail
      go_ret
      exact ⟨_, xs, rfl, HV.out, HX.out, HB.out⟩
end Go.Proofs.YtoplcelimdkjeaaGreatDoor
