/- Copies of trees: tree.Copy, and the reference's. -/
import Derived.Test.YtoikpnjnljdpaaaDoorTrgE
import Derived.Deep.DeepCutAuto
set_option linter.unusedVariables false
set_option maxRecDepth 100000
namespace Go.Proofs.YtoikpnjnljdpaaaDoor
open Go.RowKit
open Go.OpenShut
theorem RowN.row {w : World} {B : Nat} {v : Value} {xs : List NodP} (h : RowN w B v xs) (hx : 0 < xs.length) : ∃ g cap, v = .slice (some ⟨g, 0, none⟩) xs.length cap ∧ B ≤ g ∧ g < w.heap.size ∧ xs.length ≤ cap ∧ cap ≤ maxLen := by
  have h' := h
  unfold RowN World.ownsRow at h
  rcases h.2 with ⟨rfl, h0⟩ | ⟨g, cap, cur, rfl, hB, hg, hcap, hm, hs, ht⟩
  · omega
  · exact ⟨g, cap, rfl, hB, (World.ownsRow.lt h' g rfl).2, hcap, hm⟩
/-- writing the data of the j-th node -/
theorem RowN.setData {w : World} {B g cap n : Nat} {xs : List NodP} (h : RowN w B (.slice (some ⟨g, 0, none⟩) n cap) xs) (hn : n = xs.length) (j : Nat) (hj : j < xs.length) (v : Value) :
    RowN (w.setCell ⟨g, j * 12 + 11, none⟩ v) B (.slice (some ⟨g, 0, none⟩) n cap) (xs.set j (xs[j].1, v)) ∧ w.grownBy (w.setCell ⟨g, j * 12 + 11, none⟩ v) (some g) := by
  subst hn
  unfold RowN at h ⊢
  obtain ⟨h1, h2⟩ := World.ownsRow.stored h (j * 12 + 11) v
  rw [rowN_set xs j v hj] at h1
  rw [List.length_set]
  exact ⟨h1, h2⟩
theorem set_last (xs : List NodP) (y z : NodP) : (xs ++ [y]).set xs.length z = xs ++ [z] := by
  rw [List.set_append_right _ _ (Nat.le_refl _), Nat.sub_self]; rfl
theorem get_last (xs : List NodP) (y : NodP) (h : xs.length < (xs ++ [y]).length) : (xs ++ [y])[xs.length] = y := by simp
theorem map_snoc_take {l : List NodeV} {xs : List NodP} {k : Nat} (hk : k < l.length) (h : xs.map (·.1) = l.take k) (v : Value) : (xs ++ [(l[k], v)]).map (·.1) = l.take (k + 1) := by
  rw [List.map_append, h, List.take_succ_eq_append_getElem hk]; rfl
theorem map_len {l : List NodeV} {xs : List NodP} {k : Nat} (hk : k ≤ l.length) (h : xs.map (·.1) = l.take k) : xs.length = k := by
  have := congrArg List.length h
  rw [List.length_map, List.length_take] at this; omega
set_option maxHeartbeats 4000000 in
theorem Copy_any (A : Option Addr) (n c : Nat) (l : List NodeV) (hn : l.length = n) (hm : n * 144 ≤ 140737488351232) (hsz : ∀ x ∈ l, x.sz) (w : World) (hA : NodesAt w A l) :
    Calls Tryd.prog 24 #[.slice A n c] w fun e w' => ∃ v xs, e = .returned v ∧ xs.map (·.1) = l ∧ OwnN w' w.heap.size v xs ∧ Below w.heap.size w w' := by
  obtain ⟨i0, hi, hz0, hz1, hz2⟩ := info_parts zinfo
  obtain ⟨M, hmk, hown⟩ := madeN_room w n (by omega) i0 hi hz0 hz1 hz2
  have HO := Lib.hid (hown w w.heap.size (Nat.le_refl _))
  have HB0 : Hid (Below w.heap.size w (w.alloc (.cells M 48))) := (Below.refl _ _).alloc (Nat.le_refl _) _
  have HN := Lib.hid hn
  have HA := Lib.hid hA
  have HSZ := Lib.hid hsz
  clear hn hA hsz hown hi hz0 hz1 hz2
  go_enter Tryd.func24, Tryd.ntmps24
  go_wp2_with fail
  go_loopw [3, 11] (fun ov i wr => ∃ k : Nat, k ≤ n ∧ i = .int .i64 k ∧ ∃ xs : List NodP, Hid (OwnN wr w.heap.size ov xs) ∧ Hid (xs.map (·.1) = l.take k) ∧ Hid (Below w.heap.size w wr)) (fun _ i _ => n - (intOf i).toNat)
  case atStart => exact ⟨0, Nat.zero_le _, rfl, [], HO.out, by unfold Hid; rw [List.take_zero]; rfl, HB0.out⟩
  case round =>
    obtain ⟨k, hk, rfl, xs, HX, HT, HB⟩ := hrel
    by_cases hlt : k < n
    · have hk1 : k < l.length := by rw [HN.out]; exact hlt
      obtain ⟨b, o, D, cc, rfl, c0, c1, c2', c3, ⟨c4, c5, c6, c7, c8, c9, cA⟩, cB, -, hD⟩ := (HA.out.below HB.out).cells k hk1
      have hxsz := HSZ.out _ (List.getElem_mem hk1)
      have HT2 := Lib.hid fun v => map_snoc_take hk1 HT.out v
      have hlen := map_len (by omega) HT.out
      generalize hx : l[k] = x at *
      have HC := Lib.hid fun W h => copyOf_any x D cc hxsz W h
      unfold nodC at HC
      have HD := Lib.hid hD
      clear hD hxsz hx
      go_upto_region 5 with fail
      have HBl := Blk.new wr 48 #[.string (bs x.path), .int .i64 x.kind, .int .i64 x.same, .string (bs x.target), .int .i64 x.md.mode, .int .i64 x.md.uid, .int .i64 x.md.gid, .string (bs x.md.user), .string (bs x.md.group), .int .i64 x.md.second, .int .i64 x.md.nano, .slice D x.data.length cc]
      have hBa : ∀ o, Below wr.heap.size wr (wr.alloc o) := fun o => belowA (Below.refl _ _) o
      generalize hwa : wr.alloc _ = wa at HBl ⊢
      have HBa : Hid (Below wr.heap.size wr wa) := by rw [← hwa]; exact hBa _
      obtain ⟨⟨e0, e1, e2, e3, e4, e5, e6, e7, e8, e9, eA, eB⟩, -⟩ := blk12 HBl
      clear hwa c0 c1 c2' c3 c4 c5 c6 c7 c8 c9 cA cB HBl hBa
      go_wp2_with fail
      refine (HC.out _ (HD.out.below HBa.out)).mono ?_; rintro e w5 ⟨v, rfl, hO, hb⟩
      have HBr : Hid (Below wr.heap.size wr w5) := HBa.out.trans (hb.mono HBa.out.size)
      have HOv := Lib.hid (hO.mono (B' := w.heap.size) (Nat.le_trans HB.out.size HBa.out.size))
      obtain ⟨Av, cv, rfl, -, -⟩ := hO.form
      have HX5 := Lib.hid (HX.out.below HBr.out)
      have HB5 := Lib.hid (HB.out.trans (HBr.out.mono HB.out.size))
      unfold nodV
      clear hO hb e0 e1 e2 e3 e4 e5 e6 e7 e8 e9 eA eB
      go_wp2_with (at_builtin; refine Stay.go ?_)
      refine Stay.on ?_
      refine append_nodes rfl (.tmp 15) (.tmp 18) rfl w.heap.size _ xs rfl (HX5.out.1.alloc _) (some ⟨w5.heap.size, 0, none⟩) 1 1 [(x, .slice Av x.data.length cv)] rfl rfl (cells_new w5 (x, .slice Av x.data.length cv)) (by simp [Value.oneCell']) (fun e => by cases e) (by omega) (by simp; have := HB5.out.size; omega) ?_
      intro v6 w6 hown6 hgrow
      have HX6 := Lib.hid (OwnN.push (HX5.out.alloc _) (HOv.out.below (belowA (Below.refl w5.heap.size w5) _) |>.mono (Nat.le_refl _)) hown6 hgrow)
      have HB6 : Hid (Below w.heap.size w w6) := (HB5.out.alloc HB5.out.size _).grown hgrow (by simp; have := HB5.out.size; omega) HX5.out.1.above
      have HT6 := Lib.hid (HT2.out (.slice Av x.data.length cv))
      clear hown6 hgrow
      go_wp2_with fail
      go_roundw
      case rel => exact ⟨k + 1, by omega, by go_num, _, HX6.out, HT6.out, HB6.out⟩
      case measure => simp [intOf]; omega
    · obtain rfl : k = n := by omega
      have HV : Hid (xs.map (·.1) = l) := by
        have := HT.out
        rwa [List.take_of_length_le (by rw [HN.out]; omega)] at this
      go_wp2_with fail
      go_ret
      exact ⟨_, xs, rfl, HV.out, HX.out, HB.out⟩
set_option maxHeartbeats 4000000 in
theorem rCopy_any (A : Option Addr) (n c : Nat) (l : List NodeV) (hn : l.length = n) (hm : n * 144 ≤ 140737488351232) (hsz : ∀ x ∈ l, x.sz) (w : World) (hA : NodesAt w A l) :
    Calls Tryd.prog 25 #[.slice A n c] w fun e w' => ∃ v xs, e = .returned v ∧ xs.map (·.1) = l ∧ OwnN w' w.heap.size v xs ∧ Below w.heap.size w w' := by
  have HN := Lib.hid hn
  have HA := Lib.hid hA
  have HSZ := Lib.hid hsz
  clear hn hA hsz
  go_enter Tryd.func25, Tryd.ntmps25
  go_wp2_with fail
  go_loopw [3, 4] (fun ov i wr => ∃ k : Nat, k ≤ n ∧ i = .int .i64 k ∧ ∃ xs : List NodP, Hid (OwnN wr w.heap.size ov xs) ∧ Hid (xs.map (·.1) = l.take k) ∧ Hid (Below w.heap.size w wr)) (fun _ i _ => n - (intOf i).toNat)
  case atStart => exact ⟨0, Nat.zero_le _, rfl, [], OwnN.nil _ _, by unfold Hid; rw [List.take_zero]; rfl, Below.refl _ _⟩
  case round =>
    obtain ⟨k, hk, rfl, xs, HX, HT, HB⟩ := hrel
    by_cases hlt : k < n
    · have hk1 : k < l.length := by rw [HN.out]; exact hlt
      obtain ⟨b, o, D, cc, rfl, hb1, hSl, hD, hcl⟩ := HA.out.cells2 k hk1
      have hxsz := HSZ.out _ (List.getElem_mem hk1)
      have HT2 := Lib.hid fun v => map_snoc_take hk1 HT.out v
      have hlen := map_len (by omega) HT.out
      generalize hx : l[k] = x at *
      have hdl := hxsz.1.2.2
      have HD := Lib.hid hD
      have hcn := hSl.2.2
      have HCL := Lib.hid hcl
      obtain ⟨c0, c1, c2', c3, ⟨c4, c5, c6, c7, c8, c9, cA⟩, cB⟩ := hcl wr HB.out
      clear hD hxsz hx hSl hcl
      go_wp2_with (at_builtin; refine Stay.go ?_)
      refine Stay.on ?_
      refine append_nodes rfl (.tmp 11) (.tmp 16) rfl w.heap.size _ xs rfl (HX.out.1.alloc _) (some ⟨wr.heap.size, 0, none⟩) 1 1 [(x, .slice D x.data.length cc)] rfl rfl (cells_new wr (x, .slice D x.data.length cc)) (by simp [Value.oneCell']) (fun e => by cases e) (by omega) (by simp; have := HB.out.size; omega) ?_
      intro v6 w6 hown6 hgrow
      have HB6 : Hid (Below w.heap.size w w6) := (HB.out.alloc HB.out.size _).grown hgrow (by simp; have := HB.out.size; omega) HX.out.1.above
      have HX6 : Hid (∀ y ∈ xs, OwnB w6 w.heap.size y.2 y.1.data) := fun y hy => ((HX.out.2 y hy).alloc _).grown hgrow fun g e e2 => own_apart (HX.out.2 y hy) HX.out.1 g e e2
      have hl6 : (xs ++ [((x, .slice D x.data.length cc) : NodP)]).length = k + 1 := by rw [List.length_append, hlen]; rfl
      obtain ⟨g, cap, rfl, hgB, hgl, hcap1, hcap2⟩ := hown6.row (by omega)
      rw [hl6] at hcap1 hown6 ⊢
      have HR6 := Lib.hid hown6
      have HBa : Hid (Below w6.heap.size w6 (w6.alloc (.cells #[] 5))) := (Below.refl _ _).alloc (Nat.le_refl _) _
      have HO0 : Hid (OwnB (w6.alloc (.cells #[] 5)) w6.heap.size (.slice (some ⟨w6.heap.size, 0, none⟩) 0 0) []) := World.ownsRow_lit (e := 5) (size := 1) w6 #[] 0 (Nat.le_refl _) (by decide) rfl
      have hB6a := HB6.out.trans (HBa.out.mono HB6.out.size)
      have hcell := (HCL.out _ hB6a).2.2.2.2.2
      have HD6 := Lib.hid (HD.out.below hB6a)
      clear hown6 hgrow c0 c1 c2' c3 c4 c5 c6 c7 c8 c9 cA cB
      go_wp2_with (at_builtin; refine Stay.go ?_)
      refine Stay.on ?_
      refine append_byts rfl (.tmp 20) (.tmp 25) rfl w6.heap.size _ [] rfl HO0.out D _ cc x.data rfl rfl HD6.out hcn (by simp; omega) (by simp) ?_
      intro v7 w7 ho7 hb7
      have HB7 : Hid (Below w6.heap.size w6 w7) := hb7 _ HBa.out
      have HO7 : Hid (OwnB w7 w6.heap.size v7 x.data) := ho7
      have HR7 := Lib.hid (HR6.out.below HB7.out)
      have hcl7 : w7.cell? ⟨g, k * 12 + 11, none⟩ = some (.slice D x.data.length cc) := by
        have h1 := HR7.out
        unfold RowN at h1
        rw [hl6] at h1
        rw [World.ownsRow.cellAt h1 (k * 12 + 11) (by omega), rowN_get _ k 11 (by rw [hl6]; omega) (by omega)]
        have h2 := get_last xs (x, .slice D x.data.length cc) (by rw [hl6, hlen]; omega)
        simp only [hlen] at h2
        rw [h2]; rfl
      have hfr7 : w7.frozen? ⟨g, k * 12 + 11, none⟩ = false := by
        have h1 := HR7.out
        unfold RowN at h1
        rw [hl6] at h1
        exact World.ownsRow.frozenAt h1 _
      obtain ⟨Av, cv, rfl, -, -⟩ := ho7.form
      obtain ⟨h8, hg8⟩ := HR7.out.setData hl6.symm k (by rw [hl6]; omega) (.slice Av x.data.length cv)
      have hgl' := get_last xs (x, .slice D x.data.length cc) (by rw [hl6, hlen]; omega)
      have hst := set_last xs (x, .slice D x.data.length cc) (x, .slice Av x.data.length cv)
      simp only [hlen] at hgl' hst
      rw [hgl', hst] at h8
      have HX8 : Hid (OwnN (w7.setCell ⟨g, k * 12 + 11, none⟩ (.slice Av x.data.length cv)) w.heap.size (.slice (some ⟨g, 0, none⟩) (k + 1) cap) (xs ++ [(x, .slice Av x.data.length cv)])) := by
        refine ⟨h8, fun y hy => ?_⟩
        rcases List.mem_append.1 hy with a | a
        · have h9 := (HX6.out y a).below HB7.out
          exact h9.grown hg8 fun g' e e2 => own_apart h9 HR7.out g' e e2
        · obtain rfl : y = (x, .slice Av x.data.length cv) := by simpa using a
          exact (HO7.out.setBelow hgl _ _).mono HB6.out.size
      have HB8 : Hid (Below w.heap.size w (w7.setCell ⟨g, k * 12 + 11, none⟩ (.slice Av x.data.length cv))) := Below.set1 (HB6.out.trans (HB7.out.mono HB6.out.size)) hgB _ _
      have HT8 := Lib.hid (HT2.out (.slice Av x.data.length cv))
      clear ho7 hb7 h8 hg8 hgl' hst hcell
      go_wp2_with fail
      go_roundw
      case rel => exact ⟨k + 1, by omega, by go_num, _, HX8.out, HT8.out, HB8.out⟩
      case measure => simp [intOf]; omega
    · obtain rfl : k = n := by omega
      have HV : Hid (xs.map (·.1) = l) := by
        have := HT.out
        rwa [List.take_of_length_le (by rw [HN.out]; omega)] at this
      go_wp2_with fail
      go_ret
      exact ⟨_, xs, rfl, HV.out, HX.out, HB.out⟩
end Go.Proofs.YtoikpnjnljdpaaaDoor
