/- tree.Put. -/
import Derived.Test.YtggbjpjmedkjeaaGreatDoorTrgH
import Derived.Deep.RegionHeld3
import Derived.Deep.DeepCutAuto
set_option linter.unusedVariables false
set_option maxRecDepth 100000
namespace Go.Proofs.YtggbjpjmedkjeaaGreatDoor
open Go.RowKit
open Go.OpenShut
theorem elem_nodes : Tryz.prog.underlying 23 = some (.slice (Tryz.prog.elem 23)) := by kernel_rfl
theorem size_node : ∀ W, (sizeOf (Tryz.prog.elem 23)).run Tryz.prog W = .ok 12 W := by
  intro W
  have e : Tryz.prog.elem 23 = 32 := by kernel_rfl
  rw [e]; exact Tryz.sizeOf32 W
/-- where a slice of nodes lies that begins at k -/
def cutN (A : Option Addr) (c k : Nat) : Option Addr := if c = k then A else A.map (·.add (k * 12))
theorem cutN_zero (A : Option Addr) (c : Nat) : cutN A c 0 = A := by
  unfold cutN
  split
  · rfl
  · cases A with
    | none => rfl
    | some a => simp [Addr.add]
theorem nslice_to (W : World) (A : Option Addr) (n c k : Nat) (h : k ≤ c) : (Instr.slice 23 (.slice A n c) none (some (.int .i64 (k : Int))) none).run Tryz.prog W = .ok (.slice A k c) W := by
  rw [run_slice_h W 23 A n c elem_nodes .i64 (k : Int) (by omega) (by omega), size_node]
  have e := cutN_zero A c
  unfold cutN at e
  simp [Result.andThen, sliced] at e ⊢
  exact e
theorem nslice_from (W : World) (A : Option Addr) (n c k : Nat) (h : k ≤ n) : (Instr.slice 23 (.slice A n c) (some (.int .i64 (k : Int))) none none).run Tryz.prog W = .ok (.slice (cutN A c k) (n - k) (c - k)) W := by
  rw [run_slice_l W 23 A n c elem_nodes .i64 (k : Int) (by omega) (by omega), size_node]
  simp [Result.andThen, sliced, cutN]
theorem CellsN.take {w : World} {A : Option Addr} {ys : List NodP} (h : CellsN w A ys) (k : Nat) : CellsN w A (ys.take k) := fun ad ha j u hu => by
  refine h ad ha j u ?_
  have e : rowN ys = rowN (ys.take k) ++ rowN (ys.drop k) := by rw [← rowN_app, List.take_append_drop]
  rw [e, List.getElem?_append_left (List.getElem?_eq_some_iff.1 hu).1]; exact hu
theorem CellsN.drop {w : World} {A : Option Addr} {ys : List NodP} (h : CellsN w A ys) {c k : Nat} (hc : ys.length ≤ c) (hk : k ≤ ys.length) : CellsN w (cutN A c k) (ys.drop k) := fun ad ha j u hu => by
  have hj := (List.getElem?_eq_some_iff.1 hu).1
  rw [rowN_length, List.length_drop] at hj
  have hne : c ≠ k := by omega
  unfold cutN at ha
  rw [if_neg hne] at ha
  cases A with
  | none => cases ha
  | some a =>
    simp only [Option.map_some, Option.some.injEq] at ha
    subst ha
    rw [Go.Deep.add_add]
    refine h a rfl _ u ?_
    have e : rowN ys = rowN (ys.take k) ++ rowN (ys.drop k) := by rw [← rowN_app, List.take_append_drop]
    rw [e, List.getElem?_append_right (by rw [rowN_length, List.length_take]; omega), rowN_length, List.length_take, Nat.min_eq_left hk, Nat.add_sub_cancel_left]
    exact hu
theorem cutN_none {A : Option Addr} {c k : Nat} (h : cutN A c k = none) : A = none := by
  unfold cutN at h
  split at h
  · exact h
  · cases A with
    | none => rfl
    | some a => cases h
/-- the cells of one node at a block -/
theorem cells_one {w : World} {g : Nat} {y : NodP} (h : Blk w g 32 (nodV y.1 y.2).toArray) : CellsN w (some ⟨g, 0, none⟩) [y] := fun ad ha j u hu => by
  injection ha with ha
  subst ha
  rw [rowN_one] at hu
  rw [Addr.add_lit, Nat.zero_add, h.cell j, List.getElem?_toArray]; exact hu
theorem putT_bad {l : List NodeV} {x : NodeV} (h : treeE l ≠ 0) : putT l x = ([], treeE l) := if_pos h
theorem putT_bad2 {l : List NodeV} {x : NodeV} (h : treeE l = 0) (h2 : treeE (putL l x) ≠ 0) : putT l x = ([], treeE (putL l x)) := by unfold putT; rw [if_neg (by simp [h]), if_pos h2]
theorem putT_ok {l : List NodeV} {x : NodeV} (h : treeE l = 0) (h2 : treeE (putL l x) = 0) : putT l x = (putL l x, 0) := by unfold putT; rw [if_neg (by simp [h]), if_neg (by simp [h2])]
set_option maxHeartbeats 8000000 in
theorem Put_any (A : Option Addr) (n c : Nat) (l : List NodeV) (hn : l.length = n) (hc : SlOk A n c) (hsz : ∀ x ∈ l, x.sz) (x : NodeV) (D : Option Addr) (cx : Nat) (hx : x.sz) (hs : SlOk D x.data.length cx) (w : World) (hA : NodesAt w A l) (hD : BytsAt w D x.data) :
    Calls Tryz.prog 11 #[.slice A n c, .agg (nodC x D cx).toArray] w fun e w' => ∃ v xs, e = .returned (.tuple #[v, .int .i64 (putT l x).2]) ∧ xs.map (·.1) = (putT l x).1 ∧ OwnN w' w.heap.size v xs ∧ Below w.heap.size w w' := by
  have HN := Lib.hid hn
  have HA := Lib.hid hA
  have HD := Lib.hid hD
  have HSZ := Lib.hid hsz
  have HS := Lib.hid hs
  have HC := Lib.hid hc
  have HX := Lib.hid hx
  have HCk := Lib.hid fun W h => trCheck_any A n c l hn hc hsz W h
  have hps : (bs x.path).size ≤ maxLen := by rw [bs_size]; have := hx.1.1; unfold maxLen; omega
  have hcap := hc.1
  have hmx := hc.2.1
  unfold maxLen at hmx
  have hb0 := Blk.new w 32 (nodA x D cx)
  have hw0 : Below w.heap.size w (w.alloc (.cells (nodA x D cx) 32)) := belowA (Below.refl _ _) _
  have HCk0 := Lib.hid (HCk.out _ (hA.below hw0))
  clear hn hA hD hsz hs hc hx
  by_cases h0 : treeE l = 0
  · have HE := Lib.hid h0
    have HPB := Lib.hid fun h2 => putT_bad2 (x := x) h0 h2
    have HPO := Lib.hid fun h2 => putT_ok (x := x) h0 h2
    rw [h0] at HCk0
    obtain ⟨hle, hsnd⟩ := (treeE_zero l).1 h0
    rw [HN.out] at hle
    have HR := Lib.hid hsnd.rises
    have HBS := Lib.hid fun W h => BSearch_any A n c l (bs x.path) HN.out (by omega) hsnd.rises (fun y hy => path_len (hsnd.node y hy)) hps W h
    rw [bs_list] at HBS
    obtain ⟨ys, hys, hcl, hdat⟩ := HA.out.row
    have hyl : ys.length = n := by rw [← HN.out, ← hys, List.length_map]
    have HCL := Lib.hid hcl
    have HDT := Lib.hid hdat
    have HYS := Lib.hid hys
    have HYL := Lib.hid hyl
    clear h0 hsnd hys hyl hcl hdat HCk
    unfold nodC
    unfold nodA at hb0 hw0 HCk0
    obtain ⟨P, hP⟩ := hid_name (bs x.path)
    rw [hP.out] at HBS hps
    go_enter Tryz.func11, Tryz.ntmps11
    go_wp2_with fail
    refine HCk0.out.mono ?_; rintro e w1 ⟨rfl, hb⟩
    have hb1 := hb0.below hb hb0.lt
    have HB1 := Lib.hid (hw0.trans (hb.mono hw0.size))
    clear hb0 hw0 hb HCk0
    obtain ⟨⟨q0, q1, q2, q3, q4, q5, q6, q7, q8, q9, qA, qB⟩, -⟩ := blk12 hb1
    have HBx1 := Lib.hid hb1
    rw [hP.out] at q0
    clear hb1
    go_wp2_with fail
    refine (HBS.out _ (HA.out.below HB1.out)).mono ?_; rintro e w2 ⟨i, bb, rfl, hlow, hbb, hb⟩
    have HLo := Lib.hid hlow
    have hin : i ≤ n := by have := hlow.le; rw [HN.out] at this; exact this
    have HB2 := Lib.hid (HB1.out.trans (hb.mono HB1.out.size))
    have HBx2 := Lib.hid (HBx1.out.below hb HBx1.out.lt)
    clear hlow hb q0 q1 q2 q3 q4 q5 q6 q7 q8 q9 qA qB
    obtain ⟨⟨q0, q1, q2, q3, q4, q5, q6, q7, q8, q9, qA, qB⟩, -⟩ := blk12 HBx2.out
    obtain ⟨e, he⟩ : ∃ e : Nat, e = if bb = true then i + 1 else i := ⟨_, rfl⟩
    have HEe : Hid (e = if hi : i < l.length then (if pcmp l[i].path x.path = 0 then i + 1 else i) else i) := by
      unfold Hid
      rw [he, hbb]
      by_cases hi : i < l.length
      · rw [dif_pos hi, dif_pos hi]; by_cases hz : pcmp l[i].path x.path = 0 <;> simp [hz]
      · rw [dif_neg hi, dif_neg hi]; simp
    have hen : e ≤ n := by
      rw [he]
      cases bb
      · simpa using hin
      · have : i < l.length := by
          rcases Nat.lt_or_ge i l.length with h | h
          · exact h
          · rw [dif_neg (by omega)] at hbb; cases hbb
        rw [HN.out] at this
        rw [if_pos rfl]; omega
    have hie : i ≤ e := by rw [he]; split <;> omega
    have HPut := Lib.hid (putL_low HR.out HLo.out HEe.out)
    clear hbb
    go_upto_if 25 with fail
    go_cut [9] (fun s9 wx => s9 = .int .i64 (e : Int) ∧ wx = w2)
    case first =>
      have hi1 : (i : Int) + 1 ≤ 1000 := by omega
      cases bb with
      | true =>
        obtain rfl : e = i + 1 := by simpa using he
        go_wp2_with fail
        go_meet
        exact ⟨by go_num, rfl⟩
      | false =>
        obtain rfl : e = i := by simpa using he
        go_wp2_with fail
        go_meet
        exact ⟨rfl, rfl⟩
    case rest =>
      obtain ⟨rfl, hwc⟩ := hcut
      obtain rfl := hwc.symm
      clear he
      have s1 := fun W => nslice_to W A n c i (by omega)
      have s2 := fun W => nslice_from W A n c e hen
      have HCc : Hid (∀ g W, Blk W g 23 #[.slice A i c, .slice (some ⟨w2.heap.size, 0, none⟩) 1 1, .slice (cutN A c e) (n - e) (c - e)] → Below w.heap.size w W → Blk W w2.heap.size 32 (nodA x D cx) →
          Calls Tryz.prog 39 #[.slice (some ⟨g, 0, none⟩) 3 3] W fun e' w' => ∃ v, e' = .returned v ∧ RowN w' W.heap.size v (ys.take i ++ [(x, .slice D x.data.length cx)] ++ ys.drop e) ∧ Below W.heap.size W w') := fun g W hb hw hbx =>
        Concat_three A (some ⟨w2.heap.size, 0, none⟩) (cutN A c e) i 1 (n - e) c 1 (c - e) (ys.take i) [(x, .slice D x.data.length cx)] (ys.drop e) (by rw [List.length_take, HYL.out]; omega) rfl (by rw [List.length_drop, HYL.out]) (by omega)
          (fun h => by have := HC.out.2.2 h; exact ⟨this, by omega⟩) (fun h => by cases h) (fun h => by have := HC.out.2.2 (cutN_none h); exact ⟨by omega, by omega⟩)
          (fun y hy => (HDT.out y (List.mem_of_mem_take hy)).one) (fun y hy => by simp at hy; subst hy; rfl) (fun y hy => (HDT.out y (List.mem_of_mem_drop hy)).one) g W hb
          ((HCL.out.below hw).take i) (cells_one hbx) ((HCL.out.below hw).drop (by rw [HYL.out]; exact hcap) (by rw [HYL.out]; exact hen))
      obtain ⟨a2, ha2⟩ := hid_name (cutN A c e)
      obtain ⟨n2, hn2⟩ := hid_name (n - e)
      obtain ⟨c2, hc2⟩ := hid_name (c - e)
      simp only [ha2.out, hn2.out, hc2.out] at s2 HCc
      unfold nodA at HCc
      go_upto_region 8 with fail
      have hbl1 := Blk.new w2 32 #[.string (bs x.path), .int .i64 x.kind, .int .i64 x.same, .string (bs x.target), .int .i64 x.md.mode, .int .i64 x.md.uid, .int .i64 x.md.gid, .string (bs x.md.user), .string (bs x.md.group), .int .i64 x.md.second, .int .i64 x.md.nano, .slice D x.data.length cx]
      have hbl2 := Blk.new (w2.alloc (.cells #[.string (bs x.path), .int .i64 x.kind, .int .i64 x.same, .string (bs x.target), .int .i64 x.md.mode, .int .i64 x.md.uid, .int .i64 x.md.gid, .string (bs x.md.user), .string (bs x.md.group), .int .i64 x.md.second, .int .i64 x.md.nano, .slice D x.data.length cx] 32)) 23 #[.slice A i c, .slice (some ⟨w2.heap.size, 0, none⟩) 1 1, .slice a2 n2 c2]
      have hbw := (belowA (belowA HB2.out (.cells #[.string (bs x.path), .int .i64 x.kind, .int .i64 x.same, .string (bs x.target), .int .i64 x.md.mode, .int .i64 x.md.uid, .int .i64 x.md.gid, .string (bs x.md.user), .string (bs x.md.group), .int .i64 x.md.second, .int .i64 x.md.nano, .slice D x.data.length cx] 32)) (.cells #[.slice A i c, .slice (some ⟨w2.heap.size, 0, none⟩) 1 1, .slice a2 n2 c2] 23)).drew
      rw [hszA] at hbl2
      have HK := Lib.hid (HCc.out (w2.heap.size + 1) _ hbl2.drew_ hbw (hbl1.alloc _).drew_)
      have HBw := Lib.hid hbw
      rw [hP.out] at HK HBw
      clear hbl1 hbl2 hbw
      have hSB : Blk w2 w.heap.size 32 #[.string P, .int .i64 x.kind, .int .i64 x.same, .string (bs x.target), .int .i64 x.md.mode, .int .i64 x.md.uid, .int .i64 x.md.gid, .string (bs x.md.user), .string (bs x.md.group), .int .i64 x.md.second, .int .i64 x.md.nano, .slice D x.data.length cx] := by rw [← hP.out]; exact HBx2.out
      have hS1 := hSB.drew_
      have HS1 := Lib.hid hS1
      clear hSB q0 q1 q2 q3 q4 q5 q6 q7 q8 q9 qA qB
      refine wp_region_noPanic ?_
      refine wp_region_held_drew (S := fun W => Blk W w.heap.size 32 #[.string P, .int .i64 x.kind, .int .i64 x.same, .string (bs x.target), .int .i64 x.md.mode, .int .i64 x.md.uid, .int .i64 x.md.gid, .string (bs x.md.user), .string (bs x.md.group), .int .i64 x.md.second, .int .i64 x.md.nano, .slice D x.data.length cx]) (by kernel_rfl) hS1 (fun hHeld => ?_)
      refine wpAnyH_take (i := 0) (v := ?_) rfl (by kernel_rfl) (by kernel_rfl) (by kernel_rfl) (fun _ _ _ h => h) (Or.inl ⟨by rfl, ?_⟩) hS1 ?_
      rotate_left
      · intro W hSw; (try dsimp only at hSw); go_simp; try with_reducible rfl
      try simp only [Act.put]
      refine wpAnyH_take (i := 1) (v := ?_) rfl (by kernel_rfl) (by kernel_rfl) (by kernel_rfl) (fun _ _ _ h => h) (Or.inl ⟨by rfl, ?_⟩) hS1 ?_
      rotate_left
      · intro W hSw; (try dsimp only at hSw); go_simp; try with_reducible rfl
      try simp only [Act.put]
      refine wpAnyH_take (i := 2) (v := ?_) rfl (by kernel_rfl) (by kernel_rfl) (by kernel_rfl) (fun _ _ _ h => h) (Or.inl ⟨by rfl, ?_⟩) hS1 ?_
      rotate_left
      · intro W hSw; (try dsimp only at hSw); go_simp; try with_reducible rfl
      try simp only [Act.put]
      refine wpAnyH_take (i := 3) (v := ?_) rfl (by kernel_rfl) (by kernel_rfl) (by kernel_rfl) (fun _ _ _ h => h) (Or.inl ⟨by rfl, ?_⟩) hS1 ?_
      rotate_left
      · intro W hSw; (try dsimp only at hSw); obtain ⟨⟨q0, q1, q2, q3, q4, q5, q6, q7, q8, q9, qA, qB⟩, -⟩ := blk12 hSw; go_simp; try with_reducible rfl
      try simp only [Act.put]
      refine wpAnyH_take (i := 5) (v := ?_) rfl (by kernel_rfl) (by kernel_rfl) (by kernel_rfl) (fun _ _ _ h => h) (Or.inl ⟨by rfl, ?_⟩) hS1 ?_
      rotate_left
      · intro W hSw; (try dsimp only at hSw); go_simp; try with_reducible rfl
      try simp only [Act.put]
      refine wpAnyH_take (i := 6) (v := ?_) rfl (by kernel_rfl) (by kernel_rfl) (by kernel_rfl) (fun _ _ _ h => h) (Or.inl ⟨by rfl, ?_⟩) hS1 ?_
      rotate_left
      · intro W hSw; (try dsimp only at hSw); go_simp; try with_reducible rfl
      try simp only [Act.put]
      refine wpAnyH_take (i := 7) (v := ?_) rfl (by kernel_rfl) (by kernel_rfl) (by kernel_rfl) (fun _ _ _ h => h) (Or.inl ⟨by rfl, ?_⟩) hS1 ?_
      rotate_left
      · intro W hSw; (try dsimp only at hSw); go_simp; try with_reducible rfl
      try simp only [Act.put]
      refine wpAnyH_ready (rs := [4]) (by kernel_rfl) (by simp) ?_
      refine AllReadyH.cons rfl (fun K hK => ?_) AllReadyH.nil
      go_simp
      refine hK.out _ _ (HS1.out.alloc _) (fun hHeld2 => ?_)
      clear hK K
      try simp only [Act.put]
      refine wpAnyH_ready (rs := [8]) (by kernel_rfl) (by simp) ?_
      refine AllReadyH.cons rfl (fun K hK => ?_) AllReadyH.nil
      go_simp
      refine hK.out _ _ ((HS1.out.alloc _).alloc _) (fun hHeld3 => ?_)
      clear hK K
      try simp only [Act.put]
      refine wpAnyH_ready (rs := [9]) (by kernel_rfl) (by simp) ?_
      refine AllReadyH.cons rfl (fun K hK => ?_) AllReadyH.nil
      go_simp
      refine HK.out.mono ?_; rintro e3 w3 ⟨v3, rfl, hR3, hb3⟩
      refine hK.out _ _ (((HS1.out.alloc _).alloc _).below hb3 (((HS1.out.alloc _).alloc _).lt)) (fun hHeld4 => ?_)
      clear hK K
      try simp only [Act.put]
      refine wpAnyH_take (i := 10) (v := ?_) rfl (by kernel_rfl) (by kernel_rfl) (by kernel_rfl) (fun _ _ _ h => h) (Or.inl ⟨by rfl, ?_⟩) hHeld4 ?_
      rotate_left
      · intro W hSw; (try dsimp only at hSw); go_simp; try with_reducible rfl
      try simp only [Act.put]
      refine wpAnyH_done (by kernel_rfl) ?_ _
      refine NoPanic.normal ?_
      have HB3 := Lib.hid (HBw.out.trans (hb3.mono HBw.out.size))
      obtain ⟨A3, c3, rfl, hs3, hat3⟩ := hR3.at fun y hy => by
        rcases List.mem_append.1 hy with a | a
        · rcases List.mem_append.1 a with a | a
          · exact (HDT.out y (List.mem_of_mem_take a)).below HB3.out
          · simp at a
            subst a
            exact ⟨D, cx, rfl, HS.out, HD.out.below HB3.out⟩
        · exact (HDT.out y (List.mem_of_mem_drop a)).below HB3.out
      have hmap : (ys.take i ++ [((x, .slice D x.data.length cx) : NodP)] ++ ys.drop e).map (·.1) = putL l x := by
        rw [List.map_append, List.map_append, List.map_take, List.map_drop, HYS.out, HPut.out, List.append_assoc]; rfl
      have hlen : (ys.take i ++ [((x, .slice D x.data.length cx) : NodP)] ++ ys.drop e).length = (putL l x).length := by rw [← hmap, List.length_map]
      rw [hmap] at hat3
      rw [hlen] at hs3 ⊢
      have hpl : (putL l x).length ≤ 41 := by
        rw [← hlen, List.length_append, List.length_append, List.length_take, List.length_drop, HYL.out]
        simp; omega
      have hszp : ∀ y ∈ putL l x, y.sz := fun y hy => by
        rcases mem_putL.1 hy with rfl | ⟨a, -⟩
        · exact HX.out
        · exact HSZ.out y a
      have HCk2 := Lib.hid fun W h => trCheck_any A3 _ c3 (putL l x) rfl hs3 hszp W h
      have HCp2 := Lib.hid fun W h => Copy_any A3 _ c3 (putL l x) rfl (by omega) hszp W h
      have HA3 := Lib.hid hat3
      have hpl2 := hpl
      obtain ⟨pl, hplv⟩ := hid_name (putL l x).length
      rw [hplv.out] at HCk2 HCp2 hpl2 ⊢
      clear hR3 hb3 hs3 hat3 hlen hmap hHeld4 hHeld3 hHeld2 hHeld hS1 HK HBw HCc hpl hszp
      by_cases h2 : treeE (putL l x) = 0
      · have HV := Lib.hid (HPO.out h2)
        rw [h2] at HCk2
        clear HPB HPO h2
        go_wp2_with fail
        refine (HCk2.out _ HA3.out).mono ?_; rintro e4 w4 ⟨rfl, hb4⟩
        have HB4 := Lib.hid (HB3.out.trans (hb4.mono HB3.out.size))
        have HA4 := Lib.hid (HA3.out.below hb4)
        clear hb4
        go_wp2_with fail
        refine (HCp2.out _ HA4.out).mono ?_; rintro e5 w5 ⟨v5, xs5, rfl, hxs5, hO5, hb5⟩
        have HB5 := Lib.hid (HB4.out.trans (hb5.mono HB4.out.size))
        have HO5 := Lib.hid (hO5.mono HB4.out.size)
        have HX5 := Lib.hid hxs5
        clear hb5 hO5 hxs5
        go_wp2_with fail
        go_ret2
        exact ⟨_, xs5, by rw [HV.out]; rfl, by rw [HV.out]; exact HX5.out, HO5.out, HB5.out⟩
      · have HV := Lib.hid (HPB.out h2)
        have h3 : (treeE (putL l x) != 0) = true := by simpa using h2
        generalize treeE (putL l x) = tt at *
        clear HPB HPO h2
        go_wp2_with fail
        refine (HCk2.out _ HA3.out).mono ?_; rintro e4 w4 ⟨rfl, hb4⟩
        have HB4 := Lib.hid (HB3.out.trans (hb4.mono HB3.out.size))
        clear hb4
        go_wp2_with fail
        go_ret2
        exact ⟨_, [], by rw [HV.out]; rfl, by rw [HV.out]; rfl, OwnN.nil _ _, HB4.out⟩
  · have HP := Lib.hid (putT_bad (x := x) h0)
    rw [HP.out]
    have h1 : (treeE l != 0) = true := by simpa using h0
    generalize treeE l = t at *
    clear HCk h0
    unfold nodC
    unfold nodA at hb0 hw0 HCk0
    go_enter Tryz.func11, Tryz.ntmps11
    go_wp2_with fail
    refine HCk0.out.mono ?_; rintro e w1 ⟨rfl, hb⟩
    have HB1 := Lib.hid (hw0.trans (hb.mono hw0.size))
    clear hb0 hw0 hb HCk0
    go_wp2_with fail
    go_ret2
    exact ⟨_, [], rfl, rfl, OwnN.nil _ _, HB1.out⟩
end Go.Proofs.YtggbjpjmedkjeaaGreatDoor
