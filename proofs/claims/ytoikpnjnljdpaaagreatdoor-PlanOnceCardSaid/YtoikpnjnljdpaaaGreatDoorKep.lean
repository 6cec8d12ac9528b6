/- Texts of one kind, in one file: TrgP, TrgQ, TrgR. -/
import Derived.Test.YtoikpnjnljdpaaaGreatDoorTreE
import Derived.Test.YtoikpnjnljdpaaaGreatDoorMth
import Derived.Test.YtoikpnjnljdpaaaGreatDoorTrg
import Derived.Lib.SmallJoins
import Derived.Deep.RegionWith
import Derived.Deep.DeepCutAuto
/- Trees that are drawn, as they lie; nodes and trees that are the same; the small tree. -/
set_option linter.unusedVariables false
set_option maxRecDepth 100000
namespace Go.Proofs.YtoikpnjnljdpaaaGreatDoor
open Go.RowKit
open Go.OpenShut
theorem Dat.byts {w : World} {B : Nat} {d : Option Nat × Nat × Nat} {l : List UInt8} (h : Dat w B d l) : SlOk (adr d.1) l.length d.2.2 ∧ BytsAt w (adr d.1) l := by
  obtain ⟨h1, h2, h3, h4, h5⟩ := h
  refine ⟨⟨h2, h3, fun e => h4 (by cases hd : d.1 with | none => rfl | some g => rw [hd] at e; cases e)⟩, fun j hj => ?_⟩
  obtain ⟨g, cur, fr, e, _, hg, hc⟩ := h5 (by omega)
  refine ⟨g, 0, by rw [e]; rfl, ?_⟩
  rw [Nat.zero_add, cell_of_row w g j cur 5 fr hg]
  have h6 := congrArg (fun (x : List Value) => x[j]?) hc
  simp only [List.getElem?_take_of_lt hj, Array.getElem?_toList] at h6
  rw [h6, bCells_get l j hj]; simp [bInts, hj]
theorem nodE_sz {x : NodeV} (h : nodE x = 0) : x.sz := by
  have hp := path_len h
  have h1 : pathE x.path = 0 := by
    by_cases e : pathE x.path = 0
    · exact e
    · rw [nodE_path e] at h; exact absurd h e
  have h2 : metE x.md = 0 := by
    by_cases e : metE x.md = 0
    · exact e
    · rw [nodE_meta h1 e] at h; exact absurd h e
  rw [nodE_kind h1 h2] at h
  have h3 : x.md.user.length ≤ 60 ∧ x.md.group.length ≤ 60 := by
    unfold metE at h2
    split at h2
    · split at h2
      · cases h2
      · omega
    · cases h2
  have h4 : x.target.length ≤ 400 ∧ x.data.length ≤ 2000 := by
    unfold nodK at h
    split at h
    · split at h
      · cases h
      · rename_i hn
        split at h
        · cases h
        · have ht : x.target = [] := by
            rcases Classical.em (x.target = []) with e | e
            · exact e
            · exact absurd (.inl e) hn
          rw [ht]; simp; omega
    · split at h
      · split at h
        · cases h
        · rename_i hn
          split at h
          · cases h
          · have ht : x.data = [] := by
              rcases Classical.em (x.data = []) with e | e
              · exact e
              · exact absurd (.inl e) hn
            rw [ht]; simp; omega
      · cases h
  unfold NodeV.sz MetaV.sz
  omega
/-- a drawn tree, as it lies -/
theorem TreeOut.tree {w w' : World} {m : Nat} {rs : List RawV} {v : Value} {ys : List NodeD} (h : TreeOut w m rs v ys w') :
    ∃ (l : List NodeV) (A : Option Addr) (c : Nat), l.Perm (treeS m rs).1 ∧ v = .slice A l.length c ∧ SlOk A l.length c ∧ NodesAt w' A l ∧ l.length ≤ m ∧ Sound l ∧ (∀ x ∈ l, x.sz) ∧ Below w.heap.size w w' := by
  obtain ⟨h1, h2, h3, h4, h5⟩ := h
  have hs : ∀ i j (hi : i < j) (hj : j < (ys.map fun y : NodeD => y.1).length), pcmp ((ys.map fun y : NodeD => y.1)[i]'(by omega)).path (ys.map fun y : NodeD => y.1)[j].path ≤ 0 := fun i j hi hj => by
    rw [List.getElem_map, List.getElem_map]
    exact h3 i j hi (by simpa using hj)
  obtain ⟨h6, h7⟩ := drawn_sound h2 hs
  have hform : ∃ A c, v = .slice A ys.length c ∧ SlOk A ys.length c ∧ NodesAt w' A (ys.map fun y : NodeD => y.1) := by
    have h1' := h1
    unfold Nodes World.ownsRow at h1
    rcases h1.2 with ⟨rfl, h0⟩ | ⟨g, cap, cur, rfl, hB, hg, hcap, hm, hsz, ht⟩
    · have e := List.eq_nil_of_length_eq_zero h0
      subst e
      exact ⟨none, 0, rfl, ⟨Nat.le_refl _, by decide, fun _ => rfl⟩, NodesAt.nil _ _⟩
    · refine ⟨some ⟨g, 0, none⟩, cap, rfl, ⟨hcap, hm, fun e => by cases e⟩, fun j hj => ?_⟩
      have hj' : j < ys.length := by simpa using hj
      have hy := h4 _ (List.getElem_mem hj')
      rw [List.getElem_map]
      refine ⟨g, 0, adr ys[j].2.1, ys[j].2.2.2, rfl, fun i hi => ?_, hy.1.byts.1, hy.1.byts.2⟩
      rcases h1'.any with ⟨e, -⟩ | ⟨g2, cap2, e, -, -, -, hcell⟩
      · cases e
      · injection e with e _ _
        injection e with e
        injection e with e
        subst e
        rw [Nat.zero_add, (hcell j i hj' hi).1]
        have hk : keyL ys[j] = ys[j].1.path := List.take_of_length_le hy.2.1
        unfold encN nodC
        rw [hk, hy.1.1]
        rfl
  obtain ⟨A, c, e1, e2, e3⟩ := hform
  refine ⟨ys.map fun y : NodeD => y.1, A, c, h2, by rw [List.length_map]; exact e1, by rw [List.length_map]; exact e2, e3, h6, h7, fun x hx => ?_, h5⟩
  exact nodE_sz (h7.node x hx)
set_option maxHeartbeats 4000000 in
theorem keepSame_any (x y : NodeV) (D E : Option Addr) (c d : Nat) (w : World) (hD : BytsAt w D x.data) (hE : BytsAt w E y.data) : Calls Tryz.prog 34 #[.agg (nodC x D c).toArray, .agg (nodC y E d).toArray] w fun e w' => e = .returned (.bool (decide (x = y))) ∧ Below w.heap.size w w' := by
  have hq := meta_eql x.md y.md
  have hx : decide (x = y) = (decide (x.path = y.path) && (decide (x.kind = y.kind) && (decide (x.same = y.same) && (decide (x.target = y.target) && (metB x.md y.md && decide (x.data = y.data)))))) := by
    rw [Bool.eq_iff_iff, decide_eq_true_eq, ← NodeV.ext_iff']
    unfold metB
    simp only [Bool.and_eq_true, decide_eq_true_eq]
  have q1 := bs_eq (a := x.path) (b := y.path)
  have q4 := bs_eq (a := x.target) (b := y.target)
  have q6 := bs_eq (a := x.data) (b := y.data)
  have hw2 : ∀ o o', Below w.heap.size w ((w.alloc o).alloc o') := fun o o' => belowA (belowA (Below.refl _ _) o) o'
  have HW2 := Lib.hid hw2
  have k1 := fun o o' => (hD.below (hw2 o o')).conv c (fun e => by subst e; exact hD.none_nil)
  have k2 := fun o o' => (hE.below (hw2 o o')).conv d (fun e => by subst e; exact hE.none_nil)
  obtain ⟨xp, xk, xs, xt, ⟨x0, x1, x2, x3, x4, x5, x6⟩, xd⟩ := x
  obtain ⟨yp, yk, ys, yt, ⟨y0, y1, y2, y3, y4, y5, y6⟩, yd⟩ := y
  simp only at hq hx q1 q4 q6 k1 k2
  generalize metB _ _ = mb at hq hx
  rw [hx]
  unfold nodC
  unfold metA at hq
  simp only at hq ⊢
  obtain ⟨P, hP⟩ := hid_name (bs xp)
  obtain ⟨Q, hQ⟩ := hid_name (bs yp)
  obtain ⟨T, hT⟩ := hid_name (bs xt)
  obtain ⟨U, hU⟩ := hid_name (bs yt)
  obtain ⟨M, hM⟩ := hid_name (bs xd)
  obtain ⟨N, hN⟩ := hid_name (bs yd)
  rw [hP.out, hQ.out] at q1
  rw [hT.out, hU.out] at q4
  rw [hM.out, hN.out] at q6
  simp only [hM.out] at k1
  simp only [hN.out] at k2
  rw [hP.out, hQ.out, hT.out, hU.out]
  generalize decide (xd = yd) = db at q6 ⊢
  generalize xd.length = L at k1 ⊢
  generalize yd.length = L2 at k2 ⊢
  clear hx hw2 hD hE hP hQ hT hU hM hN
  by_cases e1 : xp = yp
  · rw [decide_eq_true e1] at q1 ⊢
    clear e1
    by_cases e2 : xk = yk
    · subst e2
      by_cases e3 : xs = ys
      · subst e3
        by_cases e4 : xt = yt
        · rw [decide_eq_true e4] at q4 ⊢
          clear e4
          cases mb
          · simp only [decide_true, Bool.true_and, Bool.false_and]
            clear k1 k2 q6
            go_enter Tryz.func34, Tryz.ntmps34
            go_wp2_with fail
            go_ret
            exact ⟨rfl, HW2.out _ _⟩
          · simp only [decide_true, Bool.true_and]
            have Q6 := Lib.hid q6
            clear q6
            go_enter Tryz.func34, Tryz.ntmps34
            go_wp2_with fail
            go_ret
            exact ⟨ret_bool Q6.out, HW2.out _ _⟩
        · rw [decide_eq_false e4] at q4 ⊢
          simp only [decide_true, Bool.true_and, Bool.false_and]
          clear e4 k1 k2 q6
          go_enter Tryz.func34, Tryz.ntmps34
          go_wp2_with fail
          go_ret
          exact ⟨rfl, HW2.out _ _⟩
      · rw [decide_eq_false e3]
        simp only [decide_true, Bool.true_and, Bool.false_and]
        have e3b : (xs == ys) = false := by simpa using e3
        clear e3 k1 k2 q6
        go_enter Tryz.func34, Tryz.ntmps34
        go_wp2_with fail
        go_ret
        exact ⟨rfl, HW2.out _ _⟩
    · rw [decide_eq_false e2]
      simp only [Bool.true_and, Bool.false_and]
      have e2b : (xk == yk) = false := by simpa using e2
      clear e2 k1 k2 q6
      go_enter Tryz.func34, Tryz.ntmps34
      go_wp2_with fail
      go_ret
      exact ⟨rfl, HW2.out _ _⟩
  · rw [decide_eq_false e1] at q1 ⊢
    simp only [Bool.false_and]
    clear e1 k1 k2 q6
    go_enter Tryz.func34, Tryz.ntmps34
    go_wp2_with fail
    go_ret
    exact ⟨rfl, HW2.out _ _⟩
def mdZ : MetaV := ⟨0, 0, 0, [], [], 0, 0⟩
def smA : NodeV := ⟨[97], 2, 0, [], mdZ, []⟩
def smB : NodeV := ⟨[97, 47, 98], 1, 0, [], mdZ, [120]⟩
def smC : NodeV := ⟨[99], 3, 0, [97, 47, 98], mdZ, []⟩
theorem small_at (W : World) (g : Nat) (hd : BytsAt W (some ⟨g, 0, none⟩) [120]) : NodesAt (W.alloc (.cells #[.string ⟨#[97]⟩, .int .i64 2, .int .i64 0, .string ⟨#[]⟩, .int .i64 0, .int .i64 0, .int .i64 0, .string ⟨#[]⟩, .string ⟨#[]⟩, .int .i64 0, .int .i64 0, .slice none 0 0, .string ⟨#[97, 47, 98]⟩, .int .i64 1, .int .i64 0, .string ⟨#[]⟩, .int .i64 0, .int .i64 0, .int .i64 0, .string ⟨#[]⟩, .string ⟨#[]⟩, .int .i64 0, .int .i64 0, .slice (some ⟨g, 0, none⟩) 1 1, .string ⟨#[99]⟩, .int .i64 3, .int .i64 0, .string ⟨#[97, 47, 98]⟩, .int .i64 0, .int .i64 0, .int .i64 0, .string ⟨#[]⟩, .string ⟨#[]⟩, .int .i64 0, .int .i64 0, .slice none 0 0] 51)) (some ⟨W.heap.size, 0, none⟩) [smA, smB, smC] := by
  have hb := Blk.new W 51 #[.string ⟨#[97]⟩, .int .i64 2, .int .i64 0, .string ⟨#[]⟩, .int .i64 0, .int .i64 0, .int .i64 0, .string ⟨#[]⟩, .string ⟨#[]⟩, .int .i64 0, .int .i64 0, .slice none 0 0, .string ⟨#[97, 47, 98]⟩, .int .i64 1, .int .i64 0, .string ⟨#[]⟩, .int .i64 0, .int .i64 0, .int .i64 0, .string ⟨#[]⟩, .string ⟨#[]⟩, .int .i64 0, .int .i64 0, .slice (some ⟨g, 0, none⟩) 1 1, .string ⟨#[99]⟩, .int .i64 3, .int .i64 0, .string ⟨#[97, 47, 98]⟩, .int .i64 0, .int .i64 0, .int .i64 0, .string ⟨#[]⟩, .string ⟨#[]⟩, .int .i64 0, .int .i64 0, .slice none 0 0]
  have hbel := belowA (Below.refl W.heap.size W) (.cells #[.string ⟨#[97]⟩, .int .i64 2, .int .i64 0, .string ⟨#[]⟩, .int .i64 0, .int .i64 0, .int .i64 0, .string ⟨#[]⟩, .string ⟨#[]⟩, .int .i64 0, .int .i64 0, .slice none 0 0, .string ⟨#[97, 47, 98]⟩, .int .i64 1, .int .i64 0, .string ⟨#[]⟩, .int .i64 0, .int .i64 0, .int .i64 0, .string ⟨#[]⟩, .string ⟨#[]⟩, .int .i64 0, .int .i64 0, .slice (some ⟨g, 0, none⟩) 1 1, .string ⟨#[99]⟩, .int .i64 3, .int .i64 0, .string ⟨#[97, 47, 98]⟩, .int .i64 0, .int .i64 0, .int .i64 0, .string ⟨#[]⟩, .string ⟨#[]⟩, .int .i64 0, .int .i64 0, .slice none 0 0] 51)
  have hnil : SlOk (none : Option Addr) 0 0 := ⟨Nat.le_refl _, by decide, fun _ => rfl⟩
  intro j hj
  match j, hj with
  | 0, _ =>
    refine ⟨W.heap.size, 0, none, 0, rfl, fun i hi => ?_, hnil, BytsAt.nil _ _⟩
    show World.cell? _ ⟨W.heap.size, 0 + 0 * 12 + i, none⟩ = (nodC smA none 0)[i]?
    match i, hi with
      | 0, _ => exact (hb.cell 0).trans rfl
      | 1, _ => exact (hb.cell 1).trans rfl
      | 2, _ => exact (hb.cell 2).trans rfl
      | 3, _ => exact (hb.cell 3).trans rfl
      | 4, _ => exact (hb.cell 4).trans rfl
      | 5, _ => exact (hb.cell 5).trans rfl
      | 6, _ => exact (hb.cell 6).trans rfl
      | 7, _ => exact (hb.cell 7).trans rfl
      | 8, _ => exact (hb.cell 8).trans rfl
      | 9, _ => exact (hb.cell 9).trans rfl
      | 10, _ => exact (hb.cell 10).trans rfl
      | 11, _ => exact (hb.cell 11).trans rfl
  | 1, _ =>
    refine ⟨W.heap.size, 0, some ⟨g, 0, none⟩, 1, rfl, fun i hi => ?_, ⟨Nat.le_refl _, by decide, fun e => by cases e⟩, hd.below hbel⟩
    show World.cell? _ ⟨W.heap.size, 0 + 1 * 12 + i, none⟩ = (nodC smB (some ⟨g, 0, none⟩) 1)[i]?
    match i, hi with
      | 0, _ => exact (hb.cell 12).trans rfl
      | 1, _ => exact (hb.cell 13).trans rfl
      | 2, _ => exact (hb.cell 14).trans rfl
      | 3, _ => exact (hb.cell 15).trans rfl
      | 4, _ => exact (hb.cell 16).trans rfl
      | 5, _ => exact (hb.cell 17).trans rfl
      | 6, _ => exact (hb.cell 18).trans rfl
      | 7, _ => exact (hb.cell 19).trans rfl
      | 8, _ => exact (hb.cell 20).trans rfl
      | 9, _ => exact (hb.cell 21).trans rfl
      | 10, _ => exact (hb.cell 22).trans rfl
      | 11, _ => exact (hb.cell 23).trans rfl
  | 2, _ =>
    refine ⟨W.heap.size, 0, none, 0, rfl, fun i hi => ?_, hnil, BytsAt.nil _ _⟩
    show World.cell? _ ⟨W.heap.size, 0 + 2 * 12 + i, none⟩ = (nodC smC none 0)[i]?
    match i, hi with
      | 0, _ => exact (hb.cell 24).trans rfl
      | 1, _ => exact (hb.cell 25).trans rfl
      | 2, _ => exact (hb.cell 26).trans rfl
      | 3, _ => exact (hb.cell 27).trans rfl
      | 4, _ => exact (hb.cell 28).trans rfl
      | 5, _ => exact (hb.cell 29).trans rfl
      | 6, _ => exact (hb.cell 30).trans rfl
      | 7, _ => exact (hb.cell 31).trans rfl
      | 8, _ => exact (hb.cell 32).trans rfl
      | 9, _ => exact (hb.cell 33).trans rfl
      | 10, _ => exact (hb.cell 34).trans rfl
      | 11, _ => exact (hb.cell 35).trans rfl
theorem small_any (w : World) : Calls Tryz.prog 12 #[] w fun e w' => ∃ g, e = .returned (.slice (some ⟨g, 0, none⟩) 3 3) ∧ NodesAt w' (some ⟨g, 0, none⟩) [smA, smB, smC] ∧ Below w.heap.size w w' := by
  have hcv := Go.Joins.run_convert_bytes_const_at (P := Tryz.prog) w 43 5 #[.int .u8 120] 1 1 w.heap.size rfl Tryz.underlying43 Tryz.underlying5
  have HB : Hid (Below w.heap.size w (w.alloc (.cells #[.int .u8 120] 5 (1, 2)))) := belowA (Below.refl _ _) _
  have HD : Hid (BytsAt (w.alloc (.cells #[.int .u8 120] 5 (1, 2))) (some ⟨w.heap.size, 0, none⟩) [120]) := fun j hj => by
    match j, hj with
    | 0, _ => exact ⟨w.heap.size, 0, rfl, (World.cell?_alloc_mark w _ _ _ 0).trans rfl⟩
  go_enter Tryz.func12, Tryz.ntmps12
  go_wp2_with fail
  go_ret
  refine ⟨w.heap.size + 1, rfl, ?_, belowA HB.out _⟩
  have := small_at _ w.heap.size HD.out
  rwa [hszA] at this
end Go.Proofs.YtoikpnjnljdpaaaGreatDoor
/- The small tree grows. -/
set_option linter.unusedVariables false
set_option maxRecDepth 100000
namespace Go.Proofs.YtoikpnjnljdpaaaGreatDoor
open Go.RowKit
open Go.OpenShut
theorem NodesAt.cut {w : World} {A : Option Addr} {l : List NodeV} (h : NodesAt w A l) {c : Nat} (hc : l.length ≤ c) (k : Nat) (hk : k ≤ l.length) : NodesAt w (cutN A c k) (l.drop k) := by
  intro j hj
  rw [List.length_drop] at hj
  have hne : c ≠ k := by omega
  obtain ⟨b, o, D, d, rfl, h12, h1, h2⟩ := h (k + j) (by omega)
  refine ⟨b, o + k * 12, D, d, ?_, fun i hi => ?_, ?_, ?_⟩
  · unfold cutN; rw [if_neg hne, Option.map_some, Addr.add_lit]
  · rw [List.getElem_drop, ← h12 i hi]
    congr 2
    omega
  · rw [List.getElem_drop]; exact h1
  · rw [List.getElem_drop]; exact h2
theorem sm_put : putT [smA, smB] smC = ([smA, smB, smC], 0) := by decide +kernel
theorem sm_bad : treeE [smB, smC] = 10 := by decide +kernel
theorem sm_sz : ∀ x ∈ [smA, smB, smC], x.sz := by
  intro x hx
  simp only [List.mem_cons, List.not_mem_nil, or_false] at hx
  rcases hx with rfl | rfl | rfl <;> (unfold NodeV.sz MetaV.sz; simp [smA, smB, smC, mdZ])
end Go.Proofs.YtoikpnjnljdpaaaGreatDoor
/- The properties TreeGone and TreeGood. -/
set_option linter.unusedVariables false
set_option maxRecDepth 100000
namespace Go.Proofs.YtoikpnjnljdpaaaGreatDoor
open Go.RowKit
open Go.OpenShut
theorem find_kept {l : List NodeV} (h : Sound l) (s : List UInt8) {n : NodeV} (hn : n ∈ l) : decide (findL (remL l s) n.path < (remL l s).length) = (!decide (n.path = s) && !inB n.path s) := by
  rw [Bool.eq_iff_iff, decide_eq_true_eq, Bool.and_eq_true, Bool.not_eq_true', Bool.not_eq_true', decide_eq_false_iff_not]
  constructor
  · intro hlt
    have h1 := List.getElem_mem hlt
    have h2 := findL_at (remL l s) n.path hlt
    have h3 := (mem_remL.1 h1).2
    rw [h2] at h3
    exact h3
  · rintro ⟨h1, h2⟩
    exact (findL_mem (rem_sound h s).rises (mem_remL.2 ⟨hn, h1, h2⟩)).1
theorem rem_small {l : List NodeV} (h : treeE l = 0) (s : List UInt8) : treeE (remL l s) = 0 := by
  obtain ⟨h1, h2⟩ := (treeE_zero l).1 h
  exact (treeE_zero _).2 ⟨Nat.le_trans (remL_sub l s).length_le h1, rem_sound h2 s⟩
theorem sound_tree {l : List NodeV} (h : Sound l) (hl : l.length ≤ 40) : treeE l = 0 := (treeE_zero l).2 ⟨hl, h⟩
theorem drawn_any (A : Option Addr) (n c : Nat) (rs : List RawV) (hn : rs.length = n) (hn2 : n ≤ 140737488355328) (hwf : ∀ r ∈ rs, r.wf) (m : Nat) (hm : m ≤ 1000) (w : World) (hA : RawsAt w A rs) :
    Calls Tryz.prog 10 #[.slice A n c, .int .i64 m] w fun e w' => ∃ (l : List NodeV) (T : Option Addr) (k d : Nat), e = .returned (.slice T k d) ∧ l.length = k ∧ l.Perm (treeS m rs).1 ∧ SlOk T k d ∧ NodesAt w' T l ∧ k ≤ m ∧ Sound l ∧ (∀ x ∈ l, x.sz) ∧ Below w.heap.size w w' :=
  (Tree_any A n c rs hn hn2 hwf m hm w hA).mono fun e w' ⟨v, ys, he, ho⟩ => by
    obtain ⟨l, T, d, h1, h2, h3, h4, h5, h6, h7, h8⟩ := ho.tree
    exact ⟨l, T, l.length, d, by rw [he, h2], rfl, h1, h3, h4, h5, h6, h7, h8⟩
theorem path_max {l : List NodeV} (h : Sound l) {x : NodeV} (hx : x ∈ l) : (bs x.path).size ≤ 400 := by rw [bs_size]; exact path_len (h.node x hx)
end Go.Proofs.YtoikpnjnljdpaaaGreatDoor
