/- Texts of one kind, in one file: TrgP, TrgQ, TrgR, TrgS, TrgT. -/
import Derived.Test.YtggbjpjmedkjeaaGreatDoorTreE
import Derived.Test.YtggbjpjmedkjeaaGreatDoorMth
import Derived.Test.YtggbjpjmedkjeaaGreatDoorTrgL
import Derived.Lib.SmallJoins
import Derived.Deep.RegionWith
import Derived.Deep.DeepCutAuto
/- Trees that are drawn, as they lie; nodes and trees that are the same; the small tree. -/
set_option linter.unusedVariables false
set_option maxRecDepth 100000
namespace Go.Proofs.YtggbjpjmedkjeaaGreatDoor
open Go.RowKit
open Go.OpenShut
theorem Dat.byts {w : World} {B : Nat} {d : Option Nat × Nat × Nat} {l : List UInt8} (h : Dat w B d l) : SlOk (adr d.1) l.length d.2.2 ∧ BytsAt w (adr d.1) l := by
  obtain ⟨h1, h2, h3, h4, h5⟩ := h
  refine ⟨⟨h2, h3, fun e => h4 (by cases hd : d.1 with | none => rfl | some g => rw [hd] at e; cases e)⟩, fun j hj => ?_⟩
  obtain ⟨g, cur, fr, e, _, hg, hc⟩ := h5 (by omega)
  refine ⟨g, 0, by rw [e]; rfl, ?_⟩
  rw [Nat.zero_add, cell_of_row w g j cur 5 fr hg]
  have h6 := congrArg (fun (x : List Value) => x[j]?) hc
  simp only [List.getElem?_take_of_lt hj, Array.getElem?_toList] at h6
  rw [h6, bCells_get l j hj]; simp [bInts, hj]
theorem nodE_sz {x : NodeV} (h : nodE x = 0) : x.sz := by
  have hp := path_len h
  have h1 : pathE x.path = 0 := by
    by_cases e : pathE x.path = 0
    · exact e
    · rw [nodE_path e] at h; exact absurd h e
  have h2 : metE x.md = 0 := by
    by_cases e : metE x.md = 0
    · exact e
    · rw [nodE_meta h1 e] at h; exact absurd h e
  rw [nodE_kind h1 h2] at h
  have h3 : x.md.user.length ≤ 60 ∧ x.md.group.length ≤ 60 := by
    unfold metE at h2
    split at h2
    · split at h2
      · cases h2
      · omega
    · cases h2
  have h4 : x.target.length ≤ 400 ∧ x.data.length ≤ 2000 := by
    unfold nodK at h
    split at h
    · split at h
      · cases h
      · rename_i hn
        split at h
        · cases h
        · have ht : x.target = [] := by
            rcases Classical.em (x.target = []) with e | e
            · exact e
            · exact absurd (.inl e) hn
          rw [ht]; simp; omega
    · split at h
      · split at h
        · cases h
        · rename_i hn
          split at h
          · cases h
          · have ht : x.data = [] := by
              rcases Classical.em (x.data = []) with e | e
              · exact e
              · exact absurd (.inl e) hn
            rw [ht]; simp; omega
      · cases h
  unfold NodeV.sz MetaV.sz
  omega
/-- a drawn tree, as it lies -/
theorem TreeOut.tree {w w' : World} {m : Nat} {rs : List RawV} {v : Value} {ys : List NodeD} (h : TreeOut w m rs v ys w') :
    ∃ (l : List NodeV) (A : Option Addr) (c : Nat), l.Perm (treeS m rs).1 ∧ v = .slice A l.length c ∧ SlOk A l.length c ∧ NodesAt w' A l ∧ l.length ≤ m ∧ Sound l ∧ (∀ x ∈ l, x.sz) ∧ Below w.heap.size w w' := by
  obtain ⟨h1, h2, h3, h4, h5⟩ := h
  have hs : ∀ i j (hi : i < j) (hj : j < (ys.map fun y : NodeD => y.1).length), pcmp ((ys.map fun y : NodeD => y.1)[i]'(by omega)).path (ys.map fun y : NodeD => y.1)[j].path ≤ 0 := fun i j hi hj => by
    rw [List.getElem_map, List.getElem_map]
    exact h3 i j hi (by simpa using hj)
  obtain ⟨h6, h7⟩ := drawn_sound h2 hs
  have hform : ∃ A c, v = .slice A ys.length c ∧ SlOk A ys.length c ∧ NodesAt w' A (ys.map fun y : NodeD => y.1) := by
    have h1' := h1
    unfold Nodes World.ownsRow at h1
    rcases h1.2 with ⟨rfl, h0⟩ | ⟨g, cap, cur, rfl, hB, hg, hcap, hm, hsz, ht⟩
    · have e := List.eq_nil_of_length_eq_zero h0
      subst e
      exact ⟨none, 0, rfl, ⟨Nat.le_refl _, by decide, fun _ => rfl⟩, NodesAt.nil _ _⟩
    · refine ⟨some ⟨g, 0, none⟩, cap, rfl, ⟨hcap, hm, fun e => by cases e⟩, fun j hj => ?_⟩
      have hj' : j < ys.length := by simpa using hj
      have hy := h4 _ (List.getElem_mem hj')
      rw [List.getElem_map]
      refine ⟨g, 0, adr ys[j].2.1, ys[j].2.2.2, rfl, fun i hi => ?_, hy.1.byts.1, hy.1.byts.2⟩
      rcases h1'.any with ⟨e, -⟩ | ⟨g2, cap2, e, -, -, -, hcell⟩
      · cases e
      · injection e with e _ _
        injection e with e
        injection e with e
        subst e
        rw [Nat.zero_add, (hcell j i hj' hi).1]
        have hk : keyL ys[j] = ys[j].1.path := List.take_of_length_le hy.2.1
        unfold encN nodC
        rw [hk, hy.1.1]
        rfl
  obtain ⟨A, c, e1, e2, e3⟩ := hform
  refine ⟨ys.map fun y : NodeD => y.1, A, c, h2, by rw [List.length_map]; exact e1, by rw [List.length_map]; exact e2, e3, h6, h7, fun x hx => ?_, h5⟩
  exact nodE_sz (h7.node x hx)
set_option maxHeartbeats 4000000 in
theorem keepSame_any (x y : NodeV) (D E : Option Addr) (c d : Nat) (w : World) (hD : BytsAt w D x.data) (hE : BytsAt w E y.data) : Calls Tryz.prog 15 #[.agg (nodC x D c).toArray, .agg (nodC y E d).toArray] w fun e w' => e = .returned (.bool (decide (x = y))) ∧ Below w.heap.size w w' := by
  have hq := meta_eql x.md y.md
  have hx : decide (x = y) = (decide (x.path = y.path) && (decide (x.kind = y.kind) && (decide (x.same = y.same) && (decide (x.target = y.target) && (metB x.md y.md && decide (x.data = y.data)))))) := by
    rw [Bool.eq_iff_iff, decide_eq_true_eq, ← NodeV.ext_iff']
    unfold metB
    simp only [Bool.and_eq_true, decide_eq_true_eq]
  have q1 := bs_eq (a := x.path) (b := y.path)
  have q4 := bs_eq (a := x.target) (b := y.target)
  have q6 := bs_eq (a := x.data) (b := y.data)
  have hw2 : ∀ o o', Below w.heap.size w ((w.alloc o).alloc o') := fun o o' => belowA (belowA (Below.refl _ _) o) o'
  have HW2 := Lib.hid hw2
  have k1 := fun o o' => (hD.below (hw2 o o')).conv c (fun e => by subst e; exact hD.none_nil)
  have k2 := fun o o' => (hE.below (hw2 o o')).conv d (fun e => by subst e; exact hE.none_nil)
  obtain ⟨xp, xk, xs, xt, ⟨x0, x1, x2, x3, x4, x5, x6⟩, xd⟩ := x
  obtain ⟨yp, yk, ys, yt, ⟨y0, y1, y2, y3, y4, y5, y6⟩, yd⟩ := y
  simp only at hq hx q1 q4 q6 k1 k2
  generalize metB _ _ = mb at hq hx
  rw [hx]
  unfold nodC
  unfold metA at hq
  simp only at hq ⊢
  obtain ⟨P, hP⟩ := hid_name (bs xp)
  obtain ⟨Q, hQ⟩ := hid_name (bs yp)
  obtain ⟨T, hT⟩ := hid_name (bs xt)
  obtain ⟨U, hU⟩ := hid_name (bs yt)
  obtain ⟨M, hM⟩ := hid_name (bs xd)
  obtain ⟨N, hN⟩ := hid_name (bs yd)
  rw [hP.out, hQ.out] at q1
  rw [hT.out, hU.out] at q4
  rw [hM.out, hN.out] at q6
  simp only [hM.out] at k1
  simp only [hN.out] at k2
  rw [hP.out, hQ.out, hT.out, hU.out]
  generalize decide (xd = yd) = db at q6 ⊢
  generalize xd.length = L at k1 ⊢
  generalize yd.length = L2 at k2 ⊢
  clear hx hw2 hD hE hP hQ hT hU hM hN
  by_cases e1 : xp = yp
  · rw [decide_eq_true e1] at q1 ⊢
    clear e1
    by_cases e2 : xk = yk
    · subst e2
      by_cases e3 : xs = ys
      · subst e3
        by_cases e4 : xt = yt
        · rw [decide_eq_true e4] at q4 ⊢
          clear e4
          cases mb
          · simp only [decide_true, Bool.true_and, Bool.false_and]
            clear k1 k2 q6
            go_enter Tryz.func15, Tryz.ntmps15
            go_wp2_with fail
            go_ret
            exact ⟨rfl, HW2.out _ _⟩
          · simp only [decide_true, Bool.true_and]
            have Q6 := Lib.hid q6
            clear q6
            go_enter Tryz.func15, Tryz.ntmps15
            go_wp2_with fail
            go_ret
            exact ⟨ret_bool Q6.out, HW2.out _ _⟩
        · rw [decide_eq_false e4] at q4 ⊢
          simp only [decide_true, Bool.true_and, Bool.false_and]
          clear e4 k1 k2 q6
          go_enter Tryz.func15, Tryz.ntmps15
          go_wp2_with fail
          go_ret
          exact ⟨rfl, HW2.out _ _⟩
      · rw [decide_eq_false e3]
        simp only [decide_true, Bool.true_and, Bool.false_and]
        have e3b : (xs == ys) = false := by simpa using e3
        clear e3 k1 k2 q6
        go_enter Tryz.func15, Tryz.ntmps15
        go_wp2_with fail
        go_ret
        exact ⟨rfl, HW2.out _ _⟩
    · rw [decide_eq_false e2]
      simp only [decide_true, Bool.true_and, Bool.false_and]
      have e2b : (xk == yk) = false := by simpa using e2
      clear e2 k1 k2 q6
      go_enter Tryz.func15, Tryz.ntmps15
      go_wp2_with fail
      go_ret
      exact ⟨rfl, HW2.out _ _⟩
  · rw [decide_eq_false e1] at q1 ⊢
    simp only [Bool.false_and]
    clear e1 k1 k2 q6
    go_enter Tryz.func15, Tryz.ntmps15
    go_wp2_with fail
    go_ret
    exact ⟨rfl, HW2.out _ _⟩
theorem keepTree_any (A A2 : Option Addr) (n c n2 c2 : Nat) (l l2 : List NodeV) (hn : l.length = n) (hn2 : l2.length = n2) (hm : n ≤ 140737488355328) (hm2 : n2 ≤ 140737488355328) (w : World) (hA : NodesAt w A l) (hA2 : NodesAt w A2 l2) :
    Calls Tryz.prog 16 #[.slice A n c, .slice A2 n2 c2] w fun e w' => e = .returned (.bool (decide (l = l2))) ∧ Below w.heap.size w w' := by
  go_enter Tryz.func16, Tryz.ntmps16
  go_wp2_with fail
  refine (EqualFunc_any 15 (fun x y D E c d w => keepSame_any x y D E c d w) (enters_of Tryz.func15 (by kernel_rfl) rfl) A A2 n c n2 c2 l l2 hn hn2 hm hm2 _ hA hA2).mono ?_; rintro e w1 ⟨rfl, hb⟩
  go_wp2_with fail
  go_ret
  exact ⟨rfl, hb⟩
def mdZ : MetaV := ⟨0, 0, 0, [], [], 0, 0⟩
def smA : NodeV := ⟨[97], 2, 0, [], mdZ, []⟩
def smB : NodeV := ⟨[97, 47, 98], 1, 0, [], mdZ, [120]⟩
def smC : NodeV := ⟨[99], 3, 0, [97, 47, 98], mdZ, []⟩
theorem small_at (W : World) (g : Nat) (hd : BytsAt W (some ⟨g, 0, none⟩) [120]) : NodesAt (W.alloc (.cells #[.string ⟨#[97]⟩, .int .i64 2, .int .i64 0, .string ⟨#[]⟩, .int .i64 0, .int .i64 0, .int .i64 0, .string ⟨#[]⟩, .string ⟨#[]⟩, .int .i64 0, .int .i64 0, .slice none 0 0, .string ⟨#[97, 47, 98]⟩, .int .i64 1, .int .i64 0, .string ⟨#[]⟩, .int .i64 0, .int .i64 0, .int .i64 0, .string ⟨#[]⟩, .string ⟨#[]⟩, .int .i64 0, .int .i64 0, .slice (some ⟨g, 0, none⟩) 1 1, .string ⟨#[99]⟩, .int .i64 3, .int .i64 0, .string ⟨#[97, 47, 98]⟩, .int .i64 0, .int .i64 0, .int .i64 0, .string ⟨#[]⟩, .string ⟨#[]⟩, .int .i64 0, .int .i64 0, .slice none 0 0] 32)) (some ⟨W.heap.size, 0, none⟩) [smA, smB, smC] := by
  have hb := Blk.new W 32 #[.string ⟨#[97]⟩, .int .i64 2, .int .i64 0, .string ⟨#[]⟩, .int .i64 0, .int .i64 0, .int .i64 0, .string ⟨#[]⟩, .string ⟨#[]⟩, .int .i64 0, .int .i64 0, .slice none 0 0, .string ⟨#[97, 47, 98]⟩, .int .i64 1, .int .i64 0, .string ⟨#[]⟩, .int .i64 0, .int .i64 0, .int .i64 0, .string ⟨#[]⟩, .string ⟨#[]⟩, .int .i64 0, .int .i64 0, .slice (some ⟨g, 0, none⟩) 1 1, .string ⟨#[99]⟩, .int .i64 3, .int .i64 0, .string ⟨#[97, 47, 98]⟩, .int .i64 0, .int .i64 0, .int .i64 0, .string ⟨#[]⟩, .string ⟨#[]⟩, .int .i64 0, .int .i64 0, .slice none 0 0]
  have hbel := belowA (Below.refl W.heap.size W) (.cells #[.string ⟨#[97]⟩, .int .i64 2, .int .i64 0, .string ⟨#[]⟩, .int .i64 0, .int .i64 0, .int .i64 0, .string ⟨#[]⟩, .string ⟨#[]⟩, .int .i64 0, .int .i64 0, .slice none 0 0, .string ⟨#[97, 47, 98]⟩, .int .i64 1, .int .i64 0, .string ⟨#[]⟩, .int .i64 0, .int .i64 0, .int .i64 0, .string ⟨#[]⟩, .string ⟨#[]⟩, .int .i64 0, .int .i64 0, .slice (some ⟨g, 0, none⟩) 1 1, .string ⟨#[99]⟩, .int .i64 3, .int .i64 0, .string ⟨#[97, 47, 98]⟩, .int .i64 0, .int .i64 0, .int .i64 0, .string ⟨#[]⟩, .string ⟨#[]⟩, .int .i64 0, .int .i64 0, .slice none 0 0] 32)
  have hnil : SlOk (none : Option Addr) 0 0 := ⟨Nat.le_refl _, by decide, fun _ => rfl⟩
  intro j hj
  match j, hj with
  | 0, _ =>
    refine ⟨W.heap.size, 0, none, 0, rfl, fun i hi => ?_, hnil, BytsAt.nil _ _⟩
    show World.cell? _ ⟨W.heap.size, 0 + 0 * 12 + i, none⟩ = (nodC smA none 0)[i]?
    match i, hi with
      | 0, _ => exact (hb.cell 0).trans rfl
      | 1, _ => exact (hb.cell 1).trans rfl
      | 2, _ => exact (hb.cell 2).trans rfl
      | 3, _ => exact (hb.cell 3).trans rfl
      | 4, _ => exact (hb.cell 4).trans rfl
      | 5, _ => exact (hb.cell 5).trans rfl
      | 6, _ => exact (hb.cell 6).trans rfl
      | 7, _ => exact (hb.cell 7).trans rfl
      | 8, _ => exact (hb.cell 8).trans rfl
      | 9, _ => exact (hb.cell 9).trans rfl
      | 10, _ => exact (hb.cell 10).trans rfl
      | 11, _ => exact (hb.cell 11).trans rfl
  | 1, _ =>
    refine ⟨W.heap.size, 0, some ⟨g, 0, none⟩, 1, rfl, fun i hi => ?_, ⟨Nat.le_refl _, by decide, fun e => by cases e⟩, hd.below hbel⟩
    show World.cell? _ ⟨W.heap.size, 0 + 1 * 12 + i, none⟩ = (nodC smB (some ⟨g, 0, none⟩) 1)[i]?
    match i, hi with
      | 0, _ => exact (hb.cell 12).trans rfl
      | 1, _ => exact (hb.cell 13).trans rfl
      | 2, _ => exact (hb.cell 14).trans rfl
      | 3, _ => exact (hb.cell 15).trans rfl
      | 4, _ => exact (hb.cell 16).trans rfl
      | 5, _ => exact (hb.cell 17).trans rfl
      | 6, _ => exact (hb.cell 18).trans rfl
      | 7, _ => exact (hb.cell 19).trans rfl
      | 8, _ => exact (hb.cell 20).trans rfl
      | 9, _ => exact (hb.cell 21).trans rfl
      | 10, _ => exact (hb.cell 22).trans rfl
      | 11, _ => exact (hb.cell 23).trans rfl
  | 2, _ =>
    refine ⟨W.heap.size, 0, none, 0, rfl, fun i hi => ?_, hnil, BytsAt.nil _ _⟩
    show World.cell? _ ⟨W.heap.size, 0 + 2 * 12 + i, none⟩ = (nodC smC none 0)[i]?
    match i, hi with
      | 0, _ => exact (hb.cell 24).trans rfl
      | 1, _ => exact (hb.cell 25).trans rfl
      | 2, _ => exact (hb.cell 26).trans rfl
      | 3, _ => exact (hb.cell 27).trans rfl
      | 4, _ => exact (hb.cell 28).trans rfl
      | 5, _ => exact (hb.cell 29).trans rfl
      | 6, _ => exact (hb.cell 30).trans rfl
      | 7, _ => exact (hb.cell 31).trans rfl
      | 8, _ => exact (hb.cell 32).trans rfl
      | 9, _ => exact (hb.cell 33).trans rfl
      | 10, _ => exact (hb.cell 34).trans rfl
      | 11, _ => exact (hb.cell 35).trans rfl
theorem small_any (w : World) : Calls Tryz.prog 30 #[] w fun e w' => ∃ g, e = .returned (.slice (some ⟨g, 0, none⟩) 3 3) ∧ NodesAt w' (some ⟨g, 0, none⟩) [smA, smB, smC] ∧ Below w.heap.size w w' := by
  have hcv := Go.Joins.run_convert_bytes_const_at (P := Tryz.prog) w 30 5 #[.int .u8 120] 1 1 w.heap.size rfl Tryz.underlying30 Tryz.underlying5
  have HB : Hid (Below w.heap.size w (w.alloc (.cells #[.int .u8 120] 5 (1, 2)))) := belowA (Below.refl _ _) _
  have HD : Hid (BytsAt (w.alloc (.cells #[.int .u8 120] 5 (1, 2))) (some ⟨w.heap.size, 0, none⟩) [120]) := fun j hj => by
    match j, hj with
    | 0, _ => exact ⟨w.heap.size, 0, rfl, (World.cell?_alloc_mark w _ _ _ 0).trans rfl⟩
  go_enter Tryz.func30, Tryz.ntmps30
  go_wp2_with fail
  go_ret
  refine ⟨w.heap.size + 1, rfl, ?_, belowA HB.out _⟩
  have := small_at _ w.heap.size HD.out
  rwa [hszA] at this
end Go.Proofs.YtggbjpjmedkjeaaGreatDoor
/- The small tree grows. -/
set_option linter.unusedVariables false
set_option maxRecDepth 100000
namespace Go.Proofs.YtggbjpjmedkjeaaGreatDoor
open Go.RowKit
open Go.OpenShut
theorem NodesAt.cut {w : World} {A : Option Addr} {l : List NodeV} (h : NodesAt w A l) {c : Nat} (hc : l.length ≤ c) (k : Nat) (hk : k ≤ l.length) : NodesAt w (cutN A c k) (l.drop k) := by
  intro j hj
  rw [List.length_drop] at hj
  have hne : c ≠ k := by omega
  obtain ⟨b, o, D, d, rfl, h12, h1, h2⟩ := h (k + j) (by omega)
  refine ⟨b, o + k * 12, D, d, ?_, fun i hi => ?_, ?_, ?_⟩
  · unfold cutN; rw [if_neg hne, Option.map_some, Addr.add_lit]
  · rw [List.getElem_drop, ← h12 i hi]
    congr 2
    omega
  · rw [List.getElem_drop]; exact h1
  · rw [List.getElem_drop]; exact h2
theorem sm_put : putT [smA, smB] smC = ([smA, smB, smC], 0) := by decide +kernel
theorem sm_bad : treeE [smB, smC] = 10 := by decide +kernel
theorem sm_sz : ∀ x ∈ [smA, smB, smC], x.sz := by
  intro x hx
  simp only [List.mem_cons, List.not_mem_nil, or_false] at hx
  rcases hx with rfl | rfl | rfl <;> (unfold NodeV.sz MetaV.sz; simp [smA, smB, smC, mdZ])
/-- the third of the small nodes, as it lies -/
def Sm3 (W : World) (g : Nat) : Prop := ∃ D c, (W.cell? ⟨g, 24, none⟩ = some (.string ⟨#[99]⟩) ∧ W.cell? ⟨g, 25, none⟩ = some (.int .i64 3) ∧ W.cell? ⟨g, 26, none⟩ = some (.int .i64 0) ∧ W.cell? ⟨g, 27, none⟩ = some (.string ⟨#[97, 47, 98]⟩) ∧ W.cell? ⟨g, 28, none⟩ = some (.int .i64 0) ∧ W.cell? ⟨g, 29, none⟩ = some (.int .i64 0) ∧ W.cell? ⟨g, 30, none⟩ = some (.int .i64 0) ∧ W.cell? ⟨g, 31, none⟩ = some (.string ⟨#[]⟩) ∧ W.cell? ⟨g, 32, none⟩ = some (.string ⟨#[]⟩) ∧ W.cell? ⟨g, 33, none⟩ = some (.int .i64 0) ∧ W.cell? ⟨g, 34, none⟩ = some (.int .i64 0) ∧ W.cell? ⟨g, 35, none⟩ = some (.slice D 0 c)) ∧ SlOk D 0 c
theorem NodesAt.sm3 {W : World} {g : Nat} (h : NodesAt W (some ⟨g, 0, none⟩) [smA, smB, smC]) : Sm3 W g := by
  obtain ⟨b, o, D, c, e, c0, c1, c2, c3, ⟨c4, c5, c6, c7, c8, c9, cA⟩, cB, hs, -⟩ := h.cells 2 (by decide)
  injection e with e
  injection e with e1 e2 _
  subst e1 e2
  exact ⟨D, c, ⟨c0, c1, c2, c3, c4, c5, c6, c7, c8, c9, cA, cB⟩, hs⟩
set_option maxHeartbeats 8000000 in
theorem grows_any (w : World) : Calls Tryz.prog 9 #[] w fun e w' => e = .returned (.bool true) ∧ Below w.heap.size w w' := by
  have s1 : ∀ (W : World) (g : Nat), (Instr.slice 23 (.slice (some ⟨g, 0, none⟩) 3 3) none (some (.int .i64 2)) none).run Tryz.prog W = .ok (.slice (some ⟨g, 0, none⟩) 2 3) W := fun W g => nslice_to W _ 3 3 2 (by decide)
  have s2 : ∀ (W : World) (g : Nat), (Instr.slice 23 (.slice (some ⟨g, 0, none⟩) 3 3) (some (.int .i64 1)) none none).run Tryz.prog W = .ok (.slice (some ⟨g, 12, none⟩) 2 2) W := fun W g => nslice_from W (some ⟨g, 0, none⟩) 3 3 1 (by decide)
  have HPut : Hid (∀ (g : Nat) (D : Option Addr) (c : Nat) (W : World), NodesAt W (some ⟨g, 0, none⟩) [smA, smB, smC] → SlOk D 0 c → Calls Tryz.prog 11 #[.slice (some ⟨g, 0, none⟩) 2 3, .agg #[.string ⟨#[99]⟩, .int .i64 3, .int .i64 0, .string ⟨#[97, 47, 98]⟩, .int .i64 0, .int .i64 0, .int .i64 0, .string ⟨#[]⟩, .string ⟨#[]⟩, .int .i64 0, .int .i64 0, .slice D 0 c]] W
      fun e w' => ∃ A d, e = .returned (.tuple #[.slice A 3 d, .int .i64 0]) ∧ NodesAt w' A [smA, smB, smC] ∧ Below W.heap.size W w') := fun g D c W hA hs => by
    have h1 := Put_any (some ⟨g, 0, none⟩) 2 3 [smA, smB] rfl ⟨by decide, by decide, fun e => by cases e⟩ (fun x hx => sm_sz x (by simp at hx; rcases hx with rfl | rfl <;> simp)) smC D c (sm_sz _ (by simp)) hs W (hA.take 2) (BytsAt.nil _ _)
    rw [sm_put] at h1
    refine h1.mono ?_
    rintro e w' ⟨v, xs, rfl, hx, hO, hb⟩
    obtain ⟨A, d, rfl, -, hat⟩ := hO.at
    have hl : xs.length = 3 := by
      have := congrArg List.length hx
      rwa [List.length_map] at this
    rw [hx] at hat
    rw [hl]
    exact ⟨A, d, rfl, hat, hb⟩
  go_enter Tryz.func9, Tryz.ntmps9
  go_upto_region 1 with fail
  go_cut [1, 2] (fun t1 t2 wx => t2 = .int .i64 0 ∧ ∃ A d, t1 = .slice A 3 d ∧ NodesAt wx A [smA, smB, smC] ∧ Below w.heap.size w wx)
  case first =>
    go_region_with
      (first
        | (go_at_call 30; (have F0 := hAA); refine (small_any _).mono ?_; rintro e wB ⟨gB, rfl, hBB, hbB⟩; have hAB := hAA.below hbB; obtain ⟨DB, cB, ⟨z0, z1, z2, z3, z4, z5, z6, z7, z8, z9, zA, zB⟩, hsB⟩ := hBB.sm3; (have hA3 := hAB.sm3); obtain ⟨DA2, cA2, ⟨y0, y1, y2, y3, y4, y5, y6, y7, y8, y9, yA, yB⟩, hsA2⟩ := hA3)
        | (go_at_call 30; refine (small_any _).mono ?_; rintro e wA ⟨gA, rfl, hAA, hbA⟩; obtain ⟨DA, cA, ⟨x0, x1, x2, x3, x4, x5, x6, x7, x8, x9, xA, xB⟩, hsA⟩ := hAA.sm3)
        | (go_at_call 11; first | (refine (HPut.out _ _ _ _ hAB hsB).mono ?_; rintro e wC ⟨AC, dC, rfl, hC, hbC⟩) | (refine (HPut.out _ _ _ _ hBB hsA).mono ?_; rintro e wC ⟨AC, dC, rfl, hC, hbC⟩) | (refine (HPut.out _ _ _ _ hBB hsA2).mono ?_; rintro e wC ⟨AC, dC, rfl, hC, hbC⟩)))
    all_goals
      go_wp2_with fail
      go_meet
      exact ⟨rfl, AC, dC, rfl, hC, (((Below.refl w.heap.size w).drew.trans (show Below w.heap.size w.drew wA from hbA)).trans (hbB.mono (show w.heap.size ≤ wA.heap.size from hbA.size))).trans (hbC.mono (show w.heap.size ≤ wB.heap.size from Nat.le_trans hbA.size hbB.size))⟩
  case rest =>
    obtain ⟨rfl, A, d, rfl, hat, hbw⟩ := hcut
    have HA := Lib.hid hat
    have HB := Lib.hid hbw
    clear hat hbw
    go_wp2_with fail
    refine (small_any _).mono ?_; rintro e wB ⟨gB, rfl, hBB, hbB⟩
    have HB2 := Lib.hid (HB.out.trans (hbB.mono HB.out.size))
    have HK := Lib.hid (keepTree_any A (some ⟨gB, 0, none⟩) 3 d 3 3 [smA, smB, smC] [smA, smB, smC] rfl rfl (by decide) (by decide) wB (HA.out.below hbB) hBB)
    rw [decide_eq_true rfl] at HK
    clear hBB hbB
    go_wp2_with fail
    refine HK.out.mono ?_; rintro e wC ⟨rfl, hbC⟩
    have HB3 := Lib.hid (HB2.out.trans (hbC.mono HB2.out.size))
    clear hbC
    go_wp2_with fail
    refine (small_any _).mono ?_; rintro e wD ⟨gD, rfl, hDD, hbD⟩
    have HB4 := Lib.hid (HB3.out.trans (hbD.mono HB3.out.size))
    have HCk := Lib.hid (trCheck_any (some ⟨gD, 12, none⟩) 2 2 [smB, smC] rfl ⟨by decide, by decide, fun e => by cases e⟩ (fun x hx => sm_sz x (by simp at hx; rcases hx with rfl | rfl <;> simp)) wD (hDD.cut (c := 3) (by decide) 1 (by decide)))
    rw [sm_bad] at HCk
    clear hDD hbD
    go_wp2_with fail
    refine HCk.out.mono ?_; rintro e wE ⟨rfl, hbE⟩
    have HB5 := Lib.hid (HB4.out.trans (hbE.mono HB4.out.size))
    clear hbE
    go_wp2_with fail
    go_ret
    exact ⟨rfl, HB5.out⟩
end Go.Proofs.YtggbjpjmedkjeaaGreatDoor
/- The properties TreeGone and TreeGood. -/
set_option linter.unusedVariables false
set_option maxRecDepth 100000
namespace Go.Proofs.YtggbjpjmedkjeaaGreatDoor
open Go.RowKit
open Go.OpenShut
theorem find_kept {l : List NodeV} (h : Sound l) (s : List UInt8) {n : NodeV} (hn : n ∈ l) : decide (findL (remL l s) n.path < (remL l s).length) = (!decide (n.path = s) && !inB n.path s) := by
  rw [Bool.eq_iff_iff, decide_eq_true_eq, Bool.and_eq_true, Bool.not_eq_true', Bool.not_eq_true', decide_eq_false_iff_not]
  constructor
  · intro hlt
    have h1 := List.getElem_mem hlt
    have h2 := findL_at (remL l s) n.path hlt
    have h3 := (mem_remL.1 h1).2
    rw [h2] at h3
    exact h3
  · rintro ⟨h1, h2⟩
    exact (findL_mem (rem_sound h s).rises (mem_remL.2 ⟨hn, h1, h2⟩)).1
theorem rem_small {l : List NodeV} (h : treeE l = 0) (s : List UInt8) : treeE (remL l s) = 0 := by
  obtain ⟨h1, h2⟩ := (treeE_zero l).1 h
  exact (treeE_zero _).2 ⟨Nat.le_trans (remL_sub l s).length_le h1, rem_sound h2 s⟩
theorem sound_tree {l : List NodeV} (h : Sound l) (hl : l.length ≤ 40) : treeE l = 0 := (treeE_zero l).2 ⟨hl, h⟩
theorem drawn_any (A : Option Addr) (n c : Nat) (rs : List RawV) (hn : rs.length = n) (hn2 : n ≤ 140737488355328) (hwf : ∀ r ∈ rs, r.wf) (m : Nat) (hm : m ≤ 1000) (w : World) (hA : RawsAt w A rs) :
    Calls Tryz.prog 8 #[.slice A n c, .int .i64 m] w fun e w' => ∃ (l : List NodeV) (T : Option Addr) (k d : Nat), e = .returned (.slice T k d) ∧ l.length = k ∧ l.Perm (treeS m rs).1 ∧ SlOk T k d ∧ NodesAt w' T l ∧ k ≤ m ∧ Sound l ∧ (∀ x ∈ l, x.sz) ∧ Below w.heap.size w w' :=
  (Tree_any A n c rs hn hn2 hwf m hm w hA).mono fun e w' ⟨v, ys, he, ho⟩ => by
    obtain ⟨l, T, d, h1, h2, h3, h4, h5, h6, h7, h8⟩ := ho.tree
    exact ⟨l, T, l.length, d, by rw [he, h2], rfl, h1, h3, h4, h5, h6, h7, h8⟩
theorem path_max {l : List NodeV} (h : Sound l) {x : NodeV} (hx : x ∈ l) : (bs x.path).size ≤ 400 := by rw [bs_size]; exact path_len (h.node x hx)
theorem Remove_ok {l : List NodeV} (h : Sound l) {n : Nat} (hl : l.length = n) (h40 : n ≤ 40) {y : NodeV} (hy : y ∈ l) (T : Option Addr) (d : Nat) (hs : SlOk T n d) (w : World) (hA : NodesAt w T l) :
    Calls Tryz.prog 12 #[.slice T n d, .string (bs y.path)] w fun e w' => ∃ (R : Option Addr) (k r : Nat), e = .returned (.tuple #[.slice R k r, .int .i64 0]) ∧ (remL l y.path).length = k ∧ SlOk R k r ∧ NodesAt w' R (remL l y.path) ∧ Below w.heap.size w w' := by
  have h1 := Remove_any T n d l (bs y.path) hl (by omega) hs (fun x hx => nodE_sz (h.node x hx)) (by have := path_max h hy; unfold maxLen; omega) w hA
  rw [bs_list, remT_ok (sound_tree h (by omega)) (by
    obtain ⟨hk, -⟩ := findL_mem h.rises hy
    omega)] at h1
  refine h1.mono ?_
  rintro e w' ⟨v, xs, rfl, hx, hO, hb⟩
  obtain ⟨R, r, rfl, hs', hat⟩ := hO.at
  replace hx : xs.map (·.1) = remL l y.path := hx
  have hl' : xs.length = (remL l y.path).length := by rw [← hx, List.length_map]
  rw [hx] at hat
  rw [hl'] at hs' ⊢
  exact ⟨R, _, r, rfl, rfl, hs', hat, hb⟩
set_option maxHeartbeats 8000000 in
theorem TreeGone_walk (A0 : Option Addr) (n0 c0 : Nat) (rs0 : List RawV) (a1 : Int) (hn0 : rs0.length = n0) (hm0 : n0 ≤ 140737488355328) (hf0 : ∀ r ∈ rs0, r.wf) (w1 : (Lit.int .i64 a1).wf = true) (w : World) (hr0 : RawsAt w A0 rs0) :
    Calls Tryz.prog 6 #[.slice A0 n0 c0, .int .i64 a1] w fun e w' => e = .returned (.bool true) ∧ Below w.heap.size w w' := by
  have HT := Lib.hid (drawn_any A0 n0 c0 rs0 hn0 hm0 hf0 30 (by decide) w hr0)
  have HW1 := Lib.hid w1
  clear hn0 hm0 hf0 w1 hr0
  go_enter Tryz.func6, Tryz.ntmps6
  go_wp2_with fail
  refine HT.out.mono ?_; rintro e wa ⟨l, T, n, d, rfl, hl, -, hs, hat, h30, hsd, hsz, hb⟩
  have HA := Lib.hid hat
  have HL := Lib.hid hl
  have HS := Lib.hid hs
  have HSD := Lib.hid hsd
  have HSZ := Lib.hid hsz
  have HBa := Lib.hid hb
  have hcap := hs.1
  have hmx := hs.2.1
  unfold maxLen at hmx
  clear hat hl hs hsd hsz hb HT
  go_wp2_with fail
  refine (grows_any _).mono ?_; rintro e wb ⟨rfl, hb⟩
  have HB := Lib.hid (HBa.out.trans (hb.mono HBa.out.size))
  have HAb := Lib.hid (HA.out.below hb)
  clear hb HA HBa
  by_cases hn : n = 0
  · subst hn
    go_wp2_with fail
    refine (grows_any _).mono ?_; rintro e wc ⟨rfl, hb⟩
    have HB2 := Lib.hid (HB.out.trans (hb.mono HB.out.size))
    clear hb
    go_wp2_with fail
    go_ret
    exact ⟨rfl, HB2.out⟩
  · have hn1 : ((n : Int) == 0) = false := by first | (simp; done) | (simp; omega)
    obtain ⟨p, Hp⟩ : ∃ p : Nat, Hid (pick a1 n = p) := ⟨(pick a1 n).toNat, by have := pick_bd a1 n (by omega); show _ = _; omega⟩
    have hpn : p < n := by have := pick_bd a1 n (by omega); have := Hp.out; omega
    have hp1 : p < l.length := by rw [HL.out]; exact hpn
    obtain ⟨b, o, D, cc, rfl, c0', -⟩ := HAb.out.cells p hp1
    have hmem : l[p] ∈ l := List.getElem_mem hp1
    have HR := Lib.hid fun W h => Remove_ok HSD.out HL.out (by omega) hmem (some ⟨b, o, none⟩) d HS.out W h
    have hps := path_max HSD.out hmem
    have hpq : (bs l[p].path).data.toList = l[p].path := bs_list _
    have HK := Lib.hid fun (y : NodeV) (hy : y ∈ l) => find_kept HSD.out l[p].path hy
    generalize hs0 : l[p].path = sp at *
    obtain ⟨S, hS⟩ := hid_name (bs sp)
    rw [hS.out] at HR c0' hps hpq
    have HRn : Hid ((remL l sp).length ≤ 30) := by have := (remL_sub l sp).length_le; have := HL.out; show _ ≤ _; omega
    have HPQ := Lib.hid hpq
    clear hs0 hmem hp1 hpq
    go_wp2_with (go_at_call 13; refine (picked_any _ _ _ HW1.out (by omega)).mono ?_; rintro e w' ⟨rfl, rfl⟩; rw [Hp.out])
    refine (HR.out _ HAb.out).mono ?_; rintro e wc ⟨R, k, r, rfl, hk, hsr, hatr, hb⟩
    have HB2 := Lib.hid (HB.out.trans (hb.mono HB.out.size))
    have HAc := Lib.hid (HAb.out.below hb)
    have HRt := Lib.hid hatr
    have HRk := Lib.hid hk
    have hk30 : k ≤ 30 := by rw [← hk]; exact HRn.out
    have HF : Hid (∀ (q : List UInt8) (W : World), NodesAt W R (remL l sp) → Calls Tryz.prog 14 #[.slice R k r, .string (bs q)] W fun e w' => e = .returned (if findL (remL l sp) q < k then .tuple #[.int .i64 (findL (remL l sp) q : Nat), .int .i64 0] else .tuple #[.int .i64 0, .int .i64 5]) ∧ Below W.heap.size W w') := fun q W h => by
      have h1 := Find_any R k r (remL l sp) (bs q) hk (by omega) (fun x hx => HSZ.out x (mem_remL.1 hx).1) W h
      rw [bs_list] at h1; exact h1
    have HI := Lib.hid fun (q : List UInt8) (hq : q.length ≤ 400) W => In_any (bs q) S W (by rw [bs_size]; unfold maxLen; omega) (by unfold maxLen; omega)
    simp only [bs_list, HPQ.out] at HI
    clear hb hatr hk hsr HR c0'
    go_wp2_with fail
    go_loopw [41] (fun iv wr => ∃ j : Nat, j ≤ n ∧ iv = .int .i64 j ∧ Hid (Below w.heap.size w wr) ∧ Hid (Below wc.heap.size wc wr)) (fun iv _ => n - (intOf iv).toNat)
    case atStart => exact ⟨0, Nat.zero_le _, rfl, HB2.out, Below.refl _ _⟩
    case round =>
      obtain ⟨j, hj, rfl, HBr, HBc⟩ := hrel
      by_cases hlt : j < n
      · have hj1 : j < l.length := by rw [HL.out]; exact hlt
        obtain ⟨b', o', E, cc', e', x0, x1, x2, x3, ⟨x4, x5, x6, x7, x8, x9, xA⟩, xB, -⟩ := (HAc.out.below HBc.out).cells j hj1
        injection e' with e'
        injection e' with e1' e2' _
        subst e1' e2'
        have hmem : l[j] ∈ l := List.getElem_mem hj1
        have hyp := path_len (HSD.out.node _ hmem)
        have HFj := Lib.hid (HF.out l[j].path)
        have HKj := HK.out _ hmem
        rw [HRk.out] at HKj
        have HIj := Lib.hid (HI.out l[j].path hyp)
        have hqq := bs_eq (a := l[j].path) (b := sp)
        rw [hS.out] at hqq
        generalize hy : l[j] = y at *
        obtain ⟨Q, hQ⟩ := hid_name (bs y.path)
        rw [hQ.out] at x0 HFj HIj hqq
        obtain ⟨r1, hr1⟩ : ∃ r1, r1 = decide (y.path = sp) := ⟨_, rfl⟩
        obtain ⟨r2, hr2⟩ : ∃ r2, r2 = inB y.path sp := ⟨_, rfl⟩
        rw [← hr1] at HKj hqq
        rw [← hr2] at HKj HIj
        obtain ⟨f, hf⟩ : ∃ f, f = findL (remL l sp) y.path := ⟨_, rfl⟩
        rw [← hf] at HFj HKj
        clear hy hr1 hr2 hf hmem hyp
        go_upto_region 11 with fail
        have HBl := Lib.hid (Blk.new wr 32 #[.string Q, .int .i64 y.kind, .int .i64 y.same, .string (bs y.target), .int .i64 y.md.mode, .int .i64 y.md.uid, .int .i64 y.md.gid, .string (bs y.md.user), .string (bs y.md.group), .int .i64 y.md.second, .int .i64 y.md.nano, .slice E y.data.length cc'])
        have HBx := Lib.hid (belowA HBr.out (.cells #[.string Q, .int .i64 y.kind, .int .i64 y.same, .string (bs y.target), .int .i64 y.md.mode, .int .i64 y.md.uid, .int .i64 y.md.gid, .string (bs y.md.user), .string (bs y.md.group), .int .i64 y.md.second, .int .i64 y.md.nano, .slice E y.data.length cc'] 32))
        have HBy := Lib.hid (belowA HBc.out (.cells #[.string Q, .int .i64 y.kind, .int .i64 y.same, .string (bs y.target), .int .i64 y.md.mode, .int .i64 y.md.uid, .int .i64 y.md.gid, .string (bs y.md.user), .string (bs y.md.group), .int .i64 y.md.second, .int .i64 y.md.nano, .slice E y.data.length cc'] 32))
        generalize hwa : wr.alloc _ = wx at HBl HBx HBy ⊢
        obtain ⟨⟨e0, e1, e2, e3, e4, e5, e6, e7, e8, e9, eA, eB⟩, -⟩ := blk12 HBl.out
        clear hwa x0 x1 x2 x3 x4 x5 x6 x7 x8 x9 xA xB
        have HFx := Lib.hid (HFj.out wx (HRt.out.below HBy.out))
        cases r1 with
        | true =>
          have hfk : ¬ f < k := by simpa using HKj
          rw [if_neg hfk] at HFx
          have hqn : (Q.toList != S.toList) = false := by rw [bne, hqq]; rfl
          clear HIj hfk HKj
          go_wp2_with fail
          refine HFx.out.mono ?_; rintro e wy ⟨rfl, hb⟩
          have HBl2 := Lib.hid (HBl.out.below hb HBl.out.lt)
          have HBx2 := Lib.hid (HBx.out.trans (hb.mono HBx.out.size))
          have HBy2 := Lib.hid (HBy.out.trans (hb.mono HBy.out.size))
          clear hb e0 e1 e2 e3 e4 e5 e6 e7 e8 e9 eA eB
          obtain ⟨⟨e0, e1, e2, e3, e4, e5, e6, e7, e8, e9, eA, eB⟩, -⟩ := blk12 HBl2.out
          go_wp2_with fail
          go_roundw
          case rel => exact ⟨j + 1, by omega, by go_num, HBx2, HBy2⟩
          case measure => simp [intOf]; omega
        | false =>
          have hqn : (Q.toList != S.toList) = true := by rw [bne, hqq]; rfl
          cases r2 with
          | true =>
            have hfk : ¬ f < k := by simpa using HKj
            rw [if_neg hfk] at HFx
            clear hfk HKj
            go_wp2_with fail
            refine HFx.out.mono ?_; rintro e wy ⟨rfl, hb⟩
            have HBl2 := Lib.hid (HBl.out.below hb HBl.out.lt)
            have HBx2 := Lib.hid (HBx.out.trans (hb.mono HBx.out.size))
            have HBy2 := Lib.hid (HBy.out.trans (hb.mono HBy.out.size))
            clear hb e0 e1 e2 e3 e4 e5 e6 e7 e8 e9 eA eB
            obtain ⟨⟨e0, e1, e2, e3, e4, e5, e6, e7, e8, e9, eA, eB⟩, -⟩ := blk12 HBl2.out
            go_wp2_with fail
            refine (HIj.out _).mono ?_; rintro e wz ⟨rfl, rfl⟩
            go_wp2_with fail
            go_roundw
            case rel => exact ⟨j + 1, by omega, by go_num, HBx2, HBy2⟩
            case measure => simp [intOf]; omega
          | false =>
            have hfk : f < k := by simpa using HKj
            rw [if_pos hfk] at HFx
            clear hfk HKj
            go_wp2_with fail
            refine HFx.out.mono ?_; rintro e wy ⟨rfl, hb⟩
            have HBl2 := Lib.hid (HBl.out.below hb HBl.out.lt)
            have HBx2 := Lib.hid (HBx.out.trans (hb.mono HBx.out.size))
            have HBy2 := Lib.hid (HBy.out.trans (hb.mono HBy.out.size))
            clear hb e0 e1 e2 e3 e4 e5 e6 e7 e8 e9 eA eB
            obtain ⟨⟨e0, e1, e2, e3, e4, e5, e6, e7, e8, e9, eA, eB⟩, -⟩ := blk12 HBl2.out
            go_wp2_with fail
            refine (HIj.out _).mono ?_; rintro e wz ⟨rfl, rfl⟩
            go_wp2_with fail
            go_roundw
            case rel => exact ⟨j + 1, by omega, by go_num, HBx2, HBy2⟩
            case measure => simp [intOf]; omega
      · obtain rfl : j = n := by omega
        go_wp2_with fail
        go_ret
        exact ⟨rfl, HBr.out⟩
end Go.Proofs.YtggbjpjmedkjeaaGreatDoor
/- The properties TreeGood and TreeBack. -/
set_option linter.unusedVariables false
set_option maxRecDepth 100000
namespace Go.Proofs.YtggbjpjmedkjeaaGreatDoor
open Go.RowKit
open Go.OpenShut
theorem putT_good {l : List NodeV} {x : NodeV} (h : (putT l x).2 = 0) : treeE (putT l x).1 = 0 ∧ (putT l x).1 = putL l x ∧ treeE l = 0 := by
  by_cases h1 : treeE l = 0
  · by_cases h2 : treeE (putL l x) = 0
    · rw [putT_ok h1 h2]; exact ⟨h2, rfl, h1⟩
    · rw [putT_bad2 h1 h2] at h; exact absurd h h2
  · rw [putT_bad h1] at h; exact absurd h h1
theorem Put_at {l : List NodeV} {n : Nat} (hl : l.length = n) (T : Option Addr) (d : Nat) (hs : SlOk T n d) (hsz : ∀ x ∈ l, x.sz) (x : NodeV) (D : Option Addr) (cx : Nat) (hx : x.sz) (hsx : SlOk D x.data.length cx) (w : World) (hA : NodesAt w T l) (hD : BytsAt w D x.data) :
    Calls Tryz.prog 11 #[.slice T n d, .agg (nodC x D cx).toArray] w fun e w' => ∃ (R : Option Addr) (k r : Nat), e = .returned (.tuple #[.slice R k r, .int .i64 (putT l x).2]) ∧ (putT l x).1.length = k ∧ SlOk R k r ∧ NodesAt w' R (putT l x).1 ∧ Below w.heap.size w w' := by
  refine (Put_any T n d l hl hs hsz x D cx hx hsx w hA hD).mono ?_
  rintro e w' ⟨v, xs, rfl, hx, hO, hb⟩
  obtain ⟨R, r, rfl, hs', hat⟩ := hO.at
  have hl' : xs.length = (putT l x).1.length := by rw [← hx, List.length_map]
  rw [hx] at hat
  rw [hl'] at hs' ⊢
  exact ⟨R, _, r, rfl, rfl, hs', hat, hb⟩
/-- a tree that is good, as it lies -/
def GoodAt (W : World) (tv : Value) (l : List NodeV) : Prop := ∃ (T : Option Addr) (k d : Nat), tv = .slice T k d ∧ l.length = k ∧ k ≤ 40 ∧ Sound l ∧ SlOk T k d ∧ NodesAt W T l
theorem GoodAt.below {W W' : World} {tv : Value} {l : List NodeV} (h : GoodAt W tv l) (hb : Below W.heap.size W W') : GoodAt W' tv l := by
  obtain ⟨T, k, d, h1, h2, h3, h4, h5, h6⟩ := h
  exact ⟨T, k, d, h1, h2, h3, h4, h5, h6.below hb⟩
set_option maxHeartbeats 8000000 in
theorem TreeGood_walk (A0 : Option Addr) (n0 c0 : Nat) (rs0 : List RawV) (A1 : Option Addr) (n1 c1 : Nat) (rs1 : List RawV) (a2 : Int) (hn0 : rs0.length = n0) (hm0 : n0 ≤ 140737488355328) (hf0 : ∀ r ∈ rs0, r.wf) (hn1 : rs1.length = n1) (hm1 : n1 ≤ 140737488355328) (hf1 : ∀ r ∈ rs1, r.wf) (w2 : (Lit.int .i64 a2).wf = true) (w : World) (hr0 : RawsAt w A0 rs0) (hr1 : RawsAt w A1 rs1) :
    Calls Tryz.prog 3 #[.slice A0 n0 c0, .slice A1 n1 c1, .int .i64 a2] w fun e w' => e = .returned (.bool true) ∧ Below w.heap.size w w' := by
  have HT := Lib.hid (drawn_any A0 n0 c0 rs0 hn0 hm0 hf0 20 (by decide) w hr0)
  have HT1 := Lib.hid fun W h => drawn_any A1 n1 c1 rs1 hn1 hm1 hf1 6 (by decide) W h
  have HRaw := Lib.hid hr1
  have HW2 := Lib.hid w2
  clear hn0 hm0 hf0 w2 hr0 hn1 hm1 hf1 hr1
  go_enter Tryz.func3, Tryz.ntmps3
  go_wp2_with fail
  refine HT.out.mono ?_; rintro e wa ⟨l, T, n, d, rfl, hl, -, hs, hat, h20, hsd, hsz, hb⟩
  have HA := Lib.hid hat
  have HL := Lib.hid hl
  have HS := Lib.hid hs
  have HSD := Lib.hid hsd
  have HBa := Lib.hid hb
  clear hat hl hs hsd hsz hb HT
  go_wp2_with fail
  refine (grows_any _).mono ?_; rintro e wb ⟨rfl, hb⟩
  have HB := Lib.hid (HBa.out.trans (hb.mono HBa.out.size))
  have HAb := Lib.hid (HA.out.below hb)
  have HCk := Lib.hid (trCheck_any T n d l HL.out HS.out (fun x hx => nodE_sz (HSD.out.node x hx)) wb HAb.out)
  rw [sound_tree HSD.out (by rw [HL.out]; omega)] at HCk
  clear hb HA HBa
  go_wp2_with fail
  refine HCk.out.mono ?_; rintro e wc ⟨rfl, hb⟩
  have HBc := Lib.hid (HB.out.trans (hb.mono HB.out.size))
  have HG0 : Hid (GoodAt wc (.slice T n d) l) := ⟨T, n, d, rfl, HL.out, by omega, HSD.out, HS.out, HAb.out.below hb⟩
  have HT1c := Lib.hid (HT1.out _ (HRaw.out.below HBc.out))
  clear hb HAb HCk HT1
  go_wp2_with fail
  refine HT1c.out.mono ?_; rintro e wd ⟨l2, T2, n2, d2, rfl, hl2, -, hs2, hat2, h6, hsd2, hsz2, hb⟩
  have HBd := Lib.hid (HBc.out.trans (hb.mono HBc.out.size))
  have HGd := Lib.hid (HG0.out.below hb)
  have HA2 := Lib.hid hat2
  have HL2 := Lib.hid hl2
  have HSZ2 := Lib.hid hsz2
  have hcap2 := hs2.1
  have hmx2 := hs2.2.1
  unfold maxLen at hmx2
  clear hb HG0 HT1c hat2 hl2 hsz2 hs2 hsd2 HL HS HSD
  go_wp2_with fail
  go_loopw [7, 26] (fun tv iv wr => ∃ (j : Nat) (lt : List NodeV), j ≤ n2 ∧ iv = .int .i64 j ∧ Hid (GoodAt wr tv lt) ∧ Hid (Below w.heap.size w wr) ∧ Hid (Below wd.heap.size wd wr)) (fun _ iv _ => n2 - (intOf iv).toNat)
  case atStart => exact ⟨0, l, Nat.zero_le _, rfl, HGd.out, HBd.out, Below.refl _ _⟩
  case round =>
    obtain ⟨j, lt, hj, rfl, HG, HBr, HBs⟩ := hrel
    obtain ⟨Tt, k, dt, rfl, hlt', hk40, hsdt, hst, hatt⟩ := HG.out
    have HSt := Lib.hid hst
    have HLt := Lib.hid hlt'
    have HSDt := Lib.hid hsdt
    have HAt := Lib.hid hatt
    have hcapt := hst.1
    have hmxt := hst.2.1
    unfold maxLen at hmxt
    clear hst hlt' hsdt hatt
    by_cases hlt : j < n2
    · have hj1 : j < l2.length := by rw [HL2.out]; exact hlt
      obtain ⟨b, o, E, cc, rfl, x0, x1, x2, x3, ⟨x4, x5, x6, x7, x8, x9, xA⟩, xB, hsl, hE⟩ := (HA2.out.below HBs.out).cells j hj1
      have HP := Lib.hid fun W h h' => Put_at HLt.out Tt dt HSt.out (fun x hx => nodE_sz (HSDt.out.node x hx)) (l2[j]'hj1) E cc (HSZ2.out _ (List.getElem_mem hj1)) hsl W h h'
      generalize hy : l2[j] = y at *
      have HGo := Lib.hid fun h => putT_good (l := lt) (x := y) h
      have HEd := Lib.hid hE
      unfold nodC at HP
      clear hy hsl hE
      go_upto_region 7 with fail
      have HBx := Lib.hid (belowA (Below.refl wr.heap.size wr) (.cells #[.string (bs y.path), .int .i64 y.kind, .int .i64 y.same, .string (bs y.target), .int .i64 y.md.mode, .int .i64 y.md.uid, .int .i64 y.md.gid, .string (bs y.md.user), .string (bs y.md.group), .int .i64 y.md.second, .int .i64 y.md.nano, .slice E y.data.length cc] 32))
      have HBl := Lib.hid (Blk.new wr 32 #[.string (bs y.path), .int .i64 y.kind, .int .i64 y.same, .string (bs y.target), .int .i64 y.md.mode, .int .i64 y.md.uid, .int .i64 y.md.gid, .string (bs y.md.user), .string (bs y.md.group), .int .i64 y.md.second, .int .i64 y.md.nano, .slice E y.data.length cc])
      generalize hwa : wr.alloc _ = wx at HBl HBx ⊢
      obtain ⟨⟨e0, e1, e2, e3, e4, e5, e6, e7, e8, e9, eA, eB⟩, -⟩ := blk12 HBl.out
      clear hwa x0 x1 x2 x3 x4 x5 x6 x7 x8 x9 xA xB
      have HPx := Lib.hid (HP.out wx (HAt.out.below HBx.out) (HEd.out.below HBx.out))
      have HGx := Lib.hid (HG.out.below HBx.out)
      have HB1 := Lib.hid (HBr.out.trans (HBx.out.mono HBr.out.size))
      have HB2 := Lib.hid (HBs.out.trans (HBx.out.mono HBs.out.size))
      obtain ⟨pe, hpe⟩ : ∃ pe, pe = (putT lt y).2 := ⟨_, rfl⟩
      rw [← hpe] at HPx HGo
      clear hpe HP
      by_cases hz : pe = 0
      · subst hz
        have hgo := HGo.out rfl
        generalize (putT lt y).1 = lp at *
        go_wp2_with fail
        refine HPx.out.mono ?_; rintro e wy ⟨R, k2, r, rfl, hk2, hsr, hatr, hb⟩
        obtain ⟨h40, hsdp⟩ := (treeE_zero lp).1 hgo.1
        have HB3 := Lib.hid (HB1.out.trans (hb.mono HB1.out.size))
        have HB4 := Lib.hid (HB2.out.trans (hb.mono HB2.out.size))
        have HCk2 := Lib.hid (trCheck_any R k2 r lp hk2 hsr (fun x hx => nodE_sz (hsdp.node x hx)) wy hatr)
        rw [hgo.1] at HCk2
        have HGy : Hid (GoodAt wy (.slice R k2 r) lp) := ⟨R, k2, r, rfl, hk2, by omega, hsdp, hsr, hatr⟩
        clear hb hatr hsr hgo HGo e0 e1 e2 e3 e4 e5 e6 e7 e8 e9 eA eB
        go_wp2_with fail
        refine HCk2.out.mono ?_; rintro e wz ⟨rfl, hb⟩
        have HB5 := Lib.hid (HB3.out.trans (hb.mono HB3.out.size))
        have HB6 := Lib.hid (HB4.out.trans (hb.mono HB4.out.size))
        have HGz := Lib.hid (HGy.out.below hb)
        clear hb
        go_wp2_with fail
        go_roundw
        case rel => exact ⟨j + 1, lp, by omega, by go_num, HGz, HB5, HB6⟩
        case measure => simp [intOf]; omega
      · have hz1 : (pe == 0) = false := by simpa using hz
        clear HGo hz
        go_wp2_with fail
        refine HPx.out.mono ?_; rintro e wy ⟨R, k2, r, rfl, hk2, hsr, hatr, hb⟩
        have HB3 := Lib.hid (HB1.out.trans (hb.mono HB1.out.size))
        have HB4 := Lib.hid (HB2.out.trans (hb.mono HB2.out.size))
        have HGy := Lib.hid (HGx.out.below hb)
        have HCk2 := Lib.hid (trCheck_any Tt k dt lt HLt.out HSt.out (fun x hx => nodE_sz (HSDt.out.node x hx)) wy ((HAt.out.below HBx.out).below hb))
        rw [sound_tree HSDt.out (by rw [HLt.out]; exact hk40)] at HCk2
        clear hb hatr hsr hk2 e0 e1 e2 e3 e4 e5 e6 e7 e8 e9 eA eB
        go_wp2_with fail
        refine HCk2.out.mono ?_; rintro e wz ⟨rfl, hb⟩
        have HB5 := Lib.hid (HB3.out.trans (hb.mono HB3.out.size))
        have HB6 := Lib.hid (HB4.out.trans (hb.mono HB4.out.size))
        have HGz := Lib.hid (HGy.out.below hb)
        clear hb
        go_wp2_with fail
        go_roundw
        case rel => exact ⟨j + 1, lt, by omega, by go_num, HGz, HB5, HB6⟩
        case measure => simp [intOf]; omega
    · obtain rfl : j = n2 := by omega
      by_cases hk0 : k = 0
      · subst hk0
        go_wp2_with fail
        go_ret
        exact ⟨rfl, HBr.out⟩
      · have hk1 : ((k : Int) == 0) = false := by first | (simp; done) | (simp; omega)
        obtain ⟨p, Hp⟩ : ∃ p : Nat, Hid (pick a2 k = p) := ⟨(pick a2 k).toNat, by have := pick_bd a2 k (by omega); show _ = _; omega⟩
        have hpn : p < k := by have := pick_bd a2 k (by omega); have := Hp.out; omega
        have hp1 : p < lt.length := by rw [HLt.out]; exact hpn
        obtain ⟨b, o, D, cc, rfl, c0', -⟩ := HAt.out.cells p hp1
        have hmem : lt[p] ∈ lt := List.getElem_mem hp1
        have HR := Lib.hid (Remove_ok HSDt.out HLt.out hk40 hmem (some ⟨b, o, none⟩) dt HSt.out wr HAt.out)
        have HSh : Hid ((remL lt lt[p].path).length < k) := by
          have := rem_shorter (t := lt) (s := lt[p].path) ⟨_, hmem, rfl⟩
          rw [HLt.out] at this; exact this
        have HSr := Lib.hid (rem_sound HSDt.out lt[p].path)
        generalize hs0 : lt[p].path = sp at *
        generalize remL lt sp = lr at *
        clear hs0 hmem hp1
        go_wp2_with (go_at_call 13; refine (picked_any _ _ _ HW2.out (by omega)).mono ?_; rintro e w' ⟨rfl, rfl⟩; rw [Hp.out])
        refine HR.out.mono ?_; rintro e wy ⟨R, kr, r, rfl, hkr, hsr, hatr, hb⟩
        have HB5 := Lib.hid (HBr.out.trans (hb.mono HBr.out.size))
        have hkl : kr < k := by rw [← hkr]; exact HSh.out
        have HCk2 := Lib.hid (trCheck_any R kr r lr hkr hsr (fun x hx => nodE_sz (HSr.out.node x hx)) wy hatr)
        rw [sound_tree HSr.out (by omega)] at HCk2
        clear hb hatr hsr c0'
        go_wp2_with fail
        refine HCk2.out.mono ?_; rintro e wz ⟨rfl, hb⟩
        have HB6 := Lib.hid (HB5.out.trans (hb.mono HB5.out.size))
        clear hb
        go_wp2_with fail
        go_ret
        exact ⟨rfl, HB6.out⟩
end Go.Proofs.YtggbjpjmedkjeaaGreatDoor
/- The property TreeBack. -/
set_option linter.unusedVariables false
set_option maxRecDepth 100000
namespace Go.Proofs.YtggbjpjmedkjeaaGreatDoor
open Go.RowKit
open Go.OpenShut
theorem Find_at {l : List NodeV} {n : Nat} (hl : l.length = n) (hn : n ≤ 1000) (hsz : ∀ x ∈ l, x.sz) (T : Option Addr) (d : Nat) (q : List UInt8) (W : World) (h : NodesAt W T l) :
    Calls Tryz.prog 14 #[.slice T n d, .string (bs q)] W fun e w' => e = .returned (if findL l q < n then .tuple #[.int .i64 (findL l q : Nat), .int .i64 0] else .tuple #[.int .i64 0, .int .i64 5]) ∧ Below W.heap.size W w' := by
  have h1 := Find_any T n d l (bs q) hl (by omega) hsz W h
  rw [bs_list] at h1; exact h1
theorem y_in_put {l : List NodeV} {y : NodeV} : y ∈ putL l y := mem_putL.2 (.inl rfl)
set_option maxHeartbeats 8000000 in
theorem TreeBack_walk (A0 : Option Addr) (n0 c0 : Nat) (rs0 : List RawV) (A1 : Option Addr) (n1 c1 : Nat) (rs1 : List RawV) (hn0 : rs0.length = n0) (hm0 : n0 ≤ 140737488355328) (hf0 : ∀ r ∈ rs0, r.wf) (hn1 : rs1.length = n1) (hm1 : n1 ≤ 140737488355328) (hf1 : ∀ r ∈ rs1, r.wf) (w : World) (hr0 : RawsAt w A0 rs0) (hr1 : RawsAt w A1 rs1) :
    Calls Tryz.prog 5 #[.slice A0 n0 c0, .slice A1 n1 c1] w fun e w' => e = .returned (.bool true) ∧ Below w.heap.size w w' := by
  have HT := Lib.hid (drawn_any A0 n0 c0 rs0 hn0 hm0 hf0 20 (by decide) w hr0)
  have HT1 := Lib.hid fun W h => drawn_any A1 n1 c1 rs1 hn1 hm1 hf1 6 (by decide) W h
  have HRaw := Lib.hid hr1
  clear hn0 hm0 hf0 hr0 hn1 hm1 hf1 hr1
  go_enter Tryz.func5, Tryz.ntmps5
  go_wp2_with fail
  refine HT.out.mono ?_; rintro e wa ⟨l, T, n, d, rfl, hl, -, hs, hat, h20, hsd, hsz, hb⟩
  have HA := Lib.hid hat
  have HL := Lib.hid hl
  have HS := Lib.hid hs
  have HSD := Lib.hid hsd
  have HSZ := Lib.hid hsz
  have HBa := Lib.hid hb
  clear hat hl hs hsd hsz hb HT
  go_wp2_with fail
  refine (grows_any _).mono ?_; rintro e wb ⟨rfl, hb⟩
  have HB := Lib.hid (HBa.out.trans (hb.mono HBa.out.size))
  have HAb := Lib.hid (HA.out.below hb)
  have HT1c := Lib.hid (HT1.out _ (HRaw.out.below HB.out))
  clear hb HA HBa HT1
  go_wp2_with fail
  refine HT1c.out.mono ?_; rintro e wd ⟨l2, T2, n2, d2, rfl, hl2, -, hs2, hat2, h6, hsd2, hsz2, hb⟩
  have HBd := Lib.hid (HB.out.trans (hb.mono HB.out.size))
  have HAd := Lib.hid (HAb.out.below hb)
  have HA2 := Lib.hid hat2
  have HL2 := Lib.hid hl2
  have HSD2 := Lib.hid hsd2
  have HSZ2 := Lib.hid hsz2
  have hcap2 := hs2.1
  have hmx2 := hs2.2.1
  unfold maxLen at hmx2
  clear hb HAb HT1c hat2 hl2 hsz2 hs2 hsd2
  go_wp2_with fail
  go_loopw [21] (fun iv wr => ∃ (j : Nat), j ≤ n2 ∧ iv = .int .i64 j ∧ Hid (Below w.heap.size w wr) ∧ Hid (Below wd.heap.size wd wr)) (fun iv _ => n2 - (intOf iv).toNat)
  case atStart => exact ⟨0, Nat.zero_le _, rfl, HBd.out, Below.refl _ _⟩
  case round =>
    obtain ⟨j, hj, rfl, HBr, HBs⟩ := hrel
    by_cases hlt : j < n2
    · have hj1 : j < l2.length := by rw [HL2.out]; exact hlt
      obtain ⟨b, o, E, cc, rfl, x0, x1, x2, x3, ⟨x4, x5, x6, x7, x8, x9, xA⟩, xB, hsl, hE⟩ := (HA2.out.below HBs.out).cells j hj1
      have HP := Lib.hid fun W h h' => Put_at HL.out T d HS.out HSZ.out (l2[j]'hj1) E cc (HSZ2.out _ (List.getElem_mem hj1)) hsl W h h'
      have HF := Lib.hid fun W h => Find_at HL.out (by omega) HSZ.out T d (l2[j]'hj1).path W h
      have hne0 := path_ne (HSD2.out.node _ (List.getElem_mem hj1))
      generalize hy : l2[j] = y at *
      have HGo := Lib.hid fun h => putT_good (l := l) (x := y) h
      have HEd := Lib.hid hE
      have HNe := Lib.hid hne0
      have hfl := findL_le l y.path
      rw [HL.out] at hfl
      have HFn : Hid (findL l y.path = n → ∀ x ∈ l, x.path ≠ y.path) := fun h => findL_none.1 (by rw [HL.out]; exact h)
      obtain ⟨f, hf⟩ : ∃ f, f = findL l y.path := ⟨_, rfl⟩
      rw [← hf] at HF hfl HFn
      unfold nodC at HP
      obtain ⟨Q, hQ⟩ := hid_name (bs y.path)
      rw [hQ.out] at HP HF x0
      clear hy hsl hE hf hne0
      go_upto_region 7 with fail
      have HBl := Lib.hid (Blk.new wr 32 #[.string Q, .int .i64 y.kind, .int .i64 y.same, .string (bs y.target), .int .i64 y.md.mode, .int .i64 y.md.uid, .int .i64 y.md.gid, .string (bs y.md.user), .string (bs y.md.group), .int .i64 y.md.second, .int .i64 y.md.nano, .slice E y.data.length cc])
      have HBx := Lib.hid (belowA (Below.refl wr.heap.size wr) (.cells #[.string Q, .int .i64 y.kind, .int .i64 y.same, .string (bs y.target), .int .i64 y.md.mode, .int .i64 y.md.uid, .int .i64 y.md.gid, .string (bs y.md.user), .string (bs y.md.group), .int .i64 y.md.second, .int .i64 y.md.nano, .slice E y.data.length cc] 32))
      generalize hwa : wr.alloc _ = wx at HBl HBx ⊢
      obtain ⟨⟨e0, e1, e2, e3, e4, e5, e6, e7, e8, e9, eA, eB⟩, -⟩ := blk12 HBl.out
      clear hwa x0 x1 x2 x3 x4 x5 x6 x7 x8 x9 xA xB
      have HB1 := Lib.hid (HBr.out.trans (HBx.out.mono HBr.out.size))
      have HB2 := Lib.hid (HBs.out.trans (HBx.out.mono HBs.out.size))
      have HE1 := Lib.hid (HEd.out.below HBx.out)
      have HFx := Lib.hid (HF.out wx (HAd.out.below HB2.out))
      clear HF HBx HEd
      by_cases hfn : f < n
      · rw [if_pos hfn] at HFx
        clear HFn
        go_wp2_with fail
        refine HFx.out.mono ?_; rintro e wy ⟨rfl, hb⟩
        have HB3 := Lib.hid (HB1.out.trans (hb.mono HB1.out.size))
        have HB4 := Lib.hid (HB2.out.trans (hb.mono HB2.out.size))
        have HBl2 := Lib.hid (HBl.out.below hb HBl.out.lt)
        have HPx := Lib.hid (HP.out wy (HAd.out.below HB4.out) (HE1.out.below hb))
        generalize (putT l y).2 = pe at *
        clear hb e0 e1 e2 e3 e4 e5 e6 e7 e8 e9 eA eB HP
        obtain ⟨⟨e0, e1, e2, e3, e4, e5, e6, e7, e8, e9, eA, eB⟩, -⟩ := blk12 HBl2.out
        by_cases hz : pe = 0
        · subst hz
          go_wp2_with fail
          refine HPx.out.mono ?_; rintro e wz ⟨R, k2, r, rfl, hk2, hsr, hatr, hb⟩
          have HB5 := Lib.hid (HB3.out.trans (hb.mono HB3.out.size))
          have HB6 := Lib.hid (HB4.out.trans (hb.mono HB4.out.size))
          clear hb e0 e1 e2 e3 e4 e5 e6 e7 e8 e9 eA eB hk2 hsr hatr
          go_wp2_with fail
          go_roundw
          case rel => exact ⟨j + 1, by omega, by go_num, HB5, HB6⟩
          case measure => simp [intOf]; omega
        · have hz1 : (pe != 0) = true := by simpa using hz
          clear hz
          go_wp2_with fail
          refine HPx.out.mono ?_; rintro e wz ⟨R, k2, r, rfl, hk2, hsr, hatr, hb⟩
          have HB5 := Lib.hid (HB3.out.trans (hb.mono HB3.out.size))
          have HB6 := Lib.hid (HB4.out.trans (hb.mono HB4.out.size))
          clear hb e0 e1 e2 e3 e4 e5 e6 e7 e8 e9 eA eB hk2 hsr hatr
          go_wp2_with fail
          go_roundw
          case rel => exact ⟨j + 1, by omega, by go_num, HB5, HB6⟩
          case measure => simp [intOf]; omega
      · rw [if_neg hfn] at HFx
        have hap := HFn.out (by omega)
        have HBk := Lib.hid (put_rem HSD.out (n := y) HNe.out hap)
        clear HFn hap
        go_wp2_with fail
        refine HFx.out.mono ?_; rintro e wy ⟨rfl, hb⟩
        have HB3 := Lib.hid (HB1.out.trans (hb.mono HB1.out.size))
        have HB4 := Lib.hid (HB2.out.trans (hb.mono HB2.out.size))
        have HBl2 := Lib.hid (HBl.out.below hb HBl.out.lt)
        have HPx := Lib.hid (HP.out wy (HAd.out.below HB4.out) (HE1.out.below hb))
        obtain ⟨pe, hpe⟩ : ∃ pe, pe = (putT l y).2 := ⟨_, rfl⟩
        rw [← hpe] at HPx HGo
        clear hb e0 e1 e2 e3 e4 e5 e6 e7 e8 e9 eA eB HP hpe
        obtain ⟨⟨e0, e1, e2, e3, e4, e5, e6, e7, e8, e9, eA, eB⟩, -⟩ := blk12 HBl2.out
        by_cases hz : pe = 0
        · subst hz
          have hgo := HGo.out rfl
          have hg1 := hgo.1
          have hg2 := hgo.2.1
          rw [hg2] at hg1 HPx
          obtain ⟨h40, hsdp⟩ := (treeE_zero (putL l y)).1 hg1
          have HSP := Lib.hid hsdp
          clear hgo HGo hsdp hg1 hg2
          go_wp2_with fail
          refine HPx.out.mono ?_; rintro e wz ⟨R, k2, r, rfl, hk2, hsr, hatr, hb⟩
          have HB5 := Lib.hid (HB3.out.trans (hb.mono HB3.out.size))
          have HB6 := Lib.hid (HB4.out.trans (hb.mono HB4.out.size))
          have HBl3 := Lib.hid (HBl2.out.below hb HBl2.out.lt)
          have HR := Lib.hid (Remove_ok HSP.out hk2 (by omega) y_in_put R r hsr wz hatr)
          rw [HBk.out, hQ.out] at HR
          clear hb e0 e1 e2 e3 e4 e5 e6 e7 e8 e9 eA eB hk2 hsr hatr
          obtain ⟨⟨e0, e1, e2, e3, e4, e5, e6, e7, e8, e9, eA, eB⟩, -⟩ := blk12 HBl3.out
          go_wp2_with fail
          refine HR.out.mono ?_; rintro e wq ⟨R2, k3, r2, rfl, hk3, hsr2, hatr2, hb⟩
          have HB7 := Lib.hid (HB5.out.trans (hb.mono HB5.out.size))
          have HB8 := Lib.hid (HB6.out.trans (hb.mono HB6.out.size))
          obtain rfl : k3 = n := by rw [← hk3]; exact HL.out
          have HK := Lib.hid (keepTree_any R2 T k3 r2 k3 d l l hk3 hk3 (by omega) (by omega) wq hatr2 (HAd.out.below HB8.out))
          rw [decide_eq_true rfl] at HK
          clear hb e0 e1 e2 e3 e4 e5 e6 e7 e8 e9 eA eB hk3 hsr2 hatr2
          go_wp2_with fail
          refine HK.out.mono ?_; rintro e wu ⟨rfl, hb⟩
          have HB9 := Lib.hid (HB7.out.trans (hb.mono HB7.out.size))
          have HB10 := Lib.hid (HB8.out.trans (hb.mono HB8.out.size))
          clear hb
          go_wp2_with fail
          go_roundw
          case rel => exact ⟨j + 1, by omega, by go_num, HB9, HB10⟩
          case measure => simp [intOf]; omega
        · have hz1 : (pe != 0) = true := by simpa using hz
          clear hz HGo
          go_wp2_with fail
          refine HPx.out.mono ?_; rintro e wz ⟨R, k2, r, rfl, hk2, hsr, hatr, hb⟩
          have HB5 := Lib.hid (HB3.out.trans (hb.mono HB3.out.size))
          have HB6 := Lib.hid (HB4.out.trans (hb.mono HB4.out.size))
          clear hb e0 e1 e2 e3 e4 e5 e6 e7 e8 e9 eA eB hk2 hsr hatr
          go_wp2_with fail
          go_roundw
          case rel => exact ⟨j + 1, by omega, by go_num, HB5, HB6⟩
          case measure => simp [intOf]; omega
    · obtain rfl : j = n2 := by omega
      go_wp2_with fail
      go_ret
      exact ⟨rfl, HBr.out⟩
end Go.Proofs.YtggbjpjmedkjeaaGreatDoor
