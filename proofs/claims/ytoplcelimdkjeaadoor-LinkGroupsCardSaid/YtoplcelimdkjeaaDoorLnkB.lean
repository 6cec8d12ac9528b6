/- The reference's LinkAnew. -/
import Derived.Test.YtoplcelimdkjeaaDoorLnkA
set_option linter.unusedVariables false
set_option maxRecDepth 100000
namespace Go.Proofs.YtoplcelimdkjeaaDoor
open Go.RowKit
open Go.OpenShut
theorem rowN_same (xs : List NodP) (j : Nat) (z : Int) (hj : j < xs.length) : (rowN xs).set (j * 12 + 2) (.int .i64 z) = rowN (xs.set j ({ xs[j].1 with same := z }, xs[j].2)) := by
  induction xs generalizing j with
  | nil => simp at hj
  | cons x xs ih =>
    have e : ∀ (y : NodP) (ys : List NodP), rowN (y :: ys) = nodV y.1 y.2 ++ rowN ys := fun _ _ => rfl
    rw [e]
    cases j with
    | zero =>
      rw [Nat.zero_mul, Nat.zero_add, List.set_append_left _ _ (by rw [nodV_length]; omega)]
      simp only [List.getElem_cons_zero, List.set_cons_zero]
      rw [e]; rfl
    | succ j =>
      rw [List.set_append_right _ _ (by rw [nodV_length]; omega), nodV_length, show (j + 1) * 12 + 2 - 12 = j * 12 + 2 by omega]
      simp only [List.getElem_cons_succ, List.set_cons_succ]
      rw [ih j (by simpa using hj), e]
/-- writing the hard link of the j-th node -/
theorem OwnN.setSame {w : World} {B g cap n : Nat} {xs : List NodP} (h : OwnN w B (.slice (some ⟨g, 0, none⟩) n cap) xs) (hn : n = xs.length) (j : Nat) (hj : j < xs.length) (z : Int) :
    OwnN (w.setCell ⟨g, j * 12 + 2, none⟩ (.int .i64 z)) B (.slice (some ⟨g, 0, none⟩) n cap) (xs.set j ({ xs[j].1 with same := z }, xs[j].2)) := by
  subst hn
  have hr := h.1
  unfold RowN at hr
  obtain ⟨h1, h2⟩ := World.ownsRow.stored hr (j * 12 + 2) (.int .i64 z)
  rw [rowN_same xs j z hj] at h1
  refine ⟨by unfold RowN; rw [List.length_set]; exact h1, fun x hx => ?_⟩
  rcases List.mem_or_eq_of_mem_set hx with hx | rfl
  · exact (h.2 x hx).grown h2 fun g e e2 => own_apart (h.2 x hx) h.1 g e e2
  · exact (h.2 _ (List.getElem_mem hj)).grown h2 fun g e e2 => own_apart (h.2 _ (List.getElem_mem hj)) h.1 g e e2
theorem OwnN.same_cell {w : World} {B g cap n : Nat} {xs : List NodP} (h : OwnN w B (.slice (some ⟨g, 0, none⟩) n cap) xs) (hn : n = xs.length) (j : Nat) (hj : j < xs.length) :
    w.cell? ⟨g, j * 12 + 2, none⟩ = some (.int .i64 xs[j].1.same) ∧ w.frozen? ⟨g, j * 12 + 2, none⟩ = false := by
  subst hn
  have hr := h.1
  unfold RowN at hr
  refine ⟨?_, World.ownsRow.frozenAt hr _⟩
  rw [World.ownsRow.cellAt hr (j * 12 + 2) (by omega), rowN_get xs j 2 hj (by omega)]; rfl
theorem mix_step {α : Type} (a l : List α) (i : Nat) (ha : i < a.length) (hl : a.length = l.length) : (a.take i ++ l.drop i).set i a[i] = a.take (i + 1) ++ l.drop (i + 1) := by
  rw [List.set_append_right _ _ (by rw [List.length_take]; omega), List.length_take, Nat.min_eq_left (by omega), Nat.sub_self, List.drop_eq_getElem_cons (by omega), List.set_cons_zero, List.take_succ_eq_append_getElem ha, List.append_assoc]; rfl
theorem mix_get {α : Type} (a l : List α) (i : Nat) (ha : i < a.length) (hl : a.length = l.length) (h : i < (a.take i ++ l.drop i).length) : (a.take i ++ l.drop i)[i] = l[i] := by
  rw [List.getElem_append_right (by rw [List.length_take]; omega)]
  simp only [List.getElem_drop, List.length_take]
  congr 1; omega
/-- the nodes ys, the i-th being numbered anew -/
theorem anew_mix {l : List NodeV} {ys : List NodP} {i : Nat} (hi : i < l.length) (hy : ys.map (·.1) = (anewF l).take i ++ l.drop i) (hyi : i < ys.length) : ys[i].1 = l[i] ∧ ∀ d, (ys.set i (anewN l i l[i], d)).map (·.1) = (anewF l).take (i + 1) ++ l.drop (i + 1) := by
  have hl := anewF_len l
  constructor
  · have h1 : (ys.map (·.1))[i]'(by rw [List.length_map]; exact hyi) = l[i] := by
      simp only [hy]
      exact mix_get _ _ _ (by omega) hl _
    rwa [List.getElem_map] at h1
  · intro d
    rw [List.map_set, hy, ← anewF_at l i hi]
    exact mix_step _ _ _ (by omega) hl
theorem anew_len {l : List NodeV} {ys : List NodP} {i n : Nat} (hn : l.length = n) (hi : i ≤ n) (hy : ys.map (·.1) = (anewF l).take i ++ l.drop i) : ys.length = n := by
  have := congrArg List.length hy
  rw [List.length_map, List.length_append, List.length_take, List.length_drop, anewF_len] at this
  omega
theorem fsL_cell {W : World} {A : Option Addr} {l : List NodeV} (h : NumsAt W A (fsL l)) (i : Nat) (hi : i < l.length) : ∃ b o, A = some ⟨b, o, none⟩ ∧ W.cell? ⟨b, o + i, none⟩ = some (.int .i64 ((firstF l i : Nat) : Int)) := by
  obtain ⟨b, o, e, h1⟩ := h i (by rw [fsL_len]; exact hi)
  refine ⟨b, o, e, h1.trans ?_⟩
  congr 2
  unfold fsL
  rw [List.getElem_map, List.getElem_range]
theorem nmL_cell {W : World} {A : Option Addr} {l : List NodeV} (h : NumsAt W A (nmL l)) (i : Nat) (hi : i < l.length) : ∃ b o, A = some ⟨b, o, none⟩ ∧ W.cell? ⟨b, o + i, none⟩ = some (.int .i64 ((namesF l i : Nat) : Int)) := by
  obtain ⟨b, o, e, h1⟩ := h i (by rw [nmL_len]; exact hi)
  refine ⟨b, o, e, h1.trans ?_⟩
  congr 2
  unfold nmL
  rw [List.getElem_map, List.getElem_range]
set_option maxHeartbeats 4000000 in
theorem rAnew_ok (A : Option Addr) (n c : Nat) (l : List NodeV) (hn : l.length = n) (hc : SlOk A n c) (hsz : ∀ x ∈ l, x.sz) (h40 : n ≤ 40) (w : World) (hA : NodesAt w A l) (ht : treeE l = 0) :
    Calls Tryd.prog 13 #[.slice A n c] w fun e w' => ∃ v xs, e = .returned (.tuple #[v, .int .i64 0]) ∧ xs.map (·.1) = anewF l ∧ OwnN w' w.heap.size v xs ∧ Below w.heap.size w w' := by
  have H1 := Lib.hid (rFirsts_ok A n c l hn hc hsz h40 w hA ht)
  have H2 := Lib.hid fun W (h : Below w.heap.size w W) => rNames_ok A n c l hn hc hsz h40 W (hA.below h) ht
  have H3 := Lib.hid fun W (h : Below w.heap.size w W) => rCopy_any A n c l hn (by omega) hsz W (hA.below h)
  have HN := Lib.hid hn
  clear hn hc hsz hA ht
  go_enter Tryd.func13, Tryd.ntmps13
  go_wp2_with fail
  refine H1.out.mono ?_; rintro e x1 ⟨v1, rfl, ho, hb⟩
  have HB1 := Lib.hid hb
  obtain ⟨A1, c1, hv1, hN1⟩ := ho.at
  rw [fsL_len, HN.out] at hv1
  subst hv1
  have HF1 := Lib.hid hN1
  clear ho hb hN1 H1
  go_wp2_with fail
  refine (H2.out _ HB1.out).mono ?_; rintro e x2 ⟨v2, rfl, ho, hb⟩
  have HB2 := Lib.hid (HB1.out.trans (hb.mono HB1.out.size))
  have HF2 := Lib.hid (HF1.out.below hb)
  obtain ⟨A2, c2, hv2, hN2⟩ := ho.at
  rw [nmL_len, HN.out] at hv2
  subst hv2
  have HM2 := Lib.hid hN2
  clear ho hb hN2 H2 HF1 HB1
  go_wp2_with fail
  refine (H3.out _ HB2.out).mono ?_; rintro e x3 ⟨v3, zs, rfl, hz, ho, hb⟩
  obtain ⟨A3, c3, hv3, hs3⟩ := ho.1.form
  have hzl : zs.length = n := by rw [← HN.out, ← hz, List.length_map]
  rw [hzl] at hv3 hs3
  subst hv3
  have HO3 := Lib.hid ho
  have HB3 := Lib.hid hb
  have HZ3 : Hid (zs.map (·.1) = (anewF l).take 0 ++ l.drop 0) := by
    unfold Hid
    rw [hz]; rfl
  clear ho hb hz hzl hs3 H3
  go_wp2_with fail
  go_loopw [9] (fun iv wr => ∃ i : Nat, i ≤ n ∧ iv = .int .i64 i ∧ ∃ ys : List NodP, Hid (OwnN wr x2.heap.size (.slice A3 n c3) ys) ∧ Hid (ys.map (·.1) = (anewF l).take i ++ l.drop i) ∧ Hid (Below x2.heap.size x2 wr)) (fun iv _ => n - (intOf iv).toNat)
  case atStart => exact ⟨0, Nat.zero_le _, rfl, zs, HO3.out, HZ3.out, HB3.out⟩
  case round =>
    obtain ⟨i, hi, rfl, ys, HO, HY, HB⟩ := hrel
    by_cases hlt : i < n
    · have i1 : i < l.length := by rw [HN.out]; exact hlt
      have hyl := anew_len HN.out hi HY.out
      obtain ⟨hy1, hy2⟩ := anew_mix i1 HY.out (by omega)
      obtain ⟨g, cap, hv, hgB, hgl, hcap1, hcap2⟩ := HO.out.1.row (by omega)
      injection hv with hv1 hv2 hv3
      subst hv1 hv3
      clear hv2
      obtain ⟨e0, f0⟩ := HO.out.same_cell hyl.symm i (by omega)
      have HS1 := Lib.hid (HO.out.setSame hyl.symm i (by omega) 0)
      have HBS := Lib.hid (Below.set1 HB.out hgB (i * 12 + 2) (.int .i64 0))
      have h3 : (i : Int) < (n : Int) := by omega
      have h4 : (0 : Int) ≤ (i : Int) := by omega
      obtain ⟨b1, o1, rfl, e1⟩ := fsL_cell (HF2.out.below HBS.out) i i1
      obtain ⟨b2, o2, rfl, e2⟩ := nmL_cell (HM2.out.below HBS.out) i i1
      have hys : (ys.set i ({ ys[i].1 with same := 0 }, ys[i].2)).length = n := by rw [List.length_set]; exact hyl
      have hE3 := HS1.out.same_cell hys.symm i (by omega)
      simp only [List.getElem_set_self] at hE3
      obtain ⟨e3, f3⟩ := hE3
      have HYL := Lib.hid hyl
      have HYS := Lib.hid hys
      by_cases hg : 1 < namesF l i
      · have HY1 : Hid ((ys.set i (anewN l i l[i], ys[i].2)).map (·.1) = (anewF l).take (i + 1) ++ l.drop (i + 1)) := hy2 _
        have HS2 : Hid (OwnN ((wr.setCell ⟨g, i * 12 + 2, none⟩ (.int .i64 0)).setCell ⟨g, i * 12 + 2, none⟩ (.int .i64 ((firstF l i : Nat) + 1))) x2.heap.size (.slice (some ⟨g, 0, none⟩) n c3) (ys.set i (anewN l i l[i], ys[i].2))) := by
          have h1 := HS1.out.setSame hys.symm i (by omega) (((firstF l i : Nat) : Int) + 1)
          simp only [List.getElem_set_self, List.set_set] at h1
          have h2 : anewN l i l[i] = { ys[i].1 with same := ((firstF l i : Nat) : Int) + 1 } := by
            unfold anewN
            rw [if_pos hg, hy1]
          unfold Hid
          rw [h2]
          exact h1
        have HB2 := Lib.hid (Below.set1 HBS.out hgB (i * 12 + 2) (.int .i64 ((firstF l i : Nat) + 1)))
        have hfi : firstF l i ≤ i := (firstF_spec l i).1
        generalize firstF l i = f at e1 HS2 HB2 hfi
        generalize namesF l i = m at e2 hg
        have hm1 : (1 : Int) < (m : Int) := by omega
        generalize ys[i].1.same = z0 at e0
        generalize ys.set i (anewN l i l[i], ys[i].2) = zs1 at HS2 HY1
        clear hy1 hy2 hcap1 hcap2 hgl
        go_wp2_with fail
        go_roundw
        case rel => exact ⟨i + 1, by omega, by go_num, _, HS2.out, HY1.out, HB2.out⟩
        case measure => simp [intOf]; omega
      · have HY1 : Hid ((ys.set i (anewN l i l[i], ys[i].2)).map (·.1) = (anewF l).take (i + 1) ++ l.drop (i + 1)) := hy2 _
        have HS2 : Hid (OwnN (wr.setCell ⟨g, i * 12 + 2, none⟩ (.int .i64 0)) x2.heap.size (.slice (some ⟨g, 0, none⟩) n c3) (ys.set i (anewN l i l[i], ys[i].2))) := by
          have h2 : anewN l i l[i] = { ys[i].1 with same := 0 } := by
            unfold anewN
            rw [if_neg hg, hy1]
          unfold Hid
          rw [h2]
          exact HS1.out
        generalize namesF l i = m at e2 hg
        have hm1 : ¬ (1 : Int) < (m : Int) := by omega
        generalize ys[i].1.same = z0 at e0
        generalize ys.set i (anewN l i l[i], ys[i].2) = zs1 at HS2 HY1
        clear hy1 hy2 hcap1 hcap2 hgl
        go_wp2_with fail
        go_roundw
        case rel => exact ⟨i + 1, by omega, by go_num, _, HS2.out, HY1.out, HBS.out⟩
        case measure => simp [intOf]; omega
    · obtain rfl : i = n := by omega
      have hY := HY.out
      rw [List.take_of_length_le (by rw [anewF_len, HN.out]; exact Nat.le_refl _), List.drop_of_length_le (by rw [HN.out]; exact Nat.le_refl _), List.append_nil] at hY
      have HY9 := Lib.hid hY
      have HO9 := Lib.hid (HO.out.mono HB2.out.size)
      have HB9 := Lib.hid (HB2.out.trans (HB.out.mono HB2.out.size))
      clear hY
      go_wp2_with fail
      refine bodyPost_ret (v := .tuple #[.slice A3 i c3, .int .i64 0]) (by simp [results, Tryd.results13, go_sem, *]) rfl ?_
      exact ⟨_, ys, rfl, HY9.out, HO9.out, HB9.out⟩
theorem rAnew_any (A : Option Addr) (n c : Nat) (l : List NodeV) (hn : l.length = n) (hc : SlOk A n c) (hsz : ∀ x ∈ l, x.sz) (w : World) (hA : NodesAt w A l) :
    Calls Tryd.prog 13 #[.slice A n c] w fun e w' => ∃ v xs, e = .returned (.tuple #[v, .int .i64 (treeE l)]) ∧ xs.map (·.1) = (if treeE l = 0 then anewF l else []) ∧ OwnN w' w.heap.size v xs ∧ Below w.heap.size w w' := by
  by_cases ht : treeE l = 0
  · rw [if_pos ht, ht]
    have h40 := (sound_path' ht)
    exact rAnew_ok A n c l hn hc hsz (by omega) w hA ht
  · rw [if_neg ht]
    have H1 := Lib.hid (rFirsts_any A n c l hn hc hsz w hA)
    rw [if_neg ht] at H1
    obtain ⟨E, HEE⟩ := hid_name (treeE l)
    rw [HEE.out] at H1 ht ⊢
    have hne : (E == 0) = false := by simpa using ht
    clear hn hc hsz hA ht
    go_enter Tryd.func13, Tryd.ntmps13
    go_wp2_with fail
    refine H1.out.mono ?_; rintro e x1 ⟨v, rfl, ho, hb⟩
    have HB1 := Lib.hid hb
    clear ho hb
    go_wp2_with fail
    refine bodyPost_ret (v := .tuple #[.slice none 0 0, .int .i64 E]) (by simp [results, Tryd.results13, go_sem, *]) rfl ?_
    exact ⟨_, [], rfl, rfl, OwnN.nil _ _, HB1.out⟩
end Go.Proofs.YtoplcelimdkjeaaDoor
