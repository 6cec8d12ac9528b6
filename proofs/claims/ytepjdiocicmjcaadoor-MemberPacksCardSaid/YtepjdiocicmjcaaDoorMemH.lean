/- Package member: leave, Head. -/
import Derived.Test.YtepjdiocicmjcaaDoorMemG
import Derived.Deep.RegionHeld3
set_option linter.unusedVariables false
set_option maxRecDepth 100000
namespace Go.Proofs.YtepjdiocicmjcaaDoor
open Go.RowKit
open Go.OpenShut
theorem below_set11 {B g : Nat} {w0 W : World} (h : Below B w0 W) (hg : B ≤ g) (v0 v1 v2 v3 v4 v5 v6 v7 v8 v9 v10 : Value) : Below B w0 (((((((((((W.setCell ⟨g, 0, none⟩ v0).setCell ⟨g, 1, none⟩ v1).setCell ⟨g, 2, none⟩ v2).setCell ⟨g, 3, none⟩ v3).setCell ⟨g, 4, none⟩ v4).setCell ⟨g, 5, none⟩ v5).setCell ⟨g, 6, none⟩ v6).setCell ⟨g, 7, none⟩ v7).setCell ⟨g, 8, none⟩ v8).setCell ⟨g, 9, none⟩ v9).setCell ⟨g, 10, none⟩ v10) :=
  (((((((((((h.setCell (p := ⟨g, 0, none⟩) hg v0).setCell (p := ⟨g, 1, none⟩) hg v1).setCell (p := ⟨g, 2, none⟩) hg v2).setCell (p := ⟨g, 3, none⟩) hg v3).setCell (p := ⟨g, 4, none⟩) hg v4).setCell (p := ⟨g, 5, none⟩) hg v5).setCell (p := ⟨g, 6, none⟩) hg v6).setCell (p := ⟨g, 7, none⟩) hg v7).setCell (p := ⟨g, 8, none⟩) hg v8).setCell (p := ⟨g, 9, none⟩) hg v9).setCell (p := ⟨g, 10, none⟩) hg v10)
theorem blk_set11 {W : World} {g t : Nat} {a0 a1 a2 a3 a4 a5 a6 a7 a8 a9 a10 : Value} (h : Blk W g t #[a0, a1, a2, a3, a4, a5, a6, a7, a8, a9, a10]) (v0 v1 v2 v3 v4 v5 v6 v7 v8 v9 v10 : Value) : Blk (((((((((((W.setCell ⟨g, 0, none⟩ v0).setCell ⟨g, 1, none⟩ v1).setCell ⟨g, 2, none⟩ v2).setCell ⟨g, 3, none⟩ v3).setCell ⟨g, 4, none⟩ v4).setCell ⟨g, 5, none⟩ v5).setCell ⟨g, 6, none⟩ v6).setCell ⟨g, 7, none⟩ v7).setCell ⟨g, 8, none⟩ v8).setCell ⟨g, 9, none⟩ v9).setCell ⟨g, 10, none⟩ v10) g t #[v0, v1, v2, v3, v4, v5, v6, v7, v8, v9, v10] := by
  have h0 : Blk (W.setCell ⟨g, 0, none⟩ v0) g t #[v0, a1, a2, a3, a4, a5, a6, a7, a8, a9, a10] := Blk.set_ h 0 v0
  have h1 : Blk ((W.setCell ⟨g, 0, none⟩ v0).setCell ⟨g, 1, none⟩ v1) g t #[v0, v1, a2, a3, a4, a5, a6, a7, a8, a9, a10] := Blk.set_ h0 1 v1
  have h2 : Blk (((W.setCell ⟨g, 0, none⟩ v0).setCell ⟨g, 1, none⟩ v1).setCell ⟨g, 2, none⟩ v2) g t #[v0, v1, v2, a3, a4, a5, a6, a7, a8, a9, a10] := Blk.set_ h1 2 v2
  have h3 : Blk ((((W.setCell ⟨g, 0, none⟩ v0).setCell ⟨g, 1, none⟩ v1).setCell ⟨g, 2, none⟩ v2).setCell ⟨g, 3, none⟩ v3) g t #[v0, v1, v2, v3, a4, a5, a6, a7, a8, a9, a10] := Blk.set_ h2 3 v3
  have h4 : Blk (((((W.setCell ⟨g, 0, none⟩ v0).setCell ⟨g, 1, none⟩ v1).setCell ⟨g, 2, none⟩ v2).setCell ⟨g, 3, none⟩ v3).setCell ⟨g, 4, none⟩ v4) g t #[v0, v1, v2, v3, v4, a5, a6, a7, a8, a9, a10] := Blk.set_ h3 4 v4
  have h5 : Blk ((((((W.setCell ⟨g, 0, none⟩ v0).setCell ⟨g, 1, none⟩ v1).setCell ⟨g, 2, none⟩ v2).setCell ⟨g, 3, none⟩ v3).setCell ⟨g, 4, none⟩ v4).setCell ⟨g, 5, none⟩ v5) g t #[v0, v1, v2, v3, v4, v5, a6, a7, a8, a9, a10] := Blk.set_ h4 5 v5
  have h6 : Blk (((((((W.setCell ⟨g, 0, none⟩ v0).setCell ⟨g, 1, none⟩ v1).setCell ⟨g, 2, none⟩ v2).setCell ⟨g, 3, none⟩ v3).setCell ⟨g, 4, none⟩ v4).setCell ⟨g, 5, none⟩ v5).setCell ⟨g, 6, none⟩ v6) g t #[v0, v1, v2, v3, v4, v5, v6, a7, a8, a9, a10] := Blk.set_ h5 6 v6
  have h7 : Blk ((((((((W.setCell ⟨g, 0, none⟩ v0).setCell ⟨g, 1, none⟩ v1).setCell ⟨g, 2, none⟩ v2).setCell ⟨g, 3, none⟩ v3).setCell ⟨g, 4, none⟩ v4).setCell ⟨g, 5, none⟩ v5).setCell ⟨g, 6, none⟩ v6).setCell ⟨g, 7, none⟩ v7) g t #[v0, v1, v2, v3, v4, v5, v6, v7, a8, a9, a10] := Blk.set_ h6 7 v7
  have h8 : Blk (((((((((W.setCell ⟨g, 0, none⟩ v0).setCell ⟨g, 1, none⟩ v1).setCell ⟨g, 2, none⟩ v2).setCell ⟨g, 3, none⟩ v3).setCell ⟨g, 4, none⟩ v4).setCell ⟨g, 5, none⟩ v5).setCell ⟨g, 6, none⟩ v6).setCell ⟨g, 7, none⟩ v7).setCell ⟨g, 8, none⟩ v8) g t #[v0, v1, v2, v3, v4, v5, v6, v7, v8, a9, a10] := Blk.set_ h7 8 v8
  have h9 : Blk ((((((((((W.setCell ⟨g, 0, none⟩ v0).setCell ⟨g, 1, none⟩ v1).setCell ⟨g, 2, none⟩ v2).setCell ⟨g, 3, none⟩ v3).setCell ⟨g, 4, none⟩ v4).setCell ⟨g, 5, none⟩ v5).setCell ⟨g, 6, none⟩ v6).setCell ⟨g, 7, none⟩ v7).setCell ⟨g, 8, none⟩ v8).setCell ⟨g, 9, none⟩ v9) g t #[v0, v1, v2, v3, v4, v5, v6, v7, v8, v9, a10] := Blk.set_ h8 9 v9
  have h10 : Blk (((((((((((W.setCell ⟨g, 0, none⟩ v0).setCell ⟨g, 1, none⟩ v1).setCell ⟨g, 2, none⟩ v2).setCell ⟨g, 3, none⟩ v3).setCell ⟨g, 4, none⟩ v4).setCell ⟨g, 5, none⟩ v5).setCell ⟨g, 6, none⟩ v6).setCell ⟨g, 7, none⟩ v7).setCell ⟨g, 8, none⟩ v8).setCell ⟨g, 9, none⟩ v9).setCell ⟨g, 10, none⟩ v10) g t #[v0, v1, v2, v3, v4, v5, v6, v7, v8, v9, v10] := Blk.set_ h9 10 v10
  exact h10
/-- what the program takes out of a header for one record -/
def hdP (h : HeadV) (r : Rc) : HeadV := if r.1 = kPath then { hdR h r with pre := [] } else hdR h r
theorem hdR_pre (h : HeadV) (r : Rc) : (hdR h r).pre = h.pre := by
  unfold hdR
  split
  · rfl
  · split
    · rfl
    · split
      · rfl
      · split
        · rfl
        · split
          · rfl
          · split
            · rfl
            · split <;> rfl
theorem foldP : ∀ (l : List Rc) (h : HeadV), (∀ r ∈ l, r.1 = kPath → h.pre = []) → l.foldl hdP h = l.foldl hdR h
  | [], h, _ => rfl
  | r :: l, h, hp => by
    have e : hdP h r = hdR h r := by
      unfold hdP
      split
      · rename_i hk
        have h1 := hp r (List.mem_cons_self ..) hk
        have h2 := hdR_pre h r
        rw [h1] at h2
        generalize hdR h r = y at h2 ⊢
        obtain ⟨n0, n1, n2, n3, n4, n5, n6, n7, n8, n9, nA⟩ := y
        simp only at h2
        rw [h2]
      · rfl
    rw [List.foldl_cons, List.foldl_cons, e]
    exact foldP l _ fun q hq hk => by rw [hdR_pre]; exact hp q (List.mem_cons_of_mem _ hq) hk
theorem recIf_is {b : Bool} {k v : List UInt8} {r : Rc} (h : r ∈ recIf b k v) : b = true ∧ r.1 = k := by
  cases b with
  | false => cases h
  | true => exact ⟨rfl, recIf_key h⟩
theorem recs_pre (x : EntV) : ∀ r ∈ recsM x, r.1 = kPath → (head0 x).pre = [] := by
  intro r hr hk
  show (cutV x.path).1 = []
  unfold recsM at hr
  simp only [List.mem_append] at hr
  rcases hr with h | h | h | h | h | h | h
  · exact absurd ((recIf_is h).2.symm.trans hk) (by decide)
  · exact absurd ((recIf_is h).2.symm.trans hk) (by decide)
  · exact absurd ((recIf_is h).2.symm.trans hk) (by decide)
  · exact absurd ((recIf_is h).2.symm.trans hk) (by decide)
  · exact (cut_bad (of_decide_eq_true (recIf_is h).1)).1
  · exact absurd ((recIf_is h).2.symm.trans hk) (by decide)
  · exact absurd ((recIf_is h).2.symm.trans hk) (by decide)
theorem hdP_recs (x : EntV) : (recsM x).foldl hdP (head0 x) = headM x := (foldP _ _ (recs_pre x)).trans (hdR_recs x)
theorem hdP_other {h : HeadV} {k v : List UInt8} (hk : k ≠ kPath) : hdP h (k, v) = hdR h (k, v) := if_neg hk
theorem hdP_path (h : HeadV) (v : List UInt8) : hdP h (kPath, v) = { h with name := atLong, pre := [] } := by rw [hdP, if_pos rfl, hdR_path]
set_option maxHeartbeats 2000000 in
theorem leave_any {w : World} {g : Nat} (h : HeadV) (K V : List UInt8) (hK : K ∈ keysM) (hB : Blk w g 32 (headC h)) :
    Calls Tryd.prog 16 #[.pointer (some ⟨g, 0, none⟩), .string (bs K)] w fun e w' => e = .returned (.tuple #[]) ∧ Blk w' g 32 (headC (hdP h (K, V))) ∧ Below g w w' := by
  obtain ⟨⟨q0, q1, q2, q3, q4, q5, q6, q7, q8, q9, qA⟩, f0, f1, f2, f3, f4, f5, f6, f7, f8, f9, fA⟩ := blk11 hB
  unfold keysM at hK
  simp only [List.mem_cons, List.not_mem_nil, or_false] at hK
  rcases hK with rfl | rfl | rfl | rfl | rfl | rfl | rfl
  · rw [hdP_other (by decide), hdR_gid]
    have HN : Hid (Blk (w.setCell ⟨g, 5, none⟩ (.int .i64 0)) g 32 (headC ({ h with gid := 0 } : HeadV))) := hB.set_ 5 (.int .i64 0)
    have HB2 := Lib.hid ((Below.refl g w).setCell (p := ⟨g, 5, none⟩) (Nat.le_refl _) (.int .i64 0))
    rw [show bs kGid = ⟨#[103, 105, 100]⟩ from rfl]
    generalize ({ h with gid := 0 } : HeadV) = h2 at HN ⊢
    clear hB
    go_enter Tryd.func16, Tryd.ntmps16
    go_wp2_with fail
    go_end0
    exact ⟨rfl, HN.out, HB2.out⟩
  · rw [hdP_other (by decide), hdR_gname]
    have HN : Hid (Blk (w.setCell ⟨g, 10, none⟩ (.string ⟨#[]⟩)) g 32 (headC ({ h with group := [] } : HeadV))) := hB.set_ 10 (.string ⟨#[]⟩)
    have HB2 := Lib.hid ((Below.refl g w).setCell (p := ⟨g, 10, none⟩) (Nat.le_refl _) (.string ⟨#[]⟩))
    rw [show bs kGname = ⟨#[103, 110, 97, 109, 101]⟩ from rfl]
    generalize ({ h with group := [] } : HeadV) = h2 at HN ⊢
    clear hB
    go_enter Tryd.func16, Tryd.ntmps16
    go_wp2_with fail
    go_end0
    exact ⟨rfl, HN.out, HB2.out⟩
  · rw [hdP_other (by decide), hdR_link]
    have HN : Hid (Blk (w.setCell ⟨g, 2, none⟩ (.string ⟨#[64, 108, 111, 110, 103]⟩)) g 32 (headC ({ h with link := atLong } : HeadV))) := hB.set_ 2 (.string ⟨#[64, 108, 111, 110, 103]⟩)
    have HB2 := Lib.hid ((Below.refl g w).setCell (p := ⟨g, 2, none⟩) (Nat.le_refl _) (.string ⟨#[64, 108, 111, 110, 103]⟩))
    rw [show bs kLink = ⟨#[108, 105, 110, 107, 112, 97, 116, 104]⟩ from rfl]
    generalize ({ h with link := atLong } : HeadV) = h2 at HN ⊢
    clear hB
    go_enter Tryd.func16, Tryd.ntmps16
    go_wp2_with fail
    go_end0
    exact ⟨rfl, HN.out, HB2.out⟩
  · rw [hdP_other (by decide), hdR_mtime]
    have HN : Hid (Blk (w.setCell ⟨g, 7, none⟩ (.int .i64 0)) g 32 (headC ({ h with time := 0 } : HeadV))) := hB.set_ 7 (.int .i64 0)
    have HB2 := Lib.hid ((Below.refl g w).setCell (p := ⟨g, 7, none⟩) (Nat.le_refl _) (.int .i64 0))
    rw [show bs kMtime = ⟨#[109, 116, 105, 109, 101]⟩ from rfl]
    generalize ({ h with time := 0 } : HeadV) = h2 at HN ⊢
    clear hB
    go_enter Tryd.func16, Tryd.ntmps16
    go_wp2_with fail
    go_end0
    exact ⟨rfl, HN.out, HB2.out⟩
  · rw [hdP_path]
    have HN : Hid (Blk ((w.setCell ⟨g, 1, none⟩ (.string ⟨#[]⟩)).setCell ⟨g, 0, none⟩ (.string ⟨#[64, 108, 111, 110, 103]⟩)) g 32 (headC ({ h with name := atLong, pre := [] } : HeadV))) := (hB.set_ 1 (.string ⟨#[]⟩)).set_ 0 (.string ⟨#[64, 108, 111, 110, 103]⟩)
    have HB2 := Lib.hid (((Below.refl g w).setCell (p := ⟨g, 1, none⟩) (Nat.le_refl _) (.string ⟨#[]⟩)).setCell (p := ⟨g, 0, none⟩) (Nat.le_refl _) (.string ⟨#[64, 108, 111, 110, 103]⟩))
    rw [show bs kPath = ⟨#[112, 97, 116, 104]⟩ from rfl]
    generalize ({ h with name := atLong, pre := [] } : HeadV) = h2 at HN ⊢
    clear hB
    go_enter Tryd.func16, Tryd.ntmps16
    go_wp2_with fail
    go_end0
    exact ⟨rfl, HN.out, HB2.out⟩
  · rw [hdP_other (by decide), hdR_uid]
    have HN : Hid (Blk (w.setCell ⟨g, 4, none⟩ (.int .i64 0)) g 32 (headC ({ h with uid := 0 } : HeadV))) := hB.set_ 4 (.int .i64 0)
    have HB2 := Lib.hid ((Below.refl g w).setCell (p := ⟨g, 4, none⟩) (Nat.le_refl _) (.int .i64 0))
    rw [show bs kUid = ⟨#[117, 105, 100]⟩ from rfl]
    generalize ({ h with uid := 0 } : HeadV) = h2 at HN ⊢
    clear hB
    go_enter Tryd.func16, Tryd.ntmps16
    go_wp2_with fail
    go_end0
    exact ⟨rfl, HN.out, HB2.out⟩
  · rw [hdP_other (by decide), hdR_uname]
    have HN : Hid (Blk (w.setCell ⟨g, 9, none⟩ (.string ⟨#[]⟩)) g 32 (headC ({ h with user := [] } : HeadV))) := hB.set_ 9 (.string ⟨#[]⟩)
    have HB2 := Lib.hid ((Below.refl g w).setCell (p := ⟨g, 9, none⟩) (Nat.le_refl _) (.string ⟨#[]⟩))
    rw [show bs kUname = ⟨#[117, 110, 97, 109, 101]⟩ from rfl]
    generalize ({ h with user := [] } : HeadV) = h2 at HN ⊢
    clear hB
    go_enter Tryd.func16, Tryd.ntmps16
    go_wp2_with fail
    go_end0
    exact ⟨rfl, HN.out, HB2.out⟩
end Go.Proofs.YtepjdiocicmjcaaDoor
