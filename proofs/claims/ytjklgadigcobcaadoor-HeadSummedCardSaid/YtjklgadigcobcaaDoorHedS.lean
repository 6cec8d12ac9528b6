/- Package head: Read. -/
import Derived.Test.YtjklgadigcobcaaDoorHedQ
import Derived.Deep.DeepCutAuto
import Derived.Deep.RegionWith
set_option linter.unusedVariables false
set_option maxRecDepth 100000
namespace Go.Proofs.YtjklgadigcobcaaDoor
open Go.RowKit
open Go.OpenShut
/-- the result's cells at r, all zero, in a world reached from u -/
def Rz (r : Nat) (u w : World) : Prop := w.heap[r]? = some (.cells (headC headZ) 25 (0, 0)) ∧ Below r u w
theorem Rz.below {r : Nat} {u w w' : World} (h : Rz r u w) (hb : Below w.heap.size w w') : Rz r u w' :=
  ⟨(hb.block r (rd_lt h.1)).trans h.1, h.2.trans (hb.mono (Nat.le_of_lt (rd_lt h.1)))⟩
theorem Rz.drew {r : Nat} {u w : World} (h : Rz r u w) : Rz r u w.drew := ⟨h.1, h.2.drew⟩
theorem Rz.new (w : World) : Rz w.heap.size w (w.alloc (.cells (headC headZ) 25)) := ⟨heap_alloc_new w _, (Below.refl _ w).alloc (Nat.le_refl _) _⟩
theorem Rz.frozen {r : Nat} {u w : World} (h : Rz r u w) (i : Nat) : w.frozen? ⟨r, i, none⟩ = false := Lib.frozen_of_heap h.1 i
theorem Rz.cells {r : Nat} {u w : World} (h : Rz r u w) : ∀ i, i < 11 → ∃ v, w.cell? ⟨r, i, none⟩ = some v := by
  intro i hi
  have hs : (headC headZ).size = 11 := rfl
  exact ⟨(headC headZ)[i], by rw [Lib.cell_of_heap h.1]; exact Array.getElem?_eq_getElem (by omega)⟩
def Bw (r : Nat) (u w : World) : Prop := Below r u w
theorem Bw.set {r i : Nat} {u w : World} (H : Bw r u w) (v : Value) : Bw r u (w.setCell ⟨r, i, none⟩ v) := Below.setCell (p := ⟨r, i, none⟩) H (Nat.le_refl _) _
theorem Bw.drew {r : Nat} {u w : World} (H : Bw r u w) : Bw r u w.drew := Below.drew H
set_option maxHeartbeats 2000000 in
theorem hRead_size (s : ByteArray) (w : World) (hs : s.size ≤ maxLen) (h : s.size ≠ 512) :
    Calls Tryd.prog 8 #[.string s] w fun e w' => e = .returned (.tuple #[.agg (headC headZ), .int .i64 1]) ∧ Below w.heap.size w w' := by
  have hl : s.data.toList.length = s.size := by simp
  have HZ := Lib.hid (Rz.new w)
  have HS := Lib.hid (fun W => Sum_any s W hs)
  rw [sumV_no (by omega)] at HS
  clear hl h
  go_enter Tryd.func8, Tryd.ntmps8
  go_wp2_with fail
  refine (HS.out _).mono ?_; rintro e w1 ⟨rfl, hb1⟩
  have H1 := (show Rz w.heap.size w _ from HZ.out).below hb1
  obtain ⟨c0, c1, c2, c3, c4, c5, c6, c7, c8, c9, cA⟩ := headQ_cells H1.1
  have f0 := H1.frozen 0
  have f1 := H1.frozen 1
  have f2 := H1.frozen 2
  have f3 := H1.frozen 3
  have f4 := H1.frozen 4
  have f5 := H1.frozen 5
  have f6 := H1.frozen 6
  have f7 := H1.frozen 7
  have f8 := H1.frozen 8
  have f9 := H1.frozen 9
  have fA := H1.frozen 10
  have HB : Hid (Bw w.heap.size w w1) := H1.2
  clear H1 hb1
  go_wp2_with fail
  refine bodyPost_ret (v := .tuple #[.agg #[.string ⟨#[]⟩, .string ⟨#[]⟩, .string ⟨#[]⟩, .int .i64 0, .int .i64 0, .int .i64 0, .int .i64 0, .int .i64 0, .int .u8 0, .string ⟨#[]⟩, .string ⟨#[]⟩], .int .i64 1]) (by simp [results, Tryd.results8, go_sem, *]) rfl ⟨rfl, ?_⟩
  change Bw _ _ _
  iterate 11 refine Bw.set ?_ _
  exact HB.out
set_option maxHeartbeats 4000000 in
theorem hRead_in (s : ByteArray) (w : World) (h : s.size = 512) :
    Calls Tryd.prog 8 #[.string s] w fun e w' => e = .returned (.tuple #[.agg (headC (headR s.data.toList).1), .int .i64 (headR s.data.toList).2]) ∧ Below w.heap.size w w' := by
  have hl : s.data.toList.length = 512 := by rw [← h]; simp
  have HZ := Lib.hid (Rz.new w)
  have HS := Lib.hid (fun W => Sum_any s W (by unfold maxLen; omega))
  rw [sumV_ok hl] at HS
  have hlt := sumH_lt s.data.toList hl
  obtain ⟨N, HN⟩ := hid_name (sumH s.data.toList)
  rw [HN.out] at hlt HS
  have HQ := Lib.hid (fun W => sumField_any N W hlt)
  obtain ⟨C, HC⟩ := hid_name (bs (ckL N))
  rw [HC.out] at HQ
  obtain ⟨M, HM⟩ : ∃ M, M = s.extract 148 156 := ⟨_, rfl⟩
  obtain ⟨q, Hq⟩ := hid_name (ckOk s.data.toList)
  have hq : (M.toList == C.toList) = q := by
    rw [← Hq.out, HM, ← HC.out, str_eq, ckOk, HN.out]
    rw [decide_eq_decide]
    constructor
    · intro e
      have := congrArg (fun x : ByteArray => x.data.toList) e
      simp only [extract_list] at this
      exact this
    · intro e
      apply ByteArray.ext; apply Array.toList_inj.1
      rw [extract_list]; exact e
  have hq2 : (M.toList != C.toList) = !q := by rw [bne, hq]
  have x1 : s.extract 148 156 = M := HM.symm
  have y1 : 156 ≤ s.size := by omega
  have y2 : s.size ≤ 512 := by omega
  have HL := Lib.hid hl
  clear hl h HM hlt
  go_enter Tryd.func8, Tryd.ntmps8
  go_wp2_with fail
  refine (HS.out _).mono ?_; rintro e w1 ⟨rfl, hb1⟩
  have H1 := (show Rz w.heap.size w _ from HZ.out).below hb1
  clear hb1
  go_upto_region 4 with fail
  go_cut [21] (fun s21 wx => s21 = .bool (!q) ∧ Rz w.heap.size w wx)
  case first =>
    go_region_with (go_at_call 16; refine (HQ.out _).mono ?_; rintro e w5 ⟨rfl, hb5⟩)
    all_goals
      go_wp2_with fail
      go_meet
      exact ⟨by first | rfl | rw [hq2], (Rz.drew H1).below hb5⟩
  case rest =>
    obtain ⟨rfl, G⟩ := hcut
    clear x1 hq hq2 H1
    obtain ⟨c0, c1, c2, c3, c4, c5, c6, c7, c8, c9, cA⟩ := headQ_cells G.1
    have f0 := G.frozen 0
    have f1 := G.frozen 1
    have f2 := G.frozen 2
    have f3 := G.frozen 3
    have f4 := G.frozen 4
    have f5 := G.frozen 5
    have f6 := G.frozen 6
    have f7 := G.frozen 7
    have f8 := G.frozen 8
    have f9 := G.frozen 9
    have fA := G.frozen 10
    have HB : Hid (Bw w.heap.size w wc) := G.2
    cases q
    · have HO := Lib.hid (headR_sum HL.out Hq.out)
      clear G
      go_wp2_with fail
      refine bodyPost_ret (v := .tuple #[.agg #[.string ⟨#[]⟩, .string ⟨#[]⟩, .string ⟨#[]⟩, .int .i64 0, .int .i64 0, .int .i64 0, .int .i64 0, .int .i64 0, .int .u8 0, .string ⟨#[]⟩, .string ⟨#[]⟩], .int .i64 8]) (by simp [results, Tryd.results8, go_sem, *]) rfl ⟨by rw [HO.out]; rfl, ?_⟩
      change Bw _ _ _
      iterate 11 refine Bw.set ?_ _
      exact HB.out
    · have hne := rd_lt G.1
      have hR : Rd wc.heap.size s.data.toList 0 0 (wc.alloc (.cells #[.string s, .int .i64 0] 50)) := by
        have := heap_alloc_new wc (.cells #[.string s, .int .i64 0] 50)
        unfold Rd
        rw [List.drop_zero, bs_of]; exact this
      have hG6 : (wc.alloc (.cells #[.string s, .int .i64 0] 50)).heap[w.heap.size]? = some (.cells (headC headZ) 25 (0, 0)) := (Lib.alloc_old _ _ _ hne).trans G.1
      have hB6 : Below w.heap.size w (wc.alloc (.cells #[.string s, .int .i64 0] 50)) := G.2.alloc (by omega) _
      have hH := rHead wc.heap.size s.data.toList _ hR HL.out
      obtain ⟨E, HE⟩ := hid_name (firstE (errsP s.data.toList))
      rw [HE.out] at hH
      unfold headC at hH
      have HH := Lib.hid hH
      have HG6 := Lib.hid hG6
      have HB6 := Lib.hid hB6
      have HNe := Lib.hid hne
      clear hR hH hG6 hB6 hne c0 c1 c2 c3 c4 c5 c6 c7 c8 c9 cA f0 f1 f2 f3 f4 f5 f6 f7 f8 f9 fA G HB
      go_wp2_with fail
      refine HH.out.mono ?_; rintro e w6 ⟨rfl, hf⟩
      have G6 : Rz w.heap.size w w6 := ⟨(hf.2.block w.heap.size HNe.out).trans HG6.out, HB6.out.trans (hf.2.mono (Nat.le_of_lt HNe.out))⟩
      have hb6 := rd_lt hf.1
      have hr6 := rd_lt G6.1
      have ce := hf.1.cells.2.1
      have c1 : ∀ o, (w6.alloc o).cell? ⟨wc.heap.size, 1, none⟩ = some (.int .i64 E) := fun o => by rw [World.cell?_alloc_old _ _ _ (by show wc.heap.size ≠ _; omega)]; exact ce
      have hfz : ∀ o i, (w6.alloc o).frozen? ⟨w.heap.size, i, none⟩ = false := fun o i => Lib.frozen_of_heap ((Lib.alloc_old w6 o _ hr6).trans G6.1) i
      have f0 : ∀ o, (w6.alloc o).frozen? ⟨w.heap.size, 0, none⟩ = false := fun o => hfz o 0
      have f1 : ∀ o, (w6.alloc o).frozen? ⟨w.heap.size, 1, none⟩ = false := fun o => hfz o 1
      have f2 : ∀ o, (w6.alloc o).frozen? ⟨w.heap.size, 2, none⟩ = false := fun o => hfz o 2
      have f3 : ∀ o, (w6.alloc o).frozen? ⟨w.heap.size, 3, none⟩ = false := fun o => hfz o 3
      have f4 : ∀ o, (w6.alloc o).frozen? ⟨w.heap.size, 4, none⟩ = false := fun o => hfz o 4
      have f5 : ∀ o, (w6.alloc o).frozen? ⟨w.heap.size, 5, none⟩ = false := fun o => hfz o 5
      have f6 : ∀ o, (w6.alloc o).frozen? ⟨w.heap.size, 6, none⟩ = false := fun o => hfz o 6
      have f7 : ∀ o, (w6.alloc o).frozen? ⟨w.heap.size, 7, none⟩ = false := fun o => hfz o 7
      have f8 : ∀ o, (w6.alloc o).frozen? ⟨w.heap.size, 8, none⟩ = false := fun o => hfz o 8
      have f9 : ∀ o, (w6.alloc o).frozen? ⟨w.heap.size, 9, none⟩ = false := fun o => hfz o 9
      have fA : ∀ o, (w6.alloc o).frozen? ⟨w.heap.size, 10, none⟩ = false := fun o => hfz o 10
      have hcz : ∀ o, (w6.alloc o).heap[w.heap.size]? = some (.cells (headC headZ) 25 (0, 0)) := fun o => (Lib.alloc_old w6 o _ hr6).trans G6.1
      have k0 : ∀ o, (w6.alloc o).cell? ⟨w.heap.size, 0, none⟩ = some (.string (bs headZ.name)) := fun o => (headQ_cells (hcz o)).1
      have k1 : ∀ o, (w6.alloc o).cell? ⟨w.heap.size, 1, none⟩ = some (.string (bs headZ.pre)) := fun o => (headQ_cells (hcz o)).2.1
      have k2 : ∀ o, (w6.alloc o).cell? ⟨w.heap.size, 2, none⟩ = some (.string (bs headZ.link)) := fun o => (headQ_cells (hcz o)).2.2.1
      have k3 : ∀ o, (w6.alloc o).cell? ⟨w.heap.size, 3, none⟩ = some (.int .i64 headZ.mode) := fun o => (headQ_cells (hcz o)).2.2.2.1
      have k4 : ∀ o, (w6.alloc o).cell? ⟨w.heap.size, 4, none⟩ = some (.int .i64 headZ.uid) := fun o => (headQ_cells (hcz o)).2.2.2.2.1
      have k5 : ∀ o, (w6.alloc o).cell? ⟨w.heap.size, 5, none⟩ = some (.int .i64 headZ.gid) := fun o => (headQ_cells (hcz o)).2.2.2.2.2.1
      have k6 : ∀ o, (w6.alloc o).cell? ⟨w.heap.size, 6, none⟩ = some (.int .i64 headZ.size) := fun o => (headQ_cells (hcz o)).2.2.2.2.2.2.1
      have k7 : ∀ o, (w6.alloc o).cell? ⟨w.heap.size, 7, none⟩ = some (.int .i64 headZ.time) := fun o => (headQ_cells (hcz o)).2.2.2.2.2.2.2.1
      have k8 : ∀ o, (w6.alloc o).cell? ⟨w.heap.size, 8, none⟩ = some (.int .u8 (headZ.typ.toNat : Int)) := fun o => (headQ_cells (hcz o)).2.2.2.2.2.2.2.2.1
      have k9 : ∀ o, (w6.alloc o).cell? ⟨w.heap.size, 9, none⟩ = some (.string (bs headZ.user)) := fun o => (headQ_cells (hcz o)).2.2.2.2.2.2.2.2.2.1
      have kA : ∀ o, (w6.alloc o).cell? ⟨w.heap.size, 10, none⟩ = some (.string (bs headZ.group)) := fun o => (headQ_cells (hcz o)).2.2.2.2.2.2.2.2.2.2
      have HB : Hid (∀ o, Bw w.heap.size w (w6.alloc o)) := fun o => G6.2.alloc (Nat.le_of_lt hr6) o
      clear hf G6 hb6 hr6 ce hfz hcz HH
      by_cases h0 : E = 0
      · subst h0
        have HO := Lib.hid (headR_ok HL.out Hq.out (by rw [← errs_same _ HL.out]; exact HE.out))
        go_wp2_with fail
        refine bodyPost_ret (v := .tuple #[.agg #[.string (bs (readH s.data.toList).name), .string (bs (readH s.data.toList).pre), .string (bs (readH s.data.toList).link), .int .i64 (readH s.data.toList).mode, .int .i64 (readH s.data.toList).uid, .int .i64 (readH s.data.toList).gid, .int .i64 (readH s.data.toList).size, .int .i64 (readH s.data.toList).time, .int .u8 ((readH s.data.toList).typ.toNat : Int), .string (bs (readH s.data.toList).user), .string (bs (readH s.data.toList).group)], .int .i64 0]) (by simp [results, Tryd.results8, go_sem, *]) rfl ⟨by rw [HO.out]; rfl, ?_⟩
        change Bw _ _ _
        iterate 11 refine Bw.set ?_ _
        exact HB.out _
      · have hb : (E != 0) = true := by simpa using h0
        have HO := Lib.hid (headR_err HL.out Hq.out (by rw [← errs_same _ HL.out, HE.out]; exact h0))
        have HO2 : Hid (firstE (errsR s.data.toList) = E) := by unfold Hid; rw [← errs_same _ HL.out]; exact HE.out
        have n1 : wc.heap.size ≠ w.heap.size := by have := HNe.out; omega
        have n2 : w.heap.size ≠ wc.heap.size := by have := HNe.out; omega
        clear h0
        go_wp2_with fail
        go_region
        all_goals
          go_wp2_with fail
          refine bodyPost_ret (v := .tuple #[.agg #[.string ⟨#[]⟩, .string ⟨#[]⟩, .string ⟨#[]⟩, .int .i64 0, .int .i64 0, .int .i64 0, .int .i64 0, .int .i64 0, .int .u8 0, .string ⟨#[]⟩, .string ⟨#[]⟩], .int .i64 E]) (by simp [results, Tryd.results8, go_sem, *]) rfl ⟨by rw [HO.out, HO2.out]; rfl, ?_⟩
          change Bw _ _ _
          repeat (first | (with_reducible refine Bw.drew ?_) | (with_reducible refine Bw.set ?_ _))
          exact HB.out _
theorem hRead_any (s : ByteArray) (w : World) (hs : s.size ≤ maxLen) :
    Calls Tryd.prog 8 #[.string s] w fun e w' => e = .returned (.tuple #[.agg (headC (headR s.data.toList).1), .int .i64 (headR s.data.toList).2]) ∧ Below w.heap.size w w' := by
  by_cases h : s.size = 512
  · exact hRead_in s w h
  · rw [headR_size (by simpa using h)]
    exact hRead_size s w hs h
end Go.Proofs.YtjklgadigcobcaaDoor
