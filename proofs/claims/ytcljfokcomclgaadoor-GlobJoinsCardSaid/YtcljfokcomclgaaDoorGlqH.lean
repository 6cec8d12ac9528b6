/- The law of globs on drawn paths: GlobSelf. -/
import Derived.Test.YtcljfokcomclgaaDoorGlbP
import Derived.Test.YtcljfokcomclgaaDoorGlqN
import Derived.Test.YtcljfokcomclgaaDoorNear
set_option linter.unusedVariables false
set_option maxRecDepth 100000
namespace Go.Proofs.YtcljfokcomclgaaDoor
open Go.RowKit
open Go.OpenShut
theorem fits_val (p s : ByteArray) (b : Bool) (v : Int) (hb : fitsB p.data.toList s.data.toList = b) (hv : fitsE p.data.toList s.data.toList = v) (hp : p.size ≤ maxLen) (hs : s.size ≤ maxLen) (W : World) : Calls Tryd.prog 11 #[.string p, .string s] W fun e w' => e = .returned (.tuple #[.bool b, .int .i64 v]) ∧ Below W.heap.size W w' := by
  rw [← hb, ← hv]; exact gFits_any p s W hp hs
theorem str_dec (s t : ByteArray) : (s.toList == t.toList) = decide (s.data.toList = t.data.toList) := by
  rw [ByteArray.toList_eq, ByteArray.toList_eq]
  by_cases h : s.data.toList = t.data.toList
  · rw [decide_eq_true h, h]; simp
  · rw [decide_eq_false h]; simpa using h
/-- an index that is picked -/
theorem pk_any (np : Nat) (h1 : 1 ≤ np) (h2 : np ≤ 100000) (a : Int) (ha : (Lit.int .i64 a).wf = true) : ∃ p : Nat, p < np ∧ ∀ W, Calls Tryd.prog 14 #[.int .i64 a, .int .i64 (np : Int)] W fun e w' => e = .returned (.int .i64 (p : Int)) ∧ w' = W := by
  have h9 := pick_bd a (np : Int) (by omega)
  refine ⟨(pick a (np : Int)).toNat, by omega, fun W => ?_⟩
  have h8 := picked_any a (np : Int) W ha (by omega)
  rw [show pick a (np : Int) = (((pick a (np : Int)).toNat : Nat) : Int) by omega] at h8
  exact flip_same h8
set_option maxHeartbeats 4000001 in
theorem GlobSelf_walk (A : Option Addr) (n c : Nat) (rs : List RawV) (a1 a2 : Int) (hn : rs.length = n) (hn2 : n ≤ 140737488355328) (hwf : ∀ r ∈ rs, r.wf) (w1 : (Lit.int .i64 a1).wf = true) (w2 : (Lit.int .i64 a2).wf = true) (w : World) (hA : RawsAt w A rs) :
    Calls Tryd.prog 5 #[.slice A n c, .int .i64 a1, .int .i64 a2] w fun e w' => e = .returned (.bool true) ∧ Below w.heap.size w w' := by
  have HCP := Lib.hid (pathsN_any 20 (by omega) A n c rs hn hn2 hwf w hA)
  clear hwf hA hn
  have HW1 := Lib.hid w1
  have HW2 := Lib.hid w2
  clear w1 w2
  go_enter Tryd.func5, Tryd.ntmps5
  go_wp2_with fail
  refine HCP.out.mono ?_; rintro e w4 ⟨v, L, rfl, hT, hL1, hL2, hL3, hB⟩
  have HT := Lib.hid hT
  have HB := Lib.hid hB
  have HL := Lib.hid hL3
  clear hT hB hL3
  obtain ⟨g, cap, rfl, hg, hgl⟩ := HT.out.form hL1
  obtain ⟨np, Hnp⟩ := hid_name L.length
  rw [Hnp.out] at hL1 hL2 ⊢
  obtain ⟨p1, hp1, HP1⟩ := pk_any np hL1 (by omega) a1 HW1.out
  obtain ⟨p2, hp2, HP2⟩ := pk_any np hL1 (by omega) a2 HW2.out
  have hs : ∀ p : Nat, p < np → ∃ s : ByteArray, s.size ≤ 400 ∧ (s.data.toList = [97] ∨ ∃ n ∈ (treeS 20 rs).1, n.path = s.data.toList) ∧ w4.cell? ⟨g, p, none⟩ = some (.string s) := fun p hp => by
    have hpl : p < L.length := by rw [Hnp.out]; exact hp
    have e : L.getD p [] = L[p] := by rw [List.getD_eq_getElem?_getD, List.getElem?_eq_getElem hpl]; rfl
    have h8 := HL.out _ (List.getElem_mem hpl)
    refine ⟨⟨(L.getD p []).toArray⟩, ?_, ?_, by have h9 := HT.out; rw [Hnp.out] at h9; exact h9.cell Hnp.out p hp⟩
    · rw [size_mk, e]; exact h8.1
    · rw [e]; exact h8.2
  obtain ⟨s, hs4, hsd, hsc⟩ := hs p1 hp1
  obtain ⟨t, ht4, htd, htc⟩ := hs p2 hp2
  clear hs
  have h10 : (0 : Int) ≤ (p1 : Int) := by omega
  have h11 : (p1 : Int) < (np : Int) := by omega
  have h20 : (0 : Int) ≤ (p2 : Int) := by omega
  have h21 : (p2 : Int) < (np : Int) := by omega
  have HP1' := Lib.hid HP1
  have HP2' := Lib.hid HP2
  have hst := fits_drawn hsd htd
  have hss := fits_drawn hsd hsd
  obtain ⟨r, hr⟩ : ∃ r, decide (s.data.toList = t.data.toList) = r := ⟨_, rfl⟩
  have heq : (s.toList == t.toList) = r := by rw [str_dec, hr]
  have F1 := Lib.hid fun W => fits_val s t r 0 (hst.2.trans hr) hst.1 (by unfold maxLen; omega) (by unfold maxLen; omega) W
  have F2 := Lib.hid fun W => fits_val s s true 0 (hss.2.trans (decide_eq_true rfl)) hss.1 (by unfold maxLen; omega) (by unfold maxLen; omega) W
  have HEq := Lib.hid heq
  clear HP1 HP2 hst hss hsd htd hr heq
  go_upto_region 2 with fail
  go_cut [8, 9] (fun s10 s11 wx => s10 = .string s ∧ s11 = .string t ∧ ∃ q, wx = w4.drewN q)
  case first =>
    go_quiet ((first
      | (go_at_call 14; with_reducible exact Calls.quiet_of_same (HP1'.out _))
      | (go_at_call 14; with_reducible exact Calls.quiet_of_same (HP2'.out _))))
    go_wp2_with fail
    go_meet
    exact ⟨rfl, rfl, _, rfl⟩
  case rest =>
    obtain ⟨rfl, rfl, q, hq⟩ := hcut
    have HB5 : Hid (Below w.heap.size w wc) := by unfold Hid; rw [hq]; exact below_drewN HB.out _
    clear hq hsc htc
    go_wp2_with fail
    refine (F1.out _).mono ?_; rintro e w5 ⟨rfl, hb⟩
    have HB6 := Lib.hid (HB5.out.trans (hb.mono HB5.out.size))
    clear hb
    go_wp2_with fail
    refine (F2.out _).mono ?_; rintro e w6 ⟨rfl, hb⟩
    have HB7 := Lib.hid (HB6.out.trans (hb.mono HB6.out.size))
    have heq := HEq.out
    clear hb
    go_wp2_with fail
    go_ret
    exact ⟨ret_bool (by cases r <;> rfl), HB7.out⟩
end Go.Proofs.YtcljfokcomclgaaDoor
