/- MemberTorn: no beginning of a member is one. -/
import Derived.Test.YtepjdiocicmjcaaGreatDoorMemF
import Derived.Test.YtepjdiocicmjcaaGreatDoorMemJ
import Derived.Test.YtepjdiocicmjcaaGreatDoorMyg
import Derived.Test.YtepjdiocicmjcaaGreatDoorLaid
import Derived.Test.YtepjdiocicmjcaaGreatDoorArb
set_option linter.unusedVariables false
set_option maxRecDepth 100000
namespace Go.Proofs.YtepjdiocicmjcaaGreatDoor
open Go.RowKit
open Go.OpenShut
theorem entD_szs (r : RawV) : (entD r).sz := by
  have g := entE_good (entD_good r)
  exact ⟨⟨by have := g.path; omega, by have := g.target; omega, by have := g.data; omega⟩, by have := g.user; omega, by have := g.group; omega⟩
theorem bytesM_bd {x : EntV} (h : entE x = 0) : 512 ≤ (bytesM x).length ∧ (bytesM x).length ≤ 20000 := by
  have h1 := bytesM_len h
  have h2 := recs_len h
  have h3 := padN_lt x.data.length
  have h4 := padN_lt (textP (recsM x)).length
  have h5 := (entE_good h).data
  rw [h1]
  split <;> omega
theorem MemberTorn_walk (a0 : RawV) (a1 : Int) (w0 : a0.wf) (w1 : (Lit.int .i64 a1).wf = true) (w : World) (hL : laidMetH Tryz.prog Rows.memberTornRow.laid w) :
    Calls Tryz.prog 7 #[.agg (rawC a0).toArray, .int .i64 a1] w fun e w' => e = .returned (.bool true) ∧ Below w.heap.size w w' := by
  have S : Std w := std_of_laid hL (by kernel_rfl) (by simp [Rows.memberTornRow]) (by simp [Rows.memberTornRow]) (by simp [Rows.memberTornRow])
  have H1 := Lib.hid fun W => Entry_any a0 w0 W
  have hg := entD_good a0
  have hsz := entD_szs a0
  have H2 := Lib.hid fun D c W TW hD hs => mWrite_any (entD a0) D c hsz W TW hD hs
  rw [hg] at H2
  have hbo : bytO (entD a0) = bytesM (entD a0) := if_pos hg
  rw [hbo] at H2
  obtain ⟨hb1, hb2⟩ := bytesM_bd hg
  have ht := fun n hn => read_torn (x := entD a0) (n := n) hg hn
  generalize entD a0 = y at H1 H2 ht hb1 hb2 hg hsz hbo
  generalize bytesM y = BM at H2 hb1 hb2 ht
  obtain ⟨nb, hnb⟩ : ∃ nb, nb = BM.length := ⟨_, rfl⟩
  rw [← hnb] at hb1 hb2
  obtain ⟨p1, p2⟩ := pick_bd a1 (nb : Int) (by omega)
  obtain ⟨k, hk⟩ : ∃ k : Nat, pick a1 (nb : Int) = k := ⟨(pick a1 (nb : Int)).toNat, by omega⟩
  have HP := Lib.hid fun W => picked_any a1 (nb : Int) W w1 (by omega)
  rw [hk] at HP p2
  have hr7 := ht k (by omega)
  have hlk : (BM.take k).length = k := by rw [List.length_take]; omega
  have H3 := Lib.hid fun A c hc W SW hA => mRead_any A k c (BM.take k) hlk (by omega) hc W SW hA
  rw [hr7] at H3
  generalize readM (BM.take k) = RM at H3
  have hHW : Hid (Below w.heap.size w (w.alloc (.cells (rawC a0).toArray 37))) := (Below.refl _ _).alloc (Nat.le_refl _) _
  have hnp : (0 : Int) < (nb : Int) := by omega
  have hn0 : ((nb : Int) == 0) = false := by rw [beq_eq_false_iff_ne]; omega
  unfold rawC at H1 hHW ⊢
  clear hg hsz hbo ht hr7 hk p1 w0 w1 hL
  have HNB := Lib.hid hnb
  clear hnb
  go_enter Tryz.func7, Tryz.ntmps7
  go_wp2_with fail
  refine (H1.out _).mono ?_; rintro e x1 ⟨D, c, rfl, hs1, hd1, hb⟩
  have HB1 := Lib.hid (hHW.out.trans (hb.mono hHW.out.size))
  have H2' := Lib.hid (H2.out D c x1 (S.tab.below HB1.out) hd1 hs1)
  clear hb hs1 hd1 H2 H1 hHW
  go_wp2_with fail
  refine H2'.out.mono ?_; rintro e x2 ⟨A, n, cc, rfl, hs2, hn2, ha2, hb⟩
  rw [← HNB.out] at hn2
  subst hn2
  have HB2 := Lib.hid (HB1.out.trans (hb.mono HB1.out.size))
  have HA2 := Lib.hid ha2
  have HS2 := Lib.hid hs2
  clear hb ha2 hs2 H2' HB1
  go_wp2_with fail
  refine (written_any _ (S.tab.below HB2.out)).mono ?_; rintro e x3 ⟨rfl, hb⟩
  have HB3 := Lib.hid (HB2.out.trans (hb.mono HB2.out.size))
  have HA3 := Lib.hid ((HA2.out.below hb).take k)
  clear hb HA2 HB2
  go_wp2_with fail
  refine (HP.out _).mono ?_; rintro e w' ⟨rfl, rfl⟩
  have hst : ∀ W : World, (Instr.slice 24 (.slice A nb cc) none (some (.int .i64 (k : Int))) none).run Tryz.prog W = .ok (.slice A k cc) W := fun W => slice_to W A nb cc k (by have := HS2.out.1; omega)
  have hsk : SlOk A k cc := ⟨by have := HS2.out.1; omega, HS2.out.2.1, HS2.out.2.2⟩
  have H3' := Lib.hid (H3.out A cc hsk _ (S.below HB3.out) HA3.out)
  clear H3 HP hsk
  go_wp2_with fail
  refine H3'.out.mono ?_; rintro e x4 ⟨D4, c4, rfl, -, -, hb⟩
  have HB4 := Lib.hid (HB3.out.trans (hb.mono HB3.out.size))
  have HB5 := Lib.hid (HB4.out.alloc HB4.out.size (.cells (entC RM.1.1 D4 c4).toArray 26))
  clear hb H3'
  obtain ⟨⟨⟨path, kind, target, ⟨m0, m1, m2, m3, m4, m5, m6⟩, data⟩, N⟩, E⟩ := RM
  unfold entC at HB5 ⊢
  simp only at HB5 ⊢
  go_wp2_with fail
  go_ret
  exact ⟨rfl, HB5.out⟩
end Go.Proofs.YtepjdiocicmjcaaGreatDoor
