/- MemberBack: what is written is read so, whatever stands behind it. -/
import Derived.Test.YtepjdiocicmjcaaGreatDoorMemTo
import Derived.Test.YtepjdiocicmjcaaGreatDoorPdc
set_option linter.unusedVariables false
set_option maxRecDepth 100000
namespace Go.Proofs.YtepjdiocicmjcaaGreatDoor
open Go.RowKit
open Go.OpenShut
theorem recIf_text (b : Bool) (k v : List UInt8) (h : k.length + v.length ≤ 800) : (textP (recIf b k v)).length ≤ k.length + v.length + 6 := by
  unfold recIf
  split
  · rw [textP_cons, textP_nil, List.append_nil, recL_len k v h]
    have := recN_bd (k.length + v.length + 3)
    omega
  · rw [textP_nil]; exact Nat.zero_le _
theorem recs_tight {x : EntV} (h : entE x = 0) : (textP (recsM x)).length ≤ 638 + (if x.target = [] then 0 else x.target.length + 14) := by
  have g := entE_good h
  have i1 := (itoa_val g.gid.1 g.gid.2).1
  have i2 := (itoa_val g.uid.1 g.uid.2).1
  have tt := (textL_val g.time).1
  rw [← time_val g.time] at tt
  have hp := g.path.2.1
  have ht := g.target.1
  have hu := g.user.1
  have hg := g.group.1
  have l0 : kGid.length = 3 := rfl
  have l1 : kGname.length = 5 := rfl
  have l2 : kLink.length = 8 := rfl
  have l3 : kMtime.length = 5 := rfl
  have l4 : kPath.length = 4 := rfl
  have l5 : kUid.length = 3 := rfl
  have l6 : kUname.length = 5 := rfl
  have r0 := recIf_text (decide (2097152 ≤ x.md.gid)) kGid (Lib.itoa x.md.gid) (by omega)
  have r1 := recIf_text (decide (31 < x.md.group.length)) kGname x.md.group (by omega)
  have r2 : (textP (recIf (decide (100 < x.target.length)) kLink x.target)).length ≤ if x.target = [] then 0 else x.target.length + 14 := by
    by_cases e : x.target = []
    · rw [if_pos e, e]; exact Nat.le_refl _
    · rw [if_neg e]
      have := recIf_text (decide (100 < x.target.length)) kLink x.target (by omega)
      omega
  have r3 := recIf_text (lateM x) kMtime (tText x.md.second x.md.nano).1.data.toList (by omega)
  have r4 := recIf_text (decide ((cutV x.path).2.2 ≠ 0)) kPath x.path (by omega)
  have r5 := recIf_text (decide (2097152 ≤ x.md.uid)) kUid (Lib.itoa x.md.uid) (by omega)
  have r6 := recIf_text (decide (31 < x.md.user.length)) kUname x.md.user (by omega)
  unfold recsM
  simp only [textP_app, List.length_append]
  omega
theorem ent_target {x : EntV} (h : entE x = 0) (e : x.data ≠ []) : x.target = [] := by
  have k := (entE_parts h).2.2
  unfold entK at k
  split at k
  · cases k
  · split at k
    · cases k
    · rename_i h2
      by_cases t : x.target = []
      · exact t
      · exfalso
        apply h2
        by_cases q : 1 < x.kind
        · exact .inr (.inr ⟨q, e⟩)
        · exact .inr (.inl ⟨by omega, t⟩)
theorem bytesM_tight {x : EntV} (h : entE x = 0) : (bytesM x).length ≤ 4096 := by
  have g := entE_good h
  have h1 := bytesM_len h
  have h2 := recs_tight h
  have hd := g.data
  have ht := g.target.1
  have h3 := padN_lt x.data.length
  have h4 := padN_lt (textP (recsM x)).length
  by_cases e : x.data = []
  · have e0 : padN x.data.length = 0 := by rw [e]; rfl
    rw [h1, e0]
    split at h2 <;> split <;> omega
  · have et : x.target = [] := ent_target h e
    rw [if_pos et] at h2
    rw [h1]
    split <;> omega
set_option maxHeartbeats 4000000 in
theorem MemberBack_walk (a0 : RawV) (A1 : Option Addr) (n1 c1 : Nat) (l1 : List UInt8) (w0 : a0.wf) (hn1 : l1.length = n1) (hm1 : n1 ≤ 140737488351232) (hc1 : n1 ≤ c1 ∧ c1 ≤ maxLen ∧ (A1 = none → c1 = 0)) (w : World) (hr1 : BytsAt w A1 l1) (hL : laidMetH Tryz.prog Rows.memberBackRow.laid w) :
    Calls Tryz.prog 5 #[.agg (rawC a0).toArray, .slice A1 n1 c1] w fun e w' => e = .returned (.bool true) ∧ Below w.heap.size w w' := by
  have S : Std w := std_of_laid hL (by kernel_rfl) (by simp [Rows.memberBackRow]) (by simp [Rows.memberBackRow]) (by simp [Rows.memberBackRow])
  have H1 := Lib.hid fun W => Entry_any a0 w0 W
  have hg := entD_good a0
  have hsz := entD_szs a0
  have H2 := Lib.hid fun D c W TW hD hs => mWrite_any (entD a0) D c hsz W TW hD hs
  rw [hg] at H2
  have hbo : bytO (entD a0) = bytesM (entD a0) := if_pos hg
  rw [hbo] at H2
  obtain ⟨hb1, -⟩ := bytesM_bd hg
  have hb2 := bytesM_tight hg
  have ht := read_of hg l1
  have HKE := Lib.hid fun D E c d W hD hE => keepEnt_any (entD a0) (entD a0) D E c d W hD hE
  rw [decide_eq_true (rfl : entD a0 = entD a0)] at HKE
  generalize entD a0 = y at H1 H2 ht hb1 hb2 hg hsz hbo HKE
  generalize bytesM y = BM at H2 hb1 hb2 ht hbo
  obtain ⟨nb, hnb⟩ : ∃ nb, nb = BM.length := ⟨_, rfl⟩
  rw [← hnb] at hb1 hb2
  have HCc := Lib.hid fun A c hc g W hB hA hA1 => bConcat_two A A1 nb n1 c c1 BM l1 hnb.symm hn1 (by omega) hc hc1.2.2 g W hB hA hA1
  obtain ⟨L, hL2⟩ : ∃ L, L = (BM ++ l1).length := ⟨_, rfl⟩
  have hLb : L ≤ 140737488355328 := by rw [hL2, List.length_append, ← hnb, hn1]; omega
  have HR := Lib.hid fun A c hc W SW hA => mRead_any A L c (BM ++ l1) hL2.symm (by omega) hc W SW hA
  rw [ht, ← hnb] at HR
  simp only at HR
  generalize BM ++ l1 = BL at HCc HR hL2
  have hHW : Hid (Below w.heap.size w (w.alloc (.cells (rawC a0).toArray 37))) := (Below.refl _ _).alloc (Nat.le_refl _) _
  have HA1 := Lib.hid hr1
  unfold rawC at H1 hHW ⊢
  clear hg hsz hbo ht w0 hL hr1 hn1 hm1 hc1
  have HNB := Lib.hid hnb
  have HLN := Lib.hid hL2
  clear hnb hL2
  obtain ⟨path, kind, target, ⟨m0, m1, m2, m3, m4, m5, m6⟩, data⟩ := y
  unfold entC at H1 H2 HR HKE
  simp only at H1 H2 HR HKE
  generalize hdl : data.length = dl at H1 H2 HR HKE
  have HDL := Lib.hid hdl
  clear hdl
  go_enter Tryz.func5, Tryz.ntmps5
  go_wp2_with fail
  refine (H1.out _).mono ?_; rintro e x1 ⟨D, c, rfl, hs1, hd1, hb⟩
  have hB1 := hHW.out.trans (hb.mono hHW.out.size)
  have hB2 := hB1.alloc hB1.size (.cells #[.string (bs path), .int .i64 kind, .string (bs target), .int .i64 m0, .int .i64 m1, .int .i64 m2, .string (bs m3), .string (bs m4), .int .i64 m5, .int .i64 m6, .slice D dl c] 26)
  have hE2 := Blk.new x1 26 #[.string (bs path), .int .i64 kind, .string (bs target), .int .i64 m0, .int .i64 m1, .int .i64 m2, .string (bs m3), .string (bs m4), .int .i64 m5, .int .i64 m6, .slice D dl c]
  have hd2 := hd1.below ((Below.refl x1.heap.size x1).alloc (Nat.le_refl _) (.cells #[.string (bs path), .int .i64 kind, .string (bs target), .int .i64 m0, .int .i64 m1, .int .i64 m2, .string (bs m3), .string (bs m4), .int .i64 m5, .int .i64 m6, .slice D dl c] 26))
  go_upto_region 2 with fail
  generalize x1.alloc (.cells #[.string (bs path), .int .i64 kind, .string (bs target), .int .i64 m0, .int .i64 m1, .int .i64 m2, .string (bs m3), .string (bs m4), .int .i64 m5, .int .i64 m6, .slice D dl c] 26) = x2 at hB2 hE2 hd2 ⊢
  generalize x1.heap.size = gE at hE2 ⊢
  have HB2 := Lib.hid hB2
  have HE2 := Lib.hid hE2
  have HD2 := Lib.hid hd2
  have H2' := Lib.hid (H2.out D c x2 (S.tab.below hB2) hd2 hs1)
  obtain ⟨⟨q0, q1, q2, q3, q4, q5, q6, q7, q8, q9, qA⟩, -⟩ := blk11 hE2
  clear hb hs1 hd1 H2 H1 hHW hB1 hB2 hE2 hd2
  go_wp2_with fail
  refine H2'.out.mono ?_; rintro e x3 ⟨A, n, cc, rfl, hs2, hn2, ha2, hb⟩
  rw [← HNB.out] at hn2
  subst hn2
  have HB3 := Lib.hid (HB2.out.trans (hb.mono HB2.out.size))
  have HE3 := Lib.hid (HE2.out.below hb HE2.out.lt)
  have HD3 := Lib.hid (HD2.out.below hb)
  -- the two slices in a row
  have hbA := (Below.refl x3.heap.size x3).alloc (Nat.le_refl _) (.cells #[.slice A nb cc, .slice A1 n1 c1] 24)
  have HK := Lib.hid (HCc.out A cc hs2.2.2 _ _ (Blk.new x3 24 #[.slice A nb cc, .slice A1 n1 c1]) (ha2.below hbA) ((HA1.out.below HB3.out).below hbA))
  have HB4 := Lib.hid (HB3.out.trans (hbA.mono HB3.out.size))
  have HE4 := Lib.hid (HE3.out.below hbA HE3.out.lt)
  have HD4 := Lib.hid (HD3.out.below hbA)
  clear hb ha2 hs2 H2' HB2 HE2 HD2 HCc HB3 HE3 HD3 hbA q0 q1 q2 q3 q4 q5 q6 q7 q8 q9 qA
  go_wp2_with fail
  refine HK.out.mono ?_; rintro e x5 ⟨v5, rfl, hO5, hb⟩
  obtain ⟨A5, c5, rfl, hs5, ha5⟩ := hO5.form
  have HB5 := Lib.hid (HB4.out.trans (hb.mono HB4.out.size))
  have HE5 := Lib.hid (HE4.out.below hb HE4.out.lt)
  have HD5 := Lib.hid (HD4.out.below hb)
  rw [← HLN.out] at hs5 ⊢
  have HR' := Lib.hid (HR.out A5 c5 hs5 x5 (S.below HB5.out) ha5)
  clear hb hO5 hs5 ha5 HR HK HB4 HE4 HD4
  go_wp2_with fail
  refine HR'.out.mono ?_; rintro e x6 ⟨E, d, rfl, hs6, hd6, hb⟩
  have hB6 := HB5.out.trans (hb.mono HB5.out.size)
  have hE6 := HE5.out.below hb HE5.out.lt
  have hD6 := HD5.out.below hb
  have hbB := (Below.refl x6.heap.size x6).alloc (Nat.le_refl _) (.cells #[.string (bs path), .int .i64 kind, .string (bs target), .int .i64 m0, .int .i64 m1, .int .i64 m2, .string (bs m3), .string (bs m4), .int .i64 m5, .int .i64 m6, .slice E dl d] 26)
  have hB7 := hB6.trans (hbB.mono hB6.size)
  have hE7 := hE6.below hbB hE6.lt
  have hD7 := hD6.below hbB
  have hd7 := hd6.below hbB
  have hF7 := Blk.new x6 26 #[.string (bs path), .int .i64 kind, .string (bs target), .int .i64 m0, .int .i64 m1, .int .i64 m2, .string (bs m3), .string (bs m4), .int .i64 m5, .int .i64 m6, .slice E dl d]
  go_upto_region 4 with fail
  generalize x6.alloc (.cells #[.string (bs path), .int .i64 kind, .string (bs target), .int .i64 m0, .int .i64 m1, .int .i64 m2, .string (bs m3), .string (bs m4), .int .i64 m5, .int .i64 m6, .slice E dl d] 26) = x7 at hB7 hE7 hD7 hd7 hF7 ⊢
  generalize x6.heap.size = gF at hF7 ⊢
  have HB7 := Lib.hid hB7
  have HE7 := Lib.hid hE7
  have HD7 := Lib.hid hD7
  have Hd7 := Lib.hid hd7
  have HF7 := Lib.hid hF7
  clear hb hs6 hd6 hB6 hE6 hD6 hbB hB7 hE7 hD7 hd7 hF7 HB5 HE5 HD5 HR'
  go_wp2_with fail
  refine (written_any _ (S.tab.below HB7.out)).mono ?_; rintro e x8 ⟨rfl, hb⟩
  have HB8 := Lib.hid (HB7.out.trans (hb.mono HB7.out.size))
  obtain ⟨⟨q0, q1, q2, q3, q4, q5, q6, q7, q8, q9, qA⟩, -⟩ := blk11 (HE7.out.below hb HE7.out.lt)
  obtain ⟨⟨p0, p1, p2, p3, p4, p5, p6, p7, p8, p9, pA⟩, -⟩ := blk11 (HF7.out.below hb HF7.out.lt)
  have HKE' := Lib.hid (HKE.out D E c d x8 (HD7.out.below hb) (Hd7.out.below hb))
  clear hb HKE HE7 HF7 HD7 Hd7 HB7
  go_wp2_with fail
  refine HKE'.out.mono ?_; rintro e x9 ⟨rfl, hb⟩
  have HB9 := Lib.hid (HB8.out.trans (hb.mono HB8.out.size))
  clear hb
  go_wp2_with fail
  go_ret
  exact ⟨rfl, HB9.out⟩
end Go.Proofs.YtepjdiocicmjcaaGreatDoor
