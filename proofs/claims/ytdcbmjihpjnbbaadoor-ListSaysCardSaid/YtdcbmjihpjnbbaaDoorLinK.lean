/- ListSays: what a line says first and last. (Over list.Line's contract.) -/
import Derived.Test.YtdcbmjihpjnbbaaDoorLinR
import Derived.Test.YtdcbmjihpjnbbaaDoorMemF
import Derived.Test.YtdcbmjihpjnbbaaDoorMetU
import Derived.Test.YtdcbmjihpjnbbaaDoorArg
import Derived.Test.YtdcbmjihpjnbbaaDoorLaid
import Derived.BigQuiet
set_option linter.unusedVariables false
set_option maxRecDepth 100000
namespace Go.Proofs.YtdcbmjihpjnbbaaDoor
open Go.RowKit
open Go.OpenShut
/-- what a line begins with -/
theorem line_front (x : EntV) (y m d : Int) : ∃ B, lineM x y m d = (kindC x.kind :: mdL x.md.mode.toNat) ++ (32 :: B) ∧ 1 ≤ B.length := by
  refine ⟨orN x.md.user x.md.uid ++ [47] ++ orN x.md.group x.md.gid ++ [32] ++ Lib.itoa (x.data.length : Nat) ++ lineD x y m d (x.md.second % 86400) ++ tailM x, ?_, ?_⟩
  · unfold lineM lineH
    simp only [List.append_assoc, List.cons_append, List.nil_append]
  · simp only [List.length_append, List.length_cons, List.length_nil]; omega
/-- what a line ends with -/
theorem line_back (x : EntV) (y m d : Int) : ∃ A, lineM x y m d = A ++ (32 :: (x.path ++ tailM x)) := by
  refine ⟨lineH x ++ ([32] ++ Lib.itoa y ++ [45] ++ twoM m ++ [45] ++ twoM d ++ [32] ++ twoM (x.md.second % 86400 / 3600) ++ [58] ++ twoM (x.md.second % 86400 % 3600 / 60)), ?_⟩
  unfold lineM lineD
  simp only [List.append_assoc, List.cons_append, List.nil_append]
theorem line_len {x : EntV} (h : entE x = 0) {y m d : Int} (hy : -40000 ≤ y ∧ y ≤ 40000) (hm : 0 ≤ m ∧ m ≤ 31) (hd : 0 ≤ d ∧ d ≤ 31) : (lineM x y m d).length ≤ 2000 := by
  have g := entE_good h
  have a1 := itoa_short (n := ((x.data.length : Nat) : Int)) (by omega) (by have := g.data; omega)
  have a2 := itoa_short (n := y) (by omega) (by omega)
  have a3 := twoM_short (n := m) (by omega) (by omega)
  have a4 := twoM_short (n := d) (by omega) (by omega)
  have a5 := twoM_short (n := x.md.second % 86400 / 3600) (by omega) (by omega)
  have a6 := twoM_short (n := x.md.second % 86400 % 3600 / 60) (by omega) (by omega)
  have a7 := orN_short g.user.1 g.uid.1 g.uid.2
  have a8 := orN_short g.group.1 g.gid.1 g.gid.2
  have a9 := g.path.2.1
  have aa := g.target.1
  have ab : (tailM x).length ≤ 409 := by
    unfold tailM
    split
    · simp only [List.length_append, List.length_cons, List.length_nil]; omega
    · split
      · simp only [List.length_append, List.length_cons, List.length_nil]; omega
      · simp
  unfold lineM lineH lineD
  simp only [List.length_append, List.length_cons, List.length_nil, mdL_length]
  omega
theorem lineX_len {x : EntV} (h : entE x = 0) : (lineX x).length ≤ 2000 := by
  have g := (entE_good h).time
  unfold inT at g
  simp only [decide_eq_true_eq] at g
  obtain ⟨a, b, c⟩ := dateD_bd (D := x.md.second / 86400) (by omega) (by omega)
  exact line_len h a b c
theorem lin_at {s : ByteArray} {l : List UInt8} (hl : s.data.toList = l) (k : Nat) (c : UInt8) (hc : l[k]? = some c) : ∀ W : World, (Instr.index 9 (.string s) (.int .i64 (k : Int))).run Tryd.prog W = .ok (.int .u8 (c.toNat : Int)) W := by
  subst hl
  intro W
  obtain ⟨hk, he⟩ := List.getElem?_eq_some_iff.1 hc
  have hk2 : k < s.size := by simpa using hk
  rw [run_index_string (P := Tryd.prog) W 9 s .i64 (k : Int) Tryd.underlying9, dif_pos ⟨by omega, by omega⟩]
  congr 2
  have e2 : s[k] = c := he
  simp [e2]
set_option maxHeartbeats 8000000 in
theorem ListSays_walk (a0 : RawV) (w0 : a0.wf) (w : World) (hL : laidMetH Tryd.prog Rows.listSaysRow.laid w) :
    Calls Tryd.prog 7 #[.agg (rawC a0).toArray] w fun e w' => e = .returned (.bool true) ∧ Below w.heap.size w w' := by
  have T : Tab w := tab_of_laid hL (by kernel_rfl) (by simp [Rows.listSaysRow])
  have Th : Thirds w := thirds_in hL (by kernel_rfl) (by simp [Rows.listSaysRow])
  have Mo : Months w := mon_of_laid hL (by kernel_rfl) (by simp [Rows.listSaysRow])
  have H1 := Lib.hid fun W => Entry_any a0 w0 W
  have hg := entD_good a0
  have hHW : Hid (Below w.heap.size w (w.alloc (.cells (rawC a0).toArray 41))) := (Below.refl _ _).alloc (Nat.le_refl _) _
  generalize entD a0 = y at H1 hg
  have g := entE_good hg
  have hsz : y.sz := ⟨⟨by have := g.path; omega, by have := g.target; omega, by have := g.data; omega⟩, by have := g.user; omega, by have := g.group; omega⟩
  have hlo : lineO y = lineX y := if_pos hg
  have hll := lineX_len hg
  obtain ⟨B, hf, hB⟩ := line_front y (dateD (y.md.second / 86400)).1 (dateD (y.md.second / 86400)).2.1 (dateD (y.md.second / 86400)).2.2
  obtain ⟨A, hbk⟩ := line_back y (dateD (y.md.second / 86400)).1 (dateD (y.md.second / 86400)).2.1 (dateD (y.md.second / 86400)).2.2
  have hf' : lineX y = (kindC y.kind :: mdL y.md.mode.toNat) ++ (32 :: B) := hf
  have hb' : lineX y = A ++ (32 :: (y.path ++ tailM y)) := hbk
  clear hf hbk
  have H2 := Lib.hid fun (D : Option Addr) (c : Nat) W TW HW MW => lLine_any y D c hsz W TW HW MW
  rw [hlo, hg] at H2
  have H3 := Lib.hid fun W TW => metUText_any y.md.mode W TW
  rw [mdW_ok g.mode] at H3
  have hpl := g.path.2.1
  have htl := g.target.1
  have hk := g.kind
  have h10 : 11 < (lineX y).length := by rw [hf']; simp only [List.length_append, List.length_cons, mdL_length]; omega
  obtain ⟨S, HS⟩ := hid_name (bs (lineX y))
  obtain ⟨MD, HMD⟩ := hid_name (bs (mdL y.md.mode.toNat))
  rw [HS.out] at H2
  rw [HMD.out] at H3
  have hSs : S.size = (lineX y).length := by rw [← HS.out, bs_size]
  have hSb : S.size ≤ 2000 := by omega
  have hS10 : 10 < S.size := by omega
  have hSi : (10 : Int) < (S.size : Int) := by omega
  have hex : S.extract 1 10 = MD := by
    rw [← HS.out, ← HMD.out]
    apply ByteArray.ext
    apply Array.toList_inj.1
    rw [ByteArray.data_extract, Array.toList_extract]
    show List.extract (lineX y) 1 10 = _
    rw [hf']
    simp [List.extract, List.drop_take, mdL_length, bs]
    exact List.take_left' (mdL_length _)
  have hsl : ∀ W : World, (Instr.slice 9 (.string S) (some (.int .i64 1)) (some (.int .i64 10)) none).run Tryd.prog W = .ok (.string MD) W := fun W => by
    have h10' : (10 : Int) ≤ (S.size : Int) := by omega
    have h10n : 10 ≤ S.size := by omega
    simp [Instr.slice, run_underlying Tryd.underlying9, Instr.sliceBounds, run_sliceBound, sliced, h10', h10n, hex, go_sem]
  have hi0 : ∀ W : World, (Instr.index 9 (.string S) (.int .i64 0)).run Tryd.prog W = .ok (.int .u8 ((kindC y.kind).toNat : Int)) W := lin_at (show S.data.toList = lineX y by rw [← HS.out, bs_list]) 0 (kindC y.kind) (by rw [hf']; rfl)
  have hik : ∀ W : World, (Instr.index 9 (.string ⟨#[63, 45, 100, 108, 104]⟩) (.int .i64 y.kind)).run Tryd.prog W = .ok (.int .u8 ((kindC y.kind).toNat : Int)) W := by
    rcases (show y.kind = 1 ∨ y.kind = 2 ∨ y.kind = 3 ∨ y.kind = 4 by omega) with e | e | e | e <;> rw [e] <;> intro W <;> kernel_rfl
  have HSf : Hid (∀ (Q : ByteArray), Q = bs (32 :: (y.path ++ tailM y)) → ∀ W, Calls Tryd.prog 18 #[.string S, .string Q] W fun e w' => e = .returned (.bool true) ∧ w' = W) := fun Q hQ W => by
    have h := Tryd.strings_HasSuffix S Q W (by omega)
    have hs : Lib.hasSuffix S.data.toList Q.data.toList = true := by
      rw [← HS.out, bs_list, hQ, bs_list, hb']
      unfold Lib.hasSuffix
      simp [List.isSuffixOf_iff_suffix]
    rw [hs] at h
    exact h
  have HT := Lib.hid T
  have HTh := Lib.hid Th
  have HMo := Lib.hid Mo
  have htm : tailM y = if y.kind = 3 then [32, 45, 62, 32] ++ y.target else if y.kind = 4 then [32, 108, 105, 110, 107, 32, 116, 111, 32] ++ y.target else [] := rfl
  rw [htm] at HSf
  unfold rawC at H1 hHW ⊢
  clear hg hsz hlo hll hf' hb' h10 g hL T Th Mo htm hSs
  obtain ⟨path, kind, target, ⟨m0, m1, m2, m3, m4, m5, m6⟩, data⟩ := y
  unfold entC at H1 H2
  simp only at H1 H2 H3 HSf hi0 hik hpl htl hk
  obtain ⟨dl, HDL⟩ := hid_name data.length
  rw [HDL.out] at H1 H2
  obtain ⟨PS, HPS⟩ := hid_name (bs path)
  obtain ⟨TS, HTS⟩ := hid_name (bs target)
  rw [HPS.out, HTS.out] at H1 H2
  have tP : PS.size ≤ 400 := by rw [← HPS.out, bs_size]; exact hpl
  have tT : TS.size ≤ 400 := by rw [← HTS.out, bs_size]; exact htl
  obtain ⟨kc, hkc⟩ : ∃ kc : Int, ((kindC kind).toNat : Int) = kc := ⟨_, rfl⟩
  rw [hkc] at hi0 hik
  clear hkc w0 B hB A HDL
  go_enter Tryd.func7, Tryd.ntmps7
  go_wp2_with fail
  refine (H1.out _).mono ?_; rintro e x1 ⟨D, c, rfl, -, -, hb⟩
  have hB1 := hHW.out.trans (hb.mono hHW.out.size)
  have HB2 := Lib.hid (hB1.alloc hB1.size (.cells #[.string PS, .int .i64 kind, .string TS, .int .i64 m0, .int .i64 m1, .int .i64 m2, .string (bs m3), .string (bs m4), .int .i64 m5, .int .i64 m6, .slice D dl c] 30))
  have HE2 := Lib.hid (Blk.new x1 30 #[.string PS, .int .i64 kind, .string TS, .int .i64 m0, .int .i64 m1, .int .i64 m2, .string (bs m3), .string (bs m4), .int .i64 m5, .int .i64 m6, .slice D dl c])
  clear hb hB1 hHW H1
  go_upto_region 2 with fail
  generalize x1.alloc (.cells #[.string PS, .int .i64 kind, .string TS, .int .i64 m0, .int .i64 m1, .int .i64 m2, .string (bs m3), .string (bs m4), .int .i64 m5, .int .i64 m6, .slice D dl c] 30) = x2 at HB2 HE2 ⊢
  generalize x1.heap.size = gE at HE2 ⊢
  have H22 := Lib.hid (H2.out D c x2 (HT.out.below HB2.out) (HTh.out.below HB2.out) (HMo.out.below HB2.out))
  obtain ⟨⟨c0, c1, c2, c3, c4, c5, c6, c7, c8, c9, cA⟩, -⟩ := blk11 HE2.out
  go_wp2_with fail
  refine H22.out.mono ?_; rintro e x3 ⟨rfl, hb⟩
  have HB3 := Lib.hid (HB2.out.trans (hb.mono HB2.out.size))
  have HE3 := Lib.hid (HE2.out.below hb HE2.out.lt)
  clear hb H2 H22 HB2 HE2 c0 c1 c2 c3 c4 c5 c6 c7 c8 c9 cA
  obtain ⟨⟨c0, c1, c2, c3, c4, c5, c6, c7, c8, c9, cA⟩, -⟩ := blk11 HE3.out
  have H33 := Lib.hid (H3.out x3 (HTh.out.below HB3.out))
  try simp only at H33
  go_wp2_with fail
  refine H33.out.mono ?_; rintro e x4 ⟨rfl, hb⟩
  have HB4 := Lib.hid (HB3.out.trans (hb.mono HB3.out.size))
  have HE4 := Lib.hid (HE3.out.below hb HE3.out.lt)
  clear hb H3 H33 HB3 HE3 c0 c1 c2 c3 c4 c5 c6 c7 c8 c9 cA
  obtain ⟨⟨c0, c1, c2, c3, c4, c5, c6, c7, c8, c9, cA⟩, -⟩ := blk11 HE4.out
  by_cases k3 : kind = 3
  · subst k3
    obtain ⟨F1, f1⟩ : ∃ A, (⟨#[32, 45, 62, 32]⟩ : ByteArray) ++ TS = A := ⟨_, rfl⟩
    obtain ⟨F2, f2⟩ : ∃ A, PS ++ F1 = A := ⟨_, rfl⟩
    obtain ⟨F3, f3⟩ : ∃ A, (⟨#[32]⟩ : ByteArray) ++ F2 = A := ⟨_, rfl⟩
    have y1 : F1.size ≤ 404 := by rw [← f1, ByteArray.size_append]; show 4 + _ ≤ _; omega
    have y2 : F2.size ≤ 804 := by rw [← f2, ByteArray.size_append]; omega
    have q1 := lin_add f1 (by show 4 + _ ≤ _; omega)
    have q2 := lin_add f2 (by omega)
    have q3 := lin_add f3 (by show 1 + _ ≤ _; omega)
    have HSQ := Lib.hid (HSf.out F3 (by
      rw [← f3, ← f2, ← f1, ← HPS.out, ← HTS.out, if_pos rfl]
      show bs [32] ++ (bs path ++ (bs [32, 45, 62, 32] ++ bs target)) = _
      simp only [bs_plus]; rfl))
    clear f1 f2 f3 y1 y2 HSf
    go_upto_region 10 with fail
    go_quiet ((go_at_call 18; exact Calls.quiet_of_same (HSQ.out _)))
    go_wp2_with fail
    go_ret
    exact ⟨rfl, by first | exact HB4.out | exact below_drewN HB4.out _⟩
  · by_cases k4 : kind = 4
    · subst k4
      obtain ⟨F1, f1⟩ : ∃ A, (⟨#[32, 108, 105, 110, 107, 32, 116, 111, 32]⟩ : ByteArray) ++ TS = A := ⟨_, rfl⟩
      obtain ⟨F2, f2⟩ : ∃ A, PS ++ F1 = A := ⟨_, rfl⟩
      obtain ⟨F3, f3⟩ : ∃ A, (⟨#[32]⟩ : ByteArray) ++ F2 = A := ⟨_, rfl⟩
      have y1 : F1.size ≤ 409 := by rw [← f1, ByteArray.size_append]; show 9 + _ ≤ _; omega
      have y2 : F2.size ≤ 809 := by rw [← f2, ByteArray.size_append]; omega
      have q1 := lin_add f1 (by show 9 + _ ≤ _; omega)
      have q2 := lin_add f2 (by omega)
      have q3 := lin_add f3 (by show 1 + _ ≤ _; omega)
      have HSQ := Lib.hid (HSf.out F3 (by
        rw [← f3, ← f2, ← f1, ← HPS.out, ← HTS.out, if_neg (by decide), if_pos rfl]
        show bs [32] ++ (bs path ++ (bs [32, 108, 105, 110, 107, 32, 116, 111, 32] ++ bs target)) = _
        simp only [bs_plus]; rfl))
      clear f1 f2 f3 y1 y2 HSf
      go_upto_region 10 with fail
      go_quiet ((go_at_call 18; exact Calls.quiet_of_same (HSQ.out _)))
      go_wp2_with fail
      go_ret
      exact ⟨rfl, by first | exact HB4.out | exact below_drewN HB4.out _⟩
    · obtain ⟨F3, f3⟩ : ∃ A, (⟨#[32]⟩ : ByteArray) ++ PS = A := ⟨_, rfl⟩
      have q3 := lin_add f3 (by show 1 + _ ≤ _; omega)
      have HSQ := Lib.hid (HSf.out F3 (by
        rw [← f3, ← HPS.out, if_neg k3, if_neg k4, List.append_nil]
        show bs [32] ++ bs path = _
        simp only [bs_plus]; rfl))
      clear f3 HSf
      go_upto_region 10 with fail
      go_quiet ((go_at_call 18; exact Calls.quiet_of_same (HSQ.out _)))
      go_wp2_with fail
      go_ret
      exact ⟨rfl, by first | exact HB4.out | exact below_drewN HB4.out _⟩
end Go.Proofs.YtdcbmjihpjnbbaaDoor
