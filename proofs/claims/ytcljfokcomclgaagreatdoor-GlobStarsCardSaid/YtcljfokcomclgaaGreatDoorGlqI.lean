/- The law of stars on drawn paths: GlobStars. -/
import Derived.Test.YtcljfokcomclgaaGreatDoorGlbP
import Derived.Test.YtcljfokcomclgaaGreatDoorGlqN
import Derived.Test.YtcljfokcomclgaaGreatDoorGlqH
import Derived.Test.YtcljfokcomclgaaGreatDoorNear
set_option linter.unusedVariables false
set_option maxRecDepth 100000
namespace Go.Proofs.YtcljfokcomclgaaGreatDoor
open Go.RowKit
open Go.OpenShut
/-- n stars, slashes between -/
def patP : Nat → List UInt8
  | 0 => []
  | 1 => [42]
  | n + 2 => 42 :: 47 :: patP (n + 1)
theorem patP_rep (n : Nat) : Lib.repeatL [42, 47] (n + 1) = patP (n + 1) ++ [47] := by
  induction n with
  | zero => rfl
  | succ n ih =>
    rw [show Lib.repeatL [42, 47] (n + 1 + 1) = [42, 47] ++ Lib.repeatL [42, 47] (n + 1) from rfl, ih]; rfl
theorem patP_len (n : Nat) : (patP (n + 1)).length = 2 * n + 1 := by
  induction n with
  | zero => rfl
  | succ n ih =>
    show (patP (n + 1)).length + 1 + 1 = _
    rw [ih]; omega
theorem patP_parts (n : Nat) : partsL 47 (patP (n + 1)) = List.replicate (n + 1) [42] := by
  induction n with
  | zero => exact partsL_none 47 [42] (by decide)
  | succ n ih =>
    rw [show patP (n + 1 + 1) = [42] ++ 47 :: patP (n + 1) from rfl, partsL_app, partsL_none 47 [42] (by decide), ih]; rfl
theorem trim_slash (l : List UInt8) : Lib.trimSuffix (l ++ [47]) [47] = l := by
  unfold Lib.trimSuffix Lib.hasSuffix
  rw [if_pos (by rw [List.isSuffixOf_iff_suffix]; exact ⟨l, rfl⟩), List.length_append]
  simp
theorem partsE_star (n : Nat) : partsE (List.replicate n [42]) = 0 := by
  induction n with
  | zero => rfl
  | succ n ih => rw [List.replicate_succ, partsE_cons, if_neg (by simp), if_neg (by rw [tokL_star]; simp), ih]
theorem globE_patP (n : Nat) (h : 2 * n + 1 ≤ 400) : globE (patP (n + 1)) = 0 := by
  rw [globE_parts (by
    rintro (h2 | h2)
    · have := patP_len n
      rw [h2] at this; simp at this
    · rw [patP_len] at h2; omega), patP_parts, partsE_star]
theorem globF_patP (n : Nat) (s : List UInt8) : globF (patP (n + 1)) s = decide ((partsL 47 s).length = n + 1) := by
  unfold globF
  rw [patP_parts, fits_stars]
theorem tokL_two : (tokL [42, 42]).isNone = false := by
  rw [tokL_step _ _ (by decide), tokL_star]; rfl
theorem globE_two : globE [42, 42] = 0 := by
  rw [globE_parts (by decide), partsL_none 47 [42, 42] (by decide), partsE_cons, if_neg (by decide), tokL_two]; rfl
theorem globE_twoOne : globE [42, 42, 47, 42] = 0 := by
  rw [globE_parts (by decide), show ([42, 42, 47, 42] : List UInt8) = [42, 42] ++ 47 :: [42] from rfl, partsL_app, partsL_none 47 [42, 42] (by decide), partsL_none 47 [42] (by decide)]
  rw [List.singleton_append, partsE_cons, if_neg (by decide), tokL_two]
  exact partsE_star 1
theorem join_len (ls : List (List UInt8)) (h : ∀ l ∈ ls, 1 ≤ l.length) : 2 * ls.length ≤ (joinL ls).length + 1 := by
  induction ls with
  | nil => simp
  | cons a ls ih =>
    have ha := h a (List.mem_cons_self ..)
    have := ih fun l hl => h l (List.mem_cons_of_mem _ hl)
    cases ls with
    | nil => show 2 * 1 ≤ a.length + 1; omega
    | cons b ls =>
      have e : joinL (a :: b :: ls) = a ++ 47 :: joinL (b :: ls) := rfl
      rw [e, List.length_append, List.length_cons (a := 47), List.length_cons (a := a)]; omega
theorem path_parts_len {s : List UInt8} (h : pathE s = 0) : 1 ≤ (partsL 47 s).length ∧ 2 * (partsL 47 s).length ≤ 401 ∧ s ≠ [] := by
  have hl : 1 ≤ s.length ∧ s.length ≤ 400 := by
    apply Classical.byContradiction
    intro hc
    rw [pathE_size (by omega)] at h; cases h
  have hall : ∀ l ∈ partsL 47 s, nameB l = true := by
    unfold pathE at h
    split at h
    · exact absurd h (by decide)
    · split at h
      · exact absurd h (by decide)
      · split at h
        · rename_i ha; exact List.all_eq_true.1 ha
        · exact absurd h (by decide)
  have h1 := join_len (partsL 47 s) fun l hl => by
    rcases l with _ | ⟨a, r⟩
    · exact absurd (hall [] hl) (by decide)
    · simp
  rw [joinL_parts] at h1
  refine ⟨?_, by omega, ?_⟩
  · rcases e : partsL 47 s with _ | ⟨a, r⟩
    · exact absurd e (partsL_ne 47 s)
    · simp
  · rintro rfl; simp at hl
set_option maxHeartbeats 4000001 in
theorem GlobStars_walk (A : Option Addr) (n c : Nat) (rs : List RawV) (a1 : Int) (hn : rs.length = n) (hn2 : n ≤ 140737488355328) (hwf : ∀ r ∈ rs, r.wf) (w1 : (Lit.int .i64 a1).wf = true) (w : World) (hA : RawsAt w A rs) :
    Calls Tryz.prog 3 #[.slice A n c, .int .i64 a1] w fun e w' => e = .returned (.bool true) ∧ Below w.heap.size w w' := by
  have HCP := Lib.hid (pathsN_any 20 (by omega) A n c rs hn hn2 hwf w hA)
  clear hwf hA hn
  have HW1 := Lib.hid w1
  clear w1
  go_enter Tryz.func3, Tryz.ntmps3
  go_wp2_with fail
  refine HCP.out.mono ?_; rintro e w4 ⟨v, L, rfl, hT, hL1, hL2, hL3, hB⟩
  have HT := Lib.hid hT
  have HB := Lib.hid hB
  have HL := Lib.hid hL3
  clear hT hB hL3
  obtain ⟨g, cap, rfl, hg, hgl⟩ := HT.out.form hL1
  obtain ⟨np, Hnp⟩ := hid_name L.length
  rw [Hnp.out] at hL1 hL2 ⊢
  obtain ⟨p1, hp1, HP1⟩ := pk_any np hL1 (by omega) a1 HW1.out
  have hs : ∀ p : Nat, p < np → ∃ s : ByteArray, s.size ≤ 400 ∧ (s.data.toList = [97] ∨ ∃ n ∈ (treeS 20 rs).1, n.path = s.data.toList) ∧ w4.cell? ⟨g, p, none⟩ = some (.string s) := fun p hp => by
    have hpl : p < L.length := by rw [Hnp.out]; exact hp
    have e : L.getD p [] = L[p] := by rw [List.getD_eq_getElem?_getD, List.getElem?_eq_getElem hpl]; rfl
    have h8 := HL.out _ (List.getElem_mem hpl)
    refine ⟨⟨(L.getD p []).toArray⟩, ?_, ?_, by have h9 := HT.out; rw [Hnp.out] at h9; exact h9.cell Hnp.out p hp⟩
    · rw [size_mk, e]; exact h8.1
    · rw [e]; exact h8.2
  obtain ⟨s, hs4, hsd, hsc⟩ := hs p1 hp1
  clear hs
  have h10 : (0 : Int) ≤ (p1 : Int) := by omega
  have h11 : (p1 : Int) < (np : Int) := by omega
  have HP1' := Lib.hid HP1
  obtain ⟨hpe, -⟩ := drawn_path hsd
  obtain ⟨hk1, hk2, hsn⟩ := path_parts_len hpe
  obtain ⟨q, hq⟩ : ∃ q, (partsL 47 s.data.toList).length = q + 1 := ⟨(partsL 47 s.data.toList).length - 1, by omega⟩
  have hPa : Hid (∀ W, Calls Tryz.prog 6 #[.string s] W fun e w' => ∃ A c, e = .returned (.slice A (q + 1) c) ∧ Below W.heap.size W w') := fun W => by
    refine (Parts_any s W (by omega)).mono ?_; rintro e w' ⟨v, rfl, hT, hB⟩
    obtain ⟨A, c, rfl, -⟩ := hT.any
    rw [pp_ne hsn, hq]
    exact ⟨A, c, rfl, hB⟩
  have hE : ∀ p, globE p = 0 → fitsE p s.data.toList = 0 ∧ fitsB p s.data.toList = globF p s.data.toList := fun p hp => by
    have h4 : fitsE p s.data.toList = 0 := by unfold fitsE; rw [if_pos hp, hpe]
    exact ⟨h4, by unfold fitsB; rw [h4]; rfl⟩
  have hsm : s.size ≤ maxLen := by unfold maxLen; omega
  have F1 := Lib.hid fun W => fits_val ⟨#[42, 42]⟩ s true 0 ((hE _ globE_two).2.trans (globF_two _)) (hE _ globE_two).1 (by decide) hsm W
  have h1p := globE_patP 0 (by omega)
  have F2 := Lib.hid fun W => fits_val ⟨#[42]⟩ s (decide (q + 1 = 1)) 0 ((hE [42] h1p).2.trans (by rw [globF_one, hq])) (hE [42] h1p).1 (by decide) hsm W
  have F3 := Lib.hid fun W => fits_val ⟨#[42, 42, 47, 42]⟩ s true 0 ((hE _ globE_twoOne).2.trans (globF_twoOne _)) (hE _ globE_twoOne).1 (by decide) hsm W
  have hqp := globE_patP q (by omega)
  have F4 := Lib.hid fun W => fits_val (bs (patP (q + 1))) s true 0 ((hE _ hqp).2.trans (by rw [globF_patP, hq]; exact decide_eq_true rfl)) (hE _ hqp).1 (by rw [bs_size, patP_len]; unfold maxLen; omega) hsm W
  have HRp : Hid (∀ W, Calls Tryz.prog 9 #[.string ⟨#[42, 47]⟩, .int .i64 ((q + 1 : Nat) : Int)] W fun e w' => e = .returned (.string (bs (patP (q + 1) ++ [47]))) ∧ Below W.heap.size W w') := fun W => by
    refine (Tryz.strings_Repeat ⟨#[42, 47]⟩ (q + 1) _ (by omega) (by show 2 * (q + 1) ≤ _; omega)).mono ?_; rintro e w1 ⟨rfl, hb1⟩
    exact ⟨by rw [show (⟨#[42, 47]⟩ : ByteArray).data.toList = [42, 47] from rfl, patP_rep]; rfl, hb1⟩
  have HTr : Hid (∀ W, Calls Tryz.prog 8 #[.string (bs (patP (q + 1) ++ [47])), .string ⟨#[47]⟩] W fun e w' => e = .returned (.string (bs (patP (q + 1)))) ∧ W = w') := fun W => by
    refine (Tryz.strings_TrimSuffix (bs (patP (q + 1) ++ [47])) ⟨#[47]⟩ W (by rw [bs_size, List.length_append, patP_len]; simp; omega)).mono ?_; rintro e w1 ⟨rfl, rfl⟩
    exact ⟨by rw [bs_list, show (⟨#[47]⟩ : ByteArray).data.toList = [47] from rfl, trim_slash]; rfl, rfl⟩
  obtain ⟨X, HX⟩ := hid_name (bs (patP (q + 1) ++ [47]))
  obtain ⟨Y, HY⟩ := hid_name (bs (patP (q + 1)))
  rw [HX.out] at HRp HTr
  rw [HY.out] at HTr F4
  obtain ⟨k, hk⟩ : ∃ k, k = q + 1 := ⟨_, rfl⟩
  rw [← hk] at HRp hPa F2
  obtain ⟨r, hr⟩ : ∃ r, decide (k = 1) = r := ⟨_, rfl⟩
  rw [hr] at F2
  have heq : ((k : Int) == 1) = r := by
    rw [← hr, Bool.eq_iff_iff]
    simp
    omega
  have HEq := Lib.hid heq
  clear HP1 hsd hpe hk1 hk2 hsn hq hE h1p hqp hk hr heq
  go_upto_region 2 with fail
  go_cut [6] (fun s10 wx => s10 = .string s ∧ ∃ q, wx = w4.drewN q)
  case first =>
    first
      | (go_quiet ((go_at_call 5; with_reducible exact Calls.quiet_of_same (HP1'.out _)))
         go_wp2_with fail
         go_meet
         exact ⟨rfl, _, rfl⟩)
      | (go_wp2_with fail
         refine (HP1'.out _).mono ?_; rintro e w' ⟨rfl, rfl⟩
         go_wp2_with fail
         go_meet
         exact ⟨rfl, 0, rfl⟩)
  case rest =>
    obtain ⟨rfl, q, hq⟩ := hcut
    have HB5 : Hid (Below w.heap.size w wc) := by unfold Hid; rw [hq]; exact below_drewN HB.out _
    clear hq hsc
    go_wp2_with fail
    refine (hPa.out _).mono ?_; rintro e w5 ⟨A5, c5, rfl, hb⟩
    have HB6 := Lib.hid (HB5.out.trans (hb.mono HB5.out.size))
    clear hb
    go_wp2_with fail
    refine (F1.out _).mono ?_; rintro e w6 ⟨rfl, hb⟩
    have HB7 := Lib.hid (HB6.out.trans (hb.mono HB6.out.size))
    clear hb
    go_wp2_with fail
    refine (F2.out _).mono ?_; rintro e w7 ⟨rfl, hb⟩
    have HB8 := Lib.hid (HB7.out.trans (hb.mono HB7.out.size))
    clear hb
    go_wp2_with fail
    refine (F3.out _).mono ?_; rintro e w8 ⟨rfl, hb⟩
    have HB9 := Lib.hid (HB8.out.trans (hb.mono HB8.out.size))
    clear hb
    go_wp2_with fail
    refine (HRp.out _).mono ?_; rintro e w9 ⟨rfl, hb⟩
    have HB10 := Lib.hid (HB9.out.trans (hb.mono HB9.out.size))
    clear hb
    go_wp2_with fail
    refine (HTr.out _).mono ?_; rintro e w' ⟨rfl, rfl⟩
    go_wp2_with fail
    refine (F4.out _).mono ?_; rintro e w10 ⟨rfl, hb⟩
    have HB11 := Lib.hid (HB10.out.trans (hb.mono HB10.out.size))
    have heq := HEq.out
    clear hb
    go_wp2_with fail
    go_ret
    exact ⟨ret_bool (by cases r <;> rfl), HB11.out⟩
end Go.Proofs.YtcljfokcomclgaaGreatDoor
