/- The walk of the property on a key that stands twice. -/
import Derived.Test.YtilofjaigpngoaaDoorPaxI
set_option linter.unusedVariables false
set_option maxRecDepth 100000
namespace Go.Proofs.YtilofjaigpngoaaDoor
open Go.RowKit
open Go.OpenShut
/-! ### raw things of the call's own -/
def rawsC (l : List RawV) : List Value := l.flatMap rawC
theorem rawC_length (r : RawV) : (rawC r).length = 4 := rfl
theorem rawsC_length (l : List RawV) : (rawsC l).length = l.length * 4 := by
  induction l with
  | nil => rfl
  | cons x l ih => unfold rawsC at *; simp only [List.flatMap_cons, List.length_append, List.length_cons, rawC_length] at *; omega
theorem rawsC_app (a b : List RawV) : rawsC (a ++ b) = rawsC a ++ rawsC b := by simp [rawsC]
theorem rawsC_get (l : List RawV) (j i : Nat) (hj : j < l.length) (hi : i < 4) : (rawsC l)[j * 4 + i]? = (rawC l[j])[i]? := by
  induction l generalizing j with
  | nil => cases hj
  | cons x l ih =>
    have e : rawsC (x :: l) = rawC x ++ rawsC l := rfl
    rw [e]
    cases j with
    | zero => rw [Nat.zero_mul, Nat.zero_add, List.getElem?_append_left (by rw [rawC_length]; exact hi)]; rfl
    | succ j =>
      have hj' : j < l.length := by simpa using hj
      rw [List.getElem?_append_right (by rw [rawC_length]; omega), rawC_length, show (j + 1) * 4 + i - 4 = j * 4 + i by omega]
      exact ih j hj'
theorem rawsC_cells (l : List RawV) : ∀ u ∈ rawsC l, u.oneCell' = true := by
  intro u hu
  obtain ⟨r, -, h⟩ := List.mem_flatMap.1 hu
  simp [rawC] at h
  rcases h with rfl | rfl | rfl | rfl <;> rfl
theorem rawsAt_news {w : World} {ad : Addr} {l : List RawV} (h : RawsAt w (some ad) l) : ∀ j u, (rawsC l)[j]? = some u → w.cell? (ad.add j) = some u := by
  intro j u hu
  have hj : j < l.length * 4 := by
    have h1 := (List.getElem?_eq_some_iff.1 hu).1
    rw [rawsC_length] at h1; exact h1
  obtain ⟨b, o, e, hc⟩ := h (j / 4) (by omega)
  obtain rfl : ad = ⟨b, o, none⟩ := by injection e
  have h2 := hc (j % 4) (by omega)
  rw [← rawsC_get l (j / 4) (j % 4) (by omega) (by omega), show j / 4 * 4 + j % 4 = j by omega, hu] at h2
  rw [← h2]
  unfold Addr.add
  split
  · rename_i h; congr 1; first | (simp; done) | (simp; omega)
  · congr 1; first | (simp; done) | (simp; omega)
def OwnR (w : World) (B : Nat) (v : Value) (n : Nat) (l : List RawV) : Prop := l.length = n ∧ w.ownsRow B 40 4 v n (rawsC l)
theorem OwnR.at {w : World} {B n c : Nat} {A : Option Addr} {l : List RawV} (h : OwnR w B (.slice A n c) n l) : RawsAt w A l := fun j hj => by
  obtain ⟨hl, ho⟩ := h
  rcases ho.2 with ⟨e, h0⟩ | ⟨g, cap, cur, e, -⟩
  · omega
  · injection e with e1 e2 e3
    subst e1 e3
    refine ⟨g, 0, rfl, fun i hi => ?_⟩
    rw [Nat.zero_add, ho.cellAt (j * 4 + i) (by omega), rawsC_get l j i hj hi]
theorem OwnR.form {w : World} {B : Nat} {v : Value} {n : Nat} {l : List RawV} (h : OwnR w B v n l) : ∃ A c, v = .slice A n c := by
  rcases h.2.2 with ⟨e, h0⟩ | ⟨g, cap, cur, e, -⟩
  · exact ⟨none, 0, by rw [e, h0]⟩
  · exact ⟨_, _, e⟩
theorem OwnR.below {w w' : World} {B : Nat} {v : Value} {n : Nat} {l : List RawV} (h : OwnR w B v n l) (hb : Below w.heap.size w w') : OwnR w' B v n l := by
  refine ⟨h.1, own_heap h.2 fun g hg => ?_⟩
  obtain ⟨-, cur, hc⟩ := own_block h.2 g hg
  refine hb.block g ?_
  rcases Nat.lt_or_ge g w.heap.size with h1 | h1
  · exact h1
  · rw [Array.getElem?_eq_none h1] at hc; cases hc
theorem info_raw : (Tryd.prog.info? 40).map (fun i => (i.zero, i.size, i.bytes)) = some (some (.agg #[.int .i64 0, .int .i64 0, .int .i64 0, .string ⟨#[]⟩]), 4, 40) := by kernel_rfl
set_option maxHeartbeats 1000000 in
theorem Clone_raws (A : Option Addr) (n c : Nat) (rs : List RawV) (hn : rs.length = n) (hn2 : n * 40 ≤ 140737488351232) (w : World) (hA : RawsAt w A rs) :
    Calls Tryd.prog 17 #[.slice A n c] w fun e w' => ∃ v, e = .returned v ∧ OwnR w' w.heap.size v n rs ∧ Below w.heap.size w w' := by
  obtain ⟨i0, hi, hz0, hz1, hz2⟩ := info_parts info_raw
  have q22 : ∀ (w : World) (a : Option Addr) (n c n' c' : Nat), (binOp .eql 32 (.slice a n c) (.slice none n' c')).run Tryd.prog w = .ok (.bool a.isNone) w := fun w a n c n' c' => Lib.run_eql_slice_nil w _ _ a n c n' c' Tryd.underlying32
  cases A with
  | none =>
    have h0 : rs = [] := by
      cases rs with
      | nil => rfl
      | cons r l => obtain ⟨b, o, e, -⟩ := hA 0 (by simp); cases e
    subst h0
    obtain rfl : n = 0 := by rw [← hn]; rfl
    go_enter Tryd.func17, Tryd.ntmps17
    go_wp2_with fail
    go_ret
    exact ⟨_, rfl, ⟨rfl, World.ownsRow_nil _ _ _ _⟩, Below.refl _ _⟩
  | some ad =>
    have HN := Lib.hid hn
    have HA := Lib.hid hA
    have HO : Hid ((w.alloc (.cells #[] 40)).ownsRow w.heap.size 40 4 (.slice (some ⟨w.heap.size, 0, none⟩) 0 0) 0 []) := World.ownsRow_lit (e := 40) (size := 4) w #[] 0 (Nat.le_refl _) (by decide) rfl
    have HB : Hid (Below w.heap.size w (w.alloc (.cells #[] 40))) := (Below.refl _ _).alloc (Nat.le_refl _) _
    have HA1 := Lib.hid (HA.out.below HB.out)
    clear hn hA
    go_enter Tryd.func17, Tryd.ntmps17
    go_wp2_with (at_builtin; refine Stay.go ?_)
    refine Stay.on ?_
    refine wpList_append_own _ rfl (.tmp 5) (.tmp 6) 32 rfl w.heap.size 40 i0 _ 4 40 Tryd.underlying32 hi hz0 hz1 hz2 rfl (by decide) (.slice (some ⟨w.heap.size, 0, none⟩) 0 0) 0 [] rfl HO.out ad n c (rawsC rs) rfl (by rw [rawsC_length, HN.out]) (rawsAt_news HA1.out) (rawsC_cells _) (by unfold maxLen; omega) (by omega) (by simp) ?_
    intro v6 w6 hown hgrow _
    have HO6 : Hid (OwnR w6 w.heap.size v6 n rs) := ⟨HN.out, by simpa using hown⟩
    have HB6 : Hid (Below w.heap.size w w6) := HB.out.grown hgrow (by simp) (fun g0 e => by simp [Value.ownBlock] at e; omega)
    clear hown hgrow
    go_wp2_with fail
    go_ret
    exact ⟨v6, rfl, HO6.out, HB6.out⟩
def rawZ : RawV := ⟨0, 0, 0, ⟨#[]⟩⟩
theorem rawZ_wf : rawZ.wf := ⟨by decide, by decide, by decide, by decide⟩
theorem again_chk {x : List Rc} (h : chkP x = 0) (h6 : x.length ≤ 6) {r : Rc} (hr : r ∈ x) : chkP (x ++ [r]) = 6 := by
  rw [chkP_few (by rw [List.length_append, List.length_singleton]; omega)]
  exact chkG_again (chkP_all h).2.1 hr
theorem paxR_again {x : List Rc} (h : chkP x = 0) (h6 : x.length ≤ 6) {r : Rc} (hr : r ∈ x) : paxR (textP x ++ recL r.1 r.2) = ([], 6) := by
  have hall := (chkP_all h).2.2
  have e : textP x ++ recL r.1 r.2 = textP (x ++ [r]) := by rw [textP_app, textP_cons, textP_nil, List.append_nil]
  have h2 := rdAll_text (x ++ [r]) (fun y hy => by
    rcases List.mem_append.1 hy with h1 | h1
    · exact hall y h1
    · obtain rfl : y = r := by simpa using h1
      exact hall _ hr)
  rw [e, paxR_chk h2 (by rw [again_chk h h6 hr]; decide), again_chk h h6 hr]
set_option maxHeartbeats 2000000 in
theorem PaxTwice_walk (A0 : Option Addr) (n0 c0 : Nat) (rs0 : List RawV) (a1 : Int) (hn0 : rs0.length = n0) (hm0 : n0 * 40 ≤ 140737488351232) (hf0 : ∀ r ∈ rs0, r.wf) (w1 : (Lit.int .i64 a1).wf = true) (w : World) (hr0 : RawsAt w A0 rs0) (hL : laidMetH Tryd.prog Rows.paxTwiceRow.laid w) :
    Calls Tryd.prog 6 #[.slice A0 n0 c0, .int .i64 a1] w fun e w' => e = .returned (.bool true) ∧ Below w.heap.size w w' := by
  have T : Tab w := tab_of_laid hL (by kernel_rfl) (by simp [Rows.paxTwiceRow])
  clear hL
  obtain ⟨i0, hi, hz0, hz1, hz2⟩ := info_parts info_raw
  have HC := Lib.hid (Clone_raws A0 n0 c0 rs0 hn0 hm0 w hr0)
  have hwz : ∀ r ∈ rs0 ++ [rawZ], r.wf := fun r hr => by
    rcases List.mem_append.1 hr with h1 | h1
    · exact hf0 r h1
    · obtain rfl : r = rawZ := by simpa using h1
      exact rawZ_wf
  have HRO := Lib.hid fun A c W T h => recordsOf_any A (n0 + 1) c (rs0 ++ [rawZ]) 97 (by rw [List.length_append, hn0]; rfl) (by omega) hwz W T h
  have h1 := recs_chkP 97 (.inl rfl) (rs0 ++ [rawZ])
  have s1 := recs_six 97 (rs0 ++ [rawZ])
  have s0 : 1 ≤ (recsL 97 (rs0 ++ [rawZ])).length := by rw [recsL_length, List.length_append, List.length_singleton]; omega
  obtain ⟨x, hx⟩ := hid_name (recsL 97 (rs0 ++ [rawZ]))
  rw [hx.out] at HRO h1 s1 s0
  clear hwz hr0 hf0 hn0
  obtain ⟨m, hm⟩ := hid_name x.length
  have hm6 : m ≤ 6 := by have := hm.out; omega
  obtain ⟨q1, q2⟩ := pick_bd a1 (m : Int) (by have := hm.out; omega)
  have HP := Lib.hid fun W => picked_any a1 (m : Int) W w1 (by have := hm.out; omega)
  obtain ⟨k, hk⟩ : ∃ k : Nat, pick a1 (m : Int) = k := ⟨(pick a1 (m : Int)).toNat, by omega⟩
  rw [hk] at HP q1 q2
  have hkm : k < m := by omega
  have hkx : k < x.length := by rw [hm.out]; exact hkm
  have hall := (chkP_all h1).2.2
  have hmem : x[k] ∈ x := List.getElem_mem _
  have hok := hall _ hmem
  have HF := Lib.hid fun A c W (hn : x.length = m) h => Find_any A m c x (bs x[k].1) hn (by omega) (szR_of hall) W h
  rw [bs_list, paxF_at (chkP_all h1).2.1 k hkx] at HF
  have HWr : Hid (∀ W, Tab W → Calls Tryd.prog 19 #[recV (bs x[k].1) (bs x[k].2)] W fun e w' => e = .returned (.tuple #[.string (bs (recL x[k].1 x[k].2)), .int .i64 0]) ∧ Below W.heap.size W w') := fun W T => by
    have h := rWrite_any (bs x[k].1) (bs x[k].2) W T (by have := szR_of hall _ hmem; rw [bs_size]; unfold maxLen; omega) (by have := szR_of hall _ hmem; rw [bs_size]; unfold maxLen; omega)
    rw [bs_list, bs_list, recW_ok hok] at h; exact h
  have HWx : Hid (∀ A c W, Tab W → RecsAt W A x → Calls Tryd.prog 8 #[.slice A m c] W fun e w' => e = .returned (.tuple #[.string (bs (textP x)), .int .i64 0]) ∧ Below W.heap.size W w') := fun A c W T hA => by
    have h := pWrite_any A m c x hm.out (by omega) (szR_of hall) W T hA
    rw [paxW_ok h1] at h; exact h
  have lx := textP_len hall
  have lr := recL_max hok
  have HRd : Hid (∀ W, Tab W → Calls Tryd.prog 11 #[.string (bs (textP x ++ recL x[k].1 x[k].2))] W fun e w' => ∃ A n c, e = .returned (.tuple #[.slice A n c, .int .i64 6]) ∧ Below W.heap.size W w') := fun W T => by
    have h := pRead_any (bs (textP x ++ recL x[k].1 x[k].2)) W T (by rw [bs_size, List.length_append]; omega)
    rw [bs_list, paxR_again h1 s1 hmem] at h
    refine h.mono ?_
    rintro e w' ⟨A, n, c, rfl, -, -, hb⟩
    exact ⟨A, n, c, rfl, hb⟩
  have HG : Hid (∀ (W : World) (A : Option Addr), RecsAt W A x → ∃ b o, A = some ⟨b, o, none⟩ ∧ W.cell? ⟨b, o + k * 2, none⟩ = some (.string (bs x[k].1)) ∧ W.cell? ⟨b, o + k * 2 + 1, none⟩ = some (.string (bs x[k].2))) := fun W A h => h k hkx
  have hcat : bs (textP x) ++ bs (recL x[k].1 x[k].2) = bs (textP x ++ recL x[k].1 x[k].2) := bs_cat _ _
  have hsz : (bs (textP x)).size + (bs (recL x[k].1 x[k].2)).size ≤ 9223372036854775807 := by rw [bs_size, bs_size]; omega
  obtain ⟨X, hX⟩ := hid_name (bs (textP x))
  obtain ⟨Y, hY⟩ := hid_name (bs (recL x[k].1 x[k].2))
  obtain ⟨Z, hZ⟩ := hid_name (bs (textP x ++ recL x[k].1 x[k].2))
  obtain ⟨K, hK⟩ := hid_name (bs x[k].1)
  obtain ⟨V, hV⟩ := hid_name (bs x[k].2)
  rw [hX.out] at HWx hcat hsz
  rw [hY.out] at HWr hcat hsz
  rw [hZ.out] at HRd hcat
  rw [hK.out, hV.out] at HWr
  simp only [hK.out, hV.out] at HG HF
  unfold recV at HWr
  have padd := add_named hcat hsz
  have HM := Lib.hid hm.out
  clear h1 lx lr hcat hall hmem hok s1 hk
  go_enter Tryd.func6, Tryd.ntmps6
  go_wp2_with fail
  refine HC.out.mono ?_; rintro e w2 ⟨v2, rfl, hO, hb⟩
  obtain ⟨A2, c2, rfl⟩ := hO.form
  have HB2 := Lib.hid hb
  have HO2 := Lib.hid hO
  have hw2 : w.heap.size ≤ w2.heap.size := hb.size
  clear hb hO
  go_wp2_with (at_builtin; refine Stay.go ?_)
  refine Stay.on ?_
  have HO3 : Hid (OwnR (w2.alloc (.cells (rawC rawZ).toArray 40)) w.heap.size (.slice A2 n0 c2) n0 rs0) := HO2.out.below ((Below.refl _ _).alloc (Nat.le_refl _) _)
  refine wpList_append_lies _ rfl (.tmp 16) (.tmp 18) 32 rfl w.heap.size 40 i0 _ 4 40 Tryd.underlying32 hi hz0 hz1 hz2 rfl (by decide) (.slice A2 n0 c2) n0 _ rfl HO3.out.2 ⟨w2.heap.size, 0, none⟩ 1 1 (rawC rawZ) rfl rfl (World.news_of_block (cs := (rawC rawZ).toArray) (t := 40) (fr := (0, 0)) (heap_alloc_new w2 _)) (by simp [rawC, Value.oneCell']) (by omega) (by unfold maxLen; omega) (by omega) (by simp; omega) _ rfl ?_
  intro g' cap' w3 hown hgrow hat hlt
  have HO4 : Hid (OwnR w3 w.heap.size (.slice (some ⟨g', 0, none⟩) (n0 + 1) cap') (n0 + 1) (rs0 ++ [rawZ])) :=
    ⟨by rw [List.length_append, HO3.out.1]; rfl, by rw [rawsC_app]; exact hown⟩
  have HB3 : Hid (Below w.heap.size w w3) := (HB2.out.alloc hw2 _).grown hgrow (by simp; omega) (fun g0 e => (own_block HO3.out.2 g0 e).1)
  clear hown hgrow hat hlt
  go_wp2_with fail
  refine (HRO.out _ _ _ (T.below HB3.out) HO4.out.at).mono ?_; rintro e w4 ⟨Ax, nx, cx, rfl, hO, hb⟩
  obtain rfl : nx = m := by rw [← hO.1, HM.out]
  have HB4 := Lib.hid (HB3.out.trans (hb.mono HB3.out.size))
  have HX4 := Lib.hid hO
  clear hb hO
  go_wp2_with fail
  refine (HP.out _).mono ?_; rintro e w' ⟨rfl, rfl⟩
  go_wp2_with fail
  refine (HWx.out _ _ _ (T.below HB4.out) HX4.out.at).mono ?_; rintro e w5 ⟨rfl, hb⟩
  have HB5 := Lib.hid (HB4.out.trans (hb.mono HB4.out.size))
  have HX5 := Lib.hid (HX4.out.at.below hb)
  clear hb
  obtain ⟨b, o, rfl, e0, e1⟩ := HG.out _ _ HX5.out
  go_wp2_with fail
  refine (HWr.out _ (T.below HB5.out)).mono ?_; rintro e w6 ⟨rfl, hb⟩
  have HB6 := Lib.hid (HB5.out.trans (hb.mono HB5.out.size))
  have HX6 := Lib.hid (HX5.out.below hb)
  clear hb e0 e1
  go_wp2_with fail
  refine (HRd.out _ (T.below HB6.out)).mono ?_; rintro e w7 ⟨Ar, nr, cr, rfl, hb⟩
  have HB7 := Lib.hid (HB6.out.trans (hb.mono HB6.out.size))
  have HX7 := Lib.hid (HX6.out.below hb)
  clear hb
  obtain ⟨b', o', eA, e0, e1⟩ := HG.out _ _ HX7.out
  cases eA
  go_wp2_with fail
  refine (HF.out _ _ _ HM.out HX7.out).mono ?_; rintro e w8 ⟨rfl, hb⟩
  have HB8 := Lib.hid (HB7.out.trans (hb.mono HB7.out.size))
  have HX8 := Lib.hid (HX7.out.below hb)
  clear hb e0 e1
  obtain ⟨b', o', eA, e0, e1⟩ := HG.out _ _ HX8.out
  cases eA
  go_wp2_with fail
  go_ret
  exact ⟨rfl, HB8.out⟩
end Go.Proofs.YtilofjaigpngoaaDoor
