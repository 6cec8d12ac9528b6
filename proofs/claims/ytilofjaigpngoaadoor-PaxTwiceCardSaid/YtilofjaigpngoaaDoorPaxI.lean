/- The walk of the property on package pax's reading back. -/
import Derived.Test.YtilofjaigpngoaaDoorPaxG
import Derived.Test.YtilofjaigpngoaaDoorPaxH
set_option linter.unusedVariables false
set_option maxRecDepth 100000
namespace Go.Proofs.YtilofjaigpngoaaDoor
open Go.RowKit
open Go.OpenShut
theorem keyR_less (c : UInt8) (i j : Nat) (h : i < j) (hj : j < 6) : Op.bytesLess (keyR c i) (keyR c j) = true := by
  have h1 : UInt8.ofNat (48 + i) < UInt8.ofNat (48 + j) := by
    rw [UInt8.lt_iff_toNat_lt, UInt8.toNat_ofNat', UInt8.toNat_ofNat']; omega
  unfold keyR
  generalize UInt8.ofNat (48 + i) = a at *
  generalize UInt8.ofNat (48 + j) = b at *
  simp [Op.bytesLess, h1]
theorem keyR_less2 (i j : Nat) : Op.bytesLess (keyR 97 i) (keyR 98 j) = true := by
  have h1 : (97 : UInt8) < 98 := by decide
  simp [keyR, Op.bytesLess, h1]
theorem keyR_ok (c : UInt8) (hc : c = 97 ∨ c = 98) (i : Nat) (h : i < 6) : hasB 61 (keyR c i) = false ∧ hasB 10 (keyR c i) = false := by
  rcases hc with rfl | rfl <;> (match i, h with
    | 0, _ => exact ⟨by decide, by decide⟩
    | 1, _ => exact ⟨by decide, by decide⟩
    | 2, _ => exact ⟨by decide, by decide⟩
    | 3, _ => exact ⟨by decide, by decide⟩
    | 4, _ => exact ⟨by decide, by decide⟩
    | 5, _ => exact ⟨by decide, by decide⟩)
theorem recs_at (c : UInt8) (rs : List RawV) : ∀ r ∈ recsL c rs, ∃ i, i < 6 ∧ r.1 = keyR c i ∧ ∃ a : RawV, r.2 = rcVal a := by
  intro r hr
  obtain ⟨k, hk, rfl⟩ := List.mem_iff_getElem.1 hr
  obtain ⟨h6, a, e⟩ := recsL_get c rs k hk
  exact ⟨k, h6, by rw [e], a, by rw [e]⟩
theorem recs_ok (c : UInt8) (hc : c = 97 ∨ c = 98) (rs : List RawV) : ∀ r ∈ recsL c rs, chkR r.1 r.2 = 0 := by
  intro r hr
  obtain ⟨i, hi, e1, a, e2⟩ := recs_at c rs r hr
  rw [e1, e2]
  obtain ⟨k1, k2⟩ := keyR_ok c hc i hi
  have hv := rcVal_len a
  have hl : (keyR c i).length = 2 := rfl
  refine chkR_ok (by omega) ?_
  rintro (h | h | h)
  · rw [k1] at h; cases h
  · rw [k2] at h; cases h
  · unfold rcVal at h; rw [hasB_repeat 0 _ _ (cleanL_has _ _)] at h; cases h
theorem recs_pair (c : UInt8) (rs : List RawV) : (recsL c rs).Pairwise fun a b => Op.bytesLess a.1 b.1 = true := by
  rw [List.pairwise_iff_getElem]
  intro i j hi hj hij
  obtain ⟨-, a, e1⟩ := recsL_get c rs i hi
  obtain ⟨h6, b, e2⟩ := recsL_get c rs j hj
  rw [e1, e2]
  exact keyR_less c i j hij h6
theorem recs_first (c : UInt8) (rs : List RawV) : ∀ r ∈ recsL c rs, Op.bytesLess [] r.1 = true := by
  intro r hr
  obtain ⟨i, -, e1, -⟩ := recs_at c rs r hr
  rw [e1]; rfl
theorem recs_six (c : UInt8) (rs : List RawV) : (recsL c rs).length ≤ 6 := by rw [recsL_length]; omega
theorem recs_chk (c : UInt8) (hc : c = 97 ∨ c = 98) (rs : List RawV) : chkG [] (recsL c rs) = 0 := chkG_sorted (recs_ok c hc rs) (recs_first c rs) (recs_pair c rs)
theorem recs_chkP (c : UInt8) (hc : c = 97 ∨ c = 98) (rs : List RawV) : chkP (recsL c rs) = 0 := by
  rw [chkP_few (by have := recs_six c rs; omega)]; exact recs_chk c hc rs
theorem recs_two (rs ms : List RawV) : chkP (recsL 97 rs ++ recsL 98 ms) = 0 := by
  have h1 := recs_six 97 rs
  have h2 := recs_six 98 ms
  rw [chkP_few (by rw [List.length_append]; omega)]
  refine chkG_sorted (fun r hr => ?_) (fun r hr => ?_) ?_
  · rcases List.mem_append.1 hr with h | h
    · exact recs_ok 97 (.inl rfl) rs r h
    · exact recs_ok 98 (.inr rfl) ms r h
  · rcases List.mem_append.1 hr with h | h
    · exact recs_first 97 rs r h
    · exact recs_first 98 ms r h
  · rw [List.pairwise_append]
    refine ⟨recs_pair 97 rs, recs_pair 98 ms, fun a ha b hb => ?_⟩
    obtain ⟨i, -, e1, -⟩ := recs_at 97 rs a ha
    obtain ⟨j, -, e2, -⟩ := recs_at 98 ms b hb
    rw [e1, e2]
    exact keyR_less2 i j
theorem paxR_text {x : List Rc} (h : chkP x = 0) : paxR (textP x) = (x, 0) := paxR_ok (rdAll_text x (chkP_all h).2.2) h
theorem five : textP [([97], [])] = [53, 32, 97, 61, 10] := by decide +kernel
set_option maxHeartbeats 2000000 in
theorem PaxBack_walk (A0 : Option Addr) (n0 c0 : Nat) (rs0 : List RawV) (A1 : Option Addr) (n1 c1 : Nat) (rs1 : List RawV) (hn0 : rs0.length = n0) (hm0 : n0 ≤ 140737488355328) (hf0 : ∀ r ∈ rs0, r.wf) (hn1 : rs1.length = n1) (hm1 : n1 ≤ 140737488355328) (hf1 : ∀ r ∈ rs1, r.wf) (w : World) (hr0 : RawsAt w A0 rs0) (hr1 : RawsAt w A1 rs1) (hL : laidMetH Tryd.prog Rows.paxBackRow.laid w) :
    Calls Tryd.prog 5 #[.slice A0 n0 c0, .slice A1 n1 c1] w fun e w' => e = .returned (.bool true) ∧ Below w.heap.size w w' := by
  have T : Tab w := tab_of_laid hL (by kernel_rfl) (by simp [Rows.paxBackRow])
  clear hL
  have HX := Lib.hid (recordsOf_any A0 n0 c0 rs0 97 hn0 hm0 hf0 w T hr0)
  have HY := Lib.hid fun W T h => recordsOf_any A1 n1 c1 rs1 98 hn1 hm1 hf1 W T h
  have HR1 := Lib.hid hr1
  have h1 := recs_chkP 97 (.inl rfl) rs0
  have h2 := recs_chkP 98 (.inr rfl) rs1
  have h12 := recs_two rs0 rs1
  have s1 := recs_six 97 rs0
  have s2 := recs_six 98 rs1
  obtain ⟨x, hx⟩ := hid_name (recsL 97 rs0)
  obtain ⟨y, hy⟩ := hid_name (recsL 98 rs1)
  rw [hx.out] at HX h1 h12 s1
  rw [hy.out] at HY h2 h12 s2
  clear hr0 hr1 hf0 hf1 hn0 hn1
  have lx := textP_len (chkP_all h1).2.2
  have ly := textP_len (chkP_all h2).2.2
  have HWx : Hid (∀ A n c W, x.length = n → Tab W → RecsAt W A x → Calls Tryd.prog 8 #[.slice A n c] W fun e w' => e = .returned (.tuple #[.string (bs (textP x)), .int .i64 0]) ∧ Below W.heap.size W w') := fun A n c W hn T hA => by
    have h := pWrite_any A n c x hn (by omega) (szR_of (chkP_all h1).2.2) W T hA
    rw [paxW_ok h1] at h; exact h
  have HWy : Hid (∀ A n c W, y.length = n → Tab W → RecsAt W A y → Calls Tryd.prog 8 #[.slice A n c] W fun e w' => e = .returned (.tuple #[.string (bs (textP y)), .int .i64 0]) ∧ Below W.heap.size W w') := fun A n c W hn T hA => by
    have h := pWrite_any A n c y hn (by omega) (szR_of (chkP_all h2).2.2) W T hA
    rw [paxW_ok h2] at h; exact h
  have HRd : Hid (∀ W, Tab W → Calls Tryd.prog 11 #[.string (bs (textP (x ++ y)))] W fun e w' => ∃ A n c, e = .returned (.tuple #[.slice A n c, .int .i64 0]) ∧ (x ++ y).length = n ∧ RecsAt w' A (x ++ y) ∧ Below W.heap.size W w') := fun W T => by
    have h := pRead_any (bs (textP (x ++ y))) W T (by rw [bs_size, textP_app, List.length_append]; omega)
    rw [bs_list, paxR_text h12] at h; exact h
  have HR5 : Hid (∀ W, Tab W → Calls Tryd.prog 11 #[.string ⟨#[53, 32, 97, 61, 10]⟩] W fun e w' => ∃ A c, e = .returned (.tuple #[.slice A 1 c, .int .i64 0]) ∧ Below W.heap.size W w') := fun W T => by
    have h := pRead_any (bs (textP [([97], [])])) W T (by rw [bs_size, five]; decide)
    rw [bs_list, paxR_text (by decide +kernel), five] at h
    refine h.mono ?_
    rintro e w' ⟨A, n, c, rfl, hn, -, hb⟩
    subst hn
    exact ⟨A, c, rfl, hb⟩
  have hcat : bs (textP x) ++ bs (textP y) = bs (textP (x ++ y)) := by rw [bs_cat, textP_app]
  have hsz : (bs (textP x)).size + (bs (textP y)).size ≤ 9223372036854775807 := by rw [bs_size, bs_size]; omega
  obtain ⟨X, hX⟩ := hid_name (bs (textP x))
  obtain ⟨Y, hY⟩ := hid_name (bs (textP y))
  obtain ⟨Z, hZ⟩ := hid_name (bs (textP (x ++ y)))
  rw [hX.out] at HWx hcat hsz
  rw [hY.out] at HWy hcat hsz
  rw [hZ.out] at HRd hcat
  have padd := add_named hcat hsz
  clear h1 h2 h12 lx ly hcat
  go_enter Tryd.func5, Tryd.ntmps5
  go_wp2_with fail
  refine HX.out.mono ?_; rintro e w1 ⟨Ax, nx, cx, rfl, hO, hb⟩
  have HB1 := Lib.hid hb
  have HX1 := Lib.hid hO
  clear hb hO
  go_wp2_with fail
  refine (HY.out _ (T.below HB1.out) (HR1.out.below HB1.out)).mono ?_; rintro e w2 ⟨Ay, ny, cy, rfl, hO, hb⟩
  have HB2 := Lib.hid (HB1.out.trans (hb.mono HB1.out.size))
  have HX2 := Lib.hid (HX1.out.below hb)
  have HY2 : Hid (Own w2 w.heap.size (.slice Ay ny cy) ny y) := ⟨hO.1, own_mono hO.2 HB1.out.size⟩
  clear hb hO
  go_wp2_with fail
  refine (HWx.out _ _ _ _ HX2.out.1 (T.below HB2.out) HX2.out.at).mono ?_; rintro e w3 ⟨rfl, hb⟩
  have HB3 := Lib.hid (HB2.out.trans (hb.mono HB2.out.size))
  have HX3 := Lib.hid (HX2.out.below hb)
  have HY3 := Lib.hid (HY2.out.below hb)
  clear hb
  go_wp2_with fail
  refine (HWy.out _ _ _ _ HY3.out.1 (T.below HB3.out) HY3.out.at).mono ?_; rintro e w4 ⟨rfl, hb⟩
  have HB4 := Lib.hid (HB3.out.trans (hb.mono HB3.out.size))
  have HX4 := Lib.hid (HX3.out.below hb)
  have HY4 := Lib.hid (HY3.out.below hb)
  clear hb
  go_wp2_with fail
  refine (HRd.out _ (T.below HB4.out)).mono ?_; rintro e w5 ⟨Az, nz, cz, rfl, hnz, hRA, hb⟩
  have HB5 := Lib.hid (HB4.out.trans (hb.mono HB4.out.size))
  have HX5 := Lib.hid (HX4.out.below hb)
  have HY5 := Lib.hid (HY4.out.below hb)
  have HZ5 := Lib.hid hRA
  have HNZ := Lib.hid hnz
  clear hb hRA hnz
  go_wp2_with fail
  refine (HR5.out _ (T.below HB5.out)).mono ?_; rintro e w6 ⟨Ao, co, rfl, hb⟩
  have HB6 := Lib.hid (HB5.out.trans (hb.mono HB5.out.size))
  have HX6 := Lib.hid (HX5.out.below hb)
  have HY6 := Lib.hid (HY5.out.below hb)
  have HZ6 := Lib.hid (HZ5.out.below hb)
  clear hb
  go_wp2_with fail
  have hb0 : Below w6.heap.size w6 (w6.alloc (.cells #[.slice Ax nx cx, .slice Ay ny cy] 22)) := (Below.refl _ _).alloc (Nat.le_refl _) _
  refine (Concat_two w.heap.size _ _ nx ny x y (by have := HX6.out.1; omega) (by have := HY6.out.1; omega) w6.heap.size _ (Blk.new w6 22 #[.slice Ax nx cx, .slice Ay ny cy]) (HX6.out.below hb0) (HY6.out.below hb0)).mono ?_
  rintro e w7 ⟨Ac, nc, cc, rfl, hOc, hb⟩
  have HB7 := Lib.hid ((HB6.out.trans (hb0.mono HB6.out.size)).trans (hb.mono (HB6.out.trans (hb0.mono HB6.out.size)).size))
  have HZ7 := Lib.hid ((HZ6.out.below hb0).below hb)
  obtain rfl : nc = nz := by rw [← hOc.1, HNZ.out]
  have HE := Lib.hid (Equal_same Az Ac nc cz cc (x ++ y) hOc.1 (by have := hOc.1; rw [List.length_append] at this; omega) w7 HZ7.out hOc.at)
  clear hb hb0 hOc
  go_wp2_with fail
  refine HE.out.mono ?_; rintro e w8 ⟨rfl, hb⟩
  have HB8 := Lib.hid (HB7.out.trans (hb.mono HB7.out.size))
  clear hb
  go_wp2_with fail
  go_ret
  exact ⟨rfl, HB8.out⟩
end Go.Proofs.YtilofjaigpngoaaDoor
