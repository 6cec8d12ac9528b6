/- Paths of drawn trees; what is near a directory. -/
import Derived.Test.YtceaaadnemmalaaDoorTreE
import Derived.Test.YtceaaadnemmalaaDoorPthA
set_option linter.unusedVariables false
set_option maxRecDepth 100000
namespace Go.Proofs.YtceaaadnemmalaaDoor
open Go.RowKit
open Go.OpenShut
theorem pcmp_in {d e : List UInt8} (h : inB e d = true) : pcmp d e < 0 := by
  by_cases hd : d = []
  · subst hd
    cases e with
    | nil => rw [inB_nil] at h; simp at h
    | cons y e => rw [pcmp_nil_cons]; decide
  · rw [inB_ne hd, decide_eq_true_eq] at h
    obtain ⟨t, rfl⟩ := h
    have e1 : pcmp (d ++ []) (d ++ (47 :: t)) = -1 := by rw [pcmp_app, pcmp_nil_cons]
    rw [List.append_nil] at e1
    rw [List.append_assoc, List.singleton_append, e1]; decide
theorem between_pre (d x t : List UInt8) (h1 : pcmp d x < 0) (h2 : pcmp x (d ++ 47 :: t) < 0) : d ++ [47] <+: x := by
  induction d generalizing x with
  | nil =>
    cases x with
    | nil => rw [pcmp_nil_nil] at h1; omega
    | cons y x =>
      rw [List.nil_append, pcmp_cons] at h2
      by_cases e : y = 47
      · subst e; exact ⟨x, rfl⟩
      · rw [if_neg e] at h2
        have hr := rk_lo y
        have h47 : rk 47 = -1 := rfl
        rcases sgn_cases (rk y) (rk 47) with ⟨_, a⟩ | ⟨a, _⟩ | ⟨a, _⟩ <;> omega
  | cons c d ih =>
    cases x with
    | nil => rw [pcmp_cons_nil] at h1; omega
    | cons y x =>
      rw [List.cons_append] at h2 ⊢
      rw [pcmp_cons] at h1 h2
      by_cases e : c = y
      · subst e
        rw [if_pos rfl] at h1 h2
        obtain ⟨u, hu⟩ := ih x h1 h2
        exact ⟨u, by rw [List.cons_append, List.append_assoc] at *; simp [← hu]⟩
      · rw [if_neg e] at h1
        rw [if_neg (fun a => e a.symm)] at h2
        rcases sgn_cases (rk c) (rk y) with ⟨_, a⟩ | ⟨a, _⟩ | ⟨a, _⟩ <;> rcases sgn_cases (rk y) (rk c) with ⟨_, b⟩ | ⟨b, _⟩ | ⟨b, _⟩ <;> omega
theorem between {d x e : List UInt8} (h : inB e d = true) (h1 : pcmp d x < 0) (h2 : pcmp x e < 0) : inB x d = true := by
  by_cases hd : d = []
  · subst hd
    cases x with
    | nil => rw [pcmp_nil_nil] at h1; omega
    | cons y x => rw [inB_nil]; simp
  · rw [inB_ne hd, decide_eq_true_eq] at h ⊢
    obtain ⟨t, rfl⟩ := h
    rw [List.append_assoc, List.singleton_append] at h2
    exact between_pre d x t h1 h2
set_option maxHeartbeats 4000000 in
theorem paths_any (A : Option Addr) (n c : Nat) (rs : List RawV) (hn : rs.length = n) (hn2 : n ≤ 140737488355328) (hwf : ∀ r ∈ rs, r.wf) (w : World) (hA : RawsAt w A rs) :
    Calls Tryd.prog 4 #[.slice A n c, .int .i64 20] w fun e w' => ∃ (v : Value) (L : List (List UInt8)), e = .returned v ∧ Texts w' w.heap.size v L ∧ 1 ≤ L.length ∧ L.length ≤ 21 ∧ (∀ d ∈ L, d.length ≤ 400) ∧ Below w.heap.size w w' := by
  have HCT : Hid (∀ W, RawsAt W A rs → Calls Tryd.prog 8 #[.slice A n c, .int .i64 20] W fun e w' => ∃ v ys, e = .returned v ∧ TreeOut W 20 rs v ys w') := fun W h => Tree_any A n c rs hn hn2 hwf 20 (by omega) W h
  have hA2 : RawsAt (w.alloc (.cells #[.string ⟨#[97]⟩] 9)) A rs := fun j hj => by
    obtain ⟨b, o, e, hc⟩ := hA j hj
    refine ⟨b, o, e, fun i hi => ?_⟩
    have h0 := hc i hi
    have hlt : b < w.heap.size := by
      have h3 : i < (rawC rs[j]).length := by rw [show (rawC rs[j]).length = 4 from rfl]; exact hi
      rw [List.getElem?_eq_getElem h3] at h0
      exact World.block_lt_of_cell? w _ h0
    rw [World.cell?_alloc_old _ _ _ (by show b ≠ _; omega)]
    exact h0
  have HA2 := Lib.hid hA2
  have HA := Lib.hid hA
  have HWF := Lib.hid hwf
  clear hA hA2 hwf
  have hT0 : Hid (Texts (w.alloc (.cells #[.string ⟨#[97]⟩] 9)) w.heap.size (.slice (some ⟨w.heap.size, 0, none⟩) 1 1) [[97]]) := Texts.lit (w := w) [[97]] (by decide)
  have hB0 : Hid (Below w.heap.size w (w.alloc (.cells #[.string ⟨#[97]⟩] 9))) := al (Below.refl _ _) _
  obtain ⟨i0, hi, hz0, hz1, hz2⟩ := info_parts info_str
  go_enter Tryd.func4, Tryd.ntmps4
  go_wp2_with fail
  refine (HCT.out _ HA2.out).mono ?_; rintro e w1 ⟨tv, ys, rfl, hO⟩
  have HO := Lib.hid hO
  clear hO
  obtain ⟨G, cap, rfl⟩ := HO.out.1.form
  have hyl : ys.length ≤ 20 := by
    have h1 := HO.out.2.1.length_eq
    have h2 := treeS_le 20 rs
    rw [List.length_map] at h1
    omega
  obtain ⟨ny, Hny⟩ := hid_name ys.length
  rw [Hny.out] at hyl ⊢
  have hT1 : Hid (Texts w1 w.heap.size (.slice (some ⟨w.heap.size, 0, none⟩) 1 1) [[97]]) := hT0.out.below HO.out.2.2.2.2
  have hB1 : Hid (Below w.heap.size w w1) := hB0.out.trans (HO.out.2.2.2.2.mono hB0.out.size)
  go_wp2_with fail
  go_loopw [5, 13] (fun v i wr => ∃ (k : Nat) (L : List (List UInt8)), i = .int .i64 k ∧ k ≤ ny ∧ L.length = k + 1 ∧ Hid (Texts wr w.heap.size v L) ∧ Hid (∀ d ∈ L, d.length ≤ 400) ∧ Hid (KeepT 9 w1 wr) ∧ Hid (Below w.heap.size w wr)) (fun _ i _ => ny - (intOf i).toNat)
  case atStart => exact ⟨0, [[97]], rfl, Nat.zero_le _, rfl, hT1.out, (fun d hd => by simp at hd; simp [hd]), KeepT.rfl' _ _, hB1.out⟩
  case round =>
    obtain ⟨k, L, rfl, hk, hL, HT, HL, HK, HB⟩ := hrel
    by_cases hlt : k < ny
    · have hkx : k < ys.length := by rw [Hny.out]; exact hlt
      obtain ⟨y, Hy⟩ := hid_name (ys[k]'hkx)
      have hNy : Nodes wr w.heap.size (.slice (adr G) ny cap) ys := by
        have h1 := HO.out.1
        rw [Hny.out] at h1
        exact own_mono (own_keepT h1 HK.out (by decide)) (by simp)
      obtain ⟨G0, rfl⟩ : ∃ G0, G = some G0 := by
        rcases hNy.any with ⟨e, _⟩ | ⟨g5, cap5, e, _⟩
        · have : ny = 0 := by simp only [Value.slice.injEq] at e; exact e.2.1
          omega
        · cases G with
          | none => simp [adr] at e
          | some G0 => exact ⟨G0, rfl⟩
      obtain ⟨⟨s0, s1, s2, s3, s4, s5, s6, s7, s8, s9, s10, s11⟩, sf⟩ := node_cells hNy Hny.out k hkx y Hy.out
      obtain ⟨gs, cs, rfl, hgs, _⟩ := HT.out.form (by omega)
      have HO2 : Hid (wr.ownsRow w.heap.size 9 1 (.slice (some ⟨gs, 0, none⟩) L.length cs) L.length (strC L)) := HT.out
      rw [hL] at HO2 ⊢
      rw [show adr (some G0) = some (⟨G0, 0, none⟩ : Addr) from rfl]
      have hk0 : (0 : Int) ≤ (k : Int) := by omega
      have hk1 : (k : Int) < (ny : Int) := by omega
      go_wp2_with (at_builtin; refine Stay.go ?_)
      refine Stay.on ?_
      have HO3 : Hid (((wr.alloc (.cells (encN y).toArray 35)).alloc (.cells #[.string ⟨(keyL y).toArray⟩] 9)).ownsRow w.heap.size 9 1 (.slice (some ⟨gs, 0, none⟩) (k + 1) cs) (k + 1) (strC L)) := (HO2.out.alloc _).alloc _
      have hsz : w.heap.size ≤ wr.heap.size := HB.out.size
      have hnb : ((wr.alloc (.cells (encN y).toArray 35)).alloc (.cells #[.string ⟨(keyL y).toArray⟩] 9)).heap[wr.heap.size + 1]? = some (.cells #[.string ⟨(keyL y).toArray⟩] 9 (0, 0)) := by
        have h9 := heap_alloc_new (wr.alloc (.cells (encN y).toArray 35)) (.cells #[.string ⟨(keyL y).toArray⟩] 9)
        simpa using h9
      refine wpList_append_lies _ rfl (.tmp 17) (.tmp 20) 23 rfl w.heap.size 9 i0 _ 1 16 Tryd.underlying23 hi hz0 hz1 hz2 rfl (by decide) (.slice (some ⟨gs, 0, none⟩) (k + 1) cs) (k + 1) _ rfl HO3.out ⟨wr.heap.size + 1, 0, none⟩ 1 1 [.string ⟨(keyL y).toArray⟩] rfl rfl (World.news_of_block (cs := #[.string ⟨(keyL y).toArray⟩]) (t := 9) (fr := (0, 0)) hnb) (by simp [Value.oneCell']) (by omega) (by unfold maxLen; omega) (by omega) (by simp; omega) _ rfl ?_
      intro g' cap' w6 hown1 hgrow1 hat1 hlt1
      have HL1 : Hid ((L ++ [keyL y]).length = k + 1 + 1) := by unfold Hid; rw [List.length_append, hL]; rfl
      have HT1 : Hid (Texts w6 w.heap.size (.slice (some ⟨g', 0, none⟩) (k + 1 + 1) cap') (L ++ [keyL y])) := by
        unfold Hid Texts; rw [HL1.out, strC_app]; exact hown1
      have HK1 : Hid (KeepT 9 w1 w6) := by
        refine HK.out.trans ((KeepT.below (al (al (Below.refl wr.heap.size wr) _) _)).trans (KeepT.grown hgrow1 fun g0 e => ?_))
        obtain ⟨_, cur, hc⟩ := own_block HO3.out g0 e
        exact ⟨cur, (0, 0), hc⟩
      have HB2 : Hid (Below w.heap.size w w6) := ((HB.out.alloc hsz _).alloc (by simp; omega) _).grown hgrow1 (by simp; omega) fun k' hk' => (own_block HO3.out k' hk').1
      have HLL : Hid (∀ d ∈ L ++ [keyL y], d.length ≤ 400) := fun d hd => by
        rcases List.mem_append.1 hd with a | a
        · exact HL.out d a
        · obtain rfl : d = keyL y := by simpa using a
          rw [keyL, List.length_take]; omega
      clear hown1 hgrow1 hat1 hlt1 hnb
      go_wp2_with fail
      go_roundw
      case rel => exact ⟨k + 1, L ++ [keyL y], by go_num, by omega, HL1.out, HT1.out, HLL.out, HK1.out, HB2.out⟩
      case measure => simp [intOf]; omega
    · obtain rfl : k = ny := by omega
      go_wp2_with fail
      go_ret
      exact ⟨_, L, rfl, HT.out, by omega, by omega, HL.out, HB.out⟩
theorem cmp_val (a b : ByteArray) (v : Int) (h : pcmp a.data.toList b.data.toList = v) (ha : a.size ≤ maxLen) (hb : b.size ≤ maxLen) (W : World) : Calls Tryd.prog 6 #[.string a, .string b] W fun e w' => e = .returned (.int .i64 v) ∧ ∃ n, w' = W.drewN n := by
  rw [← h]; exact Compare_any a b W ha hb
theorem in_val (a b : ByteArray) (v : Bool) (h : inB a.data.toList b.data.toList = v) (ha : a.size ≤ maxLen) (hb : b.size ≤ maxLen) (W : World) : Calls Tryd.prog 7 #[.string a, .string b] W fun e w' => e = .returned (.bool v) ∧ W = w' := by
  rw [← h]; exact In_any a b W ha hb
set_option maxHeartbeats 4000001 in
theorem PathNear_walk (A : Option Addr) (n c : Nat) (rs : List RawV) (a1 a2 a3 : Int) (hn : rs.length = n) (hn2 : n ≤ 140737488355328) (hwf : ∀ r ∈ rs, r.wf) (w1 : (Lit.int .i64 a1).wf = true) (w2 : (Lit.int .i64 a2).wf = true) (w3 : (Lit.int .i64 a3).wf = true) (w : World) (hA : RawsAt w A rs) :
    Calls Tryd.prog 3 #[.slice A n c, .int .i64 a1, .int .i64 a2, .int .i64 a3] w fun e w' => e = .returned (.bool true) ∧ Below w.heap.size w w' := by
  have HCP : Hid (Calls Tryd.prog 4 #[.slice A n c, .int .i64 20] w fun e w' => ∃ (v : Value) (L : List (List UInt8)), e = .returned v ∧ Texts w' w.heap.size v L ∧ 1 ≤ L.length ∧ L.length ≤ 21 ∧ (∀ d ∈ L, d.length ≤ 400) ∧ Below w.heap.size w w') := paths_any A n c rs hn hn2 hwf w hA
  clear hwf hA hn
  have HW1 := Lib.hid w1
  have HW2 := Lib.hid w2
  have HW3 := Lib.hid w3
  clear w1 w2 w3
  go_enter Tryd.func3, Tryd.ntmps3
  go_wp2_with fail
  refine HCP.out.mono ?_; rintro e w4 ⟨v, L, rfl, hT, hL1, hL2, hL3, hB⟩
  have HT := Lib.hid hT
  have HB := Lib.hid hB
  have HL := Lib.hid hL3
  clear hT hB hL3
  obtain ⟨g, cap, rfl, hg, hgl⟩ := HT.out.form hL1
  obtain ⟨np, Hnp⟩ := hid_name L.length
  rw [Hnp.out] at hL1 hL2 ⊢
  have pk : ∀ a : Int, (Lit.int .i64 a).wf = true → ∃ p : Nat, p < np ∧ ∀ W, Calls Tryd.prog 5 #[.int .i64 a, .int .i64 (np : Int)] W fun e w' => e = .returned (.int .i64 (p : Int)) ∧ w' = W := fun a ha => by
    have h9 := pick_bd a (np : Int) (by omega)
    refine ⟨(pick a (np : Int)).toNat, by omega, fun W => ?_⟩
    have h8 := picked_any a (np : Int) W ha (by omega)
    rw [show pick a (np : Int) = (((pick a (np : Int)).toNat : Nat) : Int) by omega] at h8
    exact flip_same h8
  obtain ⟨p1, hp1, HP1⟩ := pk a1 HW1.out
  obtain ⟨p2, hp2, HP2⟩ := pk a2 HW2.out
  obtain ⟨p3, hp3, HP3⟩ := pk a3 HW3.out
  clear pk
  have hs : ∀ p : Nat, p < np → ∃ s : ByteArray, s.size ≤ 400 ∧ w4.cell? ⟨g, p, none⟩ = some (.string s) := fun p hp => by
    have hpl : p < L.length := by rw [Hnp.out]; exact hp
    refine ⟨⟨(L.getD p []).toArray⟩, ?_, by have h9 := HT.out; rw [Hnp.out] at h9; exact h9.cell Hnp.out p hp⟩
    rw [size_mk, List.getD_eq_getElem?_getD, List.getElem?_eq_getElem hpl]
    exact HL.out _ (List.getElem_mem hpl)
  obtain ⟨d, hd4, hdc⟩ := hs p1 hp1
  obtain ⟨x, hx4, hxc⟩ := hs p2 hp2
  obtain ⟨s, hs4, hsc⟩ := hs p3 hp3
  clear hs
  have h10 : (0 : Int) ≤ (p1 : Int) := by omega
  have h11 : (p1 : Int) < (np : Int) := by omega
  have h20 : (0 : Int) ≤ (p2 : Int) := by omega
  have h21 : (p2 : Int) < (np : Int) := by omega
  have h30 : (0 : Int) ≤ (p3 : Int) := by omega
  have h31 : (p3 : Int) < (np : Int) := by omega
  have HP1' := Lib.hid HP1
  have HP2' := Lib.hid HP2
  have HP3' := Lib.hid HP3
  clear HP1 HP2 HP3
  have hdm : d.size ≤ maxLen := by unfold maxLen; omega
  have hxm : x.size ≤ maxLen := by unfold maxLen; omega
  have hsm : s.size ≤ maxLen := by unfold maxLen; omega
  go_upto_region 2 with fail
  go_cut [10, 11, 12] (fun s10 s11 s12 wx => s10 = .string d ∧ s11 = .string x ∧ s12 = .string s ∧ ∃ q, wx = w4.drewN q)
  case first =>
    go_quiet ((first
      | (go_at_call 5; with_reducible exact Calls.quiet_of_same (HP1'.out _))
      | (go_at_call 5; with_reducible exact Calls.quiet_of_same (HP2'.out _))
      | (go_at_call 5; with_reducible exact Calls.quiet_of_same (HP3'.out _))))
    go_wp2_with fail
    go_meet
    exact ⟨rfl, rfl, rfl, _, rfl⟩
  case rest =>
    obtain ⟨rfl, rfl, rfl, q, hq⟩ := hcut
    have HB5 : Hid (Below w.heap.size w wc) := by unfold Hid; rw [hq]; exact below_drewN HB.out _
    clear hq hdc hxc hsc
    have C1 := Lib.hid fun W => cmp_val ⟨#[97]⟩ ⟨#[97, 47, 98]⟩ (-1) (by decide) (by decide) (by decide) W
    have C2 := Lib.hid fun W => cmp_val ⟨#[97, 47, 98]⟩ ⟨#[97, 33]⟩ (-1) (by decide) (by decide) (by decide) W
    obtain ⟨b1, hb1⟩ : ∃ b, inB s.data.toList d.data.toList = b := ⟨_, rfl⟩
    obtain ⟨c1, hc1⟩ : ∃ c, pcmp d.data.toList s.data.toList = c := ⟨_, rfl⟩
    obtain ⟨c2, hc2⟩ : ∃ c, pcmp d.data.toList x.data.toList = c := ⟨_, rfl⟩
    obtain ⟨c3, hc3⟩ : ∃ c, pcmp x.data.toList s.data.toList = c := ⟨_, rfl⟩
    obtain ⟨b2, hb2⟩ : ∃ b, inB x.data.toList d.data.toList = b := ⟨_, rfl⟩
    have I1 := Lib.hid fun W => in_val s d b1 hb1 hsm hdm W
    have I2 := Lib.hid fun W => in_val x d b2 hb2 hxm hdm W
    have C3 := Lib.hid fun W => cmp_val d s c1 hc1 hdm hsm W
    have C4 := Lib.hid fun W => cmp_val d x c2 hc2 hdm hxm W
    have C5 := Lib.hid fun W => cmp_val x s c3 hc3 hxm hsm W
    have K1 : Hid (b1 = true → c1 < 0) := fun h => by rw [← hc1]; exact pcmp_in (hb1.trans h)
    have K2 : Hid (b1 = true → c2 < 0 → c3 < 0 → b2 = true) := fun h h2 h3 => by
      rw [← hb2]; exact between (hb1.trans h) (by rw [hc2]; exact h2) (by rw [hc3]; exact h3)
    clear hb1 hc1 hc2 hc3 hb2
    go_wp2_with fail
    refine (C1.out _).mono ?_; rintro e w5 ⟨rfl, q1, hw5⟩
    have HB6 : Hid (Below w.heap.size w w5) := by unfold Hid; rw [hw5]; exact below_drewN HB5.out _
    clear hw5
    go_wp2_with fail
    refine (C2.out _).mono ?_; rintro e w6 ⟨rfl, q2, hw6⟩
    have HB7 : Hid (Below w.heap.size w w6) := by unfold Hid; rw [hw6]; exact below_drewN HB6.out _
    clear hw6
    go_wp2_with fail
    refine (I1.out _).mono ?_; rintro e w' ⟨rfl, rfl⟩
    cases b1
    · go_wp2_with fail
      refine (I1.out _).mono ?_; rintro e w' ⟨rfl, rfl⟩
      go_wp2_with fail
      go_ret
      exact ⟨rfl, HB7.out⟩
    · have k1 := K1.out rfl
      go_wp2_with fail
      refine (C3.out _).mono ?_; rintro e w8 ⟨rfl, q3, hw8⟩
      have HB8 : Hid (Below w.heap.size w w8) := by unfold Hid; rw [hw8]; exact below_drewN HB7.out _
      clear hw8
      go_wp2_with fail
      refine (I1.out _).mono ?_; rintro e w' ⟨rfl, rfl⟩
      go_wp2_with fail
      refine (C4.out _).mono ?_; rintro e w9 ⟨rfl, q4, hw9⟩
      have HB9 : Hid (Below w.heap.size w w9) := by unfold Hid; rw [hw9]; exact below_drewN HB8.out _
      clear hw9
      by_cases h2 : c2 < 0
      · go_wp2_with fail
        refine (C5.out _).mono ?_; rintro e w10 ⟨rfl, q5, hw10⟩
        have HB10 : Hid (Below w.heap.size w w10) := by unfold Hid; rw [hw10]; exact below_drewN HB9.out _
        clear hw10
        by_cases h3 : c3 < 0
        · obtain rfl := K2.out (by trivial) h2 h3
          go_wp2_with fail
          refine (I2.out _).mono ?_; rintro e w' ⟨rfl, rfl⟩
          go_wp2_with fail
          go_ret
          exact ⟨rfl, HB10.out⟩
        · go_wp2_with fail
          go_ret
          exact ⟨rfl, HB10.out⟩
      · go_wp2_with fail
        go_ret
        exact ⟨rfl, HB9.out⟩
end Go.Proofs.YtceaaadnemmalaaDoor
