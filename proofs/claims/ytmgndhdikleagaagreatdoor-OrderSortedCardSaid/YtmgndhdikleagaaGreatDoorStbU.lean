/- Sorting in place: merging two sorted parts. -/
import Derived.Test.YtmgndhdikleagaaGreatDoorStb
import Derived.Deep.DeepCutAuto
set_option linter.unusedVariables false
set_option maxRecDepth 100000
namespace Go.Proofs.YtmgndhdikleagaaGreatDoor
open Go.RowKit Go.Shelf Go.Lib
open Go.OpenShut
open Go.Sort (grow grow_empty)
variable {P : Program} {k c : Nat} {ok : NodP → Prop} {w0 W : World} {B g n cap : Nat} {xs0 xs : List NodP} {T : List NodeV}
/-- two neighbours change places where one of them is empty, too -/
theorem two_nil {X Y : List NodeV} (h : ¬ (0 < X.length ∧ 0 < Y.length)) : X ++ Y = Y ++ X := by
  by_cases hx : X = []
  · subst hx; simp
  · have := List.length_pos_iff.2 hx
    have : Y = [] := List.eq_nil_of_length_eq_zero (by omega)
    subst this; simp
theorem sort_nil {X Y : List NodeV} (hX : Sorts X) (hY : Sorts Y) (h : ¬ (0 < X.length ∧ 0 < Y.length)) : sortT (X ++ Y) = X ++ Y := by
  by_cases hx : X = []
  · subst hx; rw [List.nil_append]; exact sortT_sorted hY
  · have := List.length_pos_iff.2 hx
    have : Y = [] := List.eq_nil_of_length_eq_zero (by omega)
    subst this; rw [List.append_nil]; exact sortT_sorted hX
/-- what is left to do behind the search -/
def SymE (a m b mid s e : Nat) (X1 X2 Y1 Y2 Pf S : List NodeV) : Prop :=
  Pf.length = a ∧ X1.length = s - a ∧ X2.length = m - s ∧ Y1.length = e - m ∧ Y2.length = b - e ∧ Sorts X1 ∧ Sorts X2 ∧ Sorts Y1 ∧ Sorts Y2
theorem srt_in {T Pf M S : List NodeV} {a b : Nat} (h : T = Pf ++ M ++ S) (ha : Pf.length = a) (hb : Pf.length + M.length = b) : srt T a b = Pf ++ sortT M ++ S := by
  unfold srt
  rw [rng_eq h ha hb, puts_of h ha hb]
theorem sym_fin {T Pf X1 X2 Y1 Y2 S : List NodeV} {a m b s e mid : Nat} (hT : T = Pf ++ X1 ++ X2 ++ Y1 ++ Y2 ++ S) (hPf : Pf.length = a) (g1 : a ≤ s) (g2 : s ≤ m) (g3 : s ≤ mid) (g4 : m ≤ e) (g5 : mid ≤ e) (g6 : e ≤ b) (he : e = mid + m - s)
    (x1 : X1.length = s - a) (x2 : X2.length = m - s) (y1 : Y1.length = e - m) (y2 : Y2.length = b - e) (sX1 : Sorts X1) (sX2 : Sorts X2) (sY1 : Sorts Y1) (sY2 : Sorts Y2) (hsrt : sortT (rng T a b) = sortT (X1 ++ Y1) ++ sortT (X2 ++ Y2)) :
    ∃ T1 T2 U, T = U ++ X2 ++ Y1 ++ (Y2 ++ S) ∧ U.length = s ∧ T1 = U ++ Y1 ++ X2 ++ (Y2 ++ S) ∧ (¬ (s < m ∧ m < e) → T = T1) ∧ Sorts (rng T1 a s) ∧ Sorts (rng T1 s mid) ∧ srt T1 a mid = T2 ∧ (¬ (a < s ∧ s < mid) → T1 = T2) ∧ Sorts (rng T2 mid e) ∧ Sorts (rng T2 e b) ∧ srt T2 mid b = srt T a b ∧ (¬ (mid < e ∧ e < b) → T2 = srt T a b) := by
  have hl1 : (sortT (X1 ++ Y1)).length = mid - a := by rw [sortT_len, List.length_append]; omega
  have hE : srt T a b = Pf ++ (sortT (X1 ++ Y1) ++ sortT (X2 ++ Y2)) ++ S := by
    have h1 : T = Pf ++ (X1 ++ X2 ++ Y1 ++ Y2) ++ S := by rw [hT]; simp only [List.append_assoc]
    have h2 := rng_eq h1 hPf (show Pf.length + (X1 ++ X2 ++ Y1 ++ Y2).length = b by simp only [List.length_append]; omega)
    unfold srt
    rw [hsrt, puts_of h1 hPf (by simp only [List.length_append]; omega)]
  have k1 : rng (Pf ++ X1 ++ Y1 ++ X2 ++ (Y2 ++ S)) a s = X1 := rng_eq (P := Pf) (S := Y1 ++ X2 ++ (Y2 ++ S)) (by simp only [List.append_assoc]) hPf (by omega)
  have k2 : rng (Pf ++ X1 ++ Y1 ++ X2 ++ (Y2 ++ S)) s mid = Y1 := rng_eq (P := Pf ++ X1) (S := X2 ++ (Y2 ++ S)) (by simp only [List.append_assoc]) (by rw [List.length_append]; omega) (by rw [List.length_append]; omega)
  have k3 : srt (Pf ++ X1 ++ Y1 ++ X2 ++ (Y2 ++ S)) a mid = Pf ++ sortT (X1 ++ Y1) ++ (X2 ++ (Y2 ++ S)) := srt_in (by simp only [List.append_assoc]) hPf (by rw [List.length_append]; omega)
  have k4 : rng (Pf ++ sortT (X1 ++ Y1) ++ (X2 ++ (Y2 ++ S))) mid e = X2 := rng_eq (P := Pf ++ sortT (X1 ++ Y1)) (S := Y2 ++ S) (by simp only [List.append_assoc]) (by rw [List.length_append, hl1]; omega) (by rw [List.length_append, hl1]; omega)
  have k5 : rng (Pf ++ sortT (X1 ++ Y1) ++ (X2 ++ (Y2 ++ S))) e b = Y2 := rng_eq (P := Pf ++ sortT (X1 ++ Y1) ++ X2) (S := S) (by simp only [List.append_assoc]) (by rw [List.length_append, List.length_append, hl1]; omega) (by rw [List.length_append, List.length_append, hl1]; omega)
  have k6 : srt (Pf ++ sortT (X1 ++ Y1) ++ (X2 ++ (Y2 ++ S))) mid b = srt T a b := by
    rw [hE, srt_in (Pf := Pf ++ sortT (X1 ++ Y1)) (M := X2 ++ Y2) (S := S) (by simp only [List.append_assoc]) (by rw [List.length_append, hl1]; omega) (by rw [List.length_append, List.length_append, hl1]; omega)]
    simp only [List.append_assoc]
  refine ⟨_, _, Pf ++ X1, by rw [hT]; simp only [List.append_assoc], by rw [List.length_append]; omega, rfl, fun h => ?_, by rw [k1]; exact sX1, by rw [k2]; exact sY1, k3, fun h => ?_, by rw [k4]; exact sX2, by rw [k5]; exact sY2, k6, fun h => ?_⟩
  · have := two_nil (X := X2) (Y := Y1) (by omega)
    rw [hT, List.append_assoc (Pf ++ X1) X2 Y1, this]
    simp only [List.append_assoc]
  · rw [sort_nil sX1 sY1 (by omega)]
    simp only [List.append_assoc]
  · rw [hE, sort_nil sX2 sY2 (by omega)]
    simp only [List.append_assoc]
set_option maxHeartbeats 16000000 in
theorem symMerge_two (L : StbL P k c ok) (hok : ∀ y ∈ xs0, ok y) (hn : n ≤ 1000000000000000) (a m b : Nat) (ham : a + 1 < m) (hmb : m + 1 < b) (hbn : b ≤ n) (T : List NodeV) (hsX : Sorts (rng T a m)) (hsY : Sorts (rng T m b))
    (IH : ∀ a' m' b', b' - a' < b - a → a' < m' → m' < b' → b' ≤ n → ∀ T', Sorts (rng T' a' m') → Sorts (rng T' m' b') → ∀ W, SrtT w0 B g n cap xs0 T' W → Calls P 105 #[.slice (some ⟨g, 0, none⟩) n cap, .int .i64 a', .int .i64 m', .int .i64 b', .func (.func c) #[] #[]] W fun e w' => e = .returned (.tuple #[]) ∧ SrtT w0 B g n cap xs0 (srt T' a' b') w')
    (w : World) (h : SrtT w0 B g n cap xs0 T w) :
    Calls P 105 #[.slice (some ⟨g, 0, none⟩) n cap, .int .i64 a, .int .i64 m, .int .i64 b, .func (.func c) #[] #[]] w fun e w' => e = .returned (.tuple #[]) ∧ SrtT w0 B g n cap xs0 (srt T a b) w' := by
  have mixed := L.mixed; have t0 := L.t0; have a0 := L.a0; have z0 := L.z0; have v0 := L.v0; have t3 := L.t3; have a3 := L.a3; have z3 := L.z3; have v3 := L.v3; have t4 := L.t4; have a4 := L.a4; have z4 := L.z4; have v4 := L.v4; have t22 := L.t22; have a22 := L.a22; have z22 := L.z22; have v22 := L.v22; have t25 := L.t25; have a25 := L.a25; have z25 := L.z25; have v25 := L.v25; have aE := L.aE; have zE := L.zE; have tu := L.tu; have au := L.au; have zu := L.zu; have vu := L.vu
  have u22 := run_underlying L.t22
  have uu := run_underlying L.tu
  have u3 := run_underlying L.t3
  have eg := L.eg
  have e28 : ∀ args w, (callFunc 124 args).run P w = .ok (.enter 124 args) w := enters_of L.frot (by kernel_rfl) rfl
  have e24 : ∀ args w, (callFunc 105 args).run P w = .ok (.enter 105 args) w := enters_of L.fsym (by kernel_rfl) rfl
  have hTn := h.len
  have HL : Aside _ := L
  have HOK := Lib.hid hok
  have HSX := Lib.hid hsX
  have HSY := Lib.hid hsY
  have HTN := Lib.hid hTn
  have HIH : Aside _ := IH
  have H0 := Lib.hid h
  have HAM : Hid (a + 1 < m) := ham
  have HMB : Hid (m + 1 < b) := hmb
  obtain ⟨d1, hd1⟩ : ∃ d1, d1 = m - a := ⟨_, rfl⟩
  obtain ⟨d2, hd2⟩ : ∃ d2, d2 = b - m := ⟨_, rfl⟩
  obtain ⟨s0, hs0⟩ : ∃ s0, s0 = a + b := ⟨_, rfl⟩
  obtain ⟨mid, hmid⟩ : ∃ mid, mid = (a + b) / 2 := ⟨_, rfl⟩
  obtain ⟨nn, hnn⟩ : ∃ nn, nn = mid + m := ⟨_, rfl⟩
  obtain ⟨p, hp⟩ : ∃ p, p = nn - 1 := ⟨_, rfl⟩
  have q1 : IntKind.i64.wrap ((m : Int) - (a : Int)) = (d1 : Int) := by rw [IntKind.wrap_i64]; omega
  have q2 : ((d1 : Int) == 1) = false := by simp; omega
  have q3 : ¬ (d1 : Int) = 1 := by omega
  have q4 : IntKind.i64.wrap ((b : Int) - (m : Int)) = (d2 : Int) := by rw [IntKind.wrap_i64]; omega
  have q5 : ((d2 : Int) == 1) = false := by simp; omega
  have q6 : ¬ (d2 : Int) = 1 := by omega
  have wS : IntKind.i64.wrap ((a : Int) + (b : Int)) = (s0 : Int) := by rw [IntKind.wrap_i64]; omega
  have wU : IntKind.u64.wrap (s0 : Int) = (s0 : Int) := by rw [IntKind.wrap_u64]; omega
  have hH2 : (s0 : Int) / 2 = (mid : Int) := by omega
  have hs2 : s0 ≤ 2000000000000000 := by omega
  have wN : IntKind.i64.wrap ((mid : Int) + (m : Int)) = (nn : Int) := by rw [IntKind.wrap_i64]; omega
  have wP : IntKind.i64.wrap ((nn : Int) - 1) = (p : Int) := by rw [IntKind.wrap_i64]; omega
  have HMid := Lib.hid hmid
  have HNN := Lib.hid hnn
  have HP := Lib.hid hp
  have hLo : (if mid < m then nn - b else a) ≤ (if mid < m then mid else m) := by split <;> omega
  have hLo2 : Hid ((if mid < m then mid else m) < n ∧ (if mid < m then mid else m) ≤ p ∧ p < n + n ∧ (∀ cc, (if mid < m then nn - b else a) ≤ cc → cc < (if mid < m then mid else m) → p - cc < n)) := by
    unfold Hid
    refine ⟨by split <;> omega, by split <;> omega, by omega, fun cc h1 h2 => ?_⟩
    split at h1 <;> split at h2 <;> omega
  obtain ⟨lo, hlo⟩ : ∃ lo, lo = if mid < m then nn - b else a := ⟨_, rfl⟩
  obtain ⟨hi, hhi⟩ : ∃ hi, hi = if mid < m then mid else m := ⟨_, rfl⟩
  have HLo := Lib.hid hlo
  have HHi := Lib.hid hhi
  rw [← hlo, ← hhi] at hLo hLo2
  clear h hok hTn hsX hsY IH ham hmb hd1 hd2 hs0
  go_enter L.fsym, Tryz.ntmps105
  have HA2 : Hid (((a : Int) + (b : Int)) / 2 = (mid : Int)) := by unfold Hid; omega
  have HN2 : Hid (wrap64 ((mid : Int) + (m : Int)) = (nn : Int)) := by unfold Hid; have := HAM.out; have := HMB.out; simp only [wrap64]; omega
  go_upto_region 27 with fail
  rw [HA2.out]
  rw [HN2.out]
  clear HA2 HN2
  obtain ⟨bb, hbb⟩ : ∃ bb : Bool, bb = decide (mid < m) := ⟨_, rfl⟩
  go_cut [140] (fun sv wx => sv = .bool bb ∧ Hid (SrtT w0 B g n cap xs0 T wx))
  case first => as_aux_lemma =>
    clear hlo hhi hLo hLo2 hmid hnn hp
    by_cases hmm : mid < m
    · have hgt : (m : Int) > (mid : Int) := by omega
      rw [decide_eq_true hmm] at hbb
      subst hbb
      go_wp2_with fail
      go_meet
      exact ⟨rfl, H0.out⟩
    · have hgt : ¬ (m : Int) > (mid : Int) := by omega
      rw [decide_eq_false hmm] at hbb
      subst hbb
      go_wp2_with fail
      go_meet
      exact ⟨rfl, H0.out⟩
  case rest =>
  obtain ⟨rfl, HC1⟩ := hcut
  clear H0
  go_upto_if 140 with fail
  go_cut [20, 21] (fun sv rv wx => sv = .int .i64 lo ∧ rv = .int .i64 hi ∧ Hid (SrtT w0 B g n cap xs0 T wx))
  case first => as_aux_lemma =>
    by_cases hmm : mid < m
    · have wB : IntKind.i64.wrap ((nn : Int) - (b : Int)) = (lo : Int) := by rw [IntKind.wrap_i64, hlo, if_pos hmm]; have := HMB.out; have := HAM.out; omega
      have HV : Hid ((mid : Int) = (hi : Int)) := by unfold Hid; rw [hhi, if_pos hmm]
      rw [decide_eq_true hmm] at hbb
      subst hbb
      clear hlo hhi hLo hLo2 hmid hnn hp
      go_wp2_with fail
      go_meet
      exact ⟨rfl, by rw [HV.out], HC1.out⟩
    · have HV : Hid ((m : Int) = (hi : Int)) := by unfold Hid; rw [hhi, if_neg hmm]
      have HV2 : Hid ((a : Int) = (lo : Int)) := by unfold Hid; rw [hlo, if_neg hmm]
      rw [decide_eq_false hmm] at hbb
      subst hbb
      clear hlo hhi hLo hLo2 hmid hnn hp
      go_wp2_with fail
      go_meet
      exact ⟨by rw [HV2.out], by rw [HV.out], HC1.out⟩
  case rest =>
    obtain ⟨rfl, rfl, HC2⟩ := hcut
    clear HC1 hbb
    clear hlo hhi hmid hnn hp
    go_wp2
    go_loopw [20, 21] (fun iv jv wr => ∃ i j : Nat, iv = .int .i64 i ∧ jv = .int .i64 j ∧ lo ≤ i ∧ i ≤ j ∧ j ≤ hi ∧ Hid (Srch (fun q => !decide (pcmp (pa T ((a + b) / 2 + m - 1 - q)) (pa T q) < 0)) lo hi i j) ∧ Hid (SrtT w0 B g n cap xs0 T wr)) (fun iv jv _ => (intOf jv).toNat - (intOf iv).toNat)
    case atStart => exact ⟨lo, hi, rfl, rfl, Nat.le_refl _, hLo, Nat.le_refl _, Srch.start _ hLo, HC2.out⟩
    case round =>
      obtain ⟨i, j, rfl, rfl, hmi, hij, hjb, HSr, HT⟩ := hrel
      by_cases hlt : i < j
      · obtain ⟨h, hh⟩ : ∃ h, h = (i + j) / 2 := ⟨_, rfl⟩
        have hih : i ≤ h := by omega
        have hhj : h < j := by omega
        obtain ⟨l1, l2, l3, l4⟩ := hLo2.out
        have hhn : h < n := by omega
        have hjn : j < n + 1 := by omega
        obtain ⟨pq, hpq⟩ : ∃ pq, pq = p - h := ⟨_, rfl⟩
        have hpn : pq < n := by rw [hpq]; exact l4 h (by omega) (by omega)
        have wQ : IntKind.i64.wrap ((p : Int) - (h : Int)) = (pq : Int) := by rw [IntKind.wrap_i64]; omega
        obtain ⟨xs, hS, hm⟩ := HT.out
        obtain ⟨cI, cJ, e1, e2, hc, HG⟩ := hS.test HL HOK.out pq h hpn hhn
        rw [hm] at hc
        have HG2 : Hid (∀ q os, SrtT w0 B g n cap xs0 T (grow (wr.drewN q) os)) := fun q os => ⟨xs, HG.out q os, hm⟩
        obtain ⟨v, hv⟩ : ∃ v, v = pcmp (pa T pq) (pa T h) := ⟨_, rfl⟩
        rw [← hv] at hc
        have hpe : pq = (a + b) / 2 + m - 1 - h := by rw [hpq, HP.out, HNN.out, HMid.out]
        have HUp : Hid (¬ v < 0 → Srch (fun q => !decide (pcmp (pa T ((a + b) / 2 + m - 1 - q)) (pa T q) < 0)) lo hi (h + 1) j) := fun hl => HSr.out.up hih hhj (by simp only [← hpe, ← hv]; rw [decide_eq_false hl]; rfl)
        have HDn : Hid (v < 0 → Srch (fun q => !decide (pcmp (pa T ((a + b) / 2 + m - 1 - q)) (pa T q) < 0)) lo hi i h) := fun hl => HSr.out.down hih hhj (by simp only [← hpe, ← hv]; rw [decide_eq_true hl]; rfl)
        obtain ⟨s, hs⟩ : ∃ s, s = i + j := ⟨_, rfl⟩
        have wS3 : IntKind.i64.wrap ((i : Int) + (j : Int)) = (s : Int) := by rw [IntKind.wrap_i64]; omega
        have wU3 : IntKind.u64.wrap (s : Int) = (s : Int) := by rw [IntKind.wrap_u64]; omega
        have hH3 : (s : Int) / 2 = (h : Int) := by omega
        have hs3 : s ≤ 3000000000000000 := by omega
        clear hS hm hv HG hh HT HSr hs hpq hpe l1 l2 l3 l4 wS wU hH2 hs2 wN wP
        by_cases hlv : v < 0
        · as_aux_lemma =>
            have HU := Lib.hid (HDn.out hlv)
            have hd0 : decide (v < 0) = true := decide_eq_true hlv
            have hd1 : (!decide (v < 0)) = false := by rw [hd0]; rfl
            clear HUp HDn
            go_wp2_with fail
            go_quiet_grown (first | (go_at_fn c; refine Calls.grown_of (hc _ _)))
            have h2 := Lib.hid (HG2.out nq osq)
            clear e1 e2 hc HG2
            go_wp2
            go_roundw
            case rel => exact ⟨i, h, rfl, rfl, hmi, by omega, by omega, HU, h2⟩
            case measure => simp [intOf]; omega
        · as_aux_lemma =>
            have HU := Lib.hid (HUp.out hlv)
            have hd0 : decide (v < 0) = false := decide_eq_false hlv
            have hd1 : (!decide (v < 0)) = true := by rw [hd0]; rfl
            clear HUp HDn
            go_wp2_with fail
            go_quiet_grown (first | (go_at_fn c; refine Calls.grown_of (hc _ _)))
            have h2 := Lib.hid (HG2.out nq osq)
            clear e1 e2 hc HG2
            go_wp2
            go_roundw
            case rel => exact ⟨h + 1, j, by go_num, rfl, by omega, by omega, hjb, HU, h2⟩
            case measure => simp [intOf]; omega
      · obtain rfl : i = j := by omega
        have hlo2 := HLo.out
        have hhi2 := HHi.out
        rw [HNN.out, HMid.out] at hlo2
        rw [HMid.out] at hhi2
        have hsr := HSr.out
        rw [hlo2, hhi2] at hsr
        obtain ⟨Pf, X1, X2, Y1, Y2, S, e, he, hT, hPf, g1, g2, g3, g4, g5, g6, x1, x2, y1, y2, sX1, sX2, sY1, sY2, hsrt⟩ := sym_step (by have := HAM.out; omega) (by have := HMB.out; omega) (by rw [HTN.out]; exact hbn) HSX.out HSY.out hsr
        rw [← HMid.out] at he g3 g5
        obtain ⟨T1, T2, U, hTU, hU, hT1, r1, r2, r3, r4, r5, r6, r7, r8, r9⟩ := sym_fin hT hPf g1 g2 g3 g4 g5 g6 he x1 x2 y1 y2 sX1 sX2 sY1 sY2 hsrt
        have hen : e ≤ n := by omega
        have wE : IntKind.i64.wrap ((nn : Int) - (i : Int)) = (e : Int) := by rw [IntKind.wrap_i64]; have := HNN.out; have := HMid.out; omega
        obtain ⟨b1, hb1⟩ : ∃ b1 : Bool, b1 = (decide (i < m) && decide (m < e)) := ⟨_, rfl⟩
        obtain ⟨b2, hb2⟩ : ∃ b2 : Bool, b2 = (decide (a < i) && decide (i < mid)) := ⟨_, rfl⟩
        obtain ⟨b3, hb3⟩ : ∃ b3 : Bool, b3 = (decide (mid < e) && decide (e < b)) := ⟨_, rfl⟩
        have HCa : Hid (b1 = true → ∀ W, SrtT w0 B g n cap xs0 T W → Calls P 124 #[.slice (some ⟨g, 0, none⟩) n cap, .int .i64 i, .int .i64 m, .int .i64 e, .func (.func c) #[] #[]] W fun e w' => e = .returned (.tuple #[]) ∧ SrtT w0 B g n cap xs0 T1 w') := fun hb W hW => by
          rw [hb1, Bool.and_eq_true, decide_eq_true_eq, decide_eq_true_eq] at hb
          rw [hT1]
          exact rotate_any HL HOK.out hn _ i m e U X2 Y1 (Y2 ++ S) hU (by omega) (by omega) (by omega) (by omega) W (by rw [← hTU]; exact hW)
        have HDa : Hid (b1 = false → T = T1) := fun hb => r1 (by intro h; rw [hb1, decide_eq_true h.1, decide_eq_true h.2] at hb; cases hb)
        have HCb : Hid (b2 = true → ∀ W, SrtT w0 B g n cap xs0 T1 W → Calls P 105 #[.slice (some ⟨g, 0, none⟩) n cap, .int .i64 a, .int .i64 i, .int .i64 mid, .func (.func c) #[] #[]] W fun e w' => e = .returned (.tuple #[]) ∧ SrtT w0 B g n cap xs0 T2 w') := fun hb W hW => by
          rw [hb2, Bool.and_eq_true, decide_eq_true_eq, decide_eq_true_eq] at hb
          rw [← r4]
          exact HIH a i mid (by have := HMid.out; have := HAM.out; have := HMB.out; omega) hb.1 hb.2 (by omega) T1 r2 r3 W hW
        have HDb : Hid (b2 = false → T1 = T2) := fun hb => r5 (by intro h; rw [hb2, decide_eq_true h.1, decide_eq_true h.2] at hb; cases hb)
        have HCc : Hid (b3 = true → ∀ W, SrtT w0 B g n cap xs0 T2 W → Calls P 105 #[.slice (some ⟨g, 0, none⟩) n cap, .int .i64 mid, .int .i64 e, .int .i64 b, .func (.func c) #[] #[]] W fun e w' => e = .returned (.tuple #[]) ∧ SrtT w0 B g n cap xs0 (srt T a b) w') := fun hb W hW => by
          rw [hb3, Bool.and_eq_true, decide_eq_true_eq, decide_eq_true_eq] at hb
          rw [← r8]
          exact HIH mid e b (by have := HMid.out; have := HAM.out; have := HMB.out; omega) hb.1 hb.2 (by omega) T2 r6 r7 W hW
        have HDc : Hid (b3 = false → T2 = srt T a b) := fun hb => r9 (by intro h; rw [hb3, decide_eq_true h.1, decide_eq_true h.2] at hb; cases hb)
        have HTT := HT
        clear hTU hU hT1 r1 r2 r3 r4 r5 r6 r7 r8 r9 hT hPf g1 g2 g3 g4 g5 g6 he x1 x2 y1 y2 sX1 sX2 sY1 sY2 hsrt hlo2 hhi2 hsr HSr HC2 HT wS wU hH2 hs2 wN wP
        obtain ⟨wo, hwo⟩ : ∃ wo, wo = wr := ⟨_, rfl⟩
        subst hwo
        go_upto_region 39 with fail
        go_cut [185] (fun sv wx => sv = .bool b1 ∧ Hid (SrtT w0 B g n cap xs0 T wx))
        case first => as_aux_lemma =>
          clear HCa HCb HCc HDa HDb HDc hb2 hb3
          by_cases h1 : i < m
          · by_cases h2 : m < e
            · rw [decide_eq_true h1, decide_eq_true h2] at hb1
              subst hb1
              go_wp2_with fail
              go_meet
              exact ⟨rfl, HTT.out⟩
            · rw [decide_eq_true h1, decide_eq_false h2] at hb1
              subst hb1
              go_wp2_with fail
              go_meet
              exact ⟨rfl, HTT.out⟩
          · rw [decide_eq_false h1] at hb1
            subst hb1
            go_wp2_with fail
            go_meet
            exact ⟨rfl, HTT.out⟩
        case rest =>
        obtain ⟨rfl, HT1⟩ := hcut
        clear HTT hb1
        go_upto_if 185 with fail
        go_cut [185] (fun sv wx => Hid (SrtT w0 B g n cap xs0 T1 wx))
        case first => as_aux_lemma =>
          clear HCb HCc HDb HDc hb2 hb3
          cases b1 with
          | true =>
            have HC := Lib.hid (HCa.out rfl)
            clear HCa HDa
            go_wp2_with fail
            refine (HC.out _ HT1.out).mono ?_; rintro e w1 ⟨rfl, h1⟩
            have H1 := Lib.hid h1
            clear h1 HC HT1
            go_wp2_with fail
            go_meet
            exact H1.out
          | false =>
            have hT := HT1.out
            rw [HDa.out rfl] at hT
            have HTn := Lib.hid hT
            clear HCa HDa hT HT1
            go_wp2_with fail
            go_meet
            exact HTn.out
        case rest =>
        have HT2 := Lib.hid hcut.out
        clear hcut HT1 HCa HDa
        go_upto_region 41 with fail
        go_cut [199] (fun sv wx => sv = .bool b2 ∧ Hid (SrtT w0 B g n cap xs0 T1 wx))
        case first => as_aux_lemma =>
          clear HCb HCc HDb HDc hb3
          by_cases h1 : a < i
          · by_cases h2 : i < mid
            · rw [decide_eq_true h1, decide_eq_true h2] at hb2
              subst hb2
              go_wp2_with fail
              go_meet
              exact ⟨rfl, HT2.out⟩
            · rw [decide_eq_true h1, decide_eq_false h2] at hb2
              subst hb2
              go_wp2_with fail
              go_meet
              exact ⟨rfl, HT2.out⟩
          · rw [decide_eq_false h1] at hb2
            subst hb2
            go_wp2_with fail
            go_meet
            exact ⟨rfl, HT2.out⟩
        case rest =>
        obtain ⟨rfl, HT3⟩ := hcut
        clear HT2 hb2
        go_upto_if 199 with fail
        go_cut [199] (fun sv wx => Hid (SrtT w0 B g n cap xs0 T2 wx))
        case first => as_aux_lemma =>
          clear HCc HDc hb3
          cases b2 with
          | true =>
            have HC := Lib.hid (HCb.out rfl)
            clear HCb HDb
            go_wp2_with fail
            refine (HC.out _ HT3.out).mono ?_; rintro e w1 ⟨rfl, h1⟩
            have H1 := Lib.hid h1
            clear h1 HC HT3
            go_wp2_with fail
            go_meet
            exact H1.out
          | false =>
            have hT := HT3.out
            rw [HDb.out rfl] at hT
            have HTn := Lib.hid hT
            clear HCb HDb hT HT3
            go_wp2_with fail
            go_meet
            exact HTn.out
        case rest =>
        have HT4 := Lib.hid hcut.out
        clear hcut HT3 HCb HDb
        go_upto_region 43 with fail
        go_cut [213] (fun sv wx => sv = .bool b3 ∧ Hid (SrtT w0 B g n cap xs0 T2 wx))
        case first => as_aux_lemma =>
          clear HCc HDc
          by_cases h1 : mid < e
          · by_cases h2 : e < b
            · rw [decide_eq_true h1, decide_eq_true h2] at hb3
              subst hb3
              go_wp2_with fail
              go_meet
              exact ⟨rfl, HT4.out⟩
            · rw [decide_eq_true h1, decide_eq_false h2] at hb3
              subst hb3
              go_wp2_with fail
              go_meet
              exact ⟨rfl, HT4.out⟩
          · rw [decide_eq_false h1] at hb3
            subst hb3
            go_wp2_with fail
            go_meet
            exact ⟨rfl, HT4.out⟩
        case rest =>
        obtain ⟨rfl, HT5⟩ := hcut
        clear HT4 hb3
        cases b3 with
        | true => as_aux_lemma =>
          have HC := Lib.hid (HCc.out rfl)
          clear HCc HDc
          go_wp2_with fail
          refine (HC.out _ HT5.out).mono ?_; rintro e w1 ⟨rfl, h1⟩
          have H1 := Lib.hid h1
          clear h1 HC HT5
          go_wp2_with fail
          go_end0
          exact ⟨rfl, H1.out⟩
        | false => as_aux_lemma =>
          have hT := HT5.out
          rw [HDc.out rfl] at hT
          have HTn := Lib.hid hT
          clear HCc HDc hT HT5
          go_wp2_with fail
          go_end0
          exact ⟨rfl, HTn.out⟩
end Go.Proofs.YtmgndhdikleagaaGreatDoor
