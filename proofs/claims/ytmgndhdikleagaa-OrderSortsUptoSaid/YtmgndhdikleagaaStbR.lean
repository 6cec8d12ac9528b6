/- Sorting in place: by insertion. -/
import Derived.Test.YtmgndhdikleagaaStbQ
set_option linter.unusedVariables false
set_option maxRecDepth 100000
namespace Go.Proofs.Ytmgndhdikleagaa
open Go.RowKit Go.Shelf Go.Lib
open Go.OpenShut
open Go.Sort (grow grow_empty)
variable {P : Program} {k c : Nat} {ok : NodP → Prop} {w0 W : World} {B g n cap : Nat} {xs0 xs : List NodP} {T : List NodeV}
theorem sorts_short {t : List NodeV} (h : t.length ≤ 1) : Sorts t := by
  match t, h with
  | [], _ => exact List.Pairwise.nil
  | [x], _ => exact List.pairwise_singleton _ _
/-- a part of a list sorted -/
def srt (T : List NodeV) (a b : Nat) : List NodeV := puts T a b (sortT (rng T a b))
theorem srt_len (T : List NodeV) (a b : Nat) (hab : a ≤ b) (hb : b ≤ T.length) : (srt T a b).length = T.length := by
  unfold srt
  exact puts_len hab hb (by rw [sortT_len, rng_len T a b hb])
theorem srt_short (T : List NodeV) (a b : Nat) (hab : a ≤ b) (hb : b ≤ T.length) (h : b ≤ a + 1) : srt T a b = T := by
  unfold srt
  rw [sortT_sorted (sorts_short (by rw [rng_len T a b hb]; omega)), puts_self T a b hab]
theorem srt_parts (T : List NodeV) (a i : Nat) (hai : a ≤ i) (hi : i < T.length) : ∃ Z S x, Sorts Z ∧ Z.length = i - a ∧ srt T a i = T.take a ++ Z ++ x :: S ∧ srt T a (i + 1) = T.take a ++ sortT (Z ++ [x]) ++ S ∧ (T.take a).length = a := by
  refine ⟨sortT (rng T a i), T.drop (i + 1), T[i], (sortT_both _).1, by rw [sortT_len, rng_len T a i (by omega)], ?_, ?_, by rw [List.length_take]; omega⟩
  · unfold srt puts
    rw [List.drop_eq_getElem_cons hi]
  · unfold srt puts
    have h1 : rng T a (i + 1) = rng T a i ++ [T[i]] := by
      unfold rng
      rw [List.take_succ_eq_append_getElem hi, List.drop_append_of_le_length (by rw [List.length_take]; omega)]
    rw [h1, sortT_snoc, sortT_snoc, sortT_sorted (sortT_both _).1]
set_option maxHeartbeats 8000000 in
theorem insertion_any (L : StbL P k c ok) (hok : ∀ y ∈ xs0, ok y) (hn : n ≤ 1000000000000000) (a b : Nat) (hab : a ≤ b) (hbn : b ≤ n) (T : List NodeV) (w : World) (h : SrtT w0 B g n cap xs0 T w) :
    Calls P 23 #[.slice (some ⟨g, 0, none⟩) n cap, .int .i64 a, .int .i64 b, .func (.func c) #[] #[]] w fun e w' => e = .returned (.tuple #[]) ∧ SrtT w0 B g n cap xs0 (srt T a b) w' := by
  have mixed := L.mixed; have t0 := L.t0; have a0 := L.a0; have z0 := L.z0; have v0 := L.v0; have t3 := L.t3; have a3 := L.a3; have z3 := L.z3; have v3 := L.v3; have t4 := L.t4; have a4 := L.a4; have z4 := L.z4; have v4 := L.v4; have t22 := L.t22; have a22 := L.a22; have z22 := L.z22; have v22 := L.v22; have t25 := L.t25; have a25 := L.a25; have z25 := L.z25; have v25 := L.v25; have aE := L.aE; have zE := L.zE
  have u22 := run_underlying L.t22
  have eg := L.eg
  have hTn := h.len
  have HL : Aside _ := L
  have HOK := Lib.hid hok
  have HTN := Lib.hid hTn
  have H0 : Hid (SrtT w0 B g n cap xs0 (srt T a (min (a + 1) b)) w) := by
    unfold Hid
    rw [srt_short T a _ (by omega) (by omega) (by omega)]; exact h
  clear h hok hTn
  go_enter L.fins, Try.ntmps23
  go_wp2
  go_loopw [8] (fun iv wr => ∃ i : Nat, iv = .int .i64 i ∧ a < i ∧ i ≤ n + 1 ∧ (i ≤ b ∨ i = a + 1) ∧ Hid (SrtT w0 B g n cap xs0 (srt T a (min i b)) wr)) (fun iv _ => b - (intOf iv).toNat)
  case atStart => exact ⟨a + 1, by go_num, by omega, by omega, .inr rfl, H0.out⟩
  case round =>
    obtain ⟨i, rfl, hai, hin1, hib, HI⟩ := hrel
    by_cases hlt : i < b
    · obtain ⟨wo, hwo⟩ : ∃ wo, wo = wr := ⟨_, rfl⟩
      subst hwo
      obtain ⟨Z, S, x, hZs, hZl, hsi, hsi1, hPl⟩ := srt_parts T a i (by omega) (by have := HTN.out; omega)
      have e1 : min i b = i := by omega
      have e2 : min (i + 1) b = i + 1 := by omega
      have HI0 : Hid (SrtT w0 B g n cap xs0 (mvR (T.take a) x Z S (i - a)) wo) := by
        have h1 := HI.out
        rw [e1, hsi] at h1
        unfold Hid
        rw [mvR_all _ _ _ _ hZl]
        simpa only [List.append_assoc, List.singleton_append] using h1
      have HEnd : Hid (∀ q, q ≤ i - a → (∀ j (hj : j < Z.length), j + 1 = q → pcmp Z[j].path x.path ≤ 0) → (∀ z ∈ Z.drop q, pcmp x.path z.path < 0) → mvR (T.take a) x Z S q = srt T a (min (i + 1) b)) := fun q hq h1 h2 => by
        rw [e2, hsi1, ins_left hZs x q (by omega) h1 h2]
        unfold mvR
        simp only [List.append_assoc, List.cons_append]
      obtain ⟨Pf, hPf⟩ : ∃ Pf, Pf = T.take a := ⟨_, rfl⟩
      rw [← hPf] at HI0 HEnd hPl
      have HPl := Lib.hid hPl
      have HZl := Lib.hid hZl
      have hin : i < n := by omega
      clear hsi hsi1 hPf e1 e2 HI H0 hPl hZl hZs HTN hib
      go_wp2
      go_loopw [9] (fun jv wr => ∃ (j q : Nat), jv = .int .i64 j ∧ j = a + q ∧ q ≤ i - a ∧ Hid (SrtT w0 B g n cap xs0 (mvR Pf x Z S q) wr) ∧ Hid (∀ z ∈ Z.drop q, pcmp x.path z.path < 0)) (fun jv _ => (intOf jv).toNat)
      case atStart => exact ⟨i, i - a, rfl, by omega, Nat.le_refl _, HI0.out, fun z hz => by
        rw [List.drop_eq_nil_of_le (by have := HZl.out; omega)] at hz; cases hz⟩
      case round =>
        obtain ⟨j, q, rfl, hjq, hqi, HJ, HD⟩ := hrel
        by_cases hq0 : 0 < q
        · obtain ⟨p, hp⟩ : ∃ p, q = p + 1 := ⟨q - 1, by omega⟩
          obtain ⟨jp, hjp⟩ : ∃ jp, j = jp + 1 := ⟨j - 1, by omega⟩
          obtain ⟨xs, hS, hm⟩ := HJ.out
          have hpZ : p < Z.length := by have := HZl.out; omega
          have hj1 : j < n := by omega
          have hjp1 : jp < n := by omega
          obtain ⟨cI, cJ, l1, l2, hc, HG⟩ := hS.test HL HOK.out j jp hj1 hjp1
          have ex : pa (xs.map (·.1)) j = x.path := by
            have := mvR_at Pf x Z S (k := q) (by omega)
            rw [HPl.out] at this
            rw [hm, hjq]; exact this
          have ez : pa (xs.map (·.1)) jp = Z[p].path := by
            have := mvR_before Pf x Z S (k := p) hpZ
            rw [HPl.out] at this
            rw [hm, show jp = a + p by omega, hp]; exact this
          rw [ex, ez] at hc
          have hja : (j : Int) > (a : Int) := by omega
          have wj : IntKind.i64.wrap ((j : Int) - 1) = (jp : Int) := by rw [IntKind.wrap_i64]; omega
          have HM : Hid (xs.map (·.1) = mvR Pf x Z S q) := hm
          have hp1 : (p : Nat) + 1 = q := hp.symm
          obtain ⟨v, hv⟩ : ∃ v, v = pcmp x.path Z[p].path := ⟨_, rfl⟩
          rw [← hv] at hc
          by_cases hlv : v < 0
          · have HD2 : Hid (∀ z ∈ Z.drop p, pcmp x.path z.path < 0) := fun z hz => by
              rw [List.drop_eq_getElem_cons hpZ] at hz
              rcases List.mem_cons.1 hz with rfl | hz
              · rw [← hv]; exact hlv
              · exact HD.out z (by rw [hp]; exact hz)
            have HSw : Hid (swT (mvR Pf x Z S q) j jp = mvR Pf x Z S p) := by
              have := mvR_left Pf x Z S hpZ
              rw [HPl.out] at this
              unfold Hid
              rw [hp, hjq, show jp = a + p by omega, hp, show a + (p + 1) = a + p + 1 by omega]; exact this
            have hjq2 : Hid (jp = a + p) := by unfold Hid; omega
            have hpq2 : p ≤ i - a := by omega
            have hjlt : jp < j := by omega
            clear hS hm ex ez hv hpZ hjp hjq hp hp1 HJ HD hqi
            go_wp2_with fail
            go_quiet_grown (first | (go_at_fn c; refine Calls.grown_of (hc _ _)))
            have h2 := HG.out nq osq
            clear l1 l2 hc HG
            go_wp2_with fail
            generalize grow (wr.drewN nq) osq = wr2 at h2 ⊢
            obtain ⟨cI2, cJ2, k1, k2, l1, l2, s1, s2, HX⟩ := h2.exch HL HOK.out j jp hj1 hjp1
            have HT : Hid (SrtT w0 B g n cap xs0 (mvR Pf x Z S p) ((wr2.drew.setCells g (j * k) cJ2).setCells g (jp * k) cI2)) := ⟨_, HX.out, by rw [swX_map, HM.out, HSw.out]⟩
            clear h2 HX HM HSw
            go_big_region_o
            all_goals go_wp2
            go_roundw
            case rel => exact ⟨jp, p, by go_num, hjq2.out, hpq2, HT, HD2⟩
            case measure => simp [intOf]; omega
          · have HOut : Hid (SrtT w0 B g n cap xs0 (srt T a (min (i + 1) b)) (grow (wr.drewN 0) #[]) → True) := fun _ => trivial
            have HT : Hid (∀ q os, SrtT w0 B g n cap xs0 (srt T a (min (i + 1) b)) (grow (wr.drewN q) os)) := fun q' os => by
              refine ⟨xs, HG.out q' os, ?_⟩
              rw [hm]
              refine HEnd.out q hqi (fun j' hj' e => ?_) HD.out
              obtain rfl : j' = p := by omega
              have := pcmp_neg x.path (Z[j']'hj').path
              have h3 : ¬ pcmp x.path (Z[j']'hj').path < 0 := by rw [← hv]; exact hlv
              omega
            clear hS hm ex ez hv hpZ hjp hjq hp hp1 HJ HD hqi HOut HG
            go_wp2_with fail
            go_quiet_grown (first | (go_at_fn c; refine Calls.grown_of (hc _ _)))
            have h2 := Lib.hid (HT.out nq osq)
            clear l1 l2 hc HT
            go_wp2
            go_roundw
            case rel => exact ⟨i + 1, by go_num, by omega, by omega, .inl (by omega), h2⟩
            case measure => simp [intOf]; omega
        · obtain rfl : q = 0 := by omega
          have hja : decide ((j : Int) > (a : Int)) = false := decide_eq_false (by omega)
          have hja' : ¬ (a : Int) < (j : Int) := by omega
          have hja2 : ¬ a < j := by omega
          have HT : Hid (∀ W, SrtT w0 B g n cap xs0 (mvR Pf x Z S 0) W → SrtT w0 B g n cap xs0 (srt T a (min (i + 1) b)) W.drew) := fun W hW => by
            obtain ⟨xs, h1, h2⟩ := hW
            refine ⟨xs, h1.drew, ?_⟩
            rw [h2]
            exact HEnd.out 0 (Nat.zero_le _) (fun j' _ e => by omega) HD.out
          have h2 := Lib.hid (HT.out wr HJ.out)
          clear hjq HJ HD HT hqi
          go_wp2_with fail
          go_big_region_o
          all_goals go_wp2
          go_roundw
          case rel => exact ⟨i + 1, by go_num, by omega, by omega, .inl (by omega), h2⟩
          case measure => simp [intOf]; omega
    · have hf := HI.out
      have e : srt T a (min i b) = srt T a b := by
        by_cases h : i ≤ b
        · rw [show min i b = b by omega]
        · rw [show min i b = b by omega]
      rw [e] at hf
      have HF := Lib.hid hf
      clear hf e
      go_wp2
      go_end0
      exact ⟨rfl, HF.out⟩
end Go.Proofs.Ytmgndhdikleagaa
