/- Sorting in place: the whole. -/
import Derived.Test.YtmgndhdikleagaaGreatDoorStbU
set_option linter.unusedVariables false
set_option maxRecDepth 100000
namespace Go.Proofs.YtmgndhdikleagaaGreatDoor
open Go.RowKit Go.Shelf Go.Lib
open Go.OpenShut
open Go.Sort (grow grow_empty)
variable {P : Program} {k c : Nat} {ok : NodP → Prop} {w0 W : World} {B g n cap : Nat} {xs0 xs : List NodP} {T : List NodeV}
theorem symMerge_upto (L : StbL P k c ok) (hok : ∀ y ∈ xs0, ok y) (hn : n ≤ 1000000000000000) : ∀ (d a m b : Nat), b - a ≤ d → a < m → m < b → b ≤ n → ∀ T, Sorts (rng T a m) → Sorts (rng T m b) → ∀ w, SrtT w0 B g n cap xs0 T w →
    Calls P 105 #[.slice (some ⟨g, 0, none⟩) n cap, .int .i64 a, .int .i64 m, .int .i64 b, .func (.func c) #[] #[]] w fun e w' => e = .returned (.tuple #[]) ∧ SrtT w0 B g n cap xs0 (srt T a b) w' := by
  intro d
  induction d with
  | zero => intro a m b h1 h2 h3; omega
  | succ d ih =>
    intro a m b h1 h2 h3 h4 T hX hY w h
    by_cases e1 : m = a + 1
    · exact symMerge_one L hok hn a m b e1 h3 h4 T hY w h
    · by_cases e2 : b = m + 1
      · exact symMerge_last L hok hn a m b (by omega) e2 h4 T hX w h
      · exact symMerge_two L hok hn a m b (by omega) (by omega) h4 T hX hY (fun a' m' b' k1 k2 k3 k4 T' kX kY W hW => ih a' m' b' (by omega) k2 k3 k4 T' kX kY W hW) w h
/-- up to u, the parts of s nodes are sorted -/
def SB (s u : Nat) (T : List NodeV) : Prop := ∀ j, j * s < u → Sorts (rng T (j * s) (min (j * s + s) u))
/-- from u on, the parts of s nodes are sorted -/
def SR (s u n : Nat) (T : List NodeV) : Prop := ∀ j, u ≤ j * s → j * s < n → Sorts (rng T (j * s) (min (j * s + s) n))
/-- the nodes of each path stand as they stood -/
def Same (T T0 : List NodeV) : Prop := ∀ p, ofP p T = ofP p T0
theorem Same.srt {T T0 : List NodeV} (h : Same T T0) {a b : Nat} (hab : a ≤ b) : Same (srt T a b) T0 := fun p => by
  unfold Go.Proofs.YtmgndhdikleagaaGreatDoor.srt
  rw [puts_ofP hab fun q => (sortT_both _).2 q]; exact h p
theorem SB.zero (s : Nat) (T : List NodeV) : SB s 0 T := fun j h => by omega
theorem SB.step {s u q b : Nat} {T : List NodeV} (h : SB s u T) (hu : u = q * s) (hub : u ≤ b) (hb : b ≤ u + s) (hl : b ≤ T.length) : SB s b (srt T u b) := fun j hj => by
  have hM : (sortT (rng T u b)).length = b - u := by rw [sortT_len, rng_len T u b hl]
  rcases Nat.lt_trichotomy j q with hlt | heq | hgt
  · have h1 : (j + 1) * s ≤ q * s := Nat.mul_le_mul_right s hlt
    rw [Nat.succ_mul] at h1
    have h2 := h j
    have e1 : min (j * s + s) u = j * s + s := by omega
    have e2 : min (j * s + s) b = j * s + s := by omega
    rw [e1] at h2
    rw [e2]
    by_cases h3 : j * s < u
    · unfold srt
      rw [puts_before (by omega) (by omega)]; exact h2 h3
    · have h4 : s = 0 := by omega
      rw [h4, Nat.mul_zero, Nat.add_zero, rng_self]; exact List.Pairwise.nil
  · subst heq
    rw [← hu]
    have e1 : min (u + s) b = b := by omega
    rw [e1]
    unfold srt
    rw [puts_rng hub hl hM]; exact (sortT_both _).1
  · have h1 : (q + 1) * s ≤ j * s := Nat.mul_le_mul_right s hgt
    rw [Nat.succ_mul] at h1
    omega
theorem SR.step {s u n b : Nat} {T : List NodeV} (h : SR s u n T) (hub : u ≤ b) (hl : b ≤ T.length) : SR s b n (srt T u b) := fun j h1 h2 => by
  unfold srt
  rw [puts_behind hub hl (by rw [sortT_len, rng_len T u b hl]) h1]
  exact h j (by omega) h2
theorem SB.rest {s n : Nat} {T : List NodeV} (h : SB s n T) : SR s 0 n T := fun j _ h2 => h j h2
theorem SB.last {s u q n : Nat} {T : List NodeV} (h : SB (2 * s) u T) (hr : SR s u n T) (hu : u = q * (2 * s)) (hun : u ≤ n) (hn : n ≤ u + s) : SB (2 * s) n T := fun j hj => by
  rcases Nat.lt_trichotomy j q with hlt | heq | hgt
  · have h1 : (j + 1) * (2 * s) ≤ q * (2 * s) := Nat.mul_le_mul_right _ hlt
    rw [Nat.succ_mul] at h1
    have e1 : min (j * (2 * s) + 2 * s) u = j * (2 * s) + 2 * s := by omega
    have e2 : min (j * (2 * s) + 2 * s) n = j * (2 * s) + 2 * s := by omega
    have h2 := h j
    rw [e1] at h2
    rw [e2]
    by_cases h3 : j * (2 * s) < u
    · exact h2 h3
    · have h4 : s = 0 := by omega
      rw [h4, Nat.mul_zero, Nat.add_zero, rng_self]; exact List.Pairwise.nil
  · subst heq
    have e0 : j * (2 * s) = (j * 2) * s := by rw [Nat.mul_assoc]
    have h2 := hr (j * 2) (by omega) (by omega)
    rw [← e0, ← hu] at h2
    rw [← hu]
    have e1 : min (u + s) n = n := by omega
    have e2 : min (u + 2 * s) n = n := by omega
    rw [e1] at h2
    rw [e2]; exact h2
  · have h1 : (q + 1) * (2 * s) ≤ j * (2 * s) := Nat.mul_le_mul_right _ hgt
    rw [Nat.succ_mul] at h1
    omega
theorem SB.all {s n : Nat} {T : List NodeV} (h : SB s n T) (hs : n ≤ s) (hl : T.length = n) : Sorts T := by
  by_cases h0 : n = 0
  · have : T = [] := List.eq_nil_of_length_eq_zero (by omega)
    subst this; exact List.Pairwise.nil
  · have := h 0 (by omega)
    rw [Nat.zero_mul, Nat.zero_add, show min s n = n by omega, rng_all T n (by omega)] at this
    exact this
theorem SR.two {s u q n : Nat} {T : List NodeV} (h : SR s u n T) (hu : u = q * (2 * s)) (b : Nat) (hb1 : u + s < b) (hb2 : b ≤ u + 2 * s) (hbn : b ≤ n) (hb3 : b = n ∨ b = u + 2 * s) : Sorts (rng T u (u + s)) ∧ Sorts (rng T (u + s) b) := by
  have e0 : u = (q * 2) * s := by rw [hu, Nat.mul_assoc]
  have e1 : u + s = (q * 2 + 1) * s := by rw [Nat.succ_mul, ← e0]
  have h1 := h (q * 2) (by omega) (by omega)
  have h2 := h (q * 2 + 1) (by omega) (by omega)
  rw [← e0, show min (u + s) n = u + s by omega] at h1
  rw [← e1, show min (u + s + s) n = b by omega] at h2
  exact ⟨h1, h2⟩
set_option maxHeartbeats 8000000 in
theorem stable_any (L : StbL P k c ok) (hok : ∀ y ∈ xs0, ok y) (hn : n ≤ 1000000000000000) (T0 : List NodeV) (w : World) (h : SrtT w0 B g n cap xs0 T0 w) :
    Calls P 73 #[.slice (some ⟨g, 0, none⟩) n cap, .int .i64 n, .func (.func c) #[] #[]] w fun e w' => e = .returned (.tuple #[]) ∧ SrtT w0 B g n cap xs0 (sortT T0) w' := by
  have mixed := L.mixed; have t0 := L.t0; have a0 := L.a0; have z0 := L.z0; have v0 := L.v0; have t3 := L.t3; have a3 := L.a3; have z3 := L.z3; have v3 := L.v3; have t4 := L.t4; have a4 := L.a4; have z4 := L.z4; have v4 := L.v4; have t22 := L.t22; have a22 := L.a22; have z22 := L.z22; have v22 := L.v22; have t25 := L.t25; have a25 := L.a25; have z25 := L.z25; have v25 := L.v25
  have e23 : ∀ args w, (callFunc 82 args).run P w = .ok (.enter 82 args) w := enters_of L.fins (by kernel_rfl) rfl
  have e24 : ∀ args w, (callFunc 105 args).run P w = .ok (.enter 105 args) w := enters_of L.fsym (by kernel_rfl) rfl
  have HL : Aside _ := L
  have HOK := Lib.hid hok
  have HIns : Hid (∀ a b, a ≤ b → b ≤ n → ∀ T w, SrtT w0 B g n cap xs0 T w → Calls P 82 #[.slice (some ⟨g, 0, none⟩) n cap, .int .i64 a, .int .i64 b, .func (.func c) #[] #[]] w fun e w' => e = .returned (.tuple #[]) ∧ SrtT w0 B g n cap xs0 (srt T a b) w') := fun a b h1 h2 T w h => insertion_any HL HOK.out hn a b h1 h2 T w h
  have HSym : Hid (∀ a m b, a < m → m < b → b ≤ n → ∀ T, Sorts (rng T a m) → Sorts (rng T m b) → ∀ w, SrtT w0 B g n cap xs0 T w → Calls P 105 #[.slice (some ⟨g, 0, none⟩) n cap, .int .i64 a, .int .i64 m, .int .i64 b, .func (.func c) #[] #[]] w fun e w' => e = .returned (.tuple #[]) ∧ SrtT w0 B g n cap xs0 (srt T a b) w') := fun a m b h1 h2 h3 T hX hY w h => symMerge_upto HL HOK.out hn _ a m b (Nat.le_refl _) h1 h2 h3 T hX hY w h
  have HW0 := Lib.hid h
  clear h hok
  go_enter L.fstb, Tryz.ntmps73
  go_wp2
  go_loopw [7, 8] (fun av bv wr => ∃ (a b q : Nat) (T : List NodeV), av = .int .i64 a ∧ bv = .int .i64 b ∧ a ≤ n ∧ Hid (b = a + 20) ∧ b ≤ n + 20 ∧ Hid (a = q * 20) ∧ Hid (SB 20 a T) ∧ Hid (Same T T0) ∧ Hid (SrtT w0 B g n cap xs0 T wr)) (fun av _ _ => n + 20 - (intOf av).toNat)
  case atStart => exact ⟨0, 20, 0, T0, rfl, rfl, Nat.zero_le _, rfl, by omega, rfl, SB.zero _ _, fun _ => rfl, HW0.out⟩
  case round =>
    obtain ⟨a, b, q, T, rfl, rfl, han, hb, hbn, hq, HSB, HSm, HT⟩ := hrel
    by_cases hlt : b ≤ n
    · have HC := Lib.hid (HIns.out a b (by have := hb.out; omega) hlt T wr HT.out)
      have HTl := HT.out.len
      have HB2 := Lib.hid (SB.step (b := b) HSB.out hq.out (by have := hb.out; omega) (by have := hb.out; omega) (by omega))
      have HS2 := Lib.hid (HSm.out.srt (show a ≤ b by have := hb.out; omega))
      have HQ2 : Hid (b = (q + 1) * 20) := by unfold Hid; rw [hb.out, hq.out]; omega
      obtain ⟨b2, hb2⟩ : ∃ b2, b2 = b + 20 := ⟨_, rfl⟩
      have wB : IntKind.i64.wrap ((b : Int) + 20) = (b2 : Int) := by rw [IntKind.wrap_i64]; omega
      have HB3 := Lib.hid hb2
      have hb2n : b2 ≤ n + 20 := by omega
      have hab : a < b := by have := hb.out; omega
      clear HSB HSm HT hb hq HTl hb2
      go_wp2_with fail
      refine HC.out.mono ?_; rintro e w1 ⟨rfl, h1⟩
      have H1 := Lib.hid h1
      clear h1 HC
      go_wp2_with fail
      go_roundw
      case rel => exact ⟨b, b2, q + 1, srt T a b, rfl, by go_num, hlt, HB3.out, hb2n, HQ2.out, HB2.out, HS2.out, H1.out⟩
      case measure => simp [intOf]; omega
    · have HC := Lib.hid (HIns.out a n han (Nat.le_refl _) T wr HT.out)
      have HTl := HT.out.len
      have HB2 := Lib.hid (SB.step (b := n) HSB.out hq.out han (by have := hb.out; omega) (by omega))
      have HS2 := Lib.hid (HSm.out.srt han)
      clear HSB HSm HT hb hq HTl
      obtain ⟨wo, hwo⟩ : ∃ wo, wo = wr := ⟨_, rfl⟩
      subst hwo
      go_wp2_with fail
      refine HC.out.mono ?_; rintro e w1 ⟨rfl, h1⟩
      have H1 := Lib.hid h1
      clear h1 HC
      generalize srt T a n = T1 at *
      clear HIns
      go_wp2_with fail
      go_loopw [6] (fun sv wr => ∃ (s : Nat) (T : List NodeV), sv = .int .i64 s ∧ 20 ≤ s ∧ s ≤ n + n + 20 ∧ Hid (SB s n T) ∧ Hid (Same T T0) ∧ Hid (SrtT w0 B g n cap xs0 T wr)) (fun sv _ => n - (intOf sv).toNat)
      case atStart => exact ⟨20, T1, rfl, Nat.le_refl _, by omega, HB2.out, HS2.out, H1.out⟩
      case round =>
        obtain ⟨s, T, rfl, hs20, hsn, HSB, HSm, HT⟩ := hrel
        by_cases hlt : s < n
        · obtain ⟨s2, hs2⟩ : ∃ s2, s2 = 2 * s := ⟨_, rfl⟩
          have w2 : IntKind.i64.wrap (2 * (s : Int)) = (s2 : Int) := by rw [IntKind.wrap_i64]; omega
          have w3 : IntKind.i64.wrap ((s : Int) * 2) = (s2 : Int) := by rw [IntKind.wrap_i64]; omega
          have HS2' := Lib.hid hs2
          have hs2n : s2 ≤ n + n + 20 := by omega
          have hs2s : s < s2 := by omega
          obtain ⟨wq, hwq⟩ : ∃ wq, wq = wr := ⟨_, rfl⟩
          subst hwq
          have HR0 := Lib.hid HSB.out.rest
          clear hs2 HB2 HS2 H1 HSB
          go_wp2_with fail
          go_loopw [7, 8] (fun av bv wr => ∃ (a b q : Nat) (T : List NodeV), av = .int .i64 a ∧ bv = .int .i64 b ∧ a ≤ n ∧ Hid (b = a + s2) ∧ b ≤ n + s2 ∧ Hid (a = q * (2 * s)) ∧ Hid (SB (2 * s) a T) ∧ Hid (SR s a n T) ∧ Hid (Same T T0) ∧ Hid (SrtT w0 B g n cap xs0 T wr)) (fun av _ _ => n + s2 - (intOf av).toNat)
          case atStart => exact ⟨0, s2, 0, T, rfl, by first | rfl | go_num, Nat.zero_le _, by unfold Hid; omega, by omega, by unfold Hid; rw [Nat.zero_mul], SB.zero _ _, HR0.out, HSm.out, HT.out⟩
          case round =>
            obtain ⟨a, b, q, T, rfl, rfl, han, hb, hbn, hq, HSB, HSR, HSm, HT⟩ := hrel
            obtain ⟨m, hm⟩ : ∃ m, m = a + s := ⟨_, rfl⟩
            have wM : IntKind.i64.wrap ((a : Int) + (s : Int)) = (m : Int) := by rw [IntKind.wrap_i64]; omega
            have HTl := HT.out.len
            by_cases hbn2 : b ≤ n
            · obtain ⟨hX, hY⟩ := HSR.out.two hq.out b (by have := hb.out; have := HS2'.out; omega) (by have := hb.out; have := HS2'.out; omega) hbn2 (.inr (by have := hb.out; have := HS2'.out; omega))
              rw [← hm] at hX hY
              have HC := Lib.hid (HSym.out a m b (by omega) (by have := hb.out; have := HS2'.out; omega) hbn2 T hX hY wr HT.out)
              have HB3 := Lib.hid (SB.step (b := b) HSB.out hq.out (by have := hb.out; omega) (by have := hb.out; have := HS2'.out; omega) (by omega))
              have HR3 := Lib.hid (SR.step (b := b) HSR.out (by have := hb.out; omega) (by omega))
              have HS3 := Lib.hid (HSm.out.srt (show a ≤ b by have := hb.out; omega))
              have HQ3 : Hid (b = (q + 1) * (2 * s)) := by unfold Hid; rw [hb.out, hq.out, HS2'.out]; exact (Nat.succ_mul q (2 * s)).symm
              obtain ⟨b2, hb2⟩ : ∃ b2, b2 = b + s2 := ⟨_, rfl⟩
              have wB : IntKind.i64.wrap ((b : Int) + (s2 : Int)) = (b2 : Int) := by rw [IntKind.wrap_i64]; omega
              have HB4 := Lib.hid hb2
              have hb2n : b2 ≤ n + s2 := by omega
              have hab : a < b := by have := hb.out; omega
              clear HSB HSR HSm HT hb hq HTl hb2 hX hY hm
              go_wp2_with fail
              refine HC.out.mono ?_; rintro e w1 ⟨rfl, h1⟩
              have H1 := Lib.hid h1
              clear h1 HC
              go_wp2_with fail
              go_roundw
              case rel => exact ⟨b, b2, q + 1, srt T a b, rfl, by go_num, hbn2, HB4.out, hb2n, HQ3.out, HB3.out, HR3.out, HS3.out, H1.out⟩
              case measure => simp [intOf]; omega
            · by_cases hmn : m < n
              · obtain ⟨hX, hY⟩ := HSR.out.two hq.out n (by omega) (by have := hb.out; have := HS2'.out; omega) (Nat.le_refl _) (.inl rfl)
                rw [← hm] at hX hY
                have HC := Lib.hid (HSym.out a m n (by omega) hmn (Nat.le_refl _) T hX hY wr HT.out)
                have HB3 := Lib.hid (SB.step (b := n) HSB.out hq.out han (by have := hb.out; have := HS2'.out; omega) (by omega))
                have HS3 := Lib.hid (HSm.out.srt han)
                rw [← HS2'.out] at HB3
                clear HSB HSR HSm HT hb hq HTl hX hY hm
                go_wp2_with fail
                refine HC.out.mono ?_; rintro e w1 ⟨rfl, h1⟩
                have H1 := Lib.hid h1
                clear h1 HC
                go_wp2_with fail
                go_roundw
                case rel => exact ⟨s2, srt T a n, by go_num, by omega, hs2n, HB3.out, HS3.out, H1.out⟩
                case measure => simp [intOf]; omega
              · have HB3 := Lib.hid (SB.last HSB.out HSR.out hq.out han (by omega))
                rw [← HS2'.out] at HB3
                clear HSB HSR hb hq HTl hm
                go_wp2_with fail
                go_roundw
                case rel => exact ⟨s2, T, by go_num, by omega, hs2n, HB3.out, HSm.out, HT.out⟩
                case measure => simp [intOf]; omega
        · have HF : Hid (SrtT w0 B g n cap xs0 (sortT T0) wr) := by
            have h1 := HSB.out.all (by omega) HT.out.len
            have h2 := sortT_only h1 HSm.out
            unfold Hid; rw [← h2]; exact HT.out
          clear HSB HSm HT HB2 HS2 H1
          go_wp2_with fail
          go_end0
          exact ⟨rfl, HF.out⟩
theorem sorted_any (L : StbL P k c ok) (hok : ∀ y ∈ xs0, ok y) (hn : n ≤ 1000000000000000) (T0 : List NodeV) (w : World) (h : SrtT w0 B g n cap xs0 T0 w) :
    Calls P 47 #[.slice (some ⟨g, 0, none⟩) n cap, .func (.func c) #[] #[]] w fun e w' => e = .returned (.tuple #[]) ∧ SrtT w0 B g n cap xs0 (sortT T0) w' := by
  have mixed := L.mixed; have t0 := L.t0; have a0 := L.a0; have z0 := L.z0; have v0 := L.v0; have t3 := L.t3; have a3 := L.a3; have z3 := L.z3; have v3 := L.v3; have t22 := L.t22; have a22 := L.a22; have z22 := L.z22; have v22 := L.v22; have t25 := L.t25; have a25 := L.a25; have z25 := L.z25; have v25 := L.v25
  have u22 := run_underlying L.t22
  have e16 : ∀ args w, (callFunc 73 args).run P w = .ok (.enter 73 args) w := enters_of L.fstb (by kernel_rfl) rfl
  have HC := Lib.hid (stable_any L hok hn T0 w h)
  have HL : Aside _ := L
  clear h hok
  go_enter L.fssf, Tryz.ntmps47
  go_wp2_with fail
  refine HC.out.mono ?_; rintro e w1 ⟨rfl, h1⟩
  have H1 := Lib.hid h1
  clear h1 HC
  go_wp2_with fail
  go_end0
  exact ⟨rfl, H1.out⟩
end Go.Proofs.YtmgndhdikleagaaGreatDoor
