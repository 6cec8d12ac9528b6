/- Package pad: Cut. -/
import Derived.Test.YtmcojkgknffccaaPadB
import Derived.Deep.RegionWith
import Derived.Deep.RegionHeld3
import Derived.Deep.DeepCutAuto
import Derived.Deep.QuietTactic
set_option linter.unusedVariables false
set_option maxRecDepth 100000
namespace Go.Proofs.Ytmcojkgknffccaa
open Go.RowKit
open Go.OpenShut
theorem elem_bytes : Try.prog.underlying 22 = some (.slice (Try.prog.elem 22)) := by kernel_rfl
theorem size_u8 : ∀ W, (sizeOf (Try.prog.elem 22)).run Try.prog W = .ok 1 W := by
  intro W
  have e : Try.prog.elem 22 = 5 := by kernel_rfl
  rw [e]; exact Try.sizeOf5 W
/-- the first k bytes -/
theorem slice_to (W : World) (A : Option Addr) (n c k : Nat) (h : k ≤ c) : (Instr.slice 22 (.slice A n c) none (some (.int .i64 (k : Int))) none).run Try.prog W = .ok (.slice A k c) W := by
  rw [run_slice_h W 22 A n c elem_bytes .i64 (k : Int) (by omega) (by omega), size_u8]
  have e := cutA_zero A c
  unfold cutA at e
  simp [Result.andThen, sliced] at e ⊢
  exact e
/-- all but the first k bytes -/
theorem slice_from (W : World) (A : Option Addr) (n c k : Nat) (h : k ≤ n) : (Instr.slice 22 (.slice A n c) (some (.int .i64 (k : Int))) none none).run Try.prog W = .ok (.slice (cutA A c k) (n - k) (c - k)) W := by
  rw [run_slice_l W 22 A n c elem_bytes .i64 (k : Int) (by omega) (by omega), size_u8]
  simp [Result.andThen, sliced, cutA]
/-- the bytes from k to e -/
theorem slice_mid (W : World) (A : Option Addr) (n c k e : Nat) (h : k ≤ e) (he : e ≤ c) : (Instr.slice 22 (.slice A n c) (some (.int .i64 (k : Int))) (some (.int .i64 (e : Int))) none).run Try.prog W = .ok (.slice (cutA A c k) (e - k) (c - k)) W := by
  rw [run_slice_lh W 22 A n c elem_bytes .i64 .i64 (k : Int) (e : Int) (by omega) (by omega) (by omega), size_u8]
  simp [Result.andThen, sliced, cutA]
set_option maxHeartbeats 1000000 in
theorem Cut_any (A : Option Addr) (n c : Nat) (l : List UInt8) (x : Int) (hn : l.length = n) (hn2 : n ≤ 140737488351232) (hc : SlOk A n c) (w : World) (hA : BytsAt w A l) :
    Calls Try.prog 13 #[.slice A n c, .int .i64 x] w fun e w' => ∃ v1 v2, e = .returned (.tuple #[v1, v2, .int .i64 (padC l x).2]) ∧ OwnB w' w.heap.size v1 (padC l x).1.1 ∧ OwnB w' w.heap.size v2 (padC l x).1.2 ∧ Below w.heap.size w w' := by
  by_cases h : 0 ≤ x ∧ x < 8589934592
  · obtain ⟨k, rfl⟩ := Int.eq_ofNat_of_zero_le h.1
    have hB := Lib.hid fun W => Blocks_any (k : Int) W
    rw [padB_ok h] at hB
    have HR := Lib.hid (padC_short (l := l) h)
    have HF := Lib.hid (padC_form (l := l) h)
    have HO := Lib.hid (padC_ok (l := l) h)
    rw [Int.toNat_natCast] at hB HR HF HO
    have hge := padN_ge k
    have hlt := padN_lt k
    obtain ⟨p, hp⟩ := hid_name (padN k)
    rw [hp.out] at hB HR HF HO hge hlt
    simp only at hB
    have hk : k < 8589934592 := by omega
    have hmul : IntKind.i64.wrap ((p : Int) * 512) = ((512 * p : Nat) : Int) := by rw [IntKind.wrap_i64]; omega
    obtain ⟨e, he⟩ : ∃ e : Nat, e = 512 * p := ⟨_, rfl⟩
    rw [← he] at HR HF HO hge hlt hmul
    clear h he
    by_cases hs : n < e
    · have HX := Lib.hid (HR.out (by rw [hn]; exact hs))
      rw [HX.out]
      go_enter Try.func13, Try.ntmps13
      go_wp2_with fail
      refine (hB.out _).mono ?_; rintro e' w' ⟨rfl, rfl⟩
      go_wp2_with fail
      go_ret3
      exact ⟨_, _, rfl, OwnB.nil _ _, OwnB.nil _ _, Below.refl _ _⟩
    · have hs' : e ≤ n := by omega
      have hnc := hc.1
      have s1 := fun W => slice_mid W A n c k e hge (by omega)
      have hlm : ((l.take e).drop k).length = e - k := by rw [List.length_drop, List.length_take]; omega
      have hAt : ∀ W, BytsAt W A l → BytsAt W (cutA A c k) ((l.take e).drop k) := fun W h => by
        rw [List.drop_take]
        exact (h.cut (by omega) k (by omega)).take _
      have HZ := Lib.hid (isZero_any (cutA A c k) (e - k) (c - k) _ hlm (by omega) w (hAt w hA))
      cases hz : allZ ((l.take e).drop k)
      · have HX := Lib.hid (HF.out (by rw [hn]; exact hs') hz)
        rw [HX.out]
        rw [hz] at HZ
        obtain ⟨a1, ha1⟩ := hid_name (cutA A c k)
        obtain ⟨n1, hn1⟩ := hid_name (e - k)
        obtain ⟨c1, hc1⟩ := hid_name (c - k)
        rw [ha1.out, hn1.out, hc1.out] at HZ
        simp only [ha1.out, hn1.out, hc1.out] at s1
        clear hz hAt hlm hn hA hge hlt hk hs' hnc hn2 hc
        go_enter Try.func13, Try.ntmps13
        go_wp2_with fail
        refine (hB.out _).mono ?_; rintro e' w' ⟨rfl, rfl⟩
        go_wp2_with fail
        refine HZ.out.mono ?_; rintro e' w' ⟨rfl, rfl⟩
        go_wp2_with fail
        go_ret3
        exact ⟨_, _, rfl, OwnB.nil _ _, OwnB.nil _ _, Below.refl _ _⟩
      · have HX := Lib.hid (HO.out (by rw [hn]; exact hs') hz)
        rw [HX.out]
        rw [hz] at HZ
        have s2 := fun W => slice_to W A n c k (by omega)
        have s3 := fun W => slice_from W A n c e hs'
        have HC1 : Hid (∀ W, BytsAt W A l → Calls Try.prog 22 #[.slice A k c] W fun e w' => ∃ v, e = .returned v ∧ OwnB w' W.heap.size v (l.take k) ∧ Below W.heap.size W w') := fun W h => bytClone_any A k c (l.take k) (by rw [List.length_take]; omega) (by omega) W (h.take k)
        have HC2 : Hid (∀ W, BytsAt W A l → Calls Try.prog 22 #[.slice (cutA A c e) (n - e) (c - e)] W fun e' w' => ∃ v, e' = .returned v ∧ OwnB w' W.heap.size v (l.drop e) ∧ Below W.heap.size W w') := fun W h => bytClone_any (cutA A c e) (n - e) (c - e) (l.drop e) (by rw [List.length_drop]; omega) (by omega) W (h.cut (by omega) e (by omega))
        have HA := Lib.hid fun W (h : Below w.heap.size w W) => hA.below h
        obtain ⟨a1, ha1⟩ := hid_name (cutA A c k)
        obtain ⟨n1, hn1⟩ := hid_name (e - k)
        obtain ⟨c1, hc1⟩ := hid_name (c - k)
        obtain ⟨a2, ha2⟩ := hid_name (cutA A c e)
        obtain ⟨n2, hn2⟩ := hid_name (n - e)
        obtain ⟨c2, hc2⟩ := hid_name (c - e)
        rw [ha1.out, hn1.out, hc1.out] at HZ
        rw [ha2.out, hn2.out, hc2.out] at HC2
        simp only [ha1.out, hn1.out, hc1.out] at s1
        simp only [ha2.out, hn2.out, hc2.out] at s3
        clear hz hAt hlm hn hA hge hlt hk hs' hnc hn2 hc
        go_enter Try.func13, Try.ntmps13
        go_wp2_with fail
        refine (hB.out _).mono ?_; rintro e' w' ⟨rfl, rfl⟩
        go_wp2_with fail
        refine HZ.out.mono ?_; rintro e' w' ⟨rfl, rfl⟩
        go_upto_region 9 with fail
        have hD : BytsAt w.drew A l := HA.out _ (Below.refl _ _).drew
        go_region_with
          (first
            | (go_at_call 22; (have F1 := hb1); refine (HC2.out _ (HA.out _ F1)).mono ?_; rintro e' w2 ⟨v2, rfl, hO2, hb2⟩)
            | (go_at_call 22; refine (HC1.out _ hD).mono ?_; rintro e' w1 ⟨v1, rfl, hO1, hb1'⟩; have hb1 : Below w.heap.size w w1 := ((Below.refl w.heap.size w).drew.trans (show Below w.heap.size w.drew w1 from hb1')); clear hb1'))
        all_goals
          go_wp2_with fail
          go_ret3
          exact ⟨_, _, rfl, hO1.below hb2, hO2.mono hb1.size, hb1.trans (hb2.mono hb1.size)⟩
  · rw [padC_range h]
    have hB := Lib.hid fun W => Blocks_any x W
    rw [padB_no h] at hB
    clear h
    go_enter Try.func13, Try.ntmps13
    go_wp2_with fail
    refine (hB.out _).mono ?_; rintro e w' ⟨rfl, rfl⟩
    go_wp2_with fail
    go_ret3
    exact ⟨_, _, rfl, OwnB.nil _ _, OwnB.nil _ _, Below.refl _ _⟩
end Go.Proofs.Ytmcojkgknffccaa
