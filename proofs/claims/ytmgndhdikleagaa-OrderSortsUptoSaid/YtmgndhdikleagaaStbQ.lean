/- Sorting in place: rotating two parts; sorting by insertion. -/
import Derived.Test.YtmgndhdikleagaaStbP
set_option linter.unusedVariables false
set_option maxRecDepth 100000
namespace Go.Proofs.Ytmgndhdikleagaa
open Go.RowKit Go.Shelf Go.Lib
open Go.OpenShut
open Go.Sort (grow grow_empty)
variable {P : Program} {k c : Nat} {ok : NodP → Prop} {w0 W : World} {B g n cap : Nat} {xs0 xs : List NodP} {T : List NodeV}
/-- a rotation under way: u (i nodes) and v (j nodes) lie at m, what is wanted is Z -/
def RotI (m i j : Nat) (Z T : List NodeV) : Prop := ∃ Pf U V S, T = Pf ++ U ++ V ++ S ∧ Pf.length + i = m ∧ U.length = i ∧ V.length = j ∧ Pf ++ V ++ U ++ S = Z
set_option maxHeartbeats 4000000 in
theorem rotate_any (L : StbL P k c ok) (hok : ∀ y ∈ xs0, ok y) (hn : n ≤ 1000000000000000) (F : Value) (a m b : Nat) (Pf U V S : List NodeV) (ha : Pf.length = a) (hU : a + U.length = m) (hV : m + V.length = b) (hU1 : 0 < U.length) (hV1 : 0 < V.length) (w : World) (h : SrtT w0 B g n cap xs0 (Pf ++ U ++ V ++ S) w) :
    Calls P 28 #[.slice (some ⟨g, 0, none⟩) n cap, .int .i64 a, .int .i64 m, .int .i64 b, F] w fun e w' => e = .returned (.tuple #[]) ∧ SrtT w0 B g n cap xs0 (Pf ++ V ++ U ++ S) w' := by
  have mixed := L.mixed; have t0 := L.t0; have a0 := L.a0; have z0 := L.z0; have v0 := L.v0; have t3 := L.t3; have a3 := L.a3; have z3 := L.z3; have v3 := L.v3; have t4 := L.t4; have a4 := L.a4; have z4 := L.z4; have v4 := L.v4; have t22 := L.t22; have a22 := L.a22; have z22 := L.z22; have v22 := L.v22; have t25 := L.t25; have a25 := L.a25; have z25 := L.z25; have v25 := L.v25
  have hlen := h.len
  simp only [List.length_append] at hlen
  have e29 : ∀ args w, (callFunc 29 args).run P w = .ok (.enter 29 args) w := enters_of L.fswp (by kernel_rfl) rfl
  have HL : Aside _ := L
  have HOK := Lib.hid hok
  have H0 : Hid (RotI m (m - a) (b - m) (Pf ++ V ++ U ++ S) (Pf ++ U ++ V ++ S)) := ⟨Pf, U, V, S, rfl, by omega, by omega, by omega, rfl⟩
  have HW0 := Lib.hid h
  obtain ⟨T0, hT0⟩ : ∃ T0, T0 = Pf ++ U ++ V ++ S := ⟨_, rfl⟩
  obtain ⟨Z, hZ⟩ : ∃ Z, Z = Pf ++ V ++ U ++ S := ⟨_, rfl⟩
  rw [← hT0] at H0 HW0
  rw [← hZ] at H0 ⊢
  have hbn : b ≤ n := by omega
  have ham : a < m := by omega
  have hmb : m < b := by omega
  clear h hok hT0 hZ hlen ha hU hV hU1 hV1
  go_enter L.frot, Try.ntmps28
  go_wp2
  go_loopw [10, 11] (fun iv jv wr => ∃ (i j : Nat) (T : List NodeV), iv = .int .i64 i ∧ jv = .int .i64 j ∧ 0 < i ∧ 0 < j ∧ i ≤ m ∧ m + j ≤ n ∧ Hid (RotI m i j Z T) ∧ Hid (SrtT w0 B g n cap xs0 T wr)) (fun iv jv _ => (intOf iv).toNat + (intOf jv).toNat)
  case atStart => exact ⟨m - a, b - m, T0, by go_num, by go_num, by omega, by omega, by omega, by omega, H0.out, HW0.out⟩
  case round =>
    obtain ⟨i, j, T, rfl, rfl, hi, hj, him, hjn, HR, HW⟩ := hrel
    obtain ⟨A, U, V, S, rfl, eA, eU, eV, eZ⟩ := HR.out
    obtain ⟨q, hq⟩ : ∃ q, q = A.length := ⟨_, rfl⟩
    have wM : IntKind.i64.wrap ((m : Int) - (i : Int)) = (q : Int) := by rw [IntKind.wrap_i64]; omega
    rcases Nat.lt_trichotomy i j with hlt | heq | hgt
    · -- i < j: v = v1 v2
      obtain ⟨d, hd⟩ : ∃ d, j = d + i := ⟨j - i, by omega⟩
      have e1 : V = V.take d ++ V.drop d := (List.take_append_drop d V).symm
      have l1 : (V.take d).length = d := by rw [List.length_take]; omega
      have l2 : (V.drop d).length = i := by rw [List.length_drop]; omega
      obtain ⟨J, hJ⟩ : ∃ J, J = m + d := ⟨_, rfl⟩
      obtain ⟨s, hs⟩ : ∃ s, s = m + j := ⟨_, rfl⟩
      have HWc : Hid (SrtT w0 B g n cap xs0 (A ++ U ++ V.take d ++ V.drop d ++ S) wr) := by unfold Hid; rw [List.append_assoc (A ++ U), List.take_append_drop]; exact HW.out
      have HC := Lib.hid (swapRange_any HL HOK.out hn F q J i A U (V.take d) (V.drop d) S hq.symm (by rw [l1]; omega) eU l2 wr HWc.out)
      have HR2 : Hid (RotI m i d Z (A ++ V.drop d ++ V.take d ++ U ++ S)) := by
        refine ⟨A, V.drop d, V.take d, U ++ S, by simp only [List.append_assoc], eA, l2, l1, ?_⟩
        rw [← eZ]
        conv => rhs; rw [e1]
        simp only [List.append_assoc]
      have hne : (i : Int) ≠ (j : Int) := by omega
      have hng : ¬ (i : Int) > (j : Int) := by omega
      have wS : IntKind.i64.wrap ((m : Int) + (j : Int)) = (s : Int) := by rw [IntKind.wrap_i64]; omega
      have wJ : IntKind.i64.wrap ((s : Int) - (i : Int)) = (J : Int) := by rw [IntKind.wrap_i64]; omega
      have wj : IntKind.i64.wrap ((j : Int) - (i : Int)) = (d : Int) := by rw [IntKind.wrap_i64]; omega
      have hd0 : 0 < d := by omega
      have hdn : m + d ≤ n := by omega
      have hdj : d < j := by omega
      generalize A ++ V.drop d ++ V.take d ++ U ++ S = T2 at HC HR2
      clear eA eU eV eZ hq hd e1 l1 l2 hJ hs HWc HW HR hlt
      go_wp2_with fail
      refine HC.out.mono ?_; rintro e w1 ⟨rfl, h1⟩
      have H1 := Lib.hid h1
      clear h1 HC
      go_wp2_with fail
      go_roundw
      case rel => exact ⟨i, d, T2, rfl, by go_num, hi, hd0, him, hdn, HR2, H1⟩
      case measure => simp [intOf]; omega
    · -- i = j: the last exchange
      subst heq
      have HWc : Hid (SrtT w0 B g n cap xs0 (A ++ U ++ [] ++ V ++ S) wr) := by unfold Hid; rw [List.append_nil]; exact HW.out
      have HC := Lib.hid (swapRange_any HL HOK.out hn F q m i A U [] V S hq.symm (by rw [List.length_nil]; omega) eU eV wr HWc.out)
      rw [List.append_nil, eZ] at HC
      have hng : ((i : Int) != (i : Int)) = false := by simp
      clear eA eU eV eZ hq HWc HW HR
      go_wp2_with fail
      refine HC.out.mono ?_; rintro e w1 ⟨rfl, h1⟩
      have H1 := Lib.hid h1
      clear h1 HC
      go_wp2_with fail
      go_end0
      exact ⟨rfl, H1.out⟩
    · -- i > j: u = u1 u2
      obtain ⟨d, hd⟩ : ∃ d, i = j + d := ⟨i - j, by omega⟩
      have e1 : U = U.take j ++ U.drop j := (List.take_append_drop j U).symm
      have l1 : (U.take j).length = j := by rw [List.length_take]; omega
      have l2 : (U.drop j).length = d := by rw [List.length_drop]; omega
      have HWc : Hid (SrtT w0 B g n cap xs0 (A ++ U.take j ++ U.drop j ++ V ++ S) wr) := by unfold Hid; rw [List.append_assoc A, List.take_append_drop]; exact HW.out
      have HC := Lib.hid (swapRange_any HL HOK.out hn F q m j A (U.take j) (U.drop j) V S hq.symm (by rw [l2]; omega) l1 eV wr HWc.out)
      have HR2 : Hid (RotI m d j Z (A ++ V ++ U.drop j ++ U.take j ++ S)) := by
        refine ⟨A ++ V, U.drop j, U.take j, S, by simp only [List.append_assoc], by rw [List.length_append]; omega, l2, l1, ?_⟩
        rw [← eZ]
        conv => rhs; rw [e1]
        simp only [List.append_assoc]
      have hne : (i : Int) ≠ (j : Int) := by omega
      have wi : IntKind.i64.wrap ((i : Int) - (j : Int)) = (d : Int) := by rw [IntKind.wrap_i64]; omega
      have hd0 : 0 < d := by omega
      have hdn : d ≤ m := by omega
      have hgi : (i : Int) > (j : Int) := by omega
      have hdi : d < i := by omega
      generalize A ++ V ++ U.drop j ++ U.take j ++ S = T2 at HC HR2
      clear eA eU eV eZ hq hd e1 l1 l2 HWc HW HR hgt
      go_wp2_with fail
      refine HC.out.mono ?_; rintro e w1 ⟨rfl, h1⟩
      have H1 := Lib.hid h1
      clear h1 HC
      go_wp2_with fail
      go_roundw
      case rel => exact ⟨d, j, T2, by go_num, rfl, hd0, hj, hdn, hjn, HR2, H1⟩
      case measure => simp [intOf]; omega
end Go.Proofs.Ytmgndhdikleagaa
