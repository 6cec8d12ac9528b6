/- WriteSummed: bytes that differ in one have another sum. -/
import Derived.Test.YtldffnmoafhidaaSumA
import Derived.Test.YtldffnmoafhidaaOwb
import Derived.Test.YtldffnmoafhidaaOctA
import Derived.Laws.BitsAllLaws
import Derived.Lib.MinMax
set_option linter.unusedVariables false
set_option maxRecDepth 100000
namespace Go.Proofs.Ytldffnmoafhidaa
open Go.RowKit
open Go.OpenShut
theorem xor_neS (x m : Nat) (h : 1 ≤ m) : x ^^^ m ≠ x := by
  intro e
  have h2 : x ^^^ (x ^^^ m) = m := by rw [← Nat.xor_assoc, Nat.xor_self, Nat.zero_xor]
  rw [e, Nat.xor_self] at h2
  omega
theorem OwnB.formS {w : World} {B : Nat} {v : Value} {l : List UInt8} (h : OwnB w B v l) (h0 : 0 < l.length) : ∃ g c, v = .slice (some ⟨g, 0, none⟩) l.length c ∧ B ≤ g := by
  unfold OwnB World.ownsRow at h
  rcases h.2 with ⟨_, e⟩ | ⟨g, cap, cur, e, hB, _⟩
  · omega
  · exact ⟨g, cap, e, hB⟩
set_option maxHeartbeats 1000000 in
/-- Turned, at bytes of any length -/
theorem Turned_set (l : List UInt8) (n : Nat) (hn : l.length = n) (h1 : 1 ≤ n) (hl : n ≤ 140737488351232) (A : Option Addr) (cap : Nat) (a b : Int) (ha : (Lit.int .i64 a).wf = true) (hb : (Lit.int .u8 b).wf = true) (w : World) (hA : BytsAt w A l) :
    Calls Try.prog 7 #[.slice A n cap, .int .i64 a, .int .u8 b] w fun e w' => ∃ (v : Value) (k : Nat) (c x : UInt8), e = .returned v ∧ l[k]? = some x ∧ c ≠ x ∧ OwnB w' w.heap.size v (l.set k c) ∧ Below w.heap.size w w' := by
  have hbb : IntKind.u8.min ≤ b ∧ b ≤ IntKind.u8.max := by simpa [Lit.wf] using hb
  rw [show IntKind.u8.min = 0 from rfl, show IntKind.u8.max = 255 from rfl] at hbb
  obtain ⟨y, rfl⟩ := Int.eq_ofNat_of_zero_le hbb.1
  subst hn
  obtain ⟨p1, p2⟩ := pick_bd a (l.length : Int) (by omega)
  have HP := Lib.hid fun W => picked_any a (l.length : Int) W ha (by omega)
  obtain ⟨z, Hz⟩ := hid_name (pick a (l.length : Int))
  rw [Hz.out] at HP p1 p2
  obtain ⟨k, rfl⟩ := Int.eq_ofNat_of_zero_le p1
  have hk : k < l.length := by omega
  have HC := Lib.hid (sClone_any A l.length cap l rfl hl w hA)
  obtain ⟨x, Hx⟩ : ∃ x, Hid (l[k]? = some x) := ⟨l[k], List.getElem?_eq_getElem hk⟩
  have hx8 := x.toNat_lt
  obtain ⟨m, hm⟩ : ∃ m : Nat, m = max y 1 := ⟨_, rfl⟩
  have hm1 : 1 ≤ m := by omega
  have hm2 : m < 256 := by omega
  have hmx : max (y : Int) 1 = (m : Int) := by omega
  have hxor := u8_xor_nat x.toNat m (by omega) hm2
  have hlt : x.toNat ^^^ m < 2 ^ 8 := Nat.xor_lt_two_pow (by omega) (by omega)
  obtain ⟨c, hcc⟩ : ∃ c : UInt8, c.toNat = x.toNat ^^^ m := ⟨UInt8.ofNat (x.toNat ^^^ m), by rw [UInt8.toNat_ofNat']; omega⟩
  have hne : Hid (c ≠ x) := fun e => xor_neS x.toNat m hm1 (by rw [← hcc, e])
  rw [← hcc] at hxor
  obtain ⟨n, Hn⟩ := hid_name l.length
  rw [Hn.out] at HP HC hk h1 hl
  rw [Hn.out]
  clear hbb hb ha p1 p2 hA hlt hcc hm
  go_enter Try.func7, Try.ntmps7
  go_wp2_with fail
  refine HC.out.mono ?_; rintro e w1 ⟨v, rfl, ho, hb1⟩
  obtain ⟨g', cap', rfl, hg'⟩ := ho.formS (by rw [Hn.out]; omega)
  rw [Hn.out] at ho ⊢
  have HO := Lib.hid ho
  have HB := Lib.hid hb1
  have hcell : w1.cell? ⟨g', k, none⟩ = some (.int .u8 (x.toNat : Int)) := by
    unfold OwnB at ho
    rw [Hn.out] at ho
    rw [ho.cellAt k (by omega), bCells_get _ _ (by rw [Hn.out]; exact hk)]
    have e := Hx.out
    simp only [bInts, List.getD_eq_getElem?_getD, List.getElem?_map, e]
    rfl
  have hfr : w1.frozen? ⟨g', k, none⟩ = false := by unfold OwnB at ho; rw [Hn.out] at ho; exact ho.frozenAt k
  have hns : (bCells l).set k (.int .u8 (c.toNat : Int)) = bCells (l.set k c) := bCells_set l k c
  have HNs := Lib.hid hns
  have HG := Lib.hid hg'
  clear ho hb1 hns
  go_wp2_with fail
  refine (HP.out _).mono ?_; rintro e w2 ⟨rfl, rfl⟩
  go_wp2_with fail
  refine bodyPost_ret (v := .slice (some ⟨g', 0, none⟩) n cap') (by simp [results, Try.results7, go_sem, *]) rfl ⟨.slice (some ⟨g', 0, none⟩) n cap', k, c, x, rfl, Hx.out, hne.out, ?_, HB.out.setCell (p := ⟨g', k, none⟩) HG.out _⟩
  have h := HO.out
  unfold OwnB at h ⊢
  rw [List.length_set, Hn.out, ← HNs.out]
  rw [Hn.out] at h
  exact (h.stored k _).1
set_option maxHeartbeats 1000000 in
theorem WriteSummed_walk (A0 : Option Addr) (n0 c0 : Nat) (l0 : List UInt8) (a1 a2 : Int) (hn0 : l0.length = n0) (hm0 : n0 ≤ 140737488351232) (hc0 : n0 ≤ c0 ∧ c0 ≤ maxLen ∧ (A0 = none → c0 = 0)) (w1 : (Lit.int .i64 a1).wf = true) (w2 : (Lit.int .u8 a2).wf = true) (w : World) (hr0 : BytsAt w A0 l0) :
    Calls Try.prog 4 #[.slice A0 n0 c0, .int .i64 a1, .int .u8 a2] w fun e w' => e = .returned (.bool true) ∧ Below w.heap.size w w' := by
  have H1 := Lib.hid (wSum_any A0 n0 c0 l0 hn0 hm0 w hr0)
  have H0 := Lib.hid (wSum_any none 0 0 [] rfl (by decide) w (BytsAt.nil _ _))
  rw [sumS_nil] at H0
  have hlt : ((sumS l0 : Nat) : Int) < 1000003 := by have := sumS_lt l0; omega
  have hge : 0 ≤ ((sumS l0 : Nat) : Int) := by omega
  have HD := Lib.hid fun k c x (h : l0[k]? = some x) (h2 : c ≠ x) (e : ((sumS (l0.set k c) : Nat) : Int) = ((sumS l0 : Nat) : Int)) => sumS_set h h2 (Int.ofNat_inj.1 e)
  generalize ((sumS l0 : Nat) : Int) = z at H1 HD hlt hge
  have t1 : decide (z < 1000003) = true := decide_eq_true hlt
  have t0 : decide (0 ≤ z) = true := decide_eq_true hge
  by_cases h1 : n0 = 0
  · subst h1
    clear hn0 hm0 hc0 hr0
    go_enter Try.func4, Try.ntmps4
    go_wp2_with fail
    refine H1.out.mono ?_; rintro e w' ⟨rfl, rfl⟩
    go_wp2_with fail
    refine H0.out.mono ?_; rintro e w' ⟨rfl, rfl⟩
    go_wp2_with fail
    go_ret
    exact ⟨rfl, Below.refl _ _⟩
  · have HT := Lib.hid (Turned_set l0 n0 hn0 (by omega) hm0 A0 c0 a1 a2 w1 w2 w hr0)
    have hm := hm0
    have HN := Lib.hid hn0
    have t2 : ((n0 : Int) == 0) = false := by simpa using h1
    clear hn0 hm0 hc0 hr0
    go_enter Try.func4, Try.ntmps4
    go_wp2_with fail
    refine H1.out.mono ?_; rintro e w' ⟨rfl, rfl⟩
    go_wp2_with fail
    refine H0.out.mono ?_; rintro e w' ⟨rfl, rfl⟩
    go_wp2_with fail
    refine HT.out.mono ?_; rintro e x1 ⟨v, k, c, x, rfl, hk, hc, ho, hb⟩
    obtain ⟨A1, c1, rfl, hs1, ha1⟩ := ho.form
    have hL : (l0.set k c).length = n0 := by rw [List.length_set]; exact HN.out
    rw [hL]
    have H2 := Lib.hid (wSum_any A1 n0 c1 (l0.set k c) hL hm x1 ha1)
    have hne := HD.out k c x hk hc
    have HB := Lib.hid hb
    generalize ((sumS (l0.set k c) : Nat) : Int) = z2 at H2 hne
    have t3 : (z2 == z) = false := by simpa using hne
    have t4 : (z2 != z) = true := by rw [bne_iff_ne]; exact hne
    clear hb ha1 hs1 ho hk hc hL hlt hge hne
    go_wp2_with fail
    refine H2.out.mono ?_; rintro e w' ⟨rfl, rfl⟩
    go_wp2_with fail
    go_ret
    exact ⟨rfl, HB.out⟩
end Go.Proofs.Ytldffnmoafhidaa
