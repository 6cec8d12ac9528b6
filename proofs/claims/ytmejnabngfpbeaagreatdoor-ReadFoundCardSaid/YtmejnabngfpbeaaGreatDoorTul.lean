/- Texts of one kind, in one file: Laid, Tus. -/
import Derived.Test.YtmejnabngfpbeaaGreatDoorRca
import Derived.RowKitTokens
import Derived.MakeChecks
import Derived.Test.YtmejnabngfpbeaaGreatDoorBas
import Derived.Test.YtmejnabngfpbeaaGreatDoorTrm
import Derived.Laws.BitsAllLaws
import Derived.Lib.MinMax
set_option linter.unusedVariables false
set_option maxRecDepth 100000
namespace Go.Proofs.YtmejnabngfpbeaaGreatDoor
open Go.RowKit Go.ChangeShapes
theorem laid_mem {P : Program} {l : List (String × DataW Unit)} {w : World} {x : String × DataW Unit} (h : laidMet P l w) (hm : x ∈ l) : ∃ r, laidMet P (x :: r) w := by
 induction l with
 | nil => cases hm
 | cons y l ih =>
  rcases List.mem_cons.1 hm with rfl | hm
  ·exact ⟨l, h⟩
  ·exact ih h.tail hm
theorem pow_laid : (Rows.laid_internal_strconv_uint64pow10 : DataW Unit) = Lib.tabData .u64 Lib.pow10Tab := by kernel_rfl
theorem tab_of_laid {l : List (String × DataW Unit)} {w : World} (h : laidMetH Tryz.prog l w) (hp : (l.all fun x => x.2.handleName?.isNone) = true) (hm : ("internal/strconv.uint64pow10", Rows.laid_internal_strconv_uint64pow10) ∈ l) : Tab w := by
 rw [MakeChecks.laidMetH_plain _ _ _ hp] at h
 obtain ⟨r, hr⟩ := laid_mem h hm
 rw [pow_laid] at hr
 exact Lib.tabIs_of_head gPow_is (by kernel_rfl) Tryz.underlying309 Tryz.underlying213 (by kernel_rfl) (by kernel_rfl) hr
theorem star_ES : "*" ++ "errors.errorString" = "*errors.errorString" := by decide
theorem row_ES (u : TypeId) (h : Tryz.prog.typeName? 3 u = some "*errors.errorString") : u = 272 :=
 typeName_ptr_named (nm := "errors.errorString") (by rw [star_ES]; kernel_rfl) (by kernel_rfl) (by decide) u (by rw [star_ES]; exact h)
theorem std_of_laid {l : List (String × DataW Unit)} {w : World} (h : laidMetH Tryz.prog l w) (hp : (l.all fun x => x.2.handleName?.isNone) = true)
  (hm : ("internal/strconv.uint64pow10", Rows.laid_internal_strconv_uint64pow10) ∈ l) (hs : ("strconv.ErrSyntax", Rows.laid_strconv_ErrSyntax) ∈ l) (hr : ("strconv.ErrRange", Rows.laid_strconv_ErrRange) ∈ l) : Std w := by
 refine ⟨tab_of_laid h hp hm, ?_, ?_⟩
 ·rw [MakeChecks.laidMetH_plain _ _ _ hp] at h
  obtain ⟨r, hr⟩ := laid_mem h hs
  obtain ⟨a0, s0, hv0, -, -, -⟩ := laid_sentinel hr (show Tryz.prog.globalNamed "strconv.ErrSyntax" = some 0 by kernel_rfl) (by kernel_rfl) Tryz.underlying89 row_ES Tryz.underlying272 Tryz.underlying274 rfl rfl Tryz.underlying9 (by kernel_rfl) (by kernel_rfl)
  exact ⟨_, _, by have h0 := World.var?_cell (show Tryz.prog.globalNamed "strconv.ErrSyntax" = some 0 by kernel_rfl) hv0 0; simpa using h0⟩
 ·rw [MakeChecks.laidMetH_plain _ _ _ hp] at h
  obtain ⟨r, hr⟩ := laid_mem h hr
  obtain ⟨a0, s0, hv0, -, -, -⟩ := laid_sentinel hr (show Tryz.prog.globalNamed "strconv.ErrRange" = some 1 by kernel_rfl) (by kernel_rfl) Tryz.underlying89 row_ES Tryz.underlying272 Tryz.underlying274 rfl rfl Tryz.underlying9 (by kernel_rfl) (by kernel_rfl)
  exact ⟨_, _, by have h0 := World.var?_cell (show Tryz.prog.globalNamed "strconv.ErrRange" = some 1 by kernel_rfl) hv0 0; simpa using h0⟩
end Go.Proofs.YtmejnabngfpbeaaGreatDoor
namespace Go.Proofs.YtmejnabngfpbeaaGreatDoor
open Go.RowKit
open Go.OpenShut
theorem xor_neS (x m : Nat) (h : 1 ≤ m) : x ^^^ m ≠ x := by
 intro e
 have h2 : x ^^^ (x ^^^ m) = m := by rw [← Nat.xor_assoc, Nat.xor_self, Nat.zero_xor]
 rw [e, Nat.xor_self] at h2
 omega
theorem OwnB.formS {w : World} {B : Nat} {v : Value} {l : List UInt8} (h : OwnB w B v l) (h0 : 0 < l.length) : ∃ g c, v = .slice (some ⟨g, 0, none⟩) l.length c ∧ B ≤ g := by
 unfold OwnB World.ownsRow at h
 rcases h.2 with ⟨_, e⟩ | ⟨g, cap, cur, e, hB, _⟩
 ·omega
 ·exact ⟨g, cap, e, hB⟩
set_option maxHeartbeats 1000000 in
theorem Turned_set (l : List UInt8) (n : Nat) (hn : l.length = n) (h1 : 1 ≤ n) (hl : n ≤ 140737488351232) (A : Option Addr) (cap : Nat) (a b : Int) (ha : (Lit.int .i64 a).wf = true) (hb : (Lit.int .u8 b).wf = true) (w : World) (hA : BytsAt w A l) :
  Calls Tryz.prog 24 #[.slice A n cap, .int .i64 a, .int .u8 b] w fun e w' => ∃ (v : Value) (k : Nat) (c x : UInt8), e = .returned v ∧ l[k]? = some x ∧ c ≠ x ∧ OwnB w' w.heap.size v (l.set k c) ∧ Below w.heap.size w w' := by
 have hbb : IntKind.u8.min ≤ b ∧ b ≤ IntKind.u8.max := by simpa [Lit.wf] using hb
 rw [show IntKind.u8.min = 0 from rfl, show IntKind.u8.max = 255 from rfl] at hbb
 obtain ⟨y, rfl⟩ := Int.eq_ofNat_of_zero_le hbb.1
 subst hn
 obtain ⟨p1, p2⟩ := pick_bd a (l.length : Int) (by omega)
 have HP := Lib.hid fun W => picked_any a (l.length : Int) W ha (by omega)
 obtain ⟨z, Hz⟩ := hid_name (pick a (l.length : Int))
 rw [Hz.out] at HP p1 p2
 obtain ⟨k, rfl⟩ := Int.eq_ofNat_of_zero_le p1
 have hk : k < l.length := by omega
 have HC := Lib.hid (sClone_any A l.length cap l rfl hl w hA)
 obtain ⟨x, Hx⟩ : ∃ x, Hid (l[k]? = some x) := ⟨l[k], List.getElem?_eq_getElem hk⟩
 have hx8 := x.toNat_lt
 obtain ⟨m, hm⟩ : ∃ m : Nat, m = max y 1 := ⟨_, rfl⟩
 have hm1 : 1 ≤ m := by omega
 have hm2 : m < 256 := by omega
 have hmx : max (y : Int) 1 = (m : Int) := by omega
 have hxor := u8_xor_nat x.toNat m (by omega) hm2
 have hlt : x.toNat ^^^ m < 2 ^ 8 := Nat.xor_lt_two_pow (by omega) (by omega)
 obtain ⟨c, hcc⟩ : ∃ c : UInt8, c.toNat = x.toNat ^^^ m := ⟨UInt8.ofNat (x.toNat ^^^ m), by rw [UInt8.toNat_ofNat']; omega⟩
 have hne : Hid (c ≠ x) := fun e => xor_neS x.toNat m hm1 (by rw [← hcc, e])
 rw [← hcc] at hxor
 obtain ⟨n, Hn⟩ := hid_name l.length
 rw [Hn.out] at HP HC hk h1 hl
 rw [Hn.out]
 clear hbb hb ha p1 p2 hA hlt hcc hm
 go_enter Tryz.func24, Tryz.ntmps24
 go_wp2_with fail
 refine HC.out.mono ?_; rintro e w1 ⟨v, rfl, ho, hb1⟩
 obtain ⟨g', cap', rfl, hg'⟩ := ho.formS (by rw [Hn.out]; omega)
 rw [Hn.out] at ho ⊢
 have HO := Lib.hid ho
 have HB := Lib.hid hb1
 have hcell : w1.cell? ⟨g', k, none⟩ = some (.int .u8 (x.toNat : Int)) := by
  unfold OwnB at ho
  rw [Hn.out] at ho
  rw [ho.cellAt k (by omega), bCells_get _ _ (by rw [Hn.out]; exact hk)]
  have e := Hx.out
  simp only [bInts, List.getD_eq_getElem?_getD, List.getElem?_map, e]
  rfl
 have hfr : w1.frozen? ⟨g', k, none⟩ = false := by unfold OwnB at ho; rw [Hn.out] at ho; exact ho.frozenAt k
 have hns : (bCells l).set k (.int .u8 (c.toNat : Int)) = bCells (l.set k c) := bCells_set l k c
 have HNs := Lib.hid hns
 have HG := Lib.hid hg'
 clear ho hb1 hns
 go_wp2_with fail
 refine (HP.out _).mono ?_; rintro e w2 ⟨rfl, rfl⟩
 go_wp2_with fail
 refine bodyPost_ret (v := .slice (some ⟨g', 0, none⟩) n cap') (by simp [results, Tryz.results24, go_sem, *]) rfl ⟨.slice (some ⟨g', 0, none⟩) n cap', k, c, x, rfl, Hx.out, hne.out, ?_, HB.out.setCell (p := ⟨g', k, none⟩) HG.out _⟩
 have h := HO.out
 unfold OwnB at h ⊢
 rw [List.length_set, Hn.out, ← HNs.out]
 rw [Hn.out] at h
 exact (h.stored k _).1
end Go.Proofs.YtmejnabngfpbeaaGreatDoor
