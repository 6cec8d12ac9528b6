/- Contracts of the comparing of lists of texts, and of creelkeep.less. -/
import Derived.Test.YtoplcelimdkjeaaDoorSplA
set_option linter.unusedVariables false
set_option maxRecDepth 100000
namespace Go.Proofs.YtoplcelimdkjeaaDoor
open Go.RowKit
open Go.OpenShut
def cmpS (x y : List UInt8) : Int := if bless x y = true then -1 else if bless y x = true then 1 else 0
theorem isNaNs_any (s : ByteArray) (w : World) : Calls Tryd.prog 114 #[.string s] w fun e w' => e = .returned (.bool false) ∧ w = w' := by
  go_enter Tryd.func114, Tryd.ntmps114
  go_wp2
  go_ret
  exact ⟨rfl, rfl⟩
theorem cmps_any (a b : ByteArray) (w : World) : Calls Tryd.prog 91 #[.string a, .string b] w fun e w' => e = .returned (.int .i64 (cmpS a.toList b.toList)) ∧ w = w' := by
  cases hl : bless a.toList b.toList
  · cases hg : bless b.toList a.toList
    · have he := bless_total _ _ hl hg
      have hr : Hid (cmpS a.toList b.toList = 0) := by unfold Hid cmpS; rw [hl, hg]; simp
      have h1 : Op.bytesLess a.toList b.toList = false := hl
      have h2 : (a.toList == b.toList) = true := by simpa using he
      clear hl hg he
      go_enter Tryd.func91, Tryd.ntmps91
      go_wp2_with (go_at_call 114; refine (isNaNs_any _ _).mono ?_; rintro e w' ⟨rfl, rfl⟩)
      go_ret
      exact ⟨ret_int hr.out.symm, rfl⟩
    · have hr : Hid (cmpS a.toList b.toList = 1) := by unfold Hid cmpS; rw [hl, hg]; simp
      have h1 : Op.bytesLess a.toList b.toList = false := hl
      have h2 : (a.toList == b.toList) = false := by
        rw [beq_eq_false_iff_ne]; intro e; rw [e, bless_self] at hg; cases hg
      clear hl hg
      go_enter Tryd.func91, Tryd.ntmps91
      go_wp2_with (go_at_call 114; refine (isNaNs_any _ _).mono ?_; rintro e w' ⟨rfl, rfl⟩)
      go_ret
      exact ⟨ret_int hr.out.symm, rfl⟩
  · have hr : Hid (cmpS a.toList b.toList = -1) := by unfold Hid cmpS; rw [hl]; simp
    have h1 : Op.bytesLess a.toList b.toList = true := hl
    clear hl
    go_enter Tryd.func91, Tryd.ntmps91
    go_wp2_with (go_at_call 114; refine (isNaNs_any _ _).mono ?_; rintro e w' ⟨rfl, rfl⟩)
    go_ret
    exact ⟨ret_int hr.out.symm, rfl⟩
theorem cmpS_step (a b : List (List UInt8)) (k : Nat) (he : a.take k = b.take k) (ha : k < a.length) (hb : k < b.length) :
    (cmpS (a.getD k []) (b.getD k []) ≠ 0 → lcmp a b = cmpS (a.getD k []) (b.getD k [])) ∧ (cmpS (a.getD k []) (b.getD k []) = 0 → a.take (k + 1) = b.take (k + 1)) := by
  obtain ⟨s1, s2, s3⟩ := lcmp_step a b k he ha hb
  unfold cmpS
  cases hl : bless (a.getD k []) (b.getD k [])
  · cases hg : bless (b.getD k []) (a.getD k [])
    · simp; exact s3 (bless_total _ _ hl hg)
    · simp; exact s2 hl (fun e => by rw [e, bless_self] at hg; cases hg)
  · simp; exact s1 hl
set_option maxHeartbeats 1000000 in
theorem Cmp_any (A B : Option Addr) (ca cb : Nat) (xs ys : List (List UInt8)) (w : World) (hx : xs.length ≤ 8000000000001) (hy : ys.length ≤ 8000000000001)
    (hA : ∀ j, j < xs.length → ∃ g, A = some ⟨g, 0, none⟩ ∧ w.cell? ⟨g, j, none⟩ = some (strV (xs.getD j []))) (hB : ∀ j, j < ys.length → ∃ g, B = some ⟨g, 0, none⟩ ∧ w.cell? ⟨g, j, none⟩ = some (strV (ys.getD j []))) :
    Calls Tryd.prog 57 #[.slice A xs.length ca, .slice B ys.length cb] w fun e w' => e = .returned (.int .i64 (lcmp xs ys)) ∧ w = w' := by
  have HA := Lib.hid hA
  have HB := Lib.hid hB
  obtain ⟨nx, Hx⟩ := hid_name xs.length
  obtain ⟨ny, Hy⟩ := hid_name ys.length
  rw [Hx.out] at hx ⊢
  rw [Hy.out] at hy ⊢
  clear hA hB
  go_enter Tryd.func57, Tryd.ntmps57
  go_wp2_with fail
  go_loop [11] (fun i => ∃ k : Nat, i = .int .i64 k ∧ k ≤ nx ∧ k ≤ ny ∧ Hid (xs.take k = ys.take k)) (fun i => nx - (intOf i).toNat)
  case atStart => exact ⟨0, rfl, Nat.zero_le _, Nat.zero_le _, rfl⟩
  case round =>
    obtain ⟨k, rfl, hk1, hk2, HE⟩ := hrel
    by_cases hlt1 : k < nx
    · obtain ⟨ga, rfl, hca⟩ := HA.out k (by rw [Hx.out]; exact hlt1)
      unfold strV at hca
      obtain ⟨sx, Hsx⟩ := hid_name (⟨(xs.getD k []).toArray⟩ : ByteArray)
      have ex : sx.toList = xs.getD k [] := by rw [ByteArray.toList_eq, ← Hsx.out]
      rw [Hsx.out] at hca
      by_cases hlt2 : k < ny
      · obtain ⟨gb, rfl, hcb⟩ := HB.out k (by rw [Hy.out]; exact hlt2)
        obtain ⟨st1, st2⟩ := cmpS_step xs ys k HE.out (by rw [Hx.out]; exact hlt1) (by rw [Hy.out]; exact hlt2)
        unfold strV at hcb
        obtain ⟨sy, Hsy⟩ := hid_name (⟨(ys.getD k []).toArray⟩ : ByteArray)
        have ey : sy.toList = ys.getD k [] := by rw [ByteArray.toList_eq, ← Hsy.out]
        rw [Hsy.out] at hcb
        rw [← ex, ← ey] at st1 st2
        clear ex ey
        obtain ⟨c, Hc⟩ := hid_name (cmpS sx.toList sy.toList)
        rw [Hc.out] at st1 st2
        by_cases hc : c = 0
        · have HE1 := Lib.hid (st2 hc)
          have hc' : (c != 0) = false := by simp [hc]
          clear st1 st2 hc
          go_wp2_with fail
          refine (cmps_any _ _ _).mono ?_; rintro e w' ⟨rfl, rfl⟩
          rw [Hc.out]
          go_wp2_with fail
          go_round
          case rel => exact ⟨k + 1, by go_num, by omega, by omega, HE1⟩
          case measure => simp [intOf]; omega
        · have HR := Lib.hid (st1 hc)
          have hc' : (c != 0) = true := by simp [hc]
          clear st1 st2 hc
          go_wp2_with fail
          refine (cmps_any _ _ _).mono ?_; rintro e w' ⟨rfl, rfl⟩
          rw [Hc.out]
          go_wp2_with fail
          go_ret
          exact ⟨ret_int HR.out.symm, rfl⟩
      · have HR : Hid (lcmp xs ys = 1) := by
          unfold Hid
          rw [lcmp_end xs ys k HE.out (by rw [Hx.out]; exact hk1) (by rw [Hy.out]; exact hk2) (.inr (by rw [Hy.out]; omega)), Hx.out, Hy.out, sgn_gt (by omega)]
        clear ex
        go_wp2_with fail
        go_ret
        exact ⟨ret_int HR.out.symm, rfl⟩
    · by_cases hlt2 : k < ny
      · have HR : Hid (lcmp xs ys = -1) := by
          unfold Hid
          rw [lcmp_end xs ys k HE.out (by rw [Hx.out]; exact hk1) (by rw [Hy.out]; exact hk2) (.inl (by rw [Hx.out]; omega)), Hx.out, Hy.out, sgn_lt (by omega)]
        obtain rfl : k = nx := by omega
        go_wp2_with fail
        go_ret
        exact ⟨ret_int HR.out.symm, rfl⟩
      · have HR : Hid (lcmp xs ys = 0) := by
          unfold Hid
          rw [lcmp_end xs ys k HE.out (by rw [Hx.out]; exact hk1) (by rw [Hy.out]; exact hk2) (.inl (by rw [Hx.out]; omega)), Hx.out, Hy.out, sgn_eq (by omega) (by omega)]
        obtain rfl : k = nx := by omega
        go_wp2_with fail
        go_ret
        exact ⟨ret_int HR.out.symm, rfl⟩
def partObj (s : ByteArray) : Obj := .cells (strC (partsL 47 s.data.toList)).toArray 9
theorem less_any (a b : ByteArray) (w : World) (ha : a.size < 4294967281) (hb : b.size < 4294967281) :
    Calls Tryd.prog 35 #[.string a, .string b] w fun e w' => e = .returned (.int .i64 (pcmp a.data.toList b.data.toList)) ∧ w' = (w.alloc (partObj a)).alloc (partObj b) := by
  have hla := partsL_le 47 a.data.toList
  have hlb := partsL_le 47 b.data.toList
  have h1 : a.data.toList.length = a.size := by simp
  have h2 : b.data.toList.length = b.size := by simp
  have HP := Lib.hid (lcmp_parts a.data.toList b.data.toList)
  have hma : (partsL 47 a.data.toList).length ≤ 8000000000001 := by omega
  have hmb : (partsL 47 b.data.toList).length ≤ 8000000000001 := by omega
  have ht1 : Texts ((w.alloc (partObj a)).alloc (partObj b)) w.heap.size (.slice (some ⟨w.heap.size, 0, none⟩) (partsL 47 a.data.toList).length (partsL 47 a.data.toList).length) (partsL 47 a.data.toList) := (Texts.lit (w := w) (partsL 47 a.data.toList) (by unfold maxLen; omega)).below ((Below.refl _ _).alloc (Nat.le_refl _) _)
  have ht2 : Texts ((w.alloc (partObj a)).alloc (partObj b)) (w.alloc (partObj a)).heap.size (.slice (some ⟨(w.alloc (partObj a)).heap.size, 0, none⟩) (partsL 47 b.data.toList).length (partsL 47 b.data.toList).length) (partsL 47 b.data.toList) := Texts.lit (w := w.alloc (partObj a)) (partsL 47 b.data.toList) (by unfold maxLen; omega)
  have HT1 := Lib.hid ht1
  have HT2 := Lib.hid ht2
  have hpa : Obj.cells (strC (partsL 47 a.data.toList)).toArray 9 = partObj a := rfl
  have hpb : Obj.cells (strC (partsL 47 b.data.toList)).toArray 9 = partObj b := rfl
  have HPA := Lib.hid hpa
  have HPB := Lib.hid hpb
  clear ht1 ht2 h1 h2 hpa hpb hla hlb
  go_enter Tryd.func35, Tryd.ntmps35
  go_wp2_with fail
  refine (Split_slash a _ ha).mono ?_; rintro e w1 ⟨rfl, rfl⟩
  rw [HPA.out]
  go_wp2_with fail
  refine (Split_slash b _ hb).mono ?_; rintro e w2 ⟨rfl, rfl⟩
  rw [HPB.out]
  go_wp2_with fail
  refine (Cmp_any _ _ _ _ (partsL 47 a.data.toList) (partsL 47 b.data.toList) _ hma hmb (fun j hj => ⟨w.heap.size, rfl, HT1.out.cell rfl j hj⟩) (fun j hj => ⟨w.heap.size + 1, rfl, ?_⟩)).mono ?_
  · have := HT2.out.cell (by rfl) j hj
    simpa using this
  rintro e w' ⟨rfl, rfl⟩
  rw [HP.out]
  go_wp2_with fail
  go_ret
  exact ⟨rfl, rfl⟩
end Go.Proofs.YtoplcelimdkjeaaDoor
