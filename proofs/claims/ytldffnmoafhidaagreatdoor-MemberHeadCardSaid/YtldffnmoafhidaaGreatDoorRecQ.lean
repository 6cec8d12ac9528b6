/- slices.Equal at records; comparing headers. -/
import Derived.Test.YtldffnmoafhidaaGreatDoorPaxF
import Derived.Test.YtldffnmoafhidaaGreatDoorMea
import Derived.Test.YtldffnmoafhidaaGreatDoorNod
set_option linter.unusedVariables false
set_option maxRecDepth 100000
namespace Go.Proofs.YtldffnmoafhidaaGreatDoor
open Go.RowKit
open Go.OpenShut
theorem rec_neq (a b : Rc) : ∀ W : World, (binOp .neq 45 (.agg #[.string (bs a.1), .string (bs a.2)]) (.agg #[.string (bs b.1), .string (bs b.2)])).run Tryz.prog W = .ok (.bool (!decide (a = b))) W := by
  intro W
  obtain ⟨a0, a1⟩ := a
  obtain ⟨b0, b1⟩ := b
  have q0 := bs_eq (a := a0) (b := b0)
  have q1 := bs_eq (a := a1) (b := b1)
  have hx : decide ((a0, a1) = (b0, b1)) = (decide (a0 = b0) && decide (a1 = b1)) := by
    rw [Bool.eq_iff_iff]
    simp only [decide_eq_true_eq, Bool.and_eq_true, Prod.mk.injEq]
  rw [hx, ← q0, ← q1]
  clear hx q0 q1
  go_simp
  generalize (bs a0).toList = u0
  generalize (bs b0).toList = v0
  generalize (bs a1).toList = u1
  generalize (bs b1).toList = v1
  by_cases h0 : u0 = v0
  · by_cases h1 : u1 = v1
    · simp [h0, h1]
    · simp [h0, h1]
  · simp [h0]
theorem take_eq_rc {l m : List Rc} {k : Nat} (hl : k < l.length) (hm : k < m.length) (h : l.take k = m.take k) (e : l[k] = m[k]) : l.take (k + 1) = m.take (k + 1) := by
  rw [List.take_succ_eq_append_getElem hl, List.take_succ_eq_append_getElem hm, h, e]
set_option maxHeartbeats 1000000 in
theorem equalR_any (A A2 : Option Addr) (n c n2 c2 : Nat) (l l2 : List Rc) (hn : l.length = n) (hn2 : l2.length = n2) (hm : n ≤ 140737488355328) (hm2 : n2 ≤ 140737488355328) (w : World) (hA : RecsAt w A l) (hA2 : RecsAt w A2 l2) :
    Calls Tryz.prog 16 #[.slice A n c, .slice A2 n2 c2] w fun e w' => e = .returned (.bool (decide (l = l2))) ∧ Below w.heap.size w w' := by
  by_cases hne : n = n2
  · subst hne
    have HN := Lib.hid hn
    have HN2 := Lib.hid hn2
    have HA := Lib.hid hA
    have HA2 := Lib.hid hA2
    clear hn hn2 hA hA2
    go_enter Tryz.func16, Tryz.ntmps16
    go_wp2_with fail
    go_loopw [13] (fun iv wr => ∃ k : Nat, k ≤ n ∧ iv = .int .i64 k ∧ Hid (l.take k = l2.take k) ∧ Hid (Below w.heap.size w wr)) (fun iv _ => n - (intOf iv).toNat)
    case atStart => exact ⟨0, Nat.zero_le _, rfl, rfl, Below.refl _ _⟩
    case round =>
      obtain ⟨k, hk, rfl, HT, HB⟩ := hrel
      by_cases hlt : k < n
      · have k1 : k < l.length := by rw [HN.out]; exact hlt
        have k2 : k < l2.length := by rw [HN2.out]; exact hlt
        obtain ⟨b, o, rfl, x0, x1⟩ := HA.out.below HB.out k k1
        obtain ⟨b', o', rfl, y0, y1⟩ := HA2.out.below HB.out k k2
        have h1 : (k : Int) < (n : Int) := by omega
        have h2 : (0 : Int) ≤ (k : Int) := by omega
        have hq := rec_neq l[k] l2[k]
        by_cases he : l[k] = l2[k]
        · have HT1 := Lib.hid (take_eq_rc k1 k2 HT.out he)
          rw [decide_eq_true he] at hq
          generalize l[k] = z at x0 x1 hq
          generalize l2[k] = z2 at y0 y1 hq
          obtain ⟨P, hP⟩ := hid_name (bs z.1)
          obtain ⟨Q, hQ⟩ := hid_name (bs z.2)
          obtain ⟨R, hR⟩ := hid_name (bs z2.1)
          obtain ⟨S, hS⟩ := hid_name (bs z2.2)
          rw [hP.out] at x0 hq
          rw [hQ.out] at x1 hq
          rw [hR.out] at y0 hq
          rw [hS.out] at y1 hq
          clear he
          go_upto_region 6 with fail
          go_quiet (fail)
          go_wp2_with fail
          go_roundw
          case rel => exact ⟨k + 1, by omega, by go_num, HT1.out, below_drewN HB.out _⟩
          case measure => simp [intOf]; omega
        · have HR : Hid (decide (l = l2) = false) := decide_eq_false fun h => he (by simp only [h])
          rw [decide_eq_false he] at hq
          generalize l[k] = z at x0 x1 hq
          generalize l2[k] = z2 at y0 y1 hq
          obtain ⟨P, hP⟩ := hid_name (bs z.1)
          obtain ⟨Q, hQ⟩ := hid_name (bs z.2)
          obtain ⟨R, hR⟩ := hid_name (bs z2.1)
          obtain ⟨S, hS⟩ := hid_name (bs z2.2)
          rw [hP.out] at x0 hq
          rw [hQ.out] at x1 hq
          rw [hR.out] at y0 hq
          rw [hS.out] at y1 hq
          clear he
          go_upto_region 6 with fail
          go_quiet (fail)
          go_wp2_with fail
          go_ret
          exact ⟨ret_bool HR.out.symm, below_drewN HB.out _⟩
      · obtain rfl : k = n := by omega
        have HR : Hid (decide (l = l2) = true) := by
          have := HT.out
          rw [List.take_of_length_le (by rw [HN.out]; exact Nat.le_refl _), List.take_of_length_le (by rw [HN2.out]; exact Nat.le_refl _)] at this
          exact decide_eq_true this
        go_wp2_with fail
        go_ret
        exact ⟨ret_bool HR.out.symm, HB.out⟩
  · have HR : Hid (decide (l = l2) = false) := decide_eq_false fun h => hne (by rw [← hn, ← hn2, h])
    have h1 : ((n : Int) != (n2 : Int)) = true := by simp; omega
    clear hn hn2 hA hA2
    go_enter Tryz.func16, Tryz.ntmps16
    go_wp2_with fail
    go_ret
    exact ⟨ret_bool HR.out.symm, Below.refl _ _⟩
theorem HeadV.ext_iff' (a b : HeadV) : (a.name = b.name ∧ a.pre = b.pre ∧ a.link = b.link ∧ a.mode = b.mode ∧ a.uid = b.uid ∧ a.gid = b.gid ∧ a.size = b.size ∧ a.time = b.time ∧ a.typ = b.typ ∧ a.user = b.user ∧ a.group = b.group) ↔ a = b := by
  constructor
  · rintro ⟨h1, h2, h3, h4, h5, h6, h7, h8, h9, h10, h11⟩
    cases a; cases b; simp_all
  · rintro rfl; exact ⟨rfl, rfl, rfl, rfl, rfl, rfl, rfl, rfl, rfl, rfl, rfl⟩
instance : DecidableEq HeadV := fun a b => decidable_of_iff _ (HeadV.ext_iff' a b)
theorem u8_eq (a b : UInt8) : ((a.toNat : Int) = (b.toNat : Int)) ↔ a = b := by
  rw [Int.ofNat_inj, UInt8.toNat_inj]
theorem head_eql (a b : HeadV) : ∀ W : World, (binOp .eql 36 (.agg (headC a)) (.agg (headC b))).run Tryz.prog W = .ok (.bool (decide (a = b))) W := by
  intro W
  have l0 : ∀ u v : List UInt8, ((bs u).toList = (bs v).toList) ↔ u = v := fun u v => by rw [ByteArray.toList_eq, ByteArray.toList_eq, bs_list, bs_list]
  obtain ⟨a0, a1, a2, a3, a4, a5, a6, a7, a8, a9, aA⟩ := a
  obtain ⟨b0, b1, b2, b3, b4, b5, b6, b7, b8, b9, bA⟩ := b
  have hx : decide ((⟨a0, a1, a2, a3, a4, a5, a6, a7, a8, a9, aA⟩ : HeadV) = ⟨b0, b1, b2, b3, b4, b5, b6, b7, b8, b9, bA⟩) = decide ((bs a0).toList = (bs b0).toList ∧ (bs a1).toList = (bs b1).toList ∧ (bs a2).toList = (bs b2).toList ∧ a3 = b3 ∧ a4 = b4 ∧ a5 = b5 ∧ a6 = b6 ∧ a7 = b7 ∧ (a8.toNat : Int) = (b8.toNat : Int) ∧ (bs a9).toList = (bs b9).toList ∧ (bs aA).toList = (bs bA).toList) := by
    rw [decide_eq_decide, ← HeadV.ext_iff', l0, l0, l0, l0, l0, u8_eq]
  rw [hx]
  clear hx l0
  unfold headC
  simp only
  go_simp
  generalize (bs a0).toList = u0
  generalize (bs b0).toList = v0
  generalize (bs a1).toList = u1
  generalize (bs b1).toList = v1
  generalize (bs a2).toList = u2
  generalize (bs b2).toList = v2
  generalize (bs a9).toList = u9
  generalize (bs b9).toList = v9
  generalize (bs aA).toList = uA
  generalize (bs bA).toList = vA
  generalize (a8.toNat : Int) = n8
  generalize (b8.toNat : Int) = m8
  by_cases h0 : u0 = v0
  · by_cases h1 : u1 = v1
    · by_cases h2 : u2 = v2
      · by_cases h3 : a3 = b3
        · by_cases h4 : a4 = b4
          · by_cases h5 : a5 = b5
            · by_cases h6 : a6 = b6
              · by_cases h7 : a7 = b7
                · by_cases h8 : n8 = m8
                  · by_cases h9 : u9 = v9
                    · by_cases hA : uA = vA
                      · simp [h0, h1, h2, h3, h4, h5, h6, h7, h8, h9, hA]
                      · simp [h0, h1, h2, h3, h4, h5, h6, h7, h8, h9, hA]
                    · simp [h0, h1, h2, h3, h4, h5, h6, h7, h8, h9]
                  · simp [h0, h1, h2, h3, h4, h5, h6, h7, h8]
                · simp [h0, h1, h2, h3, h4, h5, h6, h7]
              · simp [h0, h1, h2, h3, h4, h5, h6]
            · simp [h0, h1, h2, h3, h4, h5]
          · simp [h0, h1, h2, h3, h4]
        · simp [h0, h1, h2, h3]
      · simp [h0, h1, h2]
    · simp [h0, h1]
  · simp [h0]
end Go.Proofs.YtldffnmoafhidaaGreatDoor
