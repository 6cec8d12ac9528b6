/- What is said of rules, and what they take: mathematics; the reference's RulesFault, taken, RulesTake. -/
import Derived.Test.YtilmfnlhpnbngaaGreatDoorGlb
import Derived.Test.YtilmfnlhpnbngaaGreatDoorRul
set_option linter.unusedVariables false
set_option maxRecDepth 100000
namespace Go.Proofs.YtilmfnlhpnbngaaGreatDoor
open Go.RowKit
open Go.OpenShut
/-- what is said of rules, one by one -/
def rulesP : List RuleV → Int
  | [] => 0
  | r :: l => if globE r.2 = 0 then rulesP l else globE r.2
def rulesE (l : List RuleV) : Int := if 12 < l.length then 1 else rulesP l
/-- what the rules behind say of a path, where those ahead said is -/
def takenG (is : Bool) : List RuleV → List UInt8 → Bool
  | [], _ => is
  | r :: l, s => takenG (if fitsB r.2 s = true then r.1 else is) l s
def takenF (l : List RuleV) (s : List UInt8) : Bool := takenG true l s
def takeE (l : List RuleV) (s : List UInt8) : Int := if rulesE l = 0 then pathE s else rulesE l
def takeB (l : List RuleV) (s : List UInt8) : Bool := decide (takeE l s = 0) && takenF l s
theorem rulesP_cons (r : RuleV) (l : List RuleV) : rulesP (r :: l) = if globE r.2 = 0 then rulesP l else globE r.2 := rfl
theorem takenG_cons (is : Bool) (r : RuleV) (l : List RuleV) (s : List UInt8) : takenG is (r :: l) s = takenG (if fitsB r.2 s = true then r.1 else is) l s := rfl
/-- a pattern's bytes -/
def okR (qs : List RuleV) : Prop := ∀ q ∈ qs, q.2.length ≤ 140737488351232
theorem rule_cells {w : World} {A : Option Addr} {qs : List RuleV} (h : RulesAt w A qs) {k : Nat} (hk : k < qs.length) {r : RuleV} (hr : qs[k] = r) {P : ByteArray} (hP : (⟨r.2.toArray⟩ : ByteArray) = P) :
    ∃ b o, A = some ⟨b, o, none⟩ ∧ w.cell? ⟨b, o + k * 2, none⟩ = some (.bool r.1) ∧ w.cell? ⟨b, o + k * 2 + 1, none⟩ = some (.string P) := by
  obtain ⟨b, o, e, h0, h1⟩ := h k hk
  rw [hr] at h0 h1
  unfold strV at h1
  rw [hP] at h1
  exact ⟨b, o, e, h0, h1⟩
set_option maxHeartbeats 2000000 in
theorem RulesFault_any (A : Option Addr) (n c : Nat) (qs : List RuleV) (hn : qs.length = n) (hn2 : n ≤ 140737488355328) (hok : okR qs) (w : World) (hA : RulesAt w A qs) :
    Calls Tryz.prog 24 #[.slice A n c] w fun e w' => e = .returned (.int .i64 (rulesE qs)) ∧ Below w.heap.size w w' := by
  by_cases h12 : 12 < n
  · rw [show rulesE qs = 1 from if_pos (by rw [hn]; exact h12)]
    have h12' : (12 : Int) < (n : Int) := by omega
    clear hn hA hok
    go_enter Tryz.func24, Tryz.ntmps24
    go_wp2_with fail
    go_ret
    exact ⟨rfl, Below.refl _ _⟩
  · rw [show rulesE qs = rulesP qs from if_neg (by rw [hn]; exact h12)]
    have h12' : ¬ (12 : Int) < (n : Int) := by omega
    have HN := Lib.hid hn
    have HA := Lib.hid hA
    have HOk := Lib.hid hok
    clear hn hA hok
    go_enter Tryz.func24, Tryz.ntmps24
    go_wp2_with fail
    go_loopw [11] (fun iv wr => ∃ k : Nat, k ≤ n ∧ iv = .int .i64 k ∧ Hid (rulesP qs = rulesP (qs.drop k)) ∧ Hid (Below w.heap.size w wr)) (fun iv _ => n - (intOf iv).toNat)
    case atStart => exact ⟨0, Nat.zero_le _, rfl, rfl, Below.refl _ _⟩
    case round =>
      obtain ⟨k, hk, rfl, HE, HB⟩ := hrel
      by_cases hlt : k < n
      · have hkq : k < qs.length := by rw [HN.out]; exact hlt
        obtain ⟨r, Hr⟩ := hid_name qs[k]
        obtain ⟨P, HP⟩ := hid_name (⟨r.2.toArray⟩ : ByteArray)
        obtain ⟨b, o, rfl, hc1, hc2⟩ := rule_cells (HA.out.below HB.out) hkq Hr.out HP.out
        have hE := HE.out
        rw [List.drop_eq_getElem_cons hkq, Hr.out, rulesP_cons] at hE
        have hPl : P.data.toList = r.2 := by rw [← HP.out]
        have hsz : P.size ≤ maxLen := by
          have h1 := HOk.out r (by rw [← Hr.out]; exact List.getElem_mem _)
          have h2 : P.data.toList.length = P.size := by simp
          rw [hPl] at h2
          unfold maxLen; omega
        have hgf := fun W => GlobFault_any P W hsz
        rw [hPl] at hgf
        have HG := Lib.hid hgf
        have HB1 := Lib.hid (belowA HB.out (.cells #[.bool r.1, .string P] 33))
        have HBk := Lib.hid (Blk.new wr 33 #[.bool r.1, .string P])
        clear hPl hsz hgf
        go_upto_region 6 with fail
        clear hc1 hc2
        have d1 : (wr.alloc (.cells #[.bool r.1, .string P] 33)).cell? ⟨wr.heap.size, 1, none⟩ = some (.string P) := HBk.out.cell 1
        by_cases h0 : globE r.2 = 0
        · rw [if_pos h0] at hE
          rw [h0] at HG
          have HE1 := Lib.hid hE
          clear hE h0
          go_wp2_with fail
          refine (HG.out _).mono ?_; rintro e w2 ⟨rfl, hb⟩
          have HB2 := Lib.hid (HB1.out.trans (hb.mono HB1.out.size))
          clear hb d1
          go_wp2_with fail
          go_roundw
          case rel => exact ⟨k + 1, by omega, by go_num, HE1.out, HB2.out⟩
          case measure => simp [intOf]; omega
        · rw [if_neg h0] at hE
          obtain ⟨E, HEE⟩ := hid_name (globE r.2)
          rw [HEE.out] at hE h0 HG
          have hne : (E == 0) = false := by simpa using h0
          have HE1 := Lib.hid hE
          clear hE h0
          go_wp2_with fail
          refine (HG.out _).mono ?_; rintro e w2 ⟨rfl, hb⟩
          have HB2 := Lib.hid (HB1.out.trans (hb.mono HB1.out.size))
          clear hb d1
          go_wp2_with fail
          go_ret
          exact ⟨ret_int HE1.out.symm, HB2.out⟩
      · obtain rfl : k = n := by omega
        have HR : Hid (rulesP qs = 0) := by
          have := HE.out
          rwa [List.drop_eq_nil_of_le (by rw [HN.out]; exact Nat.le_refl _)] at this
        go_wp2_with fail
        go_ret
        exact ⟨ret_int HR.out.symm, HB.out⟩
set_option maxHeartbeats 2000000 in
theorem taken_any (A : Option Addr) (n c : Nat) (qs : List RuleV) (hn : qs.length = n) (hn2 : n ≤ 140737488355328) (hok : okR qs) (s : ByteArray) (hs : s.size ≤ maxLen) (w : World) (hA : RulesAt w A qs) :
    Calls Tryz.prog 26 #[.slice A n c, .string s] w fun e w' => e = .returned (.bool (takenF qs s.data.toList)) ∧ Below w.heap.size w w' := by
  have HN := Lib.hid hn
  have HA := Lib.hid hA
  have HOk := Lib.hid hok
  clear hn hA hok
  go_enter Tryz.func26, Tryz.ntmps26
  go_wp2_with fail
  go_loopw [5, 12] (fun bv iv wr => ∃ (k : Nat) (is : Bool), k ≤ n ∧ iv = .int .i64 k ∧ bv = .bool is ∧ Hid (takenF qs s.data.toList = takenG is (qs.drop k) s.data.toList) ∧ Hid (Below w.heap.size w wr)) (fun _ iv _ => n - (intOf iv).toNat)
  case atStart => exact ⟨0, true, Nat.zero_le _, rfl, rfl, rfl, Below.refl _ _⟩
  case round =>
    obtain ⟨k, is, hk, rfl, rfl, HE, HB⟩ := hrel
    by_cases hlt : k < n
    · have hkq : k < qs.length := by rw [HN.out]; exact hlt
      obtain ⟨r, Hr⟩ := hid_name qs[k]
      obtain ⟨P, HP⟩ := hid_name (⟨r.2.toArray⟩ : ByteArray)
      obtain ⟨b, o, rfl, hc1, hc2⟩ := rule_cells (HA.out.below HB.out) hkq Hr.out HP.out
      have hE := HE.out
      rw [List.drop_eq_getElem_cons hkq, Hr.out, takenG_cons] at hE
      have hPl : P.data.toList = r.2 := by rw [← HP.out]
      have hsz : P.size ≤ maxLen := by
        have h1 := HOk.out r (by rw [← Hr.out]; exact List.getElem_mem _)
        have h2 : P.data.toList.length = P.size := by simp
        rw [hPl] at h2
        unfold maxLen; omega
      have hgf := fun W => GlobFits_any P s W hsz hs
      rw [hPl] at hgf
      obtain ⟨rb, rp⟩ := r
      simp only at hc1 hE hgf
      generalize fitsE rp s.data.toList = E at hgf
      have HG := Lib.hid hgf
      have HB1 := Lib.hid (belowA HB.out (.cells #[.bool rb, .string P] 33))
      have HBk := Lib.hid (Blk.new wr 33 #[.bool rb, .string P])
      clear hPl hsz hgf
      go_upto_region 5 with fail
      clear hc1 hc2
      have d1 : (wr.alloc (.cells #[.bool rb, .string P] 33)).cell? ⟨wr.heap.size, 1, none⟩ = some (.string P) := HBk.out.cell 1
      obtain ⟨g, hg⟩ : ∃ g, g = wr.heap.size := ⟨_, rfl⟩
      rw [← hg] at HBk d1 ⊢
      clear hg
      generalize wr.alloc (.cells #[.bool rb, .string P] 33) = w1 at HB1 HBk d1 ⊢
      cases hf : fitsB rp s.data.toList with
      | true =>
        rw [hf] at HG hE
        rw [if_pos rfl] at hE
        have HE1 := Lib.hid hE
        clear hE hf
        go_wp2_with fail
        refine (HG.out _).mono ?_; rintro e w2 ⟨rfl, hb⟩
        have HB2 := Lib.hid (HB1.out.trans (hb.mono HB1.out.size))
        have d0 : w2.cell? ⟨g, 0, none⟩ = some (.bool rb) := (HBk.out.below hb HBk.out.lt).cell 0
        clear hb d1
        go_wp2_with fail
        go_roundw
        case rel => exact ⟨k + 1, rb, by omega, by go_num, rfl, HE1.out, HB2.out⟩
        case measure => simp [intOf]; omega
      | false =>
        rw [hf] at HG hE
        rw [if_neg (by decide)] at hE
        have HE1 := Lib.hid hE
        clear hE hf
        go_wp2_with fail
        refine (HG.out _).mono ?_; rintro e w2 ⟨rfl, hb⟩
        have HB2 := Lib.hid (HB1.out.trans (hb.mono HB1.out.size))
        clear hb d1
        go_wp2_with fail
        go_roundw
        case rel => exact ⟨k + 1, is, by omega, by go_num, rfl, HE1.out, HB2.out⟩
        case measure => simp [intOf]; omega
    · obtain rfl : k = n := by omega
      have HR : Hid (takenF qs s.data.toList = is) := by
        have := HE.out
        rwa [List.drop_eq_nil_of_le (by rw [HN.out]; exact Nat.le_refl _)] at this
      go_wp2_with fail
      go_ret
      exact ⟨ret_bool HR.out.symm, HB.out⟩
end Go.Proofs.YtilmfnlhpnbngaaGreatDoor
