/- Sums of bytes: the program's and the reference's are the same. -/
import Derived.Test.YtldffnmoafhidaaFldM
import Derived.Test.YtldffnmoafhidaaByt
import Derived.IntWalk
set_option linter.unusedVariables false
set_option maxRecDepth 100000
namespace Go.Proofs.Ytldffnmoafhidaa
open Go.RowKit
open Go.OpenShut
/-- one byte more -/
def stepS (s : Nat) (c : UInt8) : Nat := (s * 31 + c.toNat) % 1000003
/-- the sum of bytes -/
def sumS (l : List UInt8) : Nat := l.foldl stepS 1
theorem stepS_lt (s : Nat) (c : UInt8) : stepS s c < 1000003 := Nat.mod_lt _ (by decide)
theorem foldS_lt : ∀ (l : List UInt8) (s : Nat), s < 1000003 → l.foldl stepS s < 1000003
  | [], s, h => h
  | c :: l, s, h => foldS_lt l (stepS s c) (stepS_lt s c)
theorem sumS_lt (l : List UInt8) : sumS l < 1000003 := foldS_lt l 1 (by decide)
theorem sumS_nil : sumS [] = 1 := rfl
theorem sumS_snoc (l : List UInt8) (c : UInt8) : sumS (l ++ [c]) = stepS (sumS l) c := by unfold sumS; rw [List.foldl_append]; rfl
theorem stepS_inj {s t : Nat} (hs : s < 1000003) (ht : t < 1000003) (c : UInt8) (h : stepS s c = stepS t c) : s = t := by
  unfold stepS at h; omega
theorem stepS_ne {s : Nat} {c d : UInt8} (h : c ≠ d) : stepS s c ≠ stepS s d := by
  have h1 := c.toNat_lt
  have h2 := d.toNat_lt
  have h3 : c.toNat ≠ d.toNat := fun e => h (UInt8.toNat_inj.1 e)
  unfold stepS; omega
theorem foldS_inj : ∀ (l : List UInt8) {s t : Nat}, s < 1000003 → t < 1000003 → l.foldl stepS s = l.foldl stepS t → s = t
  | [], s, t, _, _, h => h
  | c :: l, s, t, hs, ht, h => stepS_inj hs ht c (foldS_inj l (stepS_lt s c) (stepS_lt t c) h)
/-- bytes that differ in one have another sum -/
theorem sumS_set {l : List UInt8} {k : Nat} {c x : UInt8} (hk : l[k]? = some x) (hc : c ≠ x) : sumS (l.set k c) ≠ sumS l := by
  obtain ⟨hk', rfl⟩ := List.getElem?_eq_some_iff.1 hk
  have e1 : l = l.take k ++ (l[k] :: l.drop (k + 1)) := by
    rw [← List.drop_eq_getElem_cons hk', List.take_append_drop]
  have e2 : l.set k c = l.take k ++ (c :: l.drop (k + 1)) := List.set_eq_take_append_cons_drop .. |>.trans (if_pos hk')
  have h1 : sumS (l.take k ++ (l[k] :: l.drop (k + 1))) = (l.drop (k + 1)).foldl stepS (stepS (sumS (l.take k)) l[k]) := by
    unfold sumS; rw [List.foldl_append]; rfl
  have h2 : sumS (l.take k ++ (c :: l.drop (k + 1))) = (l.drop (k + 1)).foldl stepS (stepS (sumS (l.take k)) c) := by
    unfold sumS; rw [List.foldl_append]; rfl
  rw [← e1] at h1
  rw [e2, h1, h2]
  exact fun h => stepS_ne hc (foldS_inj _ (stepS_lt _ _) (stepS_lt _ _) h)
set_option maxHeartbeats 400000 in
theorem wSum_any (A : Option Addr) (n c : Nat) (l : List UInt8) (hn : l.length = n) (hn2 : n ≤ 140737488351232) (w : World) (hA : BytsAt w A l) :
    Calls Try.prog 5 #[.slice A n c] w fun e w' => e = .returned (.int .i64 (sumS l : Nat)) ∧ w = w' := by
  have HN := Lib.hid hn
  have HA := Lib.hid hA
  clear hn hA
  go_enter Try.func5, Try.ntmps5
  go_wp2_with fail
  go_loop [3, 8] (fun o i => ∃ k : Nat, ∃ z : Nat, k ≤ n ∧ i = .int .i64 k ∧ o = .int .i64 z ∧ Hid (z = sumS (l.take k)) ∧ z < 1000003) (fun _ i => n - (intOf i).toNat)
  case atStart => exact ⟨0, 1, Nat.zero_le _, rfl, rfl, rfl, by decide⟩
  case round =>
    obtain ⟨k, z, hk, rfl, rfl, hz, hz2⟩ := hrel
    by_cases hlt : k < n
    · have hkl : k < l.length := by rw [HN.out]; exact hlt
      obtain ⟨b, o, rfl, hc⟩ := HA.out k hkl
      have HS : Hid (sumS (l.take (k + 1)) = stepS z l[k]) := by
        unfold Hid
        rw [List.take_succ_eq_append_getElem hkl, sumS_snoc, hz.out]
      have h8 := l[k].toNat_lt
      have HT := Lib.hid (stepS_lt z l[k])
      have HE : Hid ((stepS z l[k] : Nat) = (z * 31 + l[k].toNat) % 1000003) := rfl
      generalize stepS z l[k] = q at HS HT HE
      generalize l[k].toNat = y at hc h8 HE
      go_wp2_with fail
      go_round
      case rel => exact ⟨k + 1, q, by omega, by go_num, by rw [HE.out]; go_num, HS.out.symm, HT.out⟩
      case measure => simp [intOf]; omega
    · obtain rfl : k = n := by omega
      go_wp2_with fail
      go_ret
      exact ⟨ret_int (by rw [hz.out, ← HN.out, List.take_length]), rfl⟩
set_option maxHeartbeats 400000 in
theorem rArcSum_any (A : Option Addr) (n c : Nat) (l : List UInt8) (hn : l.length = n) (hn2 : n ≤ 140737488351232) (w : World) (hA : BytsAt w A l) :
    Calls Try.prog 6 #[.slice A n c] w fun e w' => e = .returned (.int .i64 (sumS l : Nat)) ∧ w = w' := by
  have HN := Lib.hid hn
  have HA := Lib.hid hA
  clear hn hA
  go_enter Try.func6, Try.ntmps6
  go_wp2_with fail
  go_loop [3, 4] (fun o i => ∃ k : Nat, ∃ z : Nat, k ≤ n ∧ i = .int .i64 k ∧ o = .int .i64 z ∧ Hid (z = sumS (l.take k)) ∧ z < 1000003) (fun _ i => n - (intOf i).toNat)
  case atStart => exact ⟨0, 1, Nat.zero_le _, rfl, rfl, rfl, by decide⟩
  case round =>
    obtain ⟨k, z, hk, rfl, rfl, hz, hz2⟩ := hrel
    by_cases hlt : k < n
    · have hkl : k < l.length := by rw [HN.out]; exact hlt
      obtain ⟨b, o, rfl, hc⟩ := HA.out k hkl
      have HS : Hid (sumS (l.take (k + 1)) = stepS z l[k]) := by
        unfold Hid
        rw [List.take_succ_eq_append_getElem hkl, sumS_snoc, hz.out]
      have h8 := l[k].toNat_lt
      have HT := Lib.hid (stepS_lt z l[k])
      have HE : Hid ((stepS z l[k] : Nat) = (z * 31 + l[k].toNat) % 1000003) := rfl
      generalize stepS z l[k] = q at HS HT HE
      generalize l[k].toNat = y at hc h8 HE
      go_wp2_with fail
      go_round
      case rel => exact ⟨k + 1, q, by omega, by go_num, by rw [HE.out]; go_num, HS.out.symm, HT.out⟩
      case measure => simp [intOf]; omega
    · obtain rfl : k = n := by omega
      go_wp2_with fail
      go_ret
      exact ⟨ret_int (by rw [hz.out, ← HN.out, List.take_length]), rfl⟩
theorem WriteSums_walk (A0 : Option Addr) (n0 c0 : Nat) (l0 : List UInt8) (hn0 : l0.length = n0) (hm0 : n0 ≤ 140737488351232) (hc0 : n0 ≤ c0 ∧ c0 ≤ maxLen ∧ (A0 = none → c0 = 0)) (w : World) (hr0 : BytsAt w A0 l0) :
    Calls Try.prog 3 #[.slice A0 n0 c0] w fun e w' => e = .returned (.bool true) ∧ Below w.heap.size w w' := by
  have H1 := Lib.hid fun W hA => wSum_any A0 n0 c0 l0 hn0 hm0 W hA
  have H2 := Lib.hid fun W hA => rArcSum_any A0 n0 c0 l0 hn0 hm0 W hA
  have HA := Lib.hid hr0
  have hlt := sumS_lt l0
  generalize sumS l0 = z at H1 H2 hlt
  clear hn0 hm0 hc0 hr0
  go_enter Try.func3, Try.ntmps3
  go_wp2_with fail
  refine (H1.out _ HA.out).mono ?_; rintro e w' ⟨rfl, rfl⟩
  go_wp2_with fail
  refine (H2.out _ HA.out).mono ?_; rintro e w' ⟨rfl, rfl⟩
  go_wp2_with fail
  go_ret
  exact ⟨rfl, Below.refl _ _⟩
end Go.Proofs.Ytldffnmoafhidaa
