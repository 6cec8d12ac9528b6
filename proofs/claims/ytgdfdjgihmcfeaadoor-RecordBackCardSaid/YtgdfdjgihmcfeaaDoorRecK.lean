/- The walks of package record's properties. -/
import Derived.Test.YtgdfdjgihmcfeaaDoorRecG
import Derived.Test.YtgdfdjgihmcfeaaDoorLaid
import Derived.Test.YtgdfdjgihmcfeaaDoorArg
import Derived.Test.YtgdfdjgihmcfeaaDoorRep
import Derived.Test.YtgdfdjgihmcfeaaDoorOctA
set_option linter.unusedVariables false
set_option maxRecDepth 100000
namespace Go.Proofs.YtgdfdjgihmcfeaaDoor
open Go.RowKit
open Go.OpenShut
def keyL (a : RawV) : List UInt8 := 107 :: List.replicate (pick a.a 50).toNat 121
def valL (a : RawV) : List UInt8 := Lib.repeatL (cleanL a.text.data.toList 20) (pick a.b 25).toNat
theorem hasB_repeat (c : UInt8) (l : List UInt8) (n : Nat) (h : hasB c l = false) : hasB c (Lib.repeatL l n) = false := by
  induction n with
  | zero => rfl
  | succ n ih => rw [Lib.repeatL, hasB_app, h, ih]; rfl
theorem hasB_replicate (c d : UInt8) (n : Nat) (h : d ≠ c) : hasB c (List.replicate n d) = false := by
  unfold hasB
  rw [← Bool.not_eq_true, List.any_eq_true]
  rintro ⟨x, hx, e⟩
  rw [(List.mem_replicate.1 hx).2] at e
  exact h (eq_of_beq e)
theorem keyL_len (a : RawV) : 1 ≤ (keyL a).length ∧ (keyL a).length ≤ 50 := by
  obtain ⟨h1, h2⟩ := pick_bd a.a 50 (by omega)
  unfold keyL
  rw [List.length_cons, List.length_replicate]; omega
theorem valL_len (a : RawV) : (valL a).length ≤ 480 := by
  obtain ⟨h1, h2⟩ := pick_bd a.b 25 (by omega)
  have h3 := cleanL_le a.text.data.toList 20
  unfold valL
  rw [Lib.repeatL_length]
  calc (pick a.b 25).toNat * (cleanL a.text.data.toList 20).length ≤ 24 * 20 := Nat.mul_le_mul (by omega) h3
    _ = 480 := rfl
theorem rec_ok (a : RawV) : chkR (keyL a) (valL a) = 0 := by
  obtain ⟨h1, h2⟩ := keyL_len a
  have h3 := valL_len a
  refine chkR_ok (by omega) ?_
  rintro (h | h | h)
  · unfold keyL at h; rw [hasB_cons, hasB_replicate 61 121 _ (by decide)] at h; revert h; decide
  · unfold keyL at h; rw [hasB_cons, hasB_replicate 10 121 _ (by decide)] at h; revert h; decide
  · unfold valL at h; rw [hasB_repeat 0 _ _ (cleanL_has _ _)] at h; cases h
/-- the string that a cell holds -/
def strAt (W : World) (g i : Nat) : ByteArray := match W.cell? ⟨g, i, none⟩ with | some (.string b) => b | _ => ⟨#[]⟩
theorem strAt_of {W : World} {g i : Nat} {b : ByteArray} (h : W.cell? ⟨g, i, none⟩ = some (.string b)) : W.cell? ⟨g, i, none⟩ = some (.string (strAt W g i)) := by
  unfold strAt; rw [h]
/-- the raw thing's own block, the result's, nothing elder turned -/
def RcS (w : World) (kind a b : Int) (text : ByteArray) (W : World) : Prop :=
  Blk W w.heap.size 33 #[.int .i64 kind, .int .i64 a, .int .i64 b, .string text] ∧ (∃ u v : ByteArray, Blk W (w.heap.size + 1) 23 #[.string u, .string v]) ∧ Below w.heap.size w W
section
variable {w W W' : World} {kind a b : Int} {text : ByteArray}
theorem RcS.c1 (h : RcS w kind a b text W) : W.cell? ⟨w.heap.size, 1, none⟩ = some (.int .i64 a) := (blk4 h.1).2.1
theorem RcS.c2 (h : RcS w kind a b text W) : W.cell? ⟨w.heap.size, 2, none⟩ = some (.int .i64 b) := (blk4 h.1).2.2.1
theorem RcS.c3 (h : RcS w kind a b text W) : W.cell? ⟨w.heap.size, 3, none⟩ = some (.string text) := (blk4 h.1).2.2.2
theorem RcS.f0 (h : RcS w kind a b text W) : W.frozen? ⟨w.heap.size + 1, 0, none⟩ = false := by obtain ⟨-, ⟨u, v, h⟩, -⟩ := h; exact (blk2 h).2.1
theorem RcS.f1 (h : RcS w kind a b text W) : W.frozen? ⟨w.heap.size + 1, 1, none⟩ = false := by obtain ⟨-, ⟨u, v, h⟩, -⟩ := h; exact (blk2 h).2.2
theorem RcS.s0 (h : RcS w kind a b text W) : W.cell? ⟨w.heap.size + 1, 0, none⟩ = some (.string (strAt W (w.heap.size + 1) 0)) := by obtain ⟨-, ⟨u, v, h⟩, -⟩ := h; exact strAt_of (blk2 h).1.1
theorem RcS.s1 (h : RcS w kind a b text W) : W.cell? ⟨w.heap.size + 1, 1, none⟩ = some (.string (strAt W (w.heap.size + 1) 1)) := by obtain ⟨-, ⟨u, v, h⟩, -⟩ := h; exact strAt_of (blk2 h).1.2
theorem RcS.drew_ (h : RcS w kind a b text W) : RcS w kind a b text W.drew := ⟨h.1.drew_, by obtain ⟨-, ⟨u, v, h⟩, -⟩ := h; exact ⟨u, v, h.drew_⟩, h.2.2.drew⟩
theorem RcS.below (h : RcS w kind a b text W) (hb : Below W.heap.size W W') : RcS w kind a b text W' :=
  ⟨h.1.below hb h.1.lt, by obtain ⟨-, ⟨u, v, h⟩, -⟩ := h; exact ⟨u, v, h.below hb h.lt⟩, h.2.2.trans (hb.mono (Nat.le_of_lt h.1.lt))⟩
theorem RcS.put (h : RcS w kind a b text W) (x y : ByteArray) : RcS w kind a b text ((W.setCell ⟨w.heap.size + 1, 0, none⟩ (.string x)).setCell ⟨w.heap.size + 1, 1, none⟩ (.string y)) :=
  ⟨h.1.far2 (by omega) _ _, by obtain ⟨-, ⟨u, v, h⟩, -⟩ := h; exact ⟨x, y, h.put2 _ _⟩, Below.set2 h.2.2 (Nat.le_succ _) _ _⟩
theorem RcS.end_ (h : RcS w kind a b text W) (x y : Value) : ((W.setCell ⟨w.heap.size + 1, 0, none⟩ x).setCell ⟨w.heap.size + 1, 1, none⟩ y).cell? ⟨w.heap.size + 1, 0, none⟩ = some x ∧ ((W.setCell ⟨w.heap.size + 1, 0, none⟩ x).setCell ⟨w.heap.size + 1, 1, none⟩ y).cell? ⟨w.heap.size + 1, 1, none⟩ = some y := by
  obtain ⟨-, ⟨u, v, h⟩, -⟩ := h; exact (blk2 (h.put2 x y)).1
end
set_option maxHeartbeats 2000000 in
theorem recorded_any (a : RawV) (ha : a.wf) (w : World) : Calls Tryd.prog 14 #[.agg (rawC a).toArray] w fun e w' => e = .returned (recV (bs (keyL a)) (bs (valL a))) ∧ Below w.heap.size w w' := by
  have hvl := valL_len a
  obtain ⟨kind, a, b, text⟩ := a
  obtain ⟨hk, hA, hB, ht⟩ := ha
  simp only at hk hA hB ht
  unfold keyL valL at *
  unfold recV rawC
  simp only at hvl ⊢
  obtain ⟨p1, p2⟩ := pick_bd a 50 (by omega)
  obtain ⟨q1, q2⟩ := pick_bd b 25 (by omega)
  have HPa := Lib.hid fun W => picked_any a 50 W hA (by omega)
  have HPb := Lib.hid fun W => picked_any b 25 W hB (by omega)
  obtain ⟨n, hn⟩ : ∃ n : Nat, pick a 50 = n := ⟨(pick a 50).toNat, by omega⟩
  obtain ⟨m, hm⟩ : ∃ m : Nat, pick b 25 = m := ⟨(pick b 25).toNat, by omega⟩
  rw [hn] at HPa p1 p2 ⊢
  rw [hm] at HPb q1 q2 hvl ⊢
  rw [Int.toNat_natCast] at hvl
  rw [Int.toNat_natCast, Int.toNat_natCast]
  have HRy : Hid (∀ W, Calls Tryd.prog 28 #[.string ⟨#[121]⟩, .int .i64 (n : Int)] W fun e w' => e = .returned (.string (bs (List.replicate n 121))) ∧ Below W.heap.size W w') := fun W => by
    have e1 : Lib.repeatL (⟨#[121]⟩ : ByteArray).data.toList n = List.replicate n 121 := by
      have := Lib.repeatL_replicate 121 1 n
      rw [Nat.mul_one] at this; exact this
    have h := Tryd.strings_Repeat ⟨#[121]⟩ n W (by omega) (by show 1 * n ≤ _; omega)
    rw [e1] at h; exact h
  have hcl := cleanL_le text.data.toList 20
  have HCl := Lib.hid fun W => clean_any text 20 W (by omega) (by omega)
  have HRc : Hid (∀ W, Calls Tryd.prog 28 #[.string (bs (cleanL text.data.toList 20)), .int .i64 (m : Int)] W fun e w' => e = .returned (.string (bs (Lib.repeatL (cleanL text.data.toList 20) m))) ∧ Below W.heap.size W w') := fun W => by
    have h := Tryd.strings_Repeat (bs (cleanL text.data.toList 20)) m W (by omega) (by
      rw [bs_size]
      calc (cleanL text.data.toList 20).length * m ≤ 20 * 25 := Nat.mul_le_mul hcl (by omega)
        _ ≤ 140737488355328 := by decide)
    exact h
  have HCl' : Hid (∀ W, Calls Tryd.prog 29 #[.string text, .int .i64 20] W fun e w' => e = .returned (.string (bs (cleanL text.data.toList 20))) ∧ Below W.heap.size W w') := HCl.out
  have hys : (bs (List.replicate n (121 : UInt8))).size ≤ 50 := by rw [bs_size, List.length_replicate]; omega
  have hcat : (⟨#[107]⟩ : ByteArray) ++ bs (List.replicate n 121) = bs (107 :: List.replicate n 121) := by
    rw [show (⟨#[107]⟩ : ByteArray) = bs [107] from rfl, bs_cat]; rfl
  obtain ⟨Y, HY⟩ := hid_name (bs (List.replicate n (121 : UInt8)))
  obtain ⟨C, HC⟩ := hid_name (bs (cleanL text.data.toList 20))
  obtain ⟨V, HV⟩ := hid_name (bs (Lib.repeatL (cleanL text.data.toList 20) m))
  obtain ⟨K, HK⟩ := hid_name (bs (107 :: List.replicate n (121 : UInt8)))
  rw [HY.out] at HRy hys hcat
  rw [HC.out] at HCl' HRc
  rw [HV.out] at HRc ⊢
  rw [HK.out] at hcat ⊢
  have padd := add_named hcat (by show 1 + _ ≤ _; omega)
  have r1 : ∀ W : World, RcS w kind a b text W → W.cell? ⟨w.heap.size, 1, none⟩ = some (.int .i64 a) := fun W h => h.c1
  have r2 : ∀ W : World, RcS w kind a b text W → W.cell? ⟨w.heap.size, 2, none⟩ = some (.int .i64 b) := fun W h => h.c2
  have r3 : ∀ W : World, RcS w kind a b text W → W.cell? ⟨w.heap.size, 3, none⟩ = some (.string text) := fun W h => h.c3
  have g0 : ∀ W : World, RcS w kind a b text W → W.frozen? ⟨w.heap.size + 1, 0, none⟩ = false := fun W h => h.f0
  have g1 : ∀ W : World, RcS w kind a b text W → W.frozen? ⟨w.heap.size + 1, 1, none⟩ = false := fun W h => h.f1
  have s0 : ∀ W : World, RcS w kind a b text W → W.cell? ⟨w.heap.size + 1, 0, none⟩ = some (.string (strAt W (w.heap.size + 1) 0)) := fun W h => h.s0
  have s1 : ∀ W : World, RcS w kind a b text W → W.cell? ⟨w.heap.size + 1, 1, none⟩ = some (.string (strAt W (w.heap.size + 1) 1)) := fun W h => h.s1
  have hS0 : RcS w kind a b text ((w.alloc (.cells #[.int .i64 kind, .int .i64 a, .int .i64 b, .string text] 33)).alloc (.cells #[.string ⟨#[]⟩, .string ⟨#[]⟩] 23)) := by
    refine ⟨(Blk.new _ _ _).alloc _, ⟨⟨#[]⟩, ⟨#[]⟩, ?_⟩, ((Below.refl _ _).alloc (Nat.le_refl _) _).alloc (by simp) _⟩
    have h := Blk.new (w.alloc (.cells #[.int .i64 kind, .int .i64 a, .int .i64 b, .string text] 33)) 23 #[.string ⟨#[]⟩, .string ⟨#[]⟩]
    have e : (w.alloc (.cells #[.int .i64 kind, .int .i64 a, .int .i64 b, .string text] 33)).heap.size = w.heap.size + 1 := by simp
    rw [e] at h; exact h
  clear hk hA hB ht hvl hn hm hcl HCl p1 p2 q1 q2 hcat
  go_enter Tryd.func14, Tryd.ntmps14
  go_upto_region 1 with fail
  go_region_held3 (fun W => RcS w kind a b text W)
    (first
      | (with_reducible assumption)
      | (with_reducible refine RcS.drew_ ?_; with_reducible assumption)
      | (with_reducible exact RcS.below (by with_reducible assumption) (by with_reducible assumption))
      | (with_reducible refine RcS.put ?_ _ _; with_reducible assumption))
    (first
      | (go_at_call 18; (first | (with_reducible refine (HPa.out _).mono ?_) | (with_reducible refine (HPb.out _).mono ?_)); rintro e w' ⟨rfl, rfl⟩)
      | (go_at_call 29; refine (HCl'.out _).mono ?_; rintro e wC ⟨rfl, hbC⟩)
      | (go_at_call 28; with_reducible refine (HRy.out _).mono ?_; rintro e wY ⟨rfl, hbY⟩)
      | (go_at_call 28; with_reducible refine (HRc.out _).mono ?_; rintro e wV ⟨rfl, hbV⟩))
  all_goals
    have hSV : RcS w kind a b text wV := RcS.below (RcS.below (RcS.below (RcS.drew_ hS0) hbY) hbC) hbV
    clear s0 s1 g0 g1 r1 r2 r3
    obtain ⟨k0, k1⟩ := hSV.end_ (.string K) (.string V)
    go_wp2_with fail
    exact bodyPost_ret (v := .agg #[.string K, .string V]) (by simp [results, Tryd.results14, go_sem, *]) rfl ⟨rfl, (hSV.put _ _).2.2⟩
theorem rec_len (a : RawV) : (recL (keyL a) (valL a)).length = recN ((keyL a).length + (valL a).length + 3) ∧ (recL (keyL a) (valL a)).length ≤ 536 ∧ 1 ≤ (recL (keyL a) (valL a)).length := by
  have h1 := keyL_len a
  have h2 := valL_len a
  have h3 := recL_len (keyL a) (valL a) (by omega)
  have h4 := recN_bd ((keyL a).length + (valL a).length + 3)
  omega
set_option maxHeartbeats 1000000 in
theorem RecordBack_walk (a0 : RawV) (a1 : ByteArray) (w0 : a0.wf) (w1 : a1.size ≤ maxLen) (r1 : a1.size ≤ 140737488351232) (w : World) (hL : laidMetH Tryd.prog Rows.recordBackRow.laid w) :
    Calls Tryd.prog 5 #[.agg (rawC a0).toArray, .string a1] w fun e w' => e = .returned (.bool true) ∧ Below w.heap.size w w' := by
  have T : Tab w := tab_of_laid hL (by kernel_rfl) (by simp [Rows.recordBackRow])
  clear hL
  have hok := rec_ok a0
  obtain ⟨-, l2, l3⟩ := rec_len a0
  have hkl := keyL_len a0
  have hvl := valL_len a0
  have H1 := Lib.hid fun W => recorded_any a0 w0 W
  have H2 := Lib.hid fun W T => rWrite_any (bs (keyL a0)) (bs (valL a0)) W T (by rw [bs_size]; unfold maxLen; omega) (by rw [bs_size]; unfold maxLen; omega)
  rw [bs_list, bs_list, recW_ok hok] at H2
  have H3 := Lib.hid fun W T => Read_any (bs (recL (keyL a0) (valL a0) ++ a1.data.toList)) W T (by rw [bs_size, List.length_append, size_list]; omega)
  rw [bs_list, recR_text _ _ _ hok] at H3
  unfold rdV at H3
  simp only [bs_of] at H3
  have hcat : bs (recL (keyL a0) (valL a0)) ++ a1 = bs (recL (keyL a0) (valL a0) ++ a1.data.toList) := by rw [← bs_cat, bs_of]
  have hemp : (bs (recL (keyL a0) (valL a0))).toList.isEmpty = false := str_some (by rw [bs_size]; omega)
  have hss : (bs (recL (keyL a0) (valL a0))).size ≤ 536 := by rw [bs_size]; exact l2
  obtain ⟨SM, HSM⟩ := hid_name (bs (recL (keyL a0) (valL a0) ++ a1.data.toList))
  obtain ⟨S, HS⟩ := hid_name (bs (recL (keyL a0) (valL a0)))
  obtain ⟨K, HK⟩ := hid_name (bs (keyL a0))
  obtain ⟨V, HV⟩ := hid_name (bs (valL a0))
  rw [HSM.out] at H3 hcat
  rw [HS.out] at H2 hcat hemp hss
  rw [HK.out, HV.out] at H1 H2 H3
  unfold recV at H1 H2 H3
  have padd := add_named hcat (by omega)
  obtain ⟨R, HR⟩ := hid_name (rawC a0).toArray
  obtain ⟨kind, a, b, text⟩ := a0
  unfold rawC at H1 ⊢
  simp only at H1 ⊢
  have hw0 : Below w.heap.size w (w.alloc (.cells #[.int .i64 kind, .int .i64 a, .int .i64 b, .string text] 33)) := (Below.refl _ _).alloc (Nat.le_refl _) _
  clear hok l2 l3 hkl hvl hcat
  go_enter Tryd.func5, Tryd.ntmps5
  go_wp2_with fail
  refine (H1.out _).mono ?_; rintro e1 x1 ⟨rfl, hb⟩
  have hw1 := hw0.trans (hb.mono hw0.size)
  have hb1 := Blk.new x1 23 #[.string K, .string V]
  have hw1' : Below w.heap.size w (x1.alloc (.cells #[.string K, .string V] 23)) := hw1.alloc hw1.size _
  clear hw0 hb hw1
  go_wp2_with fail
  refine (H2.out _ (T.below hw1')).mono ?_; rintro e1 x2 ⟨rfl, hb⟩
  have hb2 := hb1.below hb hb1.lt
  have hw2 := hw1'.trans (hb.mono hw1'.size)
  clear hb1 hw1' hb
  go_wp2_with fail
  refine (H3.out _ (T.below hw2)).mono ?_; rintro e1 x3 ⟨rfl, hb⟩
  have hb3 := (hb2.below hb hb2.lt).alloc (.cells #[.string K, .string V] 23)
  have hw3 := hw2.trans (hb.mono hw2.size)
  have hn3 := Blk.new x3 23 #[.string K, .string V]
  have HW3 := Lib.hid (hw3.alloc hw3.size (.cells #[.string K, .string V] 23))
  obtain ⟨⟨c0, c1⟩, -⟩ := blk2 hb3
  obtain ⟨⟨d0, d1⟩, -⟩ := blk2 hn3
  clear hb2 hw2 hb hb3 hw3 hn3
  go_wp2_with fail
  go_ret
  exact ⟨rfl, HW3.out⟩
theorem pos_rec (k v : List UInt8) : pos 32 (recL k v) = (Lib.decDigits (recN (k.length + v.length + 3))).length ∧ hasB 32 (recL k v) = true := by
  unfold recL recT
  constructor
  · rw [pos_app _ _ _ (no32 (isD_dig _)), pos_cons, if_pos rfl]; rfl
  · rw [hasB_app, hasB_cons]; simp
theorem suf_rec (k v : List UInt8) : Lib.hasSuffix (recL k v) [10] = true := by
  have e : recL k v = (Lib.decDigits (recN (k.length + v.length + 3)) ++ 32 :: (k ++ 61 :: v)) ++ [10] := by unfold recL recT; simp
  rw [e, suf_snoc]; rfl
set_option maxHeartbeats 1000000 in
theorem RecordLong_walk (a0 : RawV) (w0 : a0.wf) (w : World) (hL : laidMetH Tryd.prog Rows.recordLongRow.laid w) :
    Calls Tryd.prog 6 #[.agg (rawC a0).toArray] w fun e w' => e = .returned (.bool true) ∧ Below w.heap.size w w' := by
  have T : Tab w := tab_of_laid hL (by kernel_rfl) (by simp [Rows.recordLongRow])
  clear hL
  have hok := rec_ok a0
  obtain ⟨l1, l2, l3⟩ := rec_len a0
  have hkl := keyL_len a0
  have hvl := valL_len a0
  obtain ⟨hp1, hp2⟩ := pos_rec (keyL a0) (valL a0)
  have H1 := Lib.hid fun W => recorded_any a0 w0 W
  have H2 := Lib.hid fun W T => rWrite_any (bs (keyL a0)) (bs (valL a0)) W T (by rw [bs_size]; unfold maxLen; omega) (by rw [bs_size]; unfold maxLen; omega)
  rw [bs_list, bs_list, recW_ok hok] at H2
  have H3 := Lib.hid fun W => Cut_one (bs (recL (keyL a0) (valL a0))) 32 W (by rw [bs_size]; unfold maxLen; omega)
  rw [bs_list, hp1, hp2] at H3
  have e1 : (recL (keyL a0) (valL a0)).take (Lib.decDigits (recN ((keyL a0).length + (valL a0).length + 3))).length = Lib.decDigits (recL (keyL a0) (valL a0)).length := by
    conv => lhs; arg 2; unfold recL
    rw [List.take_left, l1]
  rw [e1] at H3
  have H4 := Lib.hid fun W T => Itoa_nat (recL (keyL a0) (valL a0)).length W T (by omega)
  have H5 : Hid (∀ W, Calls Tryd.prog 17 #[.string (bs (recL (keyL a0) (valL a0))), .string ⟨#[10]⟩] W fun e w' => e = .returned (.bool true) ∧ w' = W) := fun W => by
    have h := Tryd.strings_HasSuffix (bs (recL (keyL a0) (valL a0))) ⟨#[10]⟩ W (by rw [bs_size]; omega)
    rw [bs_list, show (⟨#[10]⟩ : ByteArray).data.toList = [10] from rfl, suf_rec] at h; exact h
  rw [← bs_size] at H3 H4
  obtain ⟨Z, HZ⟩ := hid_name (bs (List.drop ((Lib.decDigits (recN ((keyL a0).length + (valL a0).length + 3))).length + 1) (recL (keyL a0) (valL a0))))
  rw [HZ.out] at H3
  have hss : (bs (recL (keyL a0) (valL a0))).size ≤ 536 := by rw [bs_size]; exact l2
  obtain ⟨S, HS⟩ := hid_name (bs (recL (keyL a0) (valL a0)))
  obtain ⟨K, HK⟩ := hid_name (bs (keyL a0))
  obtain ⟨V, HV⟩ := hid_name (bs (valL a0))
  rw [HS.out] at H2 H3 H4 H5 hss
  obtain ⟨D, HD⟩ := hid_name (bs (Lib.decDigits S.size))
  rw [HD.out] at H3 H4
  rw [HK.out, HV.out] at H1 H2
  unfold recV at H1 H2
  obtain ⟨kind, a, b, text⟩ := a0
  unfold rawC at H1 ⊢
  simp only at H1 ⊢
  have hw0 : Below w.heap.size w (w.alloc (.cells #[.int .i64 kind, .int .i64 a, .int .i64 b, .string text] 33)) := (Below.refl _ _).alloc (Nat.le_refl _) _
  clear hok l1 l2 l3 hkl hvl hp1 hp2 e1
  go_enter Tryd.func6, Tryd.ntmps6
  go_wp2_with fail
  refine (H1.out _).mono ?_; rintro e1 x1 ⟨rfl, hb⟩
  have hw1 := hw0.trans (hb.mono hw0.size)
  clear hw0 hb
  go_wp2_with fail
  refine (H2.out _ (T.below hw1)).mono ?_; rintro e1 x2 ⟨rfl, hb⟩
  have hw2 := hw1.trans (hb.mono hw1.size)
  clear hw1 hb
  go_wp2_with fail
  refine (H3.out _).mono ?_; rintro e1 x3 ⟨rfl, n3, rfl⟩
  have hw3 := below_drewN hw2 n3
  clear hw2
  go_wp2_with fail
  refine (H4.out _ (T.below hw3)).mono ?_; rintro e1 x4 ⟨rfl, hb⟩
  have HW4 := Lib.hid (hw3.trans (hb.mono hw3.size))
  clear hw3 hb
  go_wp2_with fail
  refine (H5.out _).mono ?_; rintro e1 x5 ⟨rfl, rfl⟩
  go_wp2_with fail
  go_ret
  exact ⟨rfl, HW4.out⟩
set_option maxHeartbeats 1000000 in
theorem RecordTorn_walk (a0 : RawV) (a1 : Int) (w0 : a0.wf) (w1 : (Lit.int .i64 a1).wf = true) (w : World) (hL : laidMetH Tryd.prog Rows.recordTornRow.laid w) :
    Calls Tryd.prog 7 #[.agg (rawC a0).toArray, .int .i64 a1] w fun e w' => e = .returned (.bool true) ∧ Below w.heap.size w w' := by
  have T : Tab w := tab_of_laid hL (by kernel_rfl) (by simp [Rows.recordTornRow])
  clear hL
  have hok := rec_ok a0
  obtain ⟨-, l2, l3⟩ := rec_len a0
  have hkl := keyL_len a0
  have hvl := valL_len a0
  have H1 := Lib.hid fun W => recorded_any a0 w0 W
  have H2 := Lib.hid fun W T => rWrite_any (bs (keyL a0)) (bs (valL a0)) W T (by rw [bs_size]; unfold maxLen; omega) (by rw [bs_size]; unfold maxLen; omega)
  rw [bs_list, bs_list, recW_ok hok] at H2
  have hss : (bs (recL (keyL a0) (valL a0))).size ≤ 536 := by rw [bs_size]; exact l2
  have hs1 : 1 ≤ (bs (recL (keyL a0) (valL a0))).size := by rw [bs_size]; exact l3
  have hemp : (bs (recL (keyL a0) (valL a0))).toList.isEmpty = false := str_some (by rw [bs_size]; omega)
  obtain ⟨p1, p2⟩ := pick_bd a1 ((bs (recL (keyL a0) (valL a0))).size : Int) (by omega)
  have H3 := Lib.hid fun W => picked_any a1 ((bs (recL (keyL a0) (valL a0))).size : Int) W w1 (by omega)
  obtain ⟨j, hj⟩ : ∃ j : Nat, pick a1 ((bs (recL (keyL a0) (valL a0))).size : Int) = j := ⟨(pick a1 ((bs (recL (keyL a0) (valL a0))).size : Int)).toNat, by omega⟩
  rw [hj] at H3 p1 p2
  have hjl : j < (recL (keyL a0) (valL a0)).length := by rw [bs_size] at p2; omega
  have hto := recR_torn (keyL a0) (valL a0) hok j hjl
  have HE := Lib.hid (ext0_list (bs (recL (keyL a0) (valL a0))) j)
  rw [bs_list] at HE
  rw [← HE.out] at hto
  have H4 := Lib.hid fun W T => Read_any ((bs (recL (keyL a0) (valL a0))).extract 0 j) W T (by rw [ByteArray.size_extract]; omega)
  obtain ⟨r, hr⟩ : ∃ r, recR ((bs (recL (keyL a0) (valL a0))).extract 0 j).data.toList = r := ⟨_, rfl⟩
  rw [hr] at H4 hto
  obtain ⟨rk, rv, rr, rc⟩ := r
  unfold rdV recV at H4
  simp only at H4 hto
  have hne : (rc != 0) = true := by simpa using hto
  obtain ⟨S, HS⟩ := hid_name (bs (recL (keyL a0) (valL a0)))
  obtain ⟨K, HK⟩ := hid_name (bs (keyL a0))
  obtain ⟨V, HV⟩ := hid_name (bs (valL a0))
  rw [HS.out] at H2 H3 H4 hss hemp p2 hs1
  rw [HK.out, HV.out] at H1 H2
  unfold recV at H1 H2
  obtain ⟨B, HB⟩ := hid_name (S.extract 0 j)
  rw [HB.out] at H4
  obtain ⟨X1, HX1⟩ := hid_name (bs rk)
  obtain ⟨X2, HX2⟩ := hid_name (bs rv)
  obtain ⟨X3, HX3⟩ := hid_name (bs rr)
  rw [HX1.out, HX2.out, HX3.out] at H4
  obtain ⟨kind, a, b, text⟩ := a0
  unfold rawC at H1 ⊢
  simp only at H1 ⊢
  have hw0 : Below w.heap.size w (w.alloc (.cells #[.int .i64 kind, .int .i64 a, .int .i64 b, .string text] 33)) := (Below.refl _ _).alloc (Nat.le_refl _) _
  have hjS : (j : Int) ≤ (S.size : Int) := by omega
  clear hok l2 l3 hkl hvl hj hjl hr hto HE
  go_enter Tryd.func7, Tryd.ntmps7
  go_wp2_with fail
  refine (H1.out _).mono ?_; rintro e1 x1 ⟨rfl, hb⟩
  have hw1 := hw0.trans (hb.mono hw0.size)
  clear hw0 hb
  go_wp2_with fail
  refine (H2.out _ (T.below hw1)).mono ?_; rintro e1 x2 ⟨rfl, hb⟩
  have hw2 := hw1.trans (hb.mono hw1.size)
  clear hw1 hb
  go_wp2_with fail
  refine (H3.out _).mono ?_; rintro e1 x3 ⟨rfl, rfl⟩
  go_wp2_with fail
  rw [HB.out]
  refine (H4.out _ (T.below hw2)).mono ?_; rintro e1 x4 ⟨rfl, hb⟩
  have hw4 := hw2.trans (hb.mono hw2.size)
  have HW4 := Lib.hid (hw4.alloc hw4.size (.cells #[.string X1, .string X2] 23))
  clear hw2 hb hw4
  go_wp2_with fail
  go_ret
  exact ⟨rfl, HW4.out⟩
end Go.Proofs.YtgdfdjgihmcfeaaDoor
