/- Plain mathematics of header blocks; nothing of the program. -/
import Derived.Test.YtjklgadigcobcaaDoorFldM
set_option linter.unusedVariables false
namespace Go.Proofs.YtjklgadigcobcaaDoor
open Go.RowKit
/-! ### the sum of a block -/
def sumB (l : List UInt8) : Nat := (l.map fun c => c.toNat).sum
theorem sumB_nil : sumB [] = 0 := rfl
theorem sumB_cons (c : UInt8) (l : List UInt8) : sumB (c :: l) = c.toNat + sumB l := by simp [sumB]
theorem sumB_app (a b : List UInt8) : sumB (a ++ b) = sumB a + sumB b := by simp [sumB]
theorem sumB_le (l : List UInt8) : sumB l ≤ 255 * l.length := by
  induction l with
  | nil => exact Nat.le_refl _
  | cons c l ih => rw [sumB_cons, List.length_cons]; have := c.toNat_lt; omega
theorem sumB_take (l : List UInt8) (k : Nat) (h : k < l.length) : sumB (l.take (k + 1)) = sumB (l.take k) + l[k].toNat := by
  rw [List.take_succ_eq_append_getElem h, sumB_app, sumB_cons, sumB_nil]; rfl
/-- what the first k bytes of a block sum up to, its checksum field read as spaces -/
def sumK (l : List UInt8) (k : Nat) : Nat := sumB (l.take (min k 148)) + 32 * (min k 156 - 148) + sumB ((l.take k).drop 156)
theorem sumK_zero (l : List UInt8) : sumK l 0 = 0 := by simp [sumK, sumB_nil]
theorem sumK_in (l : List UInt8) (k : Nat) (h : 148 ≤ k) (h2 : k < 156) : sumK l (k + 1) = sumK l k + 32 := by
  unfold sumK
  rw [show min (k + 1) 148 = 148 by omega, show min (k + 1) 156 = k + 1 by omega, show min k 148 = 148 by omega, show min k 156 = k by omega, show (l.take (k + 1)).drop 156 = [] from List.drop_of_length_le (by rw [List.length_take]; omega), show (l.take k).drop 156 = [] from List.drop_of_length_le (by rw [List.length_take]; omega)]
  omega
theorem sumK_out (l : List UInt8) (k : Nat) (h : ¬ (148 ≤ k ∧ k < 156)) (hk : k < l.length) : sumK l (k + 1) = sumK l k + l[k].toNat := by
  unfold sumK
  by_cases h1 : k < 148
  · rw [show min (k + 1) 148 = k + 1 by omega, show min (k + 1) 156 = k + 1 by omega, show min k 148 = k by omega, show min k 156 = k by omega, show (l.take (k + 1)).drop 156 = [] from List.drop_of_length_le (by rw [List.length_take]; omega), show (l.take k).drop 156 = [] from List.drop_of_length_le (by rw [List.length_take]; omega), sumB_take l k hk]
    simp only [sumB_nil]; omega
  · rw [show min (k + 1) 148 = 148 by omega, show min (k + 1) 156 = 156 by omega, show min k 148 = 148 by omega, show min k 156 = 156 by omega, List.take_succ_eq_append_getElem hk, List.drop_append_of_le_length (by rw [List.length_take]; omega), sumB_app, sumB_cons, sumB_nil]
    omega
/-- the sum of a block -/
def sumH (l : List UInt8) : Nat := sumB (l.take 148) + 256 + sumB (l.drop 156)
theorem sumK_all (l : List UInt8) (h : l.length = 512) : sumK l 512 = sumH l := by
  unfold sumK sumH
  rw [show l.take 512 = l from List.take_of_length_le (by omega)]
  rfl
theorem sumK_le (l : List UInt8) (k : Nat) (h : k ≤ 512) : sumK l k ≤ 512 * 255 + 256 + 512 * 255 := by
  unfold sumK
  have h1 := sumB_le (l.take (min k 148))
  have h2 := sumB_le ((l.take k).drop 156)
  rw [List.length_take] at h1
  rw [List.length_drop, List.length_take] at h2
  omega
theorem sumH_lt (l : List UInt8) (h : l.length = 512) : sumH l < 262144 := by
  unfold sumH
  have h1 := sumB_le (l.take 148)
  have h2 := sumB_le (l.drop 156)
  rw [List.length_take] at h1
  rw [List.length_drop] at h2
  omega
theorem sumH_ge (l : List UInt8) : 256 ≤ sumH l := by unfold sumH; omega
def sumV (l : List UInt8) : Int × Int := if l.length = 512 then ((sumH l : Int), 0) else (0, 1)
theorem sumV_ok {l : List UInt8} (h : l.length = 512) : sumV l = ((sumH l : Int), 0) := if_pos h
theorem sumV_no {l : List UInt8} (h : ¬ l.length = 512) : sumV l = (0, 1) := if_neg h
/-- the checksum field is of no matter to the sum -/
theorem sumH_mid (a c b : List UInt8) (ha : a.length = 148) (hc : c.length = 8) : sumH (a ++ (c ++ b)) = sumB a + 256 + sumB b := by
  unfold sumH
  have e : (a ++ (c ++ b)).drop 156 = b := by
    rw [← List.append_assoc, show (156 : Nat) = (a ++ c).length by rw [List.length_append]; omega, List.drop_left]
  rw [List.take_left' ha, e]
theorem split_mid (l : List UInt8) (h : l.length = 512) : ∃ a c b, l = a ++ (c ++ b) ∧ a.length = 148 ∧ c.length = 8 ∧ b.length = 356 ∧ c = (l.take 156).drop 148 := by
  refine ⟨l.take 148, (l.drop 148).take 8, (l.drop 148).drop 8, ?_, ?_, ?_, ?_, ?_⟩
  · rw [List.take_append_drop, List.take_append_drop]
  · rw [List.length_take]; omega
  · rw [List.length_take, List.length_drop]; omega
  · rw [List.length_drop, List.length_drop]; omega
  · rw [List.take_drop]
/-! ### the checksum field -/
def ckL (n : Nat) : List UInt8 := D n 6 ++ [0] ++ [32]
theorem ckL_length (n : Nat) : (ckL n).length = 8 := by simp [ckL]
theorem ckL_inj (n m : Nat) (hn : n < 262144) (hm : m < 262144) (h : ckL n = ckL m) : n = m := by
  unfold ckL at h
  rw [List.append_assoc, List.append_assoc] at h
  have h1 := (List.append_inj h (by simp)).1
  have h2 := congrArg octVal h1
  rw [octVal_D, octVal_D, Nat.mod_eq_of_lt (by omega), Nat.mod_eq_of_lt (by omega)] at h2
  exact h2
theorem octW_ck (n : Nat) (h : n < 262144) : octW (n : Int) 7 = (bs (D n 6 ++ [0]), 0) := by
  rw [octW_yes (by omega) ⟨by omega, by unfold most; simp; omega⟩]; rfl
/-- is the checksum field of a block that of its sum? -/
def ckOk (l : List UInt8) : Bool := decide ((l.take 156).drop 148 = ckL (sumH l))
theorem ckOk_mid (a c b : List UInt8) (ha : a.length = 148) (hc : c.length = 8) : ckOk (a ++ (c ++ b)) = decide (c = ckL (sumB a + 256 + sumB b)) := by
  unfold ckOk
  rw [sumH_mid a c b ha hc]
  have e : ((a ++ (c ++ b)).take 156).drop 148 = c := by
    rw [← List.append_assoc, List.take_append_of_le_length (by rw [List.length_append]; omega), List.take_of_length_le (by rw [List.length_append]; omega), ← ha, List.drop_left]
  rw [e]
theorem sumB_set (l : List UInt8) (i : Nat) (c : UInt8) (h : i < l.length) : sumB (l.set i c) + l[i].toNat = sumB l + c.toNat := by
  induction l generalizing i with
  | nil => cases h
  | cons x l ih =>
    cases i with
    | zero => simp only [List.set_cons_zero, sumB_cons, List.getElem_cons_zero]; omega
    | succ i =>
      have := ih i (by simpa using h)
      simp only [List.set_cons_succ, sumB_cons, List.getElem_cons_succ]; omega
/-- a block with one byte turned is no block -/
theorem turned_no (l : List UInt8) (h : l.length = 512) (hok : ckOk l = true) (i : Nat) (hi : i < 512) (c : UInt8) (hc : c ≠ l[i]) : ckOk (l.set i c) = false := by
  obtain ⟨a, k, b, e, ha, hk, hb, -⟩ := split_mid l h
  subst e
  rw [ckOk_mid a k b ha hk, decide_eq_true_eq] at hok
  have hA := sumB_le a
  have hB := sumB_le b
  by_cases h1 : i < 148
  · rw [List.set_append_left _ _ (by omega), ckOk_mid _ k b (by rw [List.length_set]; exact ha) hk]
    refine decide_eq_false fun e => ?_
    have hs := sumB_set a i c (by omega)
    rw [List.getElem_append_left (by omega)] at hc
    have hlt := (a[i]'(by omega)).toNat_lt
    have hlt2 := c.toNat_lt
    have := ckL_inj _ _ (by omega) (by omega) (hok.symm.trans e)
    exact hc (UInt8.toNat_inj.1 (by omega))
  · rw [List.set_append_right _ _ (by omega)]
    by_cases h2 : i < 156
    · rw [List.set_append_left _ _ (by omega), ckOk_mid a _ b ha (by rw [List.length_set]; exact hk)]
      refine decide_eq_false fun e => ?_
      rw [List.getElem_append_right (by omega), List.getElem_append_left (by omega)] at hc
      have e2 := e.trans hok.symm
      have e3 : (k.set (i - a.length) c)[i - a.length]'(by rw [List.length_set]; omega) = c := List.getElem_set_self (by rw [List.length_set]; omega)
      simp only [e2] at e3
      exact hc e3.symm
    · rw [List.set_append_right _ _ (by omega), ckOk_mid a k _ ha hk]
      refine decide_eq_false fun e => ?_
      have hs := sumB_set b (i - a.length - k.length) c (by omega)
      rw [List.getElem_append_right (by omega), List.getElem_append_right (by omega)] at hc
      have hlt := (b[i - a.length - k.length]'(by omega)).toNat_lt
      have hlt2 := c.toNat_lt
      have := ckL_inj _ _ (by omega) (by omega) (hok.symm.trans e)
      exact hc (UInt8.toNat_inj.1 (by omega))
/-! ### headers -/
structure HeadV where
  name : List UInt8
  pre : List UInt8
  link : List UInt8
  mode : Int
  uid : Int
  gid : Int
  size : Int
  time : Int
  typ : UInt8
  user : List UInt8
  group : List UInt8
def headZ : HeadV := ⟨[], [], [], 0, 0, 0, 0, 0, 0, [], []⟩
def typB (c : UInt8) : Bool := hasB c [48, 49, 50, 53, 120]
def magicL : List UInt8 := [117, 115, 116, 97, 114, 0, 48, 48]
/-- the first error of a list -/
def first1 (w e : Int) : Int := if w = 0 then e else w
def firstE (l : List Int) : Int := l.foldl first1 0
theorem firstE_snoc (l : List Int) (e : Int) : firstE (l ++ [e]) = first1 (firstE l) e := by simp [firstE]
theorem first1_zero (e : Int) : first1 0 e = e := rfl
theorem firstE_of (l : List Int) (h : ∀ e ∈ l, e = 0) : firstE l = 0 := by
  unfold firstE
  induction l with
  | nil => rfl
  | cons x l ih =>
    rw [List.foldl_cons, h x (List.mem_cons_self ..)]
    exact ih fun e he => h e (List.mem_cons_of_mem _ he)
theorem foldl_stuck (l : List Int) (w : Int) (h : w ≠ 0) : l.foldl first1 w = w := by
  induction l with
  | nil => rfl
  | cons x l ih =>
    rw [List.foldl_cons, show first1 w x = w from if_neg h]; exact ih
theorem firstE_zero {l : List Int} (h : firstE l = 0) : ∀ e ∈ l, e = 0 := by
  induction l with
  | nil => intro e he; cases he
  | cons x l ih =>
    unfold firstE at h ih
    rw [List.foldl_cons, first1_zero] at h
    by_cases hx : x = 0
    · subst hx
      intro e he
      rcases List.mem_cons.1 he with rfl | he
      · rfl
      · exact ih h e he
    · rw [foldl_stuck l x hx] at h; exact absurd h hx
def fw (l : List UInt8) (x : Int) (wh : Bool) : List UInt8 := (fldW l x wh).1.data.toList
def ow (n x : Int) : List UInt8 := (octW n x).1.data.toList
def frontH (h : HeadV) : List UInt8 := fw h.name 100 true ++ ow h.mode 8 ++ ow h.uid 8 ++ ow h.gid 8 ++ ow h.size 12 ++ ow h.time 12
def backH (h : HeadV) : List UInt8 := [h.typ] ++ fw h.link 100 true ++ magicL ++ fw h.user 32 false ++ fw h.group 32 false ++ ow 0 8 ++ ow 0 8 ++ fw h.pre 155 true ++ List.replicate 12 0
def errsH (h : HeadV) : List Int := [(fldW h.name 100 true).2, (octW h.mode 8).2, (octW h.uid 8).2, (octW h.gid 8).2, (octW h.size 12).2, (octW h.time 12).2, (fldW h.link 100 true).2, (fldW h.user 32 false).2, (fldW h.group 32 false).2, (octW 0 8).2, (octW 0 8).2, (fldW h.pre 155 true).2]
def headE (h : HeadV) : Int := if typB h.typ = true then firstE (errsH h) else 2
def headW (h : HeadV) : ByteArray × Int := if headE h = 0 then (bs (frontH h ++ (ckL (sumB (frontH h) + 256 + sumB (backH h)) ++ backH h)), 0) else (⟨#[]⟩, headE h)
theorem headW_ok {h : HeadV} (e : headE h = 0) : headW h = (bs (frontH h ++ (ckL (sumB (frontH h) + 256 + sumB (backH h)) ++ backH h)), 0) := if_pos e
theorem headW_no {h : HeadV} (e : headE h ≠ 0) : headW h = (⟨#[]⟩, headE h) := if_neg e
theorem fw_len {l : List UInt8} {n : Nat} {wh : Bool} (h : (fldW l n wh).2 = 0) : (fw l n wh).length = n ∧ hasB 0 l = false ∧ l.length ≤ n ∧ (wh = true ∨ l.length < n) ∧ 1 ≤ n ∧ n ≤ 512 ∧ fw l n wh = l ++ List.replicate (n - l.length) 0 := by
  by_cases h1 : (n : Int) < 1 ∨ 512 < (n : Int)
  · rw [fldW_range h1] at h; cases h
  · by_cases h2 : (n : Int) < l.length ∨ (wh = false ∧ (n : Int) = l.length)
    · rw [fldW_size h1 h2] at h; cases h
    · by_cases h3 : hasB 0 l = true
      · rw [fldW_form h1 h2 h3] at h; cases h
      · have e : fw l n wh = l ++ List.replicate (n - l.length) 0 := by
          unfold fw
          rw [fldW_ok h1 h2 (by simpa using h3), Int.toNat_natCast]
        refine ⟨?_, by simpa using h3, by omega, ?_, by omega, by omega, e⟩
        · rw [e, List.length_append, List.length_replicate]; omega
        · cases wh
          · right
            rcases Nat.lt_or_ge l.length n with a | a
            · exact a
            · exact absurd (.inr ⟨rfl, by omega⟩) h2
          · left; rfl
theorem ow_len {v : Int} {n : Nat} (h : (octW v n).2 = 0) : (ow v n).length = n ∧ 2 ≤ n ∧ n ≤ 12 ∧ 0 ≤ v ∧ v.toNat < 8 ^ (n - 1) ∧ ow v n = D v.toNat (n - 1) ++ [0] := by
  by_cases h1 : 2 ≤ (n : Int) ∧ (n : Int) ≤ 12 ∧ 0 ≤ v ∧ v ≤ most n
  · obtain ⟨a, b, c, d⟩ := h1
    have e : ow v n = D v.toNat (n - 1) ++ [0] := by
      unfold ow
      rw [octW_yes ⟨a, b⟩ ⟨c, d⟩, Int.toNat_natCast]
    refine ⟨by rw [e]; simp; omega, by omega, by omega, c, ?_, e⟩
    have := most_nat n (by omega) v c d
    rwa [Int.toNat_natCast] at this
  · rw [octW_no h1] at h; cases h
theorem headE_ok {h : HeadV} (e : headE h = 0) : typB h.typ = true ∧ ∀ x ∈ errsH h, x = 0 := by
  unfold headE at e
  split at e
  · rename_i ht; exact ⟨ht, firstE_zero e⟩
  · cases e
theorem front_len {h : HeadV} (e : headE h = 0) : (frontH h).length = 148 := by
  obtain ⟨-, he⟩ := headE_ok e
  have h1 := (fw_len (n := 100) (he (fldW h.name 100 true).2 (by simp [errsH]))).1
  have h2 := (ow_len (n := 8) (he (octW h.mode 8).2 (by simp [errsH]))).1
  have h3 := (ow_len (n := 8) (he (octW h.uid 8).2 (by simp [errsH]))).1
  have h4 := (ow_len (n := 8) (he (octW h.gid 8).2 (by simp [errsH]))).1
  have h5 := (ow_len (n := 12) (he (octW h.size 12).2 (by simp [errsH]))).1
  have h6 := (ow_len (n := 12) (he (octW h.time 12).2 (by simp [errsH]))).1
  unfold frontH
  simp only [List.length_append]
  show (fw h.name (100 : Nat) true).length + (ow h.mode (8 : Nat)).length + (ow h.uid (8 : Nat)).length + (ow h.gid (8 : Nat)).length + (ow h.size (12 : Nat)).length + (ow h.time (12 : Nat)).length = 148
  omega
theorem back_len {h : HeadV} (e : headE h = 0) : (backH h).length = 356 := by
  obtain ⟨-, he⟩ := headE_ok e
  have h1 := (fw_len (n := 100) (he (fldW h.link 100 true).2 (by simp [errsH]))).1
  have h2 := (fw_len (n := 32) (he (fldW h.user 32 false).2 (by simp [errsH]))).1
  have h3 := (fw_len (n := 32) (he (fldW h.group 32 false).2 (by simp [errsH]))).1
  have h4 := (ow_len (n := 8) (he (octW 0 8).2 (by simp [errsH]))).1
  have h5 := (fw_len (n := 155) (he (fldW h.pre 155 true).2 (by simp [errsH]))).1
  unfold backH magicL
  simp only [List.length_append, List.length_cons, List.length_nil, List.length_replicate]
  show 0 + 1 + (fw h.link (100 : Nat) true).length + 8 + (fw h.user (32 : Nat) false).length + (fw h.group (32 : Nat) false).length + (ow 0 (8 : Nat)).length + (ow 0 (8 : Nat)).length + (fw h.pre (155 : Nat) true).length + 12 = 356
  omega
theorem headW_block {h : HeadV} (e : headE h = 0) : (frontH h ++ (ckL (sumB (frontH h) + 256 + sumB (backH h)) ++ backH h)).length = 512 ∧ ckOk (frontH h ++ (ckL (sumB (frontH h) + 256 + sumB (backH h)) ++ backH h)) = true := by
  have h1 := front_len e
  have h2 := back_len e
  refine ⟨?_, ?_⟩
  · rw [List.length_append, List.length_append, ckL_length, h1, h2]
  · rw [ckOk_mid _ _ _ h1 (ckL_length _)]; exact decide_eq_true rfl
/-! ### reading a block -/
def sl (l : List UInt8) (a b : Nat) : List UInt8 := (l.take b).drop a
theorem sl_len (l : List UInt8) (a b : Nat) (h : b ≤ l.length) : (sl l a b).length = b - a := by
  unfold sl; rw [List.length_drop, List.length_take]; omega
theorem sl_flat (ps : List (List UInt8)) (i : Nat) (hi : i < ps.length) (a b : Nat) (ha : a = ((ps.take i).map List.length).sum) (hb : b = a + ps[i].length) : sl ps.flatten a b = ps[i] := by
  have e : ps.flatten = (ps.take i).flatten ++ (ps[i] ++ (ps.drop (i + 1)).flatten) := by
    conv => lhs; rw [← List.take_append_drop i ps, List.drop_eq_getElem_cons hi, List.flatten_append, List.flatten_cons]
  have hl : (ps.take i).flatten.length = a := by rw [List.length_flatten, ha]
  unfold sl
  rw [e, ← List.append_assoc, List.take_append_of_le_length (by rw [List.length_append]; omega), List.take_of_length_le (by rw [List.length_append]; omega), ← hl, List.drop_left]
def zeroL : List UInt8 := [48, 48, 48, 48, 48, 48, 48, 0, 48, 48, 48, 48, 48, 48, 48, 0]
def rdS (l : List UInt8) (a b : Nat) (wh : Bool) : List UInt8 := (fldR (sl l a b) wh).1.data.toList
def readH (l : List UInt8) : HeadV :=
  ⟨rdS l 0 100 true, rdS l 345 500 true, rdS l 157 257 true, (octR (sl l 100 108)).1, (octR (sl l 108 116)).1, (octR (sl l 116 124)).1, (octR (sl l 124 136)).1, (octR (sl l 136 148)).1, l.getD 156 0, rdS l 265 297 false, rdS l 297 329 false⟩
def bad (b : Bool) : Int := if b = true then 0 else 3
def errsR (l : List UInt8) : List Int :=
  [(fldR (sl l 0 100) true).2, (octR (sl l 100 108)).2, (octR (sl l 108 116)).2, (octR (sl l 116 124)).2, (octR (sl l 124 136)).2, (octR (sl l 136 148)).2, bad (typB (l.getD 156 0)), (fldR (sl l 157 257) true).2, bad (decide (sl l 257 265 = magicL)),
    (fldR (sl l 265 297) false).2, (fldR (sl l 297 329) false).2, bad (decide (sl l 329 345 = zeroL)), (fldR (sl l 345 500) true).2, bad (decide (sl l 500 512 = List.replicate 12 0))]
def headR (l : List UInt8) : HeadV × Int :=
  if l.length ≠ 512 then (headZ, 1) else if ckOk l = false then (headZ, 8) else if firstE (errsR l) ≠ 0 then (headZ, firstE (errsR l)) else (readH l, 0)
theorem headR_size {l : List UInt8} (h : l.length ≠ 512) : headR l = (headZ, 1) := if_pos h
theorem headR_sum {l : List UInt8} (h : l.length = 512) (h2 : ckOk l = false) : headR l = (headZ, 8) := by rw [headR, if_neg (by simpa using h), if_pos h2]
theorem headR_err {l : List UInt8} (h : l.length = 512) (h2 : ckOk l = true) (h3 : firstE (errsR l) ≠ 0) : headR l = (headZ, firstE (errsR l)) := by rw [headR, if_neg (by simpa using h), if_neg (by simp [h2]), if_pos h3]
theorem headR_ok {l : List UInt8} (h : l.length = 512) (h2 : ckOk l = true) (h3 : firstE (errsR l) = 0) : headR l = (readH l, 0) := by rw [headR, if_neg (by simpa using h), if_neg (by simp [h2]), if_neg (by simpa using h3)]
/-- every error of a reading is 3 -/
theorem firstE_three {l : List Int} (h : ∀ e ∈ l, e = 0 ∨ e = 3) : firstE l = 0 ∨ firstE l = 3 := by
  unfold firstE
  have key : ∀ (l : List Int) (w : Int), (w = 0 ∨ w = 3) → (∀ e ∈ l, e = 0 ∨ e = 3) → (l.foldl first1 w = 0 ∨ l.foldl first1 w = 3) := by
    intro l
    induction l with
    | nil => intro w hw _; exact hw
    | cons x l ih =>
      intro w hw h
      rw [List.foldl_cons]
      refine ih _ ?_ fun e he => h e (List.mem_cons_of_mem _ he)
      unfold first1
      split
      · exact h x (List.mem_cons_self ..)
      · exact hw
  exact key l 0 (.inl rfl) h
/-! ### what was written is read -/
theorem pos_zrep (k : Nat) : pos 0 (List.replicate k 0) = 0 := by
  cases k with
  | zero => rfl
  | succ k => rw [List.replicate_succ, pos_cons, if_pos rfl]
theorem allZ_rep0 (k : Nat) : allZ (List.replicate k 0) = true := by
  rw [allZ_rep, List.length_replicate]; exact decide_eq_true rfl
theorem fldR_fw {l : List UInt8} {n : Nat} {wh : Bool} (h : (fldW l n wh).2 = 0) : fldR (fw l n wh) wh = (bs l, 0) := by
  obtain ⟨h1, h2, h3, h4, h5, h6, e⟩ := fw_len h
  have hp : pos 0 (l ++ List.replicate (n - l.length) 0) = l.length := by rw [pos_app _ _ _ h2, pos_zrep]; rfl
  rw [e] at h1 ⊢
  rw [fldR_ok (by omega) ?_ ?_, hp, List.take_left]
  · rfl
  · rintro ⟨rfl, e2⟩
    rw [hp] at e2
    rcases h4 with h4 | h4
    · cases h4
    · omega
  · rw [hp, List.drop_left]; exact allZ_rep0 _
theorem octR_ow {v : Int} {n : Nat} (h : (octW v n).2 = 0) : octR (ow v n) = (v, 0) := by
  obtain ⟨-, h2, h3, h4, h5, e⟩ := ow_len h
  rw [e, octR_D _ _ (by omega) (by omega) h5, Int.toNat_of_nonneg h4]
theorem ow_zero : ow 0 8 = [48, 48, 48, 48, 48, 48, 48, 0] := by decide +kernel
def partsH (h : HeadV) (ck : List UInt8) : List (List UInt8) :=
  [fw h.name (100 : Nat) true, ow h.mode (8 : Nat), ow h.uid (8 : Nat), ow h.gid (8 : Nat), ow h.size (12 : Nat), ow h.time (12 : Nat), ck, [h.typ], fw h.link (100 : Nat) true, magicL, fw h.user (32 : Nat) false, fw h.group (32 : Nat) false, zeroL, fw h.pre (155 : Nat) true, List.replicate 12 0]
theorem parts_flat (h : HeadV) (ck : List UInt8) : frontH h ++ (ck ++ backH h) = (partsH h ck).flatten := by
  have e : ow 0 8 ++ ow 0 8 = zeroL := by rw [ow_zero]; rfl
  unfold frontH backH partsH
  rw [← e]
  simp
theorem headR_headW {h : HeadV} (e : headE h = 0) : headR (frontH h ++ (ckL (sumB (frontH h) + 256 + sumB (backH h)) ++ backH h)) = (h, 0) := by
  obtain ⟨hlen, hck⟩ := headW_block e
  obtain ⟨ht, he⟩ := headE_ok e
  have w1 := he (fldW h.name 100 true).2 (by simp [errsH])
  have w2 := he (octW h.mode 8).2 (by simp [errsH])
  have w3 := he (octW h.uid 8).2 (by simp [errsH])
  have w4 := he (octW h.gid 8).2 (by simp [errsH])
  have w5 := he (octW h.size 12).2 (by simp [errsH])
  have w6 := he (octW h.time 12).2 (by simp [errsH])
  have w7 := he (fldW h.link 100 true).2 (by simp [errsH])
  have w8 := he (fldW h.user 32 false).2 (by simp [errsH])
  have w9 := he (fldW h.group 32 false).2 (by simp [errsH])
  have wA := he (fldW h.pre 155 true).2 (by simp [errsH])
  have l1 := (fw_len (n := 100) w1).1
  have l2 := (ow_len (n := 8) w2).1
  have l3 := (ow_len (n := 8) w3).1
  have l4 := (ow_len (n := 8) w4).1
  have l5 := (ow_len (n := 12) w5).1
  have l6 := (ow_len (n := 12) w6).1
  have l7 := (fw_len (n := 100) w7).1
  have l8 := (fw_len (n := 32) w8).1
  have l9 := (fw_len (n := 32) w9).1
  have lA := (fw_len (n := 155) wA).1
  have lk := ckL_length (sumB (frontH h) + 256 + sumB (backH h))
  have r1 := fldR_fw (n := 100) w1
  have r2 := octR_ow (n := 8) w2
  have r3 := octR_ow (n := 8) w3
  have r4 := octR_ow (n := 8) w4
  have r5 := octR_ow (n := 12) w5
  have r6 := octR_ow (n := 12) w6
  have r7 := fldR_fw (n := 100) w7
  have r8 := fldR_fw (n := 32) w8
  have r9 := fldR_fw (n := 32) w9
  have rA := fldR_fw (n := 155) wA
  generalize ckL (sumB (frontH h) + 256 + sumB (backH h)) = ck at *
  rw [parts_flat] at hlen hck ⊢
  have hps : (partsH h ck).length = 15 := rfl
  have S : ∀ i (hi : i < (partsH h ck).length) a b, a = (((partsH h ck).take i).map List.length).sum → b = a + (partsH h ck)[i].length → sl (partsH h ck).flatten a b = (partsH h ck)[i] := fun i hi a b ha hb => sl_flat _ i hi a b ha hb
  have lm : magicL.length = 8 := rfl
  have lz : zeroL.length = 16 := rfl
  have lr : (List.replicate 12 (0 : UInt8)).length = 12 := rfl
  have s0 : sl (partsH h ck).flatten 0 100 = fw h.name (100 : Nat) true := S 0 (by omega) 0 100 rfl (by show 100 = 0 + (fw h.name (100 : Nat) true).length; omega)
  have s1 : sl (partsH h ck).flatten 100 108 = ow h.mode (8 : Nat) := S 1 (by omega) 100 108 (by simp only [partsH, List.take_succ_cons, List.take_zero, List.map_cons, List.map_nil, List.sum_cons, List.sum_nil, List.length_cons, List.length_nil]; omega) (by show 108 = 100 + (ow h.mode (8 : Nat)).length; omega)
  have s2 : sl (partsH h ck).flatten 108 116 = ow h.uid (8 : Nat) := S 2 (by omega) 108 116 (by simp only [partsH, List.take_succ_cons, List.take_zero, List.map_cons, List.map_nil, List.sum_cons, List.sum_nil, List.length_cons, List.length_nil]; omega) (by show 116 = 108 + (ow h.uid (8 : Nat)).length; omega)
  have s3 : sl (partsH h ck).flatten 116 124 = ow h.gid (8 : Nat) := S 3 (by omega) 116 124 (by simp only [partsH, List.take_succ_cons, List.take_zero, List.map_cons, List.map_nil, List.sum_cons, List.sum_nil, List.length_cons, List.length_nil]; omega) (by show 124 = 116 + (ow h.gid (8 : Nat)).length; omega)
  have s4 : sl (partsH h ck).flatten 124 136 = ow h.size (12 : Nat) := S 4 (by omega) 124 136 (by simp only [partsH, List.take_succ_cons, List.take_zero, List.map_cons, List.map_nil, List.sum_cons, List.sum_nil, List.length_cons, List.length_nil]; omega) (by show 136 = 124 + (ow h.size (12 : Nat)).length; omega)
  have s5 : sl (partsH h ck).flatten 136 148 = ow h.time (12 : Nat) := S 5 (by omega) 136 148 (by simp only [partsH, List.take_succ_cons, List.take_zero, List.map_cons, List.map_nil, List.sum_cons, List.sum_nil, List.length_cons, List.length_nil]; omega) (by show 148 = 136 + (ow h.time (12 : Nat)).length; omega)
  have s7 : sl (partsH h ck).flatten 156 157 = [h.typ] := S 7 (by omega) 156 157 (by simp only [partsH, List.take_succ_cons, List.take_zero, List.map_cons, List.map_nil, List.sum_cons, List.sum_nil, List.length_cons, List.length_nil]; omega) rfl
  have s8 : sl (partsH h ck).flatten 157 257 = fw h.link (100 : Nat) true := S 8 (by omega) 157 257 (by simp only [partsH, List.take_succ_cons, List.take_zero, List.map_cons, List.map_nil, List.sum_cons, List.sum_nil, List.length_cons, List.length_nil]; omega) (by show 257 = 157 + (fw h.link (100 : Nat) true).length; omega)
  have s9 : sl (partsH h ck).flatten 257 265 = magicL := S 9 (by omega) 257 265 (by simp only [partsH, List.take_succ_cons, List.take_zero, List.map_cons, List.map_nil, List.sum_cons, List.sum_nil, List.length_cons, List.length_nil]; omega) rfl
  have sA : sl (partsH h ck).flatten 265 297 = fw h.user (32 : Nat) false := S 10 (by omega) 265 297 (by simp only [partsH, List.take_succ_cons, List.take_zero, List.map_cons, List.map_nil, List.sum_cons, List.sum_nil, List.length_cons, List.length_nil]; omega) (by show 297 = 265 + (fw h.user (32 : Nat) false).length; omega)
  have sB : sl (partsH h ck).flatten 297 329 = fw h.group (32 : Nat) false := S 11 (by omega) 297 329 (by simp only [partsH, List.take_succ_cons, List.take_zero, List.map_cons, List.map_nil, List.sum_cons, List.sum_nil, List.length_cons, List.length_nil]; omega) (by show 329 = 297 + (fw h.group (32 : Nat) false).length; omega)
  have sC : sl (partsH h ck).flatten 329 345 = zeroL := S 12 (by omega) 329 345 (by simp only [partsH, List.take_succ_cons, List.take_zero, List.map_cons, List.map_nil, List.sum_cons, List.sum_nil, List.length_cons, List.length_nil]; omega) rfl
  have sD : sl (partsH h ck).flatten 345 500 = fw h.pre (155 : Nat) true := S 13 (by omega) 345 500 (by simp only [partsH, List.take_succ_cons, List.take_zero, List.map_cons, List.map_nil, List.sum_cons, List.sum_nil, List.length_cons, List.length_nil]; omega) (by show 500 = 345 + (fw h.pre (155 : Nat) true).length; omega)
  have sE : sl (partsH h ck).flatten 500 512 = List.replicate 12 0 := S 14 (by omega) 500 512 (by simp only [partsH, List.take_succ_cons, List.take_zero, List.map_cons, List.map_nil, List.sum_cons, List.sum_nil, List.length_cons, List.length_nil]; omega) rfl
  have sT : (partsH h ck).flatten.getD 156 0 = h.typ := by
    generalize (partsH h ck).flatten = l at *
    have e1 : (sl l 156 157)[0]? = some h.typ := by rw [s7]; rfl
    unfold sl at e1
    rw [List.getElem?_drop, List.getElem?_take_of_lt (by omega)] at e1
    rw [List.getD_eq_getElem?_getD, e1]; rfl
  have hE : firstE (errsR (partsH h ck).flatten) = 0 := by
    refine firstE_of _ ?_
    unfold errsR
    rw [s0, s1, s2, s3, s4, s5, s8, s9, sA, sB, sC, sD, sE, sT, r1, r2, r3, r4, r5, r6, r7, r8, r9, rA, ht]
    simp [bad]
  rw [headR_ok hlen hck hE]
  unfold readH rdS
  rw [s0, s1, s2, s3, s4, s5, s8, sA, sB, sD, sT, r1, r2, r3, r4, r5, r6, r7, r8, r9, rA]
  rfl
/-- a byte of the checksum field is of no matter to the sum -/
theorem sum_set (l : List UInt8) (h : l.length = 512) (i : Nat) (h1 : 148 ≤ i) (h2 : i < 156) (c : UInt8) : sumH (l.set i c) = sumH l := by
  obtain ⟨a, k, b, e, ha, hk, hb, -⟩ := split_mid l h
  subst e
  rw [List.set_append_right _ _ (by omega), List.set_append_left _ _ (by omega), sumH_mid a _ b ha (by rw [List.length_set]; exact hk), sumH_mid a k b ha hk]
/-- a header whose fields fit -/
theorem headE_of {h : HeadV} (ht : typB h.typ = true) (h1 : hasB 0 h.name = false ∧ h.name.length ≤ 100) (h2 : hasB 0 h.link = false ∧ h.link.length ≤ 100) (h3 : hasB 0 h.pre = false ∧ h.pre.length ≤ 155)
    (h4 : hasB 0 h.user = false ∧ h.user.length < 32) (h5 : hasB 0 h.group = false ∧ h.group.length < 32) (h6 : 0 ≤ h.mode ∧ h.mode < 2097152) (h7 : 0 ≤ h.uid ∧ h.uid < 2097152) (h8 : 0 ≤ h.gid ∧ h.gid < 2097152)
    (h9 : 0 ≤ h.size ∧ h.size < 8589934592) (hA : 0 ≤ h.time ∧ h.time < 8589934592) : headE h = 0 := by
  have f : ∀ (l : List UInt8) (n : Int) (wh : Bool), 1 ≤ n → n ≤ 512 → hasB 0 l = false → (l.length : Int) ≤ n → (wh = false → (l.length : Int) < n) → (fldW l n wh).2 = 0 := fun l n wh a1 a2 a3 a4 a5 => by
    rw [fldW_ok (by omega) ?_ a3]
    rintro (x | ⟨x, y⟩)
    · omega
    · have := a5 x; omega
  have m8 : most 8 = 2097151 := by decide
  have m12 : most 12 = 8589934591 := by decide
  have g8 : ∀ v : Int, 0 ≤ v ∧ v < 2097152 → (octW v 8).2 = 0 := fun v a => by rw [octW_yes (by omega) ⟨a.1, by rw [m8]; omega⟩]
  have g12 : ∀ v : Int, 0 ≤ v ∧ v < 8589934592 → (octW v 12).2 = 0 := fun v a => by rw [octW_yes (by omega) ⟨a.1, by rw [m12]; omega⟩]
  unfold headE
  rw [if_pos ht]
  refine firstE_of _ ?_
  unfold errsH
  rw [f h.name 100 true (by omega) (by omega) h1.1 (by omega) (fun a => by cases a), f h.link 100 true (by omega) (by omega) h2.1 (by omega) (fun a => by cases a), f h.pre 155 true (by omega) (by omega) h3.1 (by omega) (fun a => by cases a),
    f h.user 32 false (by omega) (by omega) h4.1 (by omega) (fun _ => by omega), f h.group 32 false (by omega) (by omega) h5.1 (by omega) (fun _ => by omega), g8 _ h6, g8 _ h7, g8 _ h8, g12 _ h9, g12 _ hA, g8 0 (by omega)]
  simp
end Go.Proofs.YtjklgadigcobcaaDoor
