/- Plain mathematics of length-prefixed records; nothing of the program. -/
import Derived.Test.YtilofjaigpngoaaDoorStpM
set_option linter.unusedVariables false
namespace Go.Proofs.YtilofjaigpngoaaDoor
open Go.RowKit
/-! ### how long a record is -/
/-- the length of a record, its own number with it, where all but the number has L bytes -/
def recN (L : Nat) : Nat := if L + 1 < 10 then L + 1 else if L + 2 < 100 then L + 2 else L + 3
theorem nDig1 {n : Nat} (h : n < 10) : Lib.nDigits n = 1 := Lib.nDigits_small h
theorem nDig2 {n : Nat} (h0 : 10 ≤ n) (h : n < 100) : Lib.nDigits n = 2 := Lib.nDigits_unique 1 n (by omega) (by omega)
theorem nDig3 {n : Nat} (h0 : 100 ≤ n) (h : n < 1000) : Lib.nDigits n = 3 := Lib.nDigits_unique 2 n (by omega) (by omega)
theorem recN_bd (L : Nat) : L < recN L ∧ recN L ≤ L + 3 := by
  unfold recN; split
  · omega
  · split <;> omega
theorem recN_len (L : Nat) (h : L ≤ 900) : Lib.nDigits (recN L) + L = recN L := by
  unfold recN
  split
  · rw [nDig1 (by omega)]; omega
  · split
    · rw [nDig2 (by omega) (by omega)]; omega
    · rw [nDig3 (by omega) (by omega)]; omega
theorem recN_least (L m : Nat) (h : L ≤ 900) (hm : m < recN L) : Lib.nDigits m + L ≠ m := by
  have hb := recN_bd L
  have hm3 : m < L + 3 := by omega
  clear hb
  intro e
  unfold recN at hm
  by_cases h1 : m < 10
  · rw [nDig1 h1] at e
    split at hm
    · omega
    · split at hm <;> omega
  · by_cases h2 : m < 100
    · rw [nDig2 (by omega) h2] at e
      split at hm
      · omega
      · split at hm <;> omega
    · rw [nDig3 (by omega) (by omega)] at e
      split at hm
      · omega
      · split at hm <;> omega
/-! ### the text of a record -/
def chkR (k v : List UInt8) : Int :=
  if k.length = 0 ∨ 60 < k.length ∨ 500 < v.length then 1
  else if hasB 61 k = true ∨ hasB 10 k = true ∨ hasB 0 v = true then 3 else 0
theorem chkR_size {k v : List UInt8} (h : k.length = 0 ∨ 60 < k.length ∨ 500 < v.length) : chkR k v = 1 := if_pos h
theorem chkR_form {k v : List UInt8} (h : ¬ (k.length = 0 ∨ 60 < k.length ∨ 500 < v.length)) (h2 : hasB 61 k = true ∨ hasB 10 k = true ∨ hasB 0 v = true) : chkR k v = 3 := by
  rw [chkR, if_neg h, if_pos h2]
theorem chkR_ok {k v : List UInt8} (h : ¬ (k.length = 0 ∨ 60 < k.length ∨ 500 < v.length)) (h2 : ¬ (hasB 61 k = true ∨ hasB 10 k = true ∨ hasB 0 v = true)) : chkR k v = 0 := by
  rw [chkR, if_neg h, if_neg h2]
theorem chkR_of {k v : List UInt8} (h : chkR k v = 0) : 1 ≤ k.length ∧ k.length ≤ 60 ∧ v.length ≤ 500 ∧ hasB 61 k = false ∧ hasB 10 k = false ∧ hasB 0 v = false := by
  unfold chkR at h
  split at h
  · cases h
  · split at h
    · cases h
    · rename_i h1 h2
      refine ⟨by omega, by omega, by omega, ?_, ?_, ?_⟩
      · cases e : hasB 61 k
        · rfl
        · exact absurd (.inl e) h2
      · cases e : hasB 10 k
        · rfl
        · exact absurd (.inr (.inl e)) h2
      · cases e : hasB 0 v
        · rfl
        · exact absurd (.inr (.inr e)) h2
/-- all of a record behind its number -/
def recT (k v : List UInt8) : List UInt8 := 32 :: (k ++ 61 :: (v ++ [10]))
def recL (k v : List UInt8) : List UInt8 := Lib.decDigits (recN (k.length + v.length + 3)) ++ recT k v
theorem recT_len (k v : List UInt8) : (recT k v).length = k.length + v.length + 3 := by simp [recT]; omega
theorem recL_len (k v : List UInt8) (h : k.length + v.length ≤ 800) : (recL k v).length = recN (k.length + v.length + 3) := by
  rw [recL, List.length_append, Lib.decDigits_length, recT_len]; exact recN_len _ (by omega)
def recW (k v : List UInt8) : ByteArray × Int := if chkR k v = 0 then (bs (recL k v), 0) else (⟨#[]⟩, chkR k v)
theorem recW_ok {k v : List UInt8} (h : chkR k v = 0) : recW k v = (bs (recL k v), 0) := if_pos h
theorem recW_no {k v : List UInt8} (h : chkR k v ≠ 0) : recW k v = (⟨#[]⟩, chkR k v) := if_neg h
/-! ### reading a record -/
def dVal (l : List UInt8) : Nat := l.foldl (fun a c => 10 * a + (c.toNat - 48)) 0
theorem dVal_snoc (l : List UInt8) (c : UInt8) : dVal (l ++ [c]) = 10 * dVal l + (c.toNat - 48) := by simp [dVal]
theorem foldl_dec (l : List UInt8) (acc v : Nat) (h : Lib.decFrom acc l = some v) : l.foldl (fun a c => 10 * a + (c.toNat - 48)) acc = v := by
  induction l generalizing acc with
  | nil => simpa [Lib.decFrom] using h
  | cons c l ih =>
    cases hc : Lib.digitVal c with
    | none => simp [Lib.decFrom, hc] at h
    | some d =>
      simp only [Lib.decFrom, hc] at h
      rw [List.foldl_cons, (isD_val hc).2, Nat.mul_comm]; exact ih _ h
theorem dVal_dec (n : Nat) : dVal (Lib.decDigits n) = n := foldl_dec _ _ _ (decFrom_decDigits n)
theorem dVal_lt (l : List UInt8) (h : ∀ c ∈ l, isD c = true) : dVal l < 10 ^ l.length := by
  revert h
  refine snoc_ind (p := fun l => (∀ c ∈ l, isD c = true) → dVal l < 10 ^ l.length) (fun _ => by simp [dVal]) (fun l c ih h => ?_) l
  have h1 := ih fun x hx => h x (List.mem_append_left _ hx)
  have h2 := (of_decide_eq_true (h c (by simp))).2
  rw [dVal_snoc, List.length_append, List.length_singleton, Nat.pow_succ]; omega
/-- the digits ahead -/
def digP (l : List UInt8) : List UInt8 := l.takeWhile isD
theorem digP_all (l : List UInt8) : ∀ c ∈ digP l, isD c = true := by
  intro c hc
  unfold digP at hc
  induction l with
  | nil => cases hc
  | cons x l ih =>
    rw [List.takeWhile_cons] at hc
    split at hc
    · rename_i hx
      rcases List.mem_cons.1 hc with rfl | hc
      · exact hx
      · exact ih hc
    · cases hc
theorem digP_app (a b : List UInt8) (ha : ∀ c ∈ a, isD c = true) (hb : ∀ c t, b = c :: t → isD c = false) : digP (a ++ b) = a := by
  unfold digP
  induction a with
  | nil =>
    cases b with
    | nil => rfl
    | cons c t => rw [List.nil_append, List.takeWhile_cons, if_neg (by rw [hb c t rfl]; decide)]
  | cons x a ih =>
    rw [List.cons_append, List.takeWhile_cons, if_pos (ha x (by simp)), ih fun c hc => ha c (List.mem_cons_of_mem _ hc)]
theorem digP_take (l : List UInt8) : digP l = l.take (digP l).length := by
  unfold digP
  induction l with
  | nil => rfl
  | cons x l ih =>
    rw [List.takeWhile_cons]
    split
    · rw [List.length_cons, List.take_succ_cons, ← ih]
    · rfl
theorem digP_le (l : List UInt8) : (digP l).length ≤ l.length := List.Sublist.length_le (List.takeWhile_sublist _)
theorem digP_stop (l : List UInt8) (k : Nat) (h : k < l.length) (hk : k = (digP l).length) : isD l[k] = false := by
  induction l generalizing k with
  | nil => cases h
  | cons x l ih =>
    unfold digP at hk
    rw [List.takeWhile_cons] at hk
    split at hk
    · rw [List.length_cons] at hk
      subst hk
      simp only [List.getElem_cons_succ]
      exact ih _ (by simpa using h) rfl
    · rename_i hx
      subst hk
      simpa using hx
/-- is the front of a record as it must be: one to four digits, the first not 0, a space -/
def frontOk (l : List UInt8) : Prop := 1 ≤ (digP l).length ∧ (digP l).length ≤ 4 ∧ l.head? ≠ some 48 ∧ l[(digP l).length]? = some 32
instance (l : List UInt8) : Decidable (frontOk l) := by unfold frontOk; infer_instance
/-- what stands between the space and the line feed -/
def bodyR (l : List UInt8) : List UInt8 := (l.take (dVal (digP l) - 1)).drop ((digP l).length + 1)
/-- the key, the value, what is behind, the error -/
def recR (l : List UInt8) : List UInt8 × List UInt8 × List UInt8 × Int :=
  if ¬ frontOk l then ([], [], [], 3)
  else if l.length < dVal (digP l) then ([], [], [], 7)
  else if dVal (digP l) < (digP l).length + 2 ∨ l[dVal (digP l) - 1]? ≠ some 10 then ([], [], [], 3)
  else if hasB 61 (bodyR l) = false then ([], [], [], 3)
  else if chkR ((bodyR l).take (pos 61 (bodyR l))) ((bodyR l).drop (pos 61 (bodyR l) + 1)) ≠ 0 then ([], [], [], chkR ((bodyR l).take (pos 61 (bodyR l))) ((bodyR l).drop (pos 61 (bodyR l) + 1)))
  else if recL ((bodyR l).take (pos 61 (bodyR l))) ((bodyR l).drop (pos 61 (bodyR l) + 1)) ≠ l.take (dVal (digP l)) then ([], [], [], 3)
  else ((bodyR l).take (pos 61 (bodyR l)), (bodyR l).drop (pos 61 (bodyR l) + 1), l.drop (dVal (digP l)), 0)
theorem isD_dig (n : Nat) : ∀ c ∈ Lib.decDigits n, isD c = true := fun c hc => decide_eq_true (decDigits_dig n c hc)
theorem digP_rec (n : Nat) (r : List UInt8) : digP (Lib.decDigits n ++ 32 :: r) = Lib.decDigits n :=
  digP_app _ _ (isD_dig n) (fun c t e => by injection e with e _; subst e; rfl)
theorem front_rec (n : Nat) (r : List UInt8) (h1 : 1 ≤ n) (h2 : n < 10000) : frontOk (Lib.decDigits n ++ 32 :: r) := by
  unfold frontOk
  rw [digP_rec]
  obtain ⟨c, t, e, -, -, hc⟩ := decDigits_cons n
  refine ⟨by rw [e]; simp, decDigits_len n 3 (by omega), ?_, ?_⟩
  · rw [e, List.cons_append, List.head?_cons]
    intro x; injection x with x; exact hc h1 (by rw [x]; rfl)
  · rw [List.getElem?_append_right (Nat.le_refl _), Nat.sub_self]; rfl
theorem recR_text (k v more : List UInt8) (h : chkR k v = 0) : recR (recL k v ++ more) = (k, v, more, 0) := by
  obtain ⟨k1, k2, v1, hk, hk2, hv⟩ := chkR_of h
  have hL := recL_len k v (by omega)
  have hb := recN_bd (k.length + v.length + 3)
  obtain ⟨n, hn⟩ : ∃ n, recN (k.length + v.length + 3) = n := ⟨_, rfl⟩
  have e : recL k v ++ more = Lib.decDigits n ++ 32 :: (k ++ 61 :: (v ++ [10]) ++ more) := by
    unfold recL recT; rw [hn]; simp
  have eL : recL k v = Lib.decDigits n ++ 32 :: (k ++ 61 :: (v ++ [10])) := by unfold recL recT; rw [hn]
  rw [hn] at hL hb
  have hd : digP (recL k v ++ more) = Lib.decDigits n := by rw [e]; exact digP_rec _ _
  have hf : frontOk (recL k v ++ more) := by rw [e]; exact front_rec _ _ (by omega) (by omega)
  have hdl : (Lib.decDigits n).length + (k.length + v.length + 3) = n := by
    rw [eL] at hL; simp at hL; omega
  have htk : (recL k v ++ more).take (n - 1) = Lib.decDigits n ++ 32 :: (k ++ 61 :: v) := by
    rw [List.take_append_of_le_length (by omega), eL]
    have : Lib.decDigits n ++ 32 :: (k ++ 61 :: (v ++ [10])) = (Lib.decDigits n ++ 32 :: (k ++ 61 :: v)) ++ [10] := by simp
    rw [this, List.take_append_of_le_length (by simp; omega), List.take_of_length_le (by simp; omega)]
  have hbody : bodyR (recL k v ++ more) = k ++ 61 :: v := by
    unfold bodyR
    rw [hd, dVal_dec, htk, List.drop_append, List.drop_of_length_le (by omega), List.nil_append, Nat.add_sub_cancel_left]; rfl
  have hpos : pos 61 (k ++ 61 :: v) = k.length := by rw [pos_app _ _ _ hk, pos_cons, if_pos rfl]; rfl
  have e1 : (k ++ 61 :: v).take k.length = k := by simp
  have e2 : (k ++ 61 :: v).drop (k.length + 1) = v := by
    rw [List.drop_append, List.drop_of_length_le (by omega), List.nil_append, Nat.add_sub_cancel_left]; rfl
  have hlast : (recL k v ++ more)[n - 1]? = some 10 := by
    rw [List.getElem?_append_left (by omega), eL]
    have : Lib.decDigits n ++ 32 :: (k ++ 61 :: (v ++ [10])) = (Lib.decDigits n ++ 32 :: (k ++ 61 :: v)) ++ [10] := by simp
    rw [this, List.getElem?_append_right (by simp; omega)]
    have : n - 1 - (Lib.decDigits n ++ 32 :: (k ++ 61 :: v)).length = 0 := by simp; omega
    rw [this]; rfl
  unfold recR
  rw [if_neg (by simpa using hf), hd, dVal_dec, if_neg (by rw [List.length_append]; omega), if_neg ?_, hbody, hpos, e1, e2, if_neg ?_, if_neg (by simpa using h), if_neg ?_]
  · rw [List.drop_append, List.drop_of_length_le (by omega), List.nil_append, hL, Nat.sub_self]; rfl
  · rw [List.take_append_of_le_length (by omega), List.take_of_length_le (by omega)]; simp
  · rw [hasB_app, hk, hasB_cons]; simp
  · rw [hlast]; simp; omega
/-- no true beginning of a record is read -/
theorem recR_torn (k v : List UInt8) (h : chkR k v = 0) (j : Nat) (hj : j < (recL k v).length) : (recR ((recL k v).take j)).2.2.2 ≠ 0 := by
  obtain ⟨k1, k2, v1, hk, hk2, hv⟩ := chkR_of h
  have hL := recL_len k v (by omega)
  have hb := recN_bd (k.length + v.length + 3)
  obtain ⟨n, hn⟩ : ∃ n, recN (k.length + v.length + 3) = n := ⟨_, rfl⟩
  have eL : recL k v = Lib.decDigits n ++ 32 :: (k ++ 61 :: (v ++ [10])) := by unfold recL recT; rw [hn]
  rw [hn] at hL hb
  by_cases hf : frontOk ((recL k v).take j)
  · have hjd : (Lib.decDigits n).length < j := by
      rcases Nat.lt_or_ge (Lib.decDigits n).length j with h' | h'
      · exact h'
      · exfalso
        obtain ⟨-, -, -, f4⟩ := hf
        rw [eL, List.take_append_of_le_length h'] at f4
        have hd : digP ((Lib.decDigits n).take j) = (Lib.decDigits n).take j := by
          have := digP_app ((Lib.decDigits n).take j) [] (fun c hc => isD_dig n c (List.mem_of_mem_take hc)) (fun c t e => by cases e)
          rwa [List.append_nil] at this
        rw [hd, List.getElem?_eq_none (Nat.le_refl _)] at f4
        cases f4
    have hd : digP ((recL k v).take j) = Lib.decDigits n := by
      rw [eL, List.take_append, List.take_of_length_le (by omega)]
      obtain ⟨i, hi⟩ : ∃ i, j - (Lib.decDigits n).length = i + 1 := ⟨j - (Lib.decDigits n).length - 1, by omega⟩
      rw [hi, List.take_succ_cons]; exact digP_rec _ _
    unfold recR
    rw [if_neg (by simpa using hf), hd, dVal_dec, if_pos (by rw [List.length_take]; omega)]
    decide
  · unfold recR
    rw [if_pos hf]; decide
end Go.Proofs.YtilofjaigpngoaaDoor
