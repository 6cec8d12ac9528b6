/- strings.IndexAny, strings.ContainsAny: any bytes are searched, for ASCII bytes. -/
import Derived.Test.YtldffnmoafhidaaGreatDoorFld
import Derived.Test.YtldffnmoafhidaaGreatDoorShelf
import Derived.Laws.Runes
import Derived.WalkMore
import Derived.IntWalk
import Derived.Laws.RangeAny
import Derived.Shelf.Strings.IndexAnyAll
import Derived.BigQuiet
import Derived.Deep.QuietTactic
set_option linter.unusedVariables false
set_option maxRecDepth 100000
namespace Go.Proofs.YtldffnmoafhidaaGreatDoor
open Go.RowKit
open Go.OpenShut
/-- all bytes are below 128 -/
def asciiL (l : List UInt8) : Prop := ∀ (j : Nat) b, l[j]? = some b → b.toNat < 128
theorem asciiL.lt {s : ByteArray} (h : asciiL s.data.toList) {i : Nat} (hi : i < s.size) : (s[i]'hi).toNat < 128 := h i _ (Lib.data_getElem? s i hi)
theorem asciiL.drop {l : List UInt8} (h : asciiL l) (k : Nat) : asciiL (l.drop k) := fun j b hb => h (k + j) b (by rw [List.getElem?_drop] at hb; exact hb)
theorem ascii_no (l : List UInt8) (c : UInt8) (h : asciiL l) (hc : 128 ≤ c.toNat) : Lib.indexByte l c = -1 := by
  rw [indexByte_pos, if_neg ?_]
  rw [hasB, List.any_eq_true]
  rintro ⟨b, hb, e⟩
  obtain ⟨i, hi, rfl⟩ := List.getElem_of_mem hb
  have := h i _ (List.getElem?_eq_getElem hi)
  rw [eq_of_beq e] at this; omega
theorem dec_tail (s : ByteArray) (pos : Nat) (h : pos < s.size) (ha : 128 ≤ (s[pos]'h).toNat) :
    ∀ j, j < (Utf8.decode s pos).2 → pos + j < s.size ∧ 128 ≤ (s.get! (pos + j)).toNat := by
  have hn : ¬ (s[pos]'h).toNat < 128 := by omega
  have g0 : 128 ≤ (s.get! (pos + 0)).toNat := by rw [get_at s pos h]; exact ha
  simp only [Utf8.decode, get_at s pos h, hn, if_false]
  repeat' split
  all_goals
    intro j hj
    try simp only [Bool.and_eq_true, decide_eq_true_eq, beq_iff_eq] at *
    match j, hj with
    | 0, _ => exact ⟨h, g0⟩
    | 1, hj => first | (exfalso; simp at hj; done) | (constructor <;> omega)
    | 2, hj => first | (exfalso; simp at hj; done) | (constructor <;> omega)
    | 3, hj => first | (exfalso; simp at hj; done) | (constructor <;> omega)
    | j + 4, hj => exfalso; first | omega | (simp at hj)
set_option maxHeartbeats 1000000 in
theorem IndexRune_high (s : ByteArray) (r : Int) (w : World) (h0 : 128 ≤ r) (h1 : r ≤ 2147483647) (hs : s.size ≤ 1000000) (ha : asciiL s.data.toList) :
    Calls Tryz.prog 199 #[.string s, .int .i32 r] w fun e w' => e = .returned (.int .i64 (-1)) ∧ Below w.heap.size w w' := by
  have HA := Lib.hid ha
  clear ha
  by_cases h3 : r = 65533
  · subst h3
    go_enter Tryz.func199, Tryz.ntmps199
    go_wp2
    go_loopg [5, 6] s.size (fun g _ _ wx => ∃ i : Nat, i + g = s.size ∧ wx = w.iter s i)
    case atStart => exact ⟨0, by omega, rfl⟩
    case round =>
      obtain ⟨i, hig, rfl⟩ := hrel
      cases gk with
      | zero =>
        obtain rfl : i = s.size := by omega
        have hnx := run_next_end (P := Tryz.prog) w s s.size
        go_wp2
        go_ret
        exact ⟨rfl, (Below.refl _ _).alloc (Nat.le_refl _) _⟩
      | succ g =>
        have hi : i < s.size := by omega
        obtain ⟨x, hx⟩ : ∃ x : UInt8, s[i]'hi = x := ⟨_, rfl⟩
        have hx128 : x.toNat < 128 := by rw [← hx]; exact HA.out.lt hi
        have hnx := fun ty => run_next_ascii (P := Tryz.prog) w s i ty hi (by rw [hx]; exact hx128)
        rw [hx] at hnx
        clear hx
        go_wp2
        go_roundg g
        case measure => omega
        case rel => exact ⟨i + 1, by omega, rfl⟩
  · cases hv : Lib.validRune r
    · go_enter Tryz.func199, Tryz.ntmps199
      go_wp2_with (go_at_call 251; refine (Tryz.utf8_ValidRune _ _).mono ?_; rintro e w' ⟨rfl, hw⟩; rw [hw, hv])
      go_ret
      exact ⟨rfl, Below.refl _ _⟩
    · have hv2 : Utf8.valid r = true := by rw [validRune_eq]; exact hv
      obtain ⟨e1, e2, e3⟩ := encode_facts r hv2 h0
      obtain ⟨R, HR⟩ := hid_name (Utf8.encode r)
      rw [HR.out] at e1 e2 e3
      obtain ⟨k, hk⟩ : ∃ k : Nat, R.size = k + 1 := ⟨R.size - 1, by omega⟩
      have hk1 : k < R.size := by omega
      obtain ⟨x, hx⟩ : ∃ x : UInt8, R[k]'hk1 = x := ⟨_, rfl⟩
      have hx128 : 128 ≤ x.toNat := by
        have := e3 (by omega)
        simp only [hk, Nat.add_sub_cancel] at this
        rw [hx] at this; exact this
      have hx256 := u8_lt x
      have hRn : ((R.size : Int) - 1) = (k : Int) := by omega
      have hk2 : 1 ≤ k := by omega
      have hk3 : k ≤ 3 := by omega
      have hconv : ∀ W, (convert 21 9 (.int .i32 r)).run Tryz.prog W = .ok (.string R) W := fun W => by
        rw [← HR.out]; exact run_convert_int_string W _ _ _ _ (by kernel_rfl) Tryz.underlying9
      have hR4 : R.size ≤ 4 := e2
      clear e1 e2 e3 hv2 hk
      by_cases hks : k < s.size
      · obtain ⟨y, hy⟩ : ∃ y : UInt8, s[k]'hks = y := ⟨_, rfl⟩
        have hy128 : y.toNat < 128 := by rw [← hy]; exact HA.out.lt hks
        have hne : ((y.toNat : Int) != (x.toNat : Int)) = true := by simp only [bne_iff_ne, ne_eq]; omega
        have HI : Hid (∀ W, Calls Tryz.prog 73 #[.string (s.extract (k + 1) s.size), .int .u8 (x.toNat : Int)] W fun e w' => e = .returned (.int .i64 (-1)) ∧ w' = W) := fun W => by
          refine (IndexByte_any (s.extract (k + 1) s.size) (x.toNat : Int) W).mono ?_; rintro e w' ⟨rfl, rfl⟩
          refine ⟨ret_int ?_, rfl⟩
          rw [Lib.extract_to_end]
          have : ((x.toNat : Int)).toNat.toUInt8 = x := by simp
          rw [this]
          exact ascii_no _ _ (HA.out.drop _) hx128
        go_enter Tryz.func199, Tryz.ntmps199
        go_wp2_with (go_at_call 251; refine (Tryz.utf8_ValidRune _ _).mono ?_; rintro e w' ⟨rfl, hw⟩; rw [hw, hv])
        go_step3
        go_wp2_with fail
        go_loop [9] (fun i => i = .int .i64 k) (fun _ => 0)
        case atStart => rfl
        case round =>
          obtain rfl := hrel
          have ya : ((k : Int) + 1).toNat = k + 1 := by omega
          have yb : IntKind.i64.wrap ((k : Int) + 1) = (k : Int) + 1 := IntWalk.i64_in _ (by omega)
          have yc : (0 : Int) ≤ (k : Int) + 1 := by omega
          have yd : (k : Int) + 1 ≤ (s.size : Int) := by omega
          go_wp2_with fail
          go_step3
          go_wp2_with fail
          go_region
          go_wp2_with fail
          go_quiet ((go_at_call 73; exact (HI.out _).mono fun e w' ⟨a, b⟩ => ⟨a, _, b⟩))
          go_wp2_with fail
          rw [Exit.noGoto_ret]
          go_wp2_with fail
          rw [Exit.noGoto_ret]
          go_wp2_with fail
          go_ret
          exact ⟨rfl, below_drewN (Below.refl _ _) _⟩
      · go_enter Tryz.func199, Tryz.ntmps199
        go_wp2_with (go_at_call 251; refine (Tryz.utf8_ValidRune _ _).mono ?_; rintro e w' ⟨rfl, hw⟩; rw [hw, hv])
        go_step3
        go_wp2_with fail
        go_loop [9] (fun i => i = .int .i64 k) (fun _ => 0)
        case atStart => rfl
        case round =>
          obtain rfl := hrel
          go_wp2_with fail
          go_ret
          exact ⟨rfl, Below.refl _ _⟩
theorem noAny_skip {s : ByteArray} {ch : List UInt8} {i n : Nat} (h : Lib.NoAny s.data.toList ch i) (hc : asciiL ch) (hn : ∀ j, j < n → i + j < s.size ∧ 128 ≤ (s.get! (i + j)).toNat) : Lib.NoAny s.data.toList ch (i + n) := by
  intro j b hj hb
  by_cases hji : j < i
  · exact h j b hji hb
  · obtain ⟨k, rfl⟩ : ∃ k, j = i + k := ⟨j - i, by omega⟩
    obtain ⟨h1, h2⟩ := hn k (by omega)
    have e : s.get! (i + k) = b := by
      rw [Lib.data_getElem? s (i + k) h1] at hb
      have hb' := Option.some.inj hb
      rw [← hb']
      simp [ByteArray.get!, getElem!_pos, h1]; rfl
    rw [e] at h2
    rw [← Bool.not_eq_true]
    intro hcon
    rw [List.contains_iff_mem] at hcon
    obtain ⟨m, hm, hmb⟩ := List.getElem_of_mem hcon
    have := hc m b (by rw [List.getElem?_eq_getElem hm, hmb])
    omega
set_option maxHeartbeats 2000000 in
theorem IndexAny_short (s chars : ByteArray) (w : World) (h2 : 2 ≤ chars.size) (hcs : chars.size ≤ 1000) (h8 : s.size ≤ 8) (hac : asciiL chars.data.toList) :
    Calls Tryz.prog 259 #[.string s, .string chars] w fun e w' => e = .returned (.int .i64 (Lib.indexAny s.data.toList chars.data.toList)) ∧ Below w.heap.size w w' := by
  have HC := Lib.hid hac
  have hemp : chars.toList.isEmpty = false := by
    rw [Lib.toList_data]
    cases h : chars.data.toList with
    | nil => have := Lib.size_eq chars; rw [h, List.length_nil] at this; omega
    | cons _ _ => rfl
  have hn1 : ((chars.size : Int) == 1) = false := beq_eq_false_iff_ne.2 (by omega)
  have h8z : decide ((8 : Int) < (s.size : Int)) = false := decide_eq_false (by omega)
  clear hac
  go_enter Tryz.func259, Tryz.ntmps259
  go_wp2_with (go_at_call 294; refine (Tryz.strings_shouldUseASCIISet _ _).mono ?_; rintro e w' ⟨rfl, hw⟩; rw [hw, h8z])
  go_loopg [9, 10] s.size (fun g _ _ wx => ∃ i : Nat, i + g = s.size ∧ Hid (wx.heap[w.heap.size]? = some (.stringIter s i)) ∧ Hid (Below w.heap.size w wx) ∧ Hid (Lib.NoAny s.data.toList chars.data.toList i))
  case atStart => exact ⟨0, by omega, World.iter_heap _ _ _, (Below.refl _ _).alloc (Nat.le_refl _) _, Lib.NoAny.zero _ _⟩
  case round =>
    obtain ⟨i, hig, HI, HB, HN⟩ := hrel
    cases gk with
    | zero =>
      obtain rfl : i = s.size := by omega
      have hnx := fun ty => Lib.run_next_end_at (P := Tryz.prog) wr w.heap.size s s.size ty HI.out (by omega)
      have HX := Lib.hid (Lib.indexAny_none (by rw [← Lib.size_eq]; exact HN.out))
      go_wp2
      go_ret
      exact ⟨ret_int HX.out.symm, HB.out⟩
    | succ g =>
      have hi : i < s.size := by omega
      obtain ⟨x, hx⟩ : ∃ x : UInt8, s[i]'hi = x := ⟨_, rfl⟩
      have hxl : s.data.toList[i]? = some x := by rw [← hx]; exact Lib.data_getElem? s i hi
      by_cases hx128 : x.toNat < 128
      · have hnx := fun ty => Lib.run_next_ascii_at (P := Tryz.prog) wr w.heap.size s i ty HI.out hi (by rw [hx]; exact hx128)
        rw [hx] at hnx
        have Hx := Lib.hid hxl
        clear hxl hx
        have hI2 := Lib.hid (Lib.iterAt_heap wr w.heap.size s i (i + 1) HI.out)
        have hB2 := Lib.hid (Lib.below_iterAt HB.out (Nat.le_refl _) s (i + 1))
        obtain ⟨W, HW⟩ := hid_name (wr.iterAt w.heap.size s (i + 1))
        simp only [HW.out] at hnx hI2 hB2
        have hcon := Lib.contains_iff_indexByte chars.data.toList x
        have hback : ((x.toNat : Int)).toNat.toUInt8 = x := by simp
        cases hin : chars.data.toList.contains x
        · rw [hin] at hcon
          have hlt : ¬ ((0 : Int) ≤ Lib.indexByte chars.data.toList x) := of_decide_eq_false hcon.symm
          clear hcon
          go_wp2_with (go_at_call 199; refine (Tryz.strings_IndexRune_ascii _ _ _ (by omega) (by omega)).mono ?_; rintro e w' ⟨rfl, hw⟩; rw [hw, hback])
          go_roundg g
          case measure => omega
          case rel => exact ⟨i + 1, by omega, hI2, hB2, HN.out.succ Hx.out hin⟩
        · rw [hin] at hcon
          have hge : (0 : Int) ≤ Lib.indexByte chars.data.toList x := of_decide_eq_true hcon.symm
          have HX := Lib.hid (Lib.indexAny_hit HN.out Hx.out hin)
          clear hcon
          go_wp2_with (go_at_call 199; refine (Tryz.strings_IndexRune_ascii _ _ _ (by omega) (by omega)).mono ?_; rintro e w' ⟨rfl, hw⟩; rw [hw, hback])
          go_ret
          exact ⟨ret_int HX.out.symm, hB2.out⟩
      · have hx128' : 128 ≤ (s[i]'hi).toNat := by rw [hx]; omega
        have hT := dec_tail s i hi hx128'
        obtain ⟨hc1, hn1'⟩ := decode_high s i hi hx128'
        have hc2 := decode_le s i
        have hnx := fun ty => Lib.run_next_any_at (P := Tryz.prog) wr w.heap.size s i ty HI.out hi
        have hi2 := Lib.iterAt_heap wr w.heap.size s i (i + (Utf8.decode s i).2) HI.out
        have hb2 := Lib.below_iterAt HB.out (Nat.le_refl _) s (i + (Utf8.decode s i).2)
        obtain ⟨c, Hc⟩ := hid_name (Utf8.decode s i).1
        obtain ⟨n, Hn⟩ := hid_name (Utf8.decode s i).2
        rw [Hc.out] at hnx hc1 hc2
        rw [Hn.out] at hnx hT hn1' hi2 hb2
        have HN2 := Lib.hid (noAny_skip HN.out HC.out hT)
        have hin2 : i + n ≤ s.size := by
          have := (hT (n - 1) (by omega)).1; omega
        have hI2 := Lib.hid hi2
        have hB2 := Lib.hid hb2
        obtain ⟨W, HW⟩ := hid_name (wr.iterAt w.heap.size s (i + n))
        simp only [HW.out] at hnx
        rw [HW.out] at hI2 hB2
        clear hx hxl hx128 hT hi2 hb2 hx128' HN
        go_wp2_with fail
        refine (IndexRune_high chars (c : Int) _ (by omega) (by omega) (by omega) HC.out).mono ?_; rintro e w1 ⟨rfl, hb⟩
        have hlt : w.heap.size < W.heap.size := by
          rcases Nat.lt_or_ge w.heap.size W.heap.size with h' | h'
          · exact h'
          · have := hI2.out; rw [Array.getElem?_eq_none h'] at this; cases this
        have hI3 := Lib.hid ((hb.block _ hlt).trans hI2.out)
        have hB3 := Lib.hid (hB2.out.trans (hb.mono (Nat.le_of_lt hlt)))
        clear hb
        go_wp2_with fail
        go_roundg (s.size - (i + n))
        case measure => omega
        case rel => exact ⟨i + n, by omega, hI3, hB3, HN2⟩
theorem IndexAny_any (s chars : ByteArray) (w : World) (h2 : 2 ≤ chars.size) (hcs : chars.size ≤ 1000) (hs : s.size < 4294967281) (hac : asciiL chars.data.toList) :
    Calls Tryz.prog 259 #[.string s, .string chars] w fun e w' => e = .returned (.int .i64 (Lib.indexAny s.data.toList chars.data.toList)) ∧ Below w.heap.size w w' := by
  by_cases h8 : s.size ≤ 8
  · exact IndexAny_short s chars w h2 hcs h8 hac
  · refine (Tryz.strings_IndexAny_long (zero_of_info (show (Tryz.prog.info? 103).map (fun i => (i.zero, i.size)) = some (some (.agg (Array.replicate 256 (.bool false))), 256) by kernel_rfl)).1 s chars w h2 (by omega) hs (by omega) hac).mono ?_; rintro e w' ⟨rfl, rfl⟩
    exact ⟨rfl, ((Below.refl _ _).alloc (Nat.le_refl _) _).alloc (by simp) _⟩
theorem ContainsAny_any (s chars : ByteArray) (w : World) (h2 : 2 ≤ chars.size) (hcs : chars.size ≤ 1000) (hs : s.size < 4294967281) (hac : asciiL chars.data.toList) :
    Calls Tryz.prog 211 #[.string s, .string chars] w fun e w' => e = .returned (.bool (Lib.containsAny s.data.toList chars.data.toList)) ∧ Below w.heap.size w w' := by
  have HI := Lib.hid fun W => IndexAny_any s chars W h2 hcs hs hac
  go_enter Tryz.func211, Tryz.ntmps211
  go_wp2_with fail
  refine (HI.out _).mono ?_; rintro e w1 ⟨rfl, hb⟩
  go_wp2_with fail
  go_ret
  exact ⟨rfl, hb⟩
theorem indexAny_two (a b : UInt8) (l : List UInt8) : Lib.containsAny l [a, b] = (hasB a l || hasB b l) := by
  unfold Lib.containsAny
  induction l with
  | nil => rfl
  | cons x l ih =>
    rw [Lib.indexAny, hasB_cons, hasB_cons]
    have hge := Lib.indexAny_ge [a, b] l
    by_cases hx : x = a ∨ x = b
    · have e : [a, b].contains x = true := by rcases hx with rfl | rfl <;> simp
      rw [if_pos e]
      rcases hx with rfl | rfl <;> simp
    · have ha : ¬ x = a := fun h => hx (.inl h)
      have hb : ¬ x = b := fun h => hx (.inr h)
      have e : [a, b].contains x = false := by simp [ha, hb]
      have e1 : (x == a) = false := by simpa using ha
      have e2 : (x == b) = false := by simpa using hb
      rw [e, e1, e2, Bool.false_or, Bool.false_or, ← ih]
      by_cases hm : Lib.indexAny l [a, b] = -1
      · rw [hm]; rfl
      · have hm' : (Lib.indexAny l [a, b] == -1) = false := by simpa using hm
        rw [hm']
        rw [if_neg (by decide), if_neg (by decide)]
        rw [decide_eq_true (by omega), decide_eq_true (by omega)]
end Go.Proofs.YtldffnmoafhidaaGreatDoor
