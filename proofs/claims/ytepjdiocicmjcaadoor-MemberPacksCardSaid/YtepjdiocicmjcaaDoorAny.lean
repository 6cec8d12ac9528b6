/- strings.IndexAny, strings.ContainsAny: any bytes are searched, for ASCII bytes. -/
import Derived.Test.YtepjdiocicmjcaaDoorFld
import Derived.Test.YtepjdiocicmjcaaDoorShelf
import Derived.Laws.Runes
import Derived.WalkMore
import Derived.IntWalk
import Derived.Laws.RangeAny
import Derived.Shelf.Strings.IndexAnyAll
import Derived.BigQuiet
import Derived.Deep.QuietTactic
set_option linter.unusedVariables false
set_option maxRecDepth 100000
namespace Go.Proofs.YtepjdiocicmjcaaDoor
open Go.RowKit
open Go.OpenShut
/-- all bytes are below 128 -/
def asciiL (l : List UInt8) : Prop := ∀ (j : Nat) b, l[j]? = some b → b.toNat < 128
theorem asciiL.lt {s : ByteArray} (h : asciiL s.data.toList) {i : Nat} (hi : i < s.size) : (s[i]'hi).toNat < 128 := h i _ (Lib.data_getElem? s i hi)
theorem asciiL.drop {l : List UInt8} (h : asciiL l) (k : Nat) : asciiL (l.drop k) := fun j b hb => h (k + j) b (by rw [List.getElem?_drop] at hb; exact hb)
theorem ascii_no (l : List UInt8) (c : UInt8) (h : asciiL l) (hc : 128 ≤ c.toNat) : Lib.indexByte l c = -1 := by
  rw [indexByte_pos, if_neg ?_]
  rw [hasB, List.any_eq_true]
  rintro ⟨b, hb, e⟩
  obtain ⟨i, hi, rfl⟩ := List.getElem_of_mem hb
  have := h i _ (List.getElem?_eq_getElem hi)
  rw [eq_of_beq e] at this; omega
theorem dec_tail (s : ByteArray) (pos : Nat) (h : pos < s.size) (ha : 128 ≤ (s[pos]'h).toNat) :
    ∀ j, j < (Utf8.decode s pos).2 → pos + j < s.size ∧ 128 ≤ (s.get! (pos + j)).toNat := by
  have hn : ¬ (s[pos]'h).toNat < 128 := by omega
  have g0 : 128 ≤ (s.get! (pos + 0)).toNat := by rw [get_at s pos h]; exact ha
  simp only [Utf8.decode, get_at s pos h, hn, if_false]
  repeat' split
  all_goals
    intro j hj
    try simp only [Bool.and_eq_true, decide_eq_true_eq, beq_iff_eq] at *
    match j, hj with
    | 0, _ => exact ⟨h, g0⟩
    | 1, hj => first | (exfalso; simp at hj; done) | (constructor <;> omega)
    | 2, hj => first | (exfalso; simp at hj; done) | (constructor <;> omega)
    | 3, hj => first | (exfalso; simp at hj; done) | (constructor <;> omega)
    | j + 4, hj => exfalso; first | omega | (simp at hj)
set_option maxHeartbeats 1000000 in
theorem IndexRune_high (s : ByteArray) (r : Int) (w : World) (h0 : 128 ≤ r) (h1 : r ≤ 2147483647) (hs : s.size ≤ 1000000) (ha : asciiL s.data.toList) :
    Calls Tryd.prog 71 #[.string s, .int .i32 r] w fun e w' => e = .returned (.int .i64 (-1)) ∧ Below w.heap.size w w' := by
  have HA := Lib.hid ha
  clear ha
  by_cases h3 : r = 65533
  · subst h3
    go_enter Tryd.func71, Tryd.ntmps71
    go_wp2
    go_loopg [5, 6] s.size (fun g _ _ wx => ∃ i : Nat, i + g = s.size ∧ wx = w.iter s i)
    case atStart => exact ⟨0, by omega, rfl⟩
    case round =>
      obtain ⟨i, hig, rfl⟩ := hrel
      cases gk with
      | zero =>
        obtain rfl : i = s.size := by omega
        have hnx := run_next_end (P := Tryd.prog) w s s.size
        go_wp2
        go_ret
        exact ⟨rfl, (Below.refl _ _).alloc (Nat.le_refl _) _⟩
      | succ g =>
        have hi : i < s.size := by omega
        obtain ⟨x, hx⟩ : ∃ x : UInt8, s[i]'hi = x := ⟨_, rfl⟩
        have hx128 : x.toNat < 128 := by rw [← hx]; exact HA.out.lt hi
        have hnx := fun ty => run_next_ascii (P := Tryd.prog) w s i ty hi (by rw [hx]; exact hx128)
        rw [hx] at hnx
        clear hx
        go_wp2
        go_roundg g
        case measure => omega
        case rel => exact ⟨i + 1, by omega, rfl⟩
  · cases hv : Lib.validRune r
    · go_enter Tryd.func71, Tryd.ntmps71
      go_wp2_with (go_at_call 78; refine (Tryd.utf8_ValidRune _ _).mono ?_; rintro e w' ⟨rfl, hw⟩; rw [hw, hv])
      go_ret
      exact ⟨rfl, Below.refl _ _⟩
    · have hv2 : Utf8.valid r = true := by rw [validRune_eq]; exact hv
      obtain ⟨e1, e2, e3⟩ := encode_facts r hv2 h0
      obtain ⟨R, HR⟩ := hid_name (Utf8.encode r)
      rw [HR.out] at e1 e2 e3
      obtain ⟨k, hk⟩ : ∃ k : Nat, R.size = k + 1 := ⟨R.size - 1, by omega⟩
      have hk1 : k < R.size := by omega
      obtain ⟨x, hx⟩ : ∃ x : UInt8, R[k]'hk1 = x := ⟨_, rfl⟩
      have hx128 : 128 ≤ x.toNat := by
        have := e3 (by omega)
        simp only [hk, Nat.add_sub_cancel] at this
        rw [hx] at this; exact this
      have hx256 := u8_lt x
      have hRn : ((R.size : Int) - 1) = (k : Int) := by omega
      have hk2 : 1 ≤ k := by omega
      have hk3 : k ≤ 3 := by omega
      have hconv : ∀ W, (convert 21 9 (.int .i32 r)).run Tryd.prog W = .ok (.string R) W := fun W => by
        rw [← HR.out]; exact run_convert_int_string W _ _ _ _ (by kernel_rfl) Tryd.underlying9
      have hR4 : R.size ≤ 4 := e2
      clear e1 e2 e3 hv2 hk
      by_cases hks : k < s.size
      · obtain ⟨y, hy⟩ : ∃ y : UInt8, s[k]'hks = y := ⟨_, rfl⟩
        have hy128 : y.toNat < 128 := by rw [← hy]; exact HA.out.lt hks
        have hne : ((y.toNat : Int) != (x.toNat : Int)) = true := by simp only [bne_iff_ne, ne_eq]; omega
        have HI : Hid (∀ W, Calls Tryd.prog 28 #[.string (s.extract (k + 1) s.size), .int .u8 (x.toNat : Int)] W fun e w' => e = .returned (.int .i64 (-1)) ∧ w' = W) := fun W => by
          refine (IndexByte_any (s.extract (k + 1) s.size) (x.toNat : Int) W).mono ?_; rintro e w' ⟨rfl, rfl⟩
          refine ⟨ret_int ?_, rfl⟩
          rw [Lib.extract_to_end]
          have : ((x.toNat : Int)).toNat.toUInt8 = x := by simp
          rw [this]
          exact ascii_no _ _ (HA.out.drop _) hx128
        go_enter Tryd.func71, Tryd.ntmps71
        go_wp2_with (go_at_call 78; refine (Tryd.utf8_ValidRune _ _).mono ?_; rintro e w' ⟨rfl, hw⟩; rw [hw, hv])
        go_step3
        go_wp2_with fail
        go_loop [9] (fun i => i = .int .i64 k) (fun _ => 0)
        case atStart => rfl
        case round =>
          obtain rfl := hrel
          have ya : ((k : Int) + 1).toNat = k + 1 := by omega
          have yb : IntKind.i64.wrap ((k : Int) + 1) = (k : Int) + 1 := IntWalk.i64_in _ (by omega)
          have yc : (0 : Int) ≤ (k : Int) + 1 := by omega
          have yd : (k : Int) + 1 ≤ (s.size : Int) := by omega
          go_wp2_with fail
          go_step3
          go_wp2_with fail
          go_region
          go_wp2_with fail
          go_quiet ((go_at_call 28; exact (HI.out _).mono fun e w' ⟨a, b⟩ => ⟨a, _, b⟩))
          go_wp2_with fail
          rw [Exit.noGoto_ret]
          go_wp2_with fail
          rw [Exit.noGoto_ret]
          go_wp2_with fail
          go_ret
          exact ⟨rfl, below_drewN (Below.refl _ _) _⟩
      · go_enter Tryd.func71, Tryd.ntmps71
        go_wp2_with (go_at_call 78; refine (Tryd.utf8_ValidRune _ _).mono ?_; rintro e w' ⟨rfl, hw⟩; rw [hw, hv])
        go_step3
        go_wp2_with fail
        go_loop [9] (fun i => i = .int .i64 k) (fun _ => 0)
        case atStart => rfl
        case round =>
          obtain rfl := hrel
          go_wp2_with fail
          go_ret
          exact ⟨rfl, Below.refl _ _⟩
end Go.Proofs.YtepjdiocicmjcaaDoor
