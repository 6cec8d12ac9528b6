/- The reference's lines: two digits. (Stage 20, ahead.) -/
import Derived.Test.YtdcbmjihpjnbbaaDoorDayA
import Derived.Test.YtdcbmjihpjnbbaaDoorStpA
import Derived.Test.YtdcbmjihpjnbbaaDoorMetU
import Derived.Test.YtdcbmjihpjnbbaaDoorEna
import Derived.Test.YtdcbmjihpjnbbaaDoorMth
set_option linter.unusedVariables false
set_option maxRecDepth 100000
namespace Go.Proofs.YtdcbmjihpjnbbaaDoor
open Go.RowKit
open Go.OpenShut
theorem lin_add {a b A : ByteArray} (h : a ++ b = A) (hs : a.size + b.size ≤ 9223372036854775807) : ∀ W : World, (Op.stringOp .add a b).run Tryd.prog W = .ok (.string A) W := fun W => by
  rw [← h]; exact run_string_add_sum (P := Tryd.prog) (w := W) a b hs
theorem lin_keep {W W' : World} {p : Addr} {v : Value} (h : W.cell? p = some v) (hb : Below W.heap.size W W') : W'.cell? p = some v := (hb.cell (World.block_lt_of_cell? _ _ h)).trans h
theorem lin_below {x W W' : World} (h : Below x.heap.size x W) (hb : Below W.heap.size W W') : Below x.heap.size x W' := h.trans (hb.mono h.size)
theorem lin_alloc {x W : World} (h : Below x.heap.size x W) (o : Obj) : Below x.heap.size x (W.alloc o) := h.alloc h.size o
theorem rTwo_any (n : Int) (h1 : 0 ≤ n) (h2 : n ≤ 1000000) (w : World) (T : Tab w) :
    Calls Tryd.prog 33 #[.int .i64 n] w fun e w' => e = .returned (.string (bs (twoM n))) ∧ Below w.heap.size w w' := by
  have H := Lib.hid (Itoa_any n w T (by omega) (by omega))
  have hl := itoa_short (n := n) (by omega) (by omega)
  have HV : Hid (bs (twoM n) = if n < 10 then bs (48 :: Lib.itoa n) else bs (Lib.itoa n)) := by unfold Hid twoM; split <;> rfl
  have hadd : (⟨#[48]⟩ : ByteArray) ++ bs (Lib.itoa n) = bs (48 :: Lib.itoa n) := bs_plus [48] (Lib.itoa n)
  obtain ⟨S, HS⟩ := hid_name (bs (Lib.itoa n))
  have hsz : S.size ≤ 19 := by rw [← HS.out, bs_size]; exact hl
  rw [HS.out] at H hadd HV
  obtain ⟨R, HR⟩ := hid_name (bs (48 :: Lib.itoa n))
  rw [HR.out] at hadd HV
  have p1 := lin_add hadd (by show 1 + _ ≤ _; omega)
  clear hl hadd
  by_cases h : n < 10
  · rw [if_pos h] at HV
    go_enter Tryd.func33, Tryd.ntmps33
    go_wp2_with fail
    refine H.out.mono ?_; rintro e w1 ⟨rfl, hb⟩
    have HB := Lib.hid hb
    clear hb H
    go_wp2_with fail
    go_ret
    exact ⟨by rw [HV.out]; rfl, HB.out⟩
  · rw [if_neg h] at HV
    go_enter Tryd.func33, Tryd.ntmps33
    go_wp2_with fail
    refine H.out.mono ?_; rintro e w1 ⟨rfl, hb⟩
    have HB := Lib.hid hb
    clear hb H
    go_wp2_with fail
    go_ret
    exact ⟨by rw [HV.out]; rfl, HB.out⟩
end Go.Proofs.YtdcbmjihpjnbbaaDoor
