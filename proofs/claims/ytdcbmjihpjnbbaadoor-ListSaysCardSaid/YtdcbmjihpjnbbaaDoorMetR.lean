/- The reference's text of a mode. -/
import Derived.Test.YtdcbmjihpjnbbaaDoorMetT
import Derived.Test.YtdcbmjihpjnbbaaDoorOctA
set_option linter.unusedVariables false
set_option maxRecDepth 100000
namespace Go.Proofs.YtdcbmjihpjnbbaaDoor
open Go.RowKit
open Go.OpenShut
/-- the three signs of three bits -/
def sg3 (a : Nat) : List UInt8 := md3 a 0 false
def tab8 : Array Value := #[.string ⟨#[45, 45, 45]⟩, .string ⟨#[45, 45, 120]⟩, .string ⟨#[45, 119, 45]⟩, .string ⟨#[45, 119, 120]⟩, .string ⟨#[114, 45, 45]⟩, .string ⟨#[114, 45, 120]⟩, .string ⟨#[114, 119, 45]⟩, .string ⟨#[114, 119, 120]⟩]
theorem tab8_get (a : Nat) (h : a < 8) : ∀ h' : a < [Value.string ⟨#[45, 45, 45]⟩, .string ⟨#[45, 45, 120]⟩, .string ⟨#[45, 119, 45]⟩, .string ⟨#[45, 119, 120]⟩, .string ⟨#[114, 45, 45]⟩, .string ⟨#[114, 45, 120]⟩, .string ⟨#[114, 119, 45]⟩, .string ⟨#[114, 119, 120]⟩].length, [Value.string ⟨#[45, 45, 45]⟩, .string ⟨#[45, 45, 120]⟩, .string ⟨#[45, 119, 45]⟩, .string ⟨#[45, 119, 120]⟩, .string ⟨#[114, 45, 45]⟩, .string ⟨#[114, 45, 120]⟩, .string ⟨#[114, 119, 45]⟩, .string ⟨#[114, 119, 120]⟩][a]'h' = .string (bs (sg3 a)) := by
  match a, h with
  | 0, _ => intro _; rfl
  | 1, _ => intro _; rfl
  | 2, _ => intro _; rfl
  | 3, _ => intro _; rfl
  | 4, _ => intro _; rfl
  | 5, _ => intro _; rfl
  | 6, _ => intro _; rfl
  | 7, _ => intro _; rfl
theorem strcat (a b : List UInt8) : bs a ++ bs b = bs (a ++ b) := by
  apply ByteArray.ext; simp [bs, ByteArray.data_append]
theorem run_cat {a b A : ByteArray} (h : a ++ b = A) (hs : a.size + b.size ≤ 9223372036854775807) : ∀ W : World, (Op.stringOp .add a b).run Tryd.prog W = .ok (.string A) W := fun W => by
  rw [← h]; exact run_string_add_sum (P := Tryd.prog) (w := W) a b hs
/-- the texts of one round, by name -/
theorem round_txt (l : List UInt8) (m a u : Nat) (t : Bool) (hl : l.length = m) (hm : m ≤ 6) :
    ∃ X S Y Z : ByteArray, bs l = X ∧ bs (sg3 a) = S ∧ Y.size = m + 3 ∧ (∀ W : World, (Op.stringOp .add X S).run Tryd.prog W = .ok (.string Y) W) ∧ Y.extract 0 (m + 2) = Z ∧
      (∀ (g : UInt8) (W : World), (Op.stringOp .add Z ⟨#[g]⟩).run Tryd.prog W = .ok (.string (bs (l ++ [if a / 4 % 2 = 1 then 114 else 45, if a / 2 % 2 = 1 then 119 else 45, g]))) W) ∧ Y = bs (l ++ sg3 a) := by
  have hlen : (l ++ sg3 a).length = m + 3 := by rw [List.length_append, hl]; rfl
  refine ⟨_, _, bs (l ++ sg3 a), bs (l ++ [if a / 4 % 2 = 1 then 114 else 45, if a / 2 % 2 = 1 then 119 else 45]), rfl, rfl, ?_, ?_, ?_, fun g => ?_, rfl⟩
  · rw [bs_size, hlen]
  · exact run_cat (strcat _ _) (by rw [bs_size, bs_size, hl]; show m + 3 ≤ _; omega)
  · apply ByteArray.ext; apply Array.toList_inj.1
    rw [ByteArray.data_extract, Array.toList_extract, bs_list, bs_list]
    simp only [List.extract, Nat.sub_zero, List.drop_zero]
    rw [List.take_append, hl, List.take_of_length_le (by omega), show m + 2 - m = 2 by omega]; rfl
  · have h := run_cat (strcat (l ++ [if a / 4 % 2 = 1 then 114 else 45, if a / 2 % 2 = 1 then 119 else 45]) [g]) (by rw [bs_size, bs_size, List.length_append, hl]; show m + 2 + 1 ≤ _; omega)
    rw [List.append_assoc] at h
    exact h
theorem md3_none (a : Nat) (t : Bool) : md3 a 0 t = sg3 a := rfl
theorem md3_small (a : Nat) (t : Bool) (h : a % 2 = 1) : md3 a 1 t = [if a / 4 % 2 = 1 then 114 else 45, if a / 2 % 2 = 1 then 119 else 45, if t = true then 116 else 115] := by
  unfold md3; cases t <;> simp [h]
theorem md3_great (a : Nat) (t : Bool) (h : a % 2 = 0) : md3 a 1 t = [if a / 4 % 2 = 1 then 114 else 45, if a / 2 % 2 = 1 then 119 else 45, if t = true then 84 else 83] := by
  unfold md3; cases t <;> simp [h]
def putW (w : World) (r : Nat) (o : Obj) : World := { w with heap := w.heap.setIfInBounds r o }
theorem putW_at {w : World} {r : Nat} {x : Obj} (o : Obj) (h : w.heap[r]? = some x) : (putW w r o).heap[r]? = some o := (MapKept.heap_set h).1
theorem run_put {P : Program} (w : World) (mty kt et : TypeId) (r clock : Nat) (es : Array MapEntry) (s : ByteArray) (val : Value) (hm : P.underlying mty = some (.map kt et)) (hk : P.underlying kt = some .string) (hb : w.heap[r]? = some (.map es clock)) (hf : Instr.findNow .string (.string s) es.toList 0 = some none) :
    (Instr.mapUpdate mty (.map (some r)) (.string s) val).run P w = .ok () (putW w r (.map (es.push { key := .string s, val := val, born := clock }) (clock + 1))) := by
  have hc : (Instr.checkKey false 10000 kt (.string s)).run P w = .ok () w := MapKept.run_checkKey (k := .string s) hk (by simp [MapKept.IsKey]) false 9999
  unfold putW
  simp [Instr.mapUpdate, run_underlying hm, MapKept.run_getObj_map hb, hc, MapKept.run_findKey hk hf, MapKept.run_setObj_map _ hb, Result.andThen]
theorem run_look {P : Program} (w : World) (mty kt et : TypeId) (r clock i : Nat) (es : Array MapEntry) (s : ByteArray) (val : Value) (hm : P.underlying mty = some (.map kt et)) (hk : P.underlying kt = some .string) (hb : w.heap[r]? = some (.map es clock)) (hf : Instr.findNow .string (.string s) es.toList 0 = some (some (i, val))) :
    (Instr.lookup mty (.map (some r)) (.string s) false).run P w = .ok val w := by
  have hc : (Instr.checkKey es.isEmpty 10000 kt (.string s)).run P w = .ok () w := MapKept.run_checkKey (k := .string s) hk (by simp [MapKept.IsKey]) _ 9999
  simp [Instr.lookup, run_underlying hm, MapKept.run_getObj_map hb, hc, MapKept.run_findKey hk hf, Result.andThen]
def en1 : MapEntry := { key := .string ⟨#[115]⟩, val := .string ⟨#[83]⟩, born := 0 }
def en2 : MapEntry := { key := .string ⟨#[116]⟩, val := .string ⟨#[84]⟩, born := 1 }
/-- the two great signs, in a map made at W -/
theorem great_map (W : World) : ∃ W1 W2 W3 : World, (Instr.makeMap 77 none).run Tryd.prog W = .ok (.map (some W.heap.size)) W1 ∧
    (Instr.mapUpdate 77 (.map (some W.heap.size)) (.string ⟨#[115]⟩) (.string ⟨#[83]⟩)).run Tryd.prog W1 = .ok () W2 ∧
    (Instr.mapUpdate 77 (.map (some W.heap.size)) (.string ⟨#[116]⟩) (.string ⟨#[84]⟩)).run Tryd.prog W2 = .ok () W3 ∧
    (Instr.lookup 77 (.map (some W.heap.size)) (.string ⟨#[115]⟩) false).run Tryd.prog W3 = .ok (.string ⟨#[83]⟩) W3 ∧
    (Instr.lookup 77 (.map (some W.heap.size)) (.string ⟨#[116]⟩) false).run Tryd.prog W3 = .ok (.string ⟨#[84]⟩) W3 ∧
    ∀ w0 : World, Below w0.heap.size w0 W → Below w0.heap.size w0 W3 := by
  have hm := Tryd.underlying77
  have hk := Tryd.underlying9
  have b1 : (W.alloc (.map #[] 0)).heap[W.heap.size]? = some (.map #[] 0) := heap_alloc_new W _
  have p1 := run_put (P := Tryd.prog) (W.alloc (.map #[] 0)) 77 9 9 W.heap.size 0 #[] ⟨#[115]⟩ (.string ⟨#[83]⟩) hm hk b1 rfl
  have b2 := putW_at (.map #[en1] 1) b1
  have p2 := run_put (P := Tryd.prog) _ 77 9 9 W.heap.size 1 #[en1] ⟨#[116]⟩ (.string ⟨#[84]⟩) hm hk b2 rfl
  have b3 := putW_at (.map #[en1, en2] 2) b2
  refine ⟨_, _, _, rfl, p1, p2, run_look _ _ _ _ _ 2 0 _ _ _ hm hk b3 rfl, run_look _ _ _ _ _ 2 1 _ _ _ hm hk b3 rfl, fun w0 h => ?_⟩
  refine h.trans ⟨rfl, rfl, rfl, ?_, fun i hi => ?_⟩
  · show W.heap.size ≤ (((W.heap.push _).setIfInBounds _ _).setIfInBounds _ _).size
    simp
  · have hs := h.size
    have e3 := (MapKept.heap_set (o' := .map #[en1, en2] 2) b2).2 i (by omega)
    have e2 := (MapKept.heap_set (o' := .map #[en1] 1) b1).2 i (by omega)
    exact (e3.trans e2).trans (Below.heap_alloc W _ i (by omega))
theorem rText_no (n : Int) (w : World) (h : mdB n = false) : Calls Tryd.prog 34 #[.int .i64 n] w fun e w' => e = .returned (.tuple #[.string ⟨#[]⟩, .int .i64 4]) ∧ w = w' := by
  have h2 := mdB_off h
  clear h
  by_cases h0 : n < 0
  · clear h2
    go_enter Tryd.func34, Tryd.ntmps34
    go_wp2_with fail
    go_ret2
    exact ⟨rfl, rfl⟩
  · have h3 : 4095 < n := by omega
    clear h2
    go_enter Tryd.func34, Tryd.ntmps34
    go_wp2_with fail
    go_ret2
    exact ⟨rfl, rfl⟩
set_option maxHeartbeats 2000000 in
theorem rText_yes (n : Nat) (w : World) (h : n < 4096) : Calls Tryd.prog 34 #[.int .i64 (n : Int)] w fun e w' => e = .returned (.tuple #[.string (bs (mdL n)), .int .i64 0]) ∧ Below w.heap.size w w' := by
  have h1 : ¬ (n : Int) < 0 := by omega
  have h2 : ¬ 4095 < (n : Int) := by omega
  go_enter Tryd.func34, Tryd.ntmps34
  go_wp2_with fail
  go_loopw [4, 5] (fun s i wr => Hid (Below w.heap.size w wr) ∧ (i = .int .i64 2 ∧ s = .string ⟨#[]⟩ ∨ i = .int .i64 1 ∧ s = .string (bs (mdA n)) ∨ i = .int .i64 0 ∧ s = .string (bs (mdA n ++ mdBb n)) ∨ i = .int .i64 (-1) ∧ s = .string (bs (mdL n)))) (fun _ i _ => (intOf i + 1).toNat)
  case atStart => exact ⟨Below.refl _ _, .inl ⟨rfl, rfl⟩⟩
  case round =>
    obtain ⟨HB2, hd⟩ := hrel
    rcases hd with ⟨rfl, rfl⟩ | ⟨rfl, rfl⟩ | ⟨rfl, rfl⟩ | ⟨rfl, rfl⟩
    · have hp := Lib.hid fun W => power_any 2 W (by omega) (by omega)
      go_wp2_with fail
      refine (hp.out _).mono ?_; rintro e w' ⟨rfl, rfl⟩
      go_upto_region 9 with fail
      obtain ⟨a, ha, ha2, hA⟩ : ∃ a : Nat, a < 8 ∧ a = n / 64 % 8 ∧ (n : Int) / 64 % 8 = (a : Int) := ⟨n / 64 % 8, by omega, rfl, by omega⟩
      obtain ⟨u, hu, hu2, hU⟩ : ∃ u : Nat, u < 2 ∧ u = n / 2048 % 2 ∧ (n : Int) / 512 / 4 % 2 = (u : Int) := ⟨n / 2048 % 2, by omega, rfl, by omega⟩
      rw [hA, hU]
      have HE : Hid ([] ++ md3 a u false = mdA n) := by unfold Hid; rw [ha2, hu2]; rfl
      obtain ⟨X, S3, Y, Z, hX, hS, hY, q1, q2, q3, hYe⟩ := round_txt ([]) 0 a u false rfl (by omega)
      have hc := tab8_get a ha
      rw [hS] at hc
      obtain rfl : X = ⟨#[]⟩ := hX.symm
      have HYe := Lib.hid hYe
      have HQ3 := Lib.hid q3
      clear hX hS hYe ha2 hu2 hA hU q3
      rcases (show u = 0 ∨ u = 1 by omega) with rfl | rfl
      · go_wp2_with fail
        go_roundw
        case rel => exact ⟨HB2.out.alloc HB2.out.size _, .inr (.inl ⟨rfl, by rw [HYe.out, ← HE.out, md3_none]⟩)⟩
        case measure => simp [intOf]
      · rcases (show a % 2 = 1 ∨ a % 2 = 0 by omega) with hp2 | hp2
        · have hp3 : (a : Int) % 2 = 1 := by omega
          have q3 := HQ3.out 115
          obtain ⟨R, HR⟩ := hid_name (bs ([] ++ [if a / 4 % 2 = 1 then 114 else 45, if a / 2 % 2 = 1 then 119 else 45, (115 : UInt8)]))
          rw [HR.out] at q3
          have HF : Hid (R = bs (mdA n)) := by unfold Hid; rw [← HE.out, ← HR.out, md3_small a false hp2]; rfl
          clear hp2 hp
          go_wp2_with fail
          go_roundw
          case rel => exact ⟨HB2.out.alloc HB2.out.size _, .inr (.inl ⟨rfl, by rw [HF.out]⟩)⟩
          case measure => simp [intOf]
        · have hp3 : (a : Int) % 2 = 0 := by omega
          have HP2 := Lib.hid hp2
          clear hp2 hp
          go_upto_region 15 with fail
          have HBA : Hid (∀ o, Below w.heap.size w (wr.alloc o)) := fun o => HB2.out.alloc HB2.out.size o
          generalize hwa : wr.alloc _ = wa
          have HBa : Hid (Below w.heap.size w wa) := by rw [← hwa]; exact HBA.out _
          clear hwa
          obtain ⟨W1, W2, W3, m1, m2, m3, m4, m5, HM6⟩ := great_map wa
          have HB3 := Lib.hid (HM6 _ HBa.out)
          have q3 := HQ3.out 83
          obtain ⟨R, HR⟩ := hid_name (bs ([] ++ [if a / 4 % 2 = 1 then 114 else 45, if a / 2 % 2 = 1 then 119 else 45, (83 : UInt8)]))
          rw [HR.out] at q3
          have HF : Hid (R = bs (mdA n)) := by unfold Hid; rw [← HE.out, ← HR.out, md3_great a false HP2.out]; rfl
          clear HM6
          go_wp2_with fail
          go_roundw
          case rel => exact ⟨HB3, .inr (.inl ⟨rfl, by rw [HF.out]⟩)⟩
          case measure => simp [intOf]
    · have hp := Lib.hid fun W => power_any 1 W (by omega) (by omega)
      go_wp2_with fail
      refine (hp.out _).mono ?_; rintro e w' ⟨rfl, rfl⟩
      go_upto_region 9 with fail
      obtain ⟨a, ha, ha2, hA⟩ : ∃ a : Nat, a < 8 ∧ a = n / 8 % 8 ∧ (n : Int) / 8 % 8 = (a : Int) := ⟨n / 8 % 8, by omega, rfl, by omega⟩
      obtain ⟨u, hu, hu2, hU⟩ : ∃ u : Nat, u < 2 ∧ u = n / 1024 % 2 ∧ (n : Int) / 512 / 2 % 2 = (u : Int) := ⟨n / 1024 % 2, by omega, rfl, by omega⟩
      rw [hA, hU]
      have HE : Hid (mdA n ++ md3 a u false = mdA n ++ mdBb n) := by unfold Hid; rw [ha2, hu2]; rfl
      obtain ⟨X, S3, Y, Z, hX, hS, hY, q1, q2, q3, hYe⟩ := round_txt (mdA n) 3 a u false rfl (by omega)
      have hc := tab8_get a ha
      rw [hS] at hc
      rw [hX]
      have HYe := Lib.hid hYe
      have HQ3 := Lib.hid q3
      clear hX hS hYe ha2 hu2 hA hU q3
      rcases (show u = 0 ∨ u = 1 by omega) with rfl | rfl
      · go_wp2_with fail
        go_roundw
        case rel => exact ⟨HB2.out.alloc HB2.out.size _, .inr (.inr (.inl ⟨rfl, by rw [HYe.out, ← HE.out, md3_none]⟩))⟩
        case measure => simp [intOf]
      · rcases (show a % 2 = 1 ∨ a % 2 = 0 by omega) with hp2 | hp2
        · have hp3 : (a : Int) % 2 = 1 := by omega
          have q3 := HQ3.out 115
          obtain ⟨R, HR⟩ := hid_name (bs (mdA n ++ [if a / 4 % 2 = 1 then 114 else 45, if a / 2 % 2 = 1 then 119 else 45, (115 : UInt8)]))
          rw [HR.out] at q3
          have HF : Hid (R = bs (mdA n ++ mdBb n)) := by unfold Hid; rw [← HE.out, ← HR.out, md3_small a false hp2]; rfl
          clear hp2 hp
          go_wp2_with fail
          go_roundw
          case rel => exact ⟨HB2.out.alloc HB2.out.size _, .inr (.inr (.inl ⟨rfl, by rw [HF.out]⟩))⟩
          case measure => simp [intOf]
        · have hp3 : (a : Int) % 2 = 0 := by omega
          have HP2 := Lib.hid hp2
          clear hp2 hp
          go_upto_region 15 with fail
          have HBA : Hid (∀ o, Below w.heap.size w (wr.alloc o)) := fun o => HB2.out.alloc HB2.out.size o
          generalize hwa : wr.alloc _ = wa
          have HBa : Hid (Below w.heap.size w wa) := by rw [← hwa]; exact HBA.out _
          clear hwa
          obtain ⟨W1, W2, W3, m1, m2, m3, m4, m5, HM6⟩ := great_map wa
          have HB3 := Lib.hid (HM6 _ HBa.out)
          have q3 := HQ3.out 83
          obtain ⟨R, HR⟩ := hid_name (bs (mdA n ++ [if a / 4 % 2 = 1 then 114 else 45, if a / 2 % 2 = 1 then 119 else 45, (83 : UInt8)]))
          rw [HR.out] at q3
          have HF : Hid (R = bs (mdA n ++ mdBb n)) := by unfold Hid; rw [← HE.out, ← HR.out, md3_great a false HP2.out]; rfl
          clear HM6
          go_wp2_with fail
          go_roundw
          case rel => exact ⟨HB3, .inr (.inr (.inl ⟨rfl, by rw [HF.out]⟩))⟩
          case measure => simp [intOf]
    · have hp := Lib.hid fun W => power_any 0 W (by omega) (by omega)
      go_wp2_with fail
      refine (hp.out _).mono ?_; rintro e w' ⟨rfl, rfl⟩
      go_upto_region 9 with fail
      obtain ⟨a, ha, ha2, hA⟩ : ∃ a : Nat, a < 8 ∧ a = n % 8 ∧ (n : Int) % 8 = (a : Int) := ⟨n % 8, by omega, rfl, by omega⟩
      obtain ⟨u, hu, hu2, hU⟩ : ∃ u : Nat, u < 2 ∧ u = n / 512 % 2 ∧ (n : Int) / 512 % 2 = (u : Int) := ⟨n / 512 % 2, by omega, rfl, by omega⟩
      rw [hA, hU]
      have HE : Hid (mdA n ++ mdBb n ++ md3 a u true = mdL n) := by unfold Hid; rw [ha2, hu2]; rfl
      obtain ⟨X, S3, Y, Z, hX, hS, hY, q1, q2, q3, hYe⟩ := round_txt (mdA n ++ mdBb n) 6 a u true rfl (by omega)
      have hc := tab8_get a ha
      rw [hS] at hc
      rw [hX]
      have HYe := Lib.hid hYe
      have HQ3 := Lib.hid q3
      clear hX hS hYe ha2 hu2 hA hU q3
      rcases (show u = 0 ∨ u = 1 by omega) with rfl | rfl
      · go_wp2_with fail
        go_roundw
        case rel => exact ⟨HB2.out.alloc HB2.out.size _, .inr (.inr (.inr ⟨rfl, by rw [HYe.out, ← HE.out, md3_none]⟩))⟩
        case measure => simp [intOf]
      · rcases (show a % 2 = 1 ∨ a % 2 = 0 by omega) with hp2 | hp2
        · have hp3 : (a : Int) % 2 = 1 := by omega
          have q3 := HQ3.out 116
          obtain ⟨R, HR⟩ := hid_name (bs (mdA n ++ mdBb n ++ [if a / 4 % 2 = 1 then 114 else 45, if a / 2 % 2 = 1 then 119 else 45, (116 : UInt8)]))
          rw [HR.out] at q3
          have HF : Hid (R = bs (mdL n)) := by unfold Hid; rw [← HE.out, ← HR.out, md3_small a true hp2]; rfl
          clear hp2 hp
          go_wp2_with fail
          go_roundw
          case rel => exact ⟨HB2.out.alloc HB2.out.size _, .inr (.inr (.inr ⟨rfl, by rw [HF.out]⟩))⟩
          case measure => simp [intOf]
        · have hp3 : (a : Int) % 2 = 0 := by omega
          have HP2 := Lib.hid hp2
          clear hp2 hp
          go_upto_region 15 with fail
          have HBA : Hid (∀ o, Below w.heap.size w (wr.alloc o)) := fun o => HB2.out.alloc HB2.out.size o
          generalize hwa : wr.alloc _ = wa
          have HBa : Hid (Below w.heap.size w wa) := by rw [← hwa]; exact HBA.out _
          clear hwa
          obtain ⟨W1, W2, W3, m1, m2, m3, m4, m5, HM6⟩ := great_map wa
          have HB3 := Lib.hid (HM6 _ HBa.out)
          have q3 := HQ3.out 84
          obtain ⟨R, HR⟩ := hid_name (bs (mdA n ++ mdBb n ++ [if a / 4 % 2 = 1 then 114 else 45, if a / 2 % 2 = 1 then 119 else 45, (84 : UInt8)]))
          rw [HR.out] at q3
          have HF : Hid (R = bs (mdL n)) := by unfold Hid; rw [← HE.out, ← HR.out, md3_great a true HP2.out]; rfl
          clear HM6
          go_wp2_with fail
          go_roundw
          case rel => exact ⟨HB3, .inr (.inr (.inr ⟨rfl, by rw [HF.out]⟩))⟩
          case measure => simp [intOf]
    · go_wp2_with fail
      go_ret2
      exact ⟨rfl, HB2.out⟩
end Go.Proofs.YtdcbmjihpjnbbaaDoor
