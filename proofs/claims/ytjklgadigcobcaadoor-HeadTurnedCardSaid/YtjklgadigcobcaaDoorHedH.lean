/- A header of raw things. -/
import Derived.Test.YtjklgadigcobcaaDoorHedY
import Derived.Test.YtjklgadigcobcaaDoorHedS
import Derived.Test.YtjklgadigcobcaaDoorRep
import Derived.Deep.RegionHeld3
import Derived.Deep.DeepCutAuto
set_option linter.unusedVariables false
set_option maxRecDepth 100000
namespace Go.Proofs.YtjklgadigcobcaaDoor
open Go.RowKit
open Go.OpenShut
def typL : List UInt8 := [48, 49, 50, 53, 120]
/-- the header that a raw thing makes -/
def rawH (a : RawV) : HeadV := ⟨110 :: cleanL a.text.data.toList 90, cleanL a.text.data.toList 150, cleanL a.text.data.toList 100, pick a.a 2097152, pick a.b 2097152, pick a.a 2097152, pick a.b 8589934592, pick a.a 8589934592, typL.getD (pick a.kind 5).toNat 0, cleanL a.text.data.toList 31, cleanL a.text.data.toList 20⟩
theorem typ_ok (k : Nat) (h : k < 5) : typB (typL.getD k 0) = true := by
  match k, h with
  | 0, _ => rfl
  | 1, _ => rfl
  | 2, _ => rfl
  | 3, _ => rfl
  | 4, _ => rfl
theorem rawH_ok (a : RawV) : headE (rawH a) = 0 := by
  have b1 := pick_bd a.a 2097152 (by omega)
  have b2 := pick_bd a.b 2097152 (by omega)
  have b3 := pick_bd a.b 8589934592 (by omega)
  have b4 := pick_bd a.a 8589934592 (by omega)
  have b5 := pick_bd a.kind 5 (by omega)
  have l1 := cleanL_le a.text.data.toList 90
  have l2 := cleanL_le a.text.data.toList 150
  have l3 := cleanL_le a.text.data.toList 100
  have l4 := cleanL_le a.text.data.toList 31
  have l5 := cleanL_le a.text.data.toList 20
  refine headE_of (typ_ok _ (by omega)) ⟨?_, ?_⟩ ⟨cleanL_has _ _, l3⟩ ⟨cleanL_has _ _, by show (cleanL a.text.data.toList 150).length ≤ 155; omega⟩ ⟨cleanL_has _ _, by show (cleanL a.text.data.toList 31).length < 32; omega⟩ ⟨cleanL_has _ _, by show (cleanL a.text.data.toList 20).length < 32; omega⟩ b1 b2 b1 b3 b4
  · show hasB 0 (110 :: cleanL a.text.data.toList 90) = false
    rw [hasB_cons, cleanL_has]; rfl
  · show (110 :: cleanL a.text.data.toList 90).length ≤ 100
    rw [List.length_cons]; omega
def valAt (W : World) (g i : Nat) : Value := (W.cell? ⟨g, i, none⟩).getD undef
/-- the raw thing's own block, the result's, nothing elder turned -/
def HdS (w : World) (R : Array Value) (W : World) : Prop :=
  Blk W w.heap.size 23 R ∧ (∃ cs : Array Value, cs.size = 11 ∧ Blk W (w.heap.size + 1) 25 cs) ∧ Below w.heap.size w W
section
variable {w W W' : World} {R : Array Value}
theorem HdS.cell (h : HdS w R W) (i : Nat) (v : Value) (hv : R[i]? = some v) : W.cell? ⟨w.heap.size, i, none⟩ = some v := (h.1.cell i).trans hv
theorem HdS.frozen (h : HdS w R W) (i : Nat) : W.frozen? ⟨w.heap.size + 1, i, none⟩ = false := by obtain ⟨-, ⟨cs, -, h⟩, -⟩ := h; exact h.frozen i
theorem HdS.val (h : HdS w R W) (i : Nat) (hi : i < 11) : W.cell? ⟨w.heap.size + 1, i, none⟩ = some (valAt W (w.heap.size + 1) i) := by
  obtain ⟨-, ⟨cs, hs, h⟩, -⟩ := h
  unfold valAt
  rw [h.cell i, Array.getElem?_eq_getElem (by omega)]; rfl
theorem HdS.drew_ (h : HdS w R W) : HdS w R W.drew := ⟨h.1.drew_, by obtain ⟨-, ⟨cs, hs, h⟩, -⟩ := h; exact ⟨cs, hs, h.drew_⟩, h.2.2.drew⟩
theorem HdS.below (h : HdS w R W) (hb : Below W.heap.size W W') : HdS w R W' :=
  ⟨h.1.below hb h.1.lt, by obtain ⟨-, ⟨cs, hs, h⟩, -⟩ := h; exact ⟨cs, hs, h.below hb h.lt⟩, h.2.2.trans (hb.mono (Nat.le_of_lt h.1.lt))⟩
theorem HdS.set (h : HdS w R W) (i : Nat) (v : Value) : HdS w R (W.setCell ⟨w.heap.size + 1, i, none⟩ v) :=
  ⟨h.1.far (by show w.heap.size ≠ w.heap.size + 1; omega) _, by obtain ⟨-, ⟨cs, hs, h⟩, -⟩ := h; exact ⟨_, by rw [Array.size_setIfInBounds]; exact hs, h.set_ i v⟩, h.2.2.setCell (p := ⟨w.heap.size + 1, i, none⟩) (Nat.le_succ _) _⟩
theorem HdS.put (h : HdS w R W) (v0 v1 v2 v3 v4 v5 v6 v7 v8 v9 vA : Value) :
    HdS w R (((((((((((W.setCell ⟨w.heap.size + 1, 0, none⟩ v0).setCell ⟨w.heap.size + 1, 1, none⟩ v1).setCell ⟨w.heap.size + 1, 2, none⟩ v2).setCell ⟨w.heap.size + 1, 3, none⟩ v3).setCell ⟨w.heap.size + 1, 4, none⟩ v4).setCell ⟨w.heap.size + 1, 5, none⟩ v5).setCell ⟨w.heap.size + 1, 6, none⟩ v6).setCell ⟨w.heap.size + 1, 7, none⟩ v7).setCell ⟨w.heap.size + 1, 8, none⟩ v8).setCell ⟨w.heap.size + 1, 9, none⟩ v9).setCell ⟨w.heap.size + 1, 10, none⟩ vA) :=
  ((((((((((h.set 0 v0).set 1 v1).set 2 v2).set 3 v3).set 4 v4).set 5 v5).set 6 v6).set 7 v7).set 8 v8).set 9 v9).set 10 vA
end
set_option maxHeartbeats 4000000 in
theorem headOf_any (a : RawV) (ha : a.wf) (w : World) : Calls Tryd.prog 6 #[.agg (rawC a).toArray] w fun e w' => e = .returned (.agg (headC (rawH a))) ∧ Below w.heap.size w w' := by
  obtain ⟨kind, a, b, text⟩ := a
  obtain ⟨hk, hA, hB, ht⟩ := ha
  simp only at hk hA hB ht
  unfold rawC rawH headC
  simp only
  obtain ⟨p1, p2⟩ := pick_bd kind 5 (by omega)
  have HPa := Lib.hid fun W => picked_any a 2097152 W hA (by omega)
  have HPb := Lib.hid fun W => picked_any b 2097152 W hB (by omega)
  have HPA := Lib.hid fun W => picked_any a 8589934592 W hA (by omega)
  have HPB := Lib.hid fun W => picked_any b 8589934592 W hB (by omega)
  have HPk := Lib.hid fun W => picked_any kind 5 W hk (by omega)
  have C0 := Lib.hid fun W => clean_any text 90 W (by omega) (by omega)
  have C1 := Lib.hid fun W => clean_any text 150 W (by omega) (by omega)
  have C2 := Lib.hid fun W => clean_any text 100 W (by omega) (by omega)
  have C3 := Lib.hid fun W => clean_any text 31 W (by omega) (by omega)
  have C4 := Lib.hid fun W => clean_any text 20 W (by omega) (by omega)
  have hz := cleanL_le text.data.toList 90
  obtain ⟨T0, hT0⟩ : ∃ T, T = bs (cleanL text.data.toList 90) := ⟨_, rfl⟩
  obtain ⟨N, hN⟩ : ∃ N, (⟨#[110]⟩ : ByteArray) ++ T0 = N := ⟨_, rfl⟩
  have zT0 : T0.size ≤ 90 := by rw [hT0, bs_size]; exact hz
  have padd := add_to hN (by show 1 + _ ≤ _; omega)
  have hN2 : bs (110 :: cleanL text.data.toList 90) = N := by rw [← hN, hT0]; rfl
  rw [hN2]
  have C0' : Hid (∀ W, Calls Tryd.prog 12 #[.string text, .int .i64 90] W fun e w' => e = .returned (.string T0) ∧ Below W.heap.size W w') := fun W => by rw [hT0]; exact C0.out W
  obtain ⟨T1, HT1⟩ := hid_name (bs (cleanL text.data.toList 150))
  obtain ⟨T2, HT2⟩ := hid_name (bs (cleanL text.data.toList 100))
  obtain ⟨T3, HT3⟩ := hid_name (bs (cleanL text.data.toList 31))
  obtain ⟨T4, HT4⟩ := hid_name (bs (cleanL text.data.toList 20))
  have C1' : Hid (∀ W, Calls Tryd.prog 12 #[.string text, .int .i64 150] W fun e w' => e = .returned (.string T1) ∧ Below W.heap.size W w') := fun W => by rw [← HT1.out]; exact C1.out W
  have C2' : Hid (∀ W, Calls Tryd.prog 12 #[.string text, .int .i64 100] W fun e w' => e = .returned (.string T2) ∧ Below W.heap.size W w') := fun W => by rw [← HT2.out]; exact C2.out W
  have C3' : Hid (∀ W, Calls Tryd.prog 12 #[.string text, .int .i64 31] W fun e w' => e = .returned (.string T3) ∧ Below W.heap.size W w') := fun W => by rw [← HT3.out]; exact C3.out W
  have C4' : Hid (∀ W, Calls Tryd.prog 12 #[.string text, .int .i64 20] W fun e w' => e = .returned (.string T4) ∧ Below W.heap.size W w') := fun W => by rw [← HT4.out]; exact C4.out W
  rw [HT1.out, HT2.out, HT3.out, HT4.out]
  obtain ⟨na, Hna⟩ := hid_name (pick a 2097152)
  obtain ⟨nb, Hnb⟩ := hid_name (pick b 2097152)
  obtain ⟨nA, HnA⟩ := hid_name (pick a 8589934592)
  obtain ⟨nB, HnB⟩ := hid_name (pick b 8589934592)
  obtain ⟨k, Hk⟩ := hid_name (pick kind 5)
  rw [Hna.out] at HPa ⊢
  rw [Hnb.out] at HPb ⊢
  rw [HnA.out] at HPA ⊢
  rw [HnB.out] at HPB ⊢
  rw [Hk.out] at HPk p1 p2 ⊢
  obtain ⟨j, rfl⟩ := Int.eq_ofNat_of_zero_le p1
  have hj : j < 5 := by omega
  have hty : typL.getD ((j : Int)).toNat 0 = (⟨#[48, 49, 50, 53, 120]⟩ : ByteArray)[j]'hj := by rw [Int.toNat_natCast]; exact getD_byte ⟨#[48, 49, 50, 53, 120]⟩ j hj 0
  rw [hty]
  have r0 : ∀ W : World, HdS w #[.int .i64 kind, .int .i64 a, .int .i64 b, .string text] W → W.cell? ⟨w.heap.size, 0, none⟩ = some (.int .i64 kind) := fun W h => h.cell 0 _ rfl
  have r1 : ∀ W : World, HdS w #[.int .i64 kind, .int .i64 a, .int .i64 b, .string text] W → W.cell? ⟨w.heap.size, 1, none⟩ = some (.int .i64 a) := fun W h => h.cell 1 _ rfl
  have r2 : ∀ W : World, HdS w #[.int .i64 kind, .int .i64 a, .int .i64 b, .string text] W → W.cell? ⟨w.heap.size, 2, none⟩ = some (.int .i64 b) := fun W h => h.cell 2 _ rfl
  have r3 : ∀ W : World, HdS w #[.int .i64 kind, .int .i64 a, .int .i64 b, .string text] W → W.cell? ⟨w.heap.size, 3, none⟩ = some (.string text) := fun W h => h.cell 3 _ rfl
  have g0 : ∀ W : World, HdS w #[.int .i64 kind, .int .i64 a, .int .i64 b, .string text] W → W.frozen? ⟨w.heap.size + 1, 0, none⟩ = false := fun W h => h.frozen 0
  have s0 : ∀ W : World, HdS w #[.int .i64 kind, .int .i64 a, .int .i64 b, .string text] W → W.cell? ⟨w.heap.size + 1, 0, none⟩ = some (valAt W (w.heap.size + 1) 0) := fun W h => h.val 0 (by omega)
  have g1 : ∀ W : World, HdS w #[.int .i64 kind, .int .i64 a, .int .i64 b, .string text] W → W.frozen? ⟨w.heap.size + 1, 1, none⟩ = false := fun W h => h.frozen 1
  have s1 : ∀ W : World, HdS w #[.int .i64 kind, .int .i64 a, .int .i64 b, .string text] W → W.cell? ⟨w.heap.size + 1, 1, none⟩ = some (valAt W (w.heap.size + 1) 1) := fun W h => h.val 1 (by omega)
  have g2 : ∀ W : World, HdS w #[.int .i64 kind, .int .i64 a, .int .i64 b, .string text] W → W.frozen? ⟨w.heap.size + 1, 2, none⟩ = false := fun W h => h.frozen 2
  have s2 : ∀ W : World, HdS w #[.int .i64 kind, .int .i64 a, .int .i64 b, .string text] W → W.cell? ⟨w.heap.size + 1, 2, none⟩ = some (valAt W (w.heap.size + 1) 2) := fun W h => h.val 2 (by omega)
  have g3 : ∀ W : World, HdS w #[.int .i64 kind, .int .i64 a, .int .i64 b, .string text] W → W.frozen? ⟨w.heap.size + 1, 3, none⟩ = false := fun W h => h.frozen 3
  have s3 : ∀ W : World, HdS w #[.int .i64 kind, .int .i64 a, .int .i64 b, .string text] W → W.cell? ⟨w.heap.size + 1, 3, none⟩ = some (valAt W (w.heap.size + 1) 3) := fun W h => h.val 3 (by omega)
  have g4 : ∀ W : World, HdS w #[.int .i64 kind, .int .i64 a, .int .i64 b, .string text] W → W.frozen? ⟨w.heap.size + 1, 4, none⟩ = false := fun W h => h.frozen 4
  have s4 : ∀ W : World, HdS w #[.int .i64 kind, .int .i64 a, .int .i64 b, .string text] W → W.cell? ⟨w.heap.size + 1, 4, none⟩ = some (valAt W (w.heap.size + 1) 4) := fun W h => h.val 4 (by omega)
  have g5 : ∀ W : World, HdS w #[.int .i64 kind, .int .i64 a, .int .i64 b, .string text] W → W.frozen? ⟨w.heap.size + 1, 5, none⟩ = false := fun W h => h.frozen 5
  have s5 : ∀ W : World, HdS w #[.int .i64 kind, .int .i64 a, .int .i64 b, .string text] W → W.cell? ⟨w.heap.size + 1, 5, none⟩ = some (valAt W (w.heap.size + 1) 5) := fun W h => h.val 5 (by omega)
  have g6 : ∀ W : World, HdS w #[.int .i64 kind, .int .i64 a, .int .i64 b, .string text] W → W.frozen? ⟨w.heap.size + 1, 6, none⟩ = false := fun W h => h.frozen 6
  have s6 : ∀ W : World, HdS w #[.int .i64 kind, .int .i64 a, .int .i64 b, .string text] W → W.cell? ⟨w.heap.size + 1, 6, none⟩ = some (valAt W (w.heap.size + 1) 6) := fun W h => h.val 6 (by omega)
  have g7 : ∀ W : World, HdS w #[.int .i64 kind, .int .i64 a, .int .i64 b, .string text] W → W.frozen? ⟨w.heap.size + 1, 7, none⟩ = false := fun W h => h.frozen 7
  have s7 : ∀ W : World, HdS w #[.int .i64 kind, .int .i64 a, .int .i64 b, .string text] W → W.cell? ⟨w.heap.size + 1, 7, none⟩ = some (valAt W (w.heap.size + 1) 7) := fun W h => h.val 7 (by omega)
  have g8 : ∀ W : World, HdS w #[.int .i64 kind, .int .i64 a, .int .i64 b, .string text] W → W.frozen? ⟨w.heap.size + 1, 8, none⟩ = false := fun W h => h.frozen 8
  have s8 : ∀ W : World, HdS w #[.int .i64 kind, .int .i64 a, .int .i64 b, .string text] W → W.cell? ⟨w.heap.size + 1, 8, none⟩ = some (valAt W (w.heap.size + 1) 8) := fun W h => h.val 8 (by omega)
  have g9 : ∀ W : World, HdS w #[.int .i64 kind, .int .i64 a, .int .i64 b, .string text] W → W.frozen? ⟨w.heap.size + 1, 9, none⟩ = false := fun W h => h.frozen 9
  have s9 : ∀ W : World, HdS w #[.int .i64 kind, .int .i64 a, .int .i64 b, .string text] W → W.cell? ⟨w.heap.size + 1, 9, none⟩ = some (valAt W (w.heap.size + 1) 9) := fun W h => h.val 9 (by omega)
  have gA : ∀ W : World, HdS w #[.int .i64 kind, .int .i64 a, .int .i64 b, .string text] W → W.frozen? ⟨w.heap.size + 1, 10, none⟩ = false := fun W h => h.frozen 10
  have sA : ∀ W : World, HdS w #[.int .i64 kind, .int .i64 a, .int .i64 b, .string text] W → W.cell? ⟨w.heap.size + 1, 10, none⟩ = some (valAt W (w.heap.size + 1) 10) := fun W h => h.val 10 (by omega)
  have hS0 : HdS w #[.int .i64 kind, .int .i64 a, .int .i64 b, .string text] ((w.alloc (.cells #[.int .i64 kind, .int .i64 a, .int .i64 b, .string text] 23)).alloc (.cells (headC headZ) 25)) := by
    refine ⟨(Blk.new _ _ _).alloc _, ⟨headC headZ, rfl, ?_⟩, ((Below.refl _ _).alloc (Nat.le_refl _) _).alloc (by simp) _⟩
    have h := Blk.new (w.alloc (.cells #[.int .i64 kind, .int .i64 a, .int .i64 b, .string text] 23)) 25 (headC headZ)
    have e : (w.alloc (.cells #[.int .i64 kind, .int .i64 a, .int .i64 b, .string text] 23)).heap.size = w.heap.size + 1 := by simp
    rw [e] at h; exact h
  change HdS w _ ((w.alloc (.cells #[.int .i64 kind, .int .i64 a, .int .i64 b, .string text] 23)).alloc (.cells #[.string ⟨#[]⟩, .string ⟨#[]⟩, .string ⟨#[]⟩, .int .i64 0, .int .i64 0, .int .i64 0, .int .i64 0, .int .i64 0, .int .u8 0, .string ⟨#[]⟩, .string ⟨#[]⟩] 25)) at hS0
  clear hk hA hB ht C0 C1 C2 C3 C4 hz hT0 hN zT0 hN2 p1 p2 hty
  go_enter Tryd.func6, Tryd.ntmps6
  go_upto_region 1 with fail
  obtain ⟨w0, W0⟩ : ∃ w0, w0 = (w.alloc (.cells #[.int .i64 kind, .int .i64 a, .int .i64 b, .string text] 23)).alloc (.cells #[.string ⟨#[]⟩, .string ⟨#[]⟩, .string ⟨#[]⟩, .int .i64 0, .int .i64 0, .int .i64 0, .int .i64 0, .int .i64 0, .int .u8 0, .string ⟨#[]⟩, .string ⟨#[]⟩] 25) := ⟨_, rfl⟩
  rw [← W0] at hS0 ⊢
  clear W0
  go_region_held3 (fun W => HdS w #[.int .i64 kind, .int .i64 a, .int .i64 b, .string text] W)
    (first
      | (with_reducible assumption)
      | (with_reducible refine HdS.drew_ ?_; with_reducible assumption)
      | (with_reducible exact HdS.below (by with_reducible assumption) (by with_reducible assumption))
      | (with_reducible refine HdS.put ?_ _ _ _ _ _ _ _ _ _ _ _; with_reducible assumption))
    (first
      | (go_at_call 12; with_reducible refine (C0'.out _).mono ?_; rintro e wA ⟨rfl, hbA⟩)
      | (go_at_call 12; with_reducible refine (C1'.out _).mono ?_; rintro e wB ⟨rfl, hbB⟩)
      | (go_at_call 12; with_reducible refine (C2'.out _).mono ?_; rintro e wC ⟨rfl, hbC⟩)
      | (go_at_call 12; with_reducible refine (C3'.out _).mono ?_; rintro e wD ⟨rfl, hbD⟩)
      | (go_at_call 12; with_reducible refine (C4'.out _).mono ?_; rintro e wE ⟨rfl, hbE⟩)
      | (go_at_call 10; with_reducible refine (HPa.out _).mono ?_; rintro e w' ⟨rfl, rfl⟩)
      | (go_at_call 10; with_reducible refine (HPb.out _).mono ?_; rintro e w' ⟨rfl, rfl⟩)
      | (go_at_call 10; with_reducible refine (HPA.out _).mono ?_; rintro e w' ⟨rfl, rfl⟩)
      | (go_at_call 10; with_reducible refine (HPB.out _).mono ?_; rintro e w' ⟨rfl, rfl⟩)
      | (go_at_call 10; with_reducible refine (HPk.out _).mono ?_; rintro e w' ⟨rfl, rfl⟩))
  all_goals
    have hSV : HdS w #[.int .i64 kind, .int .i64 a, .int .i64 b, .string text] wE := HdS.below (HdS.below (HdS.below (HdS.below (HdS.below (HdS.drew_ hS0) hbA) hbB) hbC) hbD) hbE
    clear g0 s0 g1 s1 g2 s2 g3 s3 g4 s4 g5 s5 g6 s6 g7 s7 g8 s8 g9 s9 gA sA r0 r1 r2 r3 hS0 hbA hbB hbC hbD hbE padd
    have k0 := hSV.val 0 (by omega)
    have k1 := hSV.val 1 (by omega)
    have k2 := hSV.val 2 (by omega)
    have k3 := hSV.val 3 (by omega)
    have k4 := hSV.val 4 (by omega)
    have k5 := hSV.val 5 (by omega)
    have k6 := hSV.val 6 (by omega)
    have k7 := hSV.val 7 (by omega)
    have k8 := hSV.val 8 (by omega)
    have k9 := hSV.val 9 (by omega)
    have kA := hSV.val 10 (by omega)
    have HV := Lib.hid hSV
    clear hSV
    go_wp2_with fail
    exact bodyPost_ret (v := .agg #[.string N, .string T1, .string T2, .int .i64 na, .int .i64 nb, .int .i64 na, .int .i64 nB, .int .i64 nA, .int .u8 (((⟨#[48, 49, 50, 53, 120]⟩ : ByteArray)[j]'hj).toNat : Int), .string T3, .string T4]) (by simp [results, Tryd.results6, go_sem, *]) rfl ⟨rfl, (HV.out.put _ _ _ _ _ _ _ _ _ _ _).2.2⟩
end Go.Proofs.YtjklgadigcobcaaDoor
