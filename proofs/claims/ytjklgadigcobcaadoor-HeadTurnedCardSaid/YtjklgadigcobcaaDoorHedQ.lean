/- Package head: what the reader reads. -/
import Derived.Test.YtjklgadigcobcaaDoorHedP
import Derived.Deep.DeepCutAuto
import Derived.Deep.RegionWith
set_option linter.unusedVariables false
set_option maxRecDepth 100000
namespace Go.Proofs.YtjklgadigcobcaaDoor
open Go.RowKit
open Go.OpenShut
def hq1 (L : List UInt8) : HeadV := { headZ with name := rdS L 0 100 true }
def hq2 (L : List UInt8) : HeadV := { hq1 L with mode := (octR (sl L 100 108)).1 }
def hq3 (L : List UInt8) : HeadV := { hq2 L with uid := (octR (sl L 108 116)).1 }
def hq4 (L : List UInt8) : HeadV := { hq3 L with gid := (octR (sl L 116 124)).1 }
def hq5 (L : List UInt8) : HeadV := { hq4 L with size := (octR (sl L 124 136)).1 }
def hq6 (L : List UInt8) : HeadV := { hq5 L with time := (octR (sl L 136 148)).1 }
def hq7 (L : List UInt8) : HeadV := { hq6 L with typ := L.getD 156 0 }
def hq8 (L : List UInt8) : HeadV := { hq7 L with link := rdS L 157 257 true }
def hq9 (L : List UInt8) : HeadV := { hq8 L with user := rdS L 265 297 false }
def hqA (L : List UInt8) : HeadV := { hq9 L with group := rdS L 297 329 false }
def hqB (L : List UInt8) : HeadV := { hqA L with pre := rdS L 345 500 true }
theorem hqB_eq (L : List UInt8) : hqB L = readH L := rfl
theorem sl_one (L : List UInt8) (h : L.length = 512) : sl L 156 157 = [L.getD 156 0] := by
  unfold sl
  rw [List.getD_eq_getElem?_getD, List.getElem?_eq_getElem (by omega), Option.getD_some, List.take_succ_eq_append_getElem (by omega), List.drop_append_of_le_length (by rw [List.length_take]; omega), List.drop_of_length_le (by rw [List.length_take]; omega), List.nil_append]
/-- on the way: the reader at b, the header at g, the result's cells at r -/
def Hr (B b g r : Nat) (L : List UInt8) (k : Nat) (er : Int) (hv : HeadV) (u w : World) : Prop :=
  Rd b L k er w ∧ w.heap[g]? = some (.cells (headC hv) 25 (0, 0)) ∧ w.heap[r]? = some (.cells (headC headZ) 25 (0, 0)) ∧ Below B u w ∧ B ≤ b ∧ B ≤ g ∧ B ≤ r ∧ r ≠ g ∧ L.length = 512
theorem Hr.bg {B b g r : Nat} {L : List UInt8} {k : Nat} {er : Int} {hv : HeadV} {u w : World} (H : Hr B b g r L k er hv u w) : b ≠ g ∧ b ≠ r := by
  have h1 := H.1
  unfold Rd at h1
  constructor
  · rintro rfl; have h2 := H.2.1; rw [h1] at h2; injection h2 with e; injection e with _ e _; exact absurd e (by decide)
  · rintro rfl; have h2 := H.2.2.1; rw [h1] at h2; injection h2 with e; injection e with _ e _; exact absurd e (by decide)
theorem Hr.size {B b g r : Nat} {L : List UInt8} {k : Nat} {er : Int} {hv : HeadV} {u w : World} (H : Hr B b g r L k er hv u w) : B ≤ w.heap.size := by
  have := rd_lt H.1; have := H.2.2.2.2.1; omega
theorem Hr.next {B b g r : Nat} {L : List UInt8} {k k2 : Nat} {er er2 : Int} {hv : HeadV} {u w w' : World} (H : Hr B b g r L k er hv u w) (h1 : Rd b L k2 er2 w') (hb : Bel B w w') : Hr B b g r L k2 er2 hv u w' :=
  ⟨h1, hb.2 _ _ _ H.2.1, hb.2 _ _ _ H.2.2.1, H.2.2.2.1.trans hb.1, H.2.2.2.2⟩
theorem Hr.set {B b g r : Nat} {L : List UInt8} {k : Nat} {er : Int} {hv : HeadV} {u w : World} (H : Hr B b g r L k er hv u w) (i : Nat) (v : Value) (hv' : HeadV) (he : headC hv' = (headC hv).setIfInBounds i v) : Hr B b g r L k er hv' u (w.setCell ⟨g, i, none⟩ v) := by
  obtain ⟨n1, n2⟩ := H.bg
  obtain ⟨h1, h2, h3, hb, x⟩ := H
  refine ⟨?_, ?_, ?_, hb.setCell (p := ⟨g, i, none⟩) x.2.1 _, x⟩
  · unfold Rd at h1 ⊢; rw [Below.heap_setCell _ _ _ _ (by show b ≠ g; exact n1)]; exact h1
  · rw [he]; simp [World.setCell, Array.getElem?_modify, h2]
  · rw [Below.heap_setCell _ _ _ _ (by show r ≠ g; exact x.2.2.2.1)]; exact h3
theorem Hr.at {B b g r : Nat} {L : List UInt8} {k : Nat} {er : Int} {hv : HeadV} {u w : World} (H : Hr B b g r L k er hv u w) (i : Nat) (hi : i < 11) : ∃ v, w.cell? ⟨g, i, none⟩ = some v ∧ w.frozen? ⟨g, i, none⟩ = false := by
  have hs : (headC hv).size = 11 := rfl
  exact ⟨(headC hv)[i], by rw [Lib.cell_of_heap H.2.1]; exact Array.getElem?_eq_getElem (by omega), Lib.frozen_of_heap H.2.1 i⟩
theorem hrText {B b g r : Nat} {L : List UInt8} {k : Nat} {er : Int} {hv : HeadV} {u w : World} (H : Hr B b g r L k er hv u w) (n m : Nat) (wh : Bool) (hm : k + n = m) (hl : m ≤ 512) :
    Calls Tryd.prog 28 #[.pointer (some ⟨b, 0, none⟩), .int .i64 (n : Int), .bool wh] w fun e w' => e = .returned (.string (bs (rdS L k m wh))) ∧ Hr B b g r L m (first1 er (fldR (sl L k m) wh).2) hv u w' := by
  subst hm
  have hL := H.2.2.2.2.2.2.2.2
  refine (rText B b L k n er wh w H.1 H.2.2.2.2.1 (by omega) (by omega) H.size).mono ?_
  rintro e w' ⟨rfl, h1, hb⟩
  exact ⟨rfl, H.next h1 hb⟩
theorem hrNumber {B b g r : Nat} {L : List UInt8} {k : Nat} {er : Int} {hv : HeadV} {u w : World} (H : Hr B b g r L k er hv u w) (n m : Nat) (hm : k + n = m) (hl : m ≤ 512) :
    Calls Tryd.prog 29 #[.pointer (some ⟨b, 0, none⟩), .int .i64 (n : Int)] w fun e w' => e = .returned (.int .i64 (octR (sl L k m)).1) ∧ Hr B b g r L m (first1 er (octR (sl L k m)).2) hv u w' := by
  subst hm
  have hL := H.2.2.2.2.2.2.2.2
  refine (rNumber B b L k n er w H.1 H.2.2.2.2.1 (by omega) (by omega) H.size).mono ?_
  rintro e w' ⟨rfl, h1, hb⟩
  exact ⟨rfl, H.next h1 hb⟩
theorem hrTake {B b g r : Nat} {L : List UInt8} {k : Nat} {er : Int} {hv : HeadV} {u w : World} (H : Hr B b g r L k er hv u w) (n m : Nat) (T : ByteArray) (hm : k + n = m) (hl : m ≤ 512) (hT : Hid (bs (sl L k m) = T)) :
    Calls Tryd.prog 30 #[.pointer (some ⟨b, 0, none⟩), .int .i64 (n : Int)] w fun e w' => e = .returned (.string T) ∧ Hr B b g r L m er hv u w' := by
  subst hm
  rw [← hT.out]
  have hL := H.2.2.2.2.2.2.2.2
  refine (rTake B b L k n er w H.1 H.2.2.2.2.1 (by omega) (by omega)).mono ?_
  rintro e w' ⟨rfl, h1, hb⟩
  exact ⟨rfl, H.next h1 hb⟩
theorem hrRequire {B b g r : Nat} {L : List UInt8} {k : Nat} {er : Int} {hv : HeadV} {u w : World} (H : Hr B b g r L k er hv u w) (c : Bool) :
    Calls Tryd.prog 31 #[.pointer (some ⟨b, 0, none⟩), .bool c] w fun e w' => e = .returned (.tuple #[]) ∧ Hr B b g r L k (first1 er (bad c)) hv u w' := by
  refine (rRequire B b L k er c w H.1 H.2.2.2.2.1).mono ?_
  rintro e w' ⟨rfl, h1, hb⟩
  exact ⟨rfl, H.next h1 hb⟩
def Fin (B b : Nat) (L : List UInt8) (er : Int) (u w : World) : Prop := Rd b L 512 er w ∧ Below B u w
theorem Fin.set {B b r i : Nat} {L : List UInt8} {er : Int} {u w : World} (H : Fin B b L er u w) (hne : b ≠ r) (hB : B ≤ r) (v : Value) : Fin B b L er u (w.setCell ⟨r, i, none⟩ v) := by
  refine ⟨?_, H.2.setCell (p := ⟨r, i, none⟩) hB _⟩
  have h1 := H.1
  unfold Rd at h1 ⊢
  rw [Below.heap_setCell _ _ _ _ (by show b ≠ r; exact hne)]; exact h1
theorem headQ_cells {w : World} {g : Nat} {h : HeadV} (H : w.heap[g]? = some (.cells (headC h) 25 (0, 0))) :
    w.cell? ⟨g, 0, none⟩ = some (.string (bs h.name)) ∧ w.cell? ⟨g, 1, none⟩ = some (.string (bs h.pre)) ∧ w.cell? ⟨g, 2, none⟩ = some (.string (bs h.link)) ∧ w.cell? ⟨g, 3, none⟩ = some (.int .i64 h.mode) ∧ w.cell? ⟨g, 4, none⟩ = some (.int .i64 h.uid) ∧ w.cell? ⟨g, 5, none⟩ = some (.int .i64 h.gid) ∧
    w.cell? ⟨g, 6, none⟩ = some (.int .i64 h.size) ∧ w.cell? ⟨g, 7, none⟩ = some (.int .i64 h.time) ∧ w.cell? ⟨g, 8, none⟩ = some (.int .u8 (h.typ.toNat : Int)) ∧ w.cell? ⟨g, 9, none⟩ = some (.string (bs h.user)) ∧ w.cell? ⟨g, 10, none⟩ = some (.string (bs h.group)) := by
  refine ⟨?_, ?_, ?_, ?_, ?_, ?_, ?_, ?_, ?_, ?_, ?_⟩ <;> (rw [Lib.cell_of_heap H]; rfl)
theorem headQ_frozen {w : World} {g : Nat} {h : HeadV} (H : w.heap[g]? = some (.cells (headC h) 25 (0, 0))) (i : Nat) : w.frozen? ⟨g, i, none⟩ = false := Lib.frozen_of_heap H i
set_option maxHeartbeats 4000000 in
theorem rHead (b : Nat) (L : List UInt8) (w : World) (h : Rd b L 0 0 w) (hL : L.length = 512) :
    Calls Tryd.prog 17 #[.pointer (some ⟨b, 0, none⟩)] w fun e w' => e = .returned (.agg (headC (readH L))) ∧ Fin b b L (firstE (errsP L)) w w' := by
  have hlt := rd_lt h
  have hS1 : Hid (bs (sl L 156 157) = ⟨#[L.getD 156 0]⟩) := by unfold Hid; rw [sl_one L hL]; rfl
  obtain ⟨T0, hT0⟩ := hid_name (bs (sl L 148 156))
  obtain ⟨T1, hT1⟩ := hid_name (bs (sl L 257 265))
  obtain ⟨T2, hT2⟩ := hid_name (bs (sl L 500 512))
  have H0 : Hid (Hr b b (w.heap.size + 1) w.heap.size L 0 0 headZ w ((w.alloc (.cells #[.string ⟨#[]⟩, .string ⟨#[]⟩, .string ⟨#[]⟩, .int .i64 0, .int .i64 0, .int .i64 0, .int .i64 0, .int .i64 0, .int .u8 0, .string ⟨#[]⟩, .string ⟨#[]⟩] 25)).alloc (.cells #[.string ⟨#[]⟩, .string ⟨#[]⟩, .string ⟨#[]⟩, .int .i64 0, .int .i64 0, .int .i64 0, .int .i64 0, .int .i64 0, .int .u8 0, .string ⟨#[]⟩, .string ⟨#[]⟩] 25))) := by
    have e0 := heap_alloc_new w (.cells (headC headZ) 25)
    have e1 := heap_alloc_new (w.alloc (.cells (headC headZ) 25)) (.cells (headC headZ) 25)
    have hz : (w.alloc (.cells (headC headZ) 25)).heap.size = w.heap.size + 1 := by simp
    rw [hz] at e1
    have b1 : Below b w (w.alloc (.cells (headC headZ) 25)) := (Below.refl b w).alloc (by omega) _
    unfold Hid
    change Hr b b (w.heap.size + 1) w.heap.size L 0 0 headZ w ((w.alloc (.cells (headC headZ) 25)).alloc (.cells (headC headZ) 25))
    exact ⟨(Lib.alloc_old _ _ _ (by omega)).trans ((Lib.alloc_old _ _ _ hlt).trans h), e1, (Lib.alloc_old _ _ _ (by omega)).trans e0, b1.alloc (by omega) _, Nat.le_refl _, by omega, by omega, by omega, hL⟩
  clear h hlt
  have HL := Lib.hid hL
  clear hL
  go_enter Tryd.func17, Tryd.ntmps17
  go_upto_region 2 with fail
  obtain ⟨w0, W0⟩ : ∃ w0, w0 = (w.alloc (.cells #[.string ⟨#[]⟩, .string ⟨#[]⟩, .string ⟨#[]⟩, .int .i64 0, .int .i64 0, .int .i64 0, .int .i64 0, .int .i64 0, .int .u8 0, .string ⟨#[]⟩, .string ⟨#[]⟩] 25)).alloc (.cells #[.string ⟨#[]⟩, .string ⟨#[]⟩, .string ⟨#[]⟩, .int .i64 0, .int .i64 0, .int .i64 0, .int .i64 0, .int .i64 0, .int .u8 0, .string ⟨#[]⟩, .string ⟨#[]⟩] 25) := ⟨_, rfl⟩
  rw [← W0] at H0 ⊢
  have G0 := H0.out
  clear H0 W0

  go_wp2_with fail
  refine (hrText G0 100 100 true rfl (by omega)).mono ?_; rintro e w1 ⟨rfl, K1⟩
  clear G0
  obtain ⟨v, c, f⟩ := K1.at 0 (by omega)
  have G1 := K1.set 0 (.string (bs (rdS L 0 100 true))) (hq1 L) rfl
  clear K1
  go_wp2_with fail
  refine (hrNumber G1 8 108 rfl (by omega)).mono ?_; rintro e w2 ⟨rfl, K2⟩
  clear G1 c f v
  obtain ⟨v, c, f⟩ := K2.at 3 (by omega)
  have G2 := K2.set 3 (.int .i64 (octR (sl L 100 108)).1) (hq2 L) rfl
  clear K2
  go_wp2_with fail
  refine (hrNumber G2 8 116 rfl (by omega)).mono ?_; rintro e w3 ⟨rfl, K3⟩
  clear G2 c f v
  obtain ⟨v, c, f⟩ := K3.at 4 (by omega)
  have G3 := K3.set 4 (.int .i64 (octR (sl L 108 116)).1) (hq3 L) rfl
  clear K3
  go_wp2_with fail
  refine (hrNumber G3 8 124 rfl (by omega)).mono ?_; rintro e w4 ⟨rfl, K4⟩
  clear G3 c f v
  obtain ⟨v, c, f⟩ := K4.at 5 (by omega)
  have G4 := K4.set 5 (.int .i64 (octR (sl L 116 124)).1) (hq4 L) rfl
  clear K4
  go_wp2_with fail
  refine (hrNumber G4 12 136 rfl (by omega)).mono ?_; rintro e w5 ⟨rfl, K5⟩
  clear G4 c f v
  obtain ⟨v, c, f⟩ := K5.at 6 (by omega)
  have G5 := K5.set 6 (.int .i64 (octR (sl L 124 136)).1) (hq5 L) rfl
  clear K5
  go_wp2_with fail
  refine (hrNumber G5 12 148 rfl (by omega)).mono ?_; rintro e w6 ⟨rfl, K6⟩
  clear G5 c f v
  obtain ⟨v, c, f⟩ := K6.at 7 (by omega)
  have G6 := K6.set 7 (.int .i64 (octR (sl L 136 148)).1) (hq6 L) rfl
  clear K6
  go_wp2_with fail
  refine (hrTake G6 8 156 T0 rfl (by omega) hT0).mono ?_; rintro e w7 ⟨rfl, G7⟩
  clear G6 c f v
  go_wp2_with fail
  refine (hrTake G7 1 157 ⟨#[L.getD 156 0]⟩ rfl (by omega) hS1).mono ?_; rintro e w8 ⟨rfl, K8⟩
  clear G7
  obtain ⟨v, c, f⟩ := K8.at 8 (by omega)
  have G8 := K8.set 8 (.int .u8 ((L.getD 156 0).toNat : Int)) (hq7 L) rfl
  clear K8
  obtain ⟨x, hx⟩ : ∃ x, x = L.getD 156 0 := ⟨_, rfl⟩
  rw [← hx] at G8 ⊢
  have HX := Lib.hid hx
  clear hx
  go_wp2_with fail
  refine (isType_any x _ _ rfl).mono ?_; rintro e w' ⟨rfl, rfl⟩
  go_wp2_with fail
  refine (hrRequire G8 _).mono ?_; rintro e w9 ⟨rfl, G9⟩
  clear G8 c f v
  go_wp2_with fail
  refine (hrText G9 100 257 true rfl (by omega)).mono ?_; rintro e w10 ⟨rfl, K10⟩
  clear G9
  obtain ⟨v, c, f⟩ := K10.at 2 (by omega)
  have G10 := K10.set 2 (.string (bs (rdS L 157 257 true))) (hq8 L) rfl
  clear K10
  go_wp2_with fail
  refine (hrTake G10 8 265 T1 rfl (by omega) hT1).mono ?_; rintro e w11 ⟨rfl, G11⟩
  clear G10 c f v
  go_wp2_with fail
  refine (hrRequire G11 _).mono ?_; rintro e w12 ⟨rfl, G12⟩
  clear G11
  go_wp2_with fail
  refine (hrText G12 32 297 false rfl (by omega)).mono ?_; rintro e w13 ⟨rfl, K13⟩
  clear G12
  obtain ⟨v, c, f⟩ := K13.at 9 (by omega)
  have G13 := K13.set 9 (.string (bs (rdS L 265 297 false))) (hq9 L) rfl
  clear K13
  go_wp2_with fail
  refine (hrText G13 32 329 false rfl (by omega)).mono ?_; rintro e w14 ⟨rfl, K14⟩
  clear G13 c f v
  obtain ⟨v, c, f⟩ := K14.at 10 (by omega)
  have G14 := K14.set 10 (.string (bs (rdS L 297 329 false))) (hqA L) rfl
  clear K14
  go_wp2_with fail
  refine (hrNumber G14 8 337 rfl (by omega)).mono ?_; rintro e w15 ⟨rfl, G15⟩
  clear G14 c f v
  go_wp2_with fail
  refine (hrRequire G15 _).mono ?_; rintro e w16 ⟨rfl, G16⟩
  clear G15
  go_wp2_with fail
  refine (hrNumber G16 8 345 rfl (by omega)).mono ?_; rintro e w17 ⟨rfl, G17⟩
  clear G16
  go_wp2_with fail
  refine (hrRequire G17 _).mono ?_; rintro e w18 ⟨rfl, G18⟩
  clear G17
  go_wp2_with fail
  refine (hrText G18 155 500 true rfl (by omega)).mono ?_; rintro e w19 ⟨rfl, K19⟩
  clear G18
  obtain ⟨v, c, f⟩ := K19.at 1 (by omega)
  have G19 := K19.set 1 (.string (bs (rdS L 345 500 true))) (hqB L) rfl
  clear K19
  go_wp2_with fail
  refine (hrTake G19 12 512 T2 rfl (by omega) hT2).mono ?_; rintro e w20 ⟨rfl, G20⟩
  clear G19 c f v
  go_wp2_with fail
  refine (hrRequire G20 _).mono ?_; rintro e w21 ⟨rfl, G21⟩
  clear G20
  obtain ⟨c0, c1, c2, c3, c4, c5, c6, c7, c8, c9, cA⟩ := headQ_cells G21.2.1
  obtain ⟨q0, q1, q2, q3, q4, q5, q6, q7, q8, q9, qA⟩ := headQ_cells G21.2.2.1
  have f0 := headQ_frozen G21.2.2.1 0
  have f1 := headQ_frozen G21.2.2.1 1
  have f2 := headQ_frozen G21.2.2.1 2
  have f3 := headQ_frozen G21.2.2.1 3
  have f4 := headQ_frozen G21.2.2.1 4
  have f5 := headQ_frozen G21.2.2.1 5
  have f6 := headQ_frozen G21.2.2.1 6
  have f7 := headQ_frozen G21.2.2.1 7
  have f8 := headQ_frozen G21.2.2.1 8
  have f9 := headQ_frozen G21.2.2.1 9
  have fA := headQ_frozen G21.2.2.1 10
  have bE : ∀ (er : Int), er = firstE (errsP L) → Rd b L 512 er w21 → Fin b b L (firstE (errsP L)) w w21 := fun er e H => ⟨e ▸ H, G21.2.2.2.1⟩
  have HF := Lib.hid (bE _ (by
    have q : ∀ (T : ByteArray) (s c : List UInt8), Hid (bs s = T) → (T.toList == c) = decide (s = c) := fun T s c h => by
      rw [← h.out, ByteArray.toList_eq, show (bs s).data.toList = s from rfl, Bool.eq_iff_iff]; simp
    rw [q T1 _ _ hT1, q T2 _ _ hT2, HX.out]
    rfl) G21.1)
  have hbr : Hid (b ≠ w.heap.size) := G21.bg.2
  have hBr : Hid (b ≤ w.heap.size) := G21.2.2.2.2.2.2.1
  clear G21 bE
  go_wp2_with fail
  refine bodyPost_ret (v := .agg #[.string (bs (hqB L).name), .string (bs (hqB L).pre), .string (bs (hqB L).link), .int .i64 (hqB L).mode, .int .i64 (hqB L).uid, .int .i64 (hqB L).gid, .int .i64 (hqB L).size, .int .i64 (hqB L).time, .int .u8 ((hqB L).typ.toNat : Int), .string (bs (hqB L).user), .string (bs (hqB L).group)]) (by simp [results, Tryd.results17, go_sem, *]) rfl ⟨rfl, ?_⟩
  iterate 11 refine Fin.set ?_ hbr.out hBr.out _
  exact HF.out
end Go.Proofs.YtjklgadigcobcaaDoor

