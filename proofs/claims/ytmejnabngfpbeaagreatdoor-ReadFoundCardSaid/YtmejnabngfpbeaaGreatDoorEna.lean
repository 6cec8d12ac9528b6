/- Texts of one kind, in one file: EntA, EntB, EntD, EntE, EntF, EntT, EntC. -/
import Derived.Test.YtmejnabngfpbeaaGreatDoorNoa
import Derived.Test.YtmejnabngfpbeaaGreatDoorMth
import Derived.Test.YtmejnabngfpbeaaGreatDoorNod
import Derived.Deep.DeepCutAuto
import Derived.Test.YtmejnabngfpbeaaGreatDoorTra
set_option linter.unusedVariables false
set_option maxRecDepth 100000
namespace Go.Proofs.YtmejnabngfpbeaaGreatDoor
open Go.RowKit
open Go.OpenShut
open Go.ChangeShapes Go.WideShapes Go.Deep
def entC (x : EntV) (D : Option Addr) (c : Nat) : List Value :=
 [.string (bs x.path), .int .i64 x.kind, .string (bs x.target), .int .i64 x.md.mode, .int .i64 x.md.uid, .int .i64 x.md.gid, .string (bs x.md.user), .string (bs x.md.group), .int .i64 x.md.second, .int .i64 x.md.nano, .slice D x.data.length c]
def EntsAt (w : World) (A : Option Addr) (l : List EntV) : Prop :=
 ∀ j (hj : j < l.length), ∃ (b o : Nat) (D : Option Addr) (c : Nat), A = some ⟨b, o, none⟩ ∧ (∀ i, i < 11 → w.cell? ⟨b, o + j * 11 + i, none⟩ = (entC l[j] D c)[i]?) ∧ SlOk D l[j].data.length c ∧ BytsAt w D l[j].data
theorem EntsAt.nil (w : World) (A : Option Addr) : EntsAt w A [] := fun j hj => by simp at hj
theorem EntsAt.below {w w' : World} {A : Option Addr} {l : List EntV} (h : EntsAt w A l) (hb : Below w.heap.size w w') : EntsAt w' A l := fun j hj => by
 obtain ⟨b, o, D, c, e, h11, hs, hd⟩ := h j hj
 have hlt : b < w.heap.size := World.block_lt_of_cell? w _ (h11 0 (by omega))
 exact ⟨b, o, D, c, e, fun i hi => (hb.cell (p := ⟨b, o + j * 11 + i, none⟩) hlt).trans (h11 i hi), hs, hd.below hb⟩
def EntV.wf (x : EntV) : Prop := (x.path.length ≤ 140737488351232 ∧ x.target.length ≤ 140737488351232 ∧ x.data.length ≤ 140737488351232) ∧ x.md.wf ∧ (Lit.int .i64 x.kind).wf = true
section
variable {H : Type} {enc : TypeId × Value → H} {w : World} {base : Nat} {spare : Nat → Bool} {held : Bool}
end
end Go.Proofs.YtmejnabngfpbeaaGreatDoor
namespace Go.Proofs.YtmejnabngfpbeaaGreatDoor
open Go.RowKit
open Go.OpenShut
def entV (x : EntV) (v : Value) : List Value :=
 [.string (bs x.path), .int .i64 x.kind, .string (bs x.target), .int .i64 x.md.mode, .int .i64 x.md.uid, .int .i64 x.md.gid, .string (bs x.md.user), .string (bs x.md.group), .int .i64 x.md.second, .int .i64 x.md.nano, v]
theorem entC_eq (x : EntV) (D : Option Addr) (c : Nat) : entC x D c = entV x (.slice D x.data.length c) := rfl
theorem entV_length (x : EntV) (v : Value) : (entV x v).length = 11 := rfl
abbrev EntP := EntV × Value
def rowE (xs : List EntP) : List Value := xs.flatMap fun x => entV x.1 x.2
theorem rowE_app (xs ys : List EntP) : rowE (xs ++ ys) = rowE xs ++ rowE ys := by simp [rowE]
theorem rowE_one (x : EntP) : rowE [x] = entV x.1 x.2 := by simp [rowE]
theorem rowE_length (xs : List EntP) : (rowE xs).length = xs.length * 11 := by
 induction xs with
 | nil => rfl
 | cons x xs ih =>
  have e : rowE (x :: xs) = entV x.1 x.2 ++ rowE xs := rfl
  rw [e, List.length_append, entV_length, ih, List.length_cons]; omega
theorem rowE_get (xs : List EntP) (j i : Nat) (hj : j < xs.length) (hi : i < 11) : (rowE xs)[j * 11 + i]? = (entV xs[j].1 xs[j].2)[i]? := by
 induction xs generalizing j with
 | nil => simp at hj
 | cons x xs ih =>
  have e : rowE (x :: xs) = entV x.1 x.2 ++ rowE xs := rfl
  rw [e]
  cases j with
  | zero => rw [List.getElem?_append_left (by rw [entV_length]; omega)]; simp
  | succ j =>
   rw [List.getElem?_append_right (by rw [entV_length]; omega), entV_length, show (j + 1) * 11 + i - 11 = j * 11 + i by omega, ih j (by simpa using hj)]; rfl
def RowE (w : World) (B : Nat) (v : Value) (xs : List EntP) : Prop := w.ownsRow B 34 11 v xs.length (rowE xs)
theorem RowE.nil (w : World) (B : Nat) : RowE w B (.slice none 0 0) [] := World.ownsRow_nil _ _ _ _
theorem RowE.below {w w' : World} {B : Nat} {v : Value} {xs : List EntP} (h : RowE w B v xs) (hb : Below w.heap.size w w') : RowE w' B v xs :=
 own_heap h fun g hg => hb.block g (World.ownsRow.lt h g hg).2
theorem RowE.drewN {w : World} {B n : Nat} {v : Value} {xs : List EntP} (h : RowE w B v xs) : RowE (w.drewN n) B v xs := h
theorem RowE.alloc {w : World} {B : Nat} {v : Value} {xs : List EntP} (h : RowE w B v xs) (o : Obj) : RowE (w.alloc o) B v xs := World.ownsRow.alloc h o
theorem RowE.form {w : World} {B : Nat} {v : Value} {xs : List EntP} (h : RowE w B v xs) : ∃ A c, v = .slice A xs.length c ∧ SlOk A xs.length c := by
 unfold RowE World.ownsRow at h
 rcases h.2 with ⟨rfl, h0⟩ | ⟨g, cap, cur, rfl, hB, hg, hcap, hm, hs, ht⟩
 ·rw [h0]; exact ⟨none, 0, rfl, ⟨Nat.le_refl _, by decide, fun _ => rfl⟩⟩
 ·exact ⟨some ⟨g, 0, none⟩, cap, rfl, ⟨hcap, hm, fun e => by cases e⟩⟩
theorem RowE.at {w : World} {B : Nat} {v : Value} {xs : List EntP} (h : RowE w B v xs) (hd : ∀ x ∈ xs, DatOk w x.2 x.1.data) : ∃ A c, v = .slice A xs.length c ∧ SlOk A xs.length c ∧ EntsAt w A (xs.map (·.1)) := by
 have h' := h
 unfold RowE World.ownsRow at h
 rcases h.2 with ⟨rfl, h0⟩ | ⟨g, cap, cur, rfl, hB, hg, hcap, hm, hs, ht⟩
 ·have e := List.eq_nil_of_length_eq_zero h0
  subst e
  exact ⟨none, 0, rfl, ⟨Nat.le_refl _, by decide, fun _ => rfl⟩, EntsAt.nil _ _⟩
 ·refine ⟨some ⟨g, 0, none⟩, cap, rfl, ⟨hcap, hm, fun e => by cases e⟩, fun j hj => ?_⟩
  have hj' : j < xs.length := by simpa using hj
  obtain ⟨D, c, e, h1, h2⟩ := hd _ (List.getElem_mem hj')
  rw [List.getElem_map]
  refine ⟨g, 0, D, c, rfl, fun i hi => ?_, h1, h2⟩
  rw [Nat.zero_add, World.ownsRow.cellAt h' (j * 11 + i) (by omega), rowE_get xs j i hj' hi, e]; rfl
def OwnE (w : World) (B : Nat) (v : Value) (xs : List EntP) : Prop := RowE w B v xs ∧ ∀ x ∈ xs, OwnB w B x.2 x.1.data
theorem OwnE.nil (w : World) (B : Nat) : OwnE w B (.slice none 0 0) [] := ⟨RowE.nil _ _, fun x hx => by simp at hx⟩
theorem OwnE.below {w w' : World} {B : Nat} {v : Value} {xs : List EntP} (h : OwnE w B v xs) (hb : Below w.heap.size w w') : OwnE w' B v xs := ⟨h.1.below hb, fun x hx => (h.2 x hx).below hb⟩
theorem OwnE.at {w : World} {B : Nat} {v : Value} {xs : List EntP} (h : OwnE w B v xs) : ∃ A c, v = .slice A xs.length c ∧ SlOk A xs.length c ∧ EntsAt w A (xs.map (·.1)) := h.1.at fun x hx => (h.2 x hx).dat
theorem RowE.mono {w : World} {B B' : Nat} {v : Value} {xs : List EntP} (h : RowE w B v xs) (hB : B' ≤ B) : RowE w B' v xs := own_mono h hB
theorem OwnE.mono {w : World} {B B' : Nat} {v : Value} {xs : List EntP} (h : OwnE w B v xs) (hB : B' ≤ B) : OwnE w B' v xs := ⟨h.1.mono hB, fun x hx => (h.2 x hx).mono hB⟩
theorem own_apartE {w : World} {B B' : Nat} {v u : Value} {l : List UInt8} {xs : List EntP} (h : OwnB w B v l) (h' : RowE w B' u xs) : ∀ g, v.ownBlock = some g → u.ownBlock ≠ some g := by
 intro g hg hu
 obtain ⟨-, c1, e1⟩ := own_block h g hg
 obtain ⟨-, c2, e2⟩ := own_block h' g hu
 rw [e1] at e2
 simp only [Option.some.injEq, Obj.cells.injEq] at e2
 exact absurd e2.2.1 (by decide)
theorem blk11 {w : World} {g t : Nat} {a0 a1 a2 a3 a4 a5 a6 a7 a8 a9 a10 : Value} (h : Blk w g t #[a0, a1, a2, a3, a4, a5, a6, a7, a8, a9, a10]) :
  (w.cell? ⟨g, 0, none⟩ = some a0 ∧ w.cell? ⟨g, 1, none⟩ = some a1 ∧ w.cell? ⟨g, 2, none⟩ = some a2 ∧ w.cell? ⟨g, 3, none⟩ = some a3 ∧ w.cell? ⟨g, 4, none⟩ = some a4 ∧ w.cell? ⟨g, 5, none⟩ = some a5 ∧ w.cell? ⟨g, 6, none⟩ = some a6 ∧ w.cell? ⟨g, 7, none⟩ = some a7 ∧ w.cell? ⟨g, 8, none⟩ = some a8 ∧ w.cell? ⟨g, 9, none⟩ = some a9 ∧ w.cell? ⟨g, 10, none⟩ = some a10) ∧
  (w.frozen? ⟨g, 0, none⟩ = false ∧ w.frozen? ⟨g, 1, none⟩ = false ∧ w.frozen? ⟨g, 2, none⟩ = false ∧ w.frozen? ⟨g, 3, none⟩ = false ∧ w.frozen? ⟨g, 4, none⟩ = false ∧ w.frozen? ⟨g, 5, none⟩ = false ∧ w.frozen? ⟨g, 6, none⟩ = false ∧ w.frozen? ⟨g, 7, none⟩ = false ∧ w.frozen? ⟨g, 8, none⟩ = false ∧ w.frozen? ⟨g, 9, none⟩ = false ∧ w.frozen? ⟨g, 10, none⟩ = false) :=
 ⟨⟨h.cell 0, h.cell 1, h.cell 2, h.cell 3, h.cell 4, h.cell 5, h.cell 6, h.cell 7, h.cell 8, h.cell 9, h.cell 10⟩, h.frozen 0, h.frozen 1, h.frozen 2, h.frozen 3, h.frozen 4, h.frozen 5, h.frozen 6, h.frozen 7, h.frozen 8, h.frozen 9, h.frozen 10⟩
theorem EntsAt.cells {w : World} {A : Option Addr} {l : List EntV} (h : EntsAt w A l) (j : Nat) (hj : j < l.length) : ∃ (b o : Nat) (D : Option Addr) (c : Nat), A = some ⟨b, o, none⟩ ∧
  w.cell? ⟨b, o + j * 11, none⟩ = some (.string (bs l[j].path)) ∧ w.cell? ⟨b, o + j * 11 + 1, none⟩ = some (.int .i64 l[j].kind) ∧ w.cell? ⟨b, o + j * 11 + 2, none⟩ = some (.string (bs l[j].target)) ∧
  (w.cell? ⟨b, o + j * 11 + 3, none⟩ = some (.int .i64 l[j].md.mode) ∧ w.cell? ⟨b, o + j * 11 + 4, none⟩ = some (.int .i64 l[j].md.uid) ∧ w.cell? ⟨b, o + j * 11 + 5, none⟩ = some (.int .i64 l[j].md.gid) ∧ w.cell? ⟨b, o + j * 11 + 6, none⟩ = some (.string (bs l[j].md.user)) ∧ w.cell? ⟨b, o + j * 11 + 7, none⟩ = some (.string (bs l[j].md.group)) ∧ w.cell? ⟨b, o + j * 11 + 8, none⟩ = some (.int .i64 l[j].md.second) ∧ w.cell? ⟨b, o + j * 11 + 9, none⟩ = some (.int .i64 l[j].md.nano)) ∧
  w.cell? ⟨b, o + j * 11 + 10, none⟩ = some (.slice D l[j].data.length c) ∧ SlOk D l[j].data.length c ∧ BytsAt w D l[j].data := by
 obtain ⟨b, o, D, c, e, h12, hs, hd⟩ := h j hj
 exact ⟨b, o, D, c, e, h12 0 (by omega), h12 1 (by omega), h12 2 (by omega), ⟨h12 3 (by omega), h12 4 (by omega), h12 5 (by omega), h12 6 (by omega), h12 7 (by omega), h12 8 (by omega), h12 9 (by omega)⟩, h12 10 (by omega), hs, hd⟩
theorem EntsAt.take {w : World} {A : Option Addr} {l : List EntV} (h : EntsAt w A l) (k : Nat) : EntsAt w A (l.take k) := fun j hj => by
 have hj' : j < l.length := by rw [List.length_take] at hj; omega
 have := h j hj'
 rwa [List.getElem_take]
set_option maxHeartbeats 4000000 in
theorem EqualFuncE_any (f : Nat) (hf : ∀ (x y : EntV) (D E : Option Addr) (c d : Nat) (w : World), BytsAt w D x.data → BytsAt w E y.data → Calls Tryz.prog f #[.agg (entC x D c).toArray, .agg (entC y E d).toArray] w fun e w' => e = .returned (.bool (decide (x = y))) ∧ Below w.heap.size w w')
  (ef : ∀ args w, (callFunc f args).run Tryz.prog w = .ok (.enter f args) w)
  (A A2 : Option Addr) (n c n2 c2 : Nat) (l l2 : List EntV) (hn : l.length = n) (hn2 : l2.length = n2) (hm : n ≤ 140737488355328) (hm2 : n2 ≤ 140737488355328) (w : World) (hA : EntsAt w A l) (hA2 : EntsAt w A2 l2) :
  Calls Tryz.prog 20 #[.slice A n c, .slice A2 n2 c2, .func (.func f) #[] #[]] w fun e w' => e = .returned (.bool (decide (l = l2))) ∧ Below w.heap.size w w' := by
 have HN := Lib.hid hn
 have HN2 := Lib.hid hn2
 have HA := Lib.hid hA
 have HA2 := Lib.hid hA2
 have HF := Lib.hid hf
 clear hn hn2 hA hA2 hf
 by_cases hne : n = n2
 ·subst hne
  go_enter Tryz.func20, Tryz.ntmps20
  go_wp2_with fail
  go_loopw [17] (fun i wr => ∃ k : Nat, k ≤ n ∧ i = .int .i64 k ∧ Hid (l.take k = l2.take k) ∧ Hid (Below w.heap.size w wr)) (fun i _ => n - (intOf i).toNat)
  case atStart => exact ⟨0, Nat.zero_le _, rfl, by unfold Hid; simp, Below.refl _ _⟩
  case round =>
   obtain ⟨k, hk, rfl, HE, HB⟩ := hrel
   by_cases hlt : k < n
   ·have hk1 : k < l.length := by rw [HN.out]; exact hlt
    have hk2 : k < l2.length := by rw [HN2.out]; exact hlt
    obtain ⟨b, o, D, cc, rfl, c0, c1, c3, ⟨c4, c5, c6, c7, c8, c9, cA⟩, cB, -, hD⟩ := (HA.out.below HB.out).cells k hk1
    obtain ⟨b2, o2, D2, cc2, rfl, d0, d1, d3, ⟨d4, d5, d6, d7, d8, d9, dA⟩, dB, -, hD2⟩ := (HA2.out.below HB.out).cells k hk2
    have hb1 : b < wr.heap.size := World.block_lt_of_cell? wr _ c0
    have hb2 : b2 < wr.heap.size := World.block_lt_of_cell? wr _ d0
    have hne1 : b2 ≠ wr.heap.size := by omega
    generalize hx : l[k] = x at *
    generalize hy : l2[k] = y at *
    have HC := Lib.hid fun W h h' => HF.out x y D D2 cc cc2 W h h'
    unfold entC at HC
    have HD := Lib.hid hD
    have HD2 := Lib.hid hD2
    clear hD hD2
    by_cases e : x = y
    ·have HE2 : Hid (l.take (k + 1) = l2.take (k + 1)) := by
      unfold Hid
      rw [List.take_succ_eq_append_getElem hk1, List.take_succ_eq_append_getElem hk2, HE.out, hx, hy, e]
     rw [decide_eq_true e] at HC
     clear e hx hy
     go_upto_region 7 with fail
     generalize hwa : (wr.alloc _).alloc _ = wa
     have HBa : Hid (Below wr.heap.size wr wa) := by rw [← hwa]; exact belowA (belowA (Below.refl _ _) _) _
     have HBl1 := Blk.alloc (Blk.new wr 34 #[.string (bs x.path), .int .i64 x.kind, .string (bs x.target), .int .i64 x.md.mode, .int .i64 x.md.uid, .int .i64 x.md.gid, .string (bs x.md.user), .string (bs x.md.group), .int .i64 x.md.second, .int .i64 x.md.nano, .slice D x.data.length cc]) (.cells #[.string (bs y.path), .int .i64 y.kind, .string (bs y.target), .int .i64 y.md.mode, .int .i64 y.md.uid, .int .i64 y.md.gid, .string (bs y.md.user), .string (bs y.md.group), .int .i64 y.md.second, .int .i64 y.md.nano, .slice D2 y.data.length cc2] 34)
     have HBl2 := Blk.new (wr.alloc (.cells #[.string (bs x.path), .int .i64 x.kind, .string (bs x.target), .int .i64 x.md.mode, .int .i64 x.md.uid, .int .i64 x.md.gid, .string (bs x.md.user), .string (bs x.md.group), .int .i64 x.md.second, .int .i64 x.md.nano, .slice D x.data.length cc] 34)) 34 #[.string (bs y.path), .int .i64 y.kind, .string (bs y.target), .int .i64 y.md.mode, .int .i64 y.md.uid, .int .i64 y.md.gid, .string (bs y.md.user), .string (bs y.md.group), .int .i64 y.md.second, .int .i64 y.md.nano, .slice D2 y.data.length cc2]
     rw [hwa] at HBl1 HBl2
     rw [hszA] at HBl2
     obtain ⟨⟨e0, e1, e3, e4, e5, e6, e7, e8, e9, eA, eB⟩, -⟩ := blk11 HBl1
     obtain ⟨⟨g0, g1, g3, g4, g5, g6, g7, g8, g9, gA, gB⟩, -⟩ := blk11 HBl2
     clear hwa c0 c1 c3 c4 c5 c6 c7 c8 c9 cA cB d0 d1 d3 d4 d5 d6 d7 d8 d9 dA dB HBl1 HBl2
     go_wp2_with fail
     refine (HC.out _ (HD.out.below HBa.out) (HD2.out.below HBa.out)).mono ?_; rintro e' w4 ⟨rfl, hb4⟩
     have HB4 := Lib.hid (HB.out.trans ((HBa.out.trans (hb4.mono HBa.out.size)).mono HB.out.size))
     clear hb4 e0 e1 e3 e4 e5 e6 e7 e8 e9 eA eB g0 g1 g3 g4 g5 g6 g7 g8 g9 gA gB
     go_wp2_with fail
     go_roundw
     case rel => exact ⟨k + 1, by omega, by go_num, HE2, HB4⟩
     case measure => simp [intOf]; omega
    ·have HV : Hid (decide (l = l2) = false) := decide_eq_false (fun e2 => e (by rw [← hx, ← hy]; subst e2; rfl))
     rw [decide_eq_false e] at HC
     clear e hx hy
     go_upto_region 7 with fail
     generalize hwa : (wr.alloc _).alloc _ = wa
     have HBa : Hid (Below wr.heap.size wr wa) := by rw [← hwa]; exact belowA (belowA (Below.refl _ _) _) _
     have HBl1 := Blk.alloc (Blk.new wr 34 #[.string (bs x.path), .int .i64 x.kind, .string (bs x.target), .int .i64 x.md.mode, .int .i64 x.md.uid, .int .i64 x.md.gid, .string (bs x.md.user), .string (bs x.md.group), .int .i64 x.md.second, .int .i64 x.md.nano, .slice D x.data.length cc]) (.cells #[.string (bs y.path), .int .i64 y.kind, .string (bs y.target), .int .i64 y.md.mode, .int .i64 y.md.uid, .int .i64 y.md.gid, .string (bs y.md.user), .string (bs y.md.group), .int .i64 y.md.second, .int .i64 y.md.nano, .slice D2 y.data.length cc2] 34)
     have HBl2 := Blk.new (wr.alloc (.cells #[.string (bs x.path), .int .i64 x.kind, .string (bs x.target), .int .i64 x.md.mode, .int .i64 x.md.uid, .int .i64 x.md.gid, .string (bs x.md.user), .string (bs x.md.group), .int .i64 x.md.second, .int .i64 x.md.nano, .slice D x.data.length cc] 34)) 34 #[.string (bs y.path), .int .i64 y.kind, .string (bs y.target), .int .i64 y.md.mode, .int .i64 y.md.uid, .int .i64 y.md.gid, .string (bs y.md.user), .string (bs y.md.group), .int .i64 y.md.second, .int .i64 y.md.nano, .slice D2 y.data.length cc2]
     rw [hwa] at HBl1 HBl2
     rw [hszA] at HBl2
     obtain ⟨⟨e0, e1, e3, e4, e5, e6, e7, e8, e9, eA, eB⟩, -⟩ := blk11 HBl1
     obtain ⟨⟨g0, g1, g3, g4, g5, g6, g7, g8, g9, gA, gB⟩, -⟩ := blk11 HBl2
     clear hwa c0 c1 c3 c4 c5 c6 c7 c8 c9 cA cB d0 d1 d3 d4 d5 d6 d7 d8 d9 dA dB HBl1 HBl2
     go_wp2_with fail
     refine (HC.out _ (HD.out.below HBa.out) (HD2.out.below HBa.out)).mono ?_; rintro e' w4 ⟨rfl, hb4⟩
     have HB4 := Lib.hid (HB.out.trans ((HBa.out.trans (hb4.mono HBa.out.size)).mono HB.out.size))
     clear hb4 e0 e1 e3 e4 e5 e6 e7 e8 e9 eA eB g0 g1 g3 g4 g5 g6 g7 g8 g9 gA gB
     go_wp2_with fail
     go_ret
     exact ⟨ret_bool HV.out.symm, HB4.out⟩
   ·obtain rfl : k = n := by omega
    have HV : Hid (decide (l = l2) = true) := by
     have := HE.out
     rw [List.take_of_length_le (by rw [HN.out]; omega), List.take_of_length_le (by rw [HN2.out]; omega)] at this
     exact decide_eq_true this
    go_wp2_with fail
    go_ret
    exact ⟨ret_bool HV.out.symm, HB.out⟩
 ·have HV : Hid (decide (l = l2) = false) := decide_eq_false (fun e => hne (by rw [← HN.out, ← HN2.out, e]))
  have hne2 : ((n : Int) != (n2 : Int)) = true := by simp; omega
  clear hne
  go_enter Tryz.func20, Tryz.ntmps20
  go_wp2_with fail
  go_ret
  exact ⟨ret_bool HV.out.symm, Below.refl _ _⟩
end Go.Proofs.YtmejnabngfpbeaaGreatDoor
namespace Go.Proofs.YtmejnabngfpbeaaGreatDoor
open Go.RowKit
open Go.OpenShut
open Go.Deep
def zeroE : Array Value := #[.string ⟨#[]⟩, .int .i64 0, .string ⟨#[]⟩, .int .i64 0, .int .i64 0, .int .i64 0, .string ⟨#[]⟩, .string ⟨#[]⟩, .int .i64 0, .int .i64 0, .slice none 0 0]
theorem zinfoE : (Tryz.prog.info? 34).map (fun i => (i.zero, i.size, i.bytes)) = some (some (.agg zeroE), 11, 136) := by kernel_rfl
theorem entV_one' (x : EntV) (v : Value) (hv : v.oneCell' = true) : ∀ u ∈ entV x v, u.oneCell' = true := by
 intro u hu
 unfold entV at hu
 simp only [List.mem_cons, List.not_mem_nil, or_false] at hu
 rcases hu with rfl | rfl | rfl | rfl | rfl | rfl | rfl | rfl | rfl | rfl | rfl
 all_goals first | rfl | exact hv
theorem rowE_one' (ys : List EntP) (h : ∀ y ∈ ys, y.2.oneCell' = true) : ∀ u ∈ rowE ys, u.oneCell' = true := by
 intro u hu
 unfold rowE at hu
 obtain ⟨y, hy, hu⟩ := List.mem_flatMap.1 hu
 exact entV_one' y.1 y.2 (h y hy) u hu
def CellsE (w : World) (A : Option Addr) (ys : List EntP) : Prop := ∀ ad, A = some ad → ∀ j u, (rowE ys)[j]? = some u → w.cell? (ad.add j) = some u
theorem EntsAt.row {w : World} {A : Option Addr} {l : List EntV} (h : EntsAt w A l) : ∃ ys : List EntP, ys.map (·.1) = l ∧ CellsE w A ys ∧ ∀ y ∈ ys, DatOk w y.2 y.1.data := by
 have key : ∀ j, j < l.length → ∃ v : Value, DatOk w v (l[j]!).data ∧ ∀ ad, A = some ad → ∀ i, i < 11 → w.cell? (ad.add (j * 11 + i)) = (entV (l[j]!) v)[i]? := fun j hj => by
  obtain ⟨b, o, D, c, e, h12, hs, hd⟩ := h j hj
  rw [getElem!_pos l j hj]
  refine ⟨.slice D l[j].data.length c, ⟨D, c, rfl, hs, hd⟩, fun ad ha i hi => ?_⟩
  rw [e] at ha
  injection ha with ha
  subst ha
  rw [Addr.add_lit, ← entC_eq, ← h12 i hi, Nat.add_assoc]
 obtain ⟨f, hf⟩ := choose_lt key
 refine ⟨(List.range l.length).map fun j => (l[j]!, f j), ?_, fun ad ha j u hu => ?_, fun y hy => ?_⟩
 ·rw [List.map_map]
  apply List.ext_getElem
  ·simp
  ·intro i h1 h2
   simp at h1
   simp [h1]
 ·have hj : j < l.length * 11 := by
   have := (List.getElem?_eq_some_iff.1 hu).1
   rwa [rowE_length, List.length_map, List.length_range] at this
  have hq : j / 11 < l.length := by omega
  have h1 := rowE_get ((List.range l.length).map fun j => ((l[j]!, f j) : EntP)) (j / 11) (j % 11) (by simpa using hq) (by omega)
  rw [show j / 11 * 11 + j % 11 = j by omega, hu] at h1
  have h2 := (hf (j / 11) hq).2 ad ha (j % 11) (by omega)
  rw [show j / 11 * 11 + j % 11 = j by omega] at h2
  rw [h2, h1]
  simp
 ·obtain ⟨j, hj, rfl⟩ := List.mem_map.1 hy
  exact (hf j (List.mem_range.1 hj)).1
theorem EntsAt.cells2 {w : World} {A : Option Addr} {l : List EntV} (h : EntsAt w A l) (j : Nat) (hj : j < l.length) : ∃ (b o : Nat) (D : Option Addr) (c : Nat), A = some ⟨b, o, none⟩ ∧ b < w.heap.size ∧ SlOk D l[j].data.length c ∧ BytsAt w D l[j].data ∧ ∀ W : World, Below w.heap.size w W →
  W.cell? ⟨b, o + j * 11, none⟩ = some (.string (bs l[j].path)) ∧ W.cell? ⟨b, o + j * 11 + 1, none⟩ = some (.int .i64 l[j].kind) ∧ W.cell? ⟨b, o + j * 11 + 2, none⟩ = some (.string (bs l[j].target)) ∧
  (W.cell? ⟨b, o + j * 11 + 3, none⟩ = some (.int .i64 l[j].md.mode) ∧ W.cell? ⟨b, o + j * 11 + 4, none⟩ = some (.int .i64 l[j].md.uid) ∧ W.cell? ⟨b, o + j * 11 + 5, none⟩ = some (.int .i64 l[j].md.gid) ∧ W.cell? ⟨b, o + j * 11 + 6, none⟩ = some (.string (bs l[j].md.user)) ∧ W.cell? ⟨b, o + j * 11 + 7, none⟩ = some (.string (bs l[j].md.group)) ∧ W.cell? ⟨b, o + j * 11 + 8, none⟩ = some (.int .i64 l[j].md.second) ∧ W.cell? ⟨b, o + j * 11 + 9, none⟩ = some (.int .i64 l[j].md.nano)) ∧
  W.cell? ⟨b, o + j * 11 + 10, none⟩ = some (.slice D l[j].data.length c) := by
 obtain ⟨b, o, D, c, e, c0, c1, c3, ⟨c4, c5, c6, c7, c8, c9, cA⟩, cB, hs, hd⟩ := h.cells j hj
 have hlt : b < w.heap.size := World.block_lt_of_cell? w _ c0
 refine ⟨b, o, D, c, e, hlt, hs, hd, fun W hb => ?_⟩
 have hc : ∀ i, W.cell? ⟨b, i, none⟩ = w.cell? ⟨b, i, none⟩ := fun i => hb.cell (p := ⟨b, i, none⟩) hlt
 simp only [hc]
 exact ⟨c0, c1, c3, ⟨c4, c5, c6, c7, c8, c9, cA⟩, cB⟩
theorem append_ents {w : World} {ops : Array Oper} {rest : List Oper} {o : Oper} {a : Act} {Q : Exit → Act → World → Prop} (hgd : o.guard = none) (s x : Operand)
  (ho : o.op = .call { callee := .builtin .append, args := #[s, x], argTypes := #[23, 23] }) (B : Nat) (v : Value) (xs : List EntP) (hs : a.eval s = v) (hown : RowE w B v xs)
  (A : Option Addr) (m c : Nat) (ys : List EntP) (hx : a.eval x = .slice A m c) (hl : ys.length = m) (hA : CellsE w A ys) (hy1 : ∀ y ∈ ys, y.2.oneCell' = true) (hc : A = none → c = 0 ∧ m = 0) (hbig : (xs.length + m) * 136 ≤ 140737488355328) (hB : B ≤ w.heap.size)
  (h : ∀ v' w', RowE w' B v' (xs ++ ys) → w.grownBy w' v.ownBlock → wpList Tryz.prog ops Q rest (a.put o.dst v') w') : wpList Tryz.prog ops Q (o :: rest) a w := by
 obtain ⟨i0, hi, hz0, hz1, hz2⟩ := info_parts zinfoE
 cases A with
 | none =>
  obtain ⟨rfl, rfl⟩ := hc rfl
  obtain rfl := List.eq_nil_of_length_eq_zero hl
  refine wpList_append_own_none hgd s x 23 ho B 34 i0 11 Tryz.underlying23 hi v _ _ hs hown hx ?_
  exact h v w (by rw [List.append_nil]; exact hown) ⟨rfl, rfl, rfl, Nat.le_refl _, fun _ _ _ => rfl⟩
 | some ad =>
  refine wpList_append_own _ hgd s x 23 ho B 34 i0 _ 11 136 Tryz.underlying23 hi hz0 hz1 hz2 rfl (by decide) v _ _ hs hown ad m c (rowE ys) hx (by rw [rowE_length, hl]) (hA ad rfl) (rowE_one' ys hy1) (by unfold maxLen; omega) hbig hB ?_
  intro v6 w6 hown6 hgrow _
  exact h v6 w6 (by unfold RowE; rw [List.length_append, rowE_app, hl]; exact hown6) hgrow
theorem cells_newE (w : World) (y : EntP) : CellsE (w.alloc (.cells (entV y.1 y.2).toArray 34)) (some ⟨w.heap.size, 0, none⟩) [y] := fun ad ha j u hu => by
 injection ha with ha
 subst ha
 rw [rowE_one] at hu
 rw [Addr.add_lit, Nat.zero_add]
 have := (Blk.new w 34 (entV y.1 y.2).toArray).cell j
 rw [this, List.getElem?_toArray]; exact hu
theorem OwnE.push {w w' : World} {B : Nat} {v v' : Value} {xs : List EntP} {y : EntP} (h : OwnE w B v xs) (hy : OwnB w B y.2 y.1.data) (hr : RowE w' B v' (xs ++ [y])) (hg : w.grownBy w' v.ownBlock) : OwnE w' B v' (xs ++ [y]) := by
 refine ⟨hr, fun x hx => ?_⟩
 rcases List.mem_append.1 hx with a | a
 ·exact (h.2 x a).grown hg fun g e e2 => own_apartE (h.2 x a) h.1 g e e2
 ·obtain rfl : x = y := by simpa using a
  exact hy.grown hg fun g e e2 => own_apartE hy h.1 g e e2
theorem OwnE.alloc {w : World} {B : Nat} {v : Value} {xs : List EntP} (h : OwnE w B v xs) (o : Obj) : OwnE (w.alloc o) B v xs := ⟨h.1.alloc o, fun x hx => (h.2 x hx).alloc o⟩
theorem RowE.above {w : World} {B : Nat} {v : Value} {xs : List EntP} (h : RowE w B v xs) : ∀ g, v.ownBlock = some g → B ≤ g := fun g e => (World.ownsRow.lt h g e).1
theorem madeE_room (w : World) (n : Nat) (hn : n * 136 ≤ 140737488355328) (i0 : TypeInfo) (hi : Tryz.prog.info? 34 = some i0) (hz0 : i0.zero = some (.agg zeroE)) (hz1 : i0.size = 11) (hz2 : i0.bytes = 136) :
  ∃ M : Array Value, (∀ W : World, (Instr.makeSlice 23 (.int .i64 0) (.int .i64 (n : Int))).run Tryz.prog W = .ok (.slice (some ⟨W.heap.size, 0, none⟩) 0 n) (W.alloc (.cells M 34))) ∧
   ∀ (W : World) (B : Nat), B ≤ W.heap.size → OwnE (W.alloc (.cells M 34)) B (.slice (some ⟨W.heap.size, 0, none⟩) 0 n) [] := by
 obtain ⟨M, hM⟩ : ∃ M, M = madeCells (Value.agg zeroE).cells (((n : Nat) : Int).toNat * i0.size) := ⟨_, rfl⟩
 have hMs : M.size = n * 11 := by rw [hM, hz1, Int.toNat_natCast]; simp [madeCells]
 refine ⟨M, fun W => ?_, fun W B hB => ⟨?_, fun x hx => by simp at hx⟩⟩
 ·have h := run_make (P := Tryz.prog) W 23 34 i0 (.agg zeroE) Tryz.underlying23 hi hz0 .i64 .i64 0 (n : Int) (by omega) (by omega) (by rw [hz2]; omega) (by omega)
  rw [← hM] at h
  simpa using h
 ·exact ⟨rfl, .inr ⟨W.heap.size, n, M, rfl, hB, heap_alloc_new W _, Nat.zero_le _, by unfold maxLen; omega, hMs, rfl⟩⟩
end Go.Proofs.YtmejnabngfpbeaaGreatDoor
namespace Go.Proofs.YtmejnabngfpbeaaGreatDoor
open Go.RowKit
open Go.OpenShut
def EntV.sz (x : EntV) : Prop := (x.path.length ≤ 140737488351232 ∧ x.target.length ≤ 140737488351232 ∧ x.data.length ≤ 140737488351232) ∧ x.md.sz
theorem EntV.wf.sz {x : EntV} (h : x.wf) : x.sz := ⟨h.1, h.2.1.1⟩
theorem entE_path {n : EntV} (h : pathE n.path ≠ 0) : entE n = pathE n.path := if_pos h
theorem entE_meta {n : EntV} (h : pathE n.path = 0) (h2 : metE n.md ≠ 0) : entE n = metE n.md := by unfold entE; rw [if_neg (by simp [h]), if_pos h2]
theorem entE_kind {n : EntV} (h : pathE n.path = 0) (h2 : metE n.md = 0) : entE n = entK n := by unfold entE; rw [if_neg (by simp [h]), if_neg (by simp [h2])]
end Go.Proofs.YtmejnabngfpbeaaGreatDoor
