/- Texts of one kind, in one file: EntF, NodF, TrgE, EntT, NodG, EntG, TrgF, EntI. -/
import Derived.Test.YtmejnabngfpbeaaGreatDoorEne
import Derived.Deep.DeepCutAuto
import Derived.Test.YtmejnabngfpbeaaGreatDoorFld
import Derived.Laws.MakeOwn
import Derived.Below
import Derived.Test.YtmejnabngfpbeaaGreatDoorEnc
import Derived.Test.YtmejnabngfpbeaaGreatDoorPth
import Derived.Deep.RegionHeld3
import Derived.Deep.QuietTactic
import Derived.BigQuiet
set_option linter.unusedVariables false
set_option maxRecDepth 100000
namespace Go.Proofs.YtmejnabngfpbeaaGreatDoor
open Go.RowKit
open Go.OpenShut
set_option maxHeartbeats 4000000 in
theorem EqualFuncE_any (f : Nat) (hf : ∀ (x y : EntV) (D E : Option Addr) (c d : Nat) (w : World), BytsAt w D x.data → BytsAt w E y.data → Calls Tryz.prog f #[.agg (entC x D c).toArray, .agg (entC y E d).toArray] w fun e w' => e = .returned (.bool (decide (x = y))) ∧ Below w.heap.size w w')
  (ef : ∀ args w, (callFunc f args).run Tryz.prog w = .ok (.enter f args) w)
  (A A2 : Option Addr) (n c n2 c2 : Nat) (l l2 : List EntV) (hn : l.length = n) (hn2 : l2.length = n2) (hm : n ≤ 140737488355328) (hm2 : n2 ≤ 140737488355328) (w : World) (hA : EntsAt w A l) (hA2 : EntsAt w A2 l2) :
  Calls Tryz.prog 20 #[.slice A n c, .slice A2 n2 c2, .func (.func f) #[] #[]] w fun e w' => e = .returned (.bool (decide (l = l2))) ∧ Below w.heap.size w w' := by
 have HN := Lib.hid hn
 have HN2 := Lib.hid hn2
 have HA := Lib.hid hA
 have HA2 := Lib.hid hA2
 have HF := Lib.hid hf
 clear hn hn2 hA hA2 hf
 by_cases hne : n = n2
 ·subst hne
  go_enter Tryz.func20, Tryz.ntmps20
  go_wp2_with fail
  go_loopw [17] (fun i wr => ∃ k : Nat, k ≤ n ∧ i = .int .i64 k ∧ Hid (l.take k = l2.take k) ∧ Hid (Below w.heap.size w wr)) (fun i _ => n - (intOf i).toNat)
  case atStart => exact ⟨0, Nat.zero_le _, rfl, by unfold Hid; simp, Below.refl _ _⟩
  case round =>
   obtain ⟨k, hk, rfl, HE, HB⟩ := hrel
   by_cases hlt : k < n
   ·have hk1 : k < l.length := by rw [HN.out]; exact hlt
    have hk2 : k < l2.length := by rw [HN2.out]; exact hlt
    obtain ⟨b, o, D, cc, rfl, c0, c1, c3, ⟨c4, c5, c6, c7, c8, c9, cA⟩, cB, -, hD⟩ := (HA.out.below HB.out).cells k hk1
    obtain ⟨b2, o2, D2, cc2, rfl, d0, d1, d3, ⟨d4, d5, d6, d7, d8, d9, dA⟩, dB, -, hD2⟩ := (HA2.out.below HB.out).cells k hk2
    have hb1 : b < wr.heap.size := World.block_lt_of_cell? wr _ c0
    have hb2 : b2 < wr.heap.size := World.block_lt_of_cell? wr _ d0
    have hne1 : b2 ≠ wr.heap.size := by omega
    generalize hx : l[k] = x at *
    generalize hy : l2[k] = y at *
    have HC := Lib.hid fun W h h' => HF.out x y D D2 cc cc2 W h h'
    unfold entC at HC
    have HD := Lib.hid hD
    have HD2 := Lib.hid hD2
    clear hD hD2
    by_cases e : x = y
    ·have HE2 : Hid (l.take (k + 1) = l2.take (k + 1)) := by
      unfold Hid
      rw [List.take_succ_eq_append_getElem hk1, List.take_succ_eq_append_getElem hk2, HE.out, hx, hy, e]
     rw [decide_eq_true e] at HC
     clear e hx hy
     go_upto_region 7 with fail
     generalize hwa : (wr.alloc _).alloc _ = wa
     have HBa : Hid (Below wr.heap.size wr wa) := by rw [← hwa]; exact belowA (belowA (Below.refl _ _) _) _
     have HBl1 := Blk.alloc (Blk.new wr 34 #[.string (bs x.path), .int .i64 x.kind, .string (bs x.target), .int .i64 x.md.mode, .int .i64 x.md.uid, .int .i64 x.md.gid, .string (bs x.md.user), .string (bs x.md.group), .int .i64 x.md.second, .int .i64 x.md.nano, .slice D x.data.length cc]) (.cells #[.string (bs y.path), .int .i64 y.kind, .string (bs y.target), .int .i64 y.md.mode, .int .i64 y.md.uid, .int .i64 y.md.gid, .string (bs y.md.user), .string (bs y.md.group), .int .i64 y.md.second, .int .i64 y.md.nano, .slice D2 y.data.length cc2] 34)
     have HBl2 := Blk.new (wr.alloc (.cells #[.string (bs x.path), .int .i64 x.kind, .string (bs x.target), .int .i64 x.md.mode, .int .i64 x.md.uid, .int .i64 x.md.gid, .string (bs x.md.user), .string (bs x.md.group), .int .i64 x.md.second, .int .i64 x.md.nano, .slice D x.data.length cc] 34)) 34 #[.string (bs y.path), .int .i64 y.kind, .string (bs y.target), .int .i64 y.md.mode, .int .i64 y.md.uid, .int .i64 y.md.gid, .string (bs y.md.user), .string (bs y.md.group), .int .i64 y.md.second, .int .i64 y.md.nano, .slice D2 y.data.length cc2]
     rw [hwa] at HBl1 HBl2
     rw [hszA] at HBl2
     obtain ⟨⟨e0, e1, e3, e4, e5, e6, e7, e8, e9, eA, eB⟩, -⟩ := blk11 HBl1
     obtain ⟨⟨g0, g1, g3, g4, g5, g6, g7, g8, g9, gA, gB⟩, -⟩ := blk11 HBl2
     clear hwa c0 c1 c3 c4 c5 c6 c7 c8 c9 cA cB d0 d1 d3 d4 d5 d6 d7 d8 d9 dA dB HBl1 HBl2
     go_wp2_with fail
     refine (HC.out _ (HD.out.below HBa.out) (HD2.out.below HBa.out)).mono ?_; rintro e' w4 ⟨rfl, hb4⟩
     have HB4 := Lib.hid (HB.out.trans ((HBa.out.trans (hb4.mono HBa.out.size)).mono HB.out.size))
     clear hb4 e0 e1 e3 e4 e5 e6 e7 e8 e9 eA eB g0 g1 g3 g4 g5 g6 g7 g8 g9 gA gB
     go_wp2_with fail
     go_roundw
     case rel => exact ⟨k + 1, by omega, by go_num, HE2, HB4⟩
     case measure => simp [intOf]; omega
    ·have HV : Hid (decide (l = l2) = false) := decide_eq_false (fun e2 => e (by rw [← hx, ← hy]; subst e2; rfl))
     rw [decide_eq_false e] at HC
     clear e hx hy
     go_upto_region 7 with fail
     generalize hwa : (wr.alloc _).alloc _ = wa
     have HBa : Hid (Below wr.heap.size wr wa) := by rw [← hwa]; exact belowA (belowA (Below.refl _ _) _) _
     have HBl1 := Blk.alloc (Blk.new wr 34 #[.string (bs x.path), .int .i64 x.kind, .string (bs x.target), .int .i64 x.md.mode, .int .i64 x.md.uid, .int .i64 x.md.gid, .string (bs x.md.user), .string (bs x.md.group), .int .i64 x.md.second, .int .i64 x.md.nano, .slice D x.data.length cc]) (.cells #[.string (bs y.path), .int .i64 y.kind, .string (bs y.target), .int .i64 y.md.mode, .int .i64 y.md.uid, .int .i64 y.md.gid, .string (bs y.md.user), .string (bs y.md.group), .int .i64 y.md.second, .int .i64 y.md.nano, .slice D2 y.data.length cc2] 34)
     have HBl2 := Blk.new (wr.alloc (.cells #[.string (bs x.path), .int .i64 x.kind, .string (bs x.target), .int .i64 x.md.mode, .int .i64 x.md.uid, .int .i64 x.md.gid, .string (bs x.md.user), .string (bs x.md.group), .int .i64 x.md.second, .int .i64 x.md.nano, .slice D x.data.length cc] 34)) 34 #[.string (bs y.path), .int .i64 y.kind, .string (bs y.target), .int .i64 y.md.mode, .int .i64 y.md.uid, .int .i64 y.md.gid, .string (bs y.md.user), .string (bs y.md.group), .int .i64 y.md.second, .int .i64 y.md.nano, .slice D2 y.data.length cc2]
     rw [hwa] at HBl1 HBl2
     rw [hszA] at HBl2
     obtain ⟨⟨e0, e1, e3, e4, e5, e6, e7, e8, e9, eA, eB⟩, -⟩ := blk11 HBl1
     obtain ⟨⟨g0, g1, g3, g4, g5, g6, g7, g8, g9, gA, gB⟩, -⟩ := blk11 HBl2
     clear hwa c0 c1 c3 c4 c5 c6 c7 c8 c9 cA cB d0 d1 d3 d4 d5 d6 d7 d8 d9 dA dB HBl1 HBl2
     go_wp2_with fail
     refine (HC.out _ (HD.out.below HBa.out) (HD2.out.below HBa.out)).mono ?_; rintro e' w4 ⟨rfl, hb4⟩
     have HB4 := Lib.hid (HB.out.trans ((HBa.out.trans (hb4.mono HBa.out.size)).mono HB.out.size))
     clear hb4 e0 e1 e3 e4 e5 e6 e7 e8 e9 eA eB g0 g1 g3 g4 g5 g6 g7 g8 g9 gA gB
     go_wp2_with fail
     go_ret
     exact ⟨ret_bool HV.out.symm, HB4.out⟩
   ·obtain rfl : k = n := by omega
    have HV : Hid (decide (l = l2) = true) := by
     have := HE.out
     rw [List.take_of_length_le (by rw [HN.out]; omega), List.take_of_length_le (by rw [HN2.out]; omega)] at this
     exact decide_eq_true this
    go_wp2_with fail
    go_ret
    exact ⟨ret_bool HV.out.symm, HB.out⟩
 ·have HV : Hid (decide (l = l2) = false) := decide_eq_false (fun e => hne (by rw [← HN.out, ← HN2.out, e]))
  have hne2 : ((n : Int) != (n2 : Int)) = true := by simp; omega
  clear hne
  go_enter Tryz.func20, Tryz.ntmps20
  go_wp2_with fail
  go_ret
  exact ⟨ret_bool HV.out.symm, Below.refl _ _⟩
theorem sameEntries_any (A A2 : Option Addr) (n c n2 c2 : Nat) (l l2 : List EntV) (hn : l.length = n) (hn2 : l2.length = n2) (hm : n ≤ 140737488355328) (hm2 : n2 ≤ 140737488355328) (w : World) (hA : EntsAt w A l) (hA2 : EntsAt w A2 l2) :
  Calls Tryz.prog 12 #[.slice A n c, .slice A2 n2 c2] w fun e w' => e = .returned (.bool (decide (l = l2))) ∧ Below w.heap.size w w' := by
 go_enter Tryz.func12, Tryz.ntmps12
 go_wp2_with fail
 refine (EqualFuncE_any 17 (fun x y D E c d w => sameEntry_any x y D E c d w) (enters_of Tryz.func17 (by kernel_rfl) rfl) A A2 n c n2 c2 l l2 hn hn2 hm hm2 _ hA hA2).mono ?_; rintro e w1 ⟨rfl, hb⟩
 go_wp2_with fail
 go_ret
 exact ⟨rfl, hb⟩
end Go.Proofs.YtmejnabngfpbeaaGreatDoor
namespace Go.Proofs.YtmejnabngfpbeaaGreatDoor
open Go.RowKit
open Go.OpenShut
open Go.Deep
def zeroN : Array Value := #[.string ⟨#[]⟩, .int .i64 0, .int .i64 0, .string ⟨#[]⟩, .int .i64 0, .int .i64 0, .int .i64 0, .string ⟨#[]⟩, .string ⟨#[]⟩, .int .i64 0, .int .i64 0, .slice none 0 0]
theorem DatOk.one {w : World} {v : Value} {l : List UInt8} (h : DatOk w v l) : v.oneCell' = true := by
 obtain ⟨D, c, rfl, -⟩ := h; rfl
def CellsN (w : World) (A : Option Addr) (ys : List NodP) : Prop := ∀ ad, A = some ad → ∀ j u, (rowN ys)[j]? = some u → w.cell? (ad.add j) = some u
theorem NodesAt.row {w : World} {A : Option Addr} {l : List NodeV} (h : NodesAt w A l) : ∃ ys : List NodP, ys.map (·.1) = l ∧ CellsN w A ys ∧ ∀ y ∈ ys, DatOk w y.2 y.1.data := by
 have key : ∀ j, j < l.length → ∃ v : Value, DatOk w v (l[j]!).data ∧ ∀ ad, A = some ad → ∀ i, i < 12 → w.cell? (ad.add (j * 12 + i)) = (nodV (l[j]!) v)[i]? := fun j hj => by
  obtain ⟨b, o, D, c, e, h12, hs, hd⟩ := h j hj
  rw [getElem!_pos l j hj]
  refine ⟨.slice D l[j].data.length c, ⟨D, c, rfl, hs, hd⟩, fun ad ha i hi => ?_⟩
  rw [e] at ha
  injection ha with ha
  subst ha
  rw [Addr.add_lit, ← nodC_eq, ← h12 i hi, Nat.add_assoc]
 obtain ⟨f, hf⟩ := choose_lt key
 refine ⟨(List.range l.length).map fun j => (l[j]!, f j), ?_, fun ad ha j u hu => ?_, fun y hy => ?_⟩
 ·rw [List.map_map]
  apply List.ext_getElem
  ·simp
  ·intro i h1 h2
   simp at h1
   simp [h1]
 ·have hj : j < l.length * 12 := by
   have := (List.getElem?_eq_some_iff.1 hu).1
   rwa [rowN_length, List.length_map, List.length_range] at this
  have hq : j / 12 < l.length := by omega
  have h1 := rowN_get ((List.range l.length).map fun j => ((l[j]!, f j) : NodP)) (j / 12) (j % 12) (by simpa using hq) (by omega)
  rw [show j / 12 * 12 + j % 12 = j by omega, hu] at h1
  have h2 := (hf (j / 12) hq).2 ad ha (j % 12) (by omega)
  rw [show j / 12 * 12 + j % 12 = j by omega] at h2
  rw [h2, h1]
  simp
 ·obtain ⟨j, hj, rfl⟩ := List.mem_map.1 hy
  exact (hf j (List.mem_range.1 hj)).1
theorem OwnN.push {w w' : World} {B : Nat} {v v' : Value} {xs : List NodP} {y : NodP} (h : OwnN w B v xs) (hy : OwnB w B y.2 y.1.data) (hr : RowN w' B v' (xs ++ [y])) (hg : w.grownBy w' v.ownBlock) : OwnN w' B v' (xs ++ [y]) := by
 refine ⟨hr, fun x hx => ?_⟩
 rcases List.mem_append.1 hx with a | a
 ·exact (h.2 x a).grown hg fun g e e2 => own_apart (h.2 x a) h.1 g e e2
 ·obtain rfl : x = y := by simpa using a
  exact hy.grown hg fun g e e2 => own_apart hy h.1 g e e2
theorem OwnN.alloc {w : World} {B : Nat} {v : Value} {xs : List NodP} (h : OwnN w B v xs) (o : Obj) : OwnN (w.alloc o) B v xs := ⟨h.1.alloc o, fun x hx => (h.2 x hx).alloc o⟩
theorem RowN.above {w : World} {B : Nat} {v : Value} {xs : List NodP} (h : RowN w B v xs) : ∀ g, v.ownBlock = some g → B ≤ g := fun g e => (World.ownsRow.lt h g e).1
def CpS (w : World) (cs : Array Value) (W : World) : Prop := Blk W w.heap.size 101 cs ∧ Blk W (w.heap.size + 1) 101 zeroN ∧ Below w.heap.size w W
theorem CpS.start (w : World) (cs : Array Value) : CpS w cs ((w.alloc (.cells cs 101)).alloc (.cells zeroN 101)) := by
 refine ⟨(Blk.new w 101 cs).alloc _, ?_, belowA (belowA (Below.refl _ _) _) _⟩
 have := Blk.new (w.alloc (.cells cs 101)) 101 zeroN
 rwa [hszA] at this
theorem CpS.below {w W W' : World} {cs : Array Value} (h : CpS w cs W) (hb : Below W.heap.size W W') : CpS w cs W' := ⟨h.1.below hb h.1.lt, h.2.1.below hb h.2.1.lt, h.2.2.trans (hb.mono h.2.2.size)⟩
theorem CpS.set {w W : World} {cs : Array Value} (h : CpS w cs W) (i : Nat) (v : Value) : CpS w (cs.setIfInBounds i v) (W.setCell ⟨w.heap.size, i, none⟩ v) :=
 ⟨h.1.set_ i v, h.2.1.far (p := ⟨w.heap.size, i, none⟩) (by show w.heap.size + 1 ≠ w.heap.size; omega) v, Below.set1 h.2.2 (Nat.le_refl _) i v⟩
def zeroE : Array Value := #[.string ⟨#[]⟩, .int .i64 0, .string ⟨#[]⟩, .int .i64 0, .int .i64 0, .int .i64 0, .string ⟨#[]⟩, .string ⟨#[]⟩, .int .i64 0, .int .i64 0, .slice none 0 0]
theorem zinfoE : (Tryz.prog.info? 34).map (fun i => (i.zero, i.size, i.bytes)) = some (some (.agg zeroE), 11, 136) := by kernel_rfl
theorem entV_one' (x : EntV) (v : Value) (hv : v.oneCell' = true) : ∀ u ∈ entV x v, u.oneCell' = true := by
 intro u hu
 unfold entV at hu
 simp only [List.mem_cons, List.not_mem_nil, or_false] at hu
 rcases hu with rfl | rfl | rfl | rfl | rfl | rfl | rfl | rfl | rfl | rfl | rfl
 all_goals first | rfl | exact hv
theorem rowE_one' (ys : List EntP) (h : ∀ y ∈ ys, y.2.oneCell' = true) : ∀ u ∈ rowE ys, u.oneCell' = true := by
 intro u hu
 unfold rowE at hu
 obtain ⟨y, hy, hu⟩ := List.mem_flatMap.1 hu
 exact entV_one' y.1 y.2 (h y hy) u hu
def CellsE (w : World) (A : Option Addr) (ys : List EntP) : Prop := ∀ ad, A = some ad → ∀ j u, (rowE ys)[j]? = some u → w.cell? (ad.add j) = some u
theorem EntsAt.row {w : World} {A : Option Addr} {l : List EntV} (h : EntsAt w A l) : ∃ ys : List EntP, ys.map (·.1) = l ∧ CellsE w A ys ∧ ∀ y ∈ ys, DatOk w y.2 y.1.data := by
 have key : ∀ j, j < l.length → ∃ v : Value, DatOk w v (l[j]!).data ∧ ∀ ad, A = some ad → ∀ i, i < 11 → w.cell? (ad.add (j * 11 + i)) = (entV (l[j]!) v)[i]? := fun j hj => by
  obtain ⟨b, o, D, c, e, h12, hs, hd⟩ := h j hj
  rw [getElem!_pos l j hj]
  refine ⟨.slice D l[j].data.length c, ⟨D, c, rfl, hs, hd⟩, fun ad ha i hi => ?_⟩
  rw [e] at ha
  injection ha with ha
  subst ha
  rw [Addr.add_lit, ← entC_eq, ← h12 i hi, Nat.add_assoc]
 obtain ⟨f, hf⟩ := choose_lt key
 refine ⟨(List.range l.length).map fun j => (l[j]!, f j), ?_, fun ad ha j u hu => ?_, fun y hy => ?_⟩
 ·rw [List.map_map]
  apply List.ext_getElem
  ·simp
  ·intro i h1 h2
   simp at h1
   simp [h1]
 ·have hj : j < l.length * 11 := by
   have := (List.getElem?_eq_some_iff.1 hu).1
   rwa [rowE_length, List.length_map, List.length_range] at this
  have hq : j / 11 < l.length := by omega
  have h1 := rowE_get ((List.range l.length).map fun j => ((l[j]!, f j) : EntP)) (j / 11) (j % 11) (by simpa using hq) (by omega)
  rw [show j / 11 * 11 + j % 11 = j by omega, hu] at h1
  have h2 := (hf (j / 11) hq).2 ad ha (j % 11) (by omega)
  rw [show j / 11 * 11 + j % 11 = j by omega] at h2
  rw [h2, h1]
  simp
 ·obtain ⟨j, hj, rfl⟩ := List.mem_map.1 hy
  exact (hf j (List.mem_range.1 hj)).1
theorem append_ents {w : World} {ops : Array Oper} {rest : List Oper} {o : Oper} {a : Act} {Q : Exit → Act → World → Prop} (hgd : o.guard = none) (s x : Operand)
  (ho : o.op = .call { callee := .builtin .append, args := #[s, x], argTypes := #[23, 23] }) (B : Nat) (v : Value) (xs : List EntP) (hs : a.eval s = v) (hown : RowE w B v xs)
  (A : Option Addr) (m c : Nat) (ys : List EntP) (hx : a.eval x = .slice A m c) (hl : ys.length = m) (hA : CellsE w A ys) (hy1 : ∀ y ∈ ys, y.2.oneCell' = true) (hc : A = none → c = 0 ∧ m = 0) (hbig : (xs.length + m) * 136 ≤ 140737488355328) (hB : B ≤ w.heap.size)
  (h : ∀ v' w', RowE w' B v' (xs ++ ys) → w.grownBy w' v.ownBlock → wpList Tryz.prog ops Q rest (a.put o.dst v') w') : wpList Tryz.prog ops Q (o :: rest) a w := by
 obtain ⟨i0, hi, hz0, hz1, hz2⟩ := info_parts zinfoE
 cases A with
 | none =>
  obtain ⟨rfl, rfl⟩ := hc rfl
  obtain rfl := List.eq_nil_of_length_eq_zero hl
  refine wpList_append_own_none hgd s x 23 ho B 34 i0 11 Tryz.underlying23 hi v _ _ hs hown hx ?_
  exact h v w (by rw [List.append_nil]; exact hown) ⟨rfl, rfl, rfl, Nat.le_refl _, fun _ _ _ => rfl⟩
 | some ad =>
  refine wpList_append_own _ hgd s x 23 ho B 34 i0 _ 11 136 Tryz.underlying23 hi hz0 hz1 hz2 rfl (by decide) v _ _ hs hown ad m c (rowE ys) hx (by rw [rowE_length, hl]) (hA ad rfl) (rowE_one' ys hy1) (by unfold maxLen; omega) hbig hB ?_
  intro v6 w6 hown6 hgrow _
  exact h v6 w6 (by unfold RowE; rw [List.length_append, rowE_app, hl]; exact hown6) hgrow
theorem cells_newE (w : World) (y : EntP) : CellsE (w.alloc (.cells (entV y.1 y.2).toArray 34)) (some ⟨w.heap.size, 0, none⟩) [y] := fun ad ha j u hu => by
 injection ha with ha
 subst ha
 rw [rowE_one] at hu
 rw [Addr.add_lit, Nat.zero_add]
 have := (Blk.new w 34 (entV y.1 y.2).toArray).cell j
 rw [this, List.getElem?_toArray]; exact hu
theorem OwnE.push {w w' : World} {B : Nat} {v v' : Value} {xs : List EntP} {y : EntP} (h : OwnE w B v xs) (hy : OwnB w B y.2 y.1.data) (hr : RowE w' B v' (xs ++ [y])) (hg : w.grownBy w' v.ownBlock) : OwnE w' B v' (xs ++ [y]) := by
 refine ⟨hr, fun x hx => ?_⟩
 rcases List.mem_append.1 hx with a | a
 ·exact (h.2 x a).grown hg fun g e e2 => own_apartE (h.2 x a) h.1 g e e2
 ·obtain rfl : x = y := by simpa using a
  exact hy.grown hg fun g e e2 => own_apartE hy h.1 g e e2
theorem OwnE.alloc {w : World} {B : Nat} {v : Value} {xs : List EntP} (h : OwnE w B v xs) (o : Obj) : OwnE (w.alloc o) B v xs := ⟨h.1.alloc o, fun x hx => (h.2 x hx).alloc o⟩
theorem RowE.above {w : World} {B : Nat} {v : Value} {xs : List EntP} (h : RowE w B v xs) : ∀ g, v.ownBlock = some g → B ≤ g := fun g e => (World.ownsRow.lt h g e).1
end Go.Proofs.YtmejnabngfpbeaaGreatDoor
namespace Go.Proofs.YtmejnabngfpbeaaGreatDoor
open Go.RowKit
open Go.OpenShut
def nodA (x : NodeV) (D : Option Addr) (c : Nat) : Array Value := #[.string (bs x.path), .int .i64 x.kind, .int .i64 x.same, .string (bs x.target), .int .i64 x.md.mode, .int .i64 x.md.uid, .int .i64 x.md.gid, .string (bs x.md.user), .string (bs x.md.group), .int .i64 x.md.second, .int .i64 x.md.nano, .slice D x.data.length c]
def RdS (w wr : World) (g : Nat) (x : NodeV) (D : Option Addr) (c : Nat) (W : World) : Prop := Blk W g 101 (nodA x D c) ∧ Below wr.heap.size wr W
theorem RdS.below {w wr W W' : World} {g : Nat} {x : NodeV} {D : Option Addr} {c : Nat} (h : RdS w wr g x D c W) (hb : Below W.heap.size W W') : RdS w wr g x D c W' := ⟨h.1.below hb h.1.lt, h.2.trans (hb.mono h.2.size)⟩
theorem RdS.drew {w wr W : World} {g : Nat} {x : NodeV} {D : Option Addr} {c : Nat} (h : RdS w wr g x D c W) : RdS w wr g x D c W.drew := ⟨h.1.drew_, h.2.drew⟩
theorem RdS.drewN {w wr W : World} {g : Nat} {x : NodeV} {D : Option Addr} {c : Nat} (h : RdS w wr g x D c W) (q : Nat) : RdS w wr g x D c (W.drewN q) := ⟨h.1.drewN q, below_drewN h.2 q⟩
def RdP (w wr : World) (g : Nat) (x : NodeV) (D : Option Addr) (c b q : Nat) (P : ByteArray) (W : World) : Prop := RdS w wr g x D c W ∧ W.cell? ⟨b, q, none⟩ = some (.string P)
theorem RdP.below {w wr W W' : World} {g : Nat} {x : NodeV} {D : Option Addr} {c b q : Nat} {P : ByteArray} (h : RdP w wr g x D c b q P W) (hb : Below W.heap.size W W') : RdP w wr g x D c b q P W' :=
 ⟨h.1.below hb, (hb.cell (p := ⟨b, q, none⟩) (World.block_lt_of_cell? W _ h.2)).trans h.2⟩
theorem RdP.drew {w wr W : World} {g : Nat} {x : NodeV} {D : Option Addr} {c b q : Nat} {P : ByteArray} (h : RdP w wr g x D c b q P W) : RdP w wr g x D c b q P W.drew := ⟨h.1.drew, h.2⟩
def entA (x : EntV) (D : Option Addr) (c : Nat) : Array Value := #[.string (bs x.path), .int .i64 x.kind, .string (bs x.target), .int .i64 x.md.mode, .int .i64 x.md.uid, .int .i64 x.md.gid, .string (bs x.md.user), .string (bs x.md.group), .int .i64 x.md.second, .int .i64 x.md.nano, .slice D x.data.length c]
def RdE (wr : World) (g : Nat) (x : EntV) (D : Option Addr) (c : Nat) (W : World) : Prop := Blk W g 34 (entA x D c) ∧ Below wr.heap.size wr W
theorem RdE.below {wr W W' : World} {g : Nat} {x : EntV} {D : Option Addr} {c : Nat} (h : RdE wr g x D c W) (hb : Below W.heap.size W W') : RdE wr g x D c W' := ⟨h.1.below hb h.1.lt, h.2.trans (hb.mono h.2.size)⟩
theorem RdE.drew {wr W : World} {g : Nat} {x : EntV} {D : Option Addr} {c : Nat} (h : RdE wr g x D c W) : RdE wr g x D c W.drew := ⟨h.1.drew_, h.2.drew⟩
theorem RdE.drewN {wr W : World} {g : Nat} {x : EntV} {D : Option Addr} {c : Nat} (h : RdE wr g x D c W) (q : Nat) : RdE wr g x D c (W.drewN q) := ⟨h.1.drewN q, below_drewN h.2 q⟩
def RdF (wr : World) (g : Nat) (x : EntV) (D : Option Addr) (c b q : Nat) (P : ByteArray) (W : World) : Prop := RdE wr g x D c W ∧ W.cell? ⟨b, q, none⟩ = some (.string P)
theorem RdF.below {wr W W' : World} {g : Nat} {x : EntV} {D : Option Addr} {c b q : Nat} {P : ByteArray} (h : RdF wr g x D c b q P W) (hb : Below W.heap.size W W') : RdF wr g x D c b q P W' :=
 ⟨h.1.below hb, (hb.cell (p := ⟨b, q, none⟩) (World.block_lt_of_cell? W _ h.2)).trans h.2⟩
theorem RdF.drew {wr W : World} {g : Nat} {x : EntV} {D : Option Addr} {c b q : Nat} {P : ByteArray} (h : RdF wr g x D c b q P W) : RdF wr g x D c b q P W.drew := ⟨h.1.drew, h.2⟩
theorem ents_good {t : List EntV} (h : ewalkE [] t = 0) : ∀ x ∈ t, entE x = 0 := fun x hx => by
 obtain ⟨j, hj, rfl⟩ := List.getElem_of_mem hx
 exact ((eatE_zero _ _).1 ((ewalkE_all t []).1 h j hj)).1
theorem pathE_len {p : List UInt8} (h : pathE p = 0) : p.length ≤ 400 := by
 unfold pathE at h
 split at h
 ·exact absurd h (by decide)
 ·omega
theorem eatE_node {t : List EntV} {n : EntV} (h : entE n ≠ 0) : eatE t n = entE n := if_pos h
theorem eatE_twice {t : List EntV} {n : EntV} (h : entE n = 0) (x : EntV) (hl : t.getLast? = some x) (h2 : pcmp x.path n.path ≠ -1) : eatE t n = 6 := by
 unfold eatE; rw [if_neg (by simp [h]), hl]; simp only; rw [if_pos (by simp [h2])]
theorem eatE_up {t : List EntV} {n : EntV} (h : entE n = 0) (hl : ∀ x, t.getLast? = some x → pcmp x.path n.path = -1) (hu : upE t n.path = false) : eatE t n = 10 := by
 unfold eatE
 rw [if_neg (by simp [h]), if_neg, if_pos hu]
 cases e : t.getLast? with
 | none => simp
 | some x => simp [hl x e]
theorem eatE_link {t : List EntV} {n : EntV} (h : entE n = 0) (hl : ∀ x, t.getLast? = some x → pcmp x.path n.path = -1) (hu : upE t n.path = true) (hk : aimE t n = false) : eatE t n = 11 := by
 unfold eatE
 rw [if_neg (by simp [h]), if_neg, if_neg (by simp [hu]), if_pos hk]
 cases e : t.getLast? with
 | none => simp
 | some x => simp [hl x e]
theorem elast_take (l : List EntV) (k : Nat) (hk : k < l.length) (x : EntV) : (l.take k).getLast? = some x ↔ ∃ h : 0 < k, l[k - 1] = x := by
 cases k with
 | zero => simp
 | succ k =>
  rw [List.take_succ_eq_append_getElem (by omega), List.getLast?_append]
  simp
set_option maxHeartbeats 8000000 in
theorem rEnts_any (A : Option Addr) (n c : Nat) (l : List EntV) (hn : l.length = n) (hc : SlOk A n c) (hsz : ∀ x ∈ l, x.sz) (w : World) (hA : EntsAt w A l) :
  Calls Tryz.prog 28 #[.slice A n c] w fun e w' => e = .returned (.int .i64 (entsE l)) ∧ Below w.heap.size w w' := by
 have HN := Lib.hid hn
 have HA := Lib.hid hA
 have HSZ := Lib.hid hsz
 have hcap := hc.1
 have hmx := hc.2.1
 unfold maxLen at hmx
 clear hn hA hsz hc
 by_cases h40 : 40 < n
 ·have HV : Hid (entsE l = 1) := by unfold Hid entsE; rw [HN.out, if_pos h40]
  go_enter Tryz.func28, Tryz.ntmps28
  go_wp2_with fail
  go_ret
  exact ⟨ret_int (by rw [HV.out]), Below.refl _ _⟩
 ·have HT : Hid (entsE l = ewalkE [] l) := by unfold Hid entsE; rw [HN.out, if_neg h40]
  have h41 : n ≤ 40 := by omega
  go_enter Tryz.func28, Tryz.ntmps28
  go_wp2_with fail
  go_loopw [15] (fun i wr => ∃ k : Nat, k ≤ n ∧ i = .int .i64 k ∧ Hid (ewalkE [] (l.take k) = 0) ∧ Hid (Below w.heap.size w wr)) (fun i _ => n - (intOf i).toNat)
  case atStart => exact ⟨0, Nat.zero_le _, rfl, by unfold Hid; rw [List.take_zero]; rfl, Below.refl _ _⟩
  case round =>
   obtain ⟨k, hk, rfl, HW, HB⟩ := hrel
   by_cases hlt : k < n
   ·have hk1 : k < l.length := by rw [HN.out]; exact hlt
    obtain ⟨b, o, D, cc, rfl, c0, c1, c3, ⟨c4, c5, c6, c7, c8, c9, cA⟩, cB, -, -⟩ := (HA.out.below HB.out).cells k hk1
    have hb1 : b < wr.heap.size := World.block_lt_of_cell? wr _ c0
    have hxsz := HSZ.out _ (List.getElem_mem hk1)
    have HST := Lib.hid fun he => ewalkE_stop l k hk1 HW.out he
    have HSP := Lib.hid fun he => ewalkE_step l k hk1 HW.out he
    generalize hx : l[k] = x at *
    have HNd := Lib.hid fun W => rEnt_any x D cc hxsz W
    unfold entC at HNd
    have hps : (bs x.path).size ≤ 140737488351232 := by rw [bs_size]; exact hxsz.1.1
    clear hxsz
    go_upto_region 6 with fail
    have HBl := Lib.hid (Blk.new wr 34 (entA x D cc))
    have HBa : Hid (Below wr.heap.size wr (wr.alloc (.cells (entA x D cc) 34))) := (Below.refl _ _).alloc (Nat.le_refl _) _
    unfold entA at HBl HBa
    generalize hwa : wr.alloc _ = wa at HBl HBa ⊢
    obtain ⟨⟨e0, e1, e3, e4, e5, e6, e7, e8, e9, eA, eB⟩, -⟩ := blk11 HBl.out
    clear hwa c0 c1 c3 c4 c5 c6 c7 c8 c9 cA cB
    by_cases hne : entE x = 0
    ·rw [hne] at HNd
     go_wp2_with fail
     refine (HNd.out _).mono ?_; rintro e' w4 ⟨rfl, hb4⟩
     have HS4 : Hid (RdE wr wr.heap.size x D cc w4) := ⟨HBl.out.below hb4 HBl.out.lt, HBa.out.trans (hb4.mono HBa.out.size)⟩
     clear hb4 e0 e1 e3 e4 e5 e6 e7 e8 e9 eA eB
     go_upto_region 9 with fail
     obtain ⟨q, hq⟩ : ∃ q : Bool, q = (match (l.take k).getLast? with | some y => !decide (pcmp y.path x.path = -1) | none => false) := ⟨_, rfl⟩
     have HQ := Lib.hid hq
     clear hq
     go_cut [38] (fun s38 wx => s38 = .bool q ∧ RdE wr wr.heap.size x D cc wx)
     case first =>
      by_cases hk0 : 0 < k
      ·have hd0 : decide (0 < k) = true := decide_eq_true hk0
       obtain ⟨k1, hk1'⟩ : ∃ k1, k1 = k - 1 := ⟨_, rfl⟩
       have hsub : IntKind.i64.wrap ((k : Int) - 1) = (k1 : Int) := by rw [IntKind.wrap_i64]; omega
       have hk2 : k1 < l.length := by omega
       obtain ⟨b', o', D', cc', e', f0, -⟩ := (HA.out.below (HB.out.trans (HS4.out.2.mono HB.out.size))).cells k1 hk2
       injection e' with e'
       injection e' with e1' e2' _
       subst e1' e2'
       have hlast : (l.take k).getLast? = some l[k1] := (elast_take l k (by omega) l[k1]).2 ⟨hk0, by simp only [hk1']⟩
       have hps2 : (bs l[k1].path).size ≤ 400 := by rw [bs_size]; exact pathE_len (entE_parts (ents_good HW.out _ (List.mem_take_iff_getElem.2 ⟨k1, by omega, rfl⟩))).1
       have hps3 : (bs x.path).size ≤ 400 := by rw [bs_size]; exact pathE_len (entE_parts hne).1
       have HO := Lib.hid fun W => rOrder_any (bs l[k1].path) (bs x.path) W
       rw [bs_list, bs_list] at HO
       have hq2 := HQ.out
       rw [hlast] at hq2
       simp only at hq2
       have hpb := pcmp_bd l[k1].path x.path
       obtain ⟨pc, hpc⟩ : ∃ pc, pc = pcmp l[k1].path x.path := ⟨_, rfl⟩
       rw [← hpc] at HO hq2 hpb
       have HQ2 : Hid (decide (0 ≤ pc) = q) := by
        unfold Hid; rw [hq2]
        rcases (show pc = -1 ∨ 0 ≤ pc by omega) with e | e
        ·subst e; rfl
        ·have e2 : pc ≠ -1 := by omega
         simp [e, e2]
       obtain ⟨P, hP⟩ := hid_name (bs l[k1].path)
       obtain ⟨X, hX⟩ := hid_name (bs x.path)
       rw [hP.out, hX.out] at HO
       rw [hP.out] at f0 hps2
       rw [hX.out] at hps hps3
       have hS0 : RdF wr wr.heap.size x D cc b (o + k1 * 11) P w4 := ⟨HS4.out, f0⟩
       have r0 : ∀ W : World, RdF wr wr.heap.size x D cc b (o + k1 * 11) P W → W.cell? ⟨wr.heap.size, 0, none⟩ = some (.string X) := fun W h => by rw [← hX.out]; exact (blk11 h.1.1).1.1
       have r1 : ∀ W : World, RdF wr wr.heap.size x D cc b (o + k1 * 11) P W → W.cell? ⟨b, o + k1 * 11, none⟩ = some (.string P) := fun W h => h.2
       have hk1n : (k1 : Int) < (n : Int) := by omega
       have hk10 : (0 : Int) ≤ (k1 : Int) := by omega
       have HOr := Lib.hid fun W => HO.out W (by omega) (by omega)
       clear hq2 hlast hpc hpb hk1' f0 HO
       go_region_held3 (fun W => RdF wr wr.heap.size x D cc b (o + k1 * 11) P W)
        (first
         | (with_reducible assumption)
         | (with_reducible refine RdF.drew ?_; with_reducible assumption)
         | (with_reducible exact RdF.below (by with_reducible assumption) (by with_reducible assumption)))
        (first
         | (go_at_call 46; refine (HOr.out _).mono ?_; rintro e w5 ⟨rfl, hbO⟩))
       all_goals
        go_wp2_with fail
        go_meet
        exact ⟨by rw [HQ2.out], (RdF.below hS0.drew hbO).1⟩
      ·have hd0 : decide (0 < k) = false := decide_eq_false hk0
       have hq2 := HQ.out
       have hk00 : k = 0 := by omega
       rw [show (l.take k).getLast? = none by rw [hk00]; simp] at hq2
       simp only at hq2
       subst hq2
       clear hk00
       go_quiet (fail)
       go_wp2_with fail
       go_meet
       exact ⟨rfl, HS4.out.drewN _⟩
     case rest =>
      obtain ⟨rfl, hSc⟩ := hcut
      have HSc := Lib.hid hSc
      clear hSc HS4
      cases q with
      | true =>
       have HV : Hid (entsE l = 6) := by
        unfold Hid
        have ha : eatE (l.take k) x = 6 := by
         have h0 := HQ.out
         cases e : (l.take k).getLast? with
         | none => rw [e] at h0; cases h0
         | some y => rw [e] at h0; exact eatE_twice hne y e (by simpa using h0)
        rw [HT.out, HST.out (by rw [ha]; decide), ha]
       go_wp2_with fail
       go_ret
       exact ⟨ret_int (by rw [HV.out]), HB.out.trans (HSc.out.2.mono HB.out.size)⟩
      | false =>
       have HL : Hid (∀ y, (l.take k).getLast? = some y → pcmp y.path x.path = -1) := fun y e => by
        have h0 := HQ.out
        rw [e] at h0
        simpa using h0.symm
       have hx4 := pathE_len (entE_parts hne).1
       have HPs := Lib.hid fun W => rSplit_any (bs x.path) W (by rw [bs_size]; omega)
       rw [bs_list] at HPs
       have HFd := Lib.hid fun W h => rEntAt_any (some ⟨b, o, none⟩) k c (l.take k) (upL x.path) (by rw [List.length_take]; omega) (by omega) W h
       unfold bs at HFd
       have hfl := findE_le (l.take k) (upL x.path)
       rw [List.length_take, Nat.min_eq_left (by omega)] at hfl
       obtain ⟨f, hf⟩ : ∃ f, f = findE (l.take k) (upL x.path) := ⟨_, rfl⟩
       rw [← hf] at HFd hfl
       have HU : Hid (upE (l.take k) x.path = (decide (upL x.path = []) || if hk : f < (l.take k).length then decide (((l.take k)[f]'hk).kind = 2) else false)) := by
        unfold Hid upE; subst hf; rfl
       clear hf
       obtain ⟨X, hX⟩ := hid_name (bs x.path)
       rw [hX.out] at HPs
       obtain ⟨⟨c0, -⟩, -⟩ := blk11 HSc.out.1
       rw [hX.out] at c0
       go_upto_region 11 with fail
       go_wp2_with fail
       refine (HPs.out _).mono ?_; rintro e' w5 ⟨rfl, hb5⟩
       have HS5 := Lib.hid (HSc.out.below hb5)
       clear hb5 c0
       obtain ⟨U, hU⟩ := hid_name (⟨(upL x.path).toArray⟩ : ByteArray)
       rw [hU.out] at HFd
       rw [hU.out]
       have HAk := Lib.hid ((HA.out.below (HB.out.trans (HS5.out.2.mono HB.out.size))).take k)
       go_wp2_with fail
       refine (HFd.out _ HAk.out).mono ?_; rintro e' w6 ⟨rfl, rfl⟩
       go_upto_region 13 with fail
       obtain ⟨q2, hq2⟩ : ∃ q2 : Bool, upE (l.take k) x.path = !q2 := ⟨!upE (l.take k) x.path, by simp⟩
       have HQ2 := Lib.hid hq2
       rw [hq2] at HU
       clear hq2
       go_cut [64] (fun s64 wx => s64 = .bool q2 ∧ wx = w5)
       case first =>
        by_cases hu0 : upL x.path = []
        ·have hu1 := HU.out
         rw [decide_eq_true hu0, Bool.true_or] at hu1
         obtain rfl : q2 = false := by revert hu1; cases q2 <;> decide
         obtain rfl : U = ⟨#[]⟩ := by rw [← hU.out, hu0]
         clear hu1 hu0
         go_wp2_with fail
         go_meet
         exact ⟨rfl, rfl⟩
        ·have hu1 := HU.out
         rw [decide_eq_false hu0, Bool.false_or] at hu1
         have hun : ¬ U.toList = [] := fun e => hu0 (by rw [← hU.out, ByteArray.toList_eq] at e; exact e)
         have hun2 : (U.toList == []) = false := by simpa using hun
         by_cases hfk : f = k
         ·rw [dif_neg (by rw [List.length_take]; omega)] at hu1
          obtain rfl : q2 = true := by revert hu1; cases q2 <;> decide
          have hfk2 : ((f : Int) == (k : Int)) = true := by simp [hfk]
          clear hu1 hu0 hfk
          go_wp2_with fail
          go_meet
          exact ⟨rfl, rfl⟩
         ·have hfk2 : ((f : Int) == (k : Int)) = false := by simp; omega
          have hfl2 : f < (l.take k).length := by rw [List.length_take]; omega
          have hfln : f < n := by omega
          rw [dif_pos hfl2] at hu1
          obtain ⟨b', o', D', cc', e', -, f1, -⟩ := HAk.out.cells f hfl2
          injection e' with e'
          injection e' with e1' e2' _
          subst e1' e2'
          generalize (l.take k)[f].kind = kd at f1 hu1
          clear hfk hu0
          by_cases hkd : kd = 2
          ·rw [decide_eq_true hkd] at hu1
           obtain rfl : q2 = false := by revert hu1; cases q2 <;> decide
           subst hkd
           clear hu1
           go_wp2_with fail
           go_meet
           exact ⟨rfl, rfl⟩
          ·rw [decide_eq_false hkd] at hu1
           obtain rfl : q2 = true := by revert hu1; cases q2 <;> decide
           have hkd2 : (kd != 2) = true := by simpa using hkd
           clear hu1 hkd
           go_wp2_with fail
           go_meet
           exact ⟨rfl, rfl⟩
       case rest =>
        obtain ⟨rfl, rfl⟩ := hcut
        cases q2 with
        | true =>
         have HV : Hid (entsE l = 10) := by
          unfold Hid
          have ha : eatE (l.take k) x = 10 := eatE_up hne HL.out (by rw [HQ2.out]; rfl)
          rw [HT.out, HST.out (by rw [ha]; decide), ha]
         go_wp2_with fail
         go_ret
         exact ⟨ret_int (by rw [HV.out]), HB.out.trans (HS5.out.2.mono HB.out.size)⟩
        | false =>
         have HUp : Hid (upE (l.take k) x.path = true) := by unfold Hid; rw [HQ2.out]; rfl
         clear HFd HU HQ2 hfl hU
         have HFd := Lib.hid fun W h => rEntAt_any (some ⟨b, o, none⟩) k c (l.take k) x.target (by rw [List.length_take]; omega) (by omega) W h
         have hfl := findE_le (l.take k) x.target
         rw [List.length_take, Nat.min_eq_left (by omega)] at hfl
         obtain ⟨f2, hf⟩ : ∃ f2, f2 = findE (l.take k) x.target := ⟨_, rfl⟩
         rw [← hf] at HFd hfl
         have HU : Hid (aimE (l.take k) x = (decide (x.kind ≠ 4) || if hk : f2 < (l.take k).length then decide (((l.take k)[f2]'hk).kind = 1) && decide (((l.take k)[f2]'hk).md = x.md) else false)) := by
          unfold Hid aimE; subst hf; rfl
         clear hf
         obtain ⟨Tg, hTg⟩ := hid_name (bs x.target)
         rw [hTg.out] at HFd
         obtain ⟨⟨-, -, c2, -⟩, -⟩ := blk11 HS5.out.1
         rw [hTg.out] at c2
         go_upto_region 15 with fail
         go_cut [9] (fun s9 wx => s9 = .int .i64 (f2 : Int) ∧ RdE wr wr.heap.size x D cc wx)
         case first =>
          go_quiet ((go_at_call 32; exact Calls.quiet_of_same (flip_same (HFd.out _ HAk.out))))
          go_wp2_with fail
          go_meet
          exact ⟨rfl, HS5.out.drewN _⟩
         case rest =>
          obtain ⟨rfl, hSd⟩ := hcut
          have HSd := Lib.hid hSd
          clear hSd HS5 c2
          have HAm := Lib.hid ((HA.out.below (HB.out.trans (HSd.out.2.mono HB.out.size))).take k)
          obtain ⟨q3, hq3⟩ : ∃ q3 : Bool, aimE (l.take k) x = !q3 := ⟨!aimE (l.take k) x, by simp⟩
          have HQ3 := Lib.hid hq3
          rw [hq3] at HU
          clear hq3 HAk
          obtain ⟨⟨c0, c1, c2, c4, c5, c6, c7, c8, c9, cA, cB⟩, -⟩ := blk11 HSd.out.1
          go_upto_region 16 with fail
          go_cut [96] (fun s96 wx => s96 = .bool q3 ∧ RdE wr wr.heap.size x D cc wx)
          case first =>
           by_cases hk4 : x.kind = 4
           ·have hu1 := HU.out
            rw [decide_eq_false (by simp [hk4]), Bool.false_or] at hu1
            have hk4b : (x.kind == 4) = true := by simp [hk4]
            by_cases hfk : f2 = k
            ·rw [dif_neg (by rw [List.length_take]; omega)] at hu1
             obtain rfl : q3 = true := by revert hu1; cases q3 <;> decide
             have hfk2 : ((f2 : Int) == (k : Int)) = true := by simp [hfk]
             clear hu1 hfk hk4
             go_quiet (fail)
             go_wp2_with fail
             go_meet
             exact ⟨rfl, HSd.out.drewN _⟩
            ·have hfk2 : ((f2 : Int) == (k : Int)) = false := by simp; omega
             have hfl2 : f2 < (l.take k).length := by rw [List.length_take]; omega
             have hfln : f2 < n := by omega
             rw [dif_pos hfl2] at hu1
             obtain ⟨b', o', D', cc', e', -, f1, -, ⟨g4, g5, g6, g7, g8, g9, gA⟩, -⟩ := HAm.out.cells f2 hfl2
             injection e' with e'
             injection e' with e1' e2' _
             subst e1' e2'
             generalize (l.take k)[f2] = y at f1 hu1 g4 g5 g6 g7 g8 g9 gA
             clear hfk hk4
             by_cases hkd : y.kind = 1
             ·rw [decide_eq_true hkd, Bool.true_and] at hu1
              rw [hkd] at f1
              have hq := meta_neq y.md x.md
              unfold metB at hq
              rw [← hu1] at hq
              unfold metA at hq
              simp only [Bool.not_not] at hq
              clear hu1 hkd
              go_quiet (fail)
              go_wp2_with fail
              go_meet
              exact ⟨rfl, HSd.out.drewN _⟩
             ·rw [decide_eq_false hkd, Bool.false_and] at hu1
              obtain rfl : q3 = true := by revert hu1; cases q3 <;> decide
              have hkd2 : (y.kind != 1) = true := by simpa using hkd
              clear hu1 hkd
              go_quiet (fail)
              go_wp2_with fail
              go_meet
              exact ⟨rfl, HSd.out.drewN _⟩
           ·have hu1 := HU.out
            rw [decide_eq_true hk4, Bool.true_or] at hu1
            obtain rfl : q3 = false := by revert hu1; cases q3 <;> decide
            have hk4b : (x.kind == 4) = false := by simpa using hk4
            clear hu1 hk4
            go_quiet (fail)
            go_wp2_with fail
            go_meet
            exact ⟨rfl, HSd.out.drewN _⟩
          case rest =>
           obtain ⟨rfl, hSf⟩ := hcut
           have HSf := Lib.hid hSf
           clear hSf HSd c0 c1 c2 c4 c5 c6 c7 c8 c9 cA cB
           cases q3 with
           | true =>
            have HV : Hid (entsE l = 11) := by
             unfold Hid
             have ha : eatE (l.take k) x = 11 := eatE_link hne HL.out HUp.out (by rw [HQ3.out]; rfl)
             rw [HT.out, HST.out (by rw [ha]; decide), ha]
            go_wp2_with fail
            go_ret
            exact ⟨ret_int (by rw [HV.out]), HB.out.trans (HSf.out.2.mono HB.out.size)⟩
           | false =>
            have HV : Hid (ewalkE [] (l.take (k + 1)) = 0) := HSP.out ((eatE_zero _ _).2 ⟨hne, HL.out, HUp.out, by rw [HQ3.out]; rfl⟩)
            go_wp2_with fail
            go_roundw
            case rel => exact ⟨k + 1, by omega, by go_num, HV, HB.out.trans (HSf.out.2.mono HB.out.size)⟩
            case measure => simp [intOf]; omega
    ·have hne2 : (entE x != 0) = true := by simpa using hne
     have HV : Hid (entsE l = entE x) := by
      unfold Hid
      have ha := eatE_node (t := l.take k) hne
      rw [HT.out, HST.out (by rw [ha]; exact hne), ha]
     generalize entE x = ex at *
     clear hne
     go_wp2_with fail
     refine (HNd.out _).mono ?_; rintro e' w4 ⟨rfl, hb4⟩
     have HB4 := Lib.hid (HB.out.trans ((HBa.out.trans (hb4.mono HBa.out.size)).mono HB.out.size))
     clear hb4 e0 e1 e3 e4 e5 e6 e7 e8 e9 eA eB
     go_wp2_with fail
     go_ret
     exact ⟨ret_int (by rw [HV.out]), HB4.out⟩
   ·obtain rfl : k = n := by omega
    have HV : Hid (entsE l = 0) := by
     have := HW.out
     rw [List.take_of_length_le (by rw [HN.out]; omega)] at this
     unfold Hid; rw [HT.out, this]
    go_wp2_with fail
    go_ret
    exact ⟨ret_int (by rw [HV.out]), HB.out⟩
theorem RowN.row {w : World} {B : Nat} {v : Value} {xs : List NodP} (h : RowN w B v xs) (hx : 0 < xs.length) : ∃ g cap, v = .slice (some ⟨g, 0, none⟩) xs.length cap ∧ B ≤ g ∧ g < w.heap.size ∧ xs.length ≤ cap ∧ cap ≤ maxLen := by
 have h' := h
 unfold RowN World.ownsRow at h
 rcases h.2 with ⟨rfl, h0⟩ | ⟨g, cap, cur, rfl, hB, hg, hcap, hm, hs, ht⟩
 ·omega
 ·exact ⟨g, cap, rfl, hB, (World.ownsRow.lt h' g rfl).2, hcap, hm⟩
def anyE (l : List EntV) (p : List UInt8) : Bool := l.any fun y => decide (y.kind = 4) && decide (y.target = p)
def smE (l : List EntV) (i : Nat) (x : EntV) : Int := if x.kind = 1 ∧ anyE l x.path = true then (i : Int) + 1 else 0
theorem EntV.sz.grow {l : List EntV} (h : ∀ x ∈ l, x.sz) {i : Nat} (hi : i < l.length) : (growE l i l[i]).sz := by
 have hx := h _ (List.getElem_mem hi)
 unfold growE
 by_cases hk : l[i].kind = 4
 ·rw [if_pos hk]
  refine ⟨⟨hx.1.1, Nat.zero_le _, ?_⟩, hx.2⟩
  simp only
  cases hd : l[findE l l[i].target]? with
  | none => exact Nat.zero_le _
  | some y => exact (h y (List.mem_of_getElem? hd)).1.2.2
 ·rw [if_neg hk]
  exact ⟨⟨hx.1.1, hx.1.2.1, hx.1.2.2⟩, hx.2⟩
def growT (l : List EntV) : List NodeV := if entsE l = 0 then growL l else []
end Go.Proofs.YtmejnabngfpbeaaGreatDoor
