/- Texts of one kind, in one file: TrgG, TrgH, TrgI, TrgK, TrgL, TrgP, TrgQ, TrgR. -/
import Derived.Test.YtmejnabngfpbeaaGreatDoorTrb
import Derived.Test.YtmejnabngfpbeaaGreatDoorTra
import Derived.Deep.DeepCutAuto
import Derived.Lib.AppendZeros
import Derived.Deep.RegionHeld3
import Derived.Lib.SliceRun
import Derived.Deep.Upon
import Derived.Test.YtmejnabngfpbeaaGreatDoorTreE
import Derived.Test.YtmejnabngfpbeaaGreatDoorMth
import Derived.Lib.SmallJoins
import Derived.Deep.RegionWith
set_option linter.unusedVariables false
set_option maxRecDepth 100000
namespace Go.Proofs.YtmejnabngfpbeaaGreatDoor
open Go.RowKit
open Go.OpenShut
def cutN (A : Option Addr) (c k : Nat) : Option Addr := if c = k then A else A.map (·.add (k * 12))
theorem CellsN.take {w : World} {A : Option Addr} {ys : List NodP} (h : CellsN w A ys) (k : Nat) : CellsN w A (ys.take k) := fun ad ha j u hu => by
 refine h ad ha j u ?_
 have e : rowN ys = rowN (ys.take k) ++ rowN (ys.drop k) := by rw [← rowN_app, List.take_append_drop]
 rw [e, List.getElem?_append_left (List.getElem?_eq_some_iff.1 hu).1]; exact hu
theorem CellsN.drop {w : World} {A : Option Addr} {ys : List NodP} (h : CellsN w A ys) {c k : Nat} (hc : ys.length ≤ c) (hk : k ≤ ys.length) : CellsN w (cutN A c k) (ys.drop k) := fun ad ha j u hu => by
 have hj := (List.getElem?_eq_some_iff.1 hu).1
 rw [rowN_length, List.length_drop] at hj
 have hne : c ≠ k := by omega
 unfold cutN at ha
 rw [if_neg hne] at ha
 cases A with
 | none => cases ha
 | some a =>
  simp only [Option.map_some, Option.some.injEq] at ha
  subst ha
  rw [Go.Deep.add_add]
  refine h a rfl _ u ?_
  have e : rowN ys = rowN (ys.take k) ++ rowN (ys.drop k) := by rw [← rowN_app, List.take_append_drop]
  rw [e, List.getElem?_append_right (by rw [rowN_length, List.length_take]; omega), rowN_length, List.length_take, Nat.min_eq_left hk, Nat.add_sub_cancel_left]
  exact hu
def patch : List Value → Nat → List Value → List Value
 | xs, _, [] => xs
 | xs, o, v :: vs => patch (xs.set o v) (o + 1) vs
theorem RowN.short {w : World} {B g cap n : Nat} {xs : List NodP} (h : RowN w B (.slice (some ⟨g, 0, none⟩) n cap) xs) (hn : xs.length = n) (i : Nat) (hi : i ≤ n) : RowN w B (.slice (some ⟨g, 0, none⟩) i cap) (xs.take i) := by
 subst hn
 unfold RowN World.ownsRow at h ⊢
 have hl : (xs.take i).length = i := by rw [List.length_take]; omega
 refine ⟨by rw [rowN_length], .inr ?_⟩
 rcases h.2 with ⟨e, -⟩ | ⟨g', cap', cur, e, hB, hg, hcap, hm, hs, ht⟩
 ·cases e
 ·injection e with e1 e2 e3
  injection e1 with e1
  injection e1 with e1
  subst e1 e3
  refine ⟨g, cap, cur, by rw [hl], hB, hg, by omega, hm, hs, ?_⟩
  have h1 : rowN xs = rowN (xs.take i) ++ rowN (xs.drop i) := by rw [← rowN_app, List.take_append_drop]
  have h2 : (cur.toList.take (xs.length * 12)).take (i * 12) = rowN (xs.take i) := by
   rw [ht, h1, List.take_left' (by rw [rowN_length, hl])]
  rw [List.take_take, Nat.min_eq_left (by omega)] at h2
  rw [hl]; exact h2
theorem Dat.byts {w : World} {B : Nat} {d : Option Nat × Nat × Nat} {l : List UInt8} (h : Dat w B d l) : SlOk (adr d.1) l.length d.2.2 ∧ BytsAt w (adr d.1) l := by
 obtain ⟨h1, h2, h3, h4, h5⟩ := h
 refine ⟨⟨h2, h3, fun e => h4 (by cases hd : d.1 with | none => rfl | some g => rw [hd] at e; cases e)⟩, fun j hj => ?_⟩
 obtain ⟨g, cur, fr, e, _, hg, hc⟩ := h5 (by omega)
 refine ⟨g, 0, by rw [e]; rfl, ?_⟩
 rw [Nat.zero_add, cell_of_row w g j cur 5 fr hg]
 have h6 := congrArg (fun (x : List Value) => x[j]?) hc
 simp only [List.getElem?_take_of_lt hj, Array.getElem?_toList] at h6
 rw [h6, bCells_get l j hj]; simp [bInts, hj]
theorem nodE_sz {x : NodeV} (h : nodE x = 0) : x.sz := by
 have hp := path_len h
 have h1 : pathE x.path = 0 := by
  by_cases e : pathE x.path = 0
  ·exact e
  ·rw [nodE_path e] at h; exact absurd h e
 have h2 : metE x.md = 0 := by
  by_cases e : metE x.md = 0
  ·exact e
  ·rw [nodE_meta h1 e] at h; exact absurd h e
 rw [nodE_kind h1 h2] at h
 have h3 : x.md.user.length ≤ 60 ∧ x.md.group.length ≤ 60 := by
  unfold metE at h2
  split at h2
  ·split at h2
   ·cases h2
   ·omega
  ·cases h2
 have h4 : x.target.length ≤ 400 ∧ x.data.length ≤ 2000 := by
  unfold nodK at h
  split at h
  ·split at h
   ·cases h
   ·rename_i hn
    split at h
    ·cases h
    ·have ht : x.target = [] := by
      rcases Classical.em (x.target = []) with e | e
      ·exact e
      ·exact absurd (.inl e) hn
     rw [ht]; simp; omega
  ·split at h
   ·split at h
    ·cases h
    ·rename_i hn
     split at h
     ·cases h
     ·have ht : x.data = [] := by
       rcases Classical.em (x.data = []) with e | e
       ·exact e
       ·exact absurd (.inl e) hn
      rw [ht]; simp; omega
   ·cases h
 unfold NodeV.sz MetaV.sz
 omega
theorem TreeOut.tree {w w' : World} {m : Nat} {rs : List RawV} {v : Value} {ys : List NodeD} (h : TreeOut w m rs v ys w') :
  ∃ (l : List NodeV) (A : Option Addr) (c : Nat), l.Perm (treeS m rs).1 ∧ v = .slice A l.length c ∧ SlOk A l.length c ∧ NodesAt w' A l ∧ l.length ≤ m ∧ Sound l ∧ (∀ x ∈ l, x.sz) ∧ Below w.heap.size w w' := by
 obtain ⟨h1, h2, h3, h4, h5⟩ := h
 have hs : ∀ i j (hi : i < j) (hj : j < (ys.map fun y : NodeD => y.1).length), pcmp ((ys.map fun y : NodeD => y.1)[i]'(by omega)).path (ys.map fun y : NodeD => y.1)[j].path ≤ 0 := fun i j hi hj => by
  rw [List.getElem_map, List.getElem_map]
  exact h3 i j hi (by simpa using hj)
 obtain ⟨h6, h7⟩ := drawn_sound h2 hs
 have hform : ∃ A c, v = .slice A ys.length c ∧ SlOk A ys.length c ∧ NodesAt w' A (ys.map fun y : NodeD => y.1) := by
  have h1' := h1
  unfold Nodes World.ownsRow at h1
  rcases h1.2 with ⟨rfl, h0⟩ | ⟨g, cap, cur, rfl, hB, hg, hcap, hm, hsz, ht⟩
  ·have e := List.eq_nil_of_length_eq_zero h0
   subst e
   exact ⟨none, 0, rfl, ⟨Nat.le_refl _, by decide, fun _ => rfl⟩, NodesAt.nil _ _⟩
  ·refine ⟨some ⟨g, 0, none⟩, cap, rfl, ⟨hcap, hm, fun e => by cases e⟩, fun j hj => ?_⟩
   have hj' : j < ys.length := by simpa using hj
   have hy := h4 _ (List.getElem_mem hj')
   rw [List.getElem_map]
   refine ⟨g, 0, adr ys[j].2.1, ys[j].2.2.2, rfl, fun i hi => ?_, hy.1.byts.1, hy.1.byts.2⟩
   rcases h1'.any with ⟨e, -⟩ | ⟨g2, cap2, e, -, -, -, hcell⟩
   ·cases e
   ·injection e with e _ _
    injection e with e
    injection e with e
    subst e
    rw [Nat.zero_add, (hcell j i hj' hi).1]
    have hk : keyL ys[j] = ys[j].1.path := List.take_of_length_le hy.2.1
    unfold encN nodC
    rw [hk, hy.1.1]
    rfl
 obtain ⟨A, c, e1, e2, e3⟩ := hform
 refine ⟨ys.map fun y : NodeD => y.1, A, c, h2, by rw [List.length_map]; exact e1, by rw [List.length_map]; exact e2, e3, h6, h7, fun x hx => ?_, h5⟩
 exact nodE_sz (h7.node x hx)
def mdZ : MetaV := ⟨0, 0, 0, [], [], 0, 0⟩
def smA : NodeV := ⟨[97], 2, 0, [], mdZ, []⟩
def smB : NodeV := ⟨[97, 47, 98], 1, 0, [], mdZ, [120]⟩
def smC : NodeV := ⟨[99], 3, 0, [97, 47, 98], mdZ, []⟩
theorem small_at (W : World) (g : Nat) (hd : BytsAt W (some ⟨g, 0, none⟩) [120]) : NodesAt (W.alloc (.cells #[.string ⟨#[97]⟩, .int .i64 2, .int .i64 0, .string ⟨#[]⟩, .int .i64 0, .int .i64 0, .int .i64 0, .string ⟨#[]⟩, .string ⟨#[]⟩, .int .i64 0, .int .i64 0, .slice none 0 0, .string ⟨#[97, 47, 98]⟩, .int .i64 1, .int .i64 0, .string ⟨#[]⟩, .int .i64 0, .int .i64 0, .int .i64 0, .string ⟨#[]⟩, .string ⟨#[]⟩, .int .i64 0, .int .i64 0, .slice (some ⟨g, 0, none⟩) 1 1, .string ⟨#[99]⟩, .int .i64 3, .int .i64 0, .string ⟨#[97, 47, 98]⟩, .int .i64 0, .int .i64 0, .int .i64 0, .string ⟨#[]⟩, .string ⟨#[]⟩, .int .i64 0, .int .i64 0, .slice none 0 0] 101)) (some ⟨W.heap.size, 0, none⟩) [smA, smB, smC] := by
 have hb := Blk.new W 101 #[.string ⟨#[97]⟩, .int .i64 2, .int .i64 0, .string ⟨#[]⟩, .int .i64 0, .int .i64 0, .int .i64 0, .string ⟨#[]⟩, .string ⟨#[]⟩, .int .i64 0, .int .i64 0, .slice none 0 0, .string ⟨#[97, 47, 98]⟩, .int .i64 1, .int .i64 0, .string ⟨#[]⟩, .int .i64 0, .int .i64 0, .int .i64 0, .string ⟨#[]⟩, .string ⟨#[]⟩, .int .i64 0, .int .i64 0, .slice (some ⟨g, 0, none⟩) 1 1, .string ⟨#[99]⟩, .int .i64 3, .int .i64 0, .string ⟨#[97, 47, 98]⟩, .int .i64 0, .int .i64 0, .int .i64 0, .string ⟨#[]⟩, .string ⟨#[]⟩, .int .i64 0, .int .i64 0, .slice none 0 0]
 have hbel := belowA (Below.refl W.heap.size W) (.cells #[.string ⟨#[97]⟩, .int .i64 2, .int .i64 0, .string ⟨#[]⟩, .int .i64 0, .int .i64 0, .int .i64 0, .string ⟨#[]⟩, .string ⟨#[]⟩, .int .i64 0, .int .i64 0, .slice none 0 0, .string ⟨#[97, 47, 98]⟩, .int .i64 1, .int .i64 0, .string ⟨#[]⟩, .int .i64 0, .int .i64 0, .int .i64 0, .string ⟨#[]⟩, .string ⟨#[]⟩, .int .i64 0, .int .i64 0, .slice (some ⟨g, 0, none⟩) 1 1, .string ⟨#[99]⟩, .int .i64 3, .int .i64 0, .string ⟨#[97, 47, 98]⟩, .int .i64 0, .int .i64 0, .int .i64 0, .string ⟨#[]⟩, .string ⟨#[]⟩, .int .i64 0, .int .i64 0, .slice none 0 0] 101)
 have hnil : SlOk (none : Option Addr) 0 0 := ⟨Nat.le_refl _, by decide, fun _ => rfl⟩
 intro j hj
 match j, hj with
 | 0, _ =>
  refine ⟨W.heap.size, 0, none, 0, rfl, fun i hi => ?_, hnil, BytsAt.nil _ _⟩
  show World.cell? _ ⟨W.heap.size, 0 + 0 * 12 + i, none⟩ = (nodC smA none 0)[i]?
  match i, hi with
   | 0, _ => exact (hb.cell 0).trans rfl
   | 1, _ => exact (hb.cell 1).trans rfl
   | 2, _ => exact (hb.cell 2).trans rfl
   | 3, _ => exact (hb.cell 3).trans rfl
   | 4, _ => exact (hb.cell 4).trans rfl
   | 5, _ => exact (hb.cell 5).trans rfl
   | 6, _ => exact (hb.cell 6).trans rfl
   | 7, _ => exact (hb.cell 7).trans rfl
   | 8, _ => exact (hb.cell 8).trans rfl
   | 9, _ => exact (hb.cell 9).trans rfl
   | 10, _ => exact (hb.cell 10).trans rfl
   | 11, _ => exact (hb.cell 11).trans rfl
 | 1, _ =>
  refine ⟨W.heap.size, 0, some ⟨g, 0, none⟩, 1, rfl, fun i hi => ?_, ⟨Nat.le_refl _, by decide, fun e => by cases e⟩, hd.below hbel⟩
  show World.cell? _ ⟨W.heap.size, 0 + 1 * 12 + i, none⟩ = (nodC smB (some ⟨g, 0, none⟩) 1)[i]?
  match i, hi with
   | 0, _ => exact (hb.cell 12).trans rfl
   | 1, _ => exact (hb.cell 13).trans rfl
   | 2, _ => exact (hb.cell 14).trans rfl
   | 3, _ => exact (hb.cell 15).trans rfl
   | 4, _ => exact (hb.cell 16).trans rfl
   | 5, _ => exact (hb.cell 17).trans rfl
   | 6, _ => exact (hb.cell 18).trans rfl
   | 7, _ => exact (hb.cell 19).trans rfl
   | 8, _ => exact (hb.cell 20).trans rfl
   | 9, _ => exact (hb.cell 21).trans rfl
   | 10, _ => exact (hb.cell 22).trans rfl
   | 11, _ => exact (hb.cell 23).trans rfl
 | 2, _ =>
  refine ⟨W.heap.size, 0, none, 0, rfl, fun i hi => ?_, hnil, BytsAt.nil _ _⟩
  show World.cell? _ ⟨W.heap.size, 0 + 2 * 12 + i, none⟩ = (nodC smC none 0)[i]?
  match i, hi with
   | 0, _ => exact (hb.cell 24).trans rfl
   | 1, _ => exact (hb.cell 25).trans rfl
   | 2, _ => exact (hb.cell 26).trans rfl
   | 3, _ => exact (hb.cell 27).trans rfl
   | 4, _ => exact (hb.cell 28).trans rfl
   | 5, _ => exact (hb.cell 29).trans rfl
   | 6, _ => exact (hb.cell 30).trans rfl
   | 7, _ => exact (hb.cell 31).trans rfl
   | 8, _ => exact (hb.cell 32).trans rfl
   | 9, _ => exact (hb.cell 33).trans rfl
   | 10, _ => exact (hb.cell 34).trans rfl
   | 11, _ => exact (hb.cell 35).trans rfl
theorem small_any (w : World) : Calls Tryz.prog 36 #[] w fun e w' => ∃ g, e = .returned (.slice (some ⟨g, 0, none⟩) 3 3) ∧ NodesAt w' (some ⟨g, 0, none⟩) [smA, smB, smC] ∧ Below w.heap.size w w' := by
 have hcv := Go.Joins.run_convert_bytes_const_at (P := Tryz.prog) w 22 5 #[.int .u8 120] 1 1 w.heap.size rfl Tryz.underlying22 Tryz.underlying5
 have HB : Hid (Below w.heap.size w (w.alloc (.cells #[.int .u8 120] 5 (1, 2)))) := belowA (Below.refl _ _) _
 have HD : Hid (BytsAt (w.alloc (.cells #[.int .u8 120] 5 (1, 2))) (some ⟨w.heap.size, 0, none⟩) [120]) := fun j hj => by
  match j, hj with
  | 0, _ => exact ⟨w.heap.size, 0, rfl, (World.cell?_alloc_mark w _ _ _ 0).trans rfl⟩
 go_enter Tryz.func36, Tryz.ntmps36
 go_wp2_with fail
 go_ret
 refine ⟨w.heap.size + 1, rfl, ?_, belowA HB.out _⟩
 have := small_at _ w.heap.size HD.out
 rwa [hszA] at this
theorem NodesAt.cut {w : World} {A : Option Addr} {l : List NodeV} (h : NodesAt w A l) {c : Nat} (hc : l.length ≤ c) (k : Nat) (hk : k ≤ l.length) : NodesAt w (cutN A c k) (l.drop k) := by
 intro j hj
 rw [List.length_drop] at hj
 have hne : c ≠ k := by omega
 obtain ⟨b, o, D, d, rfl, h12, h1, h2⟩ := h (k + j) (by omega)
 refine ⟨b, o + k * 12, D, d, ?_, fun i hi => ?_, ?_, ?_⟩
 ·unfold cutN; rw [if_neg hne, Option.map_some, Addr.add_lit]
 ·rw [List.getElem_drop, ← h12 i hi]
  congr 2
  omega
 ·rw [List.getElem_drop]; exact h1
 ·rw [List.getElem_drop]; exact h2
theorem sound_tree {l : List NodeV} (h : Sound l) (hl : l.length ≤ 40) : treeE l = 0 := (treeE_zero l).2 ⟨hl, h⟩
theorem drawn_any (A : Option Addr) (n c : Nat) (rs : List RawV) (hn : rs.length = n) (hn2 : n ≤ 140737488355328) (hwf : ∀ r ∈ rs, r.wf) (m : Nat) (hm : m ≤ 1000) (w : World) (hA : RawsAt w A rs) :
  Calls Tryz.prog 35 #[.slice A n c, .int .i64 m] w fun e w' => ∃ (l : List NodeV) (T : Option Addr) (k d : Nat), e = .returned (.slice T k d) ∧ l.length = k ∧ l.Perm (treeS m rs).1 ∧ SlOk T k d ∧ NodesAt w' T l ∧ k ≤ m ∧ Sound l ∧ (∀ x ∈ l, x.sz) ∧ Below w.heap.size w w' :=
 (Tree_any A n c rs hn hn2 hwf m hm w hA).mono fun e w' ⟨v, ys, he, ho⟩ => by
  obtain ⟨l, T, d, h1, h2, h3, h4, h5, h6, h7, h8⟩ := ho.tree
  exact ⟨l, T, l.length, d, by rw [he, h2], rfl, h1, h3, h4, h5, h6, h7, h8⟩
end Go.Proofs.YtmejnabngfpbeaaGreatDoor
