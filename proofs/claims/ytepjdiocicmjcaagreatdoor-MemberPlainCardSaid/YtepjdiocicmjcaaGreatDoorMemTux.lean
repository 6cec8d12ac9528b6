/- Texts of one kind, in one file: ShelfB, HedG, Tur, Dev, MemTu, MemPl. -/
import Derived.Shelf.SlicesE.Clone
import Derived.Test.YtepjdiocicmjcaaGreatDoorProg
import Derived.Test.YtepjdiocicmjcaaGreatDoorShelf
import Derived.Test.YtepjdiocicmjcaaGreatDoorMth
import Derived.Test.YtepjdiocicmjcaaGreatDoorOct
import Derived.Laws.MakeOwn
import Derived.Laws.OwnMore
import Derived.Laws.BitsAllLaws
import Derived.Lib.MinMax
import Derived.Below
import Derived.Lib.ConvBytes
import Derived.Test.YtepjdiocicmjcaaGreatDoorBas
import Derived.Test.YtepjdiocicmjcaaGreatDoorMemTo
import Derived.BigQuiet
/- Library contracts laid apart. -/
namespace Go.Proofs
open Go.Shelf
theorem Tryz.laysSlE041_f48 : Go.Proofs.SlLaysE0.n41 Tryz.prog Tryz.laysSlE041_f48_ren := {
  mixed := by kernel_rfl
  f41 := ⟨Tryz.f48.name, by decide, Tryz.func48.trans (congrArg some (by kernel_rfl))⟩
  t4 := Tryz.underlying4
  a4 := Tryz.isAgg4
  z4 := Tryz.sizeOf4
  v4 := Tryz.zeroValue4
  t22 := Tryz.underlying24
  a22 := Tryz.isAgg24
  z22 := Tryz.sizeOf24
  v22 := Tryz.zeroValue24 }
open Go.RowKit Go.Lib in
/-- slices.Clone: "Clone returns a copy of the slice. The elements are copied using assignment, so this is a shallow clone. The result may have additional unused capacity. The result preserves the nilness of s.": OF A SLICE THAT IS NOT nil IT RETURNS A SLICE THAT IS NOT nil, OF THE SAME CELLS, IN MEMORY OF THE CALL's OWN ('ownsRow': the how-to's 6f); below the heap's size at the call all is as it was. (LAID AT THE INSTANCE 'slices.Clone[[]byte,byte]': no walk: one application.) -/
theorem Tryz.slices_Clone (i0 : TypeInfo) (z : Value) (size bytes : Nat) (hi : Tryz.prog.info? (Tryz.laysSlE041_f48_ren.t 23) = some i0) (hz0 : i0.zero = some z) (hz1 : i0.size = size) (hz2 : i0.bytes = bytes) (hzs : z.cells.size = size) (hsz : 0 < size) (z23 : ∀ w, (Go.sizeOf (Tryz.laysSlE041_f48_ren.t 23)).run Tryz.prog w = .ok size w) (b off n c : Nat) (news : List Value) (w : World) (hl : news.length = n * size) (hn : n ≤ maxLen) (hbig : n * bytes ≤ 140737488355328) (hc : ∀ j u, news[j]? = some u → w.cell? ⟨b, off + j, none⟩ = some u) (h1 : ∀ u ∈ news, u.oneCell' = true) :
    Calls Tryz.prog 48 #[.slice (some ⟨b, off, none⟩) n c] w fun e w' => ∃ v', e = .returned v' ∧ w'.ownsRow w.heap.size (Tryz.laysSlE041_f48_ren.t 23) size v' n news ∧ v' ≠ .slice none 0 0 ∧ Below w.heap.size w w' := AnyE.slices_Clone Tryz.laysSlE041_f48 i0 z size bytes hi hz0 hz1 hz2 hzs hsz z23 b off n c news w hl hn hbig hc h1
open Go.RowKit Go.Lib in
/-- The same at nil: nil comes back; the world is as it was; nothing is asked of the element's type. (LAID AT THE INSTANCE 'slices.Clone[[]byte,byte]': no walk: one application.) -/
theorem Tryz.slices_Clone_nil (n c : Nat) (w : World) :
    Calls Tryz.prog 48 #[.slice none n c] w fun e w' => e = .returned (.slice none 0 0) ∧ w' = w := AnyE.slices_Clone_nil Tryz.laysSlE041_f48 n c w

end Go.Proofs
/- Bytes of which one is turned. -/
set_option linter.unusedVariables false
set_option maxRecDepth 100000
namespace Go.Proofs.YtepjdiocicmjcaaGreatDoor
open Go.RowKit
open Go.OpenShut
theorem xor_ne (x m : Nat) (h : 1 ≤ m) : x ^^^ m ≠ x := by
  intro e
  have h2 : x ^^^ (x ^^^ m) = m := by rw [← Nat.xor_assoc, Nat.xor_self, Nat.zero_xor]
  rw [e, Nat.xor_self] at h2
  omega
theorem bCells_ones (l : List UInt8) : ∀ u ∈ bCells l, u.oneCell' = true := by
  intro u hu
  simp only [bCells, bInts, List.mem_map] at hu
  obtain ⟨a, _, rfl⟩ := hu; rfl
theorem tinfo_u8 : (Tryz.prog.info? 5).map (fun i => (i.zero, i.size, i.bytes)) = some (some (.int .u8 0), 1, 1) := by kernel_rfl
theorem bClone_any (l : List UInt8) (h1 : 1 ≤ l.length) (hl : l.length ≤ 1000000) (g cap : Nat) (w : World) (hc : ∀ j u, (bCells l)[j]? = some u → w.cell? ⟨g, j, none⟩ = some u) :
    Calls Tryz.prog 48 #[.slice (some ⟨g, 0, none⟩) l.length cap] w fun e w' => ∃ g' cap', e = .returned (.slice (some ⟨g', 0, none⟩) l.length cap') ∧ w'.ownsRow w.heap.size 5 1 (.slice (some ⟨g', 0, none⟩) l.length cap') l.length (bCells l) ∧ Below w.heap.size w w' := by
  obtain ⟨i0, hi, hz0, hz1, hz2⟩ := info_parts tinfo_u8
  have hl1 : (bCells l).length = l.length * 1 := by rw [bCells_length, Nat.mul_one]
  have hcon := Tryz.slices_Clone i0 (.int .u8 0) 1 1 hi hz0 hz1 hz2 rfl (by omega) Tryz.sizeOf5 g 0 l.length cap (bCells l) w hl1 (by unfold maxLen; omega) (by omega) (fun j u hu => by rw [Nat.zero_add]; exact hc j u hu) (bCells_ones l)
  refine hcon.mono fun e w' ⟨v, hv, ho, _, hb⟩ => ?_
  obtain ⟨g', cap', rfl⟩ : ∃ g' cap', v = .slice (some ⟨g', 0, none⟩) l.length cap' := by
    rcases ho.2 with ⟨_, h0⟩ | ⟨g', cap', cur, e, _⟩
    · omega
    · exact ⟨g', cap', e⟩
  exact ⟨g', cap', hv, ho, hb⟩
theorem hconv_run (W : World) (s : ByteArray) : (convert 9 24 (.string s)).run Tryz.prog W = .ok (.slice (some ⟨W.heap.size, 0, none⟩) s.size (grownCap W s.size 0 5)) (Lib.bytesWorld W 5 s) :=
  Lib.run_convert_string_bytes W 9 24 5 s Tryz.underlying9 Tryz.underlying24 Tryz.underlying5
theorem hconv_below (w : World) (s : ByteArray) : Below w.heap.size w (Lib.bytesWorld w 5 s) :=
  ⟨rfl, rfl, rfl, by rw [Lib.bytesWorld_size]; omega, fun k hk => Lib.bytesWorld_at_old w 5 s k hk⟩
/-- the bytes l at g, in a row that a conversion made -/
def CV (g : Nat) (l : List UInt8) (w : World) : Prop :=
  ∃ (cur : Array Value) (n : Nat), w.heap[g]? = some (Obj.cells cur 5 (n, n + 1)) ∧ l.length ≤ n ∧ l.length ≤ cur.size ∧ cur.toList.take l.length = bCells l
theorem CV.new (w : World) (s : ByteArray) : CV w.heap.size s.data.toList (Lib.bytesWorld w 5 s) := by
  have hl : s.data.toList.length = s.size := by simp
  have hg := grownCap_ge w s.size 0 5
  have hz : (Lib.bytesCells w 5 s).size = s.size + (grownCap w s.size 0 5 - s.size) := by unfold Lib.bytesCells; simp
  refine ⟨_, _, Lib.bytesWorld_at_new w 5 s, by omega, by omega, ?_⟩
  unfold Lib.bytesCells
  rw [Array.toList_append, List.take_append_of_le_length (by simp)]
  rw [List.take_of_length_le (by simp)]
  simp [bCells, bInts]
theorem CV.lt {g : Nat} {l : List UInt8} {w : World} (h : CV g l w) : g < w.heap.size := by
  obtain ⟨cur, n, hg, -⟩ := h
  rcases Nat.lt_or_ge g w.heap.size with h' | h'
  · exact h'
  · rw [Array.getElem?_eq_none h'] at hg; cases hg
theorem CV.below {g : Nat} {l : List UInt8} {w w' : World} (h : CV g l w) (hb : Below w.heap.size w w') : CV g l w' := by
  have hlt := h.lt
  obtain ⟨cur, n, hg, r⟩ := h
  exact ⟨cur, n, (hb.block g hlt).trans hg, r⟩
theorem CV.cells {g : Nat} {l : List UInt8} {w : World} (h : CV g l w) : ∀ j u, (bCells l)[j]? = some u → w.cell? ⟨g, j, none⟩ = some u := by
  intro j u hu
  obtain ⟨cur, n, hg, -, -, ht⟩ := h
  have hj : j < l.length := by
    have := (List.getElem?_eq_some_iff.1 hu).1
    rwa [bCells_length] at this
  rw [cell_of_row w g j cur 5 _ hg, ← hu, ← ht, List.getElem?_take_of_lt hj]; simp
theorem CV.frozen {g : Nat} {l : List UInt8} {w : World} (h : CV g l w) (j : Nat) (hj : j < l.length) : w.frozen? ⟨g, j, none⟩ = false := by
  obtain ⟨cur, n, hg, hn, -, -⟩ := h
  simp [World.frozen?, hg]; omega
theorem CV.set {g : Nat} {l : List UInt8} {w : World} (h : CV g l w) (k : Nat) (c : UInt8) : CV g (l.set k c) (w.setCell ⟨g, k, none⟩ (.int .u8 (c.toNat : Int))) := by
  obtain ⟨cur, n, hg, hn, hs, ht⟩ := h
  refine ⟨cur.setIfInBounds k (.int .u8 (c.toNat : Int)), n, ?_, by rw [List.length_set]; exact hn, by rw [List.length_set, Array.size_setIfInBounds]; exact hs, ?_⟩
  · simp [World.setCell, Array.getElem?_modify, hg]
  · rw [← bCells_set, ← ht, Array.toList_setIfInBounds, List.take_set, List.length_set]
theorem CV.conv {g : Nat} {l : List UInt8} {w : World} (h : CV g l w) (cap : Nat) : (convert 24 9 (.slice (some ⟨g, 0, none⟩) l.length cap)).run Tryz.prog w = .ok (.string (bs l)) w := by
  have h1 := run_convert_bytes_arg (P := Tryz.prog) w 24 5 Tryz.underlying24 Tryz.underlying5 g 0 l.length cap (bInts l) (by simp) (fun i hi => by
    rw [Nat.zero_add]
    exact h.cells i _ (bCells_get l i (by simpa using hi))) 9 Tryz.underlying9
  rw [strOfNums_bytes] at h1
  exact h1
/-- what Turned gives: the bytes l, that at k another one -/
def TurnP (l : List UInt8) (k : Nat) (w : World) (e : Ending) (w' : World) : Prop :=
  ∃ (g cap : Nat) (c x : UInt8), l[k]? = some x ∧ c ≠ x ∧ e = .returned (.slice (some ⟨g, 0, none⟩) l.length cap) ∧ w'.ownsRow w.heap.size 5 1 (.slice (some ⟨g, 0, none⟩) l.length cap) l.length (bCells (l.set k c)) ∧ Below w.heap.size w w'
set_option maxHeartbeats 1000000 in
theorem Turned_any (l : List UInt8) (h1 : 1 ≤ l.length) (hl : l.length ≤ 1000000) (g cap : Nat) (a b : Int) (ha : (Lit.int .i64 a).wf = true) (hb : (Lit.int .u8 b).wf = true) (w : World) (hc : ∀ j u, (bCells l)[j]? = some u → w.cell? ⟨g, j, none⟩ = some u) :
    Calls Tryz.prog 20 #[.slice (some ⟨g, 0, none⟩) l.length cap, .int .i64 a, .int .u8 b] w (TurnP l (pick a l.length).toNat w) := by
  have hbb : IntKind.u8.min ≤ b ∧ b ≤ IntKind.u8.max := by simpa [Lit.wf] using hb
  rw [show IntKind.u8.min = 0 from rfl, show IntKind.u8.max = 255 from rfl] at hbb
  obtain ⟨y, rfl⟩ := Int.eq_ofNat_of_zero_le hbb.1
  obtain ⟨p1, p2⟩ := pick_bd a (l.length : Int) (by omega)
  have HP := Lib.hid fun W => picked_any a (l.length : Int) W ha (by omega)
  obtain ⟨z, Hz⟩ := hid_name (pick a (l.length : Int))
  rw [Hz.out] at HP p1 p2
  obtain ⟨k, rfl⟩ := Int.eq_ofNat_of_zero_le p1
  have hk : k < l.length := by omega
  have HK : Hid ((pick a (l.length : Int)).toNat = k) := by unfold Hid; rw [Hz.out, Int.toNat_natCast]
  have HC := Lib.hid (bClone_any l h1 hl g cap w hc)
  obtain ⟨x, Hx⟩ : ∃ x, Hid (l[k]? = some x) := ⟨l[k], List.getElem?_eq_getElem hk⟩
  have hx8 := x.toNat_lt
  obtain ⟨m, hm⟩ : ∃ m : Nat, m = max y 1 := ⟨_, rfl⟩
  have hm1 : 1 ≤ m := by omega
  have hm2 : m < 256 := by omega
  have hmx : max (y : Int) 1 = (m : Int) := by omega
  have hxor := u8_xor_nat x.toNat m (by omega) hm2
  have hlt : x.toNat ^^^ m < 2 ^ 8 := Nat.xor_lt_two_pow (by omega) (by omega)
  obtain ⟨c, hcc⟩ : ∃ c : UInt8, c.toNat = x.toNat ^^^ m := ⟨UInt8.ofNat (x.toNat ^^^ m), by rw [UInt8.toNat_ofNat']; omega⟩
  have hne : Hid (c ≠ x) := fun e => xor_ne x.toNat m hm1 (by rw [← hcc, e])
  rw [← hcc] at hxor
  obtain ⟨n, Hn⟩ := hid_name l.length
  rw [Hn.out] at HP HC hk h1 hl
  rw [HK.out]
  unfold TurnP
  rw [Hn.out]
  clear hbb hb ha p1 p2 hc hlt hcc hm
  go_enter Tryz.func20, Tryz.ntmps20
  go_wp2_with fail
  refine HC.out.mono ?_; rintro e w1 ⟨g', cap', rfl, ho, hb1⟩
  have HO := Lib.hid ho
  have HB := Lib.hid hb1
  have hcell : w1.cell? ⟨g', k, none⟩ = some (.int .u8 (x.toNat : Int)) := by
    rw [ho.cellAt k (by omega), bCells_get _ _ (by rw [Hn.out]; exact hk)]
    have e := Hx.out
    simp only [bInts, List.getD_eq_getElem?_getD, List.getElem?_map, e]
    rfl
  have hfr := ho.frozenAt k
  have hns : (bCells l).set k (.int .u8 (c.toNat : Int)) = bCells (l.set k c) := bCells_set l k c
  have HNs := Lib.hid hns
  have HG := Lib.hid (ho.lt g' rfl)
  clear ho hb1 hns
  go_wp2_with fail
  refine (HP.out _).mono ?_; rintro e w2 ⟨rfl, rfl⟩
  go_wp2_with fail
  refine bodyPost_ret (v := .slice (some ⟨g', 0, none⟩) n cap') (by simp [results, Tryz.results20, go_sem, *]) rfl ⟨g', cap', c, x, Hx.out, hne.out, rfl, ?_, HB.out.setCell (p := ⟨g', k, none⟩) HG.out.1 _⟩
  rw [← HNs.out]
  exact (HO.out.stored k _).1
end Go.Proofs.YtepjdiocicmjcaaGreatDoor
/- Bytes of which one is turned, wherever they lie. -/
set_option linter.unusedVariables false
set_option maxRecDepth 100000
namespace Go.Proofs.YtepjdiocicmjcaaGreatDoor
open Go.RowKit
open Go.OpenShut
theorem bClone_off (l : List UInt8) (h1 : 1 ≤ l.length) (hl : l.length ≤ 1000000) (A : Option Addr) (cap : Nat) (w : World) (hA : BytsAt w A l) :
    Calls Tryz.prog 48 #[.slice A l.length cap] w fun e w' => ∃ g' cap', e = .returned (.slice (some ⟨g', 0, none⟩) l.length cap') ∧ w'.ownsRow w.heap.size 5 1 (.slice (some ⟨g', 0, none⟩) l.length cap') l.length (bCells l) ∧ Below w.heap.size w w' := by
  obtain ⟨i0, hi, hz0, hz1, hz2⟩ := info_parts tinfo_u8
  have hl1 : (bCells l).length = l.length * 1 := by rw [bCells_length, Nat.mul_one]
  obtain ⟨b, o, rfl, -⟩ := hA 0 (by omega)
  have hcon := Tryz.slices_Clone i0 (.int .u8 0) 1 1 hi hz0 hz1 hz2 rfl (by omega) Tryz.sizeOf5 b o l.length cap (bCells l) w hl1 (by unfold maxLen; omega) (by omega) (fun j u hu => by
    have hj : j < l.length := by
      have := (List.getElem?_eq_some_iff.1 hu).1
      rwa [bCells_length] at this
    obtain ⟨b', o', e, hc⟩ := hA j hj
    injection e with e
    injection e with e1 e2
    subst e1; subst e2
    rw [bCells_get l j hj] at hu
    injection hu with hu
    rw [hc, ← hu]
    simp [bInts, hj]) (bCells_ones l)
  refine hcon.mono fun e w' ⟨v, hv, ho, _, hb⟩ => ?_
  obtain ⟨g', cap', rfl⟩ : ∃ g' cap', v = .slice (some ⟨g', 0, none⟩) l.length cap' := by
    rcases ho.2 with ⟨_, h0⟩ | ⟨g', cap', cur, e, _⟩
    · omega
    · exact ⟨g', cap', e⟩
  exact ⟨g', cap', hv, ho, hb⟩
set_option maxHeartbeats 1000000 in
theorem Turned_off (l : List UInt8) (n : Nat) (hn : l.length = n) (h1 : 1 ≤ n) (hl : n ≤ 1000000) (A : Option Addr) (cap : Nat) (a b : Int) (ha : (Lit.int .i64 a).wf = true) (hb : (Lit.int .u8 b).wf = true) (w : World) (hA : BytsAt w A l) :
    Calls Tryz.prog 20 #[.slice A n cap, .int .i64 a, .int .u8 b] w fun e w' => ∃ (v : Value) (l' : List UInt8), e = .returned v ∧ l'.length = n ∧ OwnB w' w.heap.size v l' ∧ Below w.heap.size w w' := by
  have hbb : IntKind.u8.min ≤ b ∧ b ≤ IntKind.u8.max := by simpa [Lit.wf] using hb
  rw [show IntKind.u8.min = 0 from rfl, show IntKind.u8.max = 255 from rfl] at hbb
  obtain ⟨y, rfl⟩ := Int.eq_ofNat_of_zero_le hbb.1
  subst hn
  obtain ⟨p1, p2⟩ := pick_bd a (l.length : Int) (by omega)
  have HP := Lib.hid fun W => picked_any a (l.length : Int) W ha (by omega)
  obtain ⟨z, Hz⟩ := hid_name (pick a (l.length : Int))
  rw [Hz.out] at HP p1 p2
  obtain ⟨k, rfl⟩ := Int.eq_ofNat_of_zero_le p1
  have hk : k < l.length := by omega
  have HC := Lib.hid (bClone_off l h1 hl A cap w hA)
  obtain ⟨x, Hx⟩ : ∃ x, Hid (l[k]? = some x) := ⟨l[k], List.getElem?_eq_getElem hk⟩
  have hx8 := x.toNat_lt
  obtain ⟨m, hm⟩ : ∃ m : Nat, m = max y 1 := ⟨_, rfl⟩
  have hm1 : 1 ≤ m := by omega
  have hm2 : m < 256 := by omega
  have hmx : max (y : Int) 1 = (m : Int) := by omega
  have hxor := u8_xor_nat x.toNat m (by omega) hm2
  have hlt : x.toNat ^^^ m < 2 ^ 8 := Nat.xor_lt_two_pow (by omega) (by omega)
  obtain ⟨c, hcc⟩ : ∃ c : UInt8, c.toNat = x.toNat ^^^ m := ⟨UInt8.ofNat (x.toNat ^^^ m), by rw [UInt8.toNat_ofNat']; omega⟩
  rw [← hcc] at hxor
  obtain ⟨n, Hn⟩ := hid_name l.length
  rw [Hn.out] at HP HC hk h1 hl
  rw [Hn.out]
  clear hbb hb ha p1 p2 hA hlt hcc hm
  go_enter Tryz.func20, Tryz.ntmps20
  go_wp2_with fail
  refine HC.out.mono ?_; rintro e w1 ⟨g', cap', rfl, ho, hb1⟩
  have HO := Lib.hid ho
  have HB := Lib.hid hb1
  have hcell : w1.cell? ⟨g', k, none⟩ = some (.int .u8 (x.toNat : Int)) := by
    rw [ho.cellAt k (by omega), bCells_get _ _ (by rw [Hn.out]; exact hk)]
    have e := Hx.out
    simp only [bInts, List.getD_eq_getElem?_getD, List.getElem?_map, e]
    rfl
  have hfr := ho.frozenAt k
  have hns : (bCells l).set k (.int .u8 (c.toNat : Int)) = bCells (l.set k c) := bCells_set l k c
  have HNs := Lib.hid hns
  have HG := Lib.hid (ho.lt g' rfl)
  clear ho hb1 hns
  go_wp2_with fail
  refine (HP.out _).mono ?_; rintro e w2 ⟨rfl, rfl⟩
  go_wp2_with fail
  refine bodyPost_ret (v := .slice (some ⟨g', 0, none⟩) n cap') (by simp [results, Tryz.results20, go_sem, *]) rfl ⟨.slice (some ⟨g', 0, none⟩) n cap', l.set k c, rfl, by rw [List.length_set]; exact Hn.out, ?_, HB.out.setCell (p := ⟨g', k, none⟩) HG.out.1 _⟩
  unfold OwnB
  rw [List.length_set, Hn.out, ← HNs.out]
  exact (HO.out.stored k _).1
end Go.Proofs.YtepjdiocicmjcaaGreatDoor
/- dev -/
set_option linter.unusedVariables false
set_option maxRecDepth 100000
namespace Go.Proofs.YtepjdiocicmjcaaGreatDoor
open Go.RowKit
open Go.OpenShut
/-- what is read is written so -/
theorem read_back (b : List UInt8) : ((readM b).2 ≠ 0 ∧ (readM b).1 = (entZ, 0)) ∨ ((readM b).2 = 0 ∧ entE (readM b).1.1 = 0 ∧ bytesM (readM b).1.1 = b.take (readM b).1.2 ∧ (readM b).1.2 = (bytesM (readM b).1.1).length) := by
  by_cases h : (partsM b).2 = 0
  · by_cases hex : ∃ x, entE x = 0 ∧ bytesM x = b.take (partsM b).1.2.2.2
    · obtain ⟨x, hx, he⟩ := hex
      rw [read_yes h hx he]
      refine .inr ⟨rfl, hx, he, ?_⟩
      have h1 := parts_of hx (b.drop (partsM b).1.2.2.2)
      rw [he, List.take_append_drop, ← he] at h1
      show (partsM b).1.2.2.2 = _
      conv => lhs; rw [h1]
    · rw [read_no h hex]
      exact .inl ⟨by decide, rfl⟩
  · rw [read_err h]
    exact .inl ⟨h, rfl⟩
theorem recsM_count (x : EntV) : (recsM x).length = longM x + if (cutV x.path).2.2 ≠ 0 then 1 else 0 := by
  unfold recsM longM
  simp only [List.length_append, recIf_len, decide_eq_true_eq]
  omega
end Go.Proofs.YtepjdiocicmjcaaGreatDoor
/- MemberTurns: what is read is written so. -/
set_option linter.unusedVariables false
set_option maxRecDepth 100000
namespace Go.Proofs.YtepjdiocicmjcaaGreatDoor
open Go.RowKit
open Go.OpenShut
theorem entZ_sz : entZ.sz := by
  refine ⟨⟨?_, ?_, ?_⟩, ?_, ?_⟩ <;> decide
theorem good_sz {x : EntV} (h : entE x = 0) : x.sz := by
  have g := entE_good h
  exact ⟨⟨by have := g.path; omega, by have := g.target; omega, by have := g.data; omega⟩, by have := g.user; omega, by have := g.group; omega⟩
set_option maxHeartbeats 4000000 in
theorem MemberTurns_walk (a0 : RawV) (a1 a2 : Int) (w0 : a0.wf) (w1 : (Lit.int .i64 a1).wf = true) (w2 : (Lit.int .u8 a2).wf = true) (w : World) (hL : laidMetH Tryz.prog Rows.memberTurnsRow.laid w) :
    Calls Tryz.prog 6 #[.agg (rawC a0).toArray, .int .i64 a1, .int .u8 a2] w fun e w' => e = .returned (.bool true) ∧ Below w.heap.size w w' := by
  have S : Std w := std_of_laid hL (by kernel_rfl) (by simp [Rows.memberTurnsRow]) (by simp [Rows.memberTurnsRow]) (by simp [Rows.memberTurnsRow])
  have H1 := Lib.hid fun W => Entry_any a0 w0 W
  have hg := entD_good a0
  have hsz := entD_szs a0
  have H2 := Lib.hid fun D c W TW hD hs => mWrite_any (entD a0) D c hsz W TW hD hs
  rw [hg] at H2
  have hbo : bytO (entD a0) = bytesM (entD a0) := if_pos hg
  rw [hbo] at H2
  obtain ⟨hb1, hb2⟩ := bytesM_bd hg
  generalize entD a0 = y at H1 H2 hb1 hb2 hg hsz hbo
  generalize bytesM y = BM at H2 hb1 hb2 hbo
  obtain ⟨nb, hnb⟩ : ∃ nb, nb = BM.length := ⟨_, rfl⟩
  rw [← hnb] at hb1 hb2
  have HT := Lib.hid fun A cap W hA => Turned_off BM nb hnb.symm (by omega) (by omega) A cap a1 a2 w1 w2 W hA
  have hHW : Hid (Below w.heap.size w (w.alloc (.cells (rawC a0).toArray 37))) := (Below.refl _ _).alloc (Nat.le_refl _) _
  unfold rawC at H1 hHW ⊢
  clear hg hsz hbo w0 w1 w2 hL
  have HNB := Lib.hid hnb
  clear hnb
  go_enter Tryz.func6, Tryz.ntmps6
  go_wp2_with fail
  refine (H1.out _).mono ?_; rintro e x1 ⟨D, c, rfl, hs1, hd1, hb⟩
  have HB1 := Lib.hid (hHW.out.trans (hb.mono hHW.out.size))
  have H2' := Lib.hid (H2.out D c x1 (S.tab.below HB1.out) hd1 hs1)
  clear hb hs1 hd1 H2 H1 hHW
  go_wp2_with fail
  refine H2'.out.mono ?_; rintro e x2 ⟨A, n, cc, rfl, hs2, hn2, ha2, hb⟩
  rw [← HNB.out] at hn2
  subst hn2
  have HB2 := Lib.hid (HB1.out.trans (hb.mono HB1.out.size))
  have HT' := Lib.hid (HT.out A cc x2 ha2)
  clear hb ha2 hs2 H2' HB1 HT
  go_wp2_with fail
  refine HT'.out.mono ?_; rintro e x3 ⟨v3, BL, rfl, hl3, hO3, hb⟩
  obtain ⟨A3, c3, rfl, hs3, ha3⟩ := hO3.form
  rw [hl3] at hs3 ⊢
  have HB3 := Lib.hid (HB2.out.trans (hb.mono HB2.out.size))
  have HA3 := Lib.hid ha3
  have HS3 := Lib.hid hs3
  have HR := Lib.hid (mRead_any A3 nb c3 BL hl3 (by omega) hs3 x3 (S.below HB3.out) ha3)
  have hrb := read_back BL
  have HL3 := Lib.hid hl3
  clear hb hO3 hs3 ha3 hl3 HT' HB2
  generalize readM BL = RM at HR hrb
  obtain ⟨⟨rx, rn⟩, re⟩ := RM
  simp only at HR hrb
  rcases hrb with ⟨g1, g2⟩ | ⟨rfl, g1, g2, g3⟩
  · -- nothing is read
    obtain ⟨rfl, rfl⟩ := Prod.mk.inj g2
    have HKE := Lib.hid fun D c W hD => keepEnt_any entZ entZ D none c 0 W hD (BytsAt.nil W none)
    rw [decide_eq_true (rfl : entZ = entZ)] at HKE
    have hez : ∀ D c, (entC entZ D c).toArray = #[.string ⟨#[]⟩, .int .i64 0, .string ⟨#[]⟩, .int .i64 0, .int .i64 0, .int .i64 0, .string ⟨#[]⟩, .string ⟨#[]⟩, .int .i64 0, .int .i64 0, .slice D 0 c] := fun _ _ => rfl
    simp only [hez] at HR HKE
    have t1 : ((re : Int) != 0) = true := by rw [bne_iff_ne]; exact g1
    have HE' : Hid (entZ.data = []) := rfl
    clear g1 g2
    go_wp2_with fail
    refine HR.out.mono ?_; rintro e x4 ⟨D4, c4, rfl, hs4, hd4, hb⟩
    have HB4 := Lib.hid (HB3.out.trans (hb.mono HB3.out.size))
    have HB5 := Lib.hid (HB4.out.alloc HB4.out.size (.cells #[.string ⟨#[]⟩, .int .i64 0, .string ⟨#[]⟩, .int .i64 0, .int .i64 0, .int .i64 0, .string ⟨#[]⟩, .string ⟨#[]⟩, .int .i64 0, .int .i64 0, .slice D4 0 c4] 26))
    have HE5 := Lib.hid (Blk.new x4 26 #[.string ⟨#[]⟩, .int .i64 0, .string ⟨#[]⟩, .int .i64 0, .int .i64 0, .int .i64 0, .string ⟨#[]⟩, .string ⟨#[]⟩, .int .i64 0, .int .i64 0, .slice D4 0 c4])
    clear hb hs4 hd4 HR HB4
    go_upto_region 4 with fail
    generalize x4.alloc (.cells #[.string ⟨#[]⟩, .int .i64 0, .string ⟨#[]⟩, .int .i64 0, .int .i64 0, .int .i64 0, .string ⟨#[]⟩, .string ⟨#[]⟩, .int .i64 0, .int .i64 0, .slice D4 0 c4] 26) = x5 at HB5 HE5 ⊢
    generalize x4.heap.size = gE at HE5 ⊢
    go_wp2_with fail
    refine (written_any _ (S.tab.below HB5.out)).mono ?_; rintro e x6 ⟨rfl, hb⟩
    have HB6 := Lib.hid (HB5.out.trans (hb.mono HB5.out.size))
    obtain ⟨⟨q0, q1, q2, q3, q4, q5, q6, q7, q8, q9, qA⟩, -⟩ := blk11 (HE5.out.below hb HE5.out.lt)
    have HK := Lib.hid (HKE.out D4 c4 x6 (BytsAt.nil _ _))
    clear hb HE5 HB5 HKE
    go_wp2_with fail
    refine HK.out.mono ?_; rintro e x7 ⟨rfl, hb⟩
    have HB7 := Lib.hid (HB6.out.trans (hb.mono HB6.out.size))
    clear hb
    go_wp2_with fail
    go_ret
    exact ⟨rfl, HB7.out⟩
  · -- a member is read: it is written so
    have HW := Lib.hid fun D c W TW hD hs => mWrite_any rx D c (good_sz g1) W TW hD hs
    rw [g1] at HW
    have hbo : bytO rx = bytesM rx := if_pos g1
    rw [hbo] at HW
    have G2 := Lib.hid g2
    have G3 := Lib.hid g3
    have hrn : rn ≤ nb := by
      have h := congrArg List.length g2
      rw [← g3, List.length_take, HL3.out] at h; omega
    clear g1 g2 g3 hbo
    obtain ⟨path, kind, target, ⟨m0, m1, m2, m3, m4, m5, m6⟩, data⟩ := rx
    unfold entC at HR HW
    simp only at HR HW
    generalize hdl : data.length = dl at HR HW
    generalize hBX : bytesM ⟨path, kind, target, ⟨m0, m1, m2, m3, m4, m5, m6⟩, data⟩ = BX at HW G2 G3
    clear hdl hBX
    go_wp2_with fail
    refine HR.out.mono ?_; rintro e x4 ⟨D4, c4, rfl, hs4, hd4, hb⟩
    have HB4 := Lib.hid (HB3.out.trans (hb.mono HB3.out.size))
    have HA4 := Lib.hid (HA3.out.below hb)
    have hbx := (Below.refl x4.heap.size x4).alloc (Nat.le_refl _) (.cells #[.string (bs path), .int .i64 kind, .string (bs target), .int .i64 m0, .int .i64 m1, .int .i64 m2, .string (bs m3), .string (bs m4), .int .i64 m5, .int .i64 m6, .slice D4 dl c4] 26)
    have HB5 := Lib.hid (HB4.out.trans (hbx.mono HB4.out.size))
    have HE5 := Lib.hid (Blk.new x4 26 #[.string (bs path), .int .i64 kind, .string (bs target), .int .i64 m0, .int .i64 m1, .int .i64 m2, .string (bs m3), .string (bs m4), .int .i64 m5, .int .i64 m6, .slice D4 dl c4])
    have HD5 := Lib.hid (hd4.below hbx)
    have HA5 := Lib.hid (HA4.out.below hbx)
    have HS4 := Lib.hid hs4
    clear hb hs4 hd4 HR HB4 hbx HA4 HA3
    go_upto_region 4 with fail
    generalize x4.alloc (.cells #[.string (bs path), .int .i64 kind, .string (bs target), .int .i64 m0, .int .i64 m1, .int .i64 m2, .string (bs m3), .string (bs m4), .int .i64 m5, .int .i64 m6, .slice D4 dl c4] 26) = x5 at HB5 HE5 HD5 HA5 ⊢
    generalize x4.heap.size = gE at HE5 ⊢
    go_wp2_with fail
    refine (written_any _ (S.tab.below HB5.out)).mono ?_; rintro e x6 ⟨rfl, hb⟩
    have HB6 := Lib.hid (HB5.out.trans (hb.mono HB5.out.size))
    have HA6 := Lib.hid (HA5.out.below hb)
    obtain ⟨⟨q0, q1, q2, q3, q4, q5, q6, q7, q8, q9, qA⟩, -⟩ := blk11 (HE5.out.below hb HE5.out.lt)
    have HW' := Lib.hid (HW.out D4 c4 x6 (S.tab.below HB6.out) (HD5.out.below hb) HS4.out)
    clear hb HE5 HB5 HW HA5 HD5
    go_wp2_with fail
    refine HW'.out.mono ?_; rintro e x7 ⟨A7, n7, c7, rfl, hs7, hn7, ha7, hb⟩
    have hn7' : rn = n7 := by rw [G3.out]; exact hn7
    have HB7 := Lib.hid (HB6.out.trans (hb.mono HB6.out.size))
    have HA7 := Lib.hid (HA6.out.below hb)
    subst hn7'
    have hst : ∀ W : World, (Instr.slice 24 (.slice A3 nb c3) none (some (.int .i64 (rn : Int))) none).run Tryz.prog W = .ok (.slice A3 rn c3) W := fun W => slice_to W A3 nb c3 rn (by have := HS3.out.1; omega)
    have k1 : ∀ q, (convert 24 9 (.slice A7 rn c7)).run Tryz.prog (x7.drewN q) = .ok (.string (bs BX)) (x7.drewN q) := fun q => by
      have h := BytsAt.conv (w := x7.drewN q) ha7 c7 (fun e => List.eq_nil_of_length_eq_zero (by have h1 := hs7.2.2 e; have h2 := hs7.1; omega))
      rw [hn7] at h; exact h
    have k2 : ∀ q, (convert 24 9 (.slice A3 rn c3)).run Tryz.prog (x7.drewN q) = .ok (.string (bs BX)) (x7.drewN q) := fun q => by
      have h := BytsAt.conv (w := x7.drewN q) (HA7.out.take rn) c3 (fun e => List.eq_nil_of_length_eq_zero (by have h1 := HS3.out.2.2 e; have h2 := HS3.out.1; rw [List.length_take, HL3.out]; omega))
      rw [List.length_take, HL3.out, Nat.min_eq_left hrn, ← G2.out] at h; exact h
    generalize bs BX = ST at k1 k2
    clear hb hs7 ha7 hn7 HW' HA6 HA7 q0 q1 q2 q3 q4 q5 q6 q7 q8 q9 qA G2 G3
    go_upto_region 9 with fail
    go_quiet (fail)
    go_wp2_with fail
    go_ret
    exact ⟨rfl, below_drewN HB7.out _⟩
end Go.Proofs.YtepjdiocicmjcaaGreatDoor
/- MemberPlain: what fits into a header has no records; what does not is said by one each. -/
set_option linter.unusedVariables false
set_option maxRecDepth 100000
namespace Go.Proofs.YtepjdiocicmjcaaGreatDoor
open Go.RowKit
open Go.OpenShut
theorem cut_long {p : List UInt8} (h1 : 1 ≤ p.length) (h0 : hasB 0 p = false) (h : (cutV p).2.2 ≠ 0) : 100 < p.length :=
  Nat.lt_of_not_le fun a => by
    have e := cutV_short (l := p) (fun e => by rw [e] at h1; simp at h1) h0 a
    rw [e] at h; exact h rfl
theorem textP_pos {l : List Rc} (h : l ≠ []) : 1 ≤ (textP l).length := by
  cases l with
  | nil => exact absurd rfl h
  | cons r t => rw [textP_cons, List.length_append]; have := recL_pos r.1 r.2; omega
theorem plain_no {x : EntV} (h : entE x = 0) (e : recsM x = []) : (bytesM x).length = 512 * (1 + padN x.data.length) := by
  rw [bytesM_len h, if_pos e, Nat.add_zero]
theorem plain_yes {x : EntV} (h : entE x = 0) (e : recsM x ≠ []) : 512 * (padN x.data.length + 3) ≤ (bytesM x).length ∧ (bytesM x).length % 512 = 0 ∧ ((recsM x).length = longM x ∨ (recsM x).length = longM x + 1 ∧ 100 < x.path.length) := by
  have h1 := bytesM_len h
  have g := entE_good h
  have h2 := textP_pos e
  have h3 := padN_ge (textP (recsM x)).length
  rw [if_neg e] at h1
  have h4 := recsM_count x
  refine ⟨by omega, by omega, ?_⟩
  by_cases c : (cutV x.path).2.2 ≠ 0
  · rw [if_pos c] at h4; exact .inr ⟨h4, cut_long g.path.1 g.path.2.2 c⟩
  · rw [if_neg c] at h4; exact .inl (by omega)
theorem cnt_take (L : List Bool) (k : Nat) (h : k < L.length) : (L.take (k + 1)).count true = (L.take k).count true + if L.getD k false = true then 1 else 0 := by
  rw [List.take_succ_eq_append_getElem h, List.count_append, List.getD_eq_getElem?_getD, List.getElem?_eq_getElem h]
  show _ = _ + if L[k] = true then 1 else 0
  cases L[k] <;> simp
theorem longM_le (x : EntV) : longM x ≤ 6 := by
  have b := fun (p : Prop) [Decidable p] => (show (if p then 1 else 0 : Nat) ≤ 1 by split <;> omega)
  have b0 := b (2097152 ≤ x.md.gid)
  have b1 := b (31 < x.md.group.length)
  have b2 := b (100 < x.target.length)
  have b3 := b (lateM x = true)
  have b4 := b (2097152 ≤ x.md.uid)
  have b5 := b (31 < x.md.user.length)
  unfold longM
  omega
theorem late_nano {x : EntV} (h : entE x = 0) : lateM x = decide (0 < x.md.nano ∨ x.md.second < 0 ∨ 8589934591 < x.md.second) := by
  have i := inT_of (entE_good h).time
  unfold lateM
  rw [decide_eq_decide]
  omega
theorem long_count (x : EntV) (h : entE x = 0) (b0 b1 b2 b3 b4 b5 : Bool) (h0 : b0 = decide (2097151 < x.md.uid)) (h1 : b1 = decide (2097151 < x.md.gid)) (h2 : b2 = decide (31 < (x.md.user.length : Int))) (h3 : b3 = decide (31 < (x.md.group.length : Int)))
    (h4 : b4 = decide (0 < x.md.nano ∨ x.md.second < 0 ∨ 8589934591 < x.md.second)) (h5 : b5 = decide (100 < (x.target.length : Int))) : [b0, b1, b2, b3, b4, b5].count true = longM x := by
  rw [← late_nano h] at h4
  have e0 : (b0 = true) = (2097152 ≤ x.md.uid) := by rw [h0, decide_eq_true_eq]; exact propext ⟨fun a => by omega, fun a => by omega⟩
  have e1 : (b1 = true) = (2097152 ≤ x.md.gid) := by rw [h1, decide_eq_true_eq]; exact propext ⟨fun a => by omega, fun a => by omega⟩
  have e2 : (b2 = true) = (31 < x.md.user.length) := by rw [h2, decide_eq_true_eq]; exact propext ⟨fun a => by omega, fun a => by omega⟩
  have e3 : (b3 = true) = (31 < x.md.group.length) := by rw [h3, decide_eq_true_eq]; exact propext ⟨fun a => by omega, fun a => by omega⟩
  have e5 : (b5 = true) = (100 < x.target.length) := by rw [h5, decide_eq_true_eq]; exact propext ⟨fun a => by omega, fun a => by omega⟩
  unfold longM
  simp only [← e0, ← e1, ← e2, ← e3, ← e5, ← h4]
  cases b0 <;> cases b1 <;> cases b2 <;> cases b3 <;> cases b4 <;> cases b5 <;> rfl
set_option maxHeartbeats 1000000 in
theorem MemberPlain_walk (a0 : RawV) (w0 : a0.wf) (w : World) (hL : laidMetH Tryz.prog Rows.memberPlainRow.laid w) :
    Calls Tryz.prog 8 #[.agg (rawC a0).toArray] w fun e w' => e = .returned (.bool true) ∧ Below w.heap.size w w' := by
  have TB : Tab w := tab_of_laid hL (by kernel_rfl) (by simp [Rows.memberPlainRow])
  have H1 := Lib.hid fun W => Entry_any a0 w0 W
  have hg := entD_good a0
  have hsz := entD_szs a0
  have H2 := Lib.hid fun D c W TW hD hs => mWrite_any (entD a0) D c hsz W TW hD hs
  have H0 := Lib.hid fun D c W TW => mRecs_any (entD a0) D c hsz W TW
  rw [hg] at H2 H0
  have hbo : bytO (entD a0) = bytesM (entD a0) := if_pos hg
  have hro : recO (entD a0) = recsM (entD a0) := if_pos hg
  rw [hbo] at H2
  rw [hro] at H0
  obtain ⟨hb1, hb2⟩ := bytesM_bd hg
  have hno := fun e => plain_no hg e
  have hyes := fun e => plain_yes hg e
  have hlc := fun b0 b1 b2 b3 b4 b5 => long_count (entD a0) hg b0 b1 b2 b3 b4 b5
  have hgo := entE_good hg
  have hlm := longM_le (entD a0)
  have hp1 := hgo.path
  have hp2 := hgo.target
  have hp3 := hgo.user.1
  have hp4 := hgo.group.1
  have hp5 := hgo.data
  clear hgo
  generalize entD a0 = y at H1 H2 H0 hb1 hb2 hg hsz hbo hro hno hyes hlc hlm hp1 hp2 hp3 hp4 hp5
  generalize hBM : bytesM y = BM at H2 hb1 hb2 hno hyes hbo
  generalize hRM : recsM y = RM at H0 hno hyes hro
  generalize hLM : longM y = LM at hyes hlc hlm
  have hHW : Hid (Below w.heap.size w (w.alloc (.cells (rawC a0).toArray 37))) := (Below.refl _ _).alloc (Nat.le_refl _) _
  clear hg hsz hbo hro w0 hL hBM hRM hLM
  obtain ⟨path, kind, target, ⟨m0, m1, m2, m3, m4, m5, m6⟩, data⟩ := y
  simp only at H1 H2 H0 hno hyes hlc hp1 hp2 hp3 hp4 hp5
  unfold entC at H1 H2 H0
  simp only at H1 H2 H0
  obtain ⟨P, hP⟩ : ∃ P, bs path = P := ⟨_, rfl⟩
  obtain ⟨T, hT⟩ : ∃ T, bs target = T := ⟨_, rfl⟩
  obtain ⟨U, hU⟩ : ∃ U, bs m3 = U := ⟨_, rfl⟩
  obtain ⟨G, hG⟩ : ∃ G, bs m4 = G := ⟨_, rfl⟩
  have zP : P.size = path.length := by rw [← hP]; rfl
  have zT : T.size = target.length := by rw [← hT]; rfl
  have zU : U.size = m3.length := by rw [← hU]; rfl
  have zG : G.size = m4.length := by rw [← hG]; rfl
  rw [hP, hT, hU, hG] at H1 H2 H0
  rw [← zU, ← zG, ← zT] at hlc
  rw [← zP] at hyes
  replace hp1 : P.size ≤ 400 := by rw [zP]; exact hp1.2.1
  replace hp2 : T.size ≤ 100000 := by rw [zT]; omega
  replace hp3 : U.size ≤ 60 := by rw [zU]; exact hp3
  replace hp4 : G.size ≤ 60 := by rw [zG]; exact hp4
  clear hP hT hU hG zP zT zU zG
  obtain ⟨dl, hdl⟩ : ∃ dl, data.length = dl := ⟨_, rfl⟩
  rw [hdl] at hp5 hno hyes
  obtain ⟨nb, hnb⟩ : ∃ nb, nb = BM.length := ⟨_, rfl⟩
  rw [← hnb] at hb1 hb2 hno hyes
  obtain ⟨pd, hpd⟩ : ∃ pd, padN dl = pd := ⟨_, rfl⟩
  rw [hpd] at hno hyes
  have hpd' : (dl + 511) / 512 = pd := hpd
  have hbk : ((dl : Int) + 511) / 512 = (pd : Int) := by omega
  have hbt : ((dl : Int) + 511).tdiv 512 = (pd : Int) := by rw [Int.tdiv_eq_ediv_of_nonneg (by omega)]; exact hbk
  rw [hdl] at H1 H2 H0
  have hrl := fun h : RM.length = 0 => List.eq_nil_of_length_eq_zero h
  obtain ⟨rl, hrm⟩ : ∃ rl, RM.length = rl := ⟨_, rfl⟩
  replace hno : rl = 0 → nb = 512 * (1 + pd) := fun a => hno (hrl (hrm.trans a))
  replace hyes : rl ≠ 0 → 512 * (pd + 3) ≤ nb ∧ nb % 512 = 0 ∧ (rl = LM ∨ rl = LM + 1 ∧ 100 < P.size) := fun a => by
    have h := hyes (fun e => a (by rw [← hrm, e]; rfl))
    rw [hrm] at h; exact h
  have hrl8 : rl ≤ 12 := by
    by_cases a : rl = 0
    · omega
    · obtain ⟨-, -, h⟩ := hyes a; omega
  have hpd9 : pd ≤ 9 := by omega
  obtain ⟨bk, hbk1⟩ : ∃ bk, bk = 1 + pd := ⟨_, rfl⟩
  have HRM := Lib.hid hrm
  have HNB := Lib.hid hnb
  have HNo := Lib.hid hno
  have HYe := Lib.hid hyes
  have HLC := Lib.hid hlc
  have HDL := Lib.hid hdl
  clear hnb hno hyes hlc hdl hrm hrl hpd
  unfold rawC at H1 hHW ⊢
  go_enter Tryz.func8, Tryz.ntmps8
  go_wp2_with fail
  refine (H1.out _).mono ?_; rintro e x1 ⟨D, c, rfl, hs1, hd1, hb⟩
  have hB1 := hHW.out.trans (hb.mono hHW.out.size)
  have hB2 := hB1.alloc hB1.size (.cells #[.string P, .int .i64 kind, .string T, .int .i64 m0, .int .i64 m1, .int .i64 m2, .string U, .string G, .int .i64 m5, .int .i64 m6, .slice D dl c] 26)
  have hE2 := Blk.new x1 26 #[.string P, .int .i64 kind, .string T, .int .i64 m0, .int .i64 m1, .int .i64 m2, .string U, .string G, .int .i64 m5, .int .i64 m6, .slice D dl c]
  have hd2 := hd1.below ((Below.refl x1.heap.size x1).alloc (Nat.le_refl _) (.cells #[.string P, .int .i64 kind, .string T, .int .i64 m0, .int .i64 m1, .int .i64 m2, .string U, .string G, .int .i64 m5, .int .i64 m6, .slice D dl c] 26))
  go_upto_region 2 with fail
  generalize x1.alloc (.cells #[.string P, .int .i64 kind, .string T, .int .i64 m0, .int .i64 m1, .int .i64 m2, .string U, .string G, .int .i64 m5, .int .i64 m6, .slice D dl c] 26) = x2 at hB2 hE2 hd2 ⊢
  generalize x1.heap.size = gE at hE2 ⊢
  have HB2 := Lib.hid hB2
  have HE2 := Lib.hid hE2
  have HD2 := Lib.hid hd2
  have H0' := Lib.hid (H0.out D c x2 (TB.below hB2))
  obtain ⟨⟨q0, q1, q2, q3, q4, q5, q6, q7, q8, q9, qA⟩, -⟩ := blk11 hE2
  have HS1 := Lib.hid hs1
  clear hb hs1 hd1 H1 H0 hHW hB1 hB2 hE2 hd2
  go_wp2_with fail
  refine H0'.out.mono ?_; rintro e x3 ⟨v3, rfl, hO3, hb⟩
  obtain ⟨A3, c3, rfl⟩ := hO3.form
  rw [HRM.out]
  have HB3 := Lib.hid (HB2.out.trans (hb.mono HB2.out.size))
  have HE3 := Lib.hid (HE2.out.below hb HE2.out.lt)
  have HD3 := Lib.hid (HD2.out.below hb)
  have H2' := Lib.hid (H2.out D c x3 (TB.below HB3.out) HD3.out HS1.out)
  clear hb hO3 H0' H2 HB2 HE2 HD2 q0 q1 q2 q3 q4 q5 q6 q7 q8 q9 qA
  obtain ⟨⟨q0, q1, q2, q3, q4, q5, q6, q7, q8, q9, qA⟩, -⟩ := blk11 HE3.out
  go_wp2_with fail
  refine H2'.out.mono ?_; rintro e x4 ⟨A, n, cc, rfl, hs2, hn2, ha2, hb⟩
  rw [← HNB.out] at hn2
  subst hn2
  have HB4 := Lib.hid (HB3.out.trans (hb.mono HB3.out.size))
  have HE4 := Lib.hid (HE3.out.below hb HE3.out.lt)
  clear hb hs2 ha2 H2' HB3 HE3 HD3 q0 q1 q2 q3 q4 q5 q6 q7 q8 q9 qA
  obtain ⟨⟨q0, q1, q2, q3, q4, q5, q6, q7, q8, q9, qA⟩, -⟩ := blk11 HE4.out
  go_upto_region 4 with fail
  go_cut [8] (fun s wx => s = .int .i64 (bk : Int) ∧ wx = x4)
  case first =>
    go_wp2_with fail
    go_meet
    exact ⟨by congr 1; omega, rfl⟩
  case rest =>
    obtain ⟨rfl, rfl⟩ := hcut
    clear q0 q1 q2 q3 q4 q5 q6 q7 q8 q9 qA
    go_wp2_with fail
    refine (written_any _ (TB.below HB4.out)).mono ?_; rintro e x5 ⟨rfl, hb⟩
    have HB5 := Lib.hid (HB4.out.trans (hb.mono HB4.out.size))
    have HE5 := Lib.hid (HE4.out.below hb HE4.out.lt)
    clear hb HB4 HE4
    by_cases h0 : rl = 0
    · have h1 : (nb : Int) = (bk : Int) * 512 := by have := HNo.out h0; omega
      have t1 : ((nb : Int) == (bk : Int) * 512) = true := by rw [h1]; simp
      have t0 : ((rl : Int) == 0) = true := by rw [h0]; rfl
      go_wp2_with fail
      go_ret
      exact ⟨rfl, HB5.out⟩
    · obtain ⟨y1, y2, y3⟩ := HYe.out h0
      have t0 : ((rl : Int) == 0) = false := by rw [beq_eq_false_iff_ne]; omega
      obtain ⟨⟨q0, q1, q2, q3, q4, q5, q6, q7, q8, q9, qA⟩, -⟩ := blk11 HE5.out
      have HY3 := Lib.hid y3
      clear y3
      go_upto_region 10 with fail
      go_cut [87, 88, 89] (fun s s8 s9 wx => ∃ (g : Nat) (L : List Bool), s = .slice (some ⟨g, 0, none⟩) 6 6 ∧ s8 = .int .i64 6 ∧ s9 = .int .i64 0 ∧ Hid (L.length = 6) ∧ Hid (L.count true = LM) ∧ Hid (Blk wx g 4 (L.map Value.bool).toArray) ∧ Hid (wx.cell? ⟨gE, 0, none⟩ = some (.string P)) ∧ Hid (Below w.heap.size w wx))
      case first =>
        have fin : ∀ b0 b1 b2 b3 b4 b5 : Bool, b0 = decide (2097151 < m1) → b1 = decide (2097151 < m2) → b2 = decide (31 < (U.size : Int)) → b3 = decide (31 < (G.size : Int)) → b4 = decide (0 < m6 ∨ m5 < 0 ∨ 8589934591 < m5) → b5 = decide (100 < (T.size : Int)) →
            ∃ (L : List Bool), Hid (L.length = 6) ∧ Hid (L.count true = LM) ∧ Hid (Blk (x5.alloc (.cells #[.bool b0, .bool b1, .bool b2, .bool b3, .bool b4, .bool b5] 4)) x5.heap.size 4 (L.map Value.bool).toArray) ∧ Hid ((x5.alloc (.cells #[.bool b0, .bool b1, .bool b2, .bool b3, .bool b4, .bool b5] 4)).cell? ⟨gE, 0, none⟩ = some (.string P)) ∧ Hid (Below w.heap.size w (x5.alloc (.cells #[.bool b0, .bool b1, .bool b2, .bool b3, .bool b4, .bool b5] 4))) := fun b0 b1 b2 b3 b4 b5 e0 e1 e2 e3 e4 e5 =>
          ⟨[b0, b1, b2, b3, b4, b5], rfl, HLC.out b0 b1 b2 b3 b4 b5 e0 e1 e2 e3 e4 e5, Blk.new x5 _ _, (HE5.out.alloc _).cell 0, HB5.out.alloc HB5.out.size _⟩
        have FIN := Lib.hid fin
        clear fin
        by_cases c1 : 0 < m6
        · have e4 : Hid (true = decide (0 < m6 ∨ m5 < 0 ∨ 8589934591 < m5)) := (decide_eq_true (.inl c1)).symm
          go_wp2_with fail
          go_meet
          (obtain ⟨L, hLL⟩ := FIN.out _ _ _ _ _ _ rfl rfl rfl rfl e4.out rfl; exact ⟨_, L, rfl, rfl, rfl, hLL⟩)
        · by_cases c2 : m5 < 0
          · have e4 : Hid (true = decide (0 < m6 ∨ m5 < 0 ∨ 8589934591 < m5)) := (decide_eq_true (.inr (.inl c2))).symm
            go_wp2_with fail
            go_meet
            (obtain ⟨L, hLL⟩ := FIN.out _ _ _ _ _ _ rfl rfl rfl rfl e4.out rfl; exact ⟨_, L, rfl, rfl, rfl, hLL⟩)
          · have e4 : Hid (decide (8589934591 < m5) = decide (0 < m6 ∨ m5 < 0 ∨ 8589934591 < m5)) := by
              unfold Hid
              rw [decide_eq_decide]; constructor
              · exact fun a => .inr (.inr a)
              · rintro (a | a | a)
                · exact absurd a c1
                · exact absurd a c2
                · exact a
            go_wp2_with fail
            go_meet
            (obtain ⟨L, hLL⟩ := FIN.out _ _ _ _ _ _ rfl rfl rfl rfl e4.out rfl; exact ⟨_, L, rfl, rfl, rfl, hLL⟩)
      case rest =>
        obtain ⟨g, L, rfl, rfl, rfl, HL6, HLc, HG, HPc, HB⟩ := hcut
        rename World => x6
        clear HLC q0 q1 q2 q3 q4 q5 q6 q7 q8 q9 qA
        have hcells : Hid (∀ k, k < 6 → x6.cell? ⟨g, k, none⟩ = some (.bool (L.getD k false))) := fun k hk => by
          rw [HG.out.cell k]
          simp [List.getD_eq_getElem?_getD, List.getElem?_eq_getElem (show k < L.length by rw [HL6.out]; exact hk)]
        go_wp2_with fail
        go_loop [89, 9] (fun i o => ∃ k M : Nat, i = .int .i64 (k : Int) ∧ o = .int .i64 (M : Int) ∧ k ≤ 6 ∧ M ≤ k ∧ Hid (M = (L.take k).count true)) (fun i _ => 6 - (intOf i).toNat)
        case atStart => exact ⟨0, 0, rfl, rfl, Nat.zero_le _, Nat.zero_le _, rfl⟩
        case round =>
          obtain ⟨k, M, rfl, rfl, hk, hM, HM⟩ := hrel
          by_cases hlt : k < 6
          · have hc := hcells.out k hlt
            have HS := Lib.hid (cnt_take L k (by rw [HL6.out]; exact hlt))
            obtain ⟨b, hb⟩ : ∃ b, L.getD k false = b := ⟨_, rfl⟩
            rw [hb] at hc HS
            clear hb
            cases b
            · have HM1 : Hid (M = (L.take (k + 1)).count true) := by
                have h := HS.out; rw [← HM.out] at h; show M = _; rw [h]; rfl
              go_wp2_with fail
              go_round
              case rel => exact ⟨k + 1, M, by go_num, rfl, by omega, by omega, HM1⟩
              case measure => simp [intOf]; omega
            · have HM1 : Hid (M + 1 = (L.take (k + 1)).count true) := by
                have h := HS.out; rw [← HM.out] at h; show M + 1 = _; rw [h]; rfl
              go_wp2_with fail
              go_round
              case rel => exact ⟨k + 1, M + 1, by go_num, by go_num, by omega, by omega, HM1⟩
              case measure => simp [intOf]; omega
          · obtain rfl : k = 6 := by omega
            have hML : M = LM := by
              rw [HM.out, ← HLc.out, List.take_of_length_le (by rw [HL6.out]; exact Nat.le_refl _)]
            subst hML
            have hcP := HPc.out
            have t3 : ((bk : Int) + 2) * 512 ≤ (nb : Int) := by omega
            have t4 : ((nb : Int) % 512) = 0 := by omega
            have t3b : (1 + (pd : Int) + 2) * 512 ≤ (nb : Int) := by omega
            have HY4 := HY3.out
            have nb9 : nb ≤ 20000 := by omega
            clear hcells HG HL6 HLc HM hk hM hlt HPc HY3 y1 y2 h0 t0 hbk hbt hpd' hbk1 t3 hp2 hp3 hp4 hp5 HNB HNo HYe HDL HRM HB5 HE5 hb1 hb2
            rcases HY4 with y | ⟨y, hy⟩
            · subst y
              go_wp2_with fail
              go_ret
              exact ⟨rfl, HB.out⟩
            · have t5 : ((rl : Int) == (M : Int)) = false := by rw [beq_eq_false_iff_ne]; omega
              have t6 : ((rl : Int) == (M : Int) + 1) = true := by rw [beq_iff_eq]; omega
              have t7 : (100 : Int) < (P.size : Int) := by omega
              go_wp2_with fail
              go_ret
              exact ⟨rfl, HB.out⟩
end Go.Proofs.YtepjdiocicmjcaaGreatDoor
