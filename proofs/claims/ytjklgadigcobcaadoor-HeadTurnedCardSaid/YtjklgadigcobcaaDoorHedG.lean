/- Bytes of which one is turned. -/
import Derived.Test.YtjklgadigcobcaaDoorFldM
import Derived.Test.YtjklgadigcobcaaDoorOctA
import Derived.Test.YtjklgadigcobcaaDoorShelf
import Derived.Laws.MakeOwn
import Derived.Laws.OwnMore
import Derived.Laws.BitsAllLaws
import Derived.Lib.MinMax
import Derived.Below
import Derived.Lib.ConvBytes
set_option linter.unusedVariables false
set_option maxRecDepth 100000
namespace Go.Proofs.YtjklgadigcobcaaDoor
open Go.RowKit
open Go.OpenShut
theorem xor_ne (x m : Nat) (h : 1 ≤ m) : x ^^^ m ≠ x := by
  intro e
  have h2 : x ^^^ (x ^^^ m) = m := by rw [← Nat.xor_assoc, Nat.xor_self, Nat.zero_xor]
  rw [e, Nat.xor_self] at h2
  omega
theorem bCells_ones (l : List UInt8) : ∀ u ∈ bCells l, u.oneCell' = true := by
  intro u hu
  simp only [bCells, bInts, List.mem_map] at hu
  obtain ⟨a, _, rfl⟩ := hu; rfl
theorem tinfo_u8 : (Tryd.prog.info? 5).map (fun i => (i.zero, i.size, i.bytes)) = some (some (.int .u8 0), 1, 1) := by kernel_rfl
theorem bClone_any (l : List UInt8) (h1 : 1 ≤ l.length) (hl : l.length ≤ 1000000) (g cap : Nat) (w : World) (hc : ∀ j u, (bCells l)[j]? = some u → w.cell? ⟨g, j, none⟩ = some u) :
    Calls Tryd.prog 18 #[.slice (some ⟨g, 0, none⟩) l.length cap] w fun e w' => ∃ g' cap', e = .returned (.slice (some ⟨g', 0, none⟩) l.length cap') ∧ w'.ownsRow w.heap.size 5 1 (.slice (some ⟨g', 0, none⟩) l.length cap') l.length (bCells l) ∧ Below w.heap.size w w' := by
  obtain ⟨i0, hi, hz0, hz1, hz2⟩ := info_parts tinfo_u8
  have hl1 : (bCells l).length = l.length * 1 := by rw [bCells_length, Nat.mul_one]
  have hcon := Tryd.slices_Clone i0 (.int .u8 0) 1 1 hi hz0 hz1 hz2 rfl (by omega) Tryd.sizeOf5 g 0 l.length cap (bCells l) w hl1 (by unfold maxLen; omega) (by omega) (fun j u hu => by rw [Nat.zero_add]; exact hc j u hu) (bCells_ones l)
  refine hcon.mono fun e w' ⟨v, hv, ho, _, hb⟩ => ?_
  obtain ⟨g', cap', rfl⟩ : ∃ g' cap', v = .slice (some ⟨g', 0, none⟩) l.length cap' := by
    rcases ho.2 with ⟨_, h0⟩ | ⟨g', cap', cur, e, _⟩
    · omega
    · exact ⟨g', cap', e⟩
  exact ⟨g', cap', hv, ho, hb⟩
theorem hconv_run (W : World) (s : ByteArray) : (convert 9 33 (.string s)).run Tryd.prog W = .ok (.slice (some ⟨W.heap.size, 0, none⟩) s.size (grownCap W s.size 0 5)) (Lib.bytesWorld W 5 s) :=
  Lib.run_convert_string_bytes W 9 33 5 s Tryd.underlying9 Tryd.underlying33 Tryd.underlying5
theorem hconv_below (w : World) (s : ByteArray) : Below w.heap.size w (Lib.bytesWorld w 5 s) :=
  ⟨rfl, rfl, rfl, by rw [Lib.bytesWorld_size]; omega, fun k hk => Lib.bytesWorld_at_old w 5 s k hk⟩
/-- the bytes l at g, in a row that a conversion made -/
def CV (g : Nat) (l : List UInt8) (w : World) : Prop :=
  ∃ (cur : Array Value) (n : Nat), w.heap[g]? = some (Obj.cells cur 5 (n, n + 1)) ∧ l.length ≤ n ∧ l.length ≤ cur.size ∧ cur.toList.take l.length = bCells l
theorem CV.new (w : World) (s : ByteArray) : CV w.heap.size s.data.toList (Lib.bytesWorld w 5 s) := by
  have hl : s.data.toList.length = s.size := by simp
  have hg := grownCap_ge w s.size 0 5
  have hz : (Lib.bytesCells w 5 s).size = s.size + (grownCap w s.size 0 5 - s.size) := by unfold Lib.bytesCells; simp
  refine ⟨_, _, Lib.bytesWorld_at_new w 5 s, by omega, by omega, ?_⟩
  unfold Lib.bytesCells
  rw [Array.toList_append, List.take_append_of_le_length (by simp)]
  rw [List.take_of_length_le (by simp)]
  simp [bCells, bInts]
theorem CV.lt {g : Nat} {l : List UInt8} {w : World} (h : CV g l w) : g < w.heap.size := by
  obtain ⟨cur, n, hg, -⟩ := h
  rcases Nat.lt_or_ge g w.heap.size with h' | h'
  · exact h'
  · rw [Array.getElem?_eq_none h'] at hg; cases hg
theorem CV.below {g : Nat} {l : List UInt8} {w w' : World} (h : CV g l w) (hb : Below w.heap.size w w') : CV g l w' := by
  have hlt := h.lt
  obtain ⟨cur, n, hg, r⟩ := h
  exact ⟨cur, n, (hb.block g hlt).trans hg, r⟩
theorem CV.cells {g : Nat} {l : List UInt8} {w : World} (h : CV g l w) : ∀ j u, (bCells l)[j]? = some u → w.cell? ⟨g, j, none⟩ = some u := by
  intro j u hu
  obtain ⟨cur, n, hg, -, -, ht⟩ := h
  have hj : j < l.length := by
    have := (List.getElem?_eq_some_iff.1 hu).1
    rwa [bCells_length] at this
  rw [cell_of_row w g j cur 5 _ hg, ← hu, ← ht, List.getElem?_take_of_lt hj]; simp
theorem CV.frozen {g : Nat} {l : List UInt8} {w : World} (h : CV g l w) (j : Nat) (hj : j < l.length) : w.frozen? ⟨g, j, none⟩ = false := by
  obtain ⟨cur, n, hg, hn, -, -⟩ := h
  simp [World.frozen?, hg]; omega
theorem CV.set {g : Nat} {l : List UInt8} {w : World} (h : CV g l w) (k : Nat) (c : UInt8) : CV g (l.set k c) (w.setCell ⟨g, k, none⟩ (.int .u8 (c.toNat : Int))) := by
  obtain ⟨cur, n, hg, hn, hs, ht⟩ := h
  refine ⟨cur.setIfInBounds k (.int .u8 (c.toNat : Int)), n, ?_, by rw [List.length_set]; exact hn, by rw [List.length_set, Array.size_setIfInBounds]; exact hs, ?_⟩
  · simp [World.setCell, Array.getElem?_modify, hg]
  · rw [← bCells_set, ← ht, Array.toList_setIfInBounds, List.take_set, List.length_set]
theorem CV.conv {g : Nat} {l : List UInt8} {w : World} (h : CV g l w) (cap : Nat) : (convert 33 9 (.slice (some ⟨g, 0, none⟩) l.length cap)).run Tryd.prog w = .ok (.string (bs l)) w := by
  have h1 := run_convert_bytes_arg (P := Tryd.prog) w 33 5 Tryd.underlying33 Tryd.underlying5 g 0 l.length cap (bInts l) (by simp) (fun i hi => by
    rw [Nat.zero_add]
    exact h.cells i _ (bCells_get l i (by simpa using hi))) 9 Tryd.underlying9
  rw [strOfNums_bytes] at h1
  exact h1
/-- what Turned gives: the bytes l, that at k another one -/
def TurnP (l : List UInt8) (k : Nat) (w : World) (e : Ending) (w' : World) : Prop :=
  ∃ (g cap : Nat) (c x : UInt8), l[k]? = some x ∧ c ≠ x ∧ e = .returned (.slice (some ⟨g, 0, none⟩) l.length cap) ∧ w'.ownsRow w.heap.size 5 1 (.slice (some ⟨g, 0, none⟩) l.length cap) l.length (bCells (l.set k c)) ∧ Below w.heap.size w w'
set_option maxHeartbeats 1000000 in
theorem Turned_any (l : List UInt8) (h1 : 1 ≤ l.length) (hl : l.length ≤ 1000000) (g cap : Nat) (a b : Int) (ha : (Lit.int .i64 a).wf = true) (hb : (Lit.int .u8 b).wf = true) (w : World) (hc : ∀ j u, (bCells l)[j]? = some u → w.cell? ⟨g, j, none⟩ = some u) :
    Calls Tryd.prog 9 #[.slice (some ⟨g, 0, none⟩) l.length cap, .int .i64 a, .int .u8 b] w (TurnP l (pick a l.length).toNat w) := by
  have hbb : IntKind.u8.min ≤ b ∧ b ≤ IntKind.u8.max := by simpa [Lit.wf] using hb
  rw [show IntKind.u8.min = 0 from rfl, show IntKind.u8.max = 255 from rfl] at hbb
  obtain ⟨y, rfl⟩ := Int.eq_ofNat_of_zero_le hbb.1
  obtain ⟨p1, p2⟩ := pick_bd a (l.length : Int) (by omega)
  have HP := Lib.hid fun W => picked_any a (l.length : Int) W ha (by omega)
  obtain ⟨z, Hz⟩ := hid_name (pick a (l.length : Int))
  rw [Hz.out] at HP p1 p2
  obtain ⟨k, rfl⟩ := Int.eq_ofNat_of_zero_le p1
  have hk : k < l.length := by omega
  have HK : Hid ((pick a (l.length : Int)).toNat = k) := by unfold Hid; rw [Hz.out, Int.toNat_natCast]
  have HC := Lib.hid (bClone_any l h1 hl g cap w hc)
  obtain ⟨x, Hx⟩ : ∃ x, Hid (l[k]? = some x) := ⟨l[k], List.getElem?_eq_getElem hk⟩
  have hx8 := x.toNat_lt
  obtain ⟨m, hm⟩ : ∃ m : Nat, m = max y 1 := ⟨_, rfl⟩
  have hm1 : 1 ≤ m := by omega
  have hm2 : m < 256 := by omega
  have hmx : max (y : Int) 1 = (m : Int) := by omega
  have hxor := u8_xor_nat x.toNat m (by omega) hm2
  have hlt : x.toNat ^^^ m < 2 ^ 8 := Nat.xor_lt_two_pow (by omega) (by omega)
  obtain ⟨c, hcc⟩ : ∃ c : UInt8, c.toNat = x.toNat ^^^ m := ⟨UInt8.ofNat (x.toNat ^^^ m), by rw [UInt8.toNat_ofNat']; omega⟩
  have hne : Hid (c ≠ x) := fun e => xor_ne x.toNat m hm1 (by rw [← hcc, e])
  rw [← hcc] at hxor
  obtain ⟨n, Hn⟩ := hid_name l.length
  rw [Hn.out] at HP HC hk h1 hl
  rw [HK.out]
  unfold TurnP
  rw [Hn.out]
  clear hbb hb ha p1 p2 hc hlt hcc hm
  go_enter Tryd.func9, Tryd.ntmps9
  go_wp2_with fail
  refine HC.out.mono ?_; rintro e w1 ⟨g', cap', rfl, ho, hb1⟩
  have HO := Lib.hid ho
  have HB := Lib.hid hb1
  have hcell : w1.cell? ⟨g', k, none⟩ = some (.int .u8 (x.toNat : Int)) := by
    rw [ho.cellAt k (by omega), bCells_get _ _ (by rw [Hn.out]; exact hk)]
    have e := Hx.out
    simp only [bInts, List.getD_eq_getElem?_getD, List.getElem?_map, e]
    rfl
  have hfr := ho.frozenAt k
  have hns : (bCells l).set k (.int .u8 (c.toNat : Int)) = bCells (l.set k c) := bCells_set l k c
  have HNs := Lib.hid hns
  have HG := Lib.hid (ho.lt g' rfl)
  clear ho hb1 hns
  go_wp2_with fail
  refine (HP.out _).mono ?_; rintro e w2 ⟨rfl, rfl⟩
  go_wp2_with fail
  refine bodyPost_ret (v := .slice (some ⟨g', 0, none⟩) n cap') (by simp [results, Tryd.results9, go_sem, *]) rfl ⟨g', cap', c, x, Hx.out, hne.out, rfl, ?_, HB.out.setCell (p := ⟨g', k, none⟩) HG.out.1 _⟩
  rw [← HNs.out]
  exact (HO.out.stored k _).1
end Go.Proofs.YtjklgadigcobcaaDoor
