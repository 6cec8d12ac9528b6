/- Nodes as cells; the closures of the drawing of trees; sorting, finding, cloning. -/
import Derived.Test.YtoikpnjnljdpaaaGreatDoorTrm
import Derived.Test.YtoikpnjnljdpaaaGreatDoorShelf
import Derived.Lib.ConvBytes
set_option linter.unusedVariables false
set_option maxRecDepth 100000
namespace Go.Proofs.YtoikpnjnljdpaaaGreatDoor
open Go.RowKit
open Go.OpenShut
def adr (o : Option Nat) : Option Addr := o.map fun g => ⟨g, 0, none⟩
/-- a node and how its data lie: the slice's block, length, capacity -/
def NodeD : Type := NodeV × (Option Nat × Nat × Nat)
instance : Inhabited NodeD := ⟨(default, none, 0, 0)⟩
def keyL (x : NodeD) : List UInt8 := x.1.path.take 400
def encN (x : NodeD) : List Value :=
  [.string ⟨(keyL x).toArray⟩, .int .i64 x.1.kind, .int .i64 x.1.same, .string ⟨x.1.target.toArray⟩, .int .i64 x.1.md.mode, .int .i64 x.1.md.uid, .int .i64 x.1.md.gid, .string ⟨x.1.md.user.toArray⟩, .string ⟨x.1.md.group.toArray⟩, .int .i64 x.1.md.second, .int .i64 x.1.md.nano, .slice (adr x.2.1) x.2.2.1 x.2.2.2]
theorem encN_length (x : NodeD) : (encN x).length = 12 := rfl
theorem encN_one (x : NodeD) : ∀ v ∈ encN x, v.oneCell' = true := by
  intro v hv
  simp only [encN, List.mem_cons, List.not_mem_nil, or_false] at hv
  rcases hv with rfl | rfl | rfl | rfl | rfl | rfl | rfl | rfl | rfl | rfl | rfl | rfl <;> rfl
def encC (xs : List NodeD) : List Value := xs.flatMap encN
theorem encC_length (xs : List NodeD) : (encC xs).length = xs.length * 12 := by
  induction xs with
  | nil => rfl
  | cons x xs ih => simp only [encC, List.flatMap_cons, List.length_append, encN_length, List.length_cons] at *; omega
theorem encC_app (xs ys : List NodeD) : encC (xs ++ ys) = encC xs ++ encC ys := by simp [encC]
theorem encC_get (xs : List NodeD) (j i : Nat) (hj : j < xs.length) (hi : i < 12) : (encC xs)[j * 12 + i]? = (encN xs[j])[i]? := by
  induction xs generalizing j with
  | nil => simp at hj
  | cons x xs ih =>
    show (encN x ++ encC xs)[j * 12 + i]? = _
    cases j with
    | zero => rw [List.getElem?_append_left (by rw [encN_length]; omega)]; simp
    | succ j =>
      rw [List.getElem?_append_right (by rw [encN_length]; omega), encN_length, show (j + 1) * 12 + i - 12 = j * 12 + i by omega, ih j (by simpa using hj)]; rfl
theorem encC_set (xs : List NodeD) (j i : Nat) (u : Value) (y : NodeD) (hj : j < xs.length) (hi : i < 12) (hy : (encN xs[j]).set i u = encN y) : (encC xs).set (j * 12 + i) u = encC (xs.set j y) := by
  induction xs generalizing j with
  | nil => simp at hj
  | cons x xs ih =>
    show (encN x ++ encC xs).set (j * 12 + i) u = _
    cases j with
    | zero =>
      rw [Nat.zero_mul, Nat.zero_add, List.set_append_left _ _ (by rw [encN_length]; omega)]
      simp only [List.getElem_cons_zero] at hy
      rw [hy]; rfl
    | succ j =>
      rw [List.set_append_right _ _ (by rw [encN_length]; omega), encN_length, show (j + 1) * 12 + i - 12 = j * 12 + i by omega]
      simp only [List.getElem_cons_succ] at hy
      rw [ih j (by simpa using hj) hy]; rfl
theorem keyL_le (x : NodeD) : (keyL x).length ≤ 400 := by unfold keyL; rw [List.length_take]; omega
theorem cmp_any (x y : NodeD) (W : World) : Calls Tryz.prog 31 #[.agg (encN x).toArray, .agg (encN y).toArray] W fun e w' => e = .returned (.int .i64 (pcmp (keyL x) (keyL y))) ∧ ∃ q os', w' = Go.Sort.grow (W.drewN q) os' := by
  obtain ⟨a, Ha⟩ := hid_name (⟨(keyL x).toArray⟩ : ByteArray)
  obtain ⟨b, Hb⟩ := hid_name (⟨(keyL y).toArray⟩ : ByteArray)
  have ha : a.size ≤ 400 := by rw [← Ha.out, size_mk]; exact keyL_le x
  have hb : b.size ≤ 400 := by rw [← Hb.out, size_mk]; exact keyL_le y
  have HK : Hid (pcmp (keyL x) (keyL y) = pcmp a.data.toList b.data.toList) := by unfold Hid; rw [← Ha.out, ← Hb.out]
  rw [HK.out]
  unfold encN
  rw [Ha.out, Hb.out]
  go_enter Tryz.func31, Tryz.ntmps31
  go_wp2_with fail
  refine (less_any a b _ (by omega) (by omega)).mono ?_; rintro e w' ⟨rfl, rfl⟩
  go_wp2_with fail
  go_ret
  exact ⟨rfl, 0, _, by rw [Go.Sort.alloc_eq_grow, Go.Sort.alloc_eq_grow, Go.Sort.alloc_eq_grow, Go.Sort.alloc_eq_grow, Go.Sort.grow_grow, Go.Sort.grow_grow, Go.Sort.grow_grow]; rfl⟩
theorem cmp_lays (blk off size : Nat) (w : World) : Go.Proofs.CmpLays Tryz.prog 31 #[] encN 12 (fun x y => pcmp (keyL x) (keyL y)) blk off size w :=
  fun _ _ _ _ x y => cmp_any x y _
theorem ltOf_eq (x y : NodeD) : Go.Proofs.ltOf (fun x y => pcmp (keyL x) (keyL y)) x y = decide (pcmp (keyL x) (keyL y) < 0) := rfl
theorem pcmp_lt_trans (a b c : List UInt8) (h1 : pcmp a b < 0) (h2 : pcmp b c < 0) : pcmp a c < 0 := by
  have h := pcmp_trans a b c (by omega) (by omega)
  rcases Int.lt_or_eq_of_le h with h | h
  · exact h
  · have := (pcmp_zero a c).1 h
    subst this
    have := pcmp_neg a b; omega
theorem swoN : Go.Sort.SWO (Go.Proofs.ltOf (fun x y : NodeD => pcmp (keyL x) (keyL y))) where
  irrefl x := by rw [ltOf_eq, pcmp_self]; rfl
  trans x y z h1 h2 := by
    rw [ltOf_eq, decide_eq_true_eq] at *
    exact pcmp_lt_trans _ _ _ h1 h2
  ntrans x y z h1 h2 := by
    rw [ltOf_eq, decide_eq_false_iff_not] at *
    have a1 := pcmp_neg (keyL x) (keyL y)
    have a2 := pcmp_neg (keyL y) (keyL z)
    have a3 := pcmp_neg (keyL x) (keyL z)
    have := pcmp_trans (keyL z) (keyL y) (keyL x) (by omega) (by omega)
    omega
theorem same_pred (s : ByteArray) (bs : Nat) (w : World) (hB : bs < w.heap.size) (hcell : w.cell? ⟨bs, 0, none⟩ = some (.string s)) :
    PredBelow Tryz.prog 23 #[.pointer (some ⟨bs, 0, none⟩)] (fun x => .agg (encN x).toArray) (fun x => decide (keyL x = s.data.toList)) w := fun W x hb => by
  have hc : W.cell? ⟨bs, 0, none⟩ = some (.string s) := (hb.cell (p := ⟨bs, 0, none⟩) hB).trans hcell
  have hBW : bs < W.heap.size := Nat.lt_of_lt_of_le hB hb.size
  have hne : bs ≠ W.heap.size := by omega
  have HB := Lib.hid hb
  clear hb hcell
  obtain ⟨a, Ha⟩ := hid_name (⟨(keyL x).toArray⟩ : ByteArray)
  have HK : Hid (decide (keyL x = s.data.toList) = (a.toList == s.toList)) := by unfold Hid; rw [str_eqL, ← Ha.out]
  show Calls Tryz.prog 23 #[.agg (encN x).toArray, .pointer (some ⟨bs, 0, none⟩)] W fun e w' => e = .returned (.bool (decide (keyL x = s.data.toList))) ∧ Below w.heap.size w w'
  rw [HK.out]
  unfold encN
  rw [Ha.out]
  go_enter Tryz.func23, Tryz.ntmps23
  go_wp2_with fail
  go_ret
  exact ⟨rfl, HB.out.alloc HB.out.size _⟩
/-- the slice value v is a list of nodes, of the call's own from block B on -/
def Nodes (w : World) (B : Nat) (v : Value) (xs : List NodeD) : Prop := w.ownsRow B 51 12 v xs.length (encC xs)
theorem Nodes.any {w : World} {B : Nat} {v : Value} {xs : List NodeD} (h : Nodes w B v xs) : (v = .slice none 0 0 ∧ xs = []) ∨ ∃ g cap, v = .slice (some ⟨g, 0, none⟩) xs.length cap ∧ B ≤ g ∧ g < w.heap.size ∧ xs.length ≤ cap ∧ (∀ j i, (hj : j < xs.length) → i < 12 → w.cell? ⟨g, j * 12 + i, none⟩ = (encN xs[j])[i]? ∧ w.frozen? ⟨g, j * 12 + i, none⟩ = false) := by
  have h' := h
  unfold Nodes World.ownsRow at h'
  rcases h'.2 with ⟨rfl, h0⟩ | ⟨g, cap, cur, rfl, hB, hg, hcap, _⟩
  · exact .inl ⟨rfl, List.eq_nil_of_length_eq_zero h0⟩
  · refine .inr ⟨g, cap, rfl, hB, ?_, hcap, fun j i hj hi => ⟨?_, World.ownsRow.frozenAt h _⟩⟩
    · rcases Nat.lt_or_ge g w.heap.size with h3 | h3
      · exact h3
      · rw [Array.getElem?_eq_none h3] at hg; cases hg
    · have := World.ownsRow.cellAt h (j * 12 + i) (by omega)
      rw [this, encC_get xs j i hj hi]
theorem Index_nil (f : Value) (w : World) : Calls Tryz.prog 22 #[.slice none 0 0, f] w fun e w' => e = .returned (.int .i64 (-1)) ∧ w = w' := by
  go_enter Tryz.func22, Tryz.ntmps22
  go_wp2
  go_loop [8] (fun i => i = .int .i64 0) (fun _ => 0)
  case atStart => rfl
  case round =>
    subst hrel
    go_wp2
    go_ret
    exact ⟨rfl, rfl⟩
theorem idxBy_from (p : NodeD → Bool) (xs : List NodeD) (d : NodeD) (i : Nat) : (0 ≤ Lib.idxByFrom (fun _ y => p y) d xs i) ↔ xs.any p = true := by
  induction xs generalizing i with
  | nil => simp [Lib.idxByFrom]
  | cons x xs ih =>
    rw [Lib.idxByFrom, List.any_cons]
    by_cases h : p x = true
    · simp [h]
    · rw [if_neg h, ih (i + 1)]; simp [h]
theorem idxBy_some (p : NodeD → Bool) (xs : List NodeD) (d : NodeD) : (0 ≤ Lib.idxBy (fun _ y => p y) xs d) ↔ xs.any p = true := idxBy_from p xs d 0
def hasK (xs : List NodeD) (s : List UInt8) : Bool := xs.any fun x => decide (keyL x = s)
theorem at_any (s : ByteArray) (bt : Nat) (v : Value) (xs : List NodeD) (w : World) (hc : w.cell? ⟨bt, 0, none⟩ = some v) (B : Nat) (hn : Nodes w B v xs) (hl : xs.length ≤ 1000000) :
    Calls Tryz.prog 21 #[.string s, .pointer (some ⟨bt, 0, none⟩)] w fun e w' => ∃ r : Int, e = .returned (.int .i64 r) ∧ (decide (0 ≤ r) = hasK xs s.data.toList) ∧ Below w.heap.size w w' := by
  rcases hn.any with ⟨rfl, rfl⟩ | ⟨g, cap, rfl, hB, hg, hcap, hcell⟩
  · have hbt : bt < w.heap.size := World.block_lt_of_cell? w _ hc
    have hne : w.heap.size ≠ bt := by omega
    have hc1 : (w.alloc (.cells #[.string s] 9)).cell? ⟨bt, 0, none⟩ = some (.slice none 0 0) := by rw [World.cell?_alloc_old _ _ _ (by show bt ≠ _; omega)]; exact hc
    go_enter Tryz.func21, Tryz.ntmps21
    go_wp2_with fail
    refine (Index_nil _ _).mono ?_; rintro e w' ⟨rfl, rfl⟩
    go_wp2_with fail
    go_ret
    exact ⟨-1, rfl, rfl, (Below.refl _ _).alloc (Nat.le_refl _) _⟩
  · have eg : ∀ args w, (callFunc 23 args).run Tryz.prog w = .ok (.enter 23 args) w := enters_of Tryz.func23 (by kernel_rfl) rfl
    have hbt : bt < w.heap.size := World.block_lt_of_cell? w _ hc
    have hcon := Lib.hid (Tryz.slices_IndexFunc 12 Tryz.isAgg51 Tryz.sizeOf51 encN encN_length (fun x => decide (keyL x = s.data.toList)) 23 #[.pointer (some ⟨w.heap.size, 0, none⟩)] eg g 0 xs.length cap xs (w.alloc (.cells #[.string s] 9))
      (same_pred s w.heap.size _ (by simp) (by simp)) (Nat.le_refl _) (by omega) (by simp; omega) (fun j hj i u hi => by
        have hi12 : i < 12 := by
          rcases Nat.lt_or_ge i 12 with h | h
          · exact h
          · rw [List.getElem?_eq_none (by rw [encN_length]; exact h)] at hi; cases hi
        rw [World.cell?_alloc_old _ _ _ (by show g ≠ _; omega), Nat.zero_add, (hcell j i hj hi12).1]
        rw [getElem!_pos xs j hj] at hi
        exact hi))
    clear hcell eg
    have hr := idxBy_some (fun x => decide (keyL x = s.data.toList)) (xs.take xs.length) default
    rw [List.take_length] at hr
    have hcon2 := hcon.out
    rw [List.take_length] at hcon2
    obtain ⟨r, Hr⟩ := hid_name (Lib.idxBy (fun _ y => decide (keyL y = s.data.toList)) xs default)
    rw [Hr.out] at hr hcon2
    have HR : Hid (decide (0 ≤ r) = hasK xs s.data.toList) := by
      unfold Hid; rw [Bool.eq_iff_iff, decide_eq_true_eq]; exact hr
    clear hr
    obtain ⟨n, Hn⟩ := hid_name xs.length
    have hne : w.heap.size ≠ bt := by omega
    rw [Hn.out] at hc hcon2
    have HC := Lib.hid hcon2
    clear hcon hcon2
    have hc1 : (w.alloc (.cells #[.string s] 9)).cell? ⟨bt, 0, none⟩ = some (.slice (some ⟨g, 0, none⟩) n cap) := by rw [World.cell?_alloc_old _ _ _ (by show bt ≠ _; omega)]; exact hc
    go_enter Tryz.func21, Tryz.ntmps21
    go_wp2_with fail
    refine HC.out.mono ?_; rintro e w1 ⟨rfl, hb1⟩
    have HB1 := Lib.hid (((Below.refl w.heap.size w).alloc (Nat.le_refl _) (.cells #[.string s] 9)).trans (hb1.mono (by simp)))
    clear hb1
    go_wp2_with fail
    go_ret
    exact ⟨r, rfl, HR.out, HB1.out⟩
/-- how the bytes l of a slice lie -/
def Dat (w : World) (B : Nat) (d : Option Nat × Nat × Nat) (l : List UInt8) : Prop :=
  d.2.1 = l.length ∧ l.length ≤ d.2.2 ∧ d.2.2 ≤ maxLen ∧ (d.1 = none → d.2.2 = 0) ∧ (1 ≤ l.length → ∃ g cur fr, d.1 = some g ∧ B ≤ g ∧ w.heap[g]? = some (.cells cur 5 fr) ∧ cur.toList.take l.length = bCells l)
theorem Dat.nil (w : World) (B : Nat) : Dat w B (none, 0, 0) [] := ⟨rfl, Nat.le_refl _, by decide, fun _ => rfl, fun h => by simp at h⟩
theorem Dat.keep {w w' : World} {B : Nat} {d : Option Nat × Nat × Nat} {l : List UInt8} (h : Dat w B d l) (hk : ∀ (g : Nat) (cur : Array Value) (fr : Nat × Nat), w.heap[g]? = some (Obj.cells cur 5 fr) → w'.heap[g]? = some (Obj.cells cur 5 fr)) : Dat w' B d l :=
  ⟨h.1, h.2.1, h.2.2.1, h.2.2.2.1, fun h1 => by
    obtain ⟨g, cur, fr, e, hB, hg, hc⟩ := h.2.2.2.2 h1
    exact ⟨g, cur, fr, e, hB, hk g cur fr hg, hc⟩⟩
theorem heap_lt {w : World} {g : Nat} {o : Obj} (h : w.heap[g]? = some o) : g < w.heap.size := by
  rcases Nat.lt_or_ge g w.heap.size with h3 | h3
  · exact h3
  · rw [Array.getElem?_eq_none h3] at h; cases h
theorem Dat.below {w w' : World} {B : Nat} {d : Option Nat × Nat × Nat} {l : List UInt8} (h : Dat w B d l) (hb : Below w.heap.size w w') : Dat w' B d l :=
  h.keep fun g cur fr hg => (hb.block g (heap_lt hg)).trans hg
theorem Dat.own {w : World} {B : Nat} {v : Value} {l : List UInt8} (h : w.ownsRow B 5 1 v l.length (bCells l)) : ∃ d : Option Nat × Nat × Nat, v = .slice (adr d.1) d.2.1 d.2.2 ∧ Dat w B d l := by
  unfold World.ownsRow at h
  rcases h.2 with ⟨rfl, h0⟩ | ⟨g, cap, cur, rfl, hB, hg, hcap, hm, hs, ht⟩
  · refine ⟨(none, 0, 0), rfl, h0.symm, by show l.length ≤ 0; omega, by show 0 ≤ maxLen; decide, fun _ => rfl, fun h1 => by omega⟩
  · exact ⟨(some g, l.length, cap), rfl, rfl, hcap, hm, (fun e => by cases e), fun _ => ⟨g, cur, _, rfl, hB, hg, by rw [Nat.mul_one] at ht; exact ht⟩⟩
theorem treCBCells_one (l : List UInt8) : ∀ u ∈ bCells l, u.oneCell' = true := by
  intro u hu
  simp only [bCells, bInts, List.mem_map] at hu
  obtain ⟨a, _, rfl⟩ := hu; rfl
theorem Dat.conv (w : World) (B : Nat) (s : ByteArray) (hB : B ≤ w.heap.size) (hs : s.size ≤ 1000000) : Dat (Lib.bytesWorld w 5 s) B (some w.heap.size, s.size, grownCap w s.size 0 5) s.data.toList := by
  refine ⟨by simp, ?_, grownCap_le_maxLen _ _ _ _ (by unfold maxLen; omega), (fun e => by cases e), fun _ => ⟨w.heap.size, _, _, rfl, hB, Lib.bytesWorld_at_new w 5 s, ?_⟩⟩
  · have := grownCap_ge w s.size 0 5; simpa using this
  · unfold Lib.bytesCells
    rw [Array.toList_append, List.take_append_of_le_length (by simp)]
    rw [List.take_of_length_le (by simp)]
    simp [bCells, bInts]
theorem conv_run (W : World) (s : ByteArray) : (convert 9 43 (.string s)).run Tryz.prog W = .ok (.slice (some ⟨W.heap.size, 0, none⟩) s.size (grownCap W s.size 0 5)) (Lib.bytesWorld W 5 s) :=
  Lib.run_convert_string_bytes W 9 43 5 s Tryz.underlying9 Tryz.underlying43 Tryz.underlying5
theorem Blk.conv {w : World} {g : Nat} {t : TypeId} {cs : Array Value} (h : Blk w g t cs) (e : TypeId) (s : ByteArray) : Blk (Lib.bytesWorld w e s) g t cs := (Lib.bytesWorld_at_old w e s g h.lt).trans h
theorem Below.conv (w : World) (e : TypeId) (s : ByteArray) : Below w.heap.size w (Lib.bytesWorld w e s) :=
  ⟨rfl, rfl, rfl, by rw [Lib.bytesWorld_size]; omega, fun k hk => Lib.bytesWorld_at_old w e s k hk⟩
theorem cinfo_u8 : (Tryz.prog.info? 5).map (fun i => (i.zero, i.size, i.bytes)) = some (some (.int .u8 0), 1, 1) := by kernel_rfl
theorem Clone_dat (d : Option Nat × Nat × Nat) (l : List UInt8) (w : World) (B : Nat) (h : Dat w B d l) (hl : l.length ≤ 1000000) :
    Calls Tryz.prog 29 #[.slice (adr d.1) d.2.1 d.2.2] w fun e w' => ∃ d' : Option Nat × Nat × Nat, e = .returned (.slice (adr d'.1) d'.2.1 d'.2.2) ∧ Dat w' w.heap.size d' l ∧ Below w.heap.size w w' := by
  obtain ⟨A, n, c⟩ := d
  obtain ⟨h1, h2, h3, h4, h5⟩ := h
  simp only at h1 h2 h3 h4 h5 ⊢
  subst h1
  cases A with
  | none =>
    have h0 : l = [] := by
      cases l with
      | nil => rfl
      | cons x l => obtain ⟨g, cur, fr, e, _⟩ := h5 (by simp); cases e
    subst h0
    exact (Tryz.slices_Clone_nil 0 c w).mono fun e w' ⟨a, b⟩ => ⟨(none, 0, 0), a, Dat.nil _ _, b ▸ Below.refl _ _⟩
  | some ad =>
    obtain ⟨i0, hi, hz0, hz1, hz2⟩ := info_parts cinfo_u8
    have hl1 : (bCells l).length = l.length * 1 := by rw [bCells_length, Nat.mul_one]
    have hcell : ∀ j u, (bCells l)[j]? = some u → w.cell? ⟨ad, 0 + j, none⟩ = some u := fun j u hu => by
      have hj : j < l.length := by
        have := (List.getElem?_eq_some_iff.1 hu).1
        rwa [bCells_length] at this
      obtain ⟨g, cur, fr, e, _, hg, hc⟩ := h5 (by omega)
      obtain rfl : ad = g := by injection e
      rw [Nat.zero_add, cell_of_row w ad j cur 5 fr hg, ← hu, ← hc, List.getElem?_take_of_lt hj]; simp
    have hcon := Tryz.slices_Clone i0 (.int .u8 0) 1 1 hi hz0 hz1 hz2 rfl (by omega) Tryz.sizeOf5 ad 0 l.length c (bCells l) w hl1 (by unfold maxLen; omega) (by omega) hcell (treCBCells_one l)
    refine hcon.mono fun e w' ⟨v, hv, ho, _, hb⟩ => ?_
    obtain ⟨d', e', hd⟩ := Dat.own ho
    exact ⟨d', by rw [hv, e'], hd, hb⟩
end Go.Proofs.YtoikpnjnljdpaaaGreatDoor
