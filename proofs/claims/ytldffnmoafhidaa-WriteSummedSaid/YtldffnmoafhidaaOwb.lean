/- Bytes of the call's own; clones of bytes; comparing them. -/
import Derived.Test.YtldffnmoafhidaaFldM
import Derived.Test.YtldffnmoafhidaaSlc
import Derived.Test.YtldffnmoafhidaaByt
import Derived.Laws.AppendOwnNone
import Derived.Laws.OwnMore
import Derived.Laws.MakeOwn
import Derived.Laws.CopyOwn
import Derived.Laws.IdiomStrings
import Derived.Laws.BytesArg
set_option linter.unusedVariables false
set_option maxRecDepth 100000
namespace Go.Proofs.Ytldffnmoafhidaa
open Go.RowKit
open Go.OpenShut
theorem oinfo_u8 : (Try.prog.info? 5).map (fun i => (i.zero, i.size, i.bytes)) = some (some (.int .u8 0), 1, 1) := by kernel_rfl
theorem bCells_one (l : List UInt8) : ∀ u ∈ bCells l, u.oneCell' = true := by
  intro u hu
  simp only [bCells, bInts, List.mem_map] at hu
  obtain ⟨a, _, rfl⟩ := hu; rfl
/-- the bytes l in a row of the call's own -/
def OwnB (w : World) (B : Nat) (v : Value) (l : List UInt8) : Prop := w.ownsRow B 5 1 v l.length (bCells l)
theorem OwnB.nil (w : World) (B : Nat) : OwnB w B (.slice none 0 0) [] := World.ownsRow_nil _ _ _ _
/-- the form of a slice: its length fits its room, nil has no room -/
def SlOk (A : Option Addr) (n c : Nat) : Prop := n ≤ c ∧ c ≤ maxLen ∧ (A = none → c = 0)
theorem OwnB.form {w : World} {B : Nat} {v : Value} {l : List UInt8} (h : OwnB w B v l) : ∃ A c, v = .slice A l.length c ∧ SlOk A l.length c ∧ BytsAt w A l := by
  have h' := h
  unfold OwnB World.ownsRow at h
  rcases h.2 with ⟨rfl, h0⟩ | ⟨g, cap, cur, rfl, hB, hg, hcap, hm, hs, ht⟩
  · have e : l = [] := List.eq_nil_of_length_eq_zero h0
    subst e
    exact ⟨none, 0, rfl, ⟨by simp, by decide, fun _ => rfl⟩, BytsAt.nil _ _⟩
  · refine ⟨some ⟨g, 0, none⟩, cap, rfl, ⟨hcap, hm, fun e => by cases e⟩, fun j hj => ⟨g, 0, rfl, ?_⟩⟩
    unfold OwnB at h'
    rw [Nat.zero_add, h'.cellAt j (by omega), bCells_get l j hj]; simp [bInts, hj]
theorem OwnB.below {w w' : World} {B : Nat} {v : Value} {l : List UInt8} (h : OwnB w B v l) (hb : Below w.heap.size w w') : OwnB w' B v l :=
  own_heap h fun g hg => hb.block g (World.ownsRow.lt h g hg).2
theorem OwnB.mono {w : World} {B B' : Nat} {v : Value} {l : List UInt8} (h : OwnB w B v l) (hB : B' ≤ B) : OwnB w B' v l := own_mono h hB
theorem OwnB.alloc {w : World} {B : Nat} {v : Value} {l : List UInt8} (h : OwnB w B v l) (o : Obj) : OwnB (w.alloc o) B v l := World.ownsRow.alloc h o
theorem belowA {w W : World} (h : Below w.heap.size w W) (o : Obj) : Below w.heap.size w (W.alloc o) := h.alloc h.size o
theorem hszA (W : World) (o : Obj) : (W.alloc o).heap.size = W.heap.size + 1 := by
  show (W.heap.push o).size = _
  exact Array.size_push ..
theorem hszD (W : World) : W.drew.heap.size = W.heap.size := rfl
theorem OwnB.drew {w : World} {B : Nat} {v : Value} {l : List UInt8} (h : OwnB w B v l) : OwnB w.drew B v l := h
theorem OwnB.drewN {w : World} {B n : Nat} {v : Value} {l : List UInt8} (h : OwnB w B v l) : OwnB (w.drewN n) B v l := h
theorem BytsAt.drew {w : World} {A : Option Addr} {l : List UInt8} (h : BytsAt w A l) : BytsAt w.drew A l := h
/-- where a slice lies that begins at k -/
def cutA (A : Option Addr) (c k : Nat) : Option Addr := if c = k then A else A.map (·.add k)
theorem cutA_zero (A : Option Addr) (c : Nat) : cutA A c 0 = A := by
  unfold cutA
  split
  · rfl
  · cases A with
    | none => rfl
    | some a => simp [Addr.add]
theorem BytsAt.cut {w : World} {A : Option Addr} {l : List UInt8} (h : BytsAt w A l) {c : Nat} (hc : l.length ≤ c) (k : Nat) (hk : k ≤ l.length) : BytsAt w (cutA A c k) (l.drop k) := by
  intro j hj
  rw [List.length_drop] at hj
  have hne : c ≠ k := by omega
  obtain ⟨b, o, rfl, hc0⟩ := h (k + j) (by omega)
  refine ⟨b, o + k, ?_, ?_⟩
  · unfold cutA; rw [if_neg hne]; simp only [Option.map_some]; congr 1; exact Addr.add_lit _ _ _
  · rw [Nat.add_assoc, hc0, List.getElem_drop]
theorem SlOk.cut {A : Option Addr} {n c : Nat} (h : SlOk A n c) (k : Nat) (hk : k ≤ n) (m : Nat) (hm : m + k ≤ c) : SlOk (cutA A c k) m (c - k) := by
  obtain ⟨h1, h2, h3⟩ := h
  refine ⟨by omega, by omega, fun e => ?_⟩
  have : A = none := by
    unfold cutA at e
    split at e
    · exact e
    · cases A with
      | none => rfl
      | some a => cases e
  have := h3 this; omega
/-- all cells at once, at whatever address -/
theorem BytsAt.news {w : World} {a : Addr} {l : List UInt8} (h : BytsAt w (some a) l) : ∀ j u, (bCells l)[j]? = some u → w.cell? (a.add j) = some u := by
  intro j u hu
  have hj : j < l.length := by
    have := (List.getElem?_eq_some_iff.1 hu).1
    rwa [bCells_length] at this
  obtain ⟨b, o, e, hc⟩ := h j hj
  injection e with e
  subst e
  rw [Addr.add_lit, hc, ← hu, bCells_get l j hj]
  simp [bInts, hj]
/-- bytes, made a string -/
theorem BytsAt.conv {w : World} {A : Option Addr} {l : List UInt8} (h : BytsAt w A l) (c : Nat) (hn : A = none → l = []) : (convert 22 9 (.slice A l.length c)).run Try.prog w = .ok (.string (bs l)) w := by
  cases A with
  | none =>
    have := hn rfl
    subst this
    exact run_convert_bytes_nil w 22 5 Try.underlying22 Try.underlying5 _ _ 9 Try.underlying9
  | some a =>
    exact run_convert_bytes_back w 22 9 5 a c l Try.underlying22 Try.underlying5 Try.underlying9 fun j hj => by
      obtain ⟨b, o, e, hc⟩ := h j hj
      injection e with e
      subst e
      rw [Addr.add_lit]; exact hc
theorem BytsAt.none_nil {w : World} {l : List UInt8} (h : BytsAt w none l) : l = [] := by
  cases l with
  | nil => rfl
  | cons r l => obtain ⟨b, o, e, -⟩ := h 0 (by simp); cases e
/-- copying to the front of a row of the call's own -/
theorem copied {W : World} {B g q cap : Nat} {L : List UInt8} (ho : OwnB W B (.slice (some ⟨g, 0, none⟩) q cap) L) (hq : L.length = q) (A : Option Addr) (n c : Nat) (l : List UInt8) (hn : l.length = n) (hnq : n ≤ q) (hA : BytsAt W A l) (ty : TypeId) :
    ∃ W2, (Builtin.copy_ #[22, 22] ty #[.slice (some ⟨g, 0, none⟩) q cap, .slice A n c]).run Try.prog W = .ok (goInt n) W2 ∧ OwnB W2 B (.slice (some ⟨g, 0, none⟩) q cap) (l ++ L.drop n) ∧ ∀ w0 B', B' ≤ B → Below B' w0 W → Below B' w0 W2 := by
  obtain ⟨i0, hi, hz0, hz1, hz2⟩ := info_parts oinfo_u8
  have hinfo : (Try.prog.info? 5).map (·.size) = some 1 := by rw [hi]; simp [hz1]
  cases A with
  | none =>
    obtain rfl := hA.none_nil
    obtain rfl : n = 0 := by rw [← hn]; rfl
    exact ⟨W, run_copy_none W 22 22 ty 5 _ _ q cap 0 c Try.underlying22 hinfo (by simp), by simpa using ho, fun _ _ _ h => h⟩
  | some ad =>
    unfold OwnB World.ownsRow at ho
    rcases ho.2 with ⟨e, h0⟩ | ⟨g', cap', cur, e, hB, hg, hcap, hm, hs, ht⟩
    · cases e
    · injection e with e1 e2 e3
      injection e1 with e1
      injection e1 with e1
      subst e1 e2 e3
      have hcp := run_copy_row (P := Try.prog) W 22 22 ty 5 g 0 L.length cap ad n c cur 5 (bCells l) Try.underlying22 hinfo hg (by rw [bCells_length, hn]; exact (Nat.min_eq_left hnq).symm) hA.news (by rw [bCells_length]; omega) (bCells_one _)
      rw [bCells_length, hn] at hcp
      refine ⟨_, hcp, ?_, fun w0 B' hB' h => below_setRow h (by omega) _⟩
      have hll : (l ++ L.drop n).length = L.length := by rw [List.length_append, List.length_drop]; omega
      unfold OwnB World.ownsRow
      rw [hll]
      refine ⟨by rw [bCells_length, hll, Nat.mul_one], .inr ⟨g, cap, _, rfl, hB, setRow_heap _ _ cur _ 5 (0, 0) hg, hcap, hm, ?_, ?_⟩⟩
      · simp; omega
      · rw [List.toList_toArray, List.take_zero, List.nil_append, Nat.zero_add, List.take_append]
        rw [Nat.mul_one] at ht ⊢
        rw [bCells_length, List.take_of_length_le (by rw [bCells_length]; omega), bCells_append]
        congr 1
        rw [show L.length - l.length = L.length - n by omega, ← List.drop_take]
        rw [ht]; simp [bCells, bInts]
/-- append of a slice of bytes to a row of the call's own -/
theorem append_byts {w : World} {ops : Array Oper} {rest : List Oper} {o : Oper} {a : Act} {Q : Exit → Act → World → Prop} (hgd : o.guard = none) (s x : Operand)
    (ho : o.op = .call { callee := .builtin .append, args := #[s, x], argTypes := #[22, 22] }) (B : Nat) (v : Value) (l0 : List UInt8) (hs : a.eval s = v) (hown : OwnB w B v l0)
    (A : Option Addr) (m c : Nat) (l : List UInt8) (hx : a.eval x = .slice A m c) (hl : l.length = m) (hA : BytsAt w A l) (hc : A = none → c = 0) (hbig : l0.length + m ≤ 140737488355328) (hB : B ≤ w.heap.size)
    (h : ∀ v' w', OwnB w' B v' (l0 ++ l) → (∀ w0, Below B w0 w → Below B w0 w') → wpList Try.prog ops Q rest (a.put o.dst v') w') : wpList Try.prog ops Q (o :: rest) a w := by
  obtain ⟨i0, hi, hz0, hz1, hz2⟩ := info_parts oinfo_u8
  cases A with
  | none =>
    obtain rfl := hA.none_nil
    obtain rfl : m = 0 := by rw [← hl]; rfl
    obtain rfl := hc rfl
    refine wpList_append_own_none hgd s x 22 ho B 5 i0 1 Try.underlying22 hi v _ _ hs hown hx ?_
    exact h v w (by rw [List.append_nil]; exact hown) fun _ h => h
  | some ad =>
    refine wpList_append_own _ hgd s x 22 ho B 5 i0 _ 1 1 Try.underlying22 hi hz0 hz1 hz2 rfl (by decide) v _ _ hs hown ad m c (bCells l) hx (by rw [bCells_length, hl, Nat.mul_one]) hA.news (bCells_one _) (by unfold maxLen; omega) (by omega) hB ?_
    intro v6 w6 hown6 hgrow _
    refine h v6 w6 (by unfold OwnB; rw [List.length_append, bCells_append, hl]; exact hown6) fun w0 hb => hb.grown hgrow hB (fun g e => (World.ownsRow.lt hown g e).1)
theorem sClone_any (A : Option Addr) (n c : Nat) (l : List UInt8) (hn : l.length = n) (hn2 : n ≤ 140737488351232) (w : World) (hA : BytsAt w A l) :
    Calls Try.prog 8 #[.slice A n c] w fun e w' => ∃ v, e = .returned v ∧ OwnB w' w.heap.size v l ∧ Below w.heap.size w w' := by
  obtain ⟨i0, hi, hz0, hz1, hz2⟩ := info_parts oinfo_u8
  have q22 : ∀ (w : World) (a : Option Addr) (n c n' c' : Nat), (binOp .eql 22 (.slice a n c) (.slice none n' c')).run Try.prog w = .ok (.bool a.isNone) w := fun w a n c n' c' => Lib.run_eql_slice_nil w _ _ a n c n' c' Try.underlying22
  cases A with
  | none =>
    obtain rfl := hA.none_nil
    obtain rfl : n = 0 := by rw [← hn]; rfl
    go_enter Try.func8, Try.ntmps8
    go_wp2_with fail
    go_ret
    exact ⟨_, rfl, OwnB.nil _ _, Below.refl _ _⟩
  | some ad =>
    have HN := Lib.hid hn
    have HA := Lib.hid hA
    have HO : Hid ((w.alloc (.cells #[] 5)).ownsRow w.heap.size 5 1 (.slice (some ⟨w.heap.size, 0, none⟩) 0 0) 0 []) := World.ownsRow_lit (e := 5) (size := 1) w #[] 0 (Nat.le_refl _) (by decide) rfl
    have HB : Hid (Below w.heap.size w (w.alloc (.cells #[] 5))) := (Below.refl _ _).alloc (Nat.le_refl _) _
    have HA1 := Lib.hid (HA.out.below HB.out)
    clear hn hA
    go_enter Try.func8, Try.ntmps8
    go_wp2_with (at_builtin; refine Stay.go ?_)
    refine Stay.on ?_
    refine wpList_append_own _ rfl (.tmp 5) (.tmp 6) 22 rfl w.heap.size 5 i0 _ 1 1 Try.underlying22 hi hz0 hz1 hz2 rfl (by decide) (.slice (some ⟨w.heap.size, 0, none⟩) 0 0) 0 [] rfl HO.out ad n c (bCells l) rfl (by rw [bCells_length, HN.out, Nat.mul_one]) HA1.out.news (bCells_one _) (by unfold maxLen; omega) (by omega) (by simp) ?_
    intro v6 w6 hown hgrow _
    have HO6 : Hid (OwnB w6 w.heap.size v6 l) := by unfold Hid OwnB; rw [HN.out]; simpa using hown
    have HB6 : Hid (Below w.heap.size w w6) := HB.out.grown hgrow (by simp) (fun g0 e => by simp [Value.ownBlock] at e; omega)
    clear hown hgrow
    go_wp2_with fail
    go_ret
    exact ⟨v6, rfl, HO6.out, HB6.out⟩
end Go.Proofs.Ytldffnmoafhidaa
