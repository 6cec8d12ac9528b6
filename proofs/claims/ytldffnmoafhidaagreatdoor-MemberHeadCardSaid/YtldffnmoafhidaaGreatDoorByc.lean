/- Rows of bytes of the call's own, those that []byte(s) made among them; append to such. -/
import Derived.Test.YtldffnmoafhidaaGreatDoorBas
import Derived.ArgAppend
import Derived.Lib.ConvBytes
set_option linter.unusedVariables false
set_option maxRecDepth 100000
namespace Go.Proofs.YtldffnmoafhidaaGreatDoor
open Go.RowKit
open Go.OpenShut
/-- the bytes l in a row of the call's own, wherever it came from -/
def OwnC (w : World) (B : Nat) (v : Value) (l : List UInt8) : Prop :=
  ∃ g cap, v = .slice (some ⟨g, 0, none⟩) l.length cap ∧ B ≤ g ∧ g < w.heap.size ∧ l.length ≤ cap ∧ cap ≤ maxLen ∧ (∀ j, j < cap → (w.cell? ⟨g, j, none⟩).isSome = true ∧ w.frozen? ⟨g, j, none⟩ = false) ∧ BytsAt w (some ⟨g, 0, none⟩) l
theorem OwnC.form {w : World} {B : Nat} {v : Value} {l : List UInt8} (h : OwnC w B v l) : ∃ A c, v = .slice A l.length c ∧ SlOk A l.length c ∧ BytsAt w A l := by
  obtain ⟨g, cap, rfl, h1, h2, h3, h4, h5, h6⟩ := h
  exact ⟨_, _, rfl, ⟨h3, h4, fun e => by cases e⟩, h6⟩
theorem OwnC.below {w w' : World} {B : Nat} {v : Value} {l : List UInt8} (h : OwnC w B v l) (hb : Below w.heap.size w w') : OwnC w' B v l := by
  obtain ⟨g, cap, rfl, h1, h2, h3, h4, h5, h6⟩ := h
  refine ⟨g, cap, rfl, h1, Nat.lt_of_lt_of_le h2 hb.size, h3, h4, fun j hj => ?_, h6.below hb⟩
  rw [hb.cell (p := ⟨g, j, none⟩) h2, hb.frozen (p := ⟨g, j, none⟩) h2]
  exact h5 j hj
theorem OwnC.mono {w : World} {B B' : Nat} {v : Value} {l : List UInt8} (h : OwnC w B v l) (hB : B' ≤ B) : OwnC w B' v l := by
  obtain ⟨g, cap, rfl, h1, h2, h3⟩ := h
  exact ⟨g, cap, rfl, Nat.le_trans hB h1, h2, h3⟩
theorem OwnC.alloc {w : World} {B : Nat} {v : Value} {l : List UInt8} (h : OwnC w B v l) (o : Obj) : OwnC (w.alloc o) B v l := h.below ((Below.refl _ _).alloc (Nat.le_refl _) o)
theorem OwnC.of_row {w : World} {B n : Nat} {v : Value} {l : List UInt8} (h : w.ownsRow B 5 1 v n (bCells l)) (hn : 1 ≤ n) : OwnC w B v l := by
  have h' := h
  have hl : l.length = n := by have := h.1; rw [bCells_length] at this; omega
  rcases h.2 with ⟨rfl, h0⟩ | ⟨g, cap, cur, rfl, hB, hg, h1, h2, h3, h4⟩
  · omega
  · have hlt : g < w.heap.size := (Array.getElem?_eq_some_iff.1 hg).1
    refine ⟨g, cap, by rw [hl], hB, hlt, by omega, h2, fun j hj => ⟨?_, Lib.frozen_of_heap hg j⟩, fun j hj => ⟨g, 0, rfl, ?_⟩⟩
    · rw [cell_of_row w g j cur 5 (0, 0) hg, Array.getElem?_eq_getElem (by omega)]; rfl
    · rw [Nat.zero_add, h'.cellAt j (by omega), bCells_get l j hj]
      simp [bInts, hj]
theorem byc_run (W : World) (s : ByteArray) : (convert 9 22 (.string s)).run Tryz.prog W = .ok (.slice (some ⟨W.heap.size, 0, none⟩) s.size (grownCap W s.size 0 5)) (Lib.bytesWorld W 5 s) :=
  Lib.run_convert_string_bytes W 9 22 5 s Tryz.underlying9 Tryz.underlying22 Tryz.underlying5
theorem byc_below (w : World) (s : ByteArray) : Below w.heap.size w (Lib.bytesWorld w 5 s) :=
  ⟨rfl, rfl, rfl, by rw [Lib.bytesWorld_size]; omega, fun k hk => Lib.bytesWorld_at_old w 5 s k hk⟩
theorem OwnC.conv (w : World) (s : ByteArray) (hs : s.size ≤ maxLen) : OwnC (Lib.bytesWorld w 5 s) w.heap.size (.slice (some ⟨w.heap.size, 0, none⟩) s.size (grownCap w s.size 0 5)) s.data.toList := by
  have hcs : (Lib.bytesCells w 5 s).size = grownCap w s.size 0 5 := by
    have := grownCap_ge w s.size 0 5
    unfold Lib.bytesCells
    simp only [Array.size_append, Array.size_map, ByteArray.size_data, Array.size_replicate]
    omega
  have hnew := Lib.bytesWorld_at_new w 5 s
  refine ⟨w.heap.size, _, by simp, Nat.le_refl _, by rw [Lib.bytesWorld_size]; omega, by simpa using grownCap_ge w s.size 0 5, grownCap_le_maxLen w s.size 0 5 hs, fun j hj => ⟨?_, ?_⟩, fun j hj => ⟨w.heap.size, 0, rfl, ?_⟩⟩
  · rw [cell_of_row _ _ j _ _ _ hnew, Array.getElem?_eq_getElem (by omega)]; rfl
  · unfold World.frozen?
    simp only [hnew, hcs]
    have : ¬ (grownCap w s.size 0 5 ≤ j ∧ j < grownCap w s.size 0 5 + 1) := by omega
    simp
    omega
  · have hj' : j < s.size := by simpa using hj
    rw [Nat.zero_add, Lib.bytesWorld_cell w 5 s j hj', List.getD_eq_getElem?_getD, List.getElem?_eq_getElem hj]; rfl
theorem below_setCells {B b : Nat} (hB : B ≤ b) : ∀ (vs : List Value) (o : Nat) {w0 w : World}, Below B w0 w → Below B w0 (w.setCells b o vs)
  | [], o, w0, w, h => h
  | v :: r, o, w0, w, h => by
    rw [World.setCells]
    exact below_setCells hB r (o + 1) (h.setCell (p := ⟨b, o, none⟩) hB v)
theorem setCells_size (b : Nat) : ∀ (vs : List Value) (o : Nat) (w : World), (w.setCells b o vs).heap.size = w.heap.size
  | [], o, w => rfl
  | v :: r, o, w => by
    rw [World.setCells, setCells_size b r (o + 1)]
    simp [World.setCell]
/-- any bytes are appended to a row of bytes of the call's own -/
theorem append_bytc {w : World} {ops : Array Oper} {rest : List Oper} {o : Oper} {a : Act} {Q : Exit → Act → World → Prop} (hgd : o.guard = none) (s x : Operand)
    (ho : o.op = .call { callee := .builtin .append, args := #[s, x], argTypes := #[22, 22] }) (B : Nat) (v : Value) (l0 : List UInt8) (hs : a.eval s = v) (hown : OwnC w B v l0)
    (A : Option Addr) (m c : Nat) (l : List UInt8) (hx : a.eval x = .slice A m c) (hl : l.length = m) (hA : BytsAt w A l) (hc : A = none → c = 0) (hbig : l0.length + m ≤ 140737488355328) (hB : B ≤ w.heap.size)
    (h : ∀ v' w', OwnC w' B v' (l0 ++ l) → (∀ w0, Below B w0 w → Below B w0 w') → wpList Tryz.prog ops Q rest (a.put o.dst v') w') : wpList Tryz.prog ops Q (o :: rest) a w := by
  obtain ⟨i0, hi, hz0, hz1, hz2⟩ := info_parts oinfo_u8
  have hown' := hown
  obtain ⟨g, cap, rfl, h1, h2, h3, h4, h5, h6⟩ := hown
  cases A with
  | none =>
    obtain rfl := hA.none_nil
    obtain rfl : m = 0 := by rw [← hl]; rfl
    obtain rfl := hc rfl
    refine wpList_plain hgd fun K hK => ?_
    have hrun : (Builtin.append_ #[22, 22] o.type #[.slice (some ⟨g, 0, none⟩) l0.length cap, .slice none 0 0]).run Tryz.prog w = .ok (.slice (some ⟨g, 0, none⟩) l0.length cap) w := by
      simp [Builtin.append_, run_underlying (P := Tryz.prog) Tryz.underlying22, sizeOf, typeInfo, hi, Builtin.lenOf, Builtin.firstCells, h3, storeCells]
    unfold Oper.wp
    simp [execOp, ho, resolve, invoke, builtin, hs, hx, hrun, Result.andThen]
    exact hK _ _ (h _ w (by rw [List.append_nil]; exact hown') fun _ h => h)
  | some ad =>
    refine wpList_append_arg w hgd s x 22 ho 5 i0 (.int .u8 0) 1 1 Tryz.underlying22 hi hz0 hz1 hz2 rfl (by decide) g 0 l0.length cap (bCells l0) hs (by rw [bCells_length]; omega) (fun j u hu => h6.cells j u hu) ad m c (bCells l) hx (by rw [bCells_length]; omega) hA.news (bCells_one _)
      (fun hr j hj => ?_) (by unfold maxLen; omega) (by omega) (fun hr => ?_) (fun hr v' w' hw hg => ?_)
    · rw [bCells_length] at hj
      rw [Nat.zero_add, Nat.mul_one]
      exact h5 _ (by omega)
    · have hin := World.cell?_setCells_in g (bCells l) (0 + l0.length * 1) w (fun j hj => by rw [bCells_length] at hj; rw [Nat.zero_add, Nat.mul_one]; exact (h5 _ (by omega)).1)
      rw [Nat.zero_add, Nat.mul_one] at hin ⊢
      have hcell : ∀ j, j < cap → ((w.setCells g l0.length (bCells l)).cell? ⟨g, j, none⟩).isSome = true ∧ (w.setCells g l0.length (bCells l)).frozen? ⟨g, j, none⟩ = false := fun j hj => by
        refine ⟨?_, by rw [World.frozen?_setCells]; exact (h5 j hj).2⟩
        by_cases hj2 : l0.length ≤ j ∧ j < l0.length + l.length
        · have := hin (j - l0.length) (by rw [bCells_length]; omega)
          rw [show l0.length + (j - l0.length) = j by omega] at this
          rw [this]; rfl
        · rw [World.cell?_setCells_out g (bCells l) l0.length w ⟨g, j, none⟩ (fun _ _ => by rw [bCells_length]; show j < _ ∨ _ ≤ j; omega)]
          exact (h5 j hj).1
      refine h _ _ ⟨g, cap, by rw [List.length_append, hl], h1, by rw [setCells_size]; exact h2, by rw [List.length_append]; omega, h4, hcell, fun j hj => ⟨g, 0, rfl, ?_⟩⟩ (fun w0 hb => below_setCells h1 _ _ hb)
      rw [Nat.zero_add]
      rw [List.length_append] at hj
      by_cases hj2 : j < l0.length
      · rw [World.cell?_setCells_out g (bCells l) l0.length w ⟨g, j, none⟩ (fun _ _ => .inl hj2), List.getElem_append_left hj2]
        obtain ⟨b', o', e, hc'⟩ := h6 j hj2
        injection e with e
        injection e with e1 e2
        subst e1 e2
        rw [Nat.zero_add] at hc'
        exact hc'
      · have := hin (j - l0.length) (by rw [bCells_length]; omega)
        rw [show l0.length + (j - l0.length) = j by omega] at this
        rw [this, List.getElem_append_right (by omega)]
        simp [bCells, bInts]
    · have e : bCells l0 ++ bCells l = bCells (l0 ++ l) := by rw [bCells_append]
      rw [e] at hw
      by_cases hn : 1 ≤ l0.length + m
      · exact h _ _ ((OwnC.of_row hw hn).mono hB) fun w0 hb => hb.grown hg hB (fun g e => by cases e)
      · omega
end Go.Proofs.YtldffnmoafhidaaGreatDoor
