/- The signs of a part, as the reference reads them: a sign's cells. -/
import Derived.Test.YtoikpnjnljdpaaaGreatDoorGla
import Derived.Shelf.SlicesQ.Load
import Derived.Lib.SliceRun
import Derived.Deep.Upon
import Derived.Deep.MidRow
import Derived.Great.BuildSlice
set_option linter.unusedVariables false
set_option maxRecDepth 100000
namespace Go.Proofs.YtoikpnjnljdpaaaGreatDoor
open Go.RowKit
open Go.OpenShut
def tokC (b : Bool) (f : UInt8 → Bool) : Array Value := (Value.bool b :: bitsC f).toArray
theorem tokC_size (b : Bool) (f : UInt8 → Bool) : (tokC b f).size = 257 := by unfold tokC; rw [List.size_toArray, List.length_cons, bitsC_len]
theorem tokC_get0 (b : Bool) (f : UInt8 → Bool) : (tokC b f)[0]? = some (.bool b) := by unfold tokC; rw [List.getElem?_toArray]; rfl
theorem tokC_get (b : Bool) (f : UInt8 → Bool) (c : UInt8) : (tokC b f)[c.toNat + 1]? = some (.bool (f c)) := by
  unfold tokC; rw [List.getElem?_toArray, List.getElem?_cons_succ, bitsC_get]
theorem tokC_set0 (b b' : Bool) (f : UInt8 → Bool) : (tokC b f).setIfInBounds 0 (.bool b') = tokC b' f := by
  unfold tokC; rw [List.setIfInBounds_toArray, List.set_cons_zero]
theorem tokC_set (b v : Bool) (f g : UInt8 → Bool) (q : Nat) (hg : ∀ x, g x = if x.toNat = q then v else f x) : (tokC b f).setIfInBounds (1 + q) (.bool v) = tokC b g := by
  unfold tokC
  rw [Nat.add_comm, List.setIfInBounds_toArray, List.set_cons_succ]
  congr 2
  apply List.ext_getElem?
  intro j
  by_cases hj : j < 256
  · have e : (UInt8.ofNat j).toNat = j := by rw [UInt8.toNat_ofNat']; omega
    rw [bitsC_at g j hj, hg, e]
    by_cases hc : j = q
    · rw [if_pos hc, ← hc, List.getElem?_set_self (by rw [bitsC_len]; exact hj)]
    · rw [if_neg hc, List.getElem?_set_ne (fun h => hc h.symm), bitsC_at f j hj]
  · rw [List.getElem?_eq_none (by rw [List.length_set, bitsC_len]; omega), List.getElem?_eq_none (by rw [bitsC_len]; omega)]
theorem tokC_ne (b : Bool) (f : UInt8 → Bool) : ¬ tokC b f = #[] := fun h => by
  have := tokC_size b f
  rw [h] at this; cases this
theorem tinfo : (Tryz.prog.info? 177).map (fun i => (i.zero, i.size, i.bytes)) = some (some (.agg (tokC false fun _ => false)), 257, 257) := by kernel_rfl
theorem zero_tok (W : World) : (zeroValue 177).run Tryz.prog W = .ok (.agg (tokC false fun _ => false)) W := by kernel_rfl
theorem tokC_one (b : Bool) (f : UInt8 → Bool) : ∀ u ∈ (tokC b f).toList, u.oneCell' = true := fun u hu => by
  unfold tokC bitsC at hu
  simp only [List.mem_cons, List.mem_map] at hu
  rcases hu with rfl | ⟨c, -, rfl⟩ <;> rfl
/-- a sign's block -/
def TokB (W : World) (g : Nat) (b : Bool) (f : UInt8 → Bool) : Prop := Blk W g 177 (tokC b f)
variable {W : World} {g : Nat} {b : Bool} {f : UInt8 → Bool}
theorem TokB.ld (h : TokB W g b f) (P : Program) : Sem.run P (loadCellsFrom ⟨g, 0, none⟩ 0 257 #[]) W = .ok (tokC b f) W := by
  have := run_loadCellsFrom_list P W ⟨g, 0, none⟩ (tokC b f).toList 257 (by rw [Array.length_toList, tokC_size]) fun j v hj => by
    rw [Addr.add_lit, Nat.zero_add, Blk.cell h j, ← Array.getElem?_toList, hj]
  simpa using this
theorem TokB.range (h : TokB W g b f) : W.rangeAt g 0 (tokC b f).toList := fun j v hj => by
  rw [Nat.zero_add, Blk.cell h j, ← Array.getElem?_toList, hj]
theorem tok_size : (Tryz.prog.info? 177).map (·.size) = some (tokC b f).toList.length := by
  rw [Array.length_toList, tokC_size]; kernel_rfl
theorem Blk.many {t : TypeId} : ∀ (vs pre old : List Value) (W : World), Blk W g t (pre ++ old).toArray → old.length = vs.length → Blk (W.setCells g pre.length vs) g t (pre ++ vs).toArray
  | [], pre, old, W, h, hl => by
    obtain rfl := List.eq_nil_of_length_eq_zero hl
    exact h
  | v :: vs, pre, [], W, h, hl => by cases hl
  | v :: vs, pre, x :: old, W, h, hl => by
    have h1 := h.set_ pre.length v
    rw [List.setIfInBounds_toArray, List.set_append_right _ _ (Nat.le_refl _), Nat.sub_self, List.set_cons_zero, List.append_cons] at h1
    have := Blk.many vs (pre ++ [v]) old _ h1 (by simpa using hl)
    rw [List.append_assoc, List.singleton_append, List.length_append] at this
    exact this
theorem Below.many {B g : Nat} {a : World} (hg : B ≤ g) (vs : List Value) : ∀ (w : World) (o : Nat), Below B a w → Below B a (w.setCells g o vs) := by
  induction vs with
  | nil => intro w o h; exact h
  | cons v vs ih => intro w o h; exact ih _ _ (Below.set1 h hg o v)
theorem TokB.st {cs : Array Value} (h : Blk W g 177 cs) (hs : cs.size = 257) (P : Program) (b : Bool) (f : UInt8 → Bool) : Sem.run P (storeCells ⟨g, 0, none⟩ (tokC b f).toList 0) W = .ok () (W.setCells g 0 (tokC b f).toList) ∧ TokB (W.setCells g 0 (tokC b f).toList) g b f := by
  refine ⟨?_, ?_⟩
  · have := run_storeCells_cells (P := P) g 0 (tokC b f).toList 0 W (fun j hj => by
      rw [Array.length_toList, tokC_size] at hj
      rw [Blk.cell h, Array.getElem?_eq_getElem (by omega)]; rfl) (fun j hj => by rw [Blk.frozen h]) (tokC_one b f)
    rwa [Nat.add_zero] at this
  · have := Blk.many (tokC b f).toList [] cs.toList W (t := 177) (by simpa using h) (by rw [Array.length_toList, Array.length_toList, tokC_size, hs])
    simpa [TokB] using this
theorem TokB.at (h : TokB W g b f) (j : Nat) (hj : j < 256) : W.cell? ⟨g, 1 + j, none⟩ = some (.bool (f (UInt8.ofNat j))) ∧ W.frozen? ⟨g, 1 + j, none⟩ = false := by
  refine ⟨?_, h.frozen _⟩
  rw [h.cell, Nat.add_comm]
  unfold tokC
  rw [List.getElem?_toArray, List.getElem?_cons_succ, bitsC_at f j hj]
theorem TokB.put (h : TokB W g b f) (j : Nat) (v : Bool) (f' : UInt8 → Bool) (hf : ∀ x, f' x = if x.toNat = j then v else f x) : TokB (W.setCell ⟨g, 1 + j, none⟩ (.bool v)) g b f' := by
  have := h.set_ (1 + j) (.bool v)
  rwa [tokC_set b v f f' j hf] at this
theorem TokB.same (h : TokB W g b f) {f' : UInt8 → Bool} (hf : ∀ x, f x = f' x) : TokB W g b f' := by
  rwa [show f' = f from funext fun x => (hf x).symm]
theorem TokB.ofNat (j : Nat) (hj : j < 256) : (UInt8.ofNat j).toNat = j := by rw [UInt8.toNat_ofNat']; omega
/-- signs in a row -/
def rowT (ts : List Tok) : List Value := ts.flatMap fun t => (tokC t.1 t.2).toList
theorem rowT_app (a c : List Tok) : rowT (a ++ c) = rowT a ++ rowT c := by simp [rowT]
theorem rowT_one (t : Tok) : rowT [t] = (tokC t.1 t.2).toList := by simp [rowT]
theorem rowT_len (ts : List Tok) : (rowT ts).length = ts.length * 257 := by
  induction ts with
  | nil => rfl
  | cons t ts ih =>
    rw [show rowT (t :: ts) = (tokC t.1 t.2).toList ++ rowT ts from rfl, List.length_append, ih, Array.length_toList, tokC_size, List.length_cons]; omega
theorem rowT_one' (ts : List Tok) : ∀ u ∈ rowT ts, u.oneCell' = true := fun u hu => by
  obtain ⟨t, -, h⟩ := List.mem_flatMap.1 hu
  exact tokC_one _ _ u h
def Toks (w : World) (B : Nat) (v : Value) (ts : List Tok) : Prop := w.ownsRow B 177 257 v ts.length (rowT ts)
theorem Toks.nil (w : World) (B : Nat) : Toks w B (.slice none 0 0) [] := World.ownsRow_nil _ _ _ _
theorem Toks.below {w w' : World} {B : Nat} {v : Value} {ts : List Tok} (h : Toks w B v ts) (hb : Below w.heap.size w w') : Toks w' B v ts :=
  World.ownsRow.kept h (grown_below hb none) (by
    by_cases e : v.ownBlock = none
    · exact .inl e
    · exact .inr e)
/-- does a byte begin a span here? what is behind it tells -/
def rngB : List UInt8 → Bool
  | d :: h :: _ => decide (d = 45 ∧ h ≠ 93)
  | _ => false
/-- the next byte of a set: how far it reaches, and its span's end -/
theorem setG_step (s : ByteArray) (k : Nat) (hk : k < s.size) (first : Bool) (acc : UInt8 → Bool) (hn : ¬(first = false ∧ s[k] = 93)) :
    ∃ (ke : Nat) (hi : UInt8), k ≤ ke ∧ ke < s.size ∧ setG first acc (s.data.toList.drop k) = setG false (fun x => acc x || span s[k] hi x) (s.data.toList.drop (ke + 1)) ∧
      (rngB (s.data.toList.drop (k + 1)) = true → ke = k + 2 ∧ ∃ h : k + 2 < s.size, hi = s[k + 2]) ∧ (rngB (s.data.toList.drop (k + 1)) = false → ke = k ∧ hi = s[k]) := by
  by_cases h2 : k + 2 < s.size
  · have e1 := drop_at s (k + 1) (by omega)
    have e2 := drop_at s (k + 2) h2
    by_cases hr : s[k + 1] = 45 ∧ s[k + 2] ≠ 93
    · refine ⟨k + 2, s[k + 2], by omega, h2, ?_, fun _ => ⟨rfl, h2, rfl⟩, fun h => ?_⟩
      · rw [drop_at s k hk, e1, e2, hr.1, setG_range acc _ hn hr.2]
      · rw [e1, e2] at h
        simp [rngB, hr] at h
    · refine ⟨k, s[k], Nat.le_refl _, hk, ?_, fun h => ?_, fun _ => ⟨rfl, rfl⟩⟩
      · rw [drop_at s k hk, setG_one acc _ hn]
        intro h r e
        rw [e1, e2] at e
        injection e with ea e
        injection e with eb _
        rw [← eb]
        apply Classical.byContradiction
        intro hc
        exact hr ⟨ea, hc⟩
      · rw [e1, e2] at h
        simp only [rngB, decide_eq_true_eq] at h
        exact absurd h hr
  · have hl : ∀ h r, s.data.toList.drop (k + 1) ≠ 45 :: h :: r := fun h r e => by
      have := congrArg List.length e
      have h3 : s.data.toList.length = s.size := by simp
      rw [List.length_drop, h3, List.length_cons, List.length_cons] at this; omega
    have hf : rngB (s.data.toList.drop (k + 1)) = false := by
      rcases e : s.data.toList.drop (k + 1) with _ | ⟨a, _ | ⟨c, r⟩⟩
      · rfl
      · rfl
      · have := congrArg List.length e
        have h3 : s.data.toList.length = s.size := by simp
        rw [List.length_drop, h3, List.length_cons, List.length_cons] at this; omega
    refine ⟨k, s[k], Nat.le_refl _, hk, ?_, fun h => ?_, fun _ => ⟨rfl, rfl⟩⟩
    · rw [drop_at s k hk, setG_one acc _ hn]
      intro h r e
      exact absurd e (hl h r)
    · rw [hf] at h; cases h
theorem rngB_at (s : ByteArray) (k : Nat) (h2 : k + 2 < s.size) : rngB (s.data.toList.drop (k + 1)) = (decide (s[k + 1] = 45) && !decide (s[k + 2] = 93)) := by
  rw [drop_at s (k + 1) (by omega), drop_at s (k + 2) h2]
  simp only [rngB]
  by_cases h1 : s[k + 1] = 45 <;> by_cases h3 : s[k + 2] = 93 <;> simp [h1, h3]
theorem rngB_no (s : ByteArray) (k : Nat) (h2 : ¬ k + 2 < s.size) : rngB (s.data.toList.drop (k + 1)) = false := by
  rcases e : s.data.toList.drop (k + 1) with _ | ⟨a, _ | ⟨c, r⟩⟩
  · rfl
  · rfl
  · have := congrArg List.length e
    have h3 : s.data.toList.length = s.size := by simp
    rw [List.length_drop, h3, List.length_cons, List.length_cons] at this; omega
/-- where a set's bytes begin -/
theorem notS_at (s : ByteArray) (i : Nat) (h : i < s.size) : notS (s.data.toList.drop i) = decide (s[i] = 33) := by
  rw [drop_at s i h]; unfold notS; simp
theorem notS_no (s : ByteArray) (i : Nat) (h : ¬ i < s.size) : notS (s.data.toList.drop i) = false := by
  rw [List.drop_eq_nil_of_le (by have h3 : s.data.toList.length = s.size := by simp
                                 omega)]
  rfl
theorem setP_from (s : ByteArray) (i : Nat) (hi : i ≤ s.size) : ∃ k0, i ≤ k0 ∧ k0 ≤ s.size ∧ (k0 = if notS (s.data.toList.drop i) then i + 1 else i) ∧ setP (s.data.toList.drop i) = (setG true (fun _ => false) (s.data.toList.drop k0)).map fun q => (fun x => notS (s.data.toList.drop i) != q.1 x, q.2) := by
  have h := setP_eq (s.data.toList.drop i)
  by_cases hn : notS (s.data.toList.drop i) = true
  · have hlt : i < s.size := by
      apply Classical.byContradiction
      intro hc
      rw [notS_no s i hc] at hn; cases hn
    refine ⟨i + 1, by omega, by omega, by rw [if_pos hn], ?_⟩
    rw [h, if_pos hn, List.drop_drop]
  · refine ⟨i, Nat.le_refl _, hi, by rw [if_neg hn], ?_⟩
    rw [h, if_neg hn]
theorem tok_fill (t : Tok) (ie : TypeInfo) (hs : ie.size = 257) (f : Nat → Value) : Instr.fill (fun i => some (i * ie.size, ie.size)) ((Array.range (1 * ie.size)).map f) [(0, .agg (tokC t.1 t.2))] = some (tokC t.1 t.2) := by
  have := Go.Great.fill_whole (s := 257) (by decide) [.agg (tokC t.1 t.2)] ((Array.range (1 * ie.size)).map f) (fun v hv => by
    obtain rfl := List.mem_singleton.1 hv
    exact tokC_size _ _) (by rw [Array.size_map, Array.size_range, hs]; rfl)
  rw [hs] at this ⊢
  refine this.trans ?_
  rw [List.flatMap_cons, List.flatMap_nil, List.append_nil]
  rfl
theorem tok_parts (t : Tok) (ie : TypeInfo) (hs : ie.size = 257) (f : Nat → Value) (a : Act) (x : Operand) (hx : a.eval x = .agg (tokC t.1 t.2)) :
    Instr.fill (fun i => some (i * ie.size, ie.size)) ((Array.range (1 * ie.size)).map f) ((#[((0 : Nat), x)] : Array (Nat × Operand)).map fun (i, y) => (i, a.eval y)).toList = some (tokC t.1 t.2) := by
  rw [show ((#[((0 : Nat), x)] : Array (Nat × Operand)).map fun (i, y) => (i, a.eval y)).toList = [(0, a.eval x)] by simp, hx]
  exact tok_fill t ie hs f
theorem append_toks {w : World} {ops : Array Oper} {rest : List Oper} {o : Oper} {a : Act} {Q : Exit → Act → World → Prop} (hgd : o.guard = none) (s x : Operand)
    (ho : o.op = .call { callee := .builtin .append, args := #[s, x], argTypes := #[152, 152] }) (B : Nat) (v : Value) (xs : List Tok) (hs : a.eval s = v) (hown : Toks w B v xs)
    (ad : Addr) (c : Nat) (t : Tok) (hx : a.eval x = .slice (some ad) 1 c) (hA : ∀ j u, (tokC t.1 t.2)[j]? = some u → w.cell? (ad.add j) = some u) (hbig : xs.length ≤ 1000000) (hB : B ≤ w.heap.size)
    (h : ∀ v' w', Toks w' B v' (xs ++ [t]) → w.grownBy w' v.ownBlock → wpList Tryz.prog ops Q rest (a.put o.dst v') w') : wpList Tryz.prog ops Q (o :: rest) a w := by
  obtain ⟨i0, hi, hz0, hz1, hz2⟩ := info_parts tinfo
  refine wpList_append_own _ hgd s x 152 ho B 177 i0 _ 257 257 Tryz.underlying152 hi hz0 hz1 hz2 rfl (by decide) v _ _ hs hown ad 1 c (rowT [t]) hx (by rw [rowT_len]; rfl) (fun j u hu => hA j u (by rw [rowT_one] at hu; rwa [← Array.getElem?_toList])) (rowT_one' _) (by unfold maxLen; omega) (by omega) hB ?_
  intro v6 w6 hown6 hgrow _
  exact h v6 w6 (by unfold Toks; rw [List.length_append, rowT_app]; exact hown6) hgrow
end Go.Proofs.YtoikpnjnljdpaaaGreatDoor
