/- Texts of one kind, in one file: GlqF, GlqG, GlbP. -/
import Derived.Test.YtoikpnjnljdpaaaGreatDoorGld
import Derived.Deep.RegionLaw
import Derived.Test.YtoikpnjnljdpaaaGreatDoorGlq
import Derived.Test.YtoikpnjnljdpaaaGreatDoorSpl
import Derived.Test.YtoikpnjnljdpaaaGreatDoorGla
/- The program's partFits: a function that fits parts of paths. -/
set_option linter.unusedVariables false
set_option maxRecDepth 100000
namespace Go.Proofs.YtoikpnjnljdpaaaGreatDoor
open Go.RowKit
open Go.OpenShut
/-- all rows of strings stay -/
def KeepS (a w : World) : Prop := ∀ (g : Nat) (cs : Array Value) (fr : Nat × Nat), a.heap[g]? = some (.cells cs 9 fr) → w.heap[g]? = some (.cells cs 9 fr)
theorem KeepS.rfl' (w : World) : KeepS w w := fun _ _ _ h => h
theorem KeepS.trans {a b c : World} (h : KeepS a b) (h2 : KeepS b c) : KeepS a c := fun g cs fr hg => h2 g cs fr (h g cs fr hg)
theorem KeepS.below {w w' : World} (h : Below w.heap.size w w') : KeepS w w' := fun g cs fr hg => (h.block g (gq_lt hg)).trans hg
theorem KeepS.set {w : World} {b t : Nat} {cs0 : Array Value} (h : Blk w b t cs0) (ht : t ≠ 9) (i : Nat) (u : Value) : KeepS w (w.setCell ⟨b, i, none⟩ u) := fun g cs fr hg => by
  have hne : g ≠ b := by
    rintro rfl
    unfold Blk at h
    rw [h] at hg
    injection hg with hg
    injection hg with _ hg
    exact ht hg
  exact (Below.heap_setCell w ⟨b, i, none⟩ u g hne).trans hg
theorem KeepS.grown {w w' : World} {row : Option Nat} (h : w.grownBy w' row) (hr : ∀ g, row = some g → ∃ cs t fr, w.heap[g]? = some (.cells cs t fr) ∧ t ≠ 9) : KeepS w w' := fun g cs fr hg => by
  refine (h.block g (gq_lt hg) ?_).trans hg
  intro e
  obtain ⟨cs2, t, fr2, h2, ht⟩ := hr g e.symm
  rw [h2] at hg
  injection hg with hg
  injection hg with _ hg
  exact ht hg
theorem Texts.keep {w w' : World} {B : Nat} {v : Value} {ls : List (List UInt8)} (h : Texts w B v ls) (hk : KeepS w w') : Texts w' B v ls :=
  own_heap h fun g hg => by
    obtain ⟨_, cur, hc⟩ := own_block h g hg
    rw [hk _ _ _ hc, hc]
/-- a function value is appended to a row of the call's own, at a step of a region that draws its order -/
theorem step_append_fn {w : World} {ops : Array Oper} {o : Oper} {a : Act} {K : Act → World → Prop} {Q : Exit → Act → World → Prop} {E : Prop} (hgd : o.guard = none) (s x : Operand)
    (ho : o.op = .call { callee := .builtin .append, args := #[s, x], argTypes := #[181, 181] }) (B : Nat) (v : Value) (fs : List Value) (hs : a.eval s = v) (hown : Fns w B 183 v fs)
    (g c : Nat) (u : Value) (hx : a.eval x = .slice (some ⟨g, 0, none⟩) 1 c) (hc : w.cell? ⟨g, 0, none⟩ = some u) (hu : u.oneCell' = true) (hbig : fs.length ≤ 1000000) (hB : B ≤ w.heap.size)
    (h : ∀ v' w', Fns w' B 183 v' (fs ++ [u]) → w.grownBy w' v.ownBlock → K (a.put o.dst v') w') :
    if Region.wanted o (yielded ops a.tmps) = true then Oper.wp Tryz.prog o a w K Q else E := by
  have hw : Region.wanted o (yielded ops a.tmps) = true := by simp [Region.wanted, hgd]
  rw [if_pos hw]
  obtain ⟨i0, hi, hz0, hz1, hz2⟩ := info_parts info_stepB
  obtain ⟨v6, w6, hrun, hown6, hgrow, _, h5⟩ := run_append_own_at (P := Tryz.prog) w B 181 o.type 183 i0 _ 1 8 Tryz.underlying181 hi hz0 hz1 hz2 rfl (by decide) _ _ _ hown ⟨g, 0, none⟩ 1 c [u] rfl (fun j q hq => by
    cases j with
    | zero => simp at hq; subst hq; exact hc
    | succ j => simp at hq) (fun q hq => by obtain rfl := List.mem_singleton.1 hq; exact hu) (by unfold maxLen; omega) (by omega) hB
  unfold Oper.wp execOp
  simp only [ho, resolve, invoke, builtin, Sem.run_bind, Sem.run_pure, Result.andThen_ok, List.map_toArray, List.map_cons, List.map_nil, hs, hx, hrun]
  exact h v6 w6 (by unfold Fns; rw [List.length_append]; exact hown6) hgrow
theorem frT_grown {w w' : World} {row : Option Nat} (h : w.grownBy w' row) (hr : ∀ g, row = some g → ∃ cs fr, w.heap[g]? = some (.cells cs 183 fr)) : frT w w' := fun g cs t fr hg h1 h2 _ => by
  refine (h.block g (gq_lt hg) ?_).trans hg
  intro e
  obtain ⟨cs2, fr2, h3⟩ := hr g e.symm
  rw [h3] at hg
  injection hg with hg
  injection hg with _ hg
  exact h2 hg.symm
theorem frT_set {w : World} {b : Nat} {cs0 : Array Value} (h : Blk w b 181 cs0) (i : Nat) (u : Value) : frT w (w.setCell ⟨b, i, none⟩ u) := fun g cs t fr hg h1 h2 _ => by
  have hne : g ≠ b := by
    rintro rfl
    unfold Blk at h
    rw [h] at hg
    injection hg with hg
    injection hg with _ hg
    exact h1 hg.symm
  exact (Below.heap_setCell w ⟨b, i, none⟩ u g hne).trans hg
theorem Fns.alloc {w : World} {B t : Nat} {v : Value} {fs : List Value} (h : Fns w B t v fs) (o : Obj) : Fns (w.alloc o) B t v fs := World.ownsRow.alloc h o
theorem Blk.fn {w : World} {b B : Nat} {v v2 : Value} {fs : List Value} (h : Blk w b 181 #[v]) (ho : Fns w B 183 v2 fs) : some b ≠ v2.ownBlock := fun e => by
  obtain ⟨_, cur, hc⟩ := own_block ho b e.symm
  unfold Blk at h
  rw [h] at hc
  injection hc with hc
  injection hc with _ hc
  exact absurd hc (by decide)
/-- parts of paths in memory -/
def limS (x : List UInt8) : Prop := x.length ≤ 1000
theorem gq_conv (W : World) (s : ByteArray) : (convert 9 43 (.string s)).run Tryz.prog W = .ok (.slice (some ⟨W.heap.size, 0, none⟩) s.size (grownCap W s.size 0 5)) (Lib.bytesWorld W 5 s) :=
  Lib.run_convert_string_bytes W 9 43 5 s Tryz.underlying9 Tryz.underlying43 Tryz.underlying5
theorem gq_below (w : World) (e : TypeId) (s : ByteArray) : Below w.heap.size w (Lib.bytesWorld w e s) :=
  ⟨rfl, rfl, rfl, by rw [Lib.bytesWorld_size]; omega, fun j hj => Lib.bytesWorld_at_old w e s j hj⟩
set_option maxHeartbeats 2000000 in
theorem partFits1_any (ts : List Tok) (fs : List Value) (n : Nat) (hn : ts.length = n) (hfs : fs.length = n) (hn2 : n ≤ 1000) (b : Nat) (A : Option Addr) (c : Nat) (s : ByteArray) (hs : s.size ≤ 1000) (W : World)
    (hb : W.cell? ⟨b, 0, none⟩ = some (.slice A n c)) (hA : ∀ j (hj : j < n), ∃ g, A = some ⟨g, 0, none⟩ ∧ W.cell? ⟨g, j, none⟩ = some (fs[j]'(by omega))) (hst : ∀ j (hj : j < n), StepV frT encB limB W (fs[j]'(by omega)) (tokStar (ts[j]'(by omega))) (tokFits (ts[j]'(by omega)))) :
    Calls Tryz.prog 159 #[.string s, .pointer (some ⟨b, 0, none⟩)] W fun e w' => e = .returned (.bool (fitL tokStar tokFits ts s.data.toList)) ∧ Below W.heap.size W w' := by
  have hcv := gq_conv W s
  have hbw := gq_below W 5 s
  have hL : ListAt encB (Lib.bytesWorld W 5 s) (some ⟨W.heap.size, 0, none⟩) s.data.toList := fun k hk => ⟨_, rfl, by
    have hk2 : k < s.size := by simpa using hk
    rw [Lib.bytesWorld_cell W 5 s k hk2]
    unfold encB
    rw [List.getD_eq_getElem?_getD, List.getElem?_eq_getElem hk]; rfl⟩
  have hld := leadsB_any frT frT_frame encB limB tokStar tokFits ts s.data.toList ((false, fun _ => false) : Tok) 0 fs n A (some ⟨W.heap.size, 0, none⟩) c (grownCap W s.size 0 5) s.size hn hfs (by omega) (by simp) hs (fun _ _ => trivial) (Lib.bytesWorld W 5 s)
    (fun j hj => (hst j hj).mono frT_frame (frT_frame.bel _ _ hbw)) (fun j hj => by
      obtain ⟨g, e, hc⟩ := hA j hj
      exact ⟨g, e, by rw [hbw.cell (p := ⟨g, j, none⟩) (World.block_lt_of_cell? W _ hc)]; exact hc⟩) hL
  have HLd := Lib.hid hld
  have HBw := Lib.hid hbw
  clear hld hbw hL hA hst hn hfs
  go_enter Tryz.func159, Tryz.ntmps159
  go_wp2_with fail
  refine HLd.out.mono ?_; rintro e w' ⟨rfl, hB⟩
  have HB := Lib.hid (HBw.out.trans (hB.mono HBw.out.size))
  clear hB
  go_wp2_with fail
  go_ret
  exact ⟨rfl, HB.out⟩
set_option maxHeartbeats 8000000 in
theorem partFits_any (p : ByteArray) (hp : p.size ≤ 1000) (w : World) : Calls Tryz.prog 146 #[.string p] w fun e w' => ∃ v, e = .returned v ∧ FitV frP (fun l => strV l) limS w' v (partF p.data.toList) ∧ Below w.heap.size w w' := by
  have hpl : p.data.toList.length = p.size := by simp
  have htk : (tokL p.data.toList).getD [] = ((pieceF p.data.toList).getD []).map pieceT := by rw [tokL_pieceF]; cases pieceF p.data.toList <;> rfl
  have hmem : ((pieceF p.data.toList).getD []).length ≤ 1000 ∧ ∀ q ∈ (pieceF p.data.toList).getD [], 1 ≤ q.length ∧ q.length ≤ 1000 := by
    rcases e : pieceF p.data.toList with _ | ps
    · exact ⟨by simp, fun q hq => by simp at hq⟩
    · obtain ⟨h1, h2⟩ := pieceF_mem _ _ ps (Nat.le_refl _) e
      exact ⟨by simp only [Option.getD_some]; omega, fun q hq => by have := h2 q hq; omega⟩
  have hpc := fun W => pieces_any p hp W
  have hpf : ∀ s, partF p.data.toList s = fitL tokStar tokFits (((pieceF p.data.toList).getD []).map pieceT) s := fun s => by unfold partF; rw [htk]
  generalize (pieceF p.data.toList).getD [] = ps at hmem hpc hpf
  generalize (pieceF p.data.toList).isSome = ok at hpc
  generalize partF p.data.toList = F at hpf ⊢
  obtain ⟨n, hn⟩ : ∃ n, n = ps.length := ⟨_, rfl⟩
  obtain ⟨hn2, hq⟩ := hmem
  rw [← hn] at hn2
  have HPC := Lib.hid hpc
  have HPF := Lib.hid hpf
  have HQ := Lib.hid hq
  have HN := Lib.hid hn
  clear hpc hpf hq hn htk hpl
  go_enter Tryz.func146, Tryz.ntmps146
  go_upto_region 2 with fail
  have hb0 := Blk.new w 181 #[.slice none 0 0]
  have hB0 := belowA (Below.refl w.heap.size w) (.cells #[.slice none 0 0] 181)
  obtain ⟨b3, hb3⟩ : ∃ b3, b3 = w.heap.size := ⟨_, rfl⟩
  rw [← hb3] at hb0 ⊢
  have hb3w : w.heap.size ≤ b3 := by omega
  have HN0 := Lib.hid hb0
  have HB0 := Lib.hid hB0
  generalize w.alloc (.cells #[.slice none 0 0] 181) = w0 at HN0 HB0 ⊢
  clear hb0 hB0 hb3
  go_wp2_with fail
  refine (HPC.out _).mono ?_; rintro e w1 ⟨v4, rfl, hT, hB⟩
  have HT1 : Hid (Texts w1 w.heap.size v4 ps) := own_mono hT HB0.out.size
  have HB1 := Lib.hid (HB0.out.trans (hB.mono HB0.out.size))
  have HN1 : Hid (Blk w1 b3 181 #[.slice none 0 0]) := HN0.out.below hB HN0.out.lt
  obtain ⟨A4, c4, rfl, -⟩ := hT.any
  rw [← HN.out] at HT1 ⊢
  clear hT hB HN0 HB0
  go_wp2_with fail
  go_loopw [15] (fun iv wr => ∃ (k : Nat) (v : Value) (fs : List Value), k ≤ n ∧ iv = .int .i64 k ∧ Hid (fs.length = k) ∧ Hid (Blk wr b3 181 #[v]) ∧ Hid (Fns wr w.heap.size 183 v fs) ∧ Hid (∀ j (hj : j < fs.length) (hj2 : j < ps.length), StepV frT encB limB wr fs[j] (tokStar (pieceT ps[j])) (tokFits (pieceT ps[j]))) ∧ Hid (KeepS w1 wr) ∧ Hid (Below w.heap.size w wr)) (fun iv _ => n - (intOf iv).toNat)
  case atStart => exact ⟨0, _, [], Nat.zero_le _, rfl, rfl, HN1.out, World.ownsRow_nil _ _ _ _, (fun j hj => by cases hj), KeepS.rfl' _, HB1.out⟩
  case round =>
    obtain ⟨k, v, fs, hk, rfl, HFl, HN3, HF, HS, HK, HB⟩ := hrel
    clear HN1
    by_cases hlt : k < n
    · have hkp : k < ps.length := by rw [← HN.out]; exact hlt
      have hTk := HT1.out.keep HK.out
      rw [HN.out] at hTk
      obtain ⟨A2, c2, e2, hcell⟩ := hTk.any
      injection e2 with e2 _ e3
      subst e2 e3
      obtain ⟨g, rfl, -, -, hc⟩ := hcell k hkp
      have hq2 := HQ.out ps[k] (List.getElem_mem ..)
      have hgd : ps.getD k [] = ps[k] := by rw [List.getD_eq_getElem?_getD, List.getElem?_eq_getElem hkp]; rfl
      rw [hgd] at hc
      obtain ⟨x, Hx⟩ := hid_name ps[k]
      rw [Hx.out] at hc hq2
      unfold strV at hc
      have hbs := fun W => byteStep_any ⟨x.toArray⟩ (by rw [size_mk]; exact hq2.1) (by rw [size_mk]; exact hq2.2) W
      obtain ⟨sx, Hsx⟩ := hid_name (⟨x.toArray⟩ : ByteArray)
      rw [Hsx.out] at hc hbs
      have hxs : sx.data.toList = x := by rw [← Hsx.out]
      rw [hxs] at hbs
      have HBS := Lib.hid hbs
      have hc3 : wr.cell? ⟨b3, 0, none⟩ = some v := by rw [HN3.out.cell]; rfl
      clear hbs hgd hq2 hcell hxs hTk
      go_upto_region 6 with fail
      have HC3 : Hid (∀ W, Below wr.heap.size wr W → W.cell? ⟨b3, 0, none⟩ = some v) := fun W hW => by rw [(HN3.out.below hW HN3.out.lt).cell]; rfl
      have HAp : Hid (∀ w2 u, Below wr.heap.size wr w2 → Blk (w2.alloc (.cells #[u] 183)) b3 181 #[v] ∧ Fns (w2.alloc (.cells #[u] 183)) w.heap.size 183 v fs ∧ w.heap.size ≤ (w2.alloc (.cells #[u] 183)).heap.size ∧ Below w.heap.size w (w2.alloc (.cells #[u] 183)) ∧ KeepS w1 (w2.alloc (.cells #[u] 183))) := fun w2 u hb => by
        have h1 := HB.out.trans (hb.mono HB.out.size)
        exact ⟨(HN3.out.below hb HN3.out.lt).alloc _, (HF.out.below hb).alloc _, (belowA h1 _).size, belowA h1 _, HK.out.trans (KeepS.below (hb.alloc hb.size _))⟩
      have HFb : Hid (fs.length ≤ 1000000) := by unfold Hid; rw [HFl.out]; omega
      go_region_law (first
        | (refine step_append_fn rfl (.tmp 19) (.tmp 22) rfl w.heap.size v fs rfl (HAp.out w2 (.func (.func fn) #[] caps) HB2.out).2.1 w2.heap.size 1 (.func (.func fn) #[] caps) rfl ((Blk.new w2 183 #[.func (.func fn) #[] caps]).cell 0) rfl HFb.out (HAp.out w2 (.func (.func fn) #[] caps) HB2.out).2.2.1 ?_; intro v5 w5 ho5 hg5; obtain ⟨A5, c5, rfl, -⟩ := ho5.any; have hN5 : Blk w5 b3 181 #[v] := (HAp.out w2 (.func (.func fn) #[] caps) HB2.out).1.grown hg5 (Blk.fn (HAp.out w2 (.func (.func fn) #[] caps) HB2.out).1 (HAp.out w2 (.func (.func fn) #[] caps) HB2.out).2.1); have hc5 : w5.cell? ⟨b3, 0, none⟩ = some v := hN5.cell 0; have hf5 := hN5.frozen 0)
        | (go_simp; go_at_call 158; refine (HBS.out _).mono ?_; rintro e w2 ⟨u, rfl, -, -, hu3, hB2⟩; have HU := Lib.hid hu3; obtain ⟨fn, caps, ⟨rfl, -⟩, -⟩ := hu3; have HB2 : Hid (Below wr.heap.size wr w2) := ⟨hB2.os, hB2.tape, hB2.output, hB2.size, hB2.block⟩; have hc4 := HC3.out w2 HB2.out; have hc6 : (w2.alloc (.cells #[.func (.func fn) #[] caps] 183)).cell? ⟨b3, 0, none⟩ = some v := (HAp.out w2 (.func (.func fn) #[] caps) HB2.out).1.cell 0; clear hB2))
      all_goals
        obtain ⟨L5, hL5⟩ : ∃ L5, L5 = (fs ++ [Value.func (.func fn) #[] caps]).length := ⟨_, rfl⟩
        have hL6 : L5 = fs.length + 1 := by rw [hL5, List.length_append]; rfl
        rw [← hL5] at ho5
        rw [← hL6]
        obtain ⟨hA1, hA2, -, hA4, hA5⟩ := HAp.out w2 (.func (.func fn) #[] caps) HB2.out
        have hrow : ∀ g0, v.ownBlock = some g0 → ∃ cs fr, (w2.alloc (.cells #[.func (.func fn) #[] caps] 183)).heap[g0]? = some (.cells cs 183 fr) := fun g0 e => by
          obtain ⟨_, cur, hcur⟩ := own_block hA2 g0 e
          exact ⟨cur, (0, 0), hcur⟩
        have HF6 : Hid (frT w2 (w5.setCell ⟨b3, 0, none⟩ (.slice A5 L5 c5))) := frT_frame.tr _ _ _ (frT_frame.tr _ _ _ (frT_frame.bel _ _ ((Below.refl _ w2).alloc (Nat.le_refl _) _)) (frT_grown hg5 hrow)) (frT_set hN5 0 _)
        have HF7 : Hid (frT wr (w5.setCell ⟨b3, 0, none⟩ (.slice A5 L5 c5))) := frT_frame.tr _ _ _ (frT_frame.bel _ _ HB2.out) HF6.out
        have HK6 : Hid (KeepS w1 (w5.setCell ⟨b3, 0, none⟩ (.slice A5 L5 c5))) := (hA5.trans (KeepS.grown hg5 fun g0 e => by
          obtain ⟨cs, fr, h⟩ := hrow g0 e
          exact ⟨cs, _, fr, h, by decide⟩)).trans (KeepS.set hN5 (by decide) 0 _)
        have HB6 : Hid (Below w.heap.size w (w5.setCell ⟨b3, 0, none⟩ (.slice A5 L5 c5))) := Below.set1 (hA4.grown hg5 hA4.size fun g0 e => (own_block hA2 g0 e).1) hb3w 0 _
        have HN6 : Hid (Blk (w5.setCell ⟨b3, 0, none⟩ (.slice A5 L5 c5)) b3 181 #[.slice A5 L5 c5]) := hN5.set_ 0 _
        have HO6 : Hid (Fns (w5.setCell ⟨b3, 0, none⟩ (.slice A5 L5 c5)) w.heap.size 183 (.slice A5 L5 c5) (fs ++ [.func (.func fn) #[] caps])) := own_heap ho5 fun g0 e => Below.heap_setCell w5 ⟨b3, 0, none⟩ _ g0 fun e2 => Blk.fn hN5 ho5 (by rw [e, e2])
        have HS6 : Hid (∀ j (hj : j < (fs ++ [Value.func (.func fn) #[] caps]).length) (hj2 : j < ps.length), StepV frT encB limB (w5.setCell ⟨b3, 0, none⟩ (.slice A5 L5 c5)) (fs ++ [Value.func (.func fn) #[] caps])[j] (tokStar (pieceT ps[j])) (tokFits (pieceT ps[j]))) := fun j hj hj2 => by
          by_cases hjl : j < fs.length
          · rw [List.getElem_append_left hjl]
            exact (HS.out j hjl hj2).mono frT_frame HF7.out
          · have ej : j = fs.length := by rw [← hL5, hL6] at hj; omega
            subst ej
            rw [List.getElem_append_right (Nat.le_refl _)]
            have e9 : ps[fs.length] = x := by rw [← Hx.out]; congr 1
            rw [e9]
            simp only [Nat.sub_self, List.getElem_cons_zero]
            exact HU.out.mono frT_frame HF6.out
        have HL7 : Hid ((fs ++ [Value.func (.func fn) #[] caps]).length = k + 1) := by unfold Hid; rw [← hL5, hL6, HFl.out]
        clear hA1 hA2 hA4 hA5 hrow ho5 hg5 hN5 hc5 hf5 hc6 hc4 hc3 hL5 hL6
        go_wp2_with fail
        go_roundw
        case rel => exact ⟨k + 1, _, _, by omega, by go_num, HL7.out, HN6.out, HO6.out, HS6.out, HK6.out, HB6.out⟩
        case measure => simp [intOf]; omega
    · obtain rfl : k = n := by omega
      obtain ⟨A2, c2, rfl, -⟩ := HF.out.any
      have hn3 : fs.length = k := HFl.out
      have hF3 := HF.out
      rw [hn3] at HN3 hF3
      have HF3 := Lib.hid hF3
      clear hn3 hF3 HF
      go_wp2_with fail
      go_ret
      refine ⟨_, rfl, ⟨159, #[.pointer (some ⟨b3, 0, none⟩)], ⟨rfl, enters_of Tryz.func159 (by kernel_rfl) rfl⟩, fun W hW x hx args ha => ?_⟩, HB.out⟩
      rw [app11] at ha
      subst ha
      have hlm : (ps.map pieceT).length = k := by rw [List.length_map, ← HN.out]
      have hF4 := HF3.out.frP (by decide) hW
      have h1 := partFits1_any (ps.map pieceT) fs k hlm HFl.out hn2 b3 A2 c2 ⟨x.toArray⟩ (by rw [size_mk]; exact hx) W (by rw [(frP_blk (by decide) HN3.out hW).cell]; rfl) (fun j hj => by
        obtain ⟨A9, c9, e9, h9⟩ := hF4.any
        injection e9 with e9 _ _
        subst e9
        exact h9 j (by rw [HFl.out]; exact hj)) (fun j hj => by
        have hjp : j < ps.length := by rw [← HN.out]; exact hj
        have h2 := (HS.out j (by rw [HFl.out]; exact hj) hjp).mono frT_frame (frP_T hW)
        simpa only [List.getElem_map] using h2)
      refine h1.mono ?_
      rintro e w' ⟨rfl, hB⟩
      exact ⟨by rw [HPF.out], hB⟩
end Go.Proofs.YtoikpnjnljdpaaaGreatDoor
/- The program's pathSteps. -/
set_option linter.unusedVariables false
set_option maxRecDepth 100000
namespace Go.Proofs.YtoikpnjnljdpaaaGreatDoor
open Go.RowKit
open Go.OpenShut
theorem frP_grown {w w' : World} {row : Option Nat} (h : w.grownBy w' row) (hr : ∀ g, row = some g → ∃ cs fr, w.heap[g]? = some (.cells cs 171 fr)) : frP w w' := fun g cs t fr hg h1 => by
  refine (h.block g (gq_lt hg) ?_).trans hg
  intro e
  obtain ⟨cs2, fr2, h3⟩ := hr g e.symm
  rw [h3] at hg
  injection hg with hg
  injection hg with _ hg
  exact h1 hg.symm
set_option maxHeartbeats 8000000 in
theorem pathSteps_any (p : ByteArray) (hp : p.size ≤ 1000) (w : World) : Calls Tryz.prog 117 #[.string p] w fun e w' => ∃ (v : Value) (fs : List Value), e = .returned v ∧ Fns w' w.heap.size 171 v fs ∧ fs.length = (pp p.data.toList).length ∧
    (∀ j (hj : j < fs.length) (hj2 : j < (pp p.data.toList).length), StepV frP (fun l => strV l) limS w' fs[j] (twoStars (pp p.data.toList)[j]) (partF (pp p.data.toList)[j])) ∧ Below w.heap.size w w' := by
  have hpl : p.data.toList.length = p.size := by simp
  have hgl : ∀ k, ((pp p.data.toList).getD k []).length ≤ 1000 := fun k => by
    by_cases h0 : p.data.toList = []
    · rw [h0, pp_nil]; simp
    · rw [pp_ne h0]
      have := partsL_getD 47 p.data.toList k
      omega
  have hnl : (pp p.data.toList).length ≤ 1001 := by
    by_cases h0 : p.data.toList = []
    · rw [h0, pp_nil]; simp
    · rw [pp_ne h0]
      have := partsL_le 47 p.data.toList
      omega
  have hpa := fun W => Parts_any p W (by omega)
  generalize pp p.data.toList = ls at hgl hnl hpa ⊢
  have HPA := Lib.hid hpa
  have HGL := Lib.hid hgl
  obtain ⟨n, Hn⟩ := hid_name ls.length
  rw [Hn.out] at hnl
  clear hpl hgl hpa
  go_enter Tryz.func117, Tryz.ntmps117
  go_wp2_with fail
  refine (HPA.out _).mono ?_; rintro e w1 ⟨v, rfl, hT, hB⟩
  obtain ⟨A, ca, rfl, hA⟩ := hT.any
  have HA := Lib.hid hA
  have HB1 := Lib.hid hB
  clear hA hT hB
  rw [Hn.out]
  go_wp2_with fail
  go_loopw [3, 9] (fun lv iv wr => ∃ (k : Nat) (fs : List Value), k ≤ n ∧ iv = .int .i64 k ∧ Hid (fs.length = k) ∧ Hid (Fns wr w1.heap.size 171 lv fs) ∧ Hid (∀ j (hj : j < fs.length) (hj2 : j < ls.length), StepV frP (fun l => strV l) limS wr fs[j] (twoStars ls[j]) (partF ls[j])) ∧ Hid (Below w1.heap.size w1 wr)) (fun _ iv _ => n - (intOf iv).toNat)
  case atStart => exact ⟨0, [], Nat.zero_le _, rfl, rfl, World.ownsRow_nil _ _ _ _, (fun j hj => by cases hj), Below.refl _ _⟩
  case round =>
    obtain ⟨k, fs, hk, rfl, HFl, HF, HS, HW⟩ := hrel
    obtain ⟨v0, hv0⟩ : ∃ v0, v0 = u3 := ⟨_, rfl⟩
    subst hv0
    by_cases hlt : k < n
    · have hkl : k < ls.length := by rw [Hn.out]; exact hlt
      obtain ⟨g, rfl, _, hg, hc⟩ := HA.out k hkl
      have hc' : wr.cell? ⟨g, k, none⟩ = some (strV (ls.getD k [])) := by rw [HW.out.cell (p := ⟨g, k, none⟩) hg]; exact hc
      have hgd : ls.getD k [] = ls[k] := by rw [List.getD_eq_getElem?_getD, List.getElem?_eq_getElem hkl]; rfl
      have hxl := HGL.out k
      rw [hgd] at hc' hxl
      obtain ⟨x, Hx⟩ := hid_name ls[k]
      rw [Hx.out] at hc' hxl
      unfold strV at hc'
      have h2 := two_is x
      have hpf := fun W => partFits_any ⟨x.toArray⟩ (by rw [size_mk]; exact hxl) W
      obtain ⟨sx, Hsx⟩ := hid_name (⟨x.toArray⟩ : ByteArray)
      rw [Hsx.out] at hc' h2 hpf
      have hxs : sx.data.toList = x := by rw [← Hsx.out]
      rw [hxs] at hpf
      have HPF := Lib.hid hpf
      have hfl : fs.length ≤ 1000000 := by rw [HFl.out]; omega
      have HFb := Lib.hid hfl
      have HAp : Hid (∀ (w2 : World) (u : Value), Below wr.heap.size wr w2 → Fns (w2.alloc (.cells #[u] 171)) w1.heap.size 171 v0 fs ∧ w1.heap.size ≤ (w2.alloc (.cells #[u] 171)).heap.size) := fun w2 u hb => by
        have h0 : Below w1.heap.size w1 w2 := HW.out.trans (hb.mono HW.out.size)
        exact ⟨(HF.out.below hb).alloc _, (h0.alloc h0.size _).size⟩
      have HFin : Hid (∀ (w2 : World) (u v9 : Value) (w9 : World), Below wr.heap.size wr w2 → StepV frP (fun l => strV l) limS w2 u (twoStars x) (partF x) → Fns w9 w1.heap.size 171 v9 (fs ++ [u]) → (w2.alloc (.cells #[u] 171)).grownBy w9 v0.ownBlock →
          (fs ++ [u]).length = k + 1 ∧ (∀ j (hj : j < (fs ++ [u]).length) (hj2 : j < ls.length), StepV frP (fun l => strV l) limS w9 (fs ++ [u])[j] (twoStars ls[j]) (partF ls[j])) ∧ Below w1.heap.size w1 w9) := fun w2 u v9 w9 hb hu ho hg => by
        have h0 : Below w1.heap.size w1 w2 := HW.out.trans (hb.mono HW.out.size)
        have hA2 := (HAp.out w2 u hb).1
        have hrow : ∀ g0, v0.ownBlock = some g0 → ∃ cs fr, (w2.alloc (.cells #[u] 171)).heap[g0]? = some (.cells cs 171 fr) := fun g0 e => by
          obtain ⟨_, cur, hcur⟩ := own_block hA2 g0 e
          exact ⟨cur, (0, 0), hcur⟩
        have hf1 := frP_frame.tr _ _ _ (frP_frame.bel _ _ ((Below.refl _ w2).alloc (Nat.le_refl _) (.cells #[u] 171))) (frP_grown hg hrow)
        have hf2 := frP_frame.tr _ _ _ (frP_frame.bel _ _ hb) hf1
        refine ⟨by rw [List.length_append, HFl.out]; rfl, fun j hj hj2 => ?_, (h0.alloc h0.size _).grown hg (h0.alloc h0.size _).size fun g0 e => (own_block hA2 g0 e).1⟩
        by_cases hjl : j < fs.length
        · rw [List.getElem_append_left hjl]
          exact (HS.out j hjl hj2).mono frP_frame hf2
        · have ej : j = fs.length := by rw [List.length_append] at hj; simp at hj; omega
          subst ej
          rw [List.getElem_append_right (Nat.le_refl _)]
          have e9 : ls[fs.length] = x := by rw [← Hx.out]; congr 1
          rw [e9]
          simp only [Nat.sub_self, List.getElem_cons_zero]
          exact hu.mono frP_frame hf1
      clear hc hgd hxl hpf hxs hfl
      rcases hb2 : twoStars x with _ | _
      · rw [hb2] at h2 HFin
        clear hb2
        go_wp2_with fail
        refine (HPF.out _).mono ?_; rintro e w2 ⟨fv, rfl, hfv, hB2⟩
        have HB2 : Hid (Below wr.heap.size wr w2) := hB2
        have HFv := Lib.hid hfv
        clear hB2 hfv
        go_wp2_with fail
        refine (oneS_any frP frP_frame (fun _ _ _ _ => frP_blk (by decide)) (fun l => strV l) limS fv (partF x) _ HFv.out).mono ?_; rintro e w3 ⟨u, rfl, -, -, hu, hB3⟩
        have HB3 : Hid (Below wr.heap.size wr w3) := HB2.out.trans (hB3.mono HB2.out.size)
        have HU := Lib.hid hu
        obtain ⟨fn, caps, ⟨rfl, -⟩, -⟩ := hu
        clear hB3 HB2 HFv
        go_wp2_with (at_builtin; refine Stay.go ?_)
        refine Stay.on ?_
        refine append_fnS rfl (.tmp 19) (.tmp 23) rfl w1.heap.size v0 fs rfl (HAp.out w3 (.func (.func fn) #[] caps) HB3.out).1 w3.heap.size 1 (.func (.func fn) #[] caps) rfl ((Blk.new w3 171 #[.func (.func fn) #[] caps]).cell 0) rfl HFb.out (HAp.out w3 (.func (.func fn) #[] caps) HB3.out).2 ?_
        intro v9 w9 ho9 hg9
        have HO9 := Lib.hid ho9
        have HE9 := Lib.hid (HFin.out _ _ _ _ HB3.out HU.out ho9 hg9)
        clear ho9 hg9
        go_wp2_with fail
        go_roundw
        case rel => exact ⟨k + 1, _, by omega, by go_num, HE9.out.1, HO9.out, HE9.out.2.1, HE9.out.2.2⟩
        case measure => simp [intOf]; omega
      · rw [hb2] at h2 HFin
        clear hb2
        go_wp2_with fail
        refine (starS_any frP (fun l => strV l) limS (partF x) _).mono ?_; rintro e w3 ⟨u, rfl, -, -, hu, rfl⟩
        have HB3 : Hid (Below wr.heap.size wr wr) := Below.refl _ _
        have HU := Lib.hid hu
        obtain ⟨fn, caps, ⟨rfl, -⟩, -⟩ := hu
        go_wp2_with (at_builtin; refine Stay.go ?_)
        refine Stay.on ?_
        refine append_fnS rfl (.tmp 15) (.tmp 17) rfl w1.heap.size v0 fs rfl (HAp.out wr (.func (.func fn) #[] caps) HB3.out).1 wr.heap.size 1 (.func (.func fn) #[] caps) rfl ((Blk.new wr 171 #[.func (.func fn) #[] caps]).cell 0) rfl HFb.out (HAp.out wr (.func (.func fn) #[] caps) HB3.out).2 ?_
        intro v9 w9 ho9 hg9
        have HO9 := Lib.hid ho9
        have HE9 := Lib.hid (HFin.out _ _ _ _ HB3.out HU.out ho9 hg9)
        clear ho9 hg9
        go_wp2_with fail
        go_roundw
        case rel => exact ⟨k + 1, _, by omega, by go_num, HE9.out.1, HO9.out, HE9.out.2.1, HE9.out.2.2⟩
        case measure => simp [intOf]; omega
    · obtain rfl : k = n := by omega
      have HOw := Lib.hid (own_mono HF.out HB1.out.size)
      go_wp2_with fail
      go_ret
      exact ⟨v0, fs, rfl, HOw.out, HFl.out.trans Hn.out.symm, HS.out, HB1.out.trans (HW.out.mono HB1.out.size)⟩
end Go.Proofs.YtoikpnjnljdpaaaGreatDoor
/- Contracts of package glob: Check and Fits. -/
set_option linter.unusedVariables false
set_option maxRecDepth 100000
namespace Go.Proofs.YtoikpnjnljdpaaaGreatDoor
open Go.RowKit
open Go.OpenShut
theorem gCheck_size (p : ByteArray) (w : World) (hp : p.size ≤ maxLen) (h : p.size < 1 ∨ 400 < p.size) : Calls Tryz.prog 70 #[.string p] w fun e w' => e = .returned (.int .i64 1) ∧ w = w' := by
  unfold maxLen at hp
  rcases h with h | h
  · have h1 : ((p.size : Int) < 1) := by omega
    go_enter Tryz.func70, Tryz.ntmps70
    go_wp2_with fail
    go_ret
    exact ⟨rfl, rfl⟩
  · have h1 : ¬ ((p.size : Int) < 1) := by omega
    have h2 : (400 : Int) < (p.size : Int) := by omega
    go_enter Tryz.func70, Tryz.ntmps70
    go_wp2_with fail
    go_ret
    exact ⟨rfl, rfl⟩
set_option maxHeartbeats 2000000 in
theorem gCheck_parts (p : ByteArray) (w : World) (h1 : 1 ≤ p.size) (h2 : p.size ≤ 400) : Calls Tryz.prog 70 #[.string p] w fun e w' => e = .returned (.int .i64 (partsE (partsL 47 p.data.toList))) ∧ Below w.heap.size w w' := by
  have h1' : ¬ ((p.size : Int) < 1) := by omega
  have h2' : ¬ ((400 : Int) < (p.size : Int)) := by omega
  have hpl : p.data.toList.length = p.size := by simp
  have hne : p.data.toList ≠ [] := fun h => by rw [h] at hpl; simp at hpl; omega
  have hpa := fun W => Parts_any p W (by omega)
  rw [pp_ne hne] at hpa
  have HPA := Lib.hid hpa
  have hgl : ∀ k, ((partsL 47 p.data.toList).getD k []).length ≤ 400 := fun k => by
    have := partsL_getD 47 p.data.toList k
    omega
  obtain ⟨ls, Hls⟩ := hid_name (partsL 47 p.data.toList)
  have hll : ls.length ≤ 401 := by
    have h3 := partsL_le 47 p.data.toList
    rw [Hls.out] at h3; omega
  rw [Hls.out] at hgl HPA
  have HGL := Lib.hid hgl
  obtain ⟨n, Hn⟩ := hid_name ls.length
  rw [Hn.out] at hll
  rw [Hls.out]
  clear hgl hpl hne hpa
  go_enter Tryz.func70, Tryz.ntmps70
  go_wp2_with fail
  refine (HPA.out _).mono ?_; rintro e w1 ⟨v, rfl, hT, hB⟩
  obtain ⟨A, ca, rfl, hA⟩ := hT.any
  have HA := Lib.hid hA
  have HB1 := Lib.hid hB
  clear hA hT hB
  rw [Hn.out]
  go_wp2_with fail
  go_loopw [18] (fun i wr => ∃ k : Nat, i = .int .i64 k ∧ k ≤ n ∧ Hid (partsE ls = partsE (ls.drop k)) ∧ Hid (Below w1.heap.size w1 wr)) (fun i _ => n - (intOf i).toNat)
  case atStart => exact ⟨0, rfl, Nat.zero_le _, rfl, Below.refl _ _⟩
  case round =>
    obtain ⟨k, rfl, hk, HE, HW⟩ := hrel
    by_cases hlt : k < n
    · obtain ⟨g, rfl, _, hg, hc⟩ := HA.out k (by rw [Hn.out]; exact hlt)
      have hc' : wr.cell? ⟨g, k, none⟩ = some (strV (ls.getD k [])) := by rw [HW.out.cell (p := ⟨g, k, none⟩) hg]; exact hc
      have hD := getD_drop ls k (by rw [Hn.out]; exact hlt)
      have hE := HE.out
      rw [hD, partsE_cons] at hE
      have hxl := HGL.out k
      clear hc hD
      unfold strV at hc'
      generalize ls.getD k [] = x at hc' hE hxl
      have hxs : (⟨x.toArray⟩ : ByteArray).size ≤ 400 := by rw [size_mk]; exact hxl
      obtain ⟨sx, Hsx⟩ := hid_name (⟨x.toArray⟩ : ByteArray)
      rw [Hsx.out] at hc' hxs
      have hx : sx.data.toList = x := by rw [← Hsx.out]
      by_cases hn : x = []
      · rw [if_pos hn] at hE
        have HR := Lib.hid hE
        have g0 : sx.toList = [] := toList_nil (by rw [hx]; exact hn)
        clear hE hn hx
        go_wp2_with fail
        go_ret
        exact ⟨ret_int HR.out.symm, HB1.out.trans (HW.out.mono HB1.out.size)⟩
      · rw [if_neg hn] at hE
        have g0 : sx.toList.isEmpty = false := toList_ne (by rw [hx]; exact hn)
        have htk := pieces_any sx (by omega) wr
        rw [hx, ← pieceF_none] at htk
        have HTK := Lib.hid htk
        rcases hs : (tokL x).isSome with _ | _
        · rw [Option.isSome_eq_false_iff.1 hs] at hE
          rw [hs] at HTK
          have HR : Hid (partsE ls = 3) := hE
          clear hE hn hx htk hs
          go_wp2_with fail
          refine HTK.out.mono ?_; rintro e w2 ⟨v, rfl, -, hB2⟩
          have HB2 := Lib.hid hB2
          clear hB2
          go_wp2_with fail
          go_ret
          exact ⟨ret_int HR.out.symm, HB1.out.trans ((HW.out.trans (HB2.out.mono HW.out.size)).mono HB1.out.size)⟩
        · rw [show (tokL x).isNone = false from by rw [← Option.not_isSome, hs]; rfl] at hE
          rw [hs] at HTK
          have HR : Hid (partsE ls = partsE (ls.drop (k + 1))) := hE
          clear hE hn hx htk hs
          go_wp2_with fail
          refine HTK.out.mono ?_; rintro e w2 ⟨v, rfl, -, hB2⟩
          have HB2 := Lib.hid (HW.out.trans (hB2.mono HW.out.size))
          clear hB2
          go_wp2_with fail
          go_roundw
          case rel => exact ⟨k + 1, by go_num, by omega, HR.out, HB2.out⟩
          case measure => simp [intOf]; omega
    · obtain rfl : k = n := by omega
      have HR : Hid (partsE ls = 0) := by
        have := HE.out
        rwa [List.drop_eq_nil_of_le (by rw [Hn.out]; exact Nat.le_refl _)] at this
      go_wp2_with fail
      go_ret
      exact ⟨ret_int HR.out.symm, HB1.out.trans (HW.out.mono HB1.out.size)⟩
theorem gCheck_any (p : ByteArray) (w : World) (hp : p.size ≤ maxLen) : Calls Tryz.prog 70 #[.string p] w fun e w' => e = .returned (.int .i64 (globE p.data.toList)) ∧ Below w.heap.size w w' := by
  have hl : p.data.toList.length = p.size := by simp
  by_cases h : p.size < 1 ∨ 400 < p.size
  · rw [globE_size (by
      rcases h with h | h
      · exact .inl (nil_of_size h)
      · exact .inr (by omega))]
    exact (gCheck_size p w hp h).mono fun e w' ⟨a, b⟩ => ⟨a, b ▸ Below.refl _ _⟩
  · rw [globE_parts (by
      rintro (h2 | h2)
      · exact ne_of_size (by omega) h2
      · omega)]
    exact gCheck_parts p w (by omega) (by omega)
set_option maxHeartbeats 4000000 in
theorem gFits_any (p s : ByteArray) (w : World) (hp : p.size ≤ maxLen) (hs : s.size ≤ maxLen) : Calls Tryz.prog 73 #[.string p, .string s] w fun e w' => e = .returned (.tuple #[.bool (fitsB p.data.toList s.data.toList), .int .i64 (fitsE p.data.toList s.data.toList)]) ∧ Below w.heap.size w w' := by
  have hgf := fun W => gCheck_any p W hp
  have hpf := fun W => Check_any s W hs
  have HG := Lib.hid hgf
  have HP := Lib.hid hpf
  clear hgf hpf
  by_cases hE : globE p.data.toList = 0
  · rw [hE] at HG
    by_cases hE2 : pathE s.data.toList = 0
    · rw [hE2] at HP
      have hfe : fitsE p.data.toList s.data.toList = 0 := by unfold fitsE; rw [if_pos hE, hE2]
      have hfb : fitsB p.data.toList s.data.toList = globF p.data.toList s.data.toList := by unfold fitsB; rw [hfe, decide_eq_true rfl, Bool.true_and]
      rw [hfe, hfb]
      have hpl : p.data.toList.length = p.size := by simp
      have hsl : s.data.toList.length = s.size := by simp
      have hp4 : p.size ≤ 400 := by
        apply Classical.byContradiction
        intro hc
        rw [globE_size (.inr (by omega))] at hE; cases hE
      have hs4 : s.size ≤ 400 := by
        apply Classical.byContradiction
        intro hc
        rw [pathE_size (.inr (by omega))] at hE2; cases hE2
      have hpn : p.data.toList ≠ [] := fun h => by rw [globE_size (.inl h)] at hE; cases hE
      have hsn : s.data.toList ≠ [] := fun h => by rw [pathE_size (.inl (by rw [h]; decide))] at hE2; cases hE2
      have hgd : globF p.data.toList s.data.toList = fitL twoStars partF (pp p.data.toList) (pp s.data.toList) := by rw [pp_ne hpn, pp_ne hsn]; rfl
      rw [hgd]
      have hst := fun W => pathSteps_any p (by omega) W
      have hpa := fun W => Parts_any s W (by omega)
      have hln : (pp p.data.toList).length ≤ 401 := by
        rw [pp_ne hpn]
        have := partsL_le 47 p.data.toList
        omega
      have hlm : (pp s.data.toList).length ≤ 401 := by
        rw [pp_ne hsn]
        have := partsL_le 47 s.data.toList
        omega
      have hlx : ∀ x ∈ pp s.data.toList, x.length ≤ 1000 := fun x hx => by
        rw [pp_ne hsn] at hx
        obtain ⟨k, hk, rfl⟩ := List.mem_iff_getElem.1 hx
        have := partsL_getD 47 s.data.toList k
        rw [List.getD_eq_getElem?_getD, List.getElem?_eq_getElem hk, Option.getD_some] at this
        omega
      generalize pp p.data.toList = us at hst hln ⊢
      generalize pp s.data.toList = bs at hpa hlm hlx ⊢
      have HST := Lib.hid hst
      have HPA := Lib.hid hpa
      have HLX := Lib.hid hlx
      clear hE hE2 hfe hfb hgd hpl hsl hst hpa hlx hpn hsn
      go_enter Tryz.func73, Tryz.ntmps73
      go_wp2_with fail
      refine (HG.out _).mono ?_; rintro e w1 ⟨rfl, hB1⟩
      have HB1 := Lib.hid hB1
      clear hB1
      go_wp2_with fail
      refine (HP.out _).mono ?_; rintro e w2 ⟨rfl, hB2⟩
      have HB2 := Lib.hid (HB1.out.trans (hB2.mono HB1.out.size))
      clear hB2 HB1
      go_wp2_with fail
      refine (HST.out _).mono ?_; rintro e w3 ⟨v, fs, rfl, hF, hfl, hS, hB3⟩
      have HB3 := Lib.hid (HB2.out.trans (hB3.mono HB2.out.size))
      have HF3 := Lib.hid hF
      have HS3 := Lib.hid hS
      have HFl := Lib.hid hfl
      obtain ⟨A, ca, rfl, -⟩ := hF.any
      obtain ⟨n, Hn⟩ := hid_name us.length
      have hn1 : fs.length = n := by rw [hfl]; exact Hn.out
      rw [hn1] at HF3 ⊢
      clear hB3 hF hS hfl HB2
      go_wp2_with fail
      refine (HPA.out _).mono ?_; rintro e w4 ⟨v, rfl, hT, hB4⟩
      have HB4 := Lib.hid (HB3.out.trans (hB4.mono HB3.out.size))
      obtain ⟨A', ca', rfl, hA'⟩ := hT.any
      have hF4 := HF3.out.below hB4
      have HLd := leadsS_any frP frP_frame (fun l => strV l) limS twoStars partF us bs [] [] fs n A A' ca ca' bs.length Hn.out hn1 (by have := Hn.out; omega) rfl (by omega) HLX.out w4 (fun j hj => by
        exact (HS3.out j (by omega) (by rw [Hn.out]; exact hj)).mono frP_frame (frP_frame.bel _ _ hB4)) (fun j hj => by
        obtain ⟨A9, c9, e9, h9⟩ := hF4.any
        injection e9 with e9 _ _
        subst e9
        exact h9 j (by omega)) (fun k hk => by
        obtain ⟨g, e, -, -, hc⟩ := hA' k hk
        refine ⟨g, e, ?_⟩
        rwa [List.getD_eq_getElem?_getD, List.getElem?_eq_getElem hk, Option.getD_some] at hc)
      have HL := Lib.hid HLd
      obtain ⟨m, Hm⟩ := hid_name bs.length
      rw [Hm.out] at HL ⊢
      clear hB4 hT hA' hF4 HLd HF3 hn1
      go_wp2_with fail
      refine HL.out.mono ?_; rintro e w5 ⟨rfl, hB5⟩
      have HB5 := Lib.hid (HB4.out.trans (hB5.mono HB4.out.size))
      clear hB5
      go_wp2_with fail
      refine bodyPost_ret (v := .tuple #[.bool (fitL twoStars partF us bs), .int .i64 0]) (by simp [results, Tryz.results73, go_sem, *]) rfl ?_
      exact ⟨rfl, HB5.out⟩
    · have hfe : fitsE p.data.toList s.data.toList = pathE s.data.toList := by unfold fitsE; rw [if_pos hE]
      have hfb : fitsB p.data.toList s.data.toList = false := by unfold fitsB; rw [hfe, decide_eq_false hE2, Bool.false_and]
      rw [hfe, hfb]
      obtain ⟨E, HEE⟩ := hid_name (pathE s.data.toList)
      rw [HEE.out] at HP hE2 ⊢
      have hne : (E == 0) = false := by simpa using hE2
      clear hfe hfb hE hE2
      go_enter Tryz.func73, Tryz.ntmps73
      go_wp2_with fail
      refine (HG.out _).mono ?_; rintro e w1 ⟨rfl, hB1⟩
      have HB1 := Lib.hid hB1
      clear hB1
      go_wp2_with fail
      refine (HP.out _).mono ?_; rintro e w2 ⟨rfl, hB2⟩
      have HB2 := Lib.hid (HB1.out.trans (hB2.mono HB1.out.size))
      clear hB2 HB1
      go_wp2_with fail
      refine bodyPost_ret (v := .tuple #[.bool false, .int .i64 E]) (by simp [results, Tryz.results73, go_sem, *]) rfl ?_
      exact ⟨rfl, HB2.out⟩
  · have hfe : fitsE p.data.toList s.data.toList = globE p.data.toList := by unfold fitsE; rw [if_neg hE]
    have hfb : fitsB p.data.toList s.data.toList = false := by unfold fitsB; rw [hfe, decide_eq_false hE, Bool.false_and]
    rw [hfe, hfb]
    obtain ⟨E, HEE⟩ := hid_name (globE p.data.toList)
    rw [HEE.out] at HG hE ⊢
    have hne : (E == 0) = false := by simpa using hE
    clear hfe hfb hE
    go_enter Tryz.func73, Tryz.ntmps73
    go_wp2_with fail
    refine (HG.out _).mono ?_; rintro e w1 ⟨rfl, hB1⟩
    have HB1 := Lib.hid hB1
    clear hB1
    go_wp2_with fail
    refine bodyPost_ret (v := .tuple #[.bool false, .int .i64 E]) (by simp [results, Tryz.results73, go_sem, *]) rfl ?_
    exact ⟨rfl, HB1.out⟩
end Go.Proofs.YtoikpnjnljdpaaaGreatDoor
