/- The reference's records of a member: MemberRecords. (Stage 17, ahead.) -/
import Derived.Test.YtepjdiocicmjcaaDoorMth
import Derived.Test.YtepjdiocicmjcaaDoorEntC
import Derived.Test.YtepjdiocicmjcaaDoorEntD
import Derived.Test.YtepjdiocicmjcaaDoorStpB
import Derived.Test.YtepjdiocicmjcaaDoorCutA
import Derived.Test.YtepjdiocicmjcaaDoorPaxE
import Derived.StillTailTactics
import Derived.Deep.DeepCutAuto
set_option linter.unusedVariables false
set_option maxRecDepth 100000
namespace Go.Proofs.YtepjdiocicmjcaaDoor
open Go.RowKit
open Go.OpenShut
/-- a record is appended to a row of the call's own -/
theorem append_rec {w : World} {ops : Array Oper} {rest : List Oper} {o : Oper} {a : Act} {Q : Exit → Act → World → Prop} (hgd : o.guard = none) (s x : Operand)
    (ho : o.op = .call { callee := .builtin .append, args := #[s, x], argTypes := #[27, 27] }) (B : Nat) (v : Value) (l : List Rc) (hs : a.eval s = v) (hown : Own w B v l.length l)
    (g c : Nat) (r : Rc) (hx : a.eval x = .slice (some ⟨g, 0, none⟩) 1 c) (hc : Blk w g 39 #[.string (bs r.1), .string (bs r.2)]) (hbig : l.length ≤ 1000000) (hB : B ≤ w.heap.size)
    (h : ∀ v' w', Own w' B v' (l ++ [r]).length (l ++ [r]) → w.grownBy w' v.ownBlock → wpList Tryd.prog ops Q rest (a.put o.dst v') w') : wpList Tryd.prog ops Q (o :: rest) a w := by
  obtain ⟨i0, hi, hz0, hz1, hz2⟩ := info_parts info_rec
  refine wpList_append_own _ hgd s x 27 ho B 39 i0 _ 2 32 Tryd.underlying27 hi hz0 hz1 hz2 rfl (by decide) v _ _ hs hown.2 ⟨g, 0, none⟩ 1 c [.string (bs r.1), .string (bs r.2)] hx rfl (fun j q hq => ?_) (fun q hq => ?_) (by unfold maxLen; omega) (by omega) hB ?_
  · rw [Addr.add_lit, Nat.zero_add, hc.cell j, List.getElem?_toArray]; exact hq
  · simp only [List.mem_cons, List.not_mem_nil, or_false] at hq
    rcases hq with rfl | rfl <;> rfl
  · intro v6 w6 hown6 hgrow _
    refine h v6 w6 ⟨rfl, ?_⟩ hgrow
    rw [recC_app, recC_one, List.length_append]
    exact hown6
/-- on the way: the list in block g, the member's rights in the block behind it -/
def Ad (u : World) (mc : Array Value) (L : List Rc) (w : World) : Prop :=
  (∃ v, Blk w u.heap.size 27 #[v] ∧ Own w (u.heap.size + 1) v L.length L) ∧ Blk w (u.heap.size + 1) 23 mc ∧ Below u.heap.size u w
theorem Ad.below {u w w' : World} {mc : Array Value} {L : List Rc} (h : Ad u mc L w) (hb : Below w.heap.size w w') : Ad u mc L w' := by
  obtain ⟨⟨v, h1, h2⟩, h3, h5⟩ := h
  exact ⟨⟨v, h1.below hb h1.lt, h2.below hb⟩, h3.below hb h3.lt, h5.trans (hb.mono (Nat.le_of_lt h1.lt))⟩
theorem Ad.drew_ {u w : World} {mc : Array Value} {L : List Rc} (h : Ad u mc L w) : Ad u mc L w.drew := h.below (Below.refl _ _).drew
theorem Ad.drewN {u w : World} {mc : Array Value} {L : List Rc} (h : Ad u mc L w) (n : Nat) : Ad u mc L (w.drewN n) := h.below (below_drewN (Below.refl _ _) n)
theorem Ad.tab {u w : World} {mc : Array Value} {L : List Rc} (h : Ad u mc L w) (T : Tab u) : Tab w := T.below h.2.2
theorem Ad.blk {u w : World} {mc cs : Array Value} {L : List Rc} {b t : Nat} (h : Ad u mc L w) (hb : Blk u b t cs) : Blk w b t cs := hb.below h.2.2 hb.lt
theorem Ad.new {u : World} {mc : Array Value} : Ad u mc [] ((u.alloc (.cells #[.slice none 0 0] 27)).alloc (.cells mc 23)) := by
  have h1 := Blk.new u 27 #[.slice none 0 0]
  have h2 := Blk.new (u.alloc (.cells #[.slice none 0 0] 27)) 23 mc
  rw [hszA] at h2
  exact ⟨⟨_, h1.alloc _, ⟨rfl, World.ownsRow_nil _ _ _ _⟩⟩, h2, ((Below.refl _ _).alloc (Nat.le_refl _) _).alloc (by rw [hszA]; exact Nat.le_succ _) _⟩
def AdX (u : World) (mc : Array Value) (w : World) : Prop := ∃ L, Ad u mc L w
theorem Ad.x {u w : World} {mc : Array Value} {L : List Rc} (h : Ad u mc L w) : AdX u mc w := ⟨L, h⟩
theorem AdX.drew_ {u w : World} {mc : Array Value} (h : AdX u mc w) : AdX u mc w.drew := by obtain ⟨L, h⟩ := h; exact ⟨L, h.drew_⟩
theorem AdX.below {u w w' : World} {mc : Array Value} (h : AdX u mc w) (hb : Below w.heap.size w w') : AdX u mc w' := by obtain ⟨L, h⟩ := h; exact ⟨L, h.below hb⟩
set_option maxHeartbeats 2000000 in
theorem adds_any {u w : World} {mc : Array Value} {L : List Rc} (H : Ad u mc L w) (hL : L.length ≤ 7) (b : Bool) (K V : ByteArray) :
    Calls Tryd.prog 18 #[.bool b, .string K, .string V, .pointer (some ⟨u.heap.size, 0, none⟩)] w fun e w' => e = .returned (.tuple #[]) ∧ Ad u mc (L ++ recIf b K.data.toList V.data.toList) w' := by
  obtain ⟨⟨v, h1, h2⟩, h3, h5⟩ := H
  obtain ⟨g, hg'⟩ : ∃ g, g = u.heap.size := ⟨_, rfl⟩
  unfold Ad
  rw [← hg'] at h1 h2 h3 h5 ⊢
  clear hg'
  have e0 := h1.cell 0
  simp only [List.getElem?_toArray, List.getElem?_cons_zero] at e0
  have f0 : w.frozen? ⟨g, 0, none⟩ = false := Lib.frozen_of_heap h1 0
  cases b with
  | false =>
    have HA : Hid ((∃ v, Blk w g 27 #[v] ∧ Own w (g + 1) v (L ++ recIf false K.data.toList V.data.toList).length (L ++ recIf false K.data.toList V.data.toList)) ∧ Blk w (g + 1) 23 mc ∧ Below g u w) := by
      unfold Hid recIf
      rw [if_neg (by decide), List.append_nil]
      exact ⟨⟨v, h1, h2⟩, h3, h5⟩
    clear h1 h2 h3 h5 e0 f0
    go_enter Tryd.func18, Tryd.ntmps18
    go_wp2_with fail
    go_end0
    exact ⟨rfl, HA.out⟩
  | true =>
    have hg := h1.lt
    have H1 := Lib.hid h1
    have H2 := Lib.hid h2
    have H3 := Lib.hid h3
    have H5 := Lib.hid h5
    have HR : Hid (L ++ recIf true K.data.toList V.data.toList = L ++ [(K.data.toList, V.data.toList)]) := by unfold Hid recIf; rw [if_pos rfl]
    rw [HR.out]
    clear h1 h2 h3 h5 HR
    go_enter Tryd.func18, Tryd.ntmps18
    go_wp2_with (at_builtin; refine Stay.go ?_)
    refine Stay.on ?_
    have hbn := Blk.new w 39 #[.string (bs K.data.toList), .string (bs V.data.toList)]
    rw [bs_of, bs_of] at hbn
    refine append_rec rfl (.tmp 8) (.tmp 12) rfl (g + 1) v L rfl (H2.out.alloc _) w.heap.size 1 (K.data.toList, V.data.toList) rfl (by simp only [bs_of]; exact hbn) (by omega) (by rw [hszA]; omega) ?_
    intro v7 w7 ho7 hg7
    obtain ⟨A7, c7, rfl⟩ := ho7.form
    have hne : some g ≠ v.ownBlock := fun e => by
      have := (H2.out.above g e.symm); omega
    have b1 := (H1.out.alloc (.cells #[.string K, .string V] 39)).grown hg7 hne
    have hnm : some (g + 1) ≠ v.ownBlock := fun e => by
      obtain ⟨-, cur, hc⟩ := own_block H2.out.2 (g + 1) e.symm
      have h3 := H3.out
      unfold Blk at h3
      rw [hc] at h3
      simp only [Option.some.injEq, Obj.cells.injEq] at h3
      exact absurd h3.2.1 (by decide)
    have b3 := (H3.out.alloc (.cells #[.string K, .string V] 39)).grown hg7 hnm
    have b5 : Below g u w7 := ((H5.out.alloc (Nat.le_of_lt hg) _).grown hg7 (by rw [hszA]; omega) fun g0 e => by have := (H2.out.above g0 e); omega)
    have c0 := b1.cell 0
    simp only [List.getElem?_toArray, List.getElem?_cons_zero] at c0
    have d0 : w7.frozen? ⟨g, 0, none⟩ = false := Lib.frozen_of_heap b1 0
    have HA : Hid ((∃ v, Blk (w7.setCell ⟨g, 0, none⟩ (.slice A7 (L ++ [(K.data.toList, V.data.toList)]).length c7)) g 27 #[v] ∧ Own (w7.setCell ⟨g, 0, none⟩ (.slice A7 (L ++ [(K.data.toList, V.data.toList)]).length c7)) (g + 1) v (L ++ [(K.data.toList, V.data.toList)]).length (L ++ [(K.data.toList, V.data.toList)])) ∧ Blk (w7.setCell ⟨g, 0, none⟩ (.slice A7 (L ++ [(K.data.toList, V.data.toList)]).length c7)) (g + 1) 23 mc ∧ Below g u (w7.setCell ⟨g, 0, none⟩ (.slice A7 (L ++ [(K.data.toList, V.data.toList)]).length c7))) := by
      refine ⟨⟨.slice A7 (L ++ [(K.data.toList, V.data.toList)]).length c7, ?_, ho7.1, ?_⟩, ?_, b5.setCell (p := ⟨g, 0, none⟩) (Nat.le_refl _) _⟩
      · exact b1.set_ 0 _
      · exact ownsRow_setCell_below ho7.2 (a := ⟨g, 0, none⟩) (Nat.lt_succ_self g) _
      · exact (Below.heap_setCell w7 ⟨g, 0, none⟩ _ (g + 1) (by show g + 1 ≠ g; omega)).trans b3
    clear ho7 hg7 b1 b3 b5 hbn hne hnm
    go_wp2_with fail
    go_end0
    refine ⟨rfl, ?_⟩
    have h := HA.out
    simp only [List.length_append, List.length_cons, List.length_nil, Nat.zero_add] at h ⊢
    exact h
theorem Own.mono {w : World} {B B' : Nat} {v : Value} {n : Nat} {l : List Rc} (h : Own w B v n l) (hB : B' ≤ B) : Own w B' v n l := ⟨h.1, own_mono h.2 hB⟩
theorem recIf_le (b : Bool) (k v : List UInt8) : (recIf b k v).length ≤ 1 := by rw [recIf_len]; split <;> omega
theorem app_le {L : List Rc} {n : Nat} (h : L.length ≤ n) (b : Bool) (k v : List UInt8) : (L ++ recIf b k v).length ≤ n + 1 := by rw [List.length_append]; have := recIf_le b k v; omega
theorem late_eq (a b : Int) : decide (b ≠ 0 ∨ a < 0 ∨ 8589934592 ≤ a) = ((b != 0) || (decide (a < 0) || decide (8589934592 ≤ a))) := by
  rw [Bool.eq_iff_iff, decide_eq_true_eq, Bool.or_eq_true, Bool.or_eq_true, bne_iff_ne, decide_eq_true_eq, decide_eq_true_eq]
set_option maxHeartbeats 8000000 in
theorem rRecs_ok (x : EntV) (D : Option Addr) (c : Nat) (hx : x.sz) (h0 : entE x = 0) (w : World) (T : Tab w) :
    Calls Tryd.prog 6 #[.agg (entC x D c).toArray] w fun e w' => ∃ v, e = .returned (.tuple #[v, .int .i64 0]) ∧ Own w' w.heap.size v (recsM x).length (recsM x) ∧ Below w.heap.size w w' := by
  have g := entE_good h0
  have H1 := Lib.hid fun W => rEnt_any x D c hx W
  rw [h0] at H1
  have HTm := Lib.hid fun W TW => stpBRText_any x.md.second x.md.nano W TW
  have HCt := Lib.hid fun W => rTwo_any (bs x.path) W (by rw [bs_size]; unfold maxLen; have := g.path; omega)
  rw [bs_list] at HCt
  have HIg := Lib.hid fun W TW => Itoa_any x.md.gid W TW (by have := g.gid; omega) (by have := g.gid; omega)
  have HIu := Lib.hid fun W TW => Itoa_any x.md.uid W TW (by have := g.uid; omega) (by have := g.uid; omega)
  have HR : Hid (∀ M : ByteArray, (tText x.md.second x.md.nano).1 = M → (((((((([] : List Rc) ++ recIf (decide (2097152 ≤ x.md.gid)) kGid (bs (Lib.itoa x.md.gid)).data.toList) ++ recIf (decide (31 < x.md.group.length)) kGname (bs x.md.group).data.toList) ++ recIf (decide (100 < x.target.length)) kLink (bs x.target).data.toList) ++
    recIf (lateM x) kMtime M.data.toList) ++ recIf (decide ((cutV x.path).2.2 ≠ 0)) kPath (bs x.path).data.toList) ++ recIf (decide (2097152 ≤ x.md.uid)) kUid (bs (Lib.itoa x.md.uid)).data.toList) ++ recIf (decide (31 < x.md.user.length)) kUname (bs x.md.user).data.toList) = recsM x) := by
    rintro M rfl
    unfold recsM
    simp only [List.nil_append, List.append_assoc, bs_list]
  obtain ⟨path, kind, target, ⟨m0, m1, m2, m3, m4, m5, m6⟩, data⟩ := x
  have hlate : lateM ⟨path, kind, target, ⟨m0, m1, m2, m3, m4, m5, m6⟩, data⟩ = ((m6 != 0) || (decide (m5 < 0) || decide (8589934592 ≤ m5))) := late_eq m5 m6
  have z1 := g.path.2.1
  have z2 := g.target.1
  have z3 := g.user.1
  have z4 := g.group.1
  rw [hlate] at HR
  unfold entC at H1 ⊢
  simp only at H1 HTm HCt HIg HIu HR z1 z2 z3 z4 ⊢
  generalize recsM _ = RS at HR ⊢
  clear g h0 hx hlate
  have s2 := bs_size target
  have s3 := bs_size m3
  have s4 := bs_size m4
  obtain ⟨TM, HTM⟩ := hid_name (tText m5 m6).1
  rw [HTM.out] at HTm
  replace HR := Lib.hid (HR.out TM HTM.out)
  generalize (tText m5 m6).2 = te at HTm
  generalize (cutV path).2.2 = ce at HCt HR
  generalize bs (cutV path).1 = cp at HCt
  generalize bs (cutV path).2.1 = cn at HCt
  obtain ⟨IG, HIG⟩ := hid_name (bs (Lib.itoa m2))
  obtain ⟨IU, HIU⟩ := hid_name (bs (Lib.itoa m1))
  rw [HIG.out] at HIg HR
  rw [HIU.out] at HIu HR
  obtain ⟨P, HP⟩ := hid_name (bs path)
  obtain ⟨TG, HTG⟩ := hid_name (bs target)
  obtain ⟨US, HUS⟩ := hid_name (bs m3)
  obtain ⟨GR, HGR⟩ := hid_name (bs m4)
  rw [HP.out] at HCt HR H1 ⊢
  rw [HTG.out] at HR H1 s2 ⊢
  rw [HUS.out] at HR H1 s3 ⊢
  rw [HGR.out] at HR H1 s4 ⊢
  rw [← s2, ← s3, ← s4] at HR
  have y2 : TG.size ≤ 400 := by omega
  have y3 : US.size ≤ 60 := by omega
  have y4 : GR.size ≤ 60 := by omega
  clear HTM HIG HIU HP HTG HUS HGR s2 s3 s4 z1 z2 z3 z4
  generalize hdl : data.length = dl at H1 ⊢
  clear hdl
  have HE0 := Lib.hid (Blk.new w 26 #[.string P, .int .i64 kind, .string TG, .int .i64 m0, .int .i64 m1, .int .i64 m2, .string US, .string GR, .int .i64 m5, .int .i64 m6, .slice D dl c])
  have HW0 : Hid (Below w.heap.size w (w.alloc (.cells #[.string P, .int .i64 kind, .string TG, .int .i64 m0, .int .i64 m1, .int .i64 m2, .string US, .string GR, .int .i64 m5, .int .i64 m6, .slice D dl c] 26))) := (Below.refl _ _).alloc (Nat.le_refl _) _
  go_enter Tryd.func6, Tryd.ntmps6
  go_wp2_with fail
  refine (H1.out _).mono ?_; rintro e u ⟨rfl, hb⟩
  have HE := Lib.hid (HE0.out.below hb HE0.out.lt)
  have HWu := Lib.hid (HW0.out.trans (hb.mono HW0.out.size))
  have HT := Lib.hid (T.below HWu.out)
  clear hb HE0 HW0 H1
  obtain ⟨mc, HMC⟩ : ∃ mc : Array Value, Hid (mc = #[.int .i64 m0, .int .i64 m1, .int .i64 m2, .string US, .string GR, .int .i64 m5, .int .i64 m6]) := ⟨_, rfl⟩
  have HA4 := Lib.hid (Ad.new (u := u) (mc := mc))
  obtain ⟨E0, E1, E2, E3, E4, E5, E6, E7, E8, E9, EA⟩ := blk11 (HE.out.alloc (.cells #[.slice none 0 0] 27))
  go_upto_region 7 with fail
  rw [← HMC.out]
  generalize (u.alloc (.cells #[.slice none 0 0] 27)).alloc (.cells mc 23) = w4 at HA4 ⊢
  clear E0 E1 E2 E3 E4 E5 E6 E7 E8 E9 EA
  have hM : ∀ (W : World) (L : List Rc), Ad u mc L W → Blk W (u.heap.size + 1) 23 #[.int .i64 m0, .int .i64 m1, .int .i64 m2, .string US, .string GR, .int .i64 m5, .int .i64 m6] := fun W L h => by have := h.2.1; rwa [HMC.out] at this
  have HM := Lib.hid hM
  have HEb := Lib.hid fun (W : World) (L : List Rc) (h : Ad u mc L W) => h.blk HE.out
  clear hM
  obtain ⟨⟨E0, E1, E2, E3, E4, E5, E6⟩, -⟩ := blk7 (HM.out _ _ HA4.out)
  go_wp2_with fail
  refine (HTm.out _ (HA4.out.tab HT.out)).mono ?_; rintro e w5 ⟨rfl, hb5⟩
  have HA5 := Lib.hid (HA4.out.below hb5)
  clear hb5 E0 E1 E2 E3 E4 E5 E6 HA4
  obtain ⟨⟨E0, E1, E2, -⟩, -⟩ := blk11 (HEb.out _ _ HA5.out)
  go_wp2_with fail
  refine (HCt.out _).mono ?_; rintro e w6 ⟨rfl, n6, rfl⟩
  have HA6 := Lib.hid (HA5.out.drewN n6)
  generalize w5.drewN n6 = w6 at HA6 ⊢
  clear E0 E1 E2 HA5
  go_upto_region 9 with fail
  go_cut [43] (fun s wx => Ad u mc ([] ++ recIf (decide (2097152 ≤ m2)) kGid IG.data.toList) wx)
  case first =>
    have r0 : ∀ W : World, AdX u mc W → W.cell? ⟨u.heap.size + 1, 2, none⟩ = some (.int .i64 m2) := fun W h => by obtain ⟨L, h⟩ := h; exact (blk7 (HM.out _ _ h)).1.2.2.1
    have HI := Lib.hid fun W (h : AdX u mc W) => HIg.out W (by obtain ⟨L, h⟩ := h; exact h.tab HT.out)
    have HAd := Lib.hid fun W (h : Ad u mc [] W) => adds_any h (by decide) (decide (2097152 ≤ m2)) ⟨#[103, 105, 100]⟩ IG
    have hA := HA6.out
    have hS := hA.x
    go_region_held3 (fun W => AdX u mc W)
      (first
        | (with_reducible assumption)
        | (with_reducible exact Ad.x (by with_reducible assumption))
        | (with_reducible refine AdX.drew_ ?_; with_reducible assumption)
        | (with_reducible exact AdX.below (by with_reducible assumption) (by with_reducible assumption)))
      (first
        | (go_at_call 14; refine (HI.out _ (by first | with_reducible assumption | with_reducible exact AdX.drew_ (by with_reducible assumption))).mono ?_; rintro e w2 ⟨rfl, hb2⟩)
        | (go_at_call 18; refine (HAd.out _ (by first | with_reducible assumption | with_reducible exact Ad.drew_ (by with_reducible assumption) | with_reducible exact Ad.below (by with_reducible assumption) (by with_reducible assumption) | with_reducible exact Ad.below (Ad.drew_ (by with_reducible assumption)) (by with_reducible assumption))).mono ?_; rintro e w3 ⟨rfl, hA3⟩))
    all_goals
      go_wp2_with fail
      go_meet
      exact hA3
  case rest =>
    have hA9 := hcut
    have hl9 : (([] : List Rc) ++ recIf (decide (2097152 ≤ m2)) kGid IG.data.toList).length ≤ 1 := app_le (n := 0) (Nat.le_refl _) _ _ _
    generalize hL9 : ([] : List Rc) ++ recIf (decide (2097152 ≤ m2)) kGid IG.data.toList = L9 at hA9 hl9 HR
    have HA9 := Lib.hid hA9
    clear hcut hA9 hL9 HA6
    -- group
    obtain ⟨⟨E0, E1, E2, E3, E4, E5, E6⟩, -⟩ := blk7 (HM.out _ _ HA9.out)
    go_wp2_with fail
    refine (adds_any HA9.out (Nat.le_trans hl9 (by decide)) _ _ _).mono ?_; rintro e w10 ⟨rfl, hA⟩
    have hl10 := app_le hl9 (decide (31 < GR.size)) kGname GR.data.toList
    have HA10 : Hid (Ad u mc (L9 ++ recIf (decide (31 < GR.size)) kGname GR.data.toList) w10) := by
      refine cast (congrArg (fun b => Ad u mc (L9 ++ recIf b kGname GR.data.toList) w10) ?_) hA
      exact decide_eq_decide.2 (by omega)
    generalize L9 ++ recIf (decide (31 < GR.size)) kGname GR.data.toList = L10 at HA10 hl10 HR
    clear hA E0 E1 E2 E3 E4 E5 E6 HA9 hl9
    -- target
    obtain ⟨⟨E0, E1, E2, -⟩, -⟩ := blk11 (HEb.out _ _ HA10.out)
    go_wp2_with fail
    refine (adds_any HA10.out (Nat.le_trans hl10 (by decide)) _ _ _).mono ?_; rintro e w11 ⟨rfl, hA⟩
    have hl11 := app_le hl10 (decide (100 < TG.size)) kLink TG.data.toList
    have HA11 : Hid (Ad u mc (L10 ++ recIf (decide (100 < TG.size)) kLink TG.data.toList) w11) := by
      refine cast (congrArg (fun b => Ad u mc (L10 ++ recIf b kLink TG.data.toList) w11) ?_) hA
      exact decide_eq_decide.2 (by omega)
    generalize L10 ++ recIf (decide (100 < TG.size)) kLink TG.data.toList = L11 at HA11 hl11 HR
    clear hA E0 E1 E2 HA10 hl10
    -- time
    obtain ⟨⟨E0, E1, E2, E3, E4, E5, E6⟩, -⟩ := blk7 (HM.out _ _ HA11.out)
    have hl12 := app_le hl11 (m6 != 0 || (decide (m5 < 0) || decide (8589934592 ≤ m5))) kMtime TM.data.toList
    generalize hbl : (m6 != 0 || (decide (m5 < 0) || decide (8589934592 ≤ m5))) = bl at hl12 HR
    go_upto_region 12 with fail
    go_cut [75] (fun s wx => Ad u mc (L11 ++ recIf bl kMtime TM.data.toList) wx)
    case first =>
      by_cases k6 : m6 = 0
      · subst k6
        by_cases k5 : m5 < 0
        · obtain rfl : bl = true := by rw [← hbl]; simp [k5]
          have HAd := Lib.hid (adds_any HA11.out (Nat.le_trans hl11 (by decide)) (true) ⟨#[109, 116, 105, 109, 101]⟩ TM)
          go_wp2_with fail
          refine HAd.out.mono ?_; rintro e w12 ⟨rfl, hA⟩
          go_wp2_with fail
          go_meet
          exact hA
        · obtain rfl : bl = decide (8589934592 ≤ m5) := by rw [← hbl]; simp [k5]
          have HAd := Lib.hid (adds_any HA11.out (Nat.le_trans hl11 (by decide)) (decide (8589934592 ≤ m5)) ⟨#[109, 116, 105, 109, 101]⟩ TM)
          go_wp2_with fail
          refine HAd.out.mono ?_; rintro e w12 ⟨rfl, hA⟩
          go_wp2_with fail
          go_meet
          exact hA
      · obtain rfl : bl = true := by rw [← hbl]; simp [k6]
        have k6' : (m6 != 0) = true := by simpa using k6
        have HAd := Lib.hid (adds_any HA11.out (Nat.le_trans hl11 (by decide)) (true) ⟨#[109, 116, 105, 109, 101]⟩ TM)
        go_wp2_with fail
        refine HAd.out.mono ?_; rintro e w12 ⟨rfl, hA⟩
        go_wp2_with fail
        go_meet
        exact hA
    case rest =>
      have HA12 := Lib.hid hcut
      clear hcut hbl E0 E1 E2 E3 E4 E5 E6 HA11 hl11
      generalize L11 ++ recIf bl kMtime TM.data.toList = L12 at HA12 hl12 HR
      -- path
      obtain ⟨⟨E0, E1, E2, -⟩, -⟩ := blk11 (HEb.out _ _ HA12.out)
      go_wp2_with fail
      refine (adds_any HA12.out (Nat.le_trans hl12 (by decide)) _ _ _).mono ?_; rintro e w13 ⟨rfl, hA⟩
      have hl13 := app_le hl12 (decide (ce ≠ 0)) kPath P.data.toList
      have HA13 : Hid (Ad u mc (L12 ++ recIf (decide (ce ≠ 0)) kPath P.data.toList) w13) := by
        refine cast (congrArg (fun b => Ad u mc (L12 ++ recIf b kPath P.data.toList) w13) ?_) hA
        rw [Bool.eq_iff_iff, bne_iff_ne, decide_eq_true_eq]
      generalize L12 ++ recIf (decide (ce ≠ 0)) kPath P.data.toList = L13 at HA13 hl13 HR
      clear hA E0 E1 E2 HA12 hl12
      go_upto_region 14 with fail
      go_cut [89] (fun s wx => Ad u mc (L13 ++ recIf (decide (2097152 ≤ m1)) kUid IU.data.toList) wx)
      case first =>
        have r0 : ∀ W : World, AdX u mc W → W.cell? ⟨u.heap.size + 1, 1, none⟩ = some (.int .i64 m1) := fun W h => by obtain ⟨L, h⟩ := h; exact (blk7 (HM.out _ _ h)).1.2.1
        have HI := Lib.hid fun W (h : AdX u mc W) => HIu.out W (by obtain ⟨L, h⟩ := h; exact h.tab HT.out)
        have HAd := Lib.hid fun W (h : Ad u mc L13 W) => adds_any h (Nat.le_trans hl13 (by decide)) (decide (2097152 ≤ m1)) ⟨#[117, 105, 100]⟩ IU
        have hA := HA13.out
        have hS := hA.x
        go_region_held3 (fun W => AdX u mc W)
          (first
            | (with_reducible assumption)
            | (with_reducible exact Ad.x (by with_reducible assumption))
            | (with_reducible refine AdX.drew_ ?_; with_reducible assumption)
            | (with_reducible exact AdX.below (by with_reducible assumption) (by with_reducible assumption)))
          (first
            | (go_at_call 14; refine (HI.out _ (by first | with_reducible assumption | with_reducible exact AdX.drew_ (by with_reducible assumption))).mono ?_; rintro e w2 ⟨rfl, hb2⟩)
            | (go_at_call 18; refine (HAd.out _ (by first | with_reducible assumption | with_reducible exact Ad.drew_ (by with_reducible assumption) | with_reducible exact Ad.below (by with_reducible assumption) (by with_reducible assumption) | with_reducible exact Ad.below (Ad.drew_ (by with_reducible assumption)) (by with_reducible assumption))).mono ?_; rintro e w3 ⟨rfl, hA3⟩))
        all_goals
          go_wp2_with fail
          go_meet
          exact hA3
      case rest =>
        have HA14 := Lib.hid hcut
        have hl14 := app_le hl13 (decide (2097152 ≤ m1)) kUid IU.data.toList
        generalize L13 ++ recIf (decide (2097152 ≤ m1)) kUid IU.data.toList = L14 at HA14 hl14 HR
        clear hcut HA13 hl13
        obtain ⟨⟨E0, E1, E2, E3, E4, E5, E6⟩, -⟩ := blk7 (HM.out _ _ HA14.out)
        go_wp2_with fail
        refine (adds_any HA14.out (Nat.le_trans hl14 (by decide)) _ _ _).mono ?_; rintro e w15 ⟨rfl, hA⟩
        have HA15 : Hid (Ad u mc (L14 ++ recIf (decide (31 < US.size)) kUname US.data.toList) w15) := by
          refine cast (congrArg (fun b => Ad u mc (L14 ++ recIf b kUname US.data.toList) w15) ?_) hA
          exact decide_eq_decide.2 (by omega)
        rw [HR.out] at HA15
        clear hA E0 E1 E2 E3 E4 E5 E6 HA14 hl14 HR
        obtain ⟨⟨v, hv1, hv2⟩, -, hv3⟩ := HA15.out
        obtain ⟨A9, c9, rfl⟩ := hv2.form
        have e0 := hv1.cell 0
        simp only [List.getElem?_toArray, List.getElem?_cons_zero] at e0
        have HO := Lib.hid (hv2.mono (Nat.le_trans HWu.out.size (Nat.le_succ _)))
        have HB := Lib.hid (HWu.out.trans (hv3.mono HWu.out.size))
        generalize hn9 : RS.length = n9 at e0 HO
        clear hv1 hv2 hv3 HA15
        go_wp2_with fail
        refine bodyPost_ret (v := .tuple #[.slice A9 n9 c9, .int .i64 0]) (by simp [results, Tryd.results6, go_sem, *]) rfl ?_
        exact ⟨_, rfl, by rw [hn9]; exact HO.out, HB.out⟩
end Go.Proofs.YtepjdiocicmjcaaDoor
