/- The reference's putting. -/
import Derived.Test.YtggbjpjmedkjeaaDoorTrgI
import Derived.Test.YtggbjpjmedkjeaaDoorNodH
set_option linter.unusedVariables false
set_option maxRecDepth 100000
namespace Go.Proofs.YtggbjpjmedkjeaaDoor
open Go.RowKit
open Go.OpenShut
/-- what stands behind k nodes: those ahead are less, or the node is in -/
def PutAt (l : List NodeV) (x : NodeV) (k : Nat) (dn : Bool) (r : List NodeV) : Prop :=
  match dn with
  | false => r = l.take k ∧ AllLt (l.take k) x.path
  | true => r = putL (l.take k) x ∧ ¬ AllLt (l.take k) x.path
theorem PutAt.start (l : List NodeV) (x : NodeV) : PutAt l x 0 false [] := ⟨by rw [List.take_zero], by rw [List.take_zero]; intro y hy; cases hy⟩
theorem PutAt.lt {l : List NodeV} {x : NodeV} {k : Nat} {r : List NodeV} (h : PutAt l x k false r) (hk : k < l.length) (hc : pcmp l[k].path x.path < 0) : PutAt l x (k + 1) false (r ++ [l[k]]) := by
  obtain ⟨h1, h2⟩ := h
  refine ⟨by rw [h1, List.take_succ_eq_append_getElem hk], ?_⟩
  rw [List.take_succ_eq_append_getElem hk]; exact allLt_snoc h2 hc
theorem PutAt.not {l : List NodeV} {x : NodeV} {k : Nat} (hk : k < l.length) (hc : ¬ pcmp l[k].path x.path < 0) : ¬ AllLt (l.take (k + 1)) x.path := by
  rw [List.take_succ_eq_append_getElem hk]
  intro h
  exact hc (h l[k] (List.mem_append_right _ (List.mem_singleton.2 rfl)))
theorem PutAt.eq {l : List NodeV} {x : NodeV} {k : Nat} {r : List NodeV} (h : PutAt l x k false r) (hk : k < l.length) (hc : pcmp l[k].path x.path = 0) : PutAt l x (k + 1) true (r ++ [x]) := by
  obtain ⟨h1, h2⟩ := h
  refine ⟨?_, PutAt.not hk (by omega)⟩
  rw [List.take_succ_eq_append_getElem hk, putL_eq h2 hc, h1]
theorem PutAt.gt {l : List NodeV} {x : NodeV} {k : Nat} {r : List NodeV} (h : PutAt l x k false r) (hk : k < l.length) (hc : 0 < pcmp l[k].path x.path) : PutAt l x (k + 1) true (r ++ [x] ++ [l[k]]) := by
  obtain ⟨h1, h2⟩ := h
  refine ⟨?_, PutAt.not hk (by omega)⟩
  rw [List.take_succ_eq_append_getElem hk, putL_gt hc, putL_lt h2, h1]
theorem PutAt.more {l : List NodeV} {x : NodeV} {k : Nat} {r : List NodeV} (h : PutAt l x k true r) (hk : k < l.length) (hc : 0 < pcmp l[k].path x.path) : PutAt l x (k + 1) true (r ++ [l[k]]) := by
  obtain ⟨h1, h2⟩ := h
  refine ⟨?_, PutAt.not hk (by omega)⟩
  rw [List.take_succ_eq_append_getElem hk, putL_gt hc, h1]
theorem PutAt.end_no {l : List NodeV} {x : NodeV} {r : List NodeV} (h : PutAt l x l.length false r) : r ++ [x] = putL l x := by
  obtain ⟨h1, h2⟩ := h
  rw [List.take_length] at h1 h2
  rw [putL_lt h2, h1]
theorem PutAt.end_yes {l : List NodeV} {x : NodeV} {r : List NodeV} (h : PutAt l x l.length true r) : r = putL l x := by
  obtain ⟨h1, h2⟩ := h
  rw [List.take_length] at h1
  exact h1
theorem PutAt.len {l : List NodeV} {x : NodeV} {k : Nat} {dn : Bool} {r : List NodeV} (hk : k ≤ l.length) (h : PutAt l x k dn r) : r.length ≤ k + 1 := by
  have e : (l.take k).length = k := by rw [List.length_take]; omega
  cases dn with
  | false => rw [h.1, e]; omega
  | true =>
    rw [h.1]
    unfold putL
    rw [List.length_append, List.length_cons]
    have h1 : ∀ (t : List NodeV), (t.filter fun y => decide (pcmp y.path x.path < 0)).length + (t.filter fun y => decide (0 < pcmp y.path x.path)).length ≤ t.length := fun t => by
      induction t with
      | nil => simp
      | cons a t ih =>
        rw [List.filter_cons, List.filter_cons, List.length_cons]
        split <;> split <;> simp_all <;> omega
    have := h1 (l.take k)
    omega
/-- what stands in a round: the row, the node's box -/
def PtS (w : World) (bx : Array Value) (ov : Value) (xs : List NodP) (W : World) : Prop := RowN W (w.heap.size + 1) ov xs ∧ Blk W w.heap.size 26 bx ∧ Below w.heap.size w W
theorem PtS.below {w W W' : World} {bx : Array Value} {ov : Value} {xs : List NodP} (h : PtS w bx ov xs W) (hb : Below W.heap.size W W') : PtS w bx ov xs W' :=
  ⟨h.1.below hb, h.2.1.below hb h.2.1.lt, h.2.2.trans (hb.mono h.2.2.size)⟩
theorem PtS.push {w W : World} {bx : Array Value} {ov v' : Value} {xs ys : List NodP} {o : Obj} {w6 : World} (h : PtS w bx ov xs W) (hr : RowN w6 (w.heap.size + 1) v' ys) (hg : (W.alloc o).grownBy w6 ov.ownBlock) : PtS w bx v' ys w6 := by
  refine ⟨hr, (h.2.1.alloc o).grown hg fun e => ?_, (h.2.2.alloc h.2.2.size o).grown hg ?_ fun g e => ?_⟩
  · have := h.1.above _ e.symm; omega
  · rw [hszA]; have := h.2.2.size; omega
  · have := h.1.above _ e; omega
theorem PtS.other {w W : World} {ov : Value} {xs : List NodP} {o : Obj} {w6 : World} {g : Nat} {cs : Array Value} (h : RowN W (w.heap.size + 1) ov xs) (hg : (W.alloc o).grownBy w6 ov.ownBlock) (hb : Blk W g 26 cs) (hne : ∀ g', ov.ownBlock = some g' → g' ≠ g) : Blk w6 g 26 cs :=
  (hb.alloc o).grown hg fun e => hne g e.symm rfl
theorem row_lt {w W : World} {B : Nat} {ov : Value} {xs : List NodP} (h : RowN W B ov xs) : ∀ g', ov.ownBlock = some g' → g' < W.heap.size := fun g' e => (World.ownsRow.lt h g' e).2
set_option maxHeartbeats 16000000 in
theorem rPut_any (A : Option Addr) (n c : Nat) (l : List NodeV) (hn : l.length = n) (hc : SlOk A n c) (hsz : ∀ x ∈ l, x.sz) (x : NodeV) (D : Option Addr) (cx : Nat) (hx : x.sz) (hxp : x.path.length ≤ 8000000000000) (hs : SlOk D x.data.length cx) (w : World) (hA : NodesAt w A l) (hD : BytsAt w D x.data) :
    Calls Tryd.prog 16 #[.slice A n c, .agg (nodC x D cx).toArray] w fun e w' => ∃ v xs, e = .returned (.tuple #[v, .int .i64 (putT l x).2]) ∧ xs.map (·.1) = (putT l x).1 ∧ OwnN w' w.heap.size v xs ∧ Below w.heap.size w w' := by
  have HN := Lib.hid hn
  have HA := Lib.hid hA
  have HD := Lib.hid hD
  have HSZ := Lib.hid hsz
  have HS := Lib.hid hs
  have HX := Lib.hid hx
  have hps : (bs x.path).size ≤ 8000000000000 := by rw [bs_size]; exact hxp
  have hb0 := Blk.new w 26 (nodA x D cx)
  have hw0 : Below w.heap.size w (w.alloc (.cells (nodA x D cx) 26)) := belowA (Below.refl _ _) _
  have HCk0 := Lib.hid (rTree_any A n c l hn hc hsz _ (hA.below hw0))
  clear hn hA hD hsz hs hc hx hxp
  by_cases h0 : treeE l = 0
  · have HPB := Lib.hid fun h2 => putT_bad2 (x := x) h0 h2
    have HPO := Lib.hid fun h2 => putT_ok (x := x) h0 h2
    rw [h0] at HCk0
    obtain ⟨hle, hsnd⟩ := (treeE_zero l).1 h0
    rw [HN.out] at hle
    have HSN := Lib.hid hsnd
    clear h0 hsnd
    unfold nodC
    unfold nodA at hb0 hw0 HCk0
    have HOr := Lib.hid fun (q : List UInt8) (hq : q.length ≤ 400) W => rOrder_any (bs q) (bs x.path) W (by rw [bs_size]; omega) hps
    simp only [bs_list] at HOr
    have HXP : Hid (bs x.path = bs x.path) := rfl
    obtain ⟨P, hP⟩ := hid_name (bs x.path)
    rw [hP.out] at HOr hb0 hw0 HCk0 ⊢
    go_enter Tryd.func16, Tryd.ntmps16
    go_wp2_with fail
    refine HCk0.out.mono ?_; rintro e w1 ⟨rfl, hb⟩
    have HP0 : Hid (PtS w #[.string P, .int .i64 x.kind, .int .i64 x.same, .string (bs x.target), .int .i64 x.md.mode, .int .i64 x.md.uid, .int .i64 x.md.gid, .string (bs x.md.user), .string (bs x.md.group), .int .i64 x.md.second, .int .i64 x.md.nano, .slice D x.data.length cx] (.slice none 0 0) [] w1) := ⟨RowN.nil _ _, hb0.below hb hb0.lt, hw0.trans (hb.mono hw0.size)⟩
    clear hb0 hw0 hb HCk0
    go_wp2_with fail
    go_loopw [7, 8, 20] (fun ov dv iv wr => ∃ (k : Nat) (dn : Bool) (xs : List NodP), k ≤ n ∧ iv = .int .i64 k ∧ dv = .bool dn ∧ Hid (PtS w #[.string P, .int .i64 x.kind, .int .i64 x.same, .string (bs x.target), .int .i64 x.md.mode, .int .i64 x.md.uid, .int .i64 x.md.gid, .string (bs x.md.user), .string (bs x.md.group), .int .i64 x.md.second, .int .i64 x.md.nano, .slice D x.data.length cx] ov xs wr) ∧ Hid (PutAt l x k dn (xs.map (·.1))) ∧ Hid (∀ y ∈ xs, DatOk w y.2 y.1.data)) (fun _ _ iv _ => n - (intOf iv).toNat)
    case atStart => exact ⟨0, false, [], Nat.zero_le _, rfl, rfl, HP0.out, PutAt.start l x, fun y hy => by cases hy⟩
    case round =>
      obtain ⟨k, dn, xs, hk, rfl, rfl, HP, HQ, HDT⟩ := hrel
      by_cases hlt : k < n
      · have hk1 : k < l.length := by rw [HN.out]; exact hlt
        obtain ⟨b, o, E, cc, rfl, hb1, hSl, hE, hcl⟩ := HA.out.cells2 k hk1
        obtain ⟨c0, c1, c2', c3, ⟨c4, c5, c6, c7, c8, c9, cA⟩, cB⟩ := hcl wr HP.out.2.2
        have hlen : xs.length ≤ k + 1 := by
          have := HQ.out.len (by omega)
          rwa [List.length_map] at this
        have hyp : l[k].path.length ≤ 400 := path_len (HSN.out.node _ (List.getElem_mem hk1))
        have HO := Lib.hid (HOr.out l[k].path hyp)
        have HLT := Lib.hid fun (h : dn = false) hc => PutAt.lt (h ▸ HQ.out) hk1 hc
        have HEQ := Lib.hid fun (h : dn = false) hc => PutAt.eq (h ▸ HQ.out) hk1 hc
        have HGT := Lib.hid fun (h : dn = false) hc => PutAt.gt (h ▸ HQ.out) hk1 hc
        have HMR := Lib.hid fun (h : dn = true) hc => PutAt.more (h ▸ HQ.out) hk1 hc
        have HBG : Hid (dn = true → 0 < pcmp l[k].path x.path) := fun h => by
          have h2 := HQ.out
          subst h
          exact behind_gt HSN.out.rises k hk1 h2.2
        have hbd := pcmp_bd l[k].path x.path
        have HYD : Hid (DatOk w (.slice E l[k].data.length cc) l[k].data) := ⟨E, cc, rfl, hSl, hE⟩
        have HXD : Hid (DatOk w (.slice D x.data.length cx) x.data) := ⟨D, cx, rfl, HS.out, HD.out⟩
        generalize hy : l[k] = y at *
        obtain ⟨r, hr⟩ : ∃ r, r = pcmp y.path x.path := ⟨_, rfl⟩
        rw [← hr] at HO HLT HEQ HGT HMR HBG hbd
        obtain ⟨Q, hQ⟩ := hid_name (bs y.path)
        rw [hQ.out] at HO c0
        clear hy hr hcl hSl hE hb1 hyp
        go_upto_region 9 with fail
        have HBl := Lib.hid (Blk.new wr 26 #[.string Q, .int .i64 y.kind, .int .i64 y.same, .string (bs y.target), .int .i64 y.md.mode, .int .i64 y.md.uid, .int .i64 y.md.gid, .string (bs y.md.user), .string (bs y.md.group), .int .i64 y.md.second, .int .i64 y.md.nano, .slice E y.data.length cc])
        have HPa := Lib.hid (HP.out.below (belowA (Below.refl wr.heap.size wr) (.cells #[.string Q, .int .i64 y.kind, .int .i64 y.same, .string (bs y.target), .int .i64 y.md.mode, .int .i64 y.md.uid, .int .i64 y.md.gid, .string (bs y.md.user), .string (bs y.md.group), .int .i64 y.md.second, .int .i64 y.md.nano, .slice E y.data.length cc] 26)))
        have HRL := Lib.hid (row_lt (w := w) HP.out.1)
        generalize hwa : wr.alloc _ = wa at HBl HPa ⊢
        obtain ⟨⟨e0, e1, e2, e3, e4, e5, e6, e7, e8, e9, eA, eB⟩, -⟩ := blk12 HBl.out
        obtain ⟨⟨q0, q1, q2, q3, q4, q5, q6, q7, q8, q9, qA, qB⟩, -⟩ := blk12 HPa.out.2.1
        clear hwa c0 c1 c2' c3 c4 c5 c6 c7 c8 c9 cA cB
        go_wp2_with fail
        refine (HO.out _).mono ?_; rintro e w4 ⟨rfl, hb4⟩
        have HP4 := Lib.hid (HPa.out.below hb4)
        have HB4 := Lib.hid (HBl.out.below hb4 HBl.out.lt)
        clear hb4 e0 e1 e2 e3 e4 e5 e6 e7 e8 e9 eA eB q0 q1 q2 q3 q4 q5 q6 q7 q8 q9 qA qB HPa HBl HP
        obtain ⟨⟨e0, e1, e2, e3, e4, e5, e6, e7, e8, e9, eA, eB⟩, -⟩ := blk12 HB4.out
        obtain ⟨⟨q0, q1, q2, q3, q4, q5, q6, q7, q8, q9, qA, qB⟩, -⟩ := blk12 HP4.out.2.1
        have h40 : xs.length ≤ 41 := by omega
        cases dn with
        | true =>
          have hr0 := HBG.out rfl
          have HNX := Lib.hid (HMR.out rfl hr0)
          have hr1 : (r != 0) = true := by simp; omega
          clear HLT HEQ HGT HMR HBG
          go_wp2_with (at_builtin; refine Stay.go ?_)
          refine Stay.on ?_
          refine append_nodes rfl (.tmp 41) (.tmp 43) rfl (w.heap.size + 1) _ xs rfl (HP4.out.1.alloc _) (some ⟨w4.heap.size, 0, none⟩) 1 1 [(y, .slice E y.data.length cc)] rfl rfl (by rw [← hQ.out]; exact cells_new w4 (y, .slice E y.data.length cc)) (by simp [Value.oneCell']) (fun e => by cases e) (by omega) (by simp; have := HP4.out.2.1.lt; omega) ?_
          intro v6 w6 ho6 hg6
          have HP6 := Lib.hid (HP4.out.push ho6 hg6)
          have HD6 : Hid (∀ z ∈ xs ++ [((y, .slice E y.data.length cc) : NodP)], DatOk w z.2 z.1.data) := fun z hz => by
            rcases List.mem_append.1 hz with a | a
            · exact HDT.out z a
            · obtain rfl : z = (y, .slice E y.data.length cc) := by simpa using a
              exact HYD.out
          have HQ6 : Hid (PutAt l x (k + 1) true ((xs ++ [((y, .slice E y.data.length cc) : NodP)]).map (·.1))) := by
            unfold Hid; rw [List.map_append]; exact HNX.out
          clear ho6 hg6 e0 e1 e2 e3 e4 e5 e6 e7 e8 e9 eA eB q0 q1 q2 q3 q4 q5 q6 q7 q8 q9 qA qB
          go_wp2_with fail
          go_roundw
          case rel => exact ⟨k + 1, true, _, by omega, by go_num, rfl, HP6, HQ6, HD6⟩
          case measure => simp [intOf]; omega
        | false =>
          rcases (show r < 0 ∨ r = 0 ∨ 0 < r by omega) with hr0 | hr0 | hr0
          · have HNX := Lib.hid (HLT.out rfl hr0)
            have hr1 : (r != 0) = true := by simp; omega
            clear HLT HEQ HGT HMR HBG
            go_wp2_with (at_builtin; refine Stay.go ?_)
            refine Stay.on ?_
            refine append_nodes rfl (.tmp 41) (.tmp 43) rfl (w.heap.size + 1) _ xs rfl (HP4.out.1.alloc _) (some ⟨w4.heap.size, 0, none⟩) 1 1 [(y, .slice E y.data.length cc)] rfl rfl (by rw [← hQ.out]; exact cells_new w4 (y, .slice E y.data.length cc)) (by simp [Value.oneCell']) (fun e => by cases e) (by omega) (by simp; have := HP4.out.2.1.lt; omega) ?_
            intro v6 w6 ho6 hg6
            have HP6 := Lib.hid (HP4.out.push ho6 hg6)
            have HD6 : Hid (∀ z ∈ xs ++ [((y, .slice E y.data.length cc) : NodP)], DatOk w z.2 z.1.data) := fun z hz => by
              rcases List.mem_append.1 hz with a | a
              · exact HDT.out z a
              · obtain rfl : z = (y, .slice E y.data.length cc) := by simpa using a
                exact HYD.out
            have HQ6 : Hid (PutAt l x (k + 1) false ((xs ++ [((y, .slice E y.data.length cc) : NodP)]).map (·.1))) := by
              unfold Hid; rw [List.map_append]; exact HNX.out
            clear ho6 hg6 e0 e1 e2 e3 e4 e5 e6 e7 e8 e9 eA eB q0 q1 q2 q3 q4 q5 q6 q7 q8 q9 qA qB
            go_wp2_with fail
            go_roundw
            case rel => exact ⟨k + 1, false, _, by omega, by go_num, rfl, HP6, HQ6, HD6⟩
            case measure => simp [intOf]; omega
          · have HNX := Lib.hid (HEQ.out rfl hr0)
            clear HLT HEQ HGT HMR HBG
            subst hr0
            go_wp2_with (at_builtin; refine Stay.go ?_)
            refine Stay.on ?_
            refine append_nodes rfl (.tmp 35) (.tmp 37) rfl (w.heap.size + 1) _ xs rfl (HP4.out.1.alloc _) (some ⟨w4.heap.size, 0, none⟩) 1 1 [(x, .slice D x.data.length cx)] rfl rfl (by rw [← hP.out]; exact cells_new w4 (x, .slice D x.data.length cx)) (by simp [Value.oneCell']) (fun e => by cases e) (by omega) (by simp; have := HP4.out.2.1.lt; omega) ?_
            intro v6 w6 ho6 hg6
            have HP6 := Lib.hid (HP4.out.push ho6 hg6)
            have HD6 : Hid (∀ z ∈ xs ++ [((x, .slice D x.data.length cx) : NodP)], DatOk w z.2 z.1.data) := fun z hz => by
              rcases List.mem_append.1 hz with a | a
              · exact HDT.out z a
              · obtain rfl : z = (x, .slice D x.data.length cx) := by simpa using a
                exact HXD.out
            have HQ6 : Hid (PutAt l x (k + 1) true ((xs ++ [((x, .slice D x.data.length cx) : NodP)]).map (·.1))) := by
              unfold Hid; rw [List.map_append]; exact HNX.out
            clear ho6 hg6 e0 e1 e2 e3 e4 e5 e6 e7 e8 e9 eA eB q0 q1 q2 q3 q4 q5 q6 q7 q8 q9 qA qB
            go_wp2_with fail
            go_roundw
            case rel => exact ⟨k + 1, true, _, by omega, by go_num, rfl, HP6, HQ6, HD6⟩
            case measure => simp [intOf]; omega
          · have HNX := Lib.hid (HGT.out rfl hr0)
            have hr1 : (r != 0) = true := by simp; omega
            clear HLT HEQ HGT HMR HBG
            go_wp2_with (at_builtin; refine Stay.go ?_)
            refine Stay.on ?_
            refine append_nodes rfl (.tmp 35) (.tmp 37) rfl (w.heap.size + 1) _ xs rfl (HP4.out.1.alloc _) (some ⟨w4.heap.size, 0, none⟩) 1 1 [(x, .slice D x.data.length cx)] rfl rfl (by rw [← hP.out]; exact cells_new w4 (x, .slice D x.data.length cx)) (by simp [Value.oneCell']) (fun e => by cases e) (by omega) (by simp; have := HP4.out.2.1.lt; omega) ?_
            intro v6 w6 ho6 hg6
            have HP6 := Lib.hid (HP4.out.push ho6 hg6)
            have HD6 : Hid (∀ z ∈ xs ++ [((x, .slice D x.data.length cx) : NodP)], DatOk w z.2 z.1.data) := fun z hz => by
              rcases List.mem_append.1 hz with a | a
              · exact HDT.out z a
              · obtain rfl : z = (x, .slice D x.data.length cx) := by simpa using a
                exact HXD.out
            have HB6 := Lib.hid (PtS.other HP4.out.1 hg6 HB4.out (fun g' e => by have := HRL.out g' e; omega))
            have hl6 : (xs ++ [((x, .slice D x.data.length cx) : NodP)]).length ≤ 42 := by rw [List.length_append]; simp; omega
            clear ho6 hg6 e0 e1 e2 e3 e4 e5 e6 e7 e8 e9 eA eB q0 q1 q2 q3 q4 q5 q6 q7 q8 q9 qA qB
            obtain ⟨⟨e0, e1, e2, e3, e4, e5, e6, e7, e8, e9, eA, eB⟩, -⟩ := blk12 HB6.out
            go_wp2_with (at_builtin; refine Stay.go ?_)
            refine Stay.on ?_
            refine append_nodes rfl (.tmp 41) (.tmp 43) rfl (w.heap.size + 1) _ (xs ++ [(x, .slice D x.data.length cx)]) rfl (HP6.out.1.alloc _) (some ⟨w6.heap.size, 0, none⟩) 1 1 [(y, .slice E y.data.length cc)] rfl rfl (by rw [← hQ.out]; exact cells_new w6 (y, .slice E y.data.length cc)) (by simp [Value.oneCell']) (fun e => by cases e) (by omega) (by simp; have := HP6.out.2.1.lt; omega) ?_
            intro v7 w7 ho7 hg7
            have HP7 := Lib.hid (HP6.out.push ho7 hg7)
            have HD7 : Hid (∀ z ∈ (xs ++ [((x, .slice D x.data.length cx) : NodP)]) ++ [((y, .slice E y.data.length cc) : NodP)], DatOk w z.2 z.1.data) := fun z hz => by
              rcases List.mem_append.1 hz with a | a
              · exact HD6.out z a
              · obtain rfl : z = (y, .slice E y.data.length cc) := by simpa using a
                exact HYD.out
            have HQ7 : Hid (PutAt l x (k + 1) true ((xs ++ [((x, .slice D x.data.length cx) : NodP)] ++ [((y, .slice E y.data.length cc) : NodP)]).map (·.1))) := by
              unfold Hid; rw [List.map_append, List.map_append]; exact HNX.out
            clear ho7 hg7 e0 e1 e2 e3 e4 e5 e6 e7 e8 e9 eA eB hl6
            go_wp2_with fail
            go_roundw
            case rel => exact ⟨k + 1, true, _, by omega, by go_num, rfl, HP7, HQ7, HD7⟩
            case measure => simp [intOf]; omega
      · obtain rfl : k = n := by omega
        have hlen : xs.length ≤ k + 1 := by
          have := HQ.out.len (by rw [HN.out]; omega)
          rwa [List.length_map] at this
        cases dn with
        | true =>
          have HM : Hid (xs.map (·.1) = putL l x) := by
            have h2 := HQ.out
            rw [← HN.out] at h2
            exact h2.end_yes
          obtain ⟨A3, c3, he3, hs3, hat3⟩ := HP.out.1.at fun y hy => (HDT.out y hy).below HP.out.2.2
          have hlen3 : xs.length = (putL l x).length := by rw [← HM.out, List.length_map]
          have hpl : (putL l x).length ≤ 42 := by rw [← hlen3]; omega
          rw [HM.out] at hat3
          rw [hlen3] at hs3 he3
          subst he3
          have hszp : ∀ y ∈ putL l x, y.sz := fun y hy => by
            rcases mem_putL.1 hy with rfl | ⟨a, -⟩
            · exact HX.out
            · exact HSZ.out y a
          have HCk2 := Lib.hid fun W h => rTree_any A3 _ c3 (putL l x) rfl hs3 hszp W h
          have HCp2 := Lib.hid fun W h => rCopy_any A3 _ c3 (putL l x) rfl (by omega) hszp W h
          have HA3 := Lib.hid hat3
          have HB3 := Lib.hid HP.out.2.2
          obtain ⟨pl, hplv⟩ := hid_name (putL l x).length
          rw [hplv.out] at HCk2 HCp2
          have hpl2 : pl ≤ 42 := by rw [← hplv.out]; exact hpl
          try rw [hplv.out]
          clear hs3 hat3 hlen3 hpl hszp
          by_cases h2 : treeE (putL l x) = 0
          · have HV := Lib.hid (HPO.out h2)
            rw [h2] at HCk2
            clear HPB HPO h2
            go_wp2_with fail
            refine (HCk2.out _ HA3.out).mono ?_; rintro e4 wA ⟨rfl, hb4⟩
            have HB4 := Lib.hid (HB3.out.trans (hb4.mono HB3.out.size))
            have HA4 := Lib.hid (HA3.out.below hb4)
            clear hb4
            go_wp2_with fail
            refine (HCp2.out _ HA4.out).mono ?_; rintro e5 wB ⟨v5, xs5, rfl, hxs5, hO5, hb5⟩
            have HB5 := Lib.hid (HB4.out.trans (hb5.mono HB4.out.size))
            have HO5 := Lib.hid (hO5.mono HB4.out.size)
            have HX5 := Lib.hid hxs5
            clear hb5 hO5 hxs5
            go_wp2_with fail
            go_ret2
            exact ⟨_, xs5, by rw [HV.out]; rfl, by rw [HV.out]; exact HX5.out, HO5.out, HB5.out⟩
          · have HV := Lib.hid (HPB.out h2)
            have h3 : (treeE (putL l x) != 0) = true := by simpa using h2
            generalize treeE (putL l x) = tt at *
            clear HPB HPO h2
            go_wp2_with fail
            refine (HCk2.out _ HA3.out).mono ?_; rintro e4 wA ⟨rfl, hb4⟩
            have HB4 := Lib.hid (HB3.out.trans (hb4.mono HB3.out.size))
            clear hb4
            go_wp2_with fail
            go_ret2
            exact ⟨_, [], by rw [HV.out]; rfl, by rw [HV.out]; rfl, OwnN.nil _ _, HB4.out⟩
        | false =>
          have HM : Hid ((xs ++ [((x, .slice D x.data.length cx) : NodP)]).map (·.1) = putL l x) := by
            have h2 := HQ.out
            rw [← HN.out] at h2
            unfold Hid
            rw [List.map_append]
            exact h2.end_no
          have HXD : Hid (DatOk w (.slice D x.data.length cx) x.data) := ⟨D, cx, rfl, HS.out, HD.out⟩
          obtain ⟨⟨q0, q1, q2, q3, q4, q5, q6, q7, q8, q9, qA, qB⟩, -⟩ := blk12 HP.out.2.1
          go_wp2_with (at_builtin; refine Stay.go ?_)
          refine Stay.on ?_
          refine append_nodes rfl (.tmp 48) (.tmp 50) rfl (w.heap.size + 1) _ xs rfl (HP.out.1.alloc _) (some ⟨wr.heap.size, 0, none⟩) 1 1 [(x, .slice D x.data.length cx)] rfl rfl (by rw [← hP.out]; exact cells_new wr (x, .slice D x.data.length cx)) (by simp [Value.oneCell']) (fun e => by cases e) (by omega) (by simp; have := HP.out.2.1.lt; omega) ?_
          intro v6 w6 ho6 hg6
          have HP6 := Lib.hid (HP.out.push ho6 hg6)
          have HD6 : Hid (∀ z ∈ xs ++ [((x, .slice D x.data.length cx) : NodP)], DatOk w z.2 z.1.data) := fun z hz => by
            rcases List.mem_append.1 hz with a | a
            · exact HDT.out z a
            · obtain rfl : z = (x, .slice D x.data.length cx) := by simpa using a
              exact HXD.out
          have hl6 : (xs ++ [((x, .slice D x.data.length cx) : NodP)]).length ≤ 42 := by rw [List.length_append]; simp; omega
          clear ho6 hg6 q0 q1 q2 q3 q4 q5 q6 q7 q8 q9 qA qB
          obtain ⟨A3, c3, he3, hs3, hat3⟩ := HP6.out.1.at fun y hy => (HD6.out y hy).below HP6.out.2.2
          have hlen3 : (xs ++ [((x, .slice D x.data.length cx) : NodP)]).length = (putL l x).length := by rw [← HM.out, List.length_map]
          have hpl : (putL l x).length ≤ 42 := by rw [← hlen3]; omega
          rw [HM.out] at hat3
          rw [hlen3] at hs3 he3
          subst he3
          have hszp : ∀ y ∈ putL l x, y.sz := fun y hy => by
            rcases mem_putL.1 hy with rfl | ⟨a, -⟩
            · exact HX.out
            · exact HSZ.out y a
          have HCk2 := Lib.hid fun W h => rTree_any A3 _ c3 (putL l x) rfl hs3 hszp W h
          have HCp2 := Lib.hid fun W h => rCopy_any A3 _ c3 (putL l x) rfl (by omega) hszp W h
          have HA3 := Lib.hid hat3
          have HB3 := Lib.hid HP6.out.2.2
          obtain ⟨pl, hplv⟩ := hid_name (putL l x).length
          rw [hplv.out] at HCk2 HCp2
          have hpl2 : pl ≤ 42 := by rw [← hplv.out]; exact hpl
          try rw [hplv.out]
          clear hs3 hat3 hlen3 hpl hszp
          by_cases h2 : treeE (putL l x) = 0
          · have HV := Lib.hid (HPO.out h2)
            rw [h2] at HCk2
            clear HPB HPO h2
            go_wp2_with fail
            refine (HCk2.out _ HA3.out).mono ?_; rintro e4 wA ⟨rfl, hb4⟩
            have HB4 := Lib.hid (HB3.out.trans (hb4.mono HB3.out.size))
            have HA4 := Lib.hid (HA3.out.below hb4)
            clear hb4
            go_wp2_with fail
            refine (HCp2.out _ HA4.out).mono ?_; rintro e5 wB ⟨v5, xs5, rfl, hxs5, hO5, hb5⟩
            have HB5 := Lib.hid (HB4.out.trans (hb5.mono HB4.out.size))
            have HO5 := Lib.hid (hO5.mono HB4.out.size)
            have HX5 := Lib.hid hxs5
            clear hb5 hO5 hxs5
            go_wp2_with fail
            go_ret2
            exact ⟨_, xs5, by rw [HV.out]; rfl, by rw [HV.out]; exact HX5.out, HO5.out, HB5.out⟩
          · have HV := Lib.hid (HPB.out h2)
            have h3 : (treeE (putL l x) != 0) = true := by simpa using h2
            generalize treeE (putL l x) = tt at *
            clear HPB HPO h2
            go_wp2_with fail
            refine (HCk2.out _ HA3.out).mono ?_; rintro e4 wA ⟨rfl, hb4⟩
            have HB4 := Lib.hid (HB3.out.trans (hb4.mono HB3.out.size))
            clear hb4
            go_wp2_with fail
            go_ret2
            exact ⟨_, [], by rw [HV.out]; rfl, by rw [HV.out]; rfl, OwnN.nil _ _, HB4.out⟩
  · have HP := Lib.hid (putT_bad (x := x) h0)
    rw [HP.out]
    have h1 : (treeE l != 0) = true := by simpa using h0
    generalize treeE l = t at *
    clear h0
    unfold nodC
    unfold nodA at hb0 hw0 HCk0
    go_enter Tryd.func16, Tryd.ntmps16
    go_wp2_with fail
    refine HCk0.out.mono ?_; rintro e w1 ⟨rfl, hb⟩
    have HB1 := Lib.hid (hw0.trans (hb.mono hw0.size))
    clear hb0 hw0 hb HCk0
    go_wp2_with fail
    go_ret2
    exact ⟨_, [], rfl, rfl, OwnN.nil _ _, HB1.out⟩
end Go.Proofs.YtggbjpjmedkjeaaDoor
