/- The reference's plan of a tree. -/
import Derived.Test.YtoikpnjnljdpaaaGreatDoorEna
import Derived.Test.YtoikpnjnljdpaaaGreatDoorFlb
set_option linter.unusedVariables false
set_option maxRecDepth 100000
namespace Go.Proofs.YtoikpnjnljdpaaaGreatDoor
open Go.RowKit
open Go.OpenShut
/-- a row of members of the call's own, whose data may lie anywhere -/
def FineE (w : World) (B : Nat) (v : Value) (xs : List EntP) : Prop := RowE w B v xs ∧ ∀ y ∈ xs, DatOk w y.2 y.1.data
theorem FineE.nil (w : World) (B : Nat) : FineE w B (.slice none 0 0) [] := ⟨RowE.nil _ _, fun x hx => by simp at hx⟩
theorem FineE.at {w : World} {B : Nat} {v : Value} {xs : List EntP} (h : FineE w B v xs) : ∃ A c, v = .slice A xs.length c ∧ SlOk A xs.length c ∧ EntsAt w A (xs.map (·.1)) := h.1.at h.2
theorem FineE.below {w w' : World} {B : Nat} {v : Value} {xs : List EntP} (h : FineE w B v xs) (hb : Below w.heap.size w w') : FineE w' B v xs := ⟨h.1.below hb, fun y hy => (h.2 y hy).below hb⟩
theorem FineE.mono {w : World} {B B' : Nat} {v : Value} {xs : List EntP} (h : FineE w B v xs) (hB : B' ≤ B) : FineE w B' v xs := ⟨h.1.mono hB, h.2⟩
/-- is the k-th node of the i-th one's file? -/
def eqP (t : List NodeV) (i k : Nat) : Bool := decide (0 < sameAt t i) && decide (sameAt t k = sameAt t i)
/-- the least of the last d places ahead of i that is of the same file -/
def aimK (t : List NodeV) (i : Nat) : Nat → Option Nat
  | 0 => none
  | d + 1 => if eqP t i (i - (d + 1)) = true then some (i - (d + 1)) else aimK t i d
theorem aimK_spec (t : List NodeV) (i : Nat) : ∀ d, d ≤ i → match aimK t i d with
    | none => ∀ j, i - d ≤ j → j < i → eqP t i j = false
    | some m => i - d ≤ m ∧ m < i ∧ eqP t i m = true ∧ ∀ j, i - d ≤ j → j < m → eqP t i j = false := by
  intro d
  induction d with
  | zero => intro _ ; exact fun j h1 h2 => by omega
  | succ d ih =>
    intro hd
    have h := ih (by omega)
    unfold aimK
    by_cases he : eqP t i (i - (d + 1)) = true
    · rw [if_pos he]
      exact ⟨Nat.le_refl _, by omega, he, fun j h1 h2 => by omega⟩
    · rw [if_neg he]
      have he' : eqP t i (i - (d + 1)) = false := by simpa using he
      cases ha : aimK t i d with
      | none =>
        rw [ha] at h
        intro j h1 h2
        by_cases hj : j = i - (d + 1)
        · rw [hj]; exact he'
        · exact h j (by omega) h2
      | some m =>
        rw [ha] at h
        obtain ⟨a, b, c, e⟩ := h
        refine ⟨by omega, b, c, fun j h1 h2 => ?_⟩
        by_cases hj : j = i - (d + 1)
        · rw [hj]; exact he'
        · exact e j (by omega) h2
theorem eqP_eqF {t : List NodeV} {i : Nat} (h0 : 0 < sameAt t i) (k : Nat) : eqP t i k = eqF t k i := by
  unfold eqP eqF
  rw [decide_eq_true h0, Bool.true_and]
  apply decide_eq_decide.2
  exact ⟨fun h => ⟨by omega, h⟩, fun h => h.2⟩
theorem aimK_first (t : List NodeV) (i : Nat) : aimK t i i = if 0 < sameAt t i ∧ firstF t i < i then some (firstF t i) else none := by
  have h := aimK_spec t i i (Nat.le_refl _)
  by_cases h0 : 0 < sameAt t i
  · cases ha : aimK t i i with
    | none =>
      rw [ha] at h
      have hf : firstF t i = i := firstF_stop (Nat.le_refl _) (fun j hj => by rw [← eqP_eqF h0]; exact h j (by omega) hj) (.inl rfl)
      rw [if_neg (by rw [hf]; omega)]
    | some m =>
      rw [ha] at h
      obtain ⟨-, b, c, e⟩ := h
      have hf : firstF t i = m := firstF_stop (by omega) (fun j hj => by rw [← eqP_eqF h0]; exact e j (by omega) hj) (.inr (by rw [← eqP_eqF h0]; exact c))
      rw [hf, if_pos ⟨h0, b⟩]
  · rw [if_neg (fun h => h0 h.1)]
    cases ha : aimK t i i with
    | none => rfl
    | some m =>
      rw [ha] at h
      have := h.2.2.1
      unfold eqP at this
      rw [decide_eq_false h0] at this
      simp at this
/-- what a member under way holds: as the node, or aimed at an earlier one -/
def LnkSt (t : List NodeV) (x : NodeV) (v : Value) (o : Option Nat) (kd : Int) (tg : List UInt8) (dv : Value) : Prop :=
  match o with
  | none => kd = x.kind ∧ tg = x.target ∧ dv = v
  | some j => kd = 4 ∧ tg = ((t[j]?).map NodeV.path).getD [] ∧ dv = .slice none 0 0
theorem LnkSt.plan {t : List NodeV} {i : Nat} (hi : i < t.length) {v : Value} {kd : Int} {tg : List UInt8} {dv : Value} (h : LnkSt t t[i] v (aimK t i i) kd tg dv) :
    planE t i t[i] = ⟨t[i].path, kd, tg, t[i].md, (planE t i t[i]).data⟩ ∧ ((planE t i t[i]).data = t[i].data ∧ dv = v ∨ (planE t i t[i]).data = [] ∧ dv = .slice none 0 0) := by
  rw [aimK_first, sameAt_at hi] at h
  unfold planE
  by_cases hc : 0 < t[i].same ∧ firstF t i < i
  · rw [if_pos hc] at h ⊢
    obtain ⟨rfl, rfl, rfl⟩ := h
    exact ⟨rfl, .inr ⟨rfl, rfl⟩⟩
  · rw [if_neg hc] at h ⊢
    obtain ⟨rfl, rfl, rfl⟩ := h
    exact ⟨rfl, .inl ⟨rfl, rfl⟩⟩
set_option maxHeartbeats 8000000 in
theorem rPlan_ok (A : Option Addr) (n c : Nat) (l : List NodeV) (hn : l.length = n) (hc : SlOk A n c) (hsz : ∀ x ∈ l, x.sz) (h40 : n ≤ 40) (A1 : Option Addr) (n1 c1 : Nat) (qs : List RuleV) (hn1 : qs.length = n1) (hn12 : n1 ≤ 140737488355328) (hok : okR qs) (w : World) (hA : NodesAt w A l) (hA1 : RulesAt w A1 qs) (hE : runE l qs = 0) :
    Calls Tryz.prog 8 #[.slice A n c, .slice A1 n1 c1] w fun e w' => ∃ v xs, e = .returned (.tuple #[v, .int .i64 0]) ∧ xs.map (·.1) = planL (runL l qs) ∧ FineE w' w.heap.size v xs ∧ Below w.heap.size w w' := by
  have H1 := Lib.hid (Filtered_any A n c l hn hc hsz A1 n1 c1 qs hn1 hn12 hok w hA hA1)
  rw [hE] at H1
  have hT40 : (runL l qs).length ≤ 40 := by
    rw [show runL l qs = l.filter (fun x => allF qs x.path) from if_pos hE]
    have := List.length_filter_le (fun x : NodeV => allF qs x.path) l
    omega
  generalize runL l qs = T at H1 hT40
  clear hn hc hsz hn1 hok hA hA1 hE h40
  go_enter Tryz.func8, Tryz.ntmps8
  go_wp2_with fail
  refine H1.out.mono ?_; rintro e w1 ⟨v, xs0, rfl, hm, hO, hB⟩
  have HB1 := Lib.hid hB
  obtain ⟨A9, c9, rfl, hs9, hN9⟩ := hO.at
  rw [hm] at hN9
  have hl9 : xs0.length = T.length := by rw [← hm, List.length_map]
  rw [hl9]
  obtain ⟨m, hm0⟩ : ∃ m, T.length = m := ⟨_, rfl⟩
  rw [hm0] at hT40 ⊢
  have HM0 := Lib.hid hm0
  have HN9 := Lib.hid hN9
  clear hB hO hm hs9 hN9 hl9 hm0 H1
  go_wp2_with fail
  go_loopw [7, 23] (fun ov iv wr => ∃ (i : Nat) (xs : List EntP), i ≤ m ∧ iv = .int .i64 i ∧ xs.length = i ∧ Hid (RowE wr w1.heap.size ov xs) ∧ Hid (xs.map (·.1) = (planL T).take i) ∧ Hid (∀ y ∈ xs, DatOk w1 y.2 y.1.data) ∧ Hid (Below w1.heap.size w1 wr)) (fun _ iv _ => m - (intOf iv).toNat)
  case atStart => exact ⟨0, [], Nat.zero_le _, rfl, rfl, RowE.nil _ _, (by unfold Hid; rw [List.take_zero]; rfl), (fun y hy => by cases hy), Below.refl _ _⟩
  case round =>
    obtain ⟨i, xs, hi, rfl, hxl, HR, HM, HDT, HB⟩ := hrel
    by_cases hlt : i < m
    · have hi1 : i < T.length := by rw [HM0.out]; exact hlt
      obtain ⟨b, o, E, cc, hbo, hb1, hSl, hE, hcl⟩ := HN9.out.cells2 i hi1
      subst hbo
      obtain ⟨c0, c1, c2', c3, ⟨c4, c5, c6, c7, c8, c9x, cA⟩, cB⟩ := hcl wr HB.out
      have HPl := Lib.hid fun kd tg dv => LnkSt.plan (t := T) (i := i) hi1 (v := .slice E T[i].data.length cc) (kd := kd) (tg := tg) (dv := dv)
      have hpa := planL_at T i hi1
      have hsi := sameAt_at hi1
      generalize hx : T[i] = x at *
      have HYD : Hid (DatOk w1 (.slice E x.data.length cc) x.data) := ⟨E, cc, rfl, hSl, hE⟩
      have HPa := Lib.hid hpa
      have HSi := Lib.hid hsi
      clear hx hcl hSl hE hb1 hpa hsi
      go_upto_region 8 with fail
      have HBl := Lib.hid (Blk.new wr 51 #[.string (bs x.path), .int .i64 x.kind, .int .i64 x.same, .string (bs x.target), .int .i64 x.md.mode, .int .i64 x.md.uid, .int .i64 x.md.gid, .string (bs x.md.user), .string (bs x.md.group), .int .i64 x.md.second, .int .i64 x.md.nano, .slice E x.data.length cc])
      have HBa := Lib.hid (belowA (Below.refl _ wr) (.cells #[.string (bs x.path), .int .i64 x.kind, .int .i64 x.same, .string (bs x.target), .int .i64 x.md.mode, .int .i64 x.md.uid, .int .i64 x.md.gid, .string (bs x.md.user), .string (bs x.md.group), .int .i64 x.md.second, .int .i64 x.md.nano, .slice E x.data.length cc] 51))
      generalize hwa : wr.alloc _ = wa at HBl HBa ⊢
      obtain ⟨g, hg⟩ : ∃ g, g = wr.heap.size := ⟨_, rfl⟩
      have hga : g < wa.heap.size := by rw [hg]; exact HBl.out.lt
      have hgw : wr.heap.size ≤ g := by omega
      rw [← hg] at HBl ⊢
      clear hg
      obtain ⟨⟨e0, e1, e2, e3, e4, e5, e6, e7, e8, e9, eA, eB⟩, -⟩ := blk12 HBl.out
      clear hwa c0 c1 c2' c3 c4 c5 c6 c7 c8 c9x cA cB
      go_upto_region 9 with fail
      have HBx := Lib.hid (Blk.new wa 45 #[.string (bs x.path), .int .i64 x.kind, .string (bs x.target), .int .i64 x.md.mode, .int .i64 x.md.uid, .int .i64 x.md.gid, .string (bs x.md.user), .string (bs x.md.group), .int .i64 x.md.second, .int .i64 x.md.nano, .slice E x.data.length cc])
      have HBl2 := Lib.hid (HBl.out.alloc (.cells #[.string (bs x.path), .int .i64 x.kind, .string (bs x.target), .int .i64 x.md.mode, .int .i64 x.md.uid, .int .i64 x.md.gid, .string (bs x.md.user), .string (bs x.md.group), .int .i64 x.md.second, .int .i64 x.md.nano, .slice E x.data.length cc] 45))
      have HBb := Lib.hid (belowA HBa.out (.cells #[.string (bs x.path), .int .i64 x.kind, .string (bs x.target), .int .i64 x.md.mode, .int .i64 x.md.uid, .int .i64 x.md.gid, .string (bs x.md.user), .string (bs x.md.group), .int .i64 x.md.second, .int .i64 x.md.nano, .slice E x.data.length cc] 45))
      generalize hwb : wa.alloc _ = wb at HBx HBl2 HBb ⊢
      obtain ⟨gx, hgx⟩ : ∃ gx, gx = wa.heap.size := ⟨_, rfl⟩
      rw [← hgx] at HBx ⊢
      have hgx1 : wr.heap.size ≤ gx := by omega
      have hgg : g ≠ gx := by omega
      clear hwb hgx HBl HBa hga e0 e1 e2 e3 e4 e5 e6 e7 e8 e9 eA eB
      go_wp2_with fail
      go_loopw [11] (fun jv wy => ∃ (k : Nat) (kd : Int) (tg : List UInt8) (dv : Value), k ≤ i ∧ jv = .int .i64 ((k : Int) - 1) ∧ Hid (LnkSt T x (.slice E x.data.length cc) (aimK T i (i - k)) kd tg dv) ∧
        Hid (Blk wy g 51 #[.string (bs x.path), .int .i64 x.kind, .int .i64 x.same, .string (bs x.target), .int .i64 x.md.mode, .int .i64 x.md.uid, .int .i64 x.md.gid, .string (bs x.md.user), .string (bs x.md.group), .int .i64 x.md.second, .int .i64 x.md.nano, .slice E x.data.length cc]) ∧
        Hid (Blk wy gx 45 #[.string (bs x.path), .int .i64 kd, .string (bs tg), .int .i64 x.md.mode, .int .i64 x.md.uid, .int .i64 x.md.gid, .string (bs x.md.user), .string (bs x.md.group), .int .i64 x.md.second, .int .i64 x.md.nano, dv]) ∧ Hid (Below wr.heap.size wr wy)) (fun jv _ => (intOf jv + 1).toNat)
      case atStart => exact ⟨i, x.kind, x.target, _, Nat.le_refl _, rfl, (by unfold Hid; rw [Nat.sub_self]; exact ⟨rfl, rfl, rfl⟩), HBl2.out, HBx.out, HBb.out⟩
      case round =>
        obtain ⟨k, kd, tg, dv, hk, rfl, HL, HN, HX, HY⟩ := hrel
        rename World => wy
        cases k with
        | zero =>
          rw [show (((0 : Nat) : Int) - 1) = -1 by rfl]
          have hL := HL.out
          rw [Nat.sub_zero] at hL
          obtain ⟨p1, p2⟩ := HPl.out kd tg dv hL
          have HB6 := Lib.hid (HB.out.trans (HY.out.mono HB.out.size))
          have HR6 := Lib.hid (HR.out.below HY.out)
          have HDY : Hid (DatOk w1 dv (planE T i x).data) := by
            unfold Hid
            rcases p2 with ⟨q1, q2⟩ | ⟨q1, q2⟩
            · rw [q1, q2]; exact HYD.out
            · rw [q1, q2]; exact DatOk.nil _
          have HDV : Hid (dv.oneCell' = true) := by
            unfold Hid
            rcases p2 with ⟨q1, q2⟩ | ⟨q1, q2⟩
            · rw [q2]; rfl
            · rw [q2]; rfl
          have HP1 := Lib.hid p1
          clear p1 p2 hL
          obtain ⟨⟨e0, e1, e3, e4, e5, e6, e7, e8, e9, eA, eB⟩, -⟩ := blk11 HX.out
          obtain ⟨d, rfl⟩ : ∃ d : Option Addr × Nat × Nat, dv = .slice d.1 d.2.1 d.2.2 := by
            obtain ⟨D, c, h, -⟩ := HDY.out
            exact ⟨(D, _, c), h⟩
          have HCN : Hid (∀ W : World, CellsE (W.alloc (.cells #[.string (bs x.path), .int .i64 kd, .string (bs tg), .int .i64 x.md.mode, .int .i64 x.md.uid, .int .i64 x.md.gid, .string (bs x.md.user), .string (bs x.md.group), .int .i64 x.md.second, .int .i64 x.md.nano, .slice d.1 d.2.1 d.2.2] 45)) (some ⟨W.heap.size, 0, none⟩) [(planE T i x, .slice d.1 d.2.1 d.2.2)]) := fun W => by
            have h1 := cells_newE W (planE T i x, .slice d.1 d.2.1 d.2.2)
            have h2 : (entV (planE T i x) (.slice d.1 d.2.1 d.2.2)).toArray = #[.string (bs x.path), .int .i64 kd, .string (bs tg), .int .i64 x.md.mode, .int .i64 x.md.uid, .int .i64 x.md.gid, .string (bs x.md.user), .string (bs x.md.group), .int .i64 x.md.second, .int .i64 x.md.nano, .slice d.1 d.2.1 d.2.2] := by
              rw [HP1.out]; rfl
            rw [h2] at h1
            exact h1
          have hi9 : i ≤ 40 := by omega
          go_wp2_with (at_builtin; refine Stay.go ?_)
          refine Stay.on ?_
          refine append_ents rfl (.tmp 66) (.tmp 68) rfl w1.heap.size _ xs rfl (HR6.out.alloc _) (some ⟨wy.heap.size, 0, none⟩) 1 1 [(planE T i x, .slice d.1 d.2.1 d.2.2)] rfl rfl (HCN.out wy) (by simp [Value.oneCell']) (fun e => by cases e) (by omega) (by simp; have := HB6.out.size; omega) ?_
          intro v7 w7 ho7 hg7
          have HR7 := Lib.hid ho7
          have HB7 : Hid (Below w1.heap.size w1 w7) := (HB6.out.alloc HB6.out.size _).grown hg7 (by rw [hszA]; have := HB6.out.size; omega) HR6.out.above
          have HM7 : Hid ((xs ++ [((planE T i x, .slice d.1 d.2.1 d.2.2) : EntP)]).map (·.1) = (planL T).take (i + 1)) := by
            unfold Hid; rw [List.map_append, HM.out, List.take_succ_eq_append_getElem (by rw [planL_len]; exact hi1), HPa.out]; rfl
          have HD7 : Hid (∀ z ∈ xs ++ [((planE T i x, .slice d.1 d.2.1 d.2.2) : EntP)], DatOk w1 z.2 z.1.data) := fun z hz => by
            rcases List.mem_append.1 hz with a | a
            · exact HDT.out z a
            · obtain rfl : z = (planE T i x, .slice d.1 d.2.1 d.2.2) := by simpa using a
              exact HDY.out
          have hl7 : (xs ++ [((planE T i x, .slice d.1 d.2.1 d.2.2) : EntP)]).length = i + 1 := by rw [List.length_append, List.length_singleton]; omega
          clear ho7 hg7 e0 e1 e3 e4 e5 e6 e7 e8 e9 eA eB
          go_wp2_with fail
          go_roundw
          case rel => exact ⟨i + 1, _, by omega, by go_num, hl7, HR7.out, HM7.out, HD7.out, HB7.out⟩
          case measure => simp [intOf]; omega
        | succ j =>
          rw [show (((j + 1 : Nat) : Int) - 1) = (j : Int) by omega]
          have hj1 : j < T.length := by omega
          have hjm : j < m := by have := HM0.out; omega
          obtain ⟨b', o', E', cc', hbo', hb1', -, -, hcl'⟩ := HN9.out.cells2 j hj1
          injection hbo' with hbo'
          injection hbo' with q1 q2 _
          subst q1 q2
          obtain ⟨f0, -, f2, -⟩ := hcl' wy (HB.out.trans (HY.out.mono HB.out.size))
          have hsj := sameAt_at hj1
          have hta : ((T[j]?).map NodeV.path).getD [] = T[j].path := by rw [List.getElem?_eq_getElem hj1]; rfl
          have hK : aimK T i (i - j) = if eqP T i j = true then some j else aimK T i (i - (j + 1)) := by
            rw [show i - j = (i - (j + 1)) + 1 by omega, aimK, show i - (i - (j + 1) + 1) = j by omega]
          have heq : eqP T i j = (decide (0 < x.same) && decide (T[j].same = x.same)) := by unfold eqP; rw [HSi.out, hsj]
          have hbg : b ≠ gx := by have := HB.out.size; omega
          generalize hz : T[j] = z at *
          have hj9 : (0 : Int) ≤ (j : Int) := by omega
          have hj8 : (j : Int) < (m : Int) := by omega
          obtain ⟨⟨-, -, n2, -⟩, -⟩ := blk12 HN.out
          cases hq : eqP T i j with
          | true =>
            rw [hq] at hK heq
            rw [if_pos rfl] at hK
            have hand := heq.symm
            rw [Bool.and_eq_true, decide_eq_true_eq, decide_eq_true_eq] at hand
            have hd1 : decide (0 < x.same) = true := decide_eq_true hand.1
            have hd2 : (z.same == x.same) = true := by rw [hand.2]; exact beq_self_eq_true _
            have HK := Lib.hid hK
            have HTa := Lib.hid hta
            obtain ⟨⟨e0, e1, e3, e4, e5, e6, e7, e8, e9, eA, eB⟩, ⟨r0, r1, r3, -, -, -, -, -, -, -, rB⟩⟩ := blk11 HX.out
            clear hK hta heq hand hq hz hcl' hsj
            go_upto_region 12 with fail
            go_cut [57] (fun s57 wx => s57 = .bool true ∧ Blk wx g 51 #[.string (bs x.path), .int .i64 x.kind, .int .i64 x.same, .string (bs x.target), .int .i64 x.md.mode, .int .i64 x.md.uid, .int .i64 x.md.gid, .string (bs x.md.user), .string (bs x.md.group), .int .i64 x.md.second, .int .i64 x.md.nano, .slice E x.data.length cc] ∧
              Blk wx gx 45 #[.string (bs x.path), .int .i64 kd, .string (bs tg), .int .i64 x.md.mode, .int .i64 x.md.uid, .int .i64 x.md.gid, .string (bs x.md.user), .string (bs x.md.group), .int .i64 x.md.second, .int .i64 x.md.nano, dv] ∧ Below wr.heap.size wr wx ∧ wx.cell? ⟨b, o + j * 12, none⟩ = some (.string (bs z.path)))
            case first =>
              go_quiet (fail)
              go_wp2_with fail
              go_meet
              exact ⟨rfl, HN.out.drewN _, HX.out.drewN _, below_drewN HY.out _, f0⟩
            case rest =>
              obtain ⟨rfl, hN2, hX2, hY2, f0⟩ := hcut
              have HN2 := Lib.hid hN2
              have HX2 := Lib.hid hX2
              have HY2 := Lib.hid hY2
              clear hN2 hX2 hY2 e0 e1 e3 e4 e5 e6 e7 e8 e9 eA eB r0 r1 r3 rB hd1 hd2 n2 f2
              rename World => wx
              obtain ⟨⟨e0, e1, e3, e4, e5, e6, e7, e8, e9, eA, eB⟩, ⟨r0, r1, r3, -, -, -, -, -, -, -, rB⟩⟩ := blk11 HX2.out
              have HREL : Hid (LnkSt T x (.slice E x.data.length cc) (aimK T i (i - j)) 4 z.path (.slice none 0 0)) := by unfold Hid; rw [HK.out]; exact ⟨rfl, HTa.out.symm, rfl⟩
              have HX3 : Hid (Blk (((wx.setCell ⟨gx, 1, none⟩ (.int .i64 4)).setCell ⟨gx, 2, none⟩ (.string (bs z.path))).setCell ⟨gx, 10, none⟩ (.slice none 0 0)) gx 45 #[.string (bs x.path), .int .i64 4, .string (bs z.path), .int .i64 x.md.mode, .int .i64 x.md.uid, .int .i64 x.md.gid, .string (bs x.md.user), .string (bs x.md.group), .int .i64 x.md.second, .int .i64 x.md.nano, .slice none 0 0]) :=
                ((HX2.out.set_ 1 (.int .i64 4)).set_ 2 (.string (bs z.path))).set_ 10 (.slice none 0 0)
              have HN3 := Lib.hid (((HN2.out.far (p := ⟨gx, 1, none⟩) hgg (.int .i64 4)).far (p := ⟨gx, 2, none⟩) hgg (.string (bs z.path))).far (p := ⟨gx, 10, none⟩) hgg (.slice none 0 0))
              have HY3 := Lib.hid (((HY2.out.setCell (p := ⟨gx, 1, none⟩) hgx1 (.int .i64 4)).setCell (p := ⟨gx, 2, none⟩) hgx1 (.string (bs z.path))).setCell (p := ⟨gx, 10, none⟩) hgx1 (.slice none 0 0))
              go_wp2_with fail
              go_roundw
              case rel => exact ⟨j, 4, z.path, _, by omega, by go_num, HREL.out, HN3.out, HX3.out, HY3.out⟩
              case measure => simp [intOf]
          | false =>
            rw [hq] at hK heq
            rw [if_neg (by decide)] at hK
            have HK := Lib.hid hK
            clear hK hta hq hz hcl' hsj f0
            have HREL : Hid (LnkSt T x (.slice E x.data.length cc) (aimK T i (i - j)) kd tg dv) := by unfold Hid; rw [HK.out]; exact HL.out
            by_cases h0 : 0 < x.same
            · have hd1 : decide (0 < x.same) = true := decide_eq_true h0
              have hd2 : (z.same == x.same) = false := by
                rw [hd1, Bool.true_and] at heq
                have := of_decide_eq_false heq.symm
                simpa using this
              clear heq h0
              go_upto_region 12 with fail
              go_quiet (fail)
              go_wp2_with fail
              go_roundw
              case rel => exact ⟨j, kd, tg, dv, by omega, by go_num, HREL.out, HN.out.drewN _, HX.out.drewN _, below_drewN HY.out _⟩
              case measure => simp [intOf]
            · have hd1 : decide (0 < x.same) = false := decide_eq_false h0
              clear heq h0 f2
              go_upto_region 12 with fail
              go_quiet (fail)
              go_wp2_with fail
              go_roundw
              case rel => exact ⟨j, kd, tg, dv, by omega, by go_num, HREL.out, HN.out.drewN _, HX.out.drewN _, below_drewN HY.out _⟩
              case measure => simp [intOf]
    · obtain rfl : i = m := by omega
      have hm9 := HM.out
      rw [List.take_of_length_le (by rw [planL_len, HM0.out]; omega)] at hm9
      have HV : Hid (FineE wr w.heap.size u7 xs ∧ Below w.heap.size w wr) := ⟨⟨HR.out.mono HB1.out.size, fun y hy => (HDT.out y hy).below HB.out⟩, HB1.out.trans (HB.out.mono HB1.out.size)⟩
      have HM9 := Lib.hid hm9
      clear hm9
      go_wp2_with fail
      refine bodyPost_ret (v := .tuple #[u7, .int .i64 0]) (by simp [results, Tryz.results8, go_sem, *]) rfl ?_
      exact ⟨u7, xs, rfl, HM9.out, HV.out.1, HV.out.2⟩
theorem rPlan_any (A : Option Addr) (n c : Nat) (l : List NodeV) (hn : l.length = n) (hc : SlOk A n c) (hsz : ∀ x ∈ l, x.sz) (A1 : Option Addr) (n1 c1 : Nat) (qs : List RuleV) (hn1 : qs.length = n1) (hn12 : n1 ≤ 140737488355328) (hok : okR qs) (w : World) (hA : NodesAt w A l) (hA1 : RulesAt w A1 qs) :
    Calls Tryz.prog 8 #[.slice A n c, .slice A1 n1 c1] w fun e w' => ∃ v xs, e = .returned (.tuple #[v, .int .i64 (runE l qs)]) ∧ xs.map (·.1) = planL (runL l qs) ∧ FineE w' w.heap.size v xs ∧ Below w.heap.size w w' := by
  by_cases hE : runE l qs = 0
  · have h40 : n ≤ 40 := by
      unfold runE at hE
      by_cases ht : treeE l = 0
      · have := ((treeE_zero l).1 ht).1; omega
      · rw [if_neg ht] at hE; exact absurd hE ht
    have := rPlan_ok A n c l hn hc hsz h40 A1 n1 c1 qs hn1 hn12 hok w hA hA1 hE
    rw [hE]; exact this
  · have H1 := Lib.hid (Filtered_any A n c l hn hc hsz A1 n1 c1 qs hn1 hn12 hok w hA hA1)
    have hL : runL l qs = [] := if_neg hE
    rw [hL] at H1 ⊢
    obtain ⟨E, HEE⟩ := hid_name (runE l qs)
    rw [HEE.out] at H1 hE ⊢
    have hne : (E == 0) = false := by simpa using hE
    clear hn hc hsz hn1 hok hA hA1 hE hL
    go_enter Tryz.func8, Tryz.ntmps8
    go_wp2_with fail
    refine H1.out.mono ?_; rintro e w1 ⟨v, xs0, rfl, hm, hO, hB⟩
    have HB1 := Lib.hid hB
    obtain ⟨A9, c9, rfl, -, -⟩ := hO.at
    clear hB hO hm H1
    go_wp2_with fail
    refine bodyPost_ret (v := .tuple #[.slice none 0 0, .int .i64 E]) (by simp [results, Tryz.results8, go_sem, *]) rfl ?_
    exact ⟨_, [], rfl, rfl, FineE.nil _ _, HB1.out⟩
end Go.Proofs.YtoikpnjnljdpaaaGreatDoor
