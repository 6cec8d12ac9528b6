/- MemberHead: header and records determine a member apart from its data. -/
import Derived.Test.YtldffnmoafhidaaGreatDoorMemTo
import Derived.Test.YtldffnmoafhidaaGreatDoorRecQ
import Derived.Test.YtldffnmoafhidaaGreatDoorTwx
import Derived.BigQuiet
set_option linter.unusedVariables false
set_option maxRecDepth 100000
namespace Go.Proofs.YtldffnmoafhidaaGreatDoor
open Go.RowKit
open Go.OpenShut
/-- a block of a base's own that holds zeros -/
def ZerT (B : Nat) (W : World) (g : Nat) : Prop := B ≤ g ∧ Blk W g 26 #[.string ⟨#[]⟩, .int .i64 0, .string ⟨#[]⟩, .int .i64 0, .int .i64 0, .int .i64 0, .string ⟨#[]⟩, .string ⟨#[]⟩, .int .i64 0, .int .i64 0, .slice none 0 0]
/-- a block of a base's own that holds a value -/
def EntT (B : Nat) (W : World) (g : Nat) (u : Value) : Prop := B ≤ g ∧ ∃ cs, u = .agg cs ∧ Blk W g 26 cs
theorem ZerT.below {B g : Nat} {W W' : World} (h : ZerT B W g) (hb : Below W.heap.size W W') : ZerT B W' g := ⟨h.1, h.2.below hb h.2.lt⟩
theorem EntT.below {B g : Nat} {W W' : World} {u : Value} (h : EntT B W g u) (hb : Below W.heap.size W W') : EntT B W' g u := by
  obtain ⟨h1, cs, rfl, h2⟩ := h
  exact ⟨h1, cs, rfl, h2.below hb h2.lt⟩
theorem box_new {B : Nat} {W : World} (hB : B ≤ W.heap.size) (o : Obj) (ho : o = .cells #[.string ⟨#[]⟩, .int .i64 0, .string ⟨#[]⟩, .int .i64 0, .int .i64 0, .int .i64 0, .string ⟨#[]⟩, .string ⟨#[]⟩, .int .i64 0, .int .i64 0, .slice none 0 0] 26) : ZerT B (W.alloc o) W.heap.size ∧ (∀ h, ZerT B W h → ZerT B (W.alloc o) h ∧ h ≠ W.heap.size) ∧ (∀ h u, EntT B W h u → EntT B (W.alloc o) h u ∧ h ≠ W.heap.size) := by
  subst ho
  refine ⟨⟨hB, Blk.new W _ _⟩, fun h hz => ⟨⟨hz.1, hz.2.alloc _⟩, Nat.ne_of_lt hz.2.lt⟩, fun h u hz => ?_⟩
  obtain ⟨h1, cs, rfl, h2⟩ := hz
  exact ⟨⟨h1, cs, rfl, h2.alloc _⟩, Nat.ne_of_lt h2.lt⟩
theorem box_set {B g : Nat} {W : World} (hz : ZerT B W g) (v0 v1 v2 v3 v4 v5 v6 v7 v8 v9 v10 : Value) :
    EntT B (((((((((((W.setCell ⟨g, 0, none⟩ v0).setCell ⟨g, 1, none⟩ v1).setCell ⟨g, 2, none⟩ v2).setCell ⟨g, 3, none⟩ v3).setCell ⟨g, 4, none⟩ v4).setCell ⟨g, 5, none⟩ v5).setCell ⟨g, 6, none⟩ v6).setCell ⟨g, 7, none⟩ v7).setCell ⟨g, 8, none⟩ v8).setCell ⟨g, 9, none⟩ v9).setCell ⟨g, 10, none⟩ v10) g (.agg #[v0, v1, v2, v3, v4, v5, v6, v7, v8, v9, v10]) ∧
    (∀ h, h ≠ g → ZerT B W h → ZerT B (((((((((((W.setCell ⟨g, 0, none⟩ v0).setCell ⟨g, 1, none⟩ v1).setCell ⟨g, 2, none⟩ v2).setCell ⟨g, 3, none⟩ v3).setCell ⟨g, 4, none⟩ v4).setCell ⟨g, 5, none⟩ v5).setCell ⟨g, 6, none⟩ v6).setCell ⟨g, 7, none⟩ v7).setCell ⟨g, 8, none⟩ v8).setCell ⟨g, 9, none⟩ v9).setCell ⟨g, 10, none⟩ v10) h) ∧
    (∀ h u, h ≠ g → EntT B W h u → EntT B (((((((((((W.setCell ⟨g, 0, none⟩ v0).setCell ⟨g, 1, none⟩ v1).setCell ⟨g, 2, none⟩ v2).setCell ⟨g, 3, none⟩ v3).setCell ⟨g, 4, none⟩ v4).setCell ⟨g, 5, none⟩ v5).setCell ⟨g, 6, none⟩ v6).setCell ⟨g, 7, none⟩ v7).setCell ⟨g, 8, none⟩ v8).setCell ⟨g, 9, none⟩ v9).setCell ⟨g, 10, none⟩ v10) h u) := by
  refine ⟨⟨hz.1, _, rfl, blk_set11 hz.2 _ _ _ _ _ _ _ _ _ _ _⟩, fun h hne hh => ⟨hh.1, far11 hh.2 hne _ _ _ _ _ _ _ _ _ _ _⟩, fun h u hne hh => ?_⟩
  obtain ⟨h1, cs, rfl, h2⟩ := hh
  exact ⟨h1, cs, rfl, far11 h2 hne _ _ _ _ _ _ _ _ _ _ _⟩
set_option maxHeartbeats 8000000 in
theorem MemberHead_walk (a0 a1 : RawV) (w0 : a0.wf) (w1 : a1.wf) (w : World) (hL : laidMetH Tryz.prog Rows.memberHeadRow.laid w) :
    Calls Tryz.prog 4 #[.agg (rawC a0).toArray, .agg (rawC a1).toArray] w fun e w' => e = .returned (.bool true) ∧ Below w.heap.size w w' := by
  have T : Tab w := tab_of_laid hL (by kernel_rfl) (by simp [Rows.memberHeadRow])
  have HE1 := Lib.hid fun W => Entry_any a0 w0 W
  have HE2 := Lib.hid fun W => Entry_any a1 w1 W
  have hg1 := entD_good a0
  have hg2 := entD_good a1
  have hs1 := entD_szs a0
  have hs2 := entD_szs a1
  have HH1 := Lib.hid fun D c W TW => mHead_any (entD a0) D c hs1 W TW
  have HH2 := Lib.hid fun D c W TW => mHead_any (entD a1) D c hs2 W TW
  have HR1 := Lib.hid fun D c W TW => mRecs_any (entD a0) D c hs1 W TW
  have HR2 := Lib.hid fun D c W TW => mRecs_any (entD a1) D c hs2 W TW
  rw [hg1, if_pos rfl] at HH1
  rw [hg2, if_pos rfl] at HH2
  rw [hg1, show recO (entD a0) = recsM (entD a0) from if_pos hg1] at HR1
  rw [hg2, show recO (entD a1) = recsM (entD a1) from if_pos hg2] at HR2
  have HQh := Lib.hid (head_eql (headM (entD a0)) (headM (entD a1)))
  have HQr := Lib.hid fun (A A2 : Option Addr) (c c2 : Nat) W h h2 => equalR_any A A2 _ c _ c2 (recsM (entD a0)) (recsM (entD a1)) rfl rfl (by have := recs_few (entD a0); omega) (by have := recs_few (entD a1); omega) W h h2
  have HQe := Lib.hid fun (W : World) => keepEnt_any { entD a0 with data := [] } { entD a1 with data := [] } none none 0 0 W (BytsAt.nil W none) (BytsAt.nil W none)
  have HTold : Hid ((headM (entD a0) = headM (entD a1) ∧ recsM (entD a0) = recsM (entD a1)) ↔ (({ entD a0 with data := [] } : EntV) = { entD a1 with data := [] } ∧ (entD a0).data.length = (entD a1).data.length)) :=
    ⟨fun h => member_told hg1 hg2 h.1 h.2, fun h => member_same h⟩
  generalize entD a0 = x at HE1 HH1 HR1 HQh HQr HQe HTold
  generalize entD a1 = y at HE2 HH2 HR2 HQh HQr HQe HTold
  have hl1 := recs_few x
  have hl2 := recs_few y
  have HTT : Hid ((decide (headM x = headM y) && decide (recsM x = recsM y)) = (decide (({ x with data := [] } : EntV) = { y with data := [] }) && decide (x.data.length = y.data.length))) := by
    have h := HTold.out
    unfold Hid
    rw [Bool.eq_iff_iff]
    simp only [Bool.and_eq_true, decide_eq_true_eq]
    exact h
  have hlen : ((x.data.length : Int) == (y.data.length : Int)) = decide (x.data.length = y.data.length) := by
    rw [Bool.eq_iff_iff, beq_iff_eq, decide_eq_true_eq]; omega
  have HLen := Lib.hid hlen
  unfold headC at HH1 HH2 HQh
  unfold entC at HE1 HE2 HH1 HH2 HR1 HR2 HQe
  simp only at HQe
  simp only [List.length_nil] at HQe
  generalize decide (headM x = headM y) = bh at HQh HTT
  generalize decide (recsM x = recsM y) = br at HQr HTT
  generalize decide (({ x with data := [] } : EntV) = { y with data := [] }) = be at HQe HTT
  generalize decide (x.data.length = y.data.length) = bl at HTT HLen
  clear hlen HTold hg1 hg2 hs1 hs2
  generalize bs (headM x).name = h0 at *
  generalize bs (headM x).pre = h1 at *
  generalize bs (headM x).link = h2 at *
  generalize bs (headM x).user = h9 at *
  generalize bs (headM x).group = hA at *
  generalize (headM x).mode = h3 at *
  generalize (headM x).uid = h4 at *
  generalize (headM x).gid = h5 at *
  generalize (headM x).size = h6 at *
  generalize (headM x).time = h7 at *
  generalize ((headM x).typ.toNat : Int) = h8 at *
  generalize bs (headM y).name = i0 at *
  generalize bs (headM y).pre = i1 at *
  generalize bs (headM y).link = i2 at *
  generalize bs (headM y).user = i9 at *
  generalize bs (headM y).group = iA at *
  generalize (headM y).mode = i3 at *
  generalize (headM y).uid = i4 at *
  generalize (headM y).gid = i5 at *
  generalize (headM y).size = i6 at *
  generalize (headM y).time = i7 at *
  generalize ((headM y).typ.toNat : Int) = i8 at *
  generalize bs x.path = P1 at *
  generalize x.kind = kx at *
  generalize bs x.target = T1 at *
  generalize x.md.mode = mx0 at *
  generalize x.md.uid = mx1 at *
  generalize x.md.gid = mx2 at *
  generalize bs x.md.user = U1 at *
  generalize bs x.md.group = G1 at *
  generalize x.md.second = mx5 at *
  generalize x.md.nano = mx6 at *
  generalize x.data.length = n1 at *
  generalize bs y.path = P2 at *
  generalize y.kind = ky at *
  generalize bs y.target = T2 at *
  generalize y.md.mode = my0 at *
  generalize y.md.uid = my1 at *
  generalize y.md.gid = my2 at *
  generalize bs y.md.user = U2 at *
  generalize bs y.md.group = G2 at *
  generalize y.md.second = my5 at *
  generalize y.md.nano = my6 at *
  generalize y.data.length = n2 at *
  generalize recsM x = RX at *
  generalize recsM y = RY at *
  obtain ⟨r1, Hr1⟩ := hid_name RX.length
  obtain ⟨r2, Hr2⟩ := hid_name RY.length
  rw [Hr1.out] at HR1 HQr hl1
  rw [Hr2.out] at HR2 HQr hl2
  clear hL w0 w1
  obtain ⟨b0, b1, b2, b3⟩ := a0
  obtain ⟨d0, d1, d2, d3⟩ := a1
  unfold rawC at HE1 HE2 ⊢
  simp only at HE1 HE2 ⊢
  have hA := Blk.new w 33 #[.int .i64 b0, .int .i64 b1, .int .i64 b2, .string b3]
  have hA2 := hA.alloc (.cells #[.int .i64 d0, .int .i64 d1, .int .i64 d2, .string d3] 33)
  have hB2 := Blk.new (w.alloc (.cells #[.int .i64 b0, .int .i64 b1, .int .i64 b2, .string b3] 33)) 33 #[.int .i64 d0, .int .i64 d1, .int .i64 d2, .string d3]
  have hW2 := ((Below.refl w.heap.size w).alloc (Nat.le_refl _) (.cells #[.int .i64 b0, .int .i64 b1, .int .i64 b2, .string b3] 33)).alloc (by rw [hszA]; omega) (.cells #[.int .i64 d0, .int .i64 d1, .int .i64 d2, .string d3] 33)
  rw [hszA] at hB2
  go_enter Tryz.func4, Tryz.ntmps4
  go_upto_region 1 with fail
  generalize (w.alloc (.cells #[.int .i64 b0, .int .i64 b1, .int .i64 b2, .string b3] 33)).alloc (.cells #[.int .i64 d0, .int .i64 d1, .int .i64 d2, .string d3] 33) = w1 at hA2 hB2 hW2 ⊢
  have HA2 := Lib.hid hA2
  have HB2 := Lib.hid hB2
  have HW2 := Lib.hid hW2
  clear hA hA2 hB2 hW2
  go_cut [5, 6] (fun s5 s6 wx => ∃ (gx gy : Nat) (D E : Option Addr) (c e : Nat), s5 = .pointer (some ⟨gx, 0, none⟩) ∧ s6 = .pointer (some ⟨gy, 0, none⟩) ∧ gx ≠ gy ∧ Hid (Blk wx gx 26 #[.string P1, .int .i64 kx, .string T1, .int .i64 mx0, .int .i64 mx1, .int .i64 mx2, .string U1, .string G1, .int .i64 mx5, .int .i64 mx6, .slice D n1 c]) ∧ Hid (Blk wx gy 26 #[.string P2, .int .i64 ky, .string T2, .int .i64 my0, .int .i64 my1, .int .i64 my2, .string U2, .string G2, .int .i64 my5, .int .i64 my6, .slice E n2 e]) ∧ Hid (Below w1.heap.size w1 wx))
  case first =>
    generalize hAA : Act.mk _ _ = A0
    have hF : A0 = (((((A0.put (some 18) undef).put (some 19) undef).put (some 20) undef).put (some 21) undef).put (some 5) undef).put (some 6) undef := by subst hAA; rfl
    rw [hF]
    clear hF
    refine region_two (F := fun vl1 vc1 vl2 vc2 va1 va2 => (((((A0.put (some 18) vl1).put (some 19) vc1).put (some 20) vl2).put (some 21) vc2).put (some 5) va1).put (some 6) va2) (R := fun W => Below w1.heap.size w1 W) (raw1 := .agg #[.int .i64 b0, .int .i64 b1, .int .i64 b2, .string b3]) (raw2 := .agg #[.int .i64 d0, .int .i64 d1, .int .i64 d2, .string d3])
      (V1 := fun v => ∃ (D : Option Addr) (c : Nat), v = .agg #[.string P1, .int .i64 kx, .string T1, .int .i64 mx0, .int .i64 mx1, .int .i64 mx2, .string U1, .string G1, .int .i64 mx5, .int .i64 mx6, .slice D n1 c]) (V2 := fun v => ∃ (D : Option Addr) (c : Nat), v = .agg #[.string P2, .int .i64 ky, .string T2, .int .i64 my0, .int .i64 my1, .int .i64 my2, .string U2, .string G2, .int .i64 my5, .int .i64 my6, .slice D n2 c]) (Z := ZerT w1.heap.size) (E := EntT w1.heap.size) (by kernel_rfl) (by rfl) (by kernel_rfl) (Below.refl _ _).drew ?_ ?_ ?_ ?_ ?_ ?_ ?_ ?_ ?_
    · intro K vl1 vc1 vl2 vc2 va1 va2 W hR hK
      obtain ⟨q0, q1, q2, q3⟩ := blk4 (HA2.out.below hR HA2.out.lt)
      subst hAA
      refine wpOp_step rfl fun K' h' => ?_
      simp only [Act.put, List.setIfInBounds_toArray, List.set_cons_zero, List.set_cons_succ]
      go_simp
      exact h' _ _ hK
    · intro K vl1 vc1 vl2 vc2 va1 va2 W hR hK
      obtain ⟨q0, q1, q2, q3⟩ := blk4 (HB2.out.below hR HB2.out.lt)
      subst hAA
      refine wpOp_step rfl fun K' h' => ?_
      simp only [Act.put, List.setIfInBounds_toArray, List.set_cons_zero, List.set_cons_succ]
      go_simp
      exact h' _ _ hK
    · intro K vc1 vl2 vc2 va1 va2 W hR hK
      subst hAA
      refine wpOp_step rfl fun K' h' => ?_
      simp only [Act.put, List.setIfInBounds_toArray, List.set_cons_zero, List.set_cons_succ]
      go_simp
      refine (HE1.out _).mono ?_; rintro e W2 ⟨D, c, rfl, -, -, hb⟩
      exact h' _ _ (hK _ _ ⟨D, c, rfl⟩ (hR.trans (hb.mono hR.size)) (fun g hz => hz.below hb) (fun g u hz => hz.below hb))
    · intro K vl1 vc1 vc2 va1 va2 W hR hK
      subst hAA
      refine wpOp_step rfl fun K' h' => ?_
      simp only [Act.put, List.setIfInBounds_toArray, List.set_cons_zero, List.set_cons_succ]
      go_simp
      refine (HE2.out _).mono ?_; rintro e W2 ⟨D, c, rfl, -, -, hb⟩
      exact h' _ _ (hK _ _ ⟨D, c, rfl⟩ (hR.trans (hb.mono hR.size)) (fun g hz => hz.below hb) (fun g u hz => hz.below hb))
    · intro K vl1 vc1 vl2 vc2 va1 va2 W hR hK
      subst hAA
      refine wpOp_step rfl fun K' h' => ?_
      simp only [Act.put, List.setIfInBounds_toArray, List.set_cons_zero, List.set_cons_succ]
      go_simp
      obtain ⟨z1, z2, z3⟩ := box_new hR.size _ rfl
      exact h' _ _ (hK W.heap.size _ (hR.alloc hR.size _) z1 z2 z3)
    · intro K vl1 vc1 vl2 vc2 va1 va2 W hR hK
      subst hAA
      refine wpOp_step rfl fun K' h' => ?_
      simp only [Act.put, List.setIfInBounds_toArray, List.set_cons_zero, List.set_cons_succ]
      go_simp
      obtain ⟨z1, z2, z3⟩ := box_new hR.size _ rfl
      exact h' _ _ (hK W.heap.size _ (hR.alloc hR.size _) z1 z2 z3)
    · rintro K vl1 v vl2 vc2 va2 g W hR hz ⟨D, c, rfl⟩ hK
      obtain ⟨⟨q0, q1, q2, q3, q4, q5, q6, q7, q8, q9, qA⟩, f0, f1, f2, f3, f4, f5, f6, f7, f8, f9, fA⟩ := blk11 hz.2
      subst hAA
      refine wpOp_step rfl fun K' h' => ?_
      simp only [Act.put, List.setIfInBounds_toArray, List.set_cons_zero, List.set_cons_succ]
      go_simp
      obtain ⟨z1, z2, z3⟩ := box_set hz (.string P1) (.int .i64 kx) (.string T1) (.int .i64 mx0) (.int .i64 mx1) (.int .i64 mx2) (.string U1) (.string G1) (.int .i64 mx5) (.int .i64 mx6) (.slice D n1 c)
      exact h' _ _ (hK _ (below_set11 hR hz.1 _ _ _ _ _ _ _ _ _ _ _) z1 z2 z3)
    · rintro K vl1 vc1 vl2 v va1 g W hR hz ⟨D, c, rfl⟩ hK
      obtain ⟨⟨q0, q1, q2, q3, q4, q5, q6, q7, q8, q9, qA⟩, f0, f1, f2, f3, f4, f5, f6, f7, f8, f9, fA⟩ := blk11 hz.2
      subst hAA
      refine wpOp_step rfl fun K' h' => ?_
      simp only [Act.put, List.setIfInBounds_toArray, List.set_cons_zero, List.set_cons_succ]
      go_simp
      obtain ⟨z1, z2, z3⟩ := box_set hz (.string P2) (.int .i64 ky) (.string T2) (.int .i64 my0) (.int .i64 my1) (.int .i64 my2) (.string U2) (.string G2) (.int .i64 my5) (.int .i64 my6) (.slice D n2 c)
      exact h' _ _ (hK _ (below_set11 hR hz.1 _ _ _ _ _ _ _ _ _ _ _) z1 z2 z3)
    · rintro v1 v2 g h W ⟨D, c, rfl⟩ ⟨E, e, rfl⟩ hne ⟨-, cs, e1, hb1⟩ ⟨-, cs2, e2, hb2⟩ hR
      injection e1 with e1
      injection e2 with e2
      subst e1 e2
      subst hAA
      simp only [Act.put, List.setIfInBounds_toArray, List.set_cons_zero, List.set_cons_succ]
      go_wp2_with fail
      go_meet
      exact ⟨g, h, D, E, c, e, rfl, rfl, hne, hb1, hb2, hR⟩
  case rest =>
    obtain ⟨gx, gy, D, E, c, e, rfl, rfl, hxy, HX, HY, HB⟩ := hcut
    have HB2a := Lib.hid (HW2.out.trans (HB.out.mono HW2.out.size))
    clear HA2 HB2 HW2 HB HE1 HE2
    rename World => x2
    obtain ⟨⟨q0, q1, q2, q3, q4, q5, q6, q7, q8, q9, qA⟩, -⟩ := blk11 HX.out
    have HK1 := Lib.hid (HH1.out D c x2 (T.below HB2a.out))
    go_wp2_with fail
    refine HK1.out.mono ?_; rintro e' x3 ⟨rfl, hb⟩
    have hax := ((Below.refl x3.heap.size x3).alloc (Nat.le_refl _) (.cells #[.string h0, .string h1, .string h2, .int .i64 h3, .int .i64 h4, .int .i64 h5, .int .i64 h6, .int .i64 h7, .int .u8 h8, .string h9, .string hA] 36))
    have HB4 := Lib.hid ((HB2a.out.trans (hb.mono HB2a.out.size)).trans (hax.mono (HB2a.out.trans (hb.mono HB2a.out.size)).size))
    have HX4 := Lib.hid ((HX.out.below hb HX.out.lt).alloc (.cells #[.string h0, .string h1, .string h2, .int .i64 h3, .int .i64 h4, .int .i64 h5, .int .i64 h6, .int .i64 h7, .int .u8 h8, .string h9, .string hA] 36))
    have HY4 := Lib.hid ((HY.out.below hb HY.out.lt).alloc (.cells #[.string h0, .string h1, .string h2, .int .i64 h3, .int .i64 h4, .int .i64 h5, .int .i64 h6, .int .i64 h7, .int .u8 h8, .string h9, .string hA] 36))
    have HM4 := Lib.hid (Blk.new x3 36 #[.string h0, .string h1, .string h2, .int .i64 h3, .int .i64 h4, .int .i64 h5, .int .i64 h6, .int .i64 h7, .int .u8 h8, .string h9, .string hA])
    clear hb hax HX HY HB2a HK1 HH1 q0 q1 q2 q3 q4 q5 q6 q7 q8 q9 qA
    go_upto_region 3 with fail
    generalize x3.alloc (.cells #[.string h0, .string h1, .string h2, .int .i64 h3, .int .i64 h4, .int .i64 h5, .int .i64 h6, .int .i64 h7, .int .u8 h8, .string h9, .string hA] 36) = x4 at HB4 HX4 HY4 HM4 ⊢
    generalize x3.heap.size = g7 at HM4 ⊢
    obtain ⟨⟨q0, q1, q2, q3, q4, q5, q6, q7, q8, q9, qA⟩, -⟩ := blk11 HY4.out
    have HK1 := Lib.hid (HH2.out E e x4 (T.below HB4.out))
    go_wp2_with fail
    refine HK1.out.mono ?_; rintro e' x5 ⟨rfl, hb⟩
    have hax := ((Below.refl x5.heap.size x5).alloc (Nat.le_refl _) (.cells #[.string i0, .string i1, .string i2, .int .i64 i3, .int .i64 i4, .int .i64 i5, .int .i64 i6, .int .i64 i7, .int .u8 i8, .string i9, .string iA] 36))
    have HB6 := Lib.hid ((HB4.out.trans (hb.mono HB4.out.size)).trans (hax.mono (HB4.out.trans (hb.mono HB4.out.size)).size))
    have HX6 := Lib.hid ((HX4.out.below hb HX4.out.lt).alloc (.cells #[.string i0, .string i1, .string i2, .int .i64 i3, .int .i64 i4, .int .i64 i5, .int .i64 i6, .int .i64 i7, .int .u8 i8, .string i9, .string iA] 36))
    have HY6 := Lib.hid ((HY4.out.below hb HY4.out.lt).alloc (.cells #[.string i0, .string i1, .string i2, .int .i64 i3, .int .i64 i4, .int .i64 i5, .int .i64 i6, .int .i64 i7, .int .u8 i8, .string i9, .string iA] 36))
    have HM6 := Lib.hid ((HM4.out.below hb HM4.out.lt).alloc (.cells #[.string i0, .string i1, .string i2, .int .i64 i3, .int .i64 i4, .int .i64 i5, .int .i64 i6, .int .i64 i7, .int .u8 i8, .string i9, .string iA] 36))
    have HL6 := Lib.hid (Blk.new x5 36 #[.string i0, .string i1, .string i2, .int .i64 i3, .int .i64 i4, .int .i64 i5, .int .i64 i6, .int .i64 i7, .int .u8 i8, .string i9, .string iA])
    clear hb hax HX4 HY4 HM4 HB4 HK1 HH2 q0 q1 q2 q3 q4 q5 q6 q7 q8 q9 qA
    go_upto_region 4 with fail
    generalize x5.alloc (.cells #[.string i0, .string i1, .string i2, .int .i64 i3, .int .i64 i4, .int .i64 i5, .int .i64 i6, .int .i64 i7, .int .u8 i8, .string i9, .string iA] 36) = x6 at HB6 HX6 HY6 HM6 HL6 ⊢
    generalize x5.heap.size = g9 at HL6 ⊢
    obtain ⟨⟨q0, q1, q2, q3, q4, q5, q6, q7, q8, q9, qA⟩, -⟩ := blk11 HX6.out
    have HK1 := Lib.hid (HR1.out D c x6 (T.below HB6.out))
    go_wp2_with fail
    refine HK1.out.mono ?_; rintro e' x7 ⟨v7, rfl, ho, hb⟩
    obtain ⟨A7, c7, rfl⟩ := ho.form
    have HO7 := Lib.hid ho.at
    have HB7 := Lib.hid (HB6.out.trans (hb.mono HB6.out.size))
    have HX7 := Lib.hid (HX6.out.below hb HX6.out.lt)
    have HY7 := Lib.hid (HY6.out.below hb HY6.out.lt)
    have HM7 := Lib.hid (HM6.out.below hb HM6.out.lt)
    have HL7 := Lib.hid (HL6.out.below hb HL6.out.lt)
    clear hb ho HX6 HY6 HM6 HL6 HB6 HK1 HR1 q0 q1 q2 q3 q4 q5 q6 q7 q8 q9 qA
    obtain ⟨⟨q0, q1, q2, q3, q4, q5, q6, q7, q8, q9, qA⟩, -⟩ := blk11 HY7.out
    have HK1 := Lib.hid (HR2.out E e x7 (T.below HB7.out))
    go_wp2_with fail
    refine HK1.out.mono ?_; rintro e' x8 ⟨v8, rfl, ho, hb⟩
    obtain ⟨A8, c8, rfl⟩ := ho.form
    have HP8 := Lib.hid ho.at
    have HO8 := Lib.hid (HO7.out.below hb)
    have HB8 := Lib.hid (HB7.out.trans (hb.mono HB7.out.size))
    have HX8 := Lib.hid (HX7.out.below hb HX7.out.lt)
    have HY8 := Lib.hid (HY7.out.below hb HY7.out.lt)
    have HM8 := Lib.hid (HM7.out.below hb HM7.out.lt)
    have HL8 := Lib.hid (HL7.out.below hb HL7.out.lt)
    clear hb ho HX7 HY7 HM7 HL7 HB7 HO7 HK1 HR2 q0 q1 q2 q3 q4 q5 q6 q7 q8 q9 qA
    go_wp2_with fail
    refine (written_any _ (T.below HB8.out)).mono ?_; rintro e' x9 ⟨rfl, hb⟩
    have HP9 := Lib.hid (HP8.out.below hb)
    have HO9 := Lib.hid (HO8.out.below hb)
    have HB9 := Lib.hid (HB8.out.trans (hb.mono HB8.out.size))
    have HX9 := Lib.hid (HX8.out.below hb HX8.out.lt)
    have HY9 := Lib.hid (HY8.out.below hb HY8.out.lt)
    have HM9 := Lib.hid (HM8.out.below hb HM8.out.lt)
    have HL9 := Lib.hid (HL8.out.below hb HL8.out.lt)
    clear hb HX8 HY8 HM8 HL8 HB8 HO8 HP8
    go_upto_region 8 with fail
    go_cut [15, 16] (fun s5 s6 wx => ∃ (ga gb : Nat), s5 = .pointer (some ⟨ga, 0, none⟩) ∧ s6 = .pointer (some ⟨gb, 0, none⟩) ∧ ga ≠ gb ∧ Hid (x9.heap.size ≤ ga ∧ x9.heap.size ≤ gb) ∧ Hid (Blk wx ga 26 #[.string P1, .int .i64 kx, .string T1, .int .i64 mx0, .int .i64 mx1, .int .i64 mx2, .string U1, .string G1, .int .i64 mx5, .int .i64 mx6, .slice D n1 c]) ∧ Hid (Blk wx gb 26 #[.string P2, .int .i64 ky, .string T2, .int .i64 my0, .int .i64 my1, .int .i64 my2, .string U2, .string G2, .int .i64 my5, .int .i64 my6, .slice E n2 e]) ∧ Hid (Below x9.heap.size x9 wx))
    case first =>
      generalize hAA : Act.mk _ _ = A0
      have hF : A0 = (((A0.put (some 60) (A0.tmps.getD 60 undef)).put (some 61) (A0.tmps.getD 61 undef)).put (some 15) (A0.tmps.getD 15 undef)).put (some 16) (A0.tmps.getD 16 undef) := by subst hAA; rfl
      rw [hF]
      clear hF
      refine region_box2 (F := fun vl1 vl2 va1 va2 => (((A0.put (some 60) vl1).put (some 61) vl2).put (some 15) va1).put (some 16) va2) (R := fun W => Below x9.heap.size x9 W) (raw1 := .agg #[.string P1, .int .i64 kx, .string T1, .int .i64 mx0, .int .i64 mx1, .int .i64 mx2, .string U1, .string G1, .int .i64 mx5, .int .i64 mx6, .slice D n1 c]) (raw2 := .agg #[.string P2, .int .i64 ky, .string T2, .int .i64 my0, .int .i64 my1, .int .i64 my2, .string U2, .string G2, .int .i64 my5, .int .i64 my6, .slice E n2 e])
        (Z := ZerT x9.heap.size) (E := EntT x9.heap.size) (by kernel_rfl) (by rfl) (by kernel_rfl) (Below.refl _ _).drew ?_ ?_ ?_ ?_ ?_ ?_ ?_
      · intro K vl1 vl2 va1 va2 W hR hK
        obtain ⟨⟨q0, q1, q2, q3, q4, q5, q6, q7, q8, q9, qA⟩, -⟩ := blk11 (HX9.out.below hR HX9.out.lt)
        subst hAA
        refine wpOp_step rfl fun K' h' => ?_
        simp only [Act.put, List.setIfInBounds_toArray, List.set_cons_zero, List.set_cons_succ]
        go_simp
        exact h' _ _ hK
      · intro K vl1 vl2 va1 va2 W hR hK
        obtain ⟨⟨q0, q1, q2, q3, q4, q5, q6, q7, q8, q9, qA⟩, -⟩ := blk11 (HY9.out.below hR HY9.out.lt)
        subst hAA
        refine wpOp_step rfl fun K' h' => ?_
        simp only [Act.put, List.setIfInBounds_toArray, List.set_cons_zero, List.set_cons_succ]
        go_simp
        exact h' _ _ hK
      · intro K vl1 vl2 va1 va2 W hR hK
        subst hAA
        refine wpOp_step rfl fun K' h' => ?_
        simp only [Act.put, List.setIfInBounds_toArray, List.set_cons_zero, List.set_cons_succ]
        go_simp
        obtain ⟨z1, z2, z3⟩ := box_new hR.size _ rfl
        exact h' _ _ (hK W.heap.size _ (hR.alloc hR.size _) z1 z2 z3)
      · intro K vl1 vl2 va1 va2 W hR hK
        subst hAA
        refine wpOp_step rfl fun K' h' => ?_
        simp only [Act.put, List.setIfInBounds_toArray, List.set_cons_zero, List.set_cons_succ]
        go_simp
        obtain ⟨z1, z2, z3⟩ := box_new hR.size _ rfl
        exact h' _ _ (hK W.heap.size _ (hR.alloc hR.size _) z1 z2 z3)
      · intro K vl2 va2 g W hR hz hK
        obtain ⟨⟨q0, q1, q2, q3, q4, q5, q6, q7, q8, q9, qA⟩, f0, f1, f2, f3, f4, f5, f6, f7, f8, f9, fA⟩ := blk11 hz.2
        subst hAA
        refine wpOp_step rfl fun K' h' => ?_
        simp only [Act.put, List.setIfInBounds_toArray, List.set_cons_zero, List.set_cons_succ]
        go_simp
        obtain ⟨z1, z2, z3⟩ := box_set hz (.string P1) (.int .i64 kx) (.string T1) (.int .i64 mx0) (.int .i64 mx1) (.int .i64 mx2) (.string U1) (.string G1) (.int .i64 mx5) (.int .i64 mx6) (.slice D n1 c)
        exact h' _ _ (hK _ (below_set11 hR hz.1 _ _ _ _ _ _ _ _ _ _ _) z1 z2 z3)
      · intro K vl1 va1 g W hR hz hK
        obtain ⟨⟨q0, q1, q2, q3, q4, q5, q6, q7, q8, q9, qA⟩, f0, f1, f2, f3, f4, f5, f6, f7, f8, f9, fA⟩ := blk11 hz.2
        subst hAA
        refine wpOp_step rfl fun K' h' => ?_
        simp only [Act.put, List.setIfInBounds_toArray, List.set_cons_zero, List.set_cons_succ]
        go_simp
        obtain ⟨z1, z2, z3⟩ := box_set hz (.string P2) (.int .i64 ky) (.string T2) (.int .i64 my0) (.int .i64 my1) (.int .i64 my2) (.string U2) (.string G2) (.int .i64 my5) (.int .i64 my6) (.slice E n2 e)
        exact h' _ _ (hK _ (below_set11 hR hz.1 _ _ _ _ _ _ _ _ _ _ _) z1 z2 z3)
      · rintro g h W hne ⟨k1, cs, e1, hb1⟩ ⟨k2, cs2, e2, hb2⟩ hR
        injection e1 with e1
        injection e2 with e2
        subst e1 e2
        subst hAA
        simp only [Act.put, List.setIfInBounds_toArray, List.set_cons_zero, List.set_cons_succ]
        go_wp2_with fail
        go_meet
        exact ⟨g, h, rfl, rfl, hne, ⟨k1, k2⟩, hb1, hb2, hR⟩
    case rest =>
      obtain ⟨ga, gb, rfl, rfl, hab, HLe, HA, HBb, HBx⟩ := hcut
      rename World => x10
      have HX10 := Lib.hid (HX9.out.below HBx.out HX9.out.lt)
      have HY10 := Lib.hid (HY9.out.below HBx.out HY9.out.lt)
      have HM10 := Lib.hid (HM9.out.below HBx.out HM9.out.lt)
      have HL10 := Lib.hid (HL9.out.below HBx.out HL9.out.lt)
      have HxA : Hid (gx ≠ ga) := Nat.ne_of_lt (Nat.lt_of_lt_of_le HX9.out.lt HLe.out.1)
      have HxB : Hid (gx ≠ gb) := Nat.ne_of_lt (Nat.lt_of_lt_of_le HX9.out.lt HLe.out.2)
      have HyA : Hid (gy ≠ ga) := Nat.ne_of_lt (Nat.lt_of_lt_of_le HY9.out.lt HLe.out.1)
      have HyB : Hid (gy ≠ gb) := Nat.ne_of_lt (Nat.lt_of_lt_of_le HY9.out.lt HLe.out.2)
      have HmA : Hid (g7 ≠ ga) := Nat.ne_of_lt (Nat.lt_of_lt_of_le HM9.out.lt HLe.out.1)
      have HmB : Hid (g7 ≠ gb) := Nat.ne_of_lt (Nat.lt_of_lt_of_le HM9.out.lt HLe.out.2)
      have HlA : Hid (g9 ≠ ga) := Nat.ne_of_lt (Nat.lt_of_lt_of_le HL9.out.lt HLe.out.1)
      have HlB : Hid (g9 ≠ gb) := Nat.ne_of_lt (Nat.lt_of_lt_of_le HL9.out.lt HLe.out.2)
      have HAb := Lib.hid hab
      have qa : x10.cell? ⟨ga, 10, none⟩ = some (.slice D n1 c) := HA.out.cell 10
      have fa := HA.out.frozen 10
      have qb : x10.cell? ⟨gb, 10, none⟩ = some (.slice E n2 e) := HBb.out.cell 10
      have fb := HBb.out.frozen 10
      have qb2 : (x10.setCell ⟨ga, 10, none⟩ (.slice none 0 0)).cell? ⟨gb, 10, none⟩ = some (.slice E n2 e) := (HBb.out.far (p := ⟨ga, 10, none⟩) HAb.out.symm (.slice none 0 0)).cell 10
      have fb2 := (HBb.out.far (p := ⟨ga, 10, none⟩) HAb.out.symm (.slice none 0 0)).frozen 10
      have HBy := Lib.hid ((HBx.out.setCell (p := ⟨ga, 10, none⟩) HLe.out.1 (.slice none 0 0)).setCell (p := ⟨gb, 10, none⟩) HLe.out.2 (.slice none 0 0))
      have HX11 := Lib.hid ((HX10.out.far (p := ⟨ga, 10, none⟩) HxA.out (.slice none 0 0)).far (p := ⟨gb, 10, none⟩) HxB.out (.slice none 0 0))
      have HY11 := Lib.hid ((HY10.out.far (p := ⟨ga, 10, none⟩) HyA.out (.slice none 0 0)).far (p := ⟨gb, 10, none⟩) HyB.out (.slice none 0 0))
      have HM11 := Lib.hid ((HM10.out.far (p := ⟨ga, 10, none⟩) HmA.out (.slice none 0 0)).far (p := ⟨gb, 10, none⟩) HmB.out (.slice none 0 0))
      have HL11 := Lib.hid ((HL10.out.far (p := ⟨ga, 10, none⟩) HlA.out (.slice none 0 0)).far (p := ⟨gb, 10, none⟩) HlB.out (.slice none 0 0))
      have HA11 : Hid (Blk ((x10.setCell ⟨ga, 10, none⟩ (.slice none 0 0)).setCell ⟨gb, 10, none⟩ (.slice none 0 0)) ga 26 #[.string P1, .int .i64 kx, .string T1, .int .i64 mx0, .int .i64 mx1, .int .i64 mx2, .string U1, .string G1, .int .i64 mx5, .int .i64 mx6, .slice none 0 0]) := (HA.out.set_ 10 (.slice none 0 0)).far (p := ⟨gb, 10, none⟩) HAb.out (.slice none 0 0)
      have HB11 : Hid (Blk ((x10.setCell ⟨ga, 10, none⟩ (.slice none 0 0)).setCell ⟨gb, 10, none⟩ (.slice none 0 0)) gb 26 #[.string P2, .int .i64 ky, .string T2, .int .i64 my0, .int .i64 my1, .int .i64 my2, .string U2, .string G2, .int .i64 my5, .int .i64 my6, .slice none 0 0]) := (HBb.out.far (p := ⟨ga, 10, none⟩) HAb.out.symm (.slice none 0 0)).set_ 10 (.slice none 0 0)
      clear HX10 HY10 HM10 HL10 HX9 HY9 HM9 HL9 HA HBb HBx HxA HxB HyA HyB HmA HmB HlA HlB hab
      go_upto_region 10 with fail
      generalize (x10.setCell ⟨ga, 10, none⟩ (.slice none 0 0)).setCell ⟨gb, 10, none⟩ (.slice none 0 0) = x11 at HBy HX11 HY11 HM11 HL11 HA11 HB11 ⊢
      obtain ⟨⟨q0, q1, q2, q3, q4, q5, q6, q7, q8, q9, qA⟩, -⟩ := blk11 HA11.out
      obtain ⟨⟨p0, p1, p2, p3, p4, p5, p6, p7, p8, p9, pA⟩, -⟩ := blk11 HB11.out
      have HKE := Lib.hid (HQe.out x11)
      have HB11b := Lib.hid (HB9.out.trans (HBy.out.mono HB9.out.size))
      clear qa fa qb fb qb2 fb2 HQe
      go_wp2_with fail
      refine HKE.out.mono ?_; rintro e' x12 ⟨rfl, hb⟩
      have HX12 := Lib.hid (HX11.out.below hb HX11.out.lt)
      have HY12 := Lib.hid (HY11.out.below hb HY11.out.lt)
      have HM12 := Lib.hid (HM11.out.below hb HM11.out.lt)
      have HL12 := Lib.hid (HL11.out.below hb HL11.out.lt)
      have HB12 := Lib.hid (HB11b.out.trans (hb.mono HB11b.out.size))
      have HO12 := Lib.hid (HO9.out.below (HBy.out.trans (hb.mono HBy.out.size)))
      have HP12 := Lib.hid (HP9.out.below (HBy.out.trans (hb.mono HBy.out.size)))
      have HKR := Lib.hid (HQr.out A7 A8 c7 c8 x12 HO12.out HP12.out)
      have qx : x12.cell? ⟨gx, 10, none⟩ = some (.slice D n1 c) := HX12.out.cell 10
      have qy : x12.cell? ⟨gy, 10, none⟩ = some (.slice E n2 e) := HY12.out.cell 10
      have hlen := HLen.out
      have hqh := HQh.out
      have htt := HTT.out
      clear hb HX11 HY11 HM11 HL11 HA11 HB11 HKE HB11b HO9 HP9 HO12 HP12 HQr HX12 HY12 HLen HQh HTT q0 q1 q2 q3 q4 q5 q6 q7 q8 q9 qA p0 p1 p2 p3 p4 p5 p6 p7 p8 p9 pA
      obtain ⟨⟨q0, q1, q2, q3, q4, q5, q6, q7, q8, q9, qA⟩, -⟩ := blk11 HM12.out
      obtain ⟨⟨p0, p1, p2, p3, p4, p5, p6, p7, p8, p9, pA⟩, -⟩ := blk11 HL12.out
      cases bh with
      | false =>
        have hf : (be && bl) = false := by rw [← htt]; rfl
        clear htt HKR
        cases be with
        | false =>
          clear hf
          go_wp2_with fail
          go_ret
          exact ⟨rfl, HB12.out⟩
        | true =>
          have hbl : bl = false := hf
          subst hbl
          clear hf
          go_wp2_with fail
          go_ret
          exact ⟨rfl, HB12.out⟩
      | true =>
        have hf : br = (be && bl) := by rw [← htt]; rfl
        clear htt
        cases be with
        | false =>
          have hbr : br = false := hf
          subst hbr
          clear hf
          go_wp2_with fail
          refine HKR.out.mono ?_; rintro e' x13 ⟨rfl, hb⟩
          have HB13 := Lib.hid (HB12.out.trans (hb.mono HB12.out.size))
          clear hb
          go_wp2_with fail
          go_ret
          exact ⟨rfl, HB13.out⟩
        | true =>
          have hbr : br = bl := hf
          subst hbr
          clear hf
          cases br with
          | false =>
            go_wp2_with fail
            refine HKR.out.mono ?_; rintro e' x13 ⟨rfl, hb⟩
            have HB13 := Lib.hid (HB12.out.trans (hb.mono HB12.out.size))
            clear hb
            go_wp2_with fail
            go_ret
            exact ⟨rfl, HB13.out⟩
          | true =>
            go_wp2_with fail
            refine HKR.out.mono ?_; rintro e' x13 ⟨rfl, hb⟩
            have HB13 := Lib.hid (HB12.out.trans (hb.mono HB12.out.size))
            clear hb
            go_wp2_with fail
            go_ret
            exact ⟨rfl, HB13.out⟩
end Go.Proofs.YtldffnmoafhidaaGreatDoor
