/- creelkeep.Entry: the members that are drawn. (Stage 17, ahead.) -/
import Derived.Test.YtdcbmjihpjnbbaaDoorMth
import Derived.Test.YtdcbmjihpjnbbaaDoorEna
import Derived.Test.YtdcbmjihpjnbbaaDoorTreB
import Derived.Test.YtdcbmjihpjnbbaaDoorBas
import Derived.Test.YtdcbmjihpjnbbaaDoorSet11
import Derived.Test.YtdcbmjihpjnbbaaDoorStpA
import Derived.Test.YtdcbmjihpjnbbaaDoorFld
import Derived.Deep.RegionLaw
import Derived.Deep.RegionWith
import Derived.Deep.RegionHeld3
set_option linter.unusedVariables false
set_option maxRecDepth 100000
namespace Go.Proofs.YtdcbmjihpjnbbaaDoor
open Go.RowKit
open Go.OpenShut
theorem newF {W w' : World} {cs : Array Value} {t : TypeId} (hb : Below (W.alloc (.cells cs t)).heap.size (W.alloc (.cells cs t)) w') : Blk w' W.heap.size t cs := (Blk.new W t cs).below hb (by rw [hszA]; exact Nat.lt_succ_self _)
theorem newFD {W w' : World} {cs : Array Value} {t : TypeId} (hb : Below (W.alloc (.cells cs t)).drew.heap.size (W.alloc (.cells cs t)).drew w') : Blk w' W.heap.size t cs := ((Blk.new W t cs).drew_).below hb (by show W.heap.size < (W.alloc (.cells cs t)).heap.size; rw [hszA]; exact Nat.lt_succ_self _)
theorem newC {w : World} {g : Nat} (h : Blk w g 30 #[.string ⟨#[]⟩, .int .i64 0, .string ⟨#[]⟩, .int .i64 0, .int .i64 0, .int .i64 0, .string ⟨#[]⟩, .string ⟨#[]⟩, .int .i64 0, .int .i64 0, .slice none 0 0]) : (w.cell? ⟨g, 0, none⟩ = some (.string ⟨#[]⟩) ∧ w.cell? ⟨g, 1, none⟩ = some (.int .i64 0) ∧ w.cell? ⟨g, 2, none⟩ = some (.string ⟨#[]⟩) ∧ w.cell? ⟨g, 3, none⟩ = some (.int .i64 0) ∧ w.cell? ⟨g, 4, none⟩ = some (.int .i64 0) ∧ w.cell? ⟨g, 5, none⟩ = some (.int .i64 0) ∧ w.cell? ⟨g, 6, none⟩ = some (.string ⟨#[]⟩) ∧ w.cell? ⟨g, 7, none⟩ = some (.string ⟨#[]⟩) ∧ w.cell? ⟨g, 8, none⟩ = some (.int .i64 0) ∧ w.cell? ⟨g, 9, none⟩ = some (.int .i64 0) ∧ w.cell? ⟨g, 10, none⟩ = some (.slice none 0 0)) ∧ w.frozen? ⟨g, 0, none⟩ = false ∧ w.frozen? ⟨g, 1, none⟩ = false ∧ w.frozen? ⟨g, 2, none⟩ = false ∧ w.frozen? ⟨g, 3, none⟩ = false ∧ w.frozen? ⟨g, 4, none⟩ = false ∧ w.frozen? ⟨g, 5, none⟩ = false ∧ w.frozen? ⟨g, 6, none⟩ = false ∧ w.frozen? ⟨g, 7, none⟩ = false ∧ w.frozen? ⟨g, 8, none⟩ = false ∧ w.frozen? ⟨g, 9, none⟩ = false ∧ w.frozen? ⟨g, 10, none⟩ = false := by
  obtain ⟨⟨q0, q1, q2, q3, q4, q5, q6, q7, q8, q9, qA⟩, f0, f1, f2, f3, f4, f5, f6, f7, f8, f9, fA⟩ := blk11 h
  exact ⟨⟨q0, q1, q2, q3, q4, q5, q6, q7, q8, q9, qA⟩, f0, f1, f2, f3, f4, f5, f6, f7, f8, f9, fA⟩
theorem cell_keep {W W' : World} {p : Addr} {v : Value} (h : W.cell? p = some v) (hb : Below W.heap.size W W') : W'.cell? p = some v := (hb.cell (World.block_lt_of_cell? _ _ h)).trans h
theorem cell_new {W : World} {p : Addr} {v : Value} (h : W.cell? p = some v) (o : Obj) : (W.alloc o).cell? p = some v := cell_keep h ((Below.refl _ _).alloc (Nat.le_refl _) o)
theorem keepWN {x W : World} (h : Below x.heap.size x W) (o : Obj) : Below x.heap.size x (W.alloc o) := h.alloc h.size o
theorem byts_set {W : World} {g o : Nat} {l : List UInt8} (h : BytsAt W (some ⟨g, o, none⟩) l) (p : Addr) (v : Value) (hne : g ≠ p.block) : BytsAt (W.setCell p v) (some ⟨g, o, none⟩) l := fun j hj => by
  obtain ⟨b, o', e, hc⟩ := h j hj
  injection e with e
  injection e with e1 e2
  subst e1 e2
  refine ⟨_, _, rfl, ?_⟩
  have hb : (W.setCell p v).heap[g]? = W.heap[g]? := Below.heap_setCell W p v g hne
  unfold World.cell? at hc ⊢
  rw [hb]; exact hc
theorem byts_set11 {W : World} {g gz o : Nat} {l : List UInt8} (h : BytsAt W (some ⟨g, o, none⟩) l) (hne : g ≠ gz) (v0 v1 v2 v3 v4 v5 v6 v7 v8 v9 v10 : Value) : BytsAt (((((((((((W.setCell ⟨gz, 0, none⟩ v0).setCell ⟨gz, 1, none⟩ v1).setCell ⟨gz, 2, none⟩ v2).setCell ⟨gz, 3, none⟩ v3).setCell ⟨gz, 4, none⟩ v4).setCell ⟨gz, 5, none⟩ v5).setCell ⟨gz, 6, none⟩ v6).setCell ⟨gz, 7, none⟩ v7).setCell ⟨gz, 8, none⟩ v8).setCell ⟨gz, 9, none⟩ v9).setCell ⟨gz, 10, none⟩ v10) (some ⟨g, o, none⟩) l :=
  byts_set (byts_set (byts_set (byts_set (byts_set (byts_set (byts_set (byts_set (byts_set (byts_set (byts_set h ⟨gz, 0, none⟩ v0 hne) ⟨gz, 1, none⟩ v1 hne) ⟨gz, 2, none⟩ v2 hne) ⟨gz, 3, none⟩ v3 hne) ⟨gz, 4, none⟩ v4 hne) ⟨gz, 5, none⟩ v5 hne) ⟨gz, 6, none⟩ v6 hne) ⟨gz, 7, none⟩ v7 hne) ⟨gz, 8, none⟩ v8 hne) ⟨gz, 9, none⟩ v9 hne) ⟨gz, 10, none⟩ v10 hne
theorem keepW {x W W' : World} (h : Below x.heap.size x W) (hb : Below W.heap.size W W') : Below x.heap.size x W' := h.trans (hb.mono h.size)
set_option maxHeartbeats 8000000 in
theorem Entry_any (r : RawV) (hr : r.wf) (w : World) :
    Calls Tryd.prog 16 #[.agg (rawC r).toArray] w fun e w' => ∃ D c, e = .returned (.agg (entC (entD r) D c).toArray) ∧ SlOk D (entD r).data.length c ∧ BytsAt w' D (entD r).data ∧ Below w.heap.size w w' := by
  have HMt := Lib.hid fun W => Meta_any r hr W
  have HEE : Hid (entD r = ⟨pathDr r, 1 + pick r.kind 4, (if 1 < pick r.kind 4 then 116 :: List.replicate (pick r.b 150).toNat 117 else []), metaV r, (if pick r.kind 4 = 0 then Lib.repeatL (cleanL r.text.data.toList 40) (pick r.b 40).toNat else [])⟩) := rfl
  have HPD : Hid (pathDr r = Lib.trimSuffix (if 400 < (joinD r (pick r.b 5).toNat).length then (joinD r (pick r.b 5).toNat).take 100 else joinD r (pick r.b 5).toNat) [47]) := rfl
  have HJ : Hid (∀ k, (joinD r k).length ≤ 131 * k + 130) := fun k => (joinD_ok r k).2.2.2
  obtain ⟨hk, ha, hb, ht⟩ := hr
  have HAK := Lib.hid hk
  have HAA := Lib.hid ha
  have HAB := Lib.hid hb
  obtain ⟨pa, Hpa⟩ : ∃ q : Nat, Hid (pick r.a 11 = q) := ⟨(pick r.a 11).toNat, by have := pick_bd r.a 11 (by omega); show _ = _; omega⟩
  have hpa : pa < 11 := by have := pick_bd r.a 11 (by omega); have := Hpa.out; omega
  have hpa0 : (0 : Int) ≤ (pa : Int) := by omega
  have hpa1 : (pa : Int) < 11 := by omega
  obtain ⟨pk, Hpk⟩ : ∃ q : Nat, Hid (pick r.kind 4 = q) := ⟨(pick r.kind 4).toNat, by have := pick_bd r.kind 4 (by omega); show _ = _; omega⟩
  have hpk : pk < 4 := by have := pick_bd r.kind 4 (by omega); have := Hpk.out; omega
  obtain ⟨pb, Hpb⟩ : ∃ q : Nat, Hid (pick r.b 5 = q) := ⟨(pick r.b 5).toNat, by have := pick_bd r.b 5 (by omega); show _ = _; omega⟩
  have hpb : pb < 5 := by have := pick_bd r.b 5 (by omega); have := Hpb.out; omega
  have hPA := fun W => picked_any r.a 11 W HAA.out (by omega)
  have hPK := fun W => picked_any r.kind 4 W HAK.out (by omega)
  rw [Hpa.out] at hPA
  rw [Hpk.out] at hPK
  have HPA := Lib.hid hPA
  have HPK := Lib.hid hPK
  clear hPA hPK
  have hpk1 : IntKind.i64.wrap (1 + (pk : Int)) = 1 + (pk : Int) := by rw [IntKind.wrap_i64]; omega
  obtain ⟨nm, Hnm⟩ := hid_name (⟨(namesL.getD pa []).toArray⟩ : ByteArray)
  obtain ⟨MV, HMV⟩ := hid_name (metaV r)
  rw [HMV.out] at HMt HEE
  obtain ⟨m0, m1, m2, m3, m4, m5, m6⟩ := MV
  unfold metaC strV at HMt
  simp only at HMt
  generalize hM3 : (⟨m3.toArray⟩ : ByteArray) = M3 at HMt
  generalize hM4 : (⟨m4.toArray⟩ : ByteArray) = M4 at HMt
  have HM3 := Lib.hid hM3
  have HM4 := Lib.hid hM4
  clear hM3 hM4
  unfold rawC
  have hbx := Blk.new w 41 #[.int .i64 r.kind, .int .i64 r.a, .int .i64 r.b, .string r.text]
  have hwx := (Below.refl w.heap.size w).alloc (Nat.le_refl _) (.cells #[.int .i64 r.kind, .int .i64 r.a, .int .i64 r.b, .string r.text] 41)
  have hbz := Blk.new (w.alloc (.cells #[.int .i64 r.kind, .int .i64 r.a, .int .i64 r.b, .string r.text] 41)) 30 #[.string ⟨#[]⟩, .int .i64 0, .string ⟨#[]⟩, .int .i64 0, .int .i64 0, .int .i64 0, .string ⟨#[]⟩, .string ⟨#[]⟩, .int .i64 0, .int .i64 0, .slice none 0 0]
  have hbx1 := hbx.alloc (.cells #[.string ⟨#[]⟩, .int .i64 0, .string ⟨#[]⟩, .int .i64 0, .int .i64 0, .int .i64 0, .string ⟨#[]⟩, .string ⟨#[]⟩, .int .i64 0, .int .i64 0, .slice none 0 0] 30)
  have hwx1 := hwx.alloc hwx.size (.cells #[.string ⟨#[]⟩, .int .i64 0, .string ⟨#[]⟩, .int .i64 0, .int .i64 0, .int .i64 0, .string ⟨#[]⟩, .string ⟨#[]⟩, .int .i64 0, .int .i64 0, .slice none 0 0] 30)
  rw [hszA] at hbz
  go_enter Tryd.func16, Tryd.ntmps16
  go_upto_region 1 with fail
  generalize (w.alloc (.cells #[.int .i64 r.kind, .int .i64 r.a, .int .i64 r.b, .string r.text] 41)).alloc (.cells #[.string ⟨#[]⟩, .int .i64 0, .string ⟨#[]⟩, .int .i64 0, .int .i64 0, .int .i64 0, .string ⟨#[]⟩, .string ⟨#[]⟩, .int .i64 0, .int .i64 0, .slice none 0 0] 30) = w1 at hbz hbx1 hwx1 ⊢
  have HBX := Lib.hid hbx1
  have HBZ := Lib.hid hbz
  have HW1 := Lib.hid hwx1
  obtain ⟨gr, hgr⟩ := hid_name w.heap.size
  rw [hgr.out] at HBX HBZ ⊢
  clear hbx hwx hbz hbx1 hwx1
  go_cut [3] (fun s3 wx => ∃ gx, s3 = .pointer (some ⟨gx, 0, none⟩) ∧ w1.heap.size ≤ gx ∧ Blk wx gx 30 #[.string nm, .int .i64 (1 + (pk : Int)), .string ⟨#[]⟩, .int .i64 m0, .int .i64 m1, .int .i64 m2, .string M3, .string M4, .int .i64 m5, .int .i64 m6, .slice none 0 0] ∧ Below w1.heap.size w1 wx)
  case first =>
    have r0 : ∀ W : World, Below w1.heap.size w1 W → W.cell? ⟨gr, 0, none⟩ = some (.int .i64 r.kind) := fun W h => (blk4 (HBX.out.below h HBX.out.lt)).1
    have r1 : ∀ W : World, Below w1.heap.size w1 W → W.cell? ⟨gr, 1, none⟩ = some (.int .i64 r.a) := fun W h => (blk4 (HBX.out.below h HBX.out.lt)).2.1
    have r2 : ∀ W : World, Below w1.heap.size w1 W → W.cell? ⟨gr, 2, none⟩ = some (.int .i64 r.b) := fun W h => (blk4 (HBX.out.below h HBX.out.lt)).2.2.1
    have r3 : ∀ W : World, Below w1.heap.size w1 W → W.cell? ⟨gr, 3, none⟩ = some (.string r.text) := fun W h => (blk4 (HBX.out.below h HBX.out.lt)).2.2.2
    have hS := Below.refl w1.heap.size w1
    unfold rawC at HMt
    change Code.wp _ (Code.region _ (List.toArray [_, _, _, _, _, _, _, (Oper.mk _ (id _) _ _ _ _), _, _, _, _, _, _, _, _, _]) _) _ _ _
    go_region_held3 (fun W => Below w1.heap.size w1 W)
      (first
        | (with_reducible assumption)
        | (with_reducible refine Below.drew ?_; with_reducible assumption)
        | (with_reducible exact keepWN (by with_reducible assumption) _)
        | (with_reducible exact Below.drew (keepWN (Below.refl _ _) _))
        | (with_reducible exact below_set11 (by with_reducible assumption) (Nat.le_refl _) _ _ _ _ _ _ _ _ _ _ _)
        | (with_reducible exact below_set11 (by with_reducible assumption) (Below.size (keepW (Below.drew (Below.refl _ _)) hbA)) _ _ _ _ _ _ _ _ _ _ _)
        | (with_reducible exact below_set11 (by with_reducible assumption) (Below.size (keepW (keepW (Below.drew (Below.refl _ _)) hbA) hbB)) _ _ _ _ _ _ _ _ _ _ _)
        | (with_reducible exact keepWN (keepW (keepW (keepW (Below.drew (Below.refl _ _)) hbA) hbB) hbC) _)
        | (with_reducible exact keepW (by with_reducible assumption) (by with_reducible assumption)))
      (first
        | (go_at_call 37; (have F0 := F1); refine (names_any _).mono ?_; rintro e w3 ⟨g2, rfl, hT2, hbB⟩; have F2 : w3.cell? ⟨g1, pa, none⟩ = some (.string nm) := (by first | with_reducible exact cell_keep F1 hbB | with_reducible exact cell_keep (cell_new F1 _) hbB); have F2a := cell_new F2; (first | (have hN3 : Blk w3 w2.heap.size 30 #[.string ⟨#[]⟩, .int .i64 0, .string ⟨#[]⟩, .int .i64 0, .int .i64 0, .int .i64 0, .string ⟨#[]⟩, .string ⟨#[]⟩, .int .i64 0, .int .i64 0, .slice none 0 0] := (by with_reducible exact newF hbB); obtain ⟨⟨q0, q1, q2, q3, q4, q5, q6, q7, q8, q9, qA⟩, f0, f1, f2, f3, f4, f5, f6, f7, f8, f9, fA⟩ := newC hN3) | (have hN3 : Blk w3 w1.heap.size 30 #[.string ⟨#[]⟩, .int .i64 0, .string ⟨#[]⟩, .int .i64 0, .int .i64 0, .int .i64 0, .string ⟨#[]⟩, .string ⟨#[]⟩, .int .i64 0, .int .i64 0, .slice none 0 0] := (by with_reducible exact Blk.below hN hbB (Blk.lt hN)); obtain ⟨⟨q0, q1, q2, q3, q4, q5, q6, q7, q8, q9, qA⟩, f0, f1, f2, f3, f4, f5, f6, f7, f8, f9, fA⟩ := newC hN3) | skip))
        | (go_at_call 37; refine (names_any _).mono ?_; rintro e w2 ⟨g1, rfl, hT1, hbA⟩; (have F1 : w2.cell? ⟨g1, pa, none⟩ = some (.string nm) := by (rw [hT1.cell rfl pa hpa]; unfold strV; rw [Hnm.out])); have F1a := cell_new F1; (first | (have hN : Blk w2 w1.heap.size 30 #[.string ⟨#[]⟩, .int .i64 0, .string ⟨#[]⟩, .int .i64 0, .int .i64 0, .int .i64 0, .string ⟨#[]⟩, .string ⟨#[]⟩, .int .i64 0, .int .i64 0, .slice none 0 0] := (by with_reducible exact newFD hbA); obtain ⟨⟨q0, q1, q2, q3, q4, q5, q6, q7, q8, q9, qA⟩, f0, f1, f2, f3, f4, f5, f6, f7, f8, f9, fA⟩ := newC hN) | skip))
        | (go_at_call 15; with_reducible refine (HPA.out _).mono ?_; rintro e w' ⟨rfl, rfl⟩)
        | (go_at_call 15; with_reducible refine (HPK.out _).mono ?_; rintro e w' ⟨rfl, rfl⟩)
        | (go_at_call 38; refine (HMt.out _).mono ?_; rintro e w4 ⟨rfl, hbC⟩; have F3 : w4.cell? ⟨g1, pa, none⟩ = some (.string nm) := (by first | with_reducible exact cell_keep F2 hbC | with_reducible exact cell_keep (F2a _) hbC); have F3a := cell_new F3; (first | (have hN4 : Blk w4 w3.heap.size 30 #[.string ⟨#[]⟩, .int .i64 0, .string ⟨#[]⟩, .int .i64 0, .int .i64 0, .int .i64 0, .string ⟨#[]⟩, .string ⟨#[]⟩, .int .i64 0, .int .i64 0, .slice none 0 0] := (by with_reducible exact newF hbC); obtain ⟨⟨q0, q1, q2, q3, q4, q5, q6, q7, q8, q9, qA⟩, f0, f1, f2, f3, f4, f5, f6, f7, f8, f9, fA⟩ := newC hN4) | (have hN4 : Blk w4 w2.heap.size 30 #[.string ⟨#[]⟩, .int .i64 0, .string ⟨#[]⟩, .int .i64 0, .int .i64 0, .int .i64 0, .string ⟨#[]⟩, .string ⟨#[]⟩, .int .i64 0, .int .i64 0, .slice none 0 0] := (by with_reducible exact Blk.below hN3 hbC (Blk.lt hN3)); obtain ⟨⟨q0, q1, q2, q3, q4, q5, q6, q7, q8, q9, qA⟩, f0, f1, f2, f3, f4, f5, f6, f7, f8, f9, fA⟩ := newC hN4) | (have hN4 : Blk w4 w1.heap.size 30 #[.string ⟨#[]⟩, .int .i64 0, .string ⟨#[]⟩, .int .i64 0, .int .i64 0, .int .i64 0, .string ⟨#[]⟩, .string ⟨#[]⟩, .int .i64 0, .int .i64 0, .slice none 0 0] := (by with_reducible exact Blk.below hN3 hbC (Blk.lt hN3)); obtain ⟨⟨q0, q1, q2, q3, q4, q5, q6, q7, q8, q9, qA⟩, f0, f1, f2, f3, f4, f5, f6, f7, f8, f9, fA⟩ := newC hN4) | skip)))
    all_goals
      go_wp2_with fail
      go_meet
      first
        | exact ⟨_, rfl, Below.size (keepW (keepW (keepW (Below.drew (Below.refl _ _)) hbA) hbB) hbC), Blk.new _ _ _, by assumption⟩
        | exact ⟨_, rfl, Below.size (keepW (keepW (Below.drew (Below.refl _ _)) hbA) hbB), blk_set11 hN4 _ _ _ _ _ _ _ _ _ _ _, by assumption⟩
        | exact ⟨_, rfl, Below.size (keepW (Below.drew (Below.refl _ _)) hbA), blk_set11 hN4 _ _ _ _ _ _ _ _ _ _ _, by assumption⟩
        | exact ⟨_, rfl, Nat.le_refl _, blk_set11 hN4 _ _ _ _ _ _ _ _ _ _ _, by assumption⟩
  case rest =>
    obtain ⟨gx, rfl, hgx, hE2, hB2⟩ := hcut
    rename World => x2
    have HE2 := Lib.hid hE2
    have HB2 := Lib.hid hB2
    have HGX := Lib.hid hgx
    have HPB := Lib.hid fun W => picked_any r.b 5 W HAB.out (by omega)
    rw [Hpb.out] at HPB
    have q2 := (blk4 (HBX.out.below hB2 HBX.out.lt)).2.2.1
    clear hE2 hB2 hgx HPA HPK HMt hpk1 hpa0 hpa1
    go_wp2_with fail
    refine (HPB.out _).mono ?_; rintro e w' ⟨rfl, rfl⟩
    clear q2 HPB
    have hnm0 : nm = bs (joinD r 0) := by
      rw [← Hnm.out]
      show _ = bs (namesL.getD (pick r.a 11).toNat [])
      rw [Hpa.out]; rfl
    rw [hnm0] at HE2
    clear hnm0
    go_wp2_with fail
    go_loopw [23] (fun iv wr => ∃ i : Nat, i ≤ pb ∧ iv = .int .i64 i ∧ Hid (Blk wr gx 30 #[.string (bs (joinD r i)), .int .i64 (1 + (pk : Int)), .string ⟨#[]⟩, .int .i64 m0, .int .i64 m1, .int .i64 m2, .string M3, .string M4, .int .i64 m5, .int .i64 m6, .slice none 0 0]) ∧ Hid (Below w1.heap.size w1 wr)) (fun iv _ => pb - (intOf iv).toNat)
    case atStart => exact ⟨0, Nat.zero_le _, rfl, HE2.out, HB2.out⟩
    case round =>
      obtain ⟨i, hi, rfl, HEi, HBi⟩ := hrel
      by_cases hlt : i < pb
      · obtain ⟨pi, Hpi⟩ : ∃ q : Nat, Hid (pick (IntKind.i64.wrap (r.a + (i : Int))) 11 = q) := ⟨(pick (IntKind.i64.wrap (r.a + (i : Int))) 11).toNat, by have := pick_bd (IntKind.i64.wrap (r.a + (i : Int))) 11 (by omega); show _ = _; omega⟩
        have hpi : pi < 11 := by have := pick_bd (IntKind.i64.wrap (r.a + (i : Int))) 11 (by omega); have := Hpi.out; omega
        have hpi0 : (0 : Int) ≤ (pi : Int) := by omega
        have hpi1 : (pi : Int) < 11 := by omega
        have HPI := Lib.hid fun W => picked_any (IntKind.i64.wrap (r.a + (i : Int))) 11 W (wf_wrap _ _) (by omega)
        rw [Hpi.out] at HPI
        obtain ⟨nmi, Hnmi⟩ := hid_name (⟨(namesL.getD pi []).toArray⟩ : ByteArray)
        have hnm4 : nmi.size ≤ 130 := by
          rw [← Hnmi.out, size_mk]
          have : ∀ q, q < 11 → (namesL.getD q []).length ≤ 130 := by decide
          exact this pi hpi
        have HJ1 : Hid (bs (joinD r (i + 1)) = bs (joinD r i) ++ ((⟨#[47]⟩ : ByteArray) ++ nmi)) := by
          unfold Hid
          rw [show joinD r (i + 1) = joinD r i ++ 47 :: namesL.getD (pick (IntKind.i64.wrap (r.a + i)) 11).toNat [] from rfl, Hpi.out, ← Hnmi.out]
          show bs (joinD r i ++ 47 :: namesL.getD pi []) = bs (joinD r i) ++ (bs [47] ++ bs (namesL.getD pi []))
          rw [bs_cat, bs_cat]; rfl
        have hsz := HJ.out i
        have hps : (bs (joinD r i)).size ≤ 131 * i + 130 := by rw [bs_size]; exact hsz
        obtain ⟨AI, HAI⟩ := hid_name (IntKind.i64.wrap (r.a + (i : Int)))
        rw [HAI.out] at HPI
        have hai : IntKind.i64.wrap (r.a + (i : Int)) = AI := HAI.out
        obtain ⟨P0, HP0⟩ := hid_name (bs (joinD r i))
        rw [HP0.out] at HEi HJ1 hps
        obtain ⟨T1, HT1⟩ := hid_name ((⟨#[47]⟩ : ByteArray) ++ nmi)
        have hT1s : T1.size ≤ 131 := by rw [← HT1.out, ByteArray.size_append]; show 1 + nmi.size ≤ 131; omega
        have hadd1 : ∀ W : World, (Op.stringOp .add ⟨#[47]⟩ nmi).run Tryd.prog W = .ok (.string T1) W := fun W => by
          rw [← HT1.out]; exact run_string_add_sum (P := Tryd.prog) (w := W) _ _ (by show 1 + nmi.size ≤ _; omega)
        rw [HT1.out] at HJ1
        obtain ⟨P1, HP1⟩ := hid_name (P0 ++ T1)
        have hadd2 : ∀ W : World, (Op.stringOp .add P0 T1).run Tryd.prog W = .ok (.string P1) W := fun W => by
          rw [← HP1.out]; exact run_string_add_sum (P := Tryd.prog) (w := W) _ _ (by omega)
        rw [HP1.out] at HJ1
        clear hnm4 hsz hps hT1s
        have hEi := HEi.out
        have hBi := HBi.out
        go_upto_region 5 with fail
        have p0 : wr.drew.cell? ⟨gx, 0, none⟩ = some (.string P0) := (blk11 hEi).1.1
        have p0' : wr.cell? ⟨gx, 0, none⟩ = some (.string P0) := p0
        have HEd := Lib.hid hEi.drew_
        clear hEi hBi
        have hS : Blk wr gr 41 #[.int .i64 r.kind, .int .i64 r.a, .int .i64 r.b, .string r.text] := HBX.out.below HBi.out HBX.out.lt
        have r1 : ∀ W : World, Blk W gr 41 #[.int .i64 r.kind, .int .i64 r.a, .int .i64 r.b, .string r.text] → W.cell? ⟨gr, 1, none⟩ = some (.int .i64 r.a) := fun W h => (blk4 h).2.1
        have hgne : gr ≠ gx := Nat.ne_of_lt (Nat.lt_of_lt_of_le HBX.out.lt HGX.out)
        change Code.wp _ (Code.region _ (List.toArray [_, (Oper.mk _ (id _) _ _ _ _), _, _, _, _, _, _, _, _, _, (Oper.mk _ (id _) _ _ _ _), _, _, _, _]) _) _ _ _
        go_region_held3 (fun W => Blk W gr 41 #[.int .i64 r.kind, .int .i64 r.a, .int .i64 r.b, .string r.text])
          (first
            | (with_reducible assumption)
            | (with_reducible refine Blk.drew_ ?_; with_reducible assumption)
            | (with_reducible exact Blk.far (by with_reducible assumption) hgne _)
            | (with_reducible exact Blk.below (by with_reducible assumption) hbB (Blk.lt (by with_reducible assumption)))
            | (with_reducible exact Blk.below (by with_reducible assumption) hbA (Blk.lt (by with_reducible assumption))))
          (first
            | (go_at_call 37; (have F0 := F1); refine (names_any _).mono ?_; rintro e w4 ⟨g2, rfl, hT2, hbB⟩; have F2 : w4.cell? ⟨g1, pi, none⟩ = some (.string nmi) := cell_keep F1 hbB; have p02 := cell_keep p01 hbB; have hE4 := Blk.below hE3 hbB hE3.lt; have f02 := (blk11 hE4).2.1)
            | (go_at_call 37; refine (names_any _).mono ?_; rintro e w3 ⟨g1, rfl, hT1, hbA⟩; (have F1 : w3.cell? ⟨g1, pi, none⟩ = some (.string nmi) := by (rw [hT1.cell rfl pi hpi]; unfold strV; rw [Hnmi.out])); have p01 := cell_keep p0 hbA; have hE3 := Blk.below HEd.out hbA HEd.out.lt)
            | (go_at_call 15; with_reducible refine (HPI.out _).mono ?_; rintro e w' ⟨rfl, rfl⟩))
        all_goals
          have HE5 : Hid (Blk (w4.setCell ⟨gx, 0, none⟩ (.string P1)) gx 30 #[.string (bs (joinD r (i + 1))), .int .i64 (1 + (pk : Int)), .string ⟨#[]⟩, .int .i64 m0, .int .i64 m1, .int .i64 m2, .string M3, .string M4, .int .i64 m5, .int .i64 m6, .slice none 0 0]) := by unfold Hid; rw [HJ1.out]; exact hE4.set_ 0 (.string P1)
          have HB5 := Lib.hid ((keepW (keepW (Below.drew HBi.out) hbA) hbB).setCell (p := ⟨gx, 0, none⟩) HGX.out (.string P1))
          clear F0 F1 F2 p0 p01 p02 p0' hE3 hE4 f02 hbA hbB hT1 hT2 hadd1 hadd2 HPI hai
          go_wp2_with fail
          go_roundw
          case rel => exact ⟨i + 1, by omega, by go_num, HE5.out, HB5.out⟩
          case measure => simp [intOf]; omega
      · obtain rfl : i = pb := by omega
        have hj4 := HJ.out i
        have HPD2 : Hid (pathDr r = Lib.trimSuffix (if 400 < (joinD r i).length then (joinD r i).take 100 else joinD r i) [47]) := by
          unfold Hid; rw [HPD.out, Hpb.out]; rfl
        have hjs := bs_size (joinD r i)
        have hext : (bs (joinD r i)).extract 0 100 = bs ((joinD r i).take 100) := by
          apply ByteArray.ext; apply Array.toList_inj.1
          rw [ByteArray.data_extract, Array.toList_extract, bs_list]
          simp only [bs_list, List.extract]
          simp
        generalize joinD r i = J at *
        obtain ⟨PJ, HPJ⟩ := hid_name (bs J)
        rw [HPJ.out] at HEi hjs hext
        -- the path in the end
        obtain ⟨PK, HPK9⟩ : ∃ PK : List UInt8, Hid (PK = if 400 < J.length then J.take 100 else J) := ⟨_, rfl⟩
        have hpks : (bs PK).size ≤ 1000000 := by rw [bs_size, HPK9.out]; split <;> (try rw [List.length_take]) <;> omega
        rw [← HPK9.out] at HPD2
        have HTr := fun W => Tryd.strings_TrimSuffix (bs PK) ⟨#[47]⟩ W (by omega)
        rw [bs_list, show (⟨#[47]⟩ : ByteArray).data.toList = [47] from rfl, ← HPD2.out] at HTr
        obtain ⟨PT, HPT⟩ : ∃ PT : ByteArray, Hid (bs (pathDr r) = PT) := ⟨_, rfl⟩
        have HTr2 : Hid (∀ W, Calls Tryd.prog 39 #[.string (bs PK), .string ⟨#[47]⟩] W fun e w' => e = .returned (.string PT) ∧ W = w') := by intro W; rw [← HPT.out]; exact (HTr W).mono fun e w' h => ⟨h.1, h.2.symm⟩
        clear HTr
        by_cases h4 : 400 < J.length
        · have hPK0 : PK = J.take 100 := by rw [HPK9.out, if_pos h4]
          rw [← hPK0] at hext
          have h4i : (400 : Int) < (PJ.size : Int) := by omega
          have h1i : (100 : Int) ≤ (PJ.size : Int) := by omega
          have hEi := HEi.out
          have hBi := HBi.out
          clear HPK9 hjs hj4
          obtain ⟨⟨p0, p1, p2, p3, p4, p5, p6, p7, p8, p9, pA⟩, f0, f1, f2, f3, f4, f5, f6, f7, f8, f9, fA⟩ := blk11 hEi
          rw [← hPK0] at *
          go_upto_region 9 with fail
          have hEk : Blk (wr.setCell ⟨gx, 0, none⟩ (.string (bs PK))) gx 30 #[.string (bs PK), .int .i64 (1 + (pk : Int)), .string ⟨#[]⟩, .int .i64 m0, .int .i64 m1, .int .i64 m2, .string M3, .string M4, .int .i64 m5, .int .i64 m6, .slice none 0 0] := hEi.set_ 0 (.string (bs PK))
          have hBk := hBi.setCell (p := ⟨gx, 0, none⟩) HGX.out (.string (bs PK))
          generalize wr.setCell ⟨gx, 0, none⟩ (.string (bs PK)) = wk at hEk hBk ⊢
          clear p0 p1 p2 p3 p4 p5 p6 p7 p8 p9 pA f0 f1 f2 f3 f4 f5 f6 f7 f8 f9 fA hEi hBi
          obtain ⟨⟨p0, p1, p2, p3, p4, p5, p6, p7, p8, p9, pA⟩, f0, f1, f2, f3, f4, f5, f6, f7, f8, f9, fA⟩ := blk11 hEk
          have HEt : Hid (Blk (wk.setCell ⟨gx, 0, none⟩ (.string PT)) gx 30 #[.string PT, .int .i64 (1 + (pk : Int)), .string ⟨#[]⟩, .int .i64 m0, .int .i64 m1, .int .i64 m2, .string M3, .string M4, .int .i64 m5, .int .i64 m6, .slice none 0 0]) := hEk.set_ 0 (.string PT)
          have HBt := Lib.hid (hBk.setCell (p := ⟨gx, 0, none⟩) HGX.out (.string PT))
          clear hEk hBk
          go_wp2_with fail
          refine (HTr2.out _).mono ?_; rintro e w' ⟨rfl, rfl⟩
          clear HTr2
          go_upto_region 10 with fail
          generalize wk.setCell ⟨gx, 0, none⟩ (.string PT) = xt at HEt HBt ⊢
          clear p0 p1 p2 p3 p4 p5 p6 p7 p8 p9 pA f0 f1 f2 f3 f4 f5 f6 f7 f8 f9 fA
          have hk4 : pk = 0 ∨ pk = 1 ∨ pk = 2 ∨ pk = 3 := by omega
          have HLT : Hid (w.heap.size + 1 = gr + 1) := by unfold Hid; rw [hgr.out]
          rcases hk4 with rfl | rfl | rfl | rfl
          · -- a file
            rw [show (1 + ((0 : Nat) : Int)) = 1 from rfl] at HEt
            have HV : Hid (entD r = ⟨pathDr r, 1, [], ⟨m0, m1, m2, m3, m4, m5, m6⟩, Lib.repeatL (cleanL r.text.data.toList 40) (pick r.b 40).toNat⟩) := by
              unfold Hid; rw [HEE.out, Hpk.out]; rfl
            obtain ⟨qd, Hqd⟩ : ∃ q : Nat, Hid (pick r.b 40 = q) := ⟨(pick r.b 40).toNat, by have := pick_bd r.b 40 (by omega); show _ = _; omega⟩
            have hqd : qd < 40 := by have := pick_bd r.b 40 (by omega); have := Hqd.out; omega
            have hcl := cleanL_le r.text.data.toList 40
            have HCL := Lib.hid fun W => clean_any r.text 40 W (by omega) (by omega)
            have HPD4 := Lib.hid fun W => picked_any r.b 40 W HAB.out (by omega)
            rw [Hqd.out] at HPD4
            rw [Hqd.out, Int.toNat_natCast] at HV
            have hlen : (Lib.repeatL (cleanL r.text.data.toList 40) qd).length ≤ 1600 := by
              rw [repeatL_len]
              have : (cleanL r.text.data.toList 40).length * qd ≤ 40 * 40 := Nat.mul_le_mul hcl (by omega)
              omega
            have hRp := fun W => Tryd.strings_Repeat (bs (cleanL r.text.data.toList 40)) qd W (by omega) (by rw [bs_size]; have : (cleanL r.text.data.toList 40).length * qd ≤ 40 * 40 := Nat.mul_le_mul hcl (by omega); omega)
            rw [bs_list] at hRp
            generalize Lib.repeatL (cleanL r.text.data.toList 40) qd = DL at HV hRp hlen
            have HRp := Lib.hid hRp
            obtain ⟨CS, HCS⟩ : ∃ CS : ByteArray, Hid ((⟨(cleanL r.text.data.toList 40).toArray⟩ : ByteArray) = CS) := ⟨_, rfl⟩
            rw [HCS.out] at HCL
            rw [show bs (cleanL r.text.data.toList 40) = CS from HCS.out] at HRp
            obtain ⟨RS, HRS⟩ : ∃ RS : ByteArray, Hid ((⟨DL.toArray⟩ : ByteArray) = RS) := ⟨_, rfl⟩
            rw [HRS.out] at HRp
            have hrs : RS.size = DL.length := by have h := bs_size DL; rwa [show bs DL = RS from HRS.out] at h
            have hrl : RS.data.toList = DL := by have h := bs_list DL; rwa [show bs DL = RS from HRS.out] at h
            have HRL := Lib.hid hrl
            have HRZ := Lib.hid hrs
            have hcv := fun W => byc_run W RS
            have hS : Blk xt gr 41 #[.int .i64 r.kind, .int .i64 r.a, .int .i64 r.b, .string r.text] := HBX.out.below HBt.out HBX.out.lt
            have r2 : ∀ W : World, Blk W gr 41 #[.int .i64 r.kind, .int .i64 r.a, .int .i64 r.b, .string r.text] → W.cell? ⟨gr, 2, none⟩ = some (.int .i64 r.b) := fun W h => (blk4 h).2.2.1
            have r3 : ∀ W : World, Blk W gr 41 #[.int .i64 r.kind, .int .i64 r.a, .int .i64 r.b, .string r.text] → W.cell? ⟨gr, 3, none⟩ = some (.string r.text) := fun W h => (blk4 h).2.2.2
            have hgne : gr ≠ gx := Nat.ne_of_lt (Nat.lt_of_lt_of_le HBX.out.lt HGX.out)
            have hEd := HEt.out.drew_
            have HED := Lib.hid hEd
            obtain ⟨⟨p0, p1, p2, p3, p4, p5, p6, p7, p8, p9, pA⟩, f0, f1, f2, f3, f4, f5, f6, f7, f8, f9, fA⟩ := blk11 HEt.out
            have HLEN := Lib.hid hlen
            clear hcl hqd hlen hrl hrs hRp hEd
            go_upto_region 12 with fail
            clear p0 p1 p2 p3 p4 p5 p6 p7 p8 p9 pA f0 f1 f2 f3 f4 f5 f6 f7 f8 f9 fA
            change Code.wp _ (Code.region _ (List.toArray [_, _, _, _, _, _, _, (Oper.mk _ (id _) _ _ _ _), _, _]) _) _ _ _
            go_region_held3 (fun W => Blk W gr 41 #[.int .i64 r.kind, .int .i64 r.a, .int .i64 r.b, .string r.text])
              (first
                | (with_reducible assumption)
                | (with_reducible refine Blk.drew_ ?_; with_reducible assumption)
                | (with_reducible exact Blk.far (by with_reducible assumption) hgne _)
                | (with_reducible exact Blk.below (by with_reducible assumption) (byc_below _ _) (Blk.lt (by with_reducible assumption)))
                | (with_reducible exact Blk.below (by with_reducible assumption) hbB (Blk.lt (by with_reducible assumption)))
                | (with_reducible exact Blk.below (by with_reducible assumption) hbA (Blk.lt (by with_reducible assumption))))
              (first
                | (go_at_call 41; refine (HCL.out _).mono ?_; rintro e w3 ⟨rfl, hbA⟩; have hE3 := Blk.below HED.out hbA HED.out.lt)
                | (go_at_call 15; with_reducible refine (HPD4.out _).mono ?_; rintro e w' ⟨rfl, rfl⟩)
                | (go_at_call 40; refine (HRp.out _).mono ?_; rintro e w4 ⟨rfl, hbB⟩; have hE4 := Blk.below hE3 hbB hE3.lt; have hE5 := Blk.below hE4 (byc_below w4 RS) hE4.lt; have c10 := hE5.cell 10; have f10 := hE5.frozen 10; simp only [List.getElem?_toArray, List.getElem?_cons_succ, List.getElem?_cons_zero] at c10))
            all_goals
              have hco := OwnC.conv w4 RS (by rw [HRZ.out]; have := HLEN.out; unfold maxLen; omega)
              obtain ⟨A9, c9, e9, hs9, ha9⟩ := hco.form
              injection e9 with e91 e92 e93
              rw [HRL.out] at hs9 ha9
              have hgw : w4.heap.size ≠ gx := Nat.ne_of_gt hE4.lt
              have hbC := byc_below w4 RS
              generalize grownCap w4 RS.size 0 5 = kc at e93 ⊢
              subst e91 e93
              clear hco e92 hcv
              have hE6 : Blk ((Lib.bytesWorld w4 5 RS).setCell ⟨gx, 10, none⟩ (.slice (some ⟨w4.heap.size, 0, none⟩) RS.size kc)) gx 30 #[.string PT, .int .i64 1, .string ⟨#[]⟩, .int .i64 m0, .int .i64 m1, .int .i64 m2, .string M3, .string M4, .int .i64 m5, .int .i64 m6, .slice (some ⟨w4.heap.size, 0, none⟩) RS.size kc] := hE5.set_ 10 _
              have hB6 : Below w1.heap.size w1 ((Lib.bytesWorld w4 5 RS).setCell ⟨gx, 10, none⟩ (.slice (some ⟨w4.heap.size, 0, none⟩) RS.size kc)) := (keepW (keepW (keepW (Below.drew HBt.out) hbA) hbB) hbC).setCell (p := ⟨gx, 10, none⟩) HGX.out _
              have hA6 := byts_set ha9 ⟨gx, 10, none⟩ (.slice (some ⟨w4.heap.size, 0, none⟩) RS.size kc) hgw
              have hgz : w4.heap.size ≠ gr + 1 := Nat.ne_of_gt (Nat.lt_of_lt_of_le HBZ.out.lt (keepW (keepW (Below.drew HBt.out) hbA) hbB).size)
              have HVAL : Hid (∀ D kc, (entC ⟨pathDr r, 1, [], ⟨m0, m1, m2, m3, m4, m5, m6⟩, DL⟩ D kc).toArray = #[.string PT, .int .i64 1, .string ⟨#[]⟩, .int .i64 m0, .int .i64 m1, .int .i64 m2, .string M3, .string M4, .int .i64 m5, .int .i64 m6, .slice D RS.size kc]) := by
                intro D kc
                show (#[.string (bs (pathDr r)), .int .i64 1, .string (bs []), .int .i64 m0, .int .i64 m1, .int .i64 m2, .string (bs m3), .string (bs m4), .int .i64 m5, .int .i64 m6, .slice D DL.length kc] : Array Value) = _
                rw [HPT.out, show bs m3 = M3 from HM3.out, show bs m4 = M4 from HM4.out, ← HRZ.out]; rfl
              generalize (Lib.bytesWorld w4 5 RS).setCell ⟨gx, 10, none⟩ (.slice (some ⟨w4.heap.size, 0, none⟩) RS.size kc) = x9 at hE6 hB6 hA6 ⊢
              generalize w4.heap.size = gd at *
              have HE9 := Lib.hid hE6
              have HB9 := Lib.hid hB6
              have HA9 := Lib.hid hA6
              have HSL := Lib.hid hs9
              clear hE3 hE4 hE5 c10 f10 hE6 hB6 hA6 hs9 ha9 hbA hbB hbC hS
              obtain ⟨⟨z0, z1, z2, z3, z4, z5, z6, z7, z8, z9, zA⟩, y0, y1, y2, y3, y4, y5, y6, y7, y8, y9, yA⟩ := blk11 (HBZ.out.below HB9.out HBZ.out.lt)
              obtain ⟨⟨p0, p1, p2, p3, p4, p5, p6, p7, p8, p9, pA⟩, -⟩ := blk11 HE9.out
              go_wp2_with fail
              refine bodyPost_ret (v := .agg #[.string PT, .int .i64 1, .string ⟨#[]⟩, .int .i64 m0, .int .i64 m1, .int .i64 m2, .string M3, .string M4, .int .i64 m5, .int .i64 m6, .slice (some ⟨gd, 0, none⟩) RS.size kc]) (by simp [results, Tryd.results16, go_sem, *]) rfl ?_
              rw [HV.out]
              refine ⟨some ⟨gd, 0, none⟩, kc, by rw [HVAL.out], HSL.out, ?_, below_set11 (HW1.out.trans (HB9.out.mono HW1.out.size)) (by have := HLT.out; omega) _ _ _ _ _ _ _ _ _ _ _⟩
              exact byts_set11 HA9.out hgz _ _ _ _ _ _ _ _ _ _ _
          · -- a directory
            rw [show (1 + ((1 : Nat) : Int)) = 2 from rfl] at HEt
            have HV : Hid (entD r = ⟨pathDr r, 2, [], ⟨m0, m1, m2, m3, m4, m5, m6⟩, []⟩) := by
              unfold Hid; rw [HEE.out, Hpk.out]; rfl
            have HVAL : Hid (∀ D kc, (entC ⟨pathDr r, 2, [], ⟨m0, m1, m2, m3, m4, m5, m6⟩, []⟩ D kc).toArray = #[.string PT, .int .i64 2, .string ⟨#[]⟩, .int .i64 m0, .int .i64 m1, .int .i64 m2, .string M3, .string M4, .int .i64 m5, .int .i64 m6, .slice D 0 kc]) := by
              intro D kc
              show (#[.string (bs (pathDr r)), .int .i64 2, .string (bs []), .int .i64 m0, .int .i64 m1, .int .i64 m2, .string (bs m3), .string (bs m4), .int .i64 m5, .int .i64 m6, .slice D 0 kc] : Array Value) = _
              rw [HPT.out, show bs m3 = M3 from HM3.out, show bs m4 = M4 from HM4.out]; rfl
            have HE9 := HEt
            have HB9 := HBt
            have HSL : Hid (SlOk none 0 0) := ⟨Nat.le_refl _, by decide, fun _ => rfl⟩
            obtain ⟨⟨z0, z1, z2, z3, z4, z5, z6, z7, z8, z9, zA⟩, y0, y1, y2, y3, y4, y5, y6, y7, y8, y9, yA⟩ := blk11 (HBZ.out.below HB9.out HBZ.out.lt)
            obtain ⟨⟨p0, p1, p2, p3, p4, p5, p6, p7, p8, p9, pA⟩, -⟩ := blk11 HE9.out
            go_wp2_with fail
            refine bodyPost_ret (v := .agg #[.string PT, .int .i64 2, .string ⟨#[]⟩, .int .i64 m0, .int .i64 m1, .int .i64 m2, .string M3, .string M4, .int .i64 m5, .int .i64 m6, .slice none 0 0]) (by simp [results, Tryd.results16, go_sem, *]) rfl ?_
            rw [HV.out]
            refine ⟨none, 0, by rw [HVAL.out], HSL.out, ?_, below_set11 (HW1.out.trans (HB9.out.mono HW1.out.size)) (by have := HLT.out; omega) _ _ _ _ _ _ _ _ _ _ _⟩
            exact fun j hj => (by cases hj)
          · -- a link
            rw [show (1 + ((2 : Nat) : Int)) = 3 from rfl] at HEt
            obtain ⟨qd, Hqd⟩ : ∃ q : Nat, Hid (pick r.b 150 = q) := ⟨(pick r.b 150).toNat, by have := pick_bd r.b 150 (by omega); show _ = _; omega⟩
            have hqd : qd < 150 := by have := pick_bd r.b 150 (by omega); have := Hqd.out; omega
            have HPD4 := Lib.hid fun W => picked_any r.b 150 W HAB.out (by omega)
            rw [Hqd.out] at HPD4
            have HV : Hid (entD r = ⟨pathDr r, 3, 116 :: List.replicate qd 117, ⟨m0, m1, m2, m3, m4, m5, m6⟩, []⟩) := by
              unfold Hid; rw [HEE.out, Hpk.out, Hqd.out, Int.toNat_natCast]; rfl
            have hRp := fun W => Tryd.strings_Repeat ⟨#[117]⟩ qd W (by omega) (by show 1 * qd ≤ _; omega)
            have e1 : Lib.repeatL (⟨#[117]⟩ : ByteArray).data.toList qd = List.replicate qd 117 := by
              have := Lib.repeatL_replicate 117 1 qd
              rw [Nat.mul_one] at this; exact this
            rw [e1] at hRp
            have HRp := Lib.hid hRp
            obtain ⟨RS, HRS⟩ : ∃ RS : ByteArray, Hid ((⟨(List.replicate qd (117 : UInt8)).toArray⟩ : ByteArray) = RS) := ⟨_, rfl⟩
            rw [HRS.out] at HRp
            have hrs : RS.size ≤ 150 := by have h := bs_size (List.replicate qd (117 : UInt8)); rw [show bs (List.replicate qd (117 : UInt8)) = RS from HRS.out, List.length_replicate] at h; omega
            obtain ⟨TT, HTT⟩ := hid_name ((⟨#[116]⟩ : ByteArray) ++ RS)
            have hadd : ∀ W : World, (Op.stringOp .add ⟨#[116]⟩ RS).run Tryd.prog W = .ok (.string TT) W := fun W => by
              rw [← HTT.out]; exact run_string_add_sum (P := Tryd.prog) (w := W) _ _ (by show 1 + RS.size ≤ _; omega)
            have HTB : Hid (bs (116 :: List.replicate qd 117) = TT) := by
              unfold Hid; rw [← HTT.out, ← HRS.out]
              show bs ([116] ++ List.replicate qd 117) = bs [116] ++ bs (List.replicate qd 117)
              rw [bs_cat]
            have q2 := (blk4 (HBX.out.below HBt.out HBX.out.lt)).2.2.1
            obtain ⟨⟨p0, p1, p2, p3, p4, p5, p6, p7, p8, p9, pA⟩, -⟩ := blk11 HEt.out
            clear hRp e1 hqd hrs
            go_wp2_with fail
            refine (HPD4.out _).mono ?_; rintro e w' ⟨rfl, rfl⟩
            clear p0 p1 p2 p3 p4 p5 p6 p7 p8 p9 pA q2
            go_wp2_with fail
            refine (HRp.out _).mono ?_; rintro e w4 ⟨rfl, hbA⟩
            have hE4 := HEt.out.below hbA HEt.out.lt
            have hE6 : Blk (w4.setCell ⟨gx, 2, none⟩ (.string TT)) gx 30 #[.string PT, .int .i64 3, .string TT, .int .i64 m0, .int .i64 m1, .int .i64 m2, .string M3, .string M4, .int .i64 m5, .int .i64 m6, .slice none 0 0] := hE4.set_ 2 _
            have hB6 := (keepW HBt.out hbA).setCell (p := ⟨gx, 2, none⟩) HGX.out (.string TT)
            have HE9 := Lib.hid hE6
            have HB9 := Lib.hid hB6
            obtain ⟨⟨p0, p1, p2, p3, p4, p5, p6, p7, p8, p9, pA⟩, f0, f1, f2, f3, f4, f5, f6, f7, f8, f9, fA⟩ := blk11 hE4
            have HVAL : Hid (∀ D kc, (entC ⟨pathDr r, 3, 116 :: List.replicate qd 117, ⟨m0, m1, m2, m3, m4, m5, m6⟩, []⟩ D kc).toArray = #[.string PT, .int .i64 3, .string TT, .int .i64 m0, .int .i64 m1, .int .i64 m2, .string M3, .string M4, .int .i64 m5, .int .i64 m6, .slice D 0 kc]) := by
              intro D kc
              show (#[.string (bs (pathDr r)), .int .i64 3, .string (bs (116 :: List.replicate qd 117)), .int .i64 m0, .int .i64 m1, .int .i64 m2, .string (bs m3), .string (bs m4), .int .i64 m5, .int .i64 m6, .slice D 0 kc] : Array Value) = _
              rw [HPT.out, HTB.out, show bs m3 = M3 from HM3.out, show bs m4 = M4 from HM4.out]
            have HSL : Hid (SlOk none 0 0) := ⟨Nat.le_refl _, by decide, fun _ => rfl⟩
            clear hE4 hE6 hB6 hbA
            go_upto_region 16 with fail
            generalize w4.setCell ⟨gx, 2, none⟩ (.string TT) = x9 at HE9 HB9 ⊢
            clear p0 p1 p2 p3 p4 p5 p6 p7 p8 p9 pA f0 f1 f2 f3 f4 f5 f6 f7 f8 f9 fA hadd
            obtain ⟨⟨z0, z1, z2, z3, z4, z5, z6, z7, z8, z9, zA⟩, y0, y1, y2, y3, y4, y5, y6, y7, y8, y9, yA⟩ := blk11 (HBZ.out.below HB9.out HBZ.out.lt)
            obtain ⟨⟨p0, p1, p2, p3, p4, p5, p6, p7, p8, p9, pA⟩, -⟩ := blk11 HE9.out
            go_wp2_with fail
            refine bodyPost_ret (v := .agg #[.string PT, .int .i64 3, .string TT, .int .i64 m0, .int .i64 m1, .int .i64 m2, .string M3, .string M4, .int .i64 m5, .int .i64 m6, .slice none 0 0]) (by simp [results, Tryd.results16, go_sem, *]) rfl ?_
            rw [HV.out]
            refine ⟨none, 0, by rw [HVAL.out], HSL.out, ?_, below_set11 (HW1.out.trans (HB9.out.mono HW1.out.size)) (by have := HLT.out; omega) _ _ _ _ _ _ _ _ _ _ _⟩
            exact fun j hj => (by cases hj)
          · -- a link
            rw [show (1 + ((3 : Nat) : Int)) = 4 from rfl] at HEt
            obtain ⟨qd, Hqd⟩ : ∃ q : Nat, Hid (pick r.b 150 = q) := ⟨(pick r.b 150).toNat, by have := pick_bd r.b 150 (by omega); show _ = _; omega⟩
            have hqd : qd < 150 := by have := pick_bd r.b 150 (by omega); have := Hqd.out; omega
            have HPD4 := Lib.hid fun W => picked_any r.b 150 W HAB.out (by omega)
            rw [Hqd.out] at HPD4
            have HV : Hid (entD r = ⟨pathDr r, 4, 116 :: List.replicate qd 117, ⟨m0, m1, m2, m3, m4, m5, m6⟩, []⟩) := by
              unfold Hid; rw [HEE.out, Hpk.out, Hqd.out, Int.toNat_natCast]; rfl
            have hRp := fun W => Tryd.strings_Repeat ⟨#[117]⟩ qd W (by omega) (by show 1 * qd ≤ _; omega)
            have e1 : Lib.repeatL (⟨#[117]⟩ : ByteArray).data.toList qd = List.replicate qd 117 := by
              have := Lib.repeatL_replicate 117 1 qd
              rw [Nat.mul_one] at this; exact this
            rw [e1] at hRp
            have HRp := Lib.hid hRp
            obtain ⟨RS, HRS⟩ : ∃ RS : ByteArray, Hid ((⟨(List.replicate qd (117 : UInt8)).toArray⟩ : ByteArray) = RS) := ⟨_, rfl⟩
            rw [HRS.out] at HRp
            have hrs : RS.size ≤ 150 := by have h := bs_size (List.replicate qd (117 : UInt8)); rw [show bs (List.replicate qd (117 : UInt8)) = RS from HRS.out, List.length_replicate] at h; omega
            obtain ⟨TT, HTT⟩ := hid_name ((⟨#[116]⟩ : ByteArray) ++ RS)
            have hadd : ∀ W : World, (Op.stringOp .add ⟨#[116]⟩ RS).run Tryd.prog W = .ok (.string TT) W := fun W => by
              rw [← HTT.out]; exact run_string_add_sum (P := Tryd.prog) (w := W) _ _ (by show 1 + RS.size ≤ _; omega)
            have HTB : Hid (bs (116 :: List.replicate qd 117) = TT) := by
              unfold Hid; rw [← HTT.out, ← HRS.out]
              show bs ([116] ++ List.replicate qd 117) = bs [116] ++ bs (List.replicate qd 117)
              rw [bs_cat]
            have q2 := (blk4 (HBX.out.below HBt.out HBX.out.lt)).2.2.1
            obtain ⟨⟨p0, p1, p2, p3, p4, p5, p6, p7, p8, p9, pA⟩, -⟩ := blk11 HEt.out
            clear hRp e1 hqd hrs
            go_wp2_with fail
            refine (HPD4.out _).mono ?_; rintro e w' ⟨rfl, rfl⟩
            clear p0 p1 p2 p3 p4 p5 p6 p7 p8 p9 pA q2
            go_wp2_with fail
            refine (HRp.out _).mono ?_; rintro e w4 ⟨rfl, hbA⟩
            have hE4 := HEt.out.below hbA HEt.out.lt
            have hE6 : Blk (w4.setCell ⟨gx, 2, none⟩ (.string TT)) gx 30 #[.string PT, .int .i64 4, .string TT, .int .i64 m0, .int .i64 m1, .int .i64 m2, .string M3, .string M4, .int .i64 m5, .int .i64 m6, .slice none 0 0] := hE4.set_ 2 _
            have hB6 := (keepW HBt.out hbA).setCell (p := ⟨gx, 2, none⟩) HGX.out (.string TT)
            have HE9 := Lib.hid hE6
            have HB9 := Lib.hid hB6
            obtain ⟨⟨p0, p1, p2, p3, p4, p5, p6, p7, p8, p9, pA⟩, f0, f1, f2, f3, f4, f5, f6, f7, f8, f9, fA⟩ := blk11 hE4
            have HVAL : Hid (∀ D kc, (entC ⟨pathDr r, 4, 116 :: List.replicate qd 117, ⟨m0, m1, m2, m3, m4, m5, m6⟩, []⟩ D kc).toArray = #[.string PT, .int .i64 4, .string TT, .int .i64 m0, .int .i64 m1, .int .i64 m2, .string M3, .string M4, .int .i64 m5, .int .i64 m6, .slice D 0 kc]) := by
              intro D kc
              show (#[.string (bs (pathDr r)), .int .i64 4, .string (bs (116 :: List.replicate qd 117)), .int .i64 m0, .int .i64 m1, .int .i64 m2, .string (bs m3), .string (bs m4), .int .i64 m5, .int .i64 m6, .slice D 0 kc] : Array Value) = _
              rw [HPT.out, HTB.out, show bs m3 = M3 from HM3.out, show bs m4 = M4 from HM4.out]
            have HSL : Hid (SlOk none 0 0) := ⟨Nat.le_refl _, by decide, fun _ => rfl⟩
            clear hE4 hE6 hB6 hbA
            go_upto_region 16 with fail
            generalize w4.setCell ⟨gx, 2, none⟩ (.string TT) = x9 at HE9 HB9 ⊢
            clear p0 p1 p2 p3 p4 p5 p6 p7 p8 p9 pA f0 f1 f2 f3 f4 f5 f6 f7 f8 f9 fA hadd
            obtain ⟨⟨z0, z1, z2, z3, z4, z5, z6, z7, z8, z9, zA⟩, y0, y1, y2, y3, y4, y5, y6, y7, y8, y9, yA⟩ := blk11 (HBZ.out.below HB9.out HBZ.out.lt)
            obtain ⟨⟨p0, p1, p2, p3, p4, p5, p6, p7, p8, p9, pA⟩, -⟩ := blk11 HE9.out
            go_wp2_with fail
            refine bodyPost_ret (v := .agg #[.string PT, .int .i64 4, .string TT, .int .i64 m0, .int .i64 m1, .int .i64 m2, .string M3, .string M4, .int .i64 m5, .int .i64 m6, .slice none 0 0]) (by simp [results, Tryd.results16, go_sem, *]) rfl ?_
            rw [HV.out]
            refine ⟨none, 0, by rw [HVAL.out], HSL.out, ?_, below_set11 (HW1.out.trans (HB9.out.mono HW1.out.size)) (by have := HLT.out; omega) _ _ _ _ _ _ _ _ _ _ _⟩
            exact fun j hj => (by cases hj)
        · have hPK0 : PK = J := by rw [HPK9.out, if_neg h4]
          rw [hPK0, HPJ.out] at HTr2
          have h4i : ¬ (400 : Int) < (PJ.size : Int) := by omega
          have hEi := HEi.out
          have hBi := HBi.out
          clear HPK9 hjs hj4
          obtain ⟨⟨p0, p1, p2, p3, p4, p5, p6, p7, p8, p9, pA⟩, f0, f1, f2, f3, f4, f5, f6, f7, f8, f9, fA⟩ := blk11 hEi
          have HEt : Hid (Blk (wr.setCell ⟨gx, 0, none⟩ (.string PT)) gx 30 #[.string PT, .int .i64 (1 + (pk : Int)), .string ⟨#[]⟩, .int .i64 m0, .int .i64 m1, .int .i64 m2, .string M3, .string M4, .int .i64 m5, .int .i64 m6, .slice none 0 0]) := hEi.set_ 0 (.string PT)
          have HBt := Lib.hid (hBi.setCell (p := ⟨gx, 0, none⟩) HGX.out (.string PT))
          clear hEi hBi
          go_wp2_with fail
          refine (HTr2.out _).mono ?_; rintro e w' ⟨rfl, rfl⟩
          clear HTr2
          go_upto_region 10 with fail
          generalize wr.setCell ⟨gx, 0, none⟩ (.string PT) = xt at HEt HBt ⊢
          clear p0 p1 p2 p3 p4 p5 p6 p7 p8 p9 pA f0 f1 f2 f3 f4 f5 f6 f7 f8 f9 fA
          have hk4 : pk = 0 ∨ pk = 1 ∨ pk = 2 ∨ pk = 3 := by omega
          have HLT : Hid (w.heap.size + 1 = gr + 1) := by unfold Hid; rw [hgr.out]
          rcases hk4 with rfl | rfl | rfl | rfl
          · -- a file
            rw [show (1 + ((0 : Nat) : Int)) = 1 from rfl] at HEt
            have HV : Hid (entD r = ⟨pathDr r, 1, [], ⟨m0, m1, m2, m3, m4, m5, m6⟩, Lib.repeatL (cleanL r.text.data.toList 40) (pick r.b 40).toNat⟩) := by
              unfold Hid; rw [HEE.out, Hpk.out]; rfl
            obtain ⟨qd, Hqd⟩ : ∃ q : Nat, Hid (pick r.b 40 = q) := ⟨(pick r.b 40).toNat, by have := pick_bd r.b 40 (by omega); show _ = _; omega⟩
            have hqd : qd < 40 := by have := pick_bd r.b 40 (by omega); have := Hqd.out; omega
            have hcl := cleanL_le r.text.data.toList 40
            have HCL := Lib.hid fun W => clean_any r.text 40 W (by omega) (by omega)
            have HPD4 := Lib.hid fun W => picked_any r.b 40 W HAB.out (by omega)
            rw [Hqd.out] at HPD4
            rw [Hqd.out, Int.toNat_natCast] at HV
            have hlen : (Lib.repeatL (cleanL r.text.data.toList 40) qd).length ≤ 1600 := by
              rw [repeatL_len]
              have : (cleanL r.text.data.toList 40).length * qd ≤ 40 * 40 := Nat.mul_le_mul hcl (by omega)
              omega
            have hRp := fun W => Tryd.strings_Repeat (bs (cleanL r.text.data.toList 40)) qd W (by omega) (by rw [bs_size]; have : (cleanL r.text.data.toList 40).length * qd ≤ 40 * 40 := Nat.mul_le_mul hcl (by omega); omega)
            rw [bs_list] at hRp
            generalize Lib.repeatL (cleanL r.text.data.toList 40) qd = DL at HV hRp hlen
            have HRp := Lib.hid hRp
            obtain ⟨CS, HCS⟩ : ∃ CS : ByteArray, Hid ((⟨(cleanL r.text.data.toList 40).toArray⟩ : ByteArray) = CS) := ⟨_, rfl⟩
            rw [HCS.out] at HCL
            rw [show bs (cleanL r.text.data.toList 40) = CS from HCS.out] at HRp
            obtain ⟨RS, HRS⟩ : ∃ RS : ByteArray, Hid ((⟨DL.toArray⟩ : ByteArray) = RS) := ⟨_, rfl⟩
            rw [HRS.out] at HRp
            have hrs : RS.size = DL.length := by have h := bs_size DL; rwa [show bs DL = RS from HRS.out] at h
            have hrl : RS.data.toList = DL := by have h := bs_list DL; rwa [show bs DL = RS from HRS.out] at h
            have HRL := Lib.hid hrl
            have HRZ := Lib.hid hrs
            have hcv := fun W => byc_run W RS
            have hS : Blk xt gr 41 #[.int .i64 r.kind, .int .i64 r.a, .int .i64 r.b, .string r.text] := HBX.out.below HBt.out HBX.out.lt
            have r2 : ∀ W : World, Blk W gr 41 #[.int .i64 r.kind, .int .i64 r.a, .int .i64 r.b, .string r.text] → W.cell? ⟨gr, 2, none⟩ = some (.int .i64 r.b) := fun W h => (blk4 h).2.2.1
            have r3 : ∀ W : World, Blk W gr 41 #[.int .i64 r.kind, .int .i64 r.a, .int .i64 r.b, .string r.text] → W.cell? ⟨gr, 3, none⟩ = some (.string r.text) := fun W h => (blk4 h).2.2.2
            have hgne : gr ≠ gx := Nat.ne_of_lt (Nat.lt_of_lt_of_le HBX.out.lt HGX.out)
            have hEd := HEt.out.drew_
            have HED := Lib.hid hEd
            obtain ⟨⟨p0, p1, p2, p3, p4, p5, p6, p7, p8, p9, pA⟩, f0, f1, f2, f3, f4, f5, f6, f7, f8, f9, fA⟩ := blk11 HEt.out
            have HLEN := Lib.hid hlen
            clear hcl hqd hlen hrl hrs hRp hEd
            go_upto_region 12 with fail
            clear p0 p1 p2 p3 p4 p5 p6 p7 p8 p9 pA f0 f1 f2 f3 f4 f5 f6 f7 f8 f9 fA
            change Code.wp _ (Code.region _ (List.toArray [_, _, _, _, _, _, _, (Oper.mk _ (id _) _ _ _ _), _, _]) _) _ _ _
            go_region_held3 (fun W => Blk W gr 41 #[.int .i64 r.kind, .int .i64 r.a, .int .i64 r.b, .string r.text])
              (first
                | (with_reducible assumption)
                | (with_reducible refine Blk.drew_ ?_; with_reducible assumption)
                | (with_reducible exact Blk.far (by with_reducible assumption) hgne _)
                | (with_reducible exact Blk.below (by with_reducible assumption) (byc_below _ _) (Blk.lt (by with_reducible assumption)))
                | (with_reducible exact Blk.below (by with_reducible assumption) hbB (Blk.lt (by with_reducible assumption)))
                | (with_reducible exact Blk.below (by with_reducible assumption) hbA (Blk.lt (by with_reducible assumption))))
              (first
                | (go_at_call 41; refine (HCL.out _).mono ?_; rintro e w3 ⟨rfl, hbA⟩; have hE3 := Blk.below HED.out hbA HED.out.lt)
                | (go_at_call 15; with_reducible refine (HPD4.out _).mono ?_; rintro e w' ⟨rfl, rfl⟩)
                | (go_at_call 40; refine (HRp.out _).mono ?_; rintro e w4 ⟨rfl, hbB⟩; have hE4 := Blk.below hE3 hbB hE3.lt; have hE5 := Blk.below hE4 (byc_below w4 RS) hE4.lt; have c10 := hE5.cell 10; have f10 := hE5.frozen 10; simp only [List.getElem?_toArray, List.getElem?_cons_succ, List.getElem?_cons_zero] at c10))
            all_goals
              have hco := OwnC.conv w4 RS (by rw [HRZ.out]; have := HLEN.out; unfold maxLen; omega)
              obtain ⟨A9, c9, e9, hs9, ha9⟩ := hco.form
              injection e9 with e91 e92 e93
              rw [HRL.out] at hs9 ha9
              have hgw : w4.heap.size ≠ gx := Nat.ne_of_gt hE4.lt
              have hbC := byc_below w4 RS
              generalize grownCap w4 RS.size 0 5 = kc at e93 ⊢
              subst e91 e93
              clear hco e92 hcv
              have hE6 : Blk ((Lib.bytesWorld w4 5 RS).setCell ⟨gx, 10, none⟩ (.slice (some ⟨w4.heap.size, 0, none⟩) RS.size kc)) gx 30 #[.string PT, .int .i64 1, .string ⟨#[]⟩, .int .i64 m0, .int .i64 m1, .int .i64 m2, .string M3, .string M4, .int .i64 m5, .int .i64 m6, .slice (some ⟨w4.heap.size, 0, none⟩) RS.size kc] := hE5.set_ 10 _
              have hB6 : Below w1.heap.size w1 ((Lib.bytesWorld w4 5 RS).setCell ⟨gx, 10, none⟩ (.slice (some ⟨w4.heap.size, 0, none⟩) RS.size kc)) := (keepW (keepW (keepW (Below.drew HBt.out) hbA) hbB) hbC).setCell (p := ⟨gx, 10, none⟩) HGX.out _
              have hA6 := byts_set ha9 ⟨gx, 10, none⟩ (.slice (some ⟨w4.heap.size, 0, none⟩) RS.size kc) hgw
              have hgz : w4.heap.size ≠ gr + 1 := Nat.ne_of_gt (Nat.lt_of_lt_of_le HBZ.out.lt (keepW (keepW (Below.drew HBt.out) hbA) hbB).size)
              have HVAL : Hid (∀ D kc, (entC ⟨pathDr r, 1, [], ⟨m0, m1, m2, m3, m4, m5, m6⟩, DL⟩ D kc).toArray = #[.string PT, .int .i64 1, .string ⟨#[]⟩, .int .i64 m0, .int .i64 m1, .int .i64 m2, .string M3, .string M4, .int .i64 m5, .int .i64 m6, .slice D RS.size kc]) := by
                intro D kc
                show (#[.string (bs (pathDr r)), .int .i64 1, .string (bs []), .int .i64 m0, .int .i64 m1, .int .i64 m2, .string (bs m3), .string (bs m4), .int .i64 m5, .int .i64 m6, .slice D DL.length kc] : Array Value) = _
                rw [HPT.out, show bs m3 = M3 from HM3.out, show bs m4 = M4 from HM4.out, ← HRZ.out]; rfl
              generalize (Lib.bytesWorld w4 5 RS).setCell ⟨gx, 10, none⟩ (.slice (some ⟨w4.heap.size, 0, none⟩) RS.size kc) = x9 at hE6 hB6 hA6 ⊢
              generalize w4.heap.size = gd at *
              have HE9 := Lib.hid hE6
              have HB9 := Lib.hid hB6
              have HA9 := Lib.hid hA6
              have HSL := Lib.hid hs9
              clear hE3 hE4 hE5 c10 f10 hE6 hB6 hA6 hs9 ha9 hbA hbB hbC hS
              obtain ⟨⟨z0, z1, z2, z3, z4, z5, z6, z7, z8, z9, zA⟩, y0, y1, y2, y3, y4, y5, y6, y7, y8, y9, yA⟩ := blk11 (HBZ.out.below HB9.out HBZ.out.lt)
              obtain ⟨⟨p0, p1, p2, p3, p4, p5, p6, p7, p8, p9, pA⟩, -⟩ := blk11 HE9.out
              go_wp2_with fail
              refine bodyPost_ret (v := .agg #[.string PT, .int .i64 1, .string ⟨#[]⟩, .int .i64 m0, .int .i64 m1, .int .i64 m2, .string M3, .string M4, .int .i64 m5, .int .i64 m6, .slice (some ⟨gd, 0, none⟩) RS.size kc]) (by simp [results, Tryd.results16, go_sem, *]) rfl ?_
              rw [HV.out]
              refine ⟨some ⟨gd, 0, none⟩, kc, by rw [HVAL.out], HSL.out, ?_, below_set11 (HW1.out.trans (HB9.out.mono HW1.out.size)) (by have := HLT.out; omega) _ _ _ _ _ _ _ _ _ _ _⟩
              exact byts_set11 HA9.out hgz _ _ _ _ _ _ _ _ _ _ _
          · -- a directory
            rw [show (1 + ((1 : Nat) : Int)) = 2 from rfl] at HEt
            have HV : Hid (entD r = ⟨pathDr r, 2, [], ⟨m0, m1, m2, m3, m4, m5, m6⟩, []⟩) := by
              unfold Hid; rw [HEE.out, Hpk.out]; rfl
            have HVAL : Hid (∀ D kc, (entC ⟨pathDr r, 2, [], ⟨m0, m1, m2, m3, m4, m5, m6⟩, []⟩ D kc).toArray = #[.string PT, .int .i64 2, .string ⟨#[]⟩, .int .i64 m0, .int .i64 m1, .int .i64 m2, .string M3, .string M4, .int .i64 m5, .int .i64 m6, .slice D 0 kc]) := by
              intro D kc
              show (#[.string (bs (pathDr r)), .int .i64 2, .string (bs []), .int .i64 m0, .int .i64 m1, .int .i64 m2, .string (bs m3), .string (bs m4), .int .i64 m5, .int .i64 m6, .slice D 0 kc] : Array Value) = _
              rw [HPT.out, show bs m3 = M3 from HM3.out, show bs m4 = M4 from HM4.out]; rfl
            have HE9 := HEt
            have HB9 := HBt
            have HSL : Hid (SlOk none 0 0) := ⟨Nat.le_refl _, by decide, fun _ => rfl⟩
            obtain ⟨⟨z0, z1, z2, z3, z4, z5, z6, z7, z8, z9, zA⟩, y0, y1, y2, y3, y4, y5, y6, y7, y8, y9, yA⟩ := blk11 (HBZ.out.below HB9.out HBZ.out.lt)
            obtain ⟨⟨p0, p1, p2, p3, p4, p5, p6, p7, p8, p9, pA⟩, -⟩ := blk11 HE9.out
            go_wp2_with fail
            refine bodyPost_ret (v := .agg #[.string PT, .int .i64 2, .string ⟨#[]⟩, .int .i64 m0, .int .i64 m1, .int .i64 m2, .string M3, .string M4, .int .i64 m5, .int .i64 m6, .slice none 0 0]) (by simp [results, Tryd.results16, go_sem, *]) rfl ?_
            rw [HV.out]
            refine ⟨none, 0, by rw [HVAL.out], HSL.out, ?_, below_set11 (HW1.out.trans (HB9.out.mono HW1.out.size)) (by have := HLT.out; omega) _ _ _ _ _ _ _ _ _ _ _⟩
            exact fun j hj => (by cases hj)
          · -- a link
            rw [show (1 + ((2 : Nat) : Int)) = 3 from rfl] at HEt
            obtain ⟨qd, Hqd⟩ : ∃ q : Nat, Hid (pick r.b 150 = q) := ⟨(pick r.b 150).toNat, by have := pick_bd r.b 150 (by omega); show _ = _; omega⟩
            have hqd : qd < 150 := by have := pick_bd r.b 150 (by omega); have := Hqd.out; omega
            have HPD4 := Lib.hid fun W => picked_any r.b 150 W HAB.out (by omega)
            rw [Hqd.out] at HPD4
            have HV : Hid (entD r = ⟨pathDr r, 3, 116 :: List.replicate qd 117, ⟨m0, m1, m2, m3, m4, m5, m6⟩, []⟩) := by
              unfold Hid; rw [HEE.out, Hpk.out, Hqd.out, Int.toNat_natCast]; rfl
            have hRp := fun W => Tryd.strings_Repeat ⟨#[117]⟩ qd W (by omega) (by show 1 * qd ≤ _; omega)
            have e1 : Lib.repeatL (⟨#[117]⟩ : ByteArray).data.toList qd = List.replicate qd 117 := by
              have := Lib.repeatL_replicate 117 1 qd
              rw [Nat.mul_one] at this; exact this
            rw [e1] at hRp
            have HRp := Lib.hid hRp
            obtain ⟨RS, HRS⟩ : ∃ RS : ByteArray, Hid ((⟨(List.replicate qd (117 : UInt8)).toArray⟩ : ByteArray) = RS) := ⟨_, rfl⟩
            rw [HRS.out] at HRp
            have hrs : RS.size ≤ 150 := by have h := bs_size (List.replicate qd (117 : UInt8)); rw [show bs (List.replicate qd (117 : UInt8)) = RS from HRS.out, List.length_replicate] at h; omega
            obtain ⟨TT, HTT⟩ := hid_name ((⟨#[116]⟩ : ByteArray) ++ RS)
            have hadd : ∀ W : World, (Op.stringOp .add ⟨#[116]⟩ RS).run Tryd.prog W = .ok (.string TT) W := fun W => by
              rw [← HTT.out]; exact run_string_add_sum (P := Tryd.prog) (w := W) _ _ (by show 1 + RS.size ≤ _; omega)
            have HTB : Hid (bs (116 :: List.replicate qd 117) = TT) := by
              unfold Hid; rw [← HTT.out, ← HRS.out]
              show bs ([116] ++ List.replicate qd 117) = bs [116] ++ bs (List.replicate qd 117)
              rw [bs_cat]
            have q2 := (blk4 (HBX.out.below HBt.out HBX.out.lt)).2.2.1
            obtain ⟨⟨p0, p1, p2, p3, p4, p5, p6, p7, p8, p9, pA⟩, -⟩ := blk11 HEt.out
            clear hRp e1 hqd hrs
            go_wp2_with fail
            refine (HPD4.out _).mono ?_; rintro e w' ⟨rfl, rfl⟩
            clear p0 p1 p2 p3 p4 p5 p6 p7 p8 p9 pA q2
            go_wp2_with fail
            refine (HRp.out _).mono ?_; rintro e w4 ⟨rfl, hbA⟩
            have hE4 := HEt.out.below hbA HEt.out.lt
            have hE6 : Blk (w4.setCell ⟨gx, 2, none⟩ (.string TT)) gx 30 #[.string PT, .int .i64 3, .string TT, .int .i64 m0, .int .i64 m1, .int .i64 m2, .string M3, .string M4, .int .i64 m5, .int .i64 m6, .slice none 0 0] := hE4.set_ 2 _
            have hB6 := (keepW HBt.out hbA).setCell (p := ⟨gx, 2, none⟩) HGX.out (.string TT)
            have HE9 := Lib.hid hE6
            have HB9 := Lib.hid hB6
            obtain ⟨⟨p0, p1, p2, p3, p4, p5, p6, p7, p8, p9, pA⟩, f0, f1, f2, f3, f4, f5, f6, f7, f8, f9, fA⟩ := blk11 hE4
            have HVAL : Hid (∀ D kc, (entC ⟨pathDr r, 3, 116 :: List.replicate qd 117, ⟨m0, m1, m2, m3, m4, m5, m6⟩, []⟩ D kc).toArray = #[.string PT, .int .i64 3, .string TT, .int .i64 m0, .int .i64 m1, .int .i64 m2, .string M3, .string M4, .int .i64 m5, .int .i64 m6, .slice D 0 kc]) := by
              intro D kc
              show (#[.string (bs (pathDr r)), .int .i64 3, .string (bs (116 :: List.replicate qd 117)), .int .i64 m0, .int .i64 m1, .int .i64 m2, .string (bs m3), .string (bs m4), .int .i64 m5, .int .i64 m6, .slice D 0 kc] : Array Value) = _
              rw [HPT.out, HTB.out, show bs m3 = M3 from HM3.out, show bs m4 = M4 from HM4.out]
            have HSL : Hid (SlOk none 0 0) := ⟨Nat.le_refl _, by decide, fun _ => rfl⟩
            clear hE4 hE6 hB6 hbA
            go_upto_region 16 with fail
            generalize w4.setCell ⟨gx, 2, none⟩ (.string TT) = x9 at HE9 HB9 ⊢
            clear p0 p1 p2 p3 p4 p5 p6 p7 p8 p9 pA f0 f1 f2 f3 f4 f5 f6 f7 f8 f9 fA hadd
            obtain ⟨⟨z0, z1, z2, z3, z4, z5, z6, z7, z8, z9, zA⟩, y0, y1, y2, y3, y4, y5, y6, y7, y8, y9, yA⟩ := blk11 (HBZ.out.below HB9.out HBZ.out.lt)
            obtain ⟨⟨p0, p1, p2, p3, p4, p5, p6, p7, p8, p9, pA⟩, -⟩ := blk11 HE9.out
            go_wp2_with fail
            refine bodyPost_ret (v := .agg #[.string PT, .int .i64 3, .string TT, .int .i64 m0, .int .i64 m1, .int .i64 m2, .string M3, .string M4, .int .i64 m5, .int .i64 m6, .slice none 0 0]) (by simp [results, Tryd.results16, go_sem, *]) rfl ?_
            rw [HV.out]
            refine ⟨none, 0, by rw [HVAL.out], HSL.out, ?_, below_set11 (HW1.out.trans (HB9.out.mono HW1.out.size)) (by have := HLT.out; omega) _ _ _ _ _ _ _ _ _ _ _⟩
            exact fun j hj => (by cases hj)
          · -- a link
            rw [show (1 + ((3 : Nat) : Int)) = 4 from rfl] at HEt
            obtain ⟨qd, Hqd⟩ : ∃ q : Nat, Hid (pick r.b 150 = q) := ⟨(pick r.b 150).toNat, by have := pick_bd r.b 150 (by omega); show _ = _; omega⟩
            have hqd : qd < 150 := by have := pick_bd r.b 150 (by omega); have := Hqd.out; omega
            have HPD4 := Lib.hid fun W => picked_any r.b 150 W HAB.out (by omega)
            rw [Hqd.out] at HPD4
            have HV : Hid (entD r = ⟨pathDr r, 4, 116 :: List.replicate qd 117, ⟨m0, m1, m2, m3, m4, m5, m6⟩, []⟩) := by
              unfold Hid; rw [HEE.out, Hpk.out, Hqd.out, Int.toNat_natCast]; rfl
            have hRp := fun W => Tryd.strings_Repeat ⟨#[117]⟩ qd W (by omega) (by show 1 * qd ≤ _; omega)
            have e1 : Lib.repeatL (⟨#[117]⟩ : ByteArray).data.toList qd = List.replicate qd 117 := by
              have := Lib.repeatL_replicate 117 1 qd
              rw [Nat.mul_one] at this; exact this
            rw [e1] at hRp
            have HRp := Lib.hid hRp
            obtain ⟨RS, HRS⟩ : ∃ RS : ByteArray, Hid ((⟨(List.replicate qd (117 : UInt8)).toArray⟩ : ByteArray) = RS) := ⟨_, rfl⟩
            rw [HRS.out] at HRp
            have hrs : RS.size ≤ 150 := by have h := bs_size (List.replicate qd (117 : UInt8)); rw [show bs (List.replicate qd (117 : UInt8)) = RS from HRS.out, List.length_replicate] at h; omega
            obtain ⟨TT, HTT⟩ := hid_name ((⟨#[116]⟩ : ByteArray) ++ RS)
            have hadd : ∀ W : World, (Op.stringOp .add ⟨#[116]⟩ RS).run Tryd.prog W = .ok (.string TT) W := fun W => by
              rw [← HTT.out]; exact run_string_add_sum (P := Tryd.prog) (w := W) _ _ (by show 1 + RS.size ≤ _; omega)
            have HTB : Hid (bs (116 :: List.replicate qd 117) = TT) := by
              unfold Hid; rw [← HTT.out, ← HRS.out]
              show bs ([116] ++ List.replicate qd 117) = bs [116] ++ bs (List.replicate qd 117)
              rw [bs_cat]
            have q2 := (blk4 (HBX.out.below HBt.out HBX.out.lt)).2.2.1
            obtain ⟨⟨p0, p1, p2, p3, p4, p5, p6, p7, p8, p9, pA⟩, -⟩ := blk11 HEt.out
            clear hRp e1 hqd hrs
            go_wp2_with fail
            refine (HPD4.out _).mono ?_; rintro e w' ⟨rfl, rfl⟩
            clear p0 p1 p2 p3 p4 p5 p6 p7 p8 p9 pA q2
            go_wp2_with fail
            refine (HRp.out _).mono ?_; rintro e w4 ⟨rfl, hbA⟩
            have hE4 := HEt.out.below hbA HEt.out.lt
            have hE6 : Blk (w4.setCell ⟨gx, 2, none⟩ (.string TT)) gx 30 #[.string PT, .int .i64 4, .string TT, .int .i64 m0, .int .i64 m1, .int .i64 m2, .string M3, .string M4, .int .i64 m5, .int .i64 m6, .slice none 0 0] := hE4.set_ 2 _
            have hB6 := (keepW HBt.out hbA).setCell (p := ⟨gx, 2, none⟩) HGX.out (.string TT)
            have HE9 := Lib.hid hE6
            have HB9 := Lib.hid hB6
            obtain ⟨⟨p0, p1, p2, p3, p4, p5, p6, p7, p8, p9, pA⟩, f0, f1, f2, f3, f4, f5, f6, f7, f8, f9, fA⟩ := blk11 hE4
            have HVAL : Hid (∀ D kc, (entC ⟨pathDr r, 4, 116 :: List.replicate qd 117, ⟨m0, m1, m2, m3, m4, m5, m6⟩, []⟩ D kc).toArray = #[.string PT, .int .i64 4, .string TT, .int .i64 m0, .int .i64 m1, .int .i64 m2, .string M3, .string M4, .int .i64 m5, .int .i64 m6, .slice D 0 kc]) := by
              intro D kc
              show (#[.string (bs (pathDr r)), .int .i64 4, .string (bs (116 :: List.replicate qd 117)), .int .i64 m0, .int .i64 m1, .int .i64 m2, .string (bs m3), .string (bs m4), .int .i64 m5, .int .i64 m6, .slice D 0 kc] : Array Value) = _
              rw [HPT.out, HTB.out, show bs m3 = M3 from HM3.out, show bs m4 = M4 from HM4.out]
            have HSL : Hid (SlOk none 0 0) := ⟨Nat.le_refl _, by decide, fun _ => rfl⟩
            clear hE4 hE6 hB6 hbA
            go_upto_region 16 with fail
            generalize w4.setCell ⟨gx, 2, none⟩ (.string TT) = x9 at HE9 HB9 ⊢
            clear p0 p1 p2 p3 p4 p5 p6 p7 p8 p9 pA f0 f1 f2 f3 f4 f5 f6 f7 f8 f9 fA hadd
            obtain ⟨⟨z0, z1, z2, z3, z4, z5, z6, z7, z8, z9, zA⟩, y0, y1, y2, y3, y4, y5, y6, y7, y8, y9, yA⟩ := blk11 (HBZ.out.below HB9.out HBZ.out.lt)
            obtain ⟨⟨p0, p1, p2, p3, p4, p5, p6, p7, p8, p9, pA⟩, -⟩ := blk11 HE9.out
            go_wp2_with fail
            refine bodyPost_ret (v := .agg #[.string PT, .int .i64 4, .string TT, .int .i64 m0, .int .i64 m1, .int .i64 m2, .string M3, .string M4, .int .i64 m5, .int .i64 m6, .slice none 0 0]) (by simp [results, Tryd.results16, go_sem, *]) rfl ?_
            rw [HV.out]
            refine ⟨none, 0, by rw [HVAL.out], HSL.out, ?_, below_set11 (HW1.out.trans (HB9.out.mono HW1.out.size)) (by have := HLT.out; omega) _ _ _ _ _ _ _ _ _ _ _⟩
            exact fun j hj => (by cases hj)
end Go.Proofs.YtdcbmjihpjnbbaaDoor
