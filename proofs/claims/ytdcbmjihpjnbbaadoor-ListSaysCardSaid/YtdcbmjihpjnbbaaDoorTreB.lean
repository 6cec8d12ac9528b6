/- The contract of creelkeep.Meta. -/
import Derived.Test.YtdcbmjihpjnbbaaDoorTreA
set_option linter.unusedVariables false
set_option maxRecDepth 100000
namespace Go.Proofs.YtdcbmjihpjnbbaaDoor
open Go.RowKit
open Go.OpenShut
theorem metaN {w w1 : World} {B Z : Obj} {t : TypeId} {cs : Array Value} (hb : Below ((((w.alloc B).alloc Z).alloc (.cells cs t)).drew).heap.size (((w.alloc B).alloc Z).alloc (.cells cs t)).drew w1) : Blk w1 (w.heap.size + 2) t cs := by
  have h := Blk.new ((w.alloc B).alloc Z) t cs
  have e : ((w.alloc B).alloc Z).heap.size = w.heap.size + 2 := by simp
  rw [e] at h
  exact Blk.below (w := (((w.alloc B).alloc Z).alloc (.cells cs t)).drew) h hb (by simp)
def meta0 (r : RawV) : Array Value := #[.int .i64 (pick r.a 4096), .int .i64 (pick r.b 3000), .int .i64 (pick r.a 3000), strV (cleanL r.text.data.toList 40), strV staffL, .int .i64 (pick r.b 17179869184), .int .i64 0]
def metaZ : Array Value := #[.int .i64 0, .int .i64 0, .int .i64 0, .string ⟨#[]⟩, .string ⟨#[]⟩, .int .i64 0, .int .i64 0]
def MetaAt (r : RawV) (w : World) (g : Nat) (wx : World) : Prop :=
  w.heap.size + 2 ≤ g ∧ Blk wx w.heap.size 41 (rawC r).toArray ∧ Blk wx (w.heap.size + 1) 27 metaZ ∧ Blk wx g 27 (meta0 r) ∧ Below w.heap.size w wx
theorem meta_old {w w1 W : World} {kind a b : Int} {text : ByteArray}
    (hW : Blk W w.heap.size 41 #[.int .i64 kind, .int .i64 a, .int .i64 b, .string text] ∧ Blk W (w.heap.size + 1) 27 metaZ ∧ w.heap.size + 2 ≤ W.heap.size ∧ Below w.heap.size w W) (hb : Below W.heap.size W w1) :
    Blk w1 w.heap.size 41 #[.int .i64 kind, .int .i64 a, .int .i64 b, .string text] ∧ Blk w1 (w.heap.size + 1) 27 metaZ ∧ w.heap.size + 2 ≤ w1.heap.size ∧ Below w.heap.size w w1 :=
  ⟨hW.1.below hb hW.1.lt, hW.2.1.below hb hW.2.1.lt, Nat.le_trans hW.2.2.1 hb.size, hW.2.2.2.trans (hb.mono (by have := hW.2.2.1; omega))⟩
theorem meta_two (w : World) (kind a b : Int) (text : ByteArray) :
    Blk ((w.alloc (.cells #[.int .i64 kind, .int .i64 a, .int .i64 b, .string text] 41)).alloc (.cells metaZ 27)) w.heap.size 41 #[.int .i64 kind, .int .i64 a, .int .i64 b, .string text] ∧
    Blk ((w.alloc (.cells #[.int .i64 kind, .int .i64 a, .int .i64 b, .string text] 41)).alloc (.cells metaZ 27)) (w.heap.size + 1) 27 metaZ ∧
    w.heap.size + 2 ≤ ((w.alloc (.cells #[.int .i64 kind, .int .i64 a, .int .i64 b, .string text] 41)).alloc (.cells metaZ 27)).heap.size ∧
    Below w.heap.size w ((w.alloc (.cells #[.int .i64 kind, .int .i64 a, .int .i64 b, .string text] 41)).alloc (.cells metaZ 27)) := by
  refine ⟨(Blk.new _ _ _).alloc _, ?_, by simp, ((Below.refl _ _).alloc (Nat.le_refl _) _).alloc (by simp) _⟩
  have := Blk.new (w.alloc (.cells #[.int .i64 kind, .int .i64 a, .int .i64 b, .string text] 41)) 27 metaZ
  simpa using this
theorem meta_A {w w1 : World} {kind a b : Int} {text : ByteArray}
    (hb : Below ((w.alloc (.cells #[.int .i64 kind, .int .i64 a, .int .i64 b, .string text] 41)).alloc (.cells #[.int .i64 0, .int .i64 0, .int .i64 0, .string ⟨#[]⟩, .string ⟨#[]⟩, .int .i64 0, .int .i64 0] 27)).drew.heap.size
      ((w.alloc (.cells #[.int .i64 kind, .int .i64 a, .int .i64 b, .string text] 41)).alloc (.cells #[.int .i64 0, .int .i64 0, .int .i64 0, .string ⟨#[]⟩, .string ⟨#[]⟩, .int .i64 0, .int .i64 0] 27)).drew w1) :
    MetaAt ⟨kind, a, b, text⟩ w w1.heap.size (w1.alloc (.cells #[.int .i64 (pick a 4096), .int .i64 (pick b 3000), .int .i64 (pick a 3000), .string ⟨(cleanL text.data.toList 40).toArray⟩, .string ⟨#[115, 116, 97, 102, 102]⟩, .int .i64 (pick b 17179869184), .int .i64 0] 27)) := by
  obtain ⟨h1, h2, h3, h4⟩ := meta_old (W := ((w.alloc (.cells #[.int .i64 kind, .int .i64 a, .int .i64 b, .string text] 41)).alloc (.cells metaZ 27)).drew) ⟨(meta_two w kind a b text).1, (meta_two w kind a b text).2.1, (meta_two w kind a b text).2.2.1, (meta_two w kind a b text).2.2.2.drew⟩ hb
  exact ⟨h3, h1.alloc _, h2.alloc _, Blk.new _ _ _, h4.alloc (by omega) _⟩
theorem meta_B {w w1 : World} {kind a b : Int} {text : ByteArray}
    (hb : Below (((w.alloc (.cells #[.int .i64 kind, .int .i64 a, .int .i64 b, .string text] 41)).alloc (.cells #[.int .i64 0, .int .i64 0, .int .i64 0, .string ⟨#[]⟩, .string ⟨#[]⟩, .int .i64 0, .int .i64 0] 27)).alloc (.cells #[.int .i64 0, .int .i64 0, .int .i64 0, .string ⟨#[]⟩, .string ⟨#[]⟩, .int .i64 0, .int .i64 0] 27)).drew.heap.size
      (((w.alloc (.cells #[.int .i64 kind, .int .i64 a, .int .i64 b, .string text] 41)).alloc (.cells #[.int .i64 0, .int .i64 0, .int .i64 0, .string ⟨#[]⟩, .string ⟨#[]⟩, .int .i64 0, .int .i64 0] 27)).alloc (.cells #[.int .i64 0, .int .i64 0, .int .i64 0, .string ⟨#[]⟩, .string ⟨#[]⟩, .int .i64 0, .int .i64 0] 27)).drew w1) :
    MetaAt ⟨kind, a, b, text⟩ w (w.heap.size + 1 + 1) (((((((w1.setCell ⟨w.heap.size + 1 + 1, 0, none⟩ (.int .i64 (pick a 4096))).setCell ⟨w.heap.size + 1 + 1, 1, none⟩ (.int .i64 (pick b 3000))).setCell ⟨w.heap.size + 1 + 1, 2, none⟩ (.int .i64 (pick a 3000))).setCell ⟨w.heap.size + 1 + 1, 3, none⟩ (.string ⟨(cleanL text.data.toList 40).toArray⟩)).setCell ⟨w.heap.size + 1 + 1, 4, none⟩ (.string ⟨#[115, 116, 97, 102, 102]⟩)).setCell ⟨w.heap.size + 1 + 1, 5, none⟩ (.int .i64 (pick b 17179869184))).setCell ⟨w.heap.size + 1 + 1, 6, none⟩ (.int .i64 0)) := by
  obtain ⟨m1, m2, m3, m4⟩ := meta_two w kind a b text
  obtain ⟨h1, h2, h3, h4⟩ := meta_old (W := (((w.alloc (.cells #[.int .i64 kind, .int .i64 a, .int .i64 b, .string text] 41)).alloc (.cells metaZ 27)).alloc (.cells metaZ 27)).drew) ⟨m1.alloc _, m2.alloc _, by simp, (m4.alloc (Nat.le_trans (by omega) m3) _).drew⟩ hb
  have h5 : Blk w1 (w.heap.size + 1 + 1) 27 metaZ := metaN hb
  refine ⟨by omega, h1.far7 (by omega) _ _ _ _ _ _ _, h2.far7 (by omega) _ _ _ _ _ _ _, ?_, ?_⟩
  · have := ((((((h5.set_ 0 (.int .i64 (pick a 4096))).set_ 1 (.int .i64 (pick b 3000))).set_ 2 (.int .i64 (pick a 3000))).set_ 3 (.string ⟨(cleanL text.data.toList 40).toArray⟩)).set_ 4 (.string ⟨#[115, 116, 97, 102, 102]⟩)).set_ 5 (.int .i64 (pick b 17179869184))).set_ 6 (.int .i64 0)
    exact this
  · exact ((((((h4.setCell (p := ⟨w.heap.size + 1 + 1, 0, none⟩) (by show _ ≤ w.heap.size + 1 + 1; omega) _).setCell (p := ⟨w.heap.size + 1 + 1, 1, none⟩) (by show _ ≤ w.heap.size + 1 + 1; omega) _).setCell (p := ⟨w.heap.size + 1 + 1, 2, none⟩) (by show _ ≤ w.heap.size + 1 + 1; omega) _).setCell (p := ⟨w.heap.size + 1 + 1, 3, none⟩) (by show _ ≤ w.heap.size + 1 + 1; omega) _).setCell (p := ⟨w.heap.size + 1 + 1, 4, none⟩) (by show _ ≤ w.heap.size + 1 + 1; omega) _).setCell (p := ⟨w.heap.size + 1 + 1, 5, none⟩) (by show _ ≤ w.heap.size + 1 + 1; omega) _).setCell (p := ⟨w.heap.size + 1 + 1, 6, none⟩) (by show _ ≤ w.heap.size + 1 + 1; omega) _
attribute [local go_sem ↓] Go.wp_at_zero Go.wp_at_succ
set_option maxHeartbeats 4000000 in
theorem Meta_any (r : RawV) (hr : r.wf) (w : World) : Calls Tryd.prog 38 #[.agg (rawC r).toArray] w fun e w' => e = .returned (.agg (metaC (metaV r)).toArray) ∧ Below w.heap.size w w' := by
  obtain ⟨hk, ha, hb, ht⟩ := hr
  obtain ⟨kind, a, b, text⟩ := r
  simp only at hk ha hb ht
  have HK := Lib.hid hk
  have HA := Lib.hid ha
  have HB := Lib.hid hb
  have ht' : text.size ≤ 140737488355328 := by omega
  clear hk ha hb
  unfold rawC
  have r0 : ∀ W : World, Blk W w.heap.size 41 #[.int .i64 kind, .int .i64 a, .int .i64 b, .string text] → W.cell? ⟨w.heap.size, 0, none⟩ = some (.int .i64 kind) := fun W h => (blk4 h).1
  have r1 : ∀ W : World, Blk W w.heap.size 41 #[.int .i64 kind, .int .i64 a, .int .i64 b, .string text] → W.cell? ⟨w.heap.size, 1, none⟩ = some (.int .i64 a) := fun W h => (blk4 h).2.1
  have r2 : ∀ W : World, Blk W w.heap.size 41 #[.int .i64 kind, .int .i64 a, .int .i64 b, .string text] → W.cell? ⟨w.heap.size, 2, none⟩ = some (.int .i64 b) := fun W h => (blk4 h).2.2.1
  have r3 : ∀ W : World, Blk W w.heap.size 41 #[.int .i64 kind, .int .i64 a, .int .i64 b, .string text] → W.cell? ⟨w.heap.size, 3, none⟩ = some (.string text) := fun W h => (blk4 h).2.2.2
  go_enter Tryd.func38, Tryd.ntmps38
  go_upto_region 1 with fail
  go_cut [3] (fun s3 wx => ∃ g : Nat, s3 = .pointer (some ⟨g, 0, none⟩) ∧ MetaAt ⟨kind, a, b, text⟩ w g wx)
  case first =>
    go_region_held3 (fun w' => Blk w' w.heap.size 41 #[.int .i64 kind, .int .i64 a, .int .i64 b, .string text])
      (first
        | (with_reducible assumption)
        | (with_reducible exact Blk.swap (by with_reducible assumption) (by decide) _)
        | (with_reducible refine Blk.alloc ?_ _; with_reducible assumption)
        | (with_reducible refine Blk.far7 ?_ (ne_two _) _ _ _ _ _ _ _; with_reducible assumption) | (with_reducible refine Blk.far7 ?_ (ne_two' _) _ _ _ _ _ _ _; with_reducible assumption)
        | (with_reducible exact Blk.below (by with_reducible assumption) hb1 (Blk.lt (by with_reducible assumption)))
        | (with_reducible refine Blk.drew_ ?_; repeat (first | with_reducible exact Blk.new _ _ _ | with_reducible refine Blk.alloc ?_ _)))
      (first | (go_at_call 15; refine (picked_any _ _ _ (by first | exact HA.out | exact HB.out) (by omega)).mono ?_; rintro e w' ⟨rfl, rfl⟩) | (go_at_call 41; refine (clean_any text 40 _ ht' (by omega)).mono ?_; rintro e w1 ⟨rfl, hb1⟩; (first | (with_reducible have hN : Blk w1 (w.heap.size + 2) 27 #[.int .i64 0, .int .i64 0, .int .i64 0, .string ⟨#[]⟩, .string ⟨#[]⟩, .int .i64 0, .int .i64 0] := metaN hb1; obtain ⟨⟨n0, n1, n2, n3, n4, n5, n6⟩, m0, m1, m2, m3, m4, m5, m6⟩ := blk7 hN; clear hN) | skip)))
    all_goals (go_wp2_with fail; go_meet; first | exact ⟨_, rfl, meta_A hb1⟩ | exact ⟨_, rfl, meta_B hb1⟩)
  case rest =>
    obtain ⟨g, rfl, hM⟩ := hcut
    obtain ⟨hg, hm1, hm2, hm3, hm4⟩ := hM
    unfold rawC at hm1
    unfold metaZ at hm2
    unfold meta0 strV staffL at hm3
    simp only at hm1 hm3
    obtain ⟨q0, q1, q2, q3⟩ := blk4 hm1
    obtain ⟨⟨z0, z1, z2, z3, z4, z5, z6⟩, y0, y1, y2, y3, y4, y5, y6⟩ := blk7 hm2
    obtain ⟨⟨n0, n1, n2, n3, n4, n5, n6⟩, m0, m1, m2, m3, m4, m5, m6⟩ := blk7 hm3
    have HM4 := Lib.hid hm4
    have HZ := Lib.hid hm2
    have HN := Lib.hid hm3
    clear hm1 hm2 hm3 hm4 r0 r1 r2 r3
    have hB1 : w.heap.size ≤ w.heap.size + 1 := Nat.le_succ _
    have hB2 : w.heap.size ≤ g := by omega
    obtain ⟨s1, s2⟩ := pick_bd b 17179869184 (by omega)
    obtain ⟨t1, t2⟩ := pick_bd a 61 (by omega)
    obtain ⟨x1, x2⟩ := pick_bd kind 9 (by omega)
    by_cases h0 : pick kind 9 = 0
    · go_wp2_with (go_at_call 15; refine (picked_any _ _ _ (by first | exact HK.out | exact HA.out | exact HB.out) (by omega)).mono ?_; rintro e w' ⟨rfl, rfl⟩)
      refine bodyPost_ret (v := .agg (metaC (metaV ⟨kind, a, b, text⟩)).toArray) (by simp [results, Tryd.results38, go_sem, metaC, metaV, strV, staffL, *]) rfl ⟨rfl, ?_⟩; with_reducible (first | exact Below.set7 HM4.out hB1 _ _ _ _ _ _ _ | exact Below.set7 (Below.set1 HM4.out hB2 _ _) hB1 _ _ _ _ _ _ _)
    · by_cases h1 : pick kind 9 = 1
      · have d0 : ((1 : Int) == 0) = false := rfl
        go_wp2_with (go_at_call 15; refine (picked_any _ _ _ (by first | exact HK.out | exact HA.out | exact HB.out) (by omega)).mono ?_; rintro e w' ⟨rfl, rfl⟩)
        refine bodyPost_ret (v := .agg (metaC (metaV ⟨kind, a, b, text⟩)).toArray) (by simp [results, Tryd.results38, go_sem, metaC, metaV, strV, staffL, *]) rfl ⟨rfl, ?_⟩; with_reducible (first | exact Below.set7 HM4.out hB1 _ _ _ _ _ _ _ | exact Below.set7 (Below.set1 HM4.out hB2 _ _) hB1 _ _ _ _ _ _ _)
      · by_cases h2 : pick kind 9 = 2
        · go_wp2_with (go_at_call 15; refine (picked_any _ _ _ (by first | exact HK.out | exact HA.out | exact HB.out) (by omega)).mono ?_; rintro e w' ⟨rfl, rfl⟩)
          refine bodyPost_ret (v := .agg (metaC (metaV ⟨kind, a, b, text⟩)).toArray) (by simp [results, Tryd.results38, go_sem, metaC, metaV, strV, staffL, *]) rfl ⟨rfl, ?_⟩; with_reducible (first | exact Below.set7 HM4.out hB1 _ _ _ _ _ _ _ | exact Below.set7 (Below.set1 HM4.out hB2 _ _) hB1 _ _ _ _ _ _ _)
        · by_cases h3 : pick kind 9 = 3
          · go_wp2_with (go_at_call 15; refine (picked_any _ _ _ (by first | exact HK.out | exact HA.out | exact HB.out) (by omega)).mono ?_; rintro e w' ⟨rfl, rfl⟩)
            refine bodyPost_ret (v := .agg (metaC (metaV ⟨kind, a, b, text⟩)).toArray) (by simp [results, Tryd.results38, go_sem, metaC, metaV, strV, staffL, *]) rfl ⟨rfl, ?_⟩; with_reducible (first | exact Below.set7 HM4.out hB1 _ _ _ _ _ _ _ | exact Below.set7 (Below.set1 HM4.out hB2 _ _) hB1 _ _ _ _ _ _ _)
          · by_cases h4 : pick kind 9 = 4
            · obtain ⟨k, Hk⟩ : ∃ k : Nat, Hid (pick a 61 = k) := ⟨(pick a 61).toNat, show _ = _ by omega⟩
              have hk61 : k ≤ 60 := by have := Hk.out; omega
              go_wp2_with (go_at_call 15; refine (picked_any _ _ _ (by first | exact HK.out | exact HA.out | exact HB.out) (by omega)).mono ?_; rintro e w' ⟨rfl, rfl⟩)
              rw [Hk.out]
              refine (Tryd.strings_Repeat ⟨#[103]⟩ k _ (by omega) (by show 1 * k ≤ _; omega)).mono ?_; rintro e w1 ⟨rfl, hb1⟩
              rw [rep_one]
              obtain ⟨sg, Hsg⟩ := hid_name (⟨(List.replicate k 103).toArray⟩ : ByteArray)
              rw [Hsg.out]
              have hz1 := HZ.out.below hb1 HZ.out.lt
              have hn1 := HN.out.below hb1 HN.out.lt
              have hwc : w.heap.size ≤ wc.heap.size := HM4.out.size
              have HM5 := Lib.hid (HM4.out.trans (hb1.mono hwc))
              have Hmv : Hid ((metaC (metaV ⟨kind, a, b, text⟩)).toArray = #[.int .i64 (pick a 4096), .int .i64 (pick b 3000), .int .i64 (pick a 3000), .string ⟨(cleanL text.data.toList 40).toArray⟩, .string sg, .int .i64 (pick b 17179869184), .int .i64 0]) := by
                unfold Hid
                have hk2 : (pick a 61).toNat = k := by rw [Hk.out]; simp
                rw [← Hsg.out]
                simp [metaC, metaV, strV, h4, hk2]
              clear q0 q1 q2 q3 z0 z1 z2 z3 z4 z5 z6 y0 y1 y2 y3 y4 y5 y6 n0 n1 n2 n3 n4 n5 n6 m0 m1 m2 m3 m4 m5 m6 hb1 hwc
              obtain ⟨⟨z0, z1, z2, z3, z4, z5, z6⟩, y0, y1, y2, y3, y4, y5, y6⟩ := blk7 hz1
              obtain ⟨⟨n0, n1, n2, n3, n4, n5, n6⟩, m0, m1, m2, m3, m4, m5, m6⟩ := blk7 hn1
              clear hz1 hn1
              go_wp2_with fail
              refine bodyPost_ret (v := .agg #[.int .i64 (pick a 4096), .int .i64 (pick b 3000), .int .i64 (pick a 3000), .string ⟨(cleanL text.data.toList 40).toArray⟩, .string sg, .int .i64 (pick b 17179869184), .int .i64 0]) (by simp [results, Tryd.results38, go_sem, *]) rfl ⟨?_, ?_⟩
              · rw [Hmv.out]
              · with_reducible exact Below.set7 (Below.set1 HM5.out hB2 _ _) hB1 _ _ _ _ _ _ _
            · have d0 : (pick kind 9 == 0) = false := by simpa using h0
              have d1 : (pick kind 9 == 1) = false := by simpa using h1
              have d2 : (pick kind 9 == 2) = false := by simpa using h2
              have d3 : (pick kind 9 == 3) = false := by simpa using h3
              have d4 : (pick kind 9 == 4) = false := by simpa using h4
              go_wp2_with (go_at_call 15; refine (picked_any _ _ _ (by first | exact HK.out | exact HA.out | exact HB.out) (by omega)).mono ?_; rintro e w' ⟨rfl, rfl⟩)
              refine bodyPost_ret (v := .agg (metaC (metaV ⟨kind, a, b, text⟩)).toArray) (by simp [results, Tryd.results38, go_sem, metaC, metaV, strV, staffL, *]) rfl ⟨rfl, ?_⟩; with_reducible (first | exact Below.set7 HM4.out hB1 _ _ _ _ _ _ _ | exact Below.set7 (Below.set1 HM4.out hB2 _ _) hB1 _ _ _ _ _ _ _)
end Go.Proofs.YtdcbmjihpjnbbaaDoor
