/- Records of raw things, by their keys. -/
import Derived.Test.YtilofjaigpngoaaDoorPaxE
import Derived.Test.YtilofjaigpngoaaDoorRecK
import Derived.Deep.RegionHeld3
set_option linter.unusedVariables false
set_option maxRecDepth 100000
namespace Go.Proofs.YtilofjaigpngoaaDoor
open Go.RowKit
open Go.OpenShut
def keyR (c : UInt8) (i : Nat) : List UInt8 := [c, UInt8.ofNat (48 + i)]
def recsL (c : UInt8) (rs : List RawV) : List Rc := (rs.take 6).mapIdx fun i r => (keyR c i, rcVal r)
theorem recsL_length (c : UInt8) (rs : List RawV) : (recsL c rs).length = min 6 rs.length := by
  unfold recsL; rw [List.length_mapIdx, List.length_take]
theorem recsL_nil (c : UInt8) : recsL c [] = [] := rfl
theorem recsL_snoc (c : UInt8) (rs : List RawV) (k : Nat) (h : k < rs.length) (h6 : k < 6) : recsL c (rs.take (k + 1)) = recsL c (rs.take k) ++ [(keyR c k, rcVal rs[k])] := by
  unfold recsL
  rw [List.take_take, List.take_take, Nat.min_eq_right (by omega), Nat.min_eq_right (by omega), List.take_succ_eq_append_getElem h, List.mapIdx_append]
  simp [List.length_take, Nat.min_eq_left (Nat.le_of_lt h)]
theorem recsL_same (c : UInt8) (rs : List RawV) (k : Nat) (h6 : ¬ k < 6) : recsL c (rs.take (k + 1)) = recsL c (rs.take k) := by
  unfold recsL
  rw [List.take_take, List.take_take, Nat.min_eq_left (by omega), Nat.min_eq_left (by omega)]
theorem recsL_get (c : UInt8) (rs : List RawV) (k : Nat) (h : k < (recsL c rs).length) : k < 6 ∧ ∃ r : RawV, (recsL c rs)[k] = (keyR c k, rcVal r) := by
  have hl := recsL_length c rs
  have h' : k < ((rs.take 6).mapIdx fun i r => (keyR c i, rcVal r)).length := h
  exact ⟨by omega, _, List.getElem_mapIdx (h := h')⟩
theorem itoa_six (i : Nat) (h : i < 6) : Lib.itoa (i : Int) = [UInt8.ofNat (48 + i)] := by
  match i, h with
  | 0, _ => decide +kernel
  | 1, _ => decide +kernel
  | 2, _ => decide +kernel
  | 3, _ => decide +kernel
  | 4, _ => decide +kernel
  | 5, _ => decide +kernel
theorem keyR_eq (c : UInt8) (i : Nat) (h : i < 6) : bs [c] ++ bs (Lib.itoa (i : Int)) = bs (keyR c i) := by
  rw [bs_cat, itoa_six i h]; rfl
/-- the raw thing's own block, nothing elder turned -/
def RgS (w : World) (gr : Nat) (cs : Array Value) (W : World) : Prop := Blk W gr 40 cs ∧ Below w.heap.size w W
theorem RgS.drew_ {w W : World} {gr : Nat} {cs : Array Value} (h : RgS w gr cs W) : RgS w gr cs W.drew := ⟨h.1.drew_, h.2.drew⟩
theorem RgS.below {w W W' : World} {gr : Nat} {cs : Array Value} (h : RgS w gr cs W) (hb : Below W.heap.size W W') : RgS w gr cs W' := ⟨h.1.below hb h.1.lt, h.2.trans (hb.mono h.2.size)⟩
theorem RgS.alloc {w W : World} {gr : Nat} {cs : Array Value} (h : RgS w gr cs W) (o : Obj) : RgS w gr cs (W.alloc o) := ⟨h.1.alloc o, h.2.alloc h.2.size o⟩
theorem RgS.grown {w W W' : World} {gr : Nat} {cs : Array Value} {v : Value} {n : Nat} {l : List Rc} (h : RgS w gr cs W) (ho : Own W w.heap.size v n l) (hg : W.grownBy W' v.ownBlock) : RgS w gr cs W' := by
  refine ⟨h.1.grown hg ?_, h.2.grown hg h.2.size ho.above⟩
  intro e
  obtain ⟨-, cur, hc⟩ := own_block ho.2 gr e.symm
  have h1 := h.1
  unfold Blk at h1
  rw [hc] at h1
  injection h1 with h1
  injection h1 with _ ht
  exact absurd ht (by decide)
theorem Own.drew_ {w : World} {B : Nat} {v : Value} {n : Nat} {l : List Rc} (h : Own w B v n l) : Own w.drew B v n l := ⟨h.1, h.2.drew⟩
set_option maxHeartbeats 4000000 in
theorem recordsOf_any (A : Option Addr) (n c : Nat) (rs : List RawV) (ch : UInt8) (hn : rs.length = n) (hn2 : n ≤ 140737488355328) (hwf : ∀ r ∈ rs, r.wf) (w : World) (T : Tab w) (hA : RawsAt w A rs) :
    Calls Tryd.prog 14 #[.slice A n c, .string (bs [ch])] w fun e w' => ∃ A' n' c', e = .returned (.slice A' n' c') ∧ Own w' w.heap.size (.slice A' n' c') n' (recsL ch rs) ∧ Below w.heap.size w w' := by
  obtain ⟨i0, hi, hz0, hz1, hz2⟩ := info_parts info_rec
  have HN := Lib.hid hn
  have HW := Lib.hid hwf
  have HA := Lib.hid hA
  obtain ⟨C, HC⟩ := hid_name (bs [ch])
  rw [HC.out]
  clear hn hwf hA
  go_enter Tryd.func14, Tryd.ntmps14
  go_wp2_with fail
  go_loopw [5, 10] (fun ov i wr => ∃ (k n' : Nat), i = .int .i64 k ∧ k ≤ n ∧ n' ≤ 6 ∧ Hid (Own wr w.heap.size ov n' (recsL ch (rs.take k))) ∧ Hid (Below w.heap.size w wr)) (fun _ i _ => n - (intOf i).toNat)
  case atStart => exact ⟨0, 0, rfl, Nat.zero_le _, by omega, Own.nil _ _, Below.refl _ _⟩
  case round =>
    obtain ⟨k, n', rfl, hk, hn6, HO, HB⟩ := hrel
    have hws : w.heap.size ≤ wr.heap.size := HB.out.size
    obtain ⟨A', c', rfl⟩ := HO.out.form
    by_cases hlt : k < n
    · have hkr : k < rs.length := by rw [HN.out]; exact hlt
      obtain ⟨b, o, rfl, hraw⟩ := HA.out.below HB.out k hkr
      obtain ⟨r, Hr⟩ := hid_name rs[k]
      rw [Hr.out] at hraw
      obtain ⟨e0, e1, e2, e3⟩ := raw_four hraw
      have hrwf := HW.out r (by rw [← Hr.out]; exact List.getElem_mem _)
      clear hraw
      by_cases h6 : k < 6
      · have HSN := Lib.hid (recsL_snoc ch rs k hkr h6)
        rw [Hr.out] at HSN
        have hvl := rcVal_len r
        obtain ⟨kind, ra, rb, text⟩ := r
        obtain ⟨hkd, hra, hrb, ht⟩ := hrwf
        simp only at hkd hra hrb ht e0 e1 e2 e3
        unfold rcVal at hvl HSN
        simp only at hvl HSN
        obtain ⟨q1, q2⟩ := pick_bd rb 25 (by omega)
        have HPb := Lib.hid fun W => picked_any rb 25 W hrb (by omega)
        obtain ⟨m, hm⟩ : ∃ m : Nat, pick rb 25 = m := ⟨(pick rb 25).toNat, by omega⟩
        rw [hm] at HPb q1 q2 hvl HSN
        rw [Int.toNat_natCast] at hvl HSN
        have hcl := cleanL_le text.data.toList 20
        have HCl : Hid (∀ W, Calls Tryd.prog 30 #[.string text, .int .i64 20] W fun e w' => e = .returned (.string (bs (cleanL text.data.toList 20))) ∧ Below W.heap.size W w') := fun W => clean_any text 20 W (by omega) (by omega)
        have HRc : Hid (∀ W, Calls Tryd.prog 29 #[.string (bs (cleanL text.data.toList 20)), .int .i64 (m : Int)] W fun e w' => e = .returned (.string (bs (Lib.repeatL (cleanL text.data.toList 20) m))) ∧ Below W.heap.size W w') := fun W => by
          have h := Tryd.strings_Repeat (bs (cleanL text.data.toList 20)) m W (by omega) (by
            rw [bs_size]
            calc (cleanL text.data.toList 20).length * m ≤ 20 * 25 := Nat.mul_le_mul hcl (by omega)
              _ ≤ 140737488355328 := by decide)
          exact h
        have HRg := Lib.hid fun W TW => Itoa_any (k : Int) W TW (by omega) (by omega)
        have hcat := keyR_eq ch k h6
        have his : (bs (Lib.itoa (k : Int))).size ≤ 6 := by rw [itoa_six k h6, bs_size]; simp
        have hcs : C.size = 1 := by rw [← HC.out]; rfl
        rw [HC.out] at hcat
        obtain ⟨Y, HY⟩ := hid_name (bs (Lib.itoa (k : Int)))
        obtain ⟨D, HD⟩ := hid_name (bs (cleanL text.data.toList 20))
        obtain ⟨K, HK⟩ := hid_name (bs (keyR ch k))
        obtain ⟨V, HV⟩ := hid_name (bs (Lib.repeatL (cleanL text.data.toList 20) m))
        rw [HY.out] at HRg hcat his
        rw [HD.out] at HCl HRc
        rw [HV.out] at HRc
        rw [HK.out] at hcat
        have padd := add_named hcat (by omega)
        have HBX := Lib.hid (Blk.new wr 40 #[.int .i64 kind, .int .i64 ra, .int .i64 rb, .string text])
        have HO1 := Lib.hid (HO.out.alloc (.cells #[.int .i64 kind, .int .i64 ra, .int .i64 rb, .string text] 40))
        have HB1 := Lib.hid (HB.out.alloc hws (.cells #[.int .i64 kind, .int .i64 ra, .int .i64 rb, .string text] 40))
        clear hvl hcl hm hkd hra hrb ht hcat q1 q2
        go_upto_region 6 with fail
        obtain ⟨gr, Hgr⟩ := hid_name wr.heap.size
        obtain ⟨wr1, Hw1⟩ := hid_name (wr.alloc (.cells #[.int .i64 kind, .int .i64 ra, .int .i64 rb, .string text] 40))
        rw [Hgr.out, Hw1.out] at HBX
        rw [Hw1.out] at HO1 HB1
        rw [Hgr.out, Hw1.out]
        clear e0 e1 e2 e3
        have hS0 : RgS w gr #[.int .i64 kind, .int .i64 ra, .int .i64 rb, .string text] wr1 := ⟨HBX.out, HB1.out⟩
        have r2 : ∀ W : World, RgS w gr #[.int .i64 kind, .int .i64 ra, .int .i64 rb, .string text] W → W.cell? ⟨gr, 2, none⟩ = some (.int .i64 rb) := fun W h => (blk4 h.1).2.2.1
        have r3 : ∀ W : World, RgS w gr #[.int .i64 kind, .int .i64 ra, .int .i64 rb, .string text] W → W.cell? ⟨gr, 3, none⟩ = some (.string text) := fun W h => (blk4 h.1).2.2.2
        have HRi : Hid (∀ W, RgS w gr #[.int .i64 kind, .int .i64 ra, .int .i64 rb, .string text] W → Calls Tryd.prog 28 #[.int .i64 (k : Int)] W fun e w' => e = .returned (.string Y) ∧ Below W.heap.size W w') := fun W h => HRg.out W (T.below h.2)
        have hm1 : n' + 1 ≤ maxLen := by unfold maxLen; omega
        have hm2 : (n' + 1) * 32 ≤ 140737488355328 := by omega
        have hone : ∀ u ∈ [Value.string K, Value.string V], u.oneCell' = true := by simp [Value.oneCell']
        clear HRg
        go_region_held3 (fun W => RgS w gr #[.int .i64 kind, .int .i64 ra, .int .i64 rb, .string text] W)
          (first
            | (with_reducible assumption)
            | (with_reducible refine RgS.drew_ ?_; with_reducible assumption)
            | (with_reducible exact RgS.below (by with_reducible assumption) (by with_reducible assumption))
            | (with_reducible refine RgS.alloc ?_ _; with_reducible assumption)
            | (with_reducible exact RgS.grown (by with_reducible assumption) hOV hgrow1))
          (first
            | ((have hOV := (((HO1.out.drew_.below hbI).below hbC).below hbV).alloc (.cells #[.string K, .string V] 35));
               (have hsV : w.heap.size ≤ (wV.alloc (.cells #[.string K, .string V] 35)).heap.size := (((RgS.below (RgS.below (RgS.below (RgS.drew_ hS0) hbI) hbC) hbV).alloc (.cells #[.string K, .string V] 35)).2.size));
               refine step_append_lies _ rfl (.tmp 17) (.tmp 30) 22 rfl w.heap.size 35 i0 _ 2 32 Tryd.underlying22 hi hz0 hz1 hz2 rfl (by decide) (.slice A' n' c') n' _ rfl hOV.2 ⟨wV.heap.size, 0, none⟩ 1 1 [.string K, .string V] rfl rfl (World.news_of_block (cs := #[.string K, .string V]) (t := 35) (fr := (0, 0)) (heap_alloc_new wV _)) hone (by decide) hm1 hm2 hsV _ rfl ?_;
               intro g' cap' w6 hown1 hgrow1 hat1 hlt1)
            | (go_at_call 28; with_reducible refine (HRi.out _ (by with_reducible assumption)).mono ?_; rintro e wI ⟨rfl, hbI⟩)
            | (go_at_call 18; with_reducible refine (HPb.out _).mono ?_; rintro e w' ⟨rfl, rfl⟩)
            | (go_at_call 30; with_reducible refine (HCl.out _).mono ?_; rintro e wC ⟨rfl, hbC⟩)
            | (go_at_call 29; with_reducible refine (HRc.out _).mono ?_; rintro e wV ⟨rfl, hbV⟩))
        have HO6 : Hid (Own w6 w.heap.size (.slice (some ⟨g', 0, none⟩) (n' + 1) cap') (n' + 1) (recsL ch (rs.take (k + 1)))) := by
          unfold Hid
          rw [HSN.out]
          refine own_push HO.out.1 ?_
          simp only
          rw [HK.out, HV.out]; exact hown1
        have HB6 : Hid (Below w.heap.size w w6) := (RgS.grown ((RgS.below (RgS.below (RgS.below (RgS.drew_ hS0) hbI) hbC) hbV).alloc (.cells #[.string K, .string V] 35)) hOV hgrow1).2
        have hn66 : n' + 1 ≤ 6 := by
          have h1 := HO6.out.1
          rw [recsL_length] at h1; omega
        clear hown1 hgrow1 hat1 hlt1 hOV hsV r2 r3 hS0 hbI hbC hbV
        go_wp2_with fail
        go_roundw
        case rel => exact ⟨k + 1, n' + 1, by go_num, by omega, hn66, HO6, HB6⟩
        case measure => simp [intOf]; omega
      · have HSN := Lib.hid (recsL_same ch rs k h6)
        have HO1 : Hid (Own (wr.alloc (.cells (rawC r).toArray 40)) w.heap.size (.slice A' n' c') n' (recsL ch (rs.take (k + 1)))) := by
          unfold Hid; rw [HSN.out]; exact HO.out.alloc _
        have HB1 := Lib.hid (HB.out.alloc hws (.cells (rawC r).toArray 40))
        unfold rawC at HO1 HB1
        clear hrwf
        go_wp2_with fail
        go_roundw
        case rel => exact ⟨k + 1, n', by go_num, by omega, hn6, HO1, HB1⟩
        case measure => simp [intOf]; omega
    · obtain rfl : k = n := by omega
      have HX : Hid (rs.take k = rs) := List.take_of_length_le (by rw [HN.out]; omega)
      rw [HX.out] at HO
      go_wp2_with fail
      go_ret
      exact ⟨A', n', c', rfl, HO.out, HB.out⟩
end Go.Proofs.YtilofjaigpngoaaDoor
