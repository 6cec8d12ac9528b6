/- Texts of one kind, in one file: PadC, PadD, PadE, PadG. -/
import Derived.Test.YtepjdiocicmjcaaGreatDoorPda
import Derived.Deep.RegionWith
import Derived.Deep.RegionHeld3
import Derived.Deep.DeepCutAuto
import Derived.Deep.QuietTactic
import Derived.Lib.AppendZeros
/- Package pad: Cut. -/
set_option linter.unusedVariables false
set_option maxRecDepth 100000
namespace Go.Proofs.YtepjdiocicmjcaaGreatDoor
open Go.RowKit
open Go.OpenShut
theorem elem_bytes : Tryz.prog.underlying 24 = some (.slice (Tryz.prog.elem 24)) := by kernel_rfl
theorem size_u8 : ∀ W, (sizeOf (Tryz.prog.elem 24)).run Tryz.prog W = .ok 1 W := by
  intro W
  have e : Tryz.prog.elem 24 = 5 := by kernel_rfl
  rw [e]; exact Tryz.sizeOf5 W
/-- the first k bytes -/
theorem slice_to (W : World) (A : Option Addr) (n c k : Nat) (h : k ≤ c) : (Instr.slice 24 (.slice A n c) none (some (.int .i64 (k : Int))) none).run Tryz.prog W = .ok (.slice A k c) W := by
  rw [run_slice_h W 24 A n c elem_bytes .i64 (k : Int) (by omega) (by omega), size_u8]
  have e := cutA_zero A c
  unfold cutA at e
  simp [Result.andThen, sliced] at e ⊢
  exact e
/-- all but the first k bytes -/
theorem slice_from (W : World) (A : Option Addr) (n c k : Nat) (h : k ≤ n) : (Instr.slice 24 (.slice A n c) (some (.int .i64 (k : Int))) none none).run Tryz.prog W = .ok (.slice (cutA A c k) (n - k) (c - k)) W := by
  rw [run_slice_l W 24 A n c elem_bytes .i64 (k : Int) (by omega) (by omega), size_u8]
  simp [Result.andThen, sliced, cutA]
/-- the bytes from k to e -/
theorem slice_mid (W : World) (A : Option Addr) (n c k e : Nat) (h : k ≤ e) (he : e ≤ c) : (Instr.slice 24 (.slice A n c) (some (.int .i64 (k : Int))) (some (.int .i64 (e : Int))) none).run Tryz.prog W = .ok (.slice (cutA A c k) (e - k) (c - k)) W := by
  rw [run_slice_lh W 24 A n c elem_bytes .i64 .i64 (k : Int) (e : Int) (by omega) (by omega) (by omega), size_u8]
  simp [Result.andThen, sliced, cutA]
set_option maxHeartbeats 1000000 in
theorem Cut_any (A : Option Addr) (n c : Nat) (l : List UInt8) (x : Int) (hn : l.length = n) (hn2 : n ≤ 140737488351232) (hc : SlOk A n c) (w : World) (hA : BytsAt w A l) :
    Calls Tryz.prog 78 #[.slice A n c, .int .i64 x] w fun e w' => ∃ v1 v2, e = .returned (.tuple #[v1, v2, .int .i64 (padC l x).2]) ∧ OwnB w' w.heap.size v1 (padC l x).1.1 ∧ OwnB w' w.heap.size v2 (padC l x).1.2 ∧ Below w.heap.size w w' := by
  by_cases h : 0 ≤ x ∧ x < 8589934592
  · obtain ⟨k, rfl⟩ := Int.eq_ofNat_of_zero_le h.1
    have hB := Lib.hid fun W => Blocks_any (k : Int) W
    rw [padB_ok h] at hB
    have HR := Lib.hid (padC_short (l := l) h)
    have HF := Lib.hid (padC_form (l := l) h)
    have HO := Lib.hid (padC_ok (l := l) h)
    rw [Int.toNat_natCast] at hB HR HF HO
    have hge := padN_ge k
    have hlt := padN_lt k
    obtain ⟨p, hp⟩ := hid_name (padN k)
    rw [hp.out] at hB HR HF HO hge hlt
    simp only at hB
    have hk : k < 8589934592 := by omega
    have hmul : IntKind.i64.wrap ((p : Int) * 512) = ((512 * p : Nat) : Int) := by rw [IntKind.wrap_i64]; omega
    obtain ⟨e, he⟩ : ∃ e : Nat, e = 512 * p := ⟨_, rfl⟩
    rw [← he] at HR HF HO hge hlt hmul
    clear h he
    by_cases hs : n < e
    · have HX := Lib.hid (HR.out (by rw [hn]; exact hs))
      rw [HX.out]
      go_enter Tryz.func78, Tryz.ntmps78
      go_wp2_with fail
      refine (hB.out _).mono ?_; rintro e' w' ⟨rfl, rfl⟩
      go_wp2_with fail
      go_ret3
      exact ⟨_, _, rfl, OwnB.nil _ _, OwnB.nil _ _, Below.refl _ _⟩
    · have hs' : e ≤ n := by omega
      have hnc := hc.1
      have s1 := fun W => slice_mid W A n c k e hge (by omega)
      have hlm : ((l.take e).drop k).length = e - k := by rw [List.length_drop, List.length_take]; omega
      have hAt : ∀ W, BytsAt W A l → BytsAt W (cutA A c k) ((l.take e).drop k) := fun W h => by
        rw [List.drop_take]
        exact (h.cut (by omega) k (by omega)).take _
      have HZ := Lib.hid (padAIsZero_any (cutA A c k) (e - k) (c - k) _ hlm (by omega) w (hAt w hA))
      cases hz : allZ ((l.take e).drop k)
      · have HX := Lib.hid (HF.out (by rw [hn]; exact hs') hz)
        rw [HX.out]
        rw [hz] at HZ
        obtain ⟨a1, ha1⟩ := hid_name (cutA A c k)
        obtain ⟨n1, hn1⟩ := hid_name (e - k)
        obtain ⟨c1, hc1⟩ := hid_name (c - k)
        rw [ha1.out, hn1.out, hc1.out] at HZ
        simp only [ha1.out, hn1.out, hc1.out] at s1
        clear hz hAt hlm hn hA hge hlt hk hs' hnc hn2 hc
        go_enter Tryz.func78, Tryz.ntmps78
        go_wp2_with fail
        refine (hB.out _).mono ?_; rintro e' w' ⟨rfl, rfl⟩
        go_wp2_with fail
        refine HZ.out.mono ?_; rintro e' w' ⟨rfl, rfl⟩
        go_wp2_with fail
        go_ret3
        exact ⟨_, _, rfl, OwnB.nil _ _, OwnB.nil _ _, Below.refl _ _⟩
      · have HX := Lib.hid (HO.out (by rw [hn]; exact hs') hz)
        rw [HX.out]
        rw [hz] at HZ
        have s2 := fun W => slice_to W A n c k (by omega)
        have s3 := fun W => slice_from W A n c e hs'
        have HC1 : Hid (∀ W, BytsAt W A l → Calls Tryz.prog 119 #[.slice A k c] W fun e w' => ∃ v, e = .returned v ∧ OwnB w' W.heap.size v (l.take k) ∧ Below W.heap.size W w') := fun W h => bytClone_any A k c (l.take k) (by rw [List.length_take]; omega) (by omega) W (h.take k)
        have HC2 : Hid (∀ W, BytsAt W A l → Calls Tryz.prog 119 #[.slice (cutA A c e) (n - e) (c - e)] W fun e' w' => ∃ v, e' = .returned v ∧ OwnB w' W.heap.size v (l.drop e) ∧ Below W.heap.size W w') := fun W h => bytClone_any (cutA A c e) (n - e) (c - e) (l.drop e) (by rw [List.length_drop]; omega) (by omega) W (h.cut (by omega) e (by omega))
        have HA := Lib.hid fun W (h : Below w.heap.size w W) => hA.below h
        obtain ⟨a1, ha1⟩ := hid_name (cutA A c k)
        obtain ⟨n1, hn1⟩ := hid_name (e - k)
        obtain ⟨c1, hc1⟩ := hid_name (c - k)
        obtain ⟨a2, ha2⟩ := hid_name (cutA A c e)
        obtain ⟨n2, hn2⟩ := hid_name (n - e)
        obtain ⟨c2, hc2⟩ := hid_name (c - e)
        rw [ha1.out, hn1.out, hc1.out] at HZ
        rw [ha2.out, hn2.out, hc2.out] at HC2
        simp only [ha1.out, hn1.out, hc1.out] at s1
        simp only [ha2.out, hn2.out, hc2.out] at s3
        clear hz hAt hlm hn hA hge hlt hk hs' hnc hn2 hc
        go_enter Tryz.func78, Tryz.ntmps78
        go_wp2_with fail
        refine (hB.out _).mono ?_; rintro e' w' ⟨rfl, rfl⟩
        go_wp2_with fail
        refine HZ.out.mono ?_; rintro e' w' ⟨rfl, rfl⟩
        go_upto_region 9 with fail
        have hD : BytsAt w.drew A l := HA.out _ (Below.refl _ _).drew
        go_region_with
          (first
            | (go_at_call 119; (have F1 := hb1); refine (HC2.out _ (HA.out _ F1)).mono ?_; rintro e' w2 ⟨v2, rfl, hO2, hb2⟩)
            | (go_at_call 119; refine (HC1.out _ hD).mono ?_; rintro e' w1 ⟨v1, rfl, hO1, hb1'⟩; have hb1 : Below w.heap.size w w1 := ((Below.refl w.heap.size w).drew.trans (show Below w.heap.size w.drew w1 from hb1')); clear hb1'))
        all_goals
          go_wp2_with fail
          go_ret3
          exact ⟨_, _, rfl, hO1.below hb2, hO2.mono hb1.size, hb1.trans (hb2.mono hb1.size)⟩
  · rw [padC_range h]
    have hB := Lib.hid fun W => Blocks_any x W
    rw [padB_no h] at hB
    clear h
    go_enter Tryz.func78, Tryz.ntmps78
    go_wp2_with fail
    refine (hB.out _).mono ?_; rintro e w' ⟨rfl, rfl⟩
    go_wp2_with fail
    go_ret3
    exact ⟨_, _, rfl, OwnB.nil _ _, OwnB.nil _ _, Below.refl _ _⟩
end Go.Proofs.YtepjdiocicmjcaaGreatDoor
/- Package pad: the reference's Cut. -/
set_option linter.unusedVariables false
set_option maxRecDepth 100000
namespace Go.Proofs.YtepjdiocicmjcaaGreatDoor
open Go.RowKit
open Go.OpenShut
theorem alloc_new' {W : World} {o : Obj} {g : Nat} (h : g = W.heap.size) : (W.alloc o).heap[g]? = some o := by subst h; exact heap_alloc_new W o
theorem alloc_old {W : World} {o x : Obj} {g : Nat} (h : W.heap[g]? = some x) : (W.alloc o).heap[g]? = some x := by
  have hlt : g < W.heap.size := (Array.getElem?_eq_some_iff.1 h).1
  exact ((World.grownBy_alloc W o none).block g hlt (by simp)).trans h
/-- an empty row of bytes just made -/
def Fresh (g : Nat) (W : World) : Prop := W.heap[g]? = some (.cells #[] 5 (0, 0))
theorem Fresh.new {g : Nat} {W : World} (h : g = W.heap.size) : Fresh g (W.alloc (.cells #[] 5)) := alloc_new' h
theorem Fresh.old {g : Nat} {W : World} (h : Fresh g W) (o : Obj) : Fresh g (W.alloc o) := alloc_old h
theorem Fresh.drew {g : Nat} {W : World} (h : Fresh g W) : Fresh g W.drew := h
theorem Fresh.kept {g g1 : Nat} {W W' : World} (h : Fresh g W) (hk : ∀ k, k < W.heap.size → k ≠ g1 → W'.heap[k]? = W.heap[k]?) (hne : g ≠ g1) : Fresh g W' :=
  (hk g (Array.getElem?_eq_some_iff.1 h).1 hne).trans h
/-- a row that another append does not touch -/
theorem OwnB.kept {w w' : World} {B g : Nat} {v : Value} {l : List UInt8} (h : OwnB w B v l) (hk : ∀ k, k < w.heap.size → k ≠ g → w'.heap[k]? = w.heap[k]?) (hne : ∀ k, v.ownBlock = some k → k ≠ g) : OwnB w' B v l :=
  own_heap h fun k e => hk k (World.ownsRow.lt h k e).2 (hne k e)
end Go.Proofs.YtepjdiocicmjcaaGreatDoor
/- Package pad: the law PadCuts, the property PadStrict. -/
set_option linter.unusedVariables false
set_option maxRecDepth 100000
namespace Go.Proofs.YtepjdiocicmjcaaGreatDoor
open Go.RowKit
open Go.OpenShut
end Go.Proofs.YtepjdiocicmjcaaGreatDoor
/- slices.Grow, slices.Concat at slices of bytes; the property PadBack. -/
set_option linter.unusedVariables false
set_option maxRecDepth 100000
namespace Go.Proofs.YtepjdiocicmjcaaGreatDoor
open Go.RowKit
open Go.OpenShut
set_option maxHeartbeats 1000000 in
theorem bGrow_nil (n : Nat) (hn : n ≤ 281474976000000) (w : World) :
    Calls Tryz.prog 47 #[.slice none 0 0, .int .i64 n] w fun e w' => ∃ v, e = .returned v ∧ OwnB w' w.heap.size v [] ∧ Below w.heap.size w w' := by
  obtain ⟨i0, hi, hz0, hz1, hz2⟩ := info_parts oinfo_u8
  by_cases h0 : n = 0
  · subst h0
    go_enter Tryz.func47, Tryz.ntmps47
    go_wp2_with fail
    go_ret
    exact ⟨_, rfl, OwnB.nil _ _, Below.refl _ _⟩
  · have hrz : ∀ ty, (Builtin.append_ #[24, 3] ty #[.slice none 0 0, .int .i64 n]).run Tryz.prog w = .ok (.slice (some ⟨w.heap.size, 0, none⟩) n (grownCap w n 0 5)) (w.drew.alloc (.cells (Builtin.zeroCells (Value.int .u8 0).cells n ++ Builtin.zeroCells (Value.int .u8 0).cells (grownCap w n 0 5 - n)) 5)) :=
      fun ty => Lib.run_append_nil_zeros w 24 3 ty 5 i0 _ .i64 .i64 Tryz.underlying24 Tryz.underlying3 hi hz0 n (by omega) (by omega) (by omega) (by rw [hz2]; omega)
    have hG1 : n ≤ grownCap w n 0 5 := grownCap_ge w _ _ _
    have hG2 : grownCap w n 0 5 ≤ maxLen := grownCap_le_maxLen w _ _ _ (by unfold maxLen; omega)
    obtain ⟨G, hG⟩ := hid_name (grownCap w n 0 5)
    rw [hG.out] at hG1 hG2
    simp only [hG.out] at hrz
    obtain ⟨Z, hZ⟩ := hid_name (Builtin.zeroCells (Value.int .u8 0).cells n ++ Builtin.zeroCells (Value.int .u8 0).cells (G - n))
    have hZs : Z.size = G * 1 := by
      rw [← hZ.out, Array.size_append, size_zeroCells, size_zeroCells]
      show n * 1 + (G - n) * 1 = G * 1
      omega
    simp only [hZ.out] at hrz
    have HO : Hid (OwnB (w.drew.alloc (.cells Z 5)) w.heap.size (.slice (some ⟨w.heap.size, 0, none⟩) 0 G) []) :=
      ⟨rfl, .inr ⟨w.heap.size, G, Z, rfl, Nat.le_refl _, heap_alloc_new w.drew _, Nat.zero_le _, hG2, hZs, rfl⟩⟩
    have HB : Hid (Below w.heap.size w (w.drew.alloc (.cells Z 5))) := ((Below.refl w.heap.size w).drew).alloc (Nat.le_refl _) _
    have hG63 : G ≤ 9223372036854775807 := by unfold maxLen at hG2; omega
    clear hZs hG hZ
    go_enter Tryz.func47, Tryz.ntmps47
    go_wp2_with (at_builtin; refine Lib.wpList_append_run _ rfl _ _ _ _ rfl _ _ rfl rfl _ _ (hrz _) ?_)
    go_ret
    exact ⟨_, rfl, HO.out, HB.out⟩
set_option maxHeartbeats 2000000 in
theorem bConcat_two (A1 A2 : Option Addr) (n1 n2 c1 c2 : Nat) (l1 l2 : List UInt8) (hn1 : l1.length = n1) (hn2 : l2.length = n2) (hbig : n1 + n2 ≤ 140737488355328) (hc1 : A1 = none → c1 = 0) (hc2 : A2 = none → c2 = 0) (g : Nat) (w : World) (hb : Blk w g 24 #[.slice A1 n1 c1, .slice A2 n2 c2]) (h1 : BytsAt w A1 l1) (h2 : BytsAt w A2 l2) :
    Calls Tryz.prog 17 #[.slice (some ⟨g, 0, none⟩) 2 2] w fun e w' => ∃ v, e = .returned v ∧ OwnB w' w.heap.size v (l1 ++ l2) ∧ Below w.heap.size w w' := by
  have N1 := Lib.hid hn1
  have N2 := Lib.hid hn2
  have H1 := Lib.hid h1
  have H2 := Lib.hid h2
  have HB := Lib.hid hb
  have HG := Lib.hid fun W => bGrow_nil (n1 + n2) (by omega) W
  obtain ⟨⟨x0, x1⟩, -⟩ := blk2 hb
  have k1 : n1 ≤ 281474976000000 := by omega
  have k2 : n2 ≤ 281474976000000 := by omega
  clear h1 h2 hb hn1 hn2
  go_enter Tryz.func17, Tryz.ntmps17
  go_wp2_with fail
  go_loop [3, 11] (fun sz i => (i = .int .i64 0 ∧ sz = .int .i64 0) ∨ (i = .int .i64 1 ∧ sz = .int .i64 n1) ∨ (i = .int .i64 2 ∧ sz = .int .i64 (n1 + n2 : Nat))) (fun _ i => 2 - (intOf i).toNat)
  case atStart => exact .inl ⟨rfl, rfl⟩
  case round =>
    rcases hrel with ⟨rfl, rfl⟩ | ⟨rfl, rfl⟩ | ⟨rfl, rfl⟩
    · go_wp2_with fail
      go_round
      case rel => exact .inr (.inl ⟨by go_num, by go_num⟩)
      case measure => simp [intOf]
    · go_wp2_with fail
      go_round
      case rel => exact .inr (.inr ⟨by go_num, by go_num⟩)
      case measure => simp [intOf]
    · go_wp2_with fail
      refine (HG.out _).mono ?_; rintro e w1 ⟨v, rfl, hO, hb⟩
      have HO0 := Lib.hid hO
      have HB0 := Lib.hid hb
      clear hO hb
      go_wp2_with fail
      go_loopw [6, 27] (fun v i wr => ∃ (l : List UInt8), Hid (OwnB wr w.heap.size v l) ∧ Hid (Below w.heap.size w wr) ∧ ((i = .int .i64 0 ∧ l = []) ∨ (i = .int .i64 1 ∧ l = l1) ∨ (i = .int .i64 2 ∧ l = l1 ++ l2))) (fun _ i _ => 2 - (intOf i).toNat)
      case atStart => exact ⟨[], HO0.out, HB0.out, .inl ⟨rfl, rfl⟩⟩
      case round =>
        obtain ⟨l, HO, HW, hc⟩ := hrel
        have hws : w.heap.size ≤ wr.heap.size := HW.out.size
        have hgl := HB.out.lt
        obtain ⟨⟨y0, y1⟩, -⟩ := blk2 (HB.out.below HW.out hgl)
        have HA1 := Lib.hid (H1.out.below HW.out)
        have HA2 := Lib.hid (H2.out.below HW.out)
        clear x0 x1
        rcases hc with ⟨rfl, rfl⟩ | ⟨rfl, rfl⟩ | ⟨rfl, rfl⟩
        · go_wp2_with (at_builtin; refine Stay.go ?_)
          refine Stay.on ?_
          refine append_byts rfl (.tmp 31) (.tmp 32) rfl w.heap.size _ _ rfl HO.out A1 n1 c1 l1 rfl N1.out HA1.out hc1 (by simp; omega) hws ?_
          intro v6 w6 ho6 hb6
          have HO6 : Hid (OwnB w6 w.heap.size v6 l1) := ho6
          have HW6 := Lib.hid (hb6 _ HW.out)
          clear ho6 hb6
          go_wp2_with fail
          go_roundw
          case rel => exact ⟨_, HO6.out, HW6.out, .inr (.inl ⟨by go_num, rfl⟩)⟩
          case measure => simp [intOf]
        · go_wp2_with (at_builtin; refine Stay.go ?_)
          refine Stay.on ?_
          refine append_byts rfl (.tmp 31) (.tmp 32) rfl w.heap.size _ _ rfl HO.out A2 n2 c2 l2 rfl N2.out HA2.out hc2 (by rw [N1.out]; omega) hws ?_
          intro v6 w6 ho6 hb6
          have HO6 := Lib.hid ho6
          have HW6 := Lib.hid (hb6 _ HW.out)
          clear ho6 hb6
          go_wp2_with fail
          go_roundw
          case rel => exact ⟨_, HO6.out, HW6.out, .inr (.inr ⟨by go_num, rfl⟩)⟩
          case measure => simp [intOf]
        · go_wp2_with fail
          go_ret
          exact ⟨_, rfl, HO.out, HW.out⟩
end Go.Proofs.YtepjdiocicmjcaaGreatDoor
