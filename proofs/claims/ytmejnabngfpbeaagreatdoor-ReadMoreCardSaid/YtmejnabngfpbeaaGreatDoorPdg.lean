/- Texts of one kind, in one file: PadE, PadG, Cct. -/
import Derived.Test.YtmejnabngfpbeaaGreatDoorPda
import Derived.Lib.AppendZeros
set_option linter.unusedVariables false
set_option maxRecDepth 100000
namespace Go.Proofs.YtmejnabngfpbeaaGreatDoor
open Go.RowKit
open Go.OpenShut
set_option maxHeartbeats 1000000 in
theorem bGrow_room (n : Nat) (hn : n ≤ 281474976000000) (h0 : n ≠ 0) (w : World) :
  Calls Tryz.prog 39 #[.slice none 0 0, .int .i64 n] w fun e w' => ∃ g G, e = .returned (.slice (some ⟨g, 0, none⟩) 0 G) ∧ n ≤ G ∧ G ≤ 9223372036854775807 ∧ OwnB w' w.heap.size (.slice (some ⟨g, 0, none⟩) 0 G) [] ∧ Below w.heap.size w w' := by
 obtain ⟨i0, hi, hz0, hz1, hz2⟩ := info_parts oinfo_u8
 have hrz : ∀ ty, (Builtin.append_ #[22, 3] ty #[.slice none 0 0, .int .i64 n]).run Tryz.prog w = .ok (.slice (some ⟨w.heap.size, 0, none⟩) n (grownCap w n 0 5)) (w.drew.alloc (.cells (Builtin.zeroCells (Value.int .u8 0).cells n ++ Builtin.zeroCells (Value.int .u8 0).cells (grownCap w n 0 5 - n)) 5)) :=
  fun ty => Lib.run_append_nil_zeros w 22 3 ty 5 i0 _ .i64 .i64 Tryz.underlying22 Tryz.underlying3 hi hz0 n (by omega) (by omega) (by omega) (by rw [hz2]; omega)
 have hG1 : n ≤ grownCap w n 0 5 := grownCap_ge w _ _ _
 have hG2 : grownCap w n 0 5 ≤ maxLen := grownCap_le_maxLen w _ _ _ (by unfold maxLen; omega)
 obtain ⟨G, hG⟩ := hid_name (grownCap w n 0 5)
 rw [hG.out] at hG1 hG2
 simp only [hG.out] at hrz
 obtain ⟨Z, hZ⟩ := hid_name (Builtin.zeroCells (Value.int .u8 0).cells n ++ Builtin.zeroCells (Value.int .u8 0).cells (G - n))
 have hZs : Z.size = G * 1 := by
  rw [← hZ.out, Array.size_append, size_zeroCells, size_zeroCells]
  show n * 1 + (G - n) * 1 = G * 1
  omega
 simp only [hZ.out] at hrz
 have HO : Hid (OwnB (w.drew.alloc (.cells Z 5)) w.heap.size (.slice (some ⟨w.heap.size, 0, none⟩) 0 G) []) :=
  ⟨rfl, .inr ⟨w.heap.size, G, Z, rfl, Nat.le_refl _, heap_alloc_new w.drew _, Nat.zero_le _, hG2, hZs, rfl⟩⟩
 have HB : Hid (Below w.heap.size w (w.drew.alloc (.cells Z 5))) := ((Below.refl w.heap.size w).drew).alloc (Nat.le_refl _) _
 have hG63 : G ≤ 9223372036854775807 := by unfold maxLen at hG2; omega
 clear hZs hG hZ
 go_enter Tryz.func39, Tryz.ntmps39
 go_wp2_with (at_builtin; refine Lib.wpList_append_run _ rfl _ _ _ _ rfl _ _ rfl rfl _ _ (hrz _) ?_)
 go_ret
 exact ⟨_, _, rfl, hG1, hG63, HO.out, HB.out⟩
theorem append_byts_room {w : World} {ops : Array Oper} {rest : List Oper} {o : Oper} {a : Act} {Q : Exit → Act → World → Prop} (hgd : o.guard = none) (s x : Operand)
  (ho : o.op = .call { callee := .builtin .append, args := #[s, x], argTypes := #[22, 22] }) (B g n cap : Nat) (l0 : List UInt8) (hs : a.eval s = .slice (some ⟨g, 0, none⟩) n cap) (hn0 : l0.length = n) (hown : OwnB w B (.slice (some ⟨g, 0, none⟩) n cap) l0)
  (A : Option Addr) (m c : Nat) (l : List UInt8) (hx : a.eval x = .slice A m c) (hl : l.length = m) (hA : BytsAt w A l) (hc : A = none → c = 0) (hroom : n + m ≤ cap) (hB : B ≤ w.heap.size)
  (h : ∀ w', OwnB w' B (.slice (some ⟨g, 0, none⟩) (n + m) cap) (l0 ++ l) → (∀ w0, Below B w0 w → Below B w0 w') → wpList Tryz.prog ops Q rest (a.put o.dst (.slice (some ⟨g, 0, none⟩) (n + m) cap)) w') : wpList Tryz.prog ops Q (o :: rest) a w := by
 obtain ⟨i0, hi, hz0, hz1, hz2⟩ := info_parts oinfo_u8
 cases A with
 | none =>
  obtain rfl := hA.none_nil
  obtain rfl : m = 0 := by rw [← hl]; rfl
  obtain rfl := hc rfl
  refine wpList_append_own_none hgd s x 22 ho B 5 i0 1 Tryz.underlying22 hi (.slice (some ⟨g, 0, none⟩) n cap) _ _ hs hown hx ?_
  exact h w (by rw [List.append_nil]; exact hown) fun _ h => h
 | some ad =>
  have hown' := hown
  unfold OwnB at hown'
  rw [hn0] at hown'
  rcases hown'.2 with ⟨e, -⟩ | ⟨g', cap', cur, e, hbg, hg, hnc, hcm, hcs, htake⟩
  ·cases e
  ·injection e with e1 e2 e3
   injection e1 with e1
   injection e1 with e1 _ _
   subst e1 e3
   have hlb : (bCells l).length = m * 1 := by rw [bCells_length, hl, Nat.mul_one]
   have hl0 : (bCells l0).length = n * 1 := by rw [bCells_length, hn0, Nat.mul_one]
   have hfit : n * 1 + (bCells l).length ≤ cur.size := by rw [hlb, hcs]; omega
   have hr := run_append_room (P := Tryz.prog) w 22 o.type 5 i0 Tryz.underlying22 hi g n cap cur hg ad m c (bCells l) (by rw [hz1]; exact hlb) hA.news (bCells_one _) hroom (by rw [hz1]; exact hfit)
   rw [hz1] at hr
   refine Lib.wpList_append_run w hgd s x 22 22 ho _ _ hs hx _ _ hr (h _ ?_ ?_)
   ·have hlen : (bCells l0 ++ bCells l).length = (n + m) * 1 := by rw [List.length_append, hl0, hlb]; omega
    unfold OwnB
    rw [List.length_append, bCells_append, hl, hn0]
    refine ⟨hlen, .inr ⟨g, cap, _, rfl, hbg, setRow_heap w g cur _ 5 _ hg, hroom, hcm, ?_, ?_⟩⟩
    ·simp only [List.size_toArray, List.length_append, List.length_take, List.length_drop, Array.length_toList]
     omega
    ·rw [htake, ← hlen]
     exact List.take_left
   ·intro w0 hb
    have hgr : w.grownBy (w.setRow g (cur.toList.take (n * 1) ++ bCells l ++ cur.toList.drop (n * 1 + (bCells l).length)).toArray) (some g) := ⟨rfl, rfl, rfl, by simp, fun k hk hne => setRow_other w g k _ (fun e => hne (by rw [e]))⟩
    exact hb.grown hgr hB (fun g0 e => by injection e with e; omega)
set_option maxHeartbeats 4000000 in
theorem bConcat_three (A1 A2 A3 : Option Addr) (n1 n2 n3 c1 c2 c3 : Nat) (l1 l2 l3 : List UInt8) (hn1 : l1.length = n1) (hn2 : l2.length = n2) (hn3 : l3.length = n3) (hbig : n1 + n2 + n3 ≤ 281474976000000) (hpos : n1 + n2 + n3 ≠ 0) (hc1 : A1 = none → c1 = 0) (hc2 : A2 = none → c2 = 0) (hc3 : A3 = none → c3 = 0) (g : Nat) (w : World) (hb : Blk w g 22 #[.slice A1 n1 c1, .slice A2 n2 c2, .slice A3 n3 c3]) (h1 : BytsAt w A1 l1) (h2 : BytsAt w A2 l2) (h3 : BytsAt w A3 l3) :
  Calls Tryz.prog 23 #[.slice (some ⟨g, 0, none⟩) 3 3] w fun e w' => ∃ v, e = .returned v ∧ OwnB w' w.heap.size v (l1 ++ l2 ++ l3) ∧ Below w.heap.size w w' := by
 have N1 := Lib.hid hn1
 have N2 := Lib.hid hn2
 have N3 := Lib.hid hn3
 have H1 := Lib.hid h1
 have H2 := Lib.hid h2
 have H3 := Lib.hid h3
 have HB := Lib.hid hb
 have HG := Lib.hid fun W => bGrow_room (n1 + n2 + n3) hbig hpos W
 have x0 := hb.cell 0
 have x1 := hb.cell 1
 have x2 := hb.cell 2
 simp only [List.getElem?_toArray, List.getElem?_cons_succ, List.getElem?_cons_zero] at x0 x1 x2
 have k1 : n1 ≤ 281474976000000 := by omega
 have k2 : n2 ≤ 281474976000000 := by omega
 have k3 : n3 ≤ 281474976000000 := by omega
 clear h1 h2 h3 hb hn1 hn2 hn3
 go_enter Tryz.func23, Tryz.ntmps23
 go_wp2_with fail
 go_loop [3, 11] (fun sz i => (i = .int .i64 0 ∧ sz = .int .i64 0) ∨ (i = .int .i64 1 ∧ sz = .int .i64 n1) ∨ (i = .int .i64 2 ∧ sz = .int .i64 (n1 + n2 : Nat)) ∨ (i = .int .i64 3 ∧ sz = .int .i64 (n1 + n2 + n3 : Nat))) (fun _ i => 3 - (intOf i).toNat)
 case atStart => exact .inl ⟨rfl, rfl⟩
 case round =>
  rcases hrel with ⟨rfl, rfl⟩ | ⟨rfl, rfl⟩ | ⟨rfl, rfl⟩ | ⟨rfl, rfl⟩
  ·go_wp2_with fail
   go_round
   case rel => exact .inr (.inl ⟨by go_num, by go_num⟩)
   case measure => simp [intOf]
  ·go_wp2_with fail
   go_round
   case rel => exact .inr (.inr (.inl ⟨by go_num, by go_num⟩))
   case measure => simp [intOf]
  ·go_wp2_with fail
   go_round
   case rel => exact .inr (.inr (.inr ⟨by go_num, by go_num⟩))
   case measure => simp [intOf]
  ·go_wp2_with fail
   refine (HG.out _).mono ?_; rintro e w1 ⟨g5, G, rfl, hG1, hG2, hO, hb⟩
   have HO0 := Lib.hid hO
   have HB0 := Lib.hid hb
   clear hO hb HG
   go_wp2_with fail
   go_loopw [6, 27] (fun v i wr => ∃ (l : List UInt8) (n : Nat), v = .slice (some ⟨g5, 0, none⟩) n G ∧ Hid (l.length = n) ∧ Hid (OwnB wr w.heap.size (.slice (some ⟨g5, 0, none⟩) n G) l) ∧ Hid (Below w.heap.size w wr) ∧ ((i = .int .i64 0 ∧ l = [] ∧ n = 0) ∨ (i = .int .i64 1 ∧ l = l1 ∧ n = n1) ∨ (i = .int .i64 2 ∧ l = l1 ++ l2 ∧ n = n1 + n2) ∨ (i = .int .i64 3 ∧ l = l1 ++ l2 ++ l3 ∧ n = n1 + n2 + n3))) (fun _ i _ => 3 - (intOf i).toNat)
   case atStart => exact ⟨[], 0, rfl, rfl, HO0.out, HB0.out, .inl ⟨rfl, rfl, rfl⟩⟩
   case round =>
    obtain ⟨l, n, rfl, HL, HO, HW, hc⟩ := hrel
    have hws : w.heap.size ≤ wr.heap.size := HW.out.size
    have hgl := HB.out.lt
    have HBr := HB.out.below HW.out hgl
    have y0 := HBr.cell 0
    have y1 := HBr.cell 1
    have y2 := HBr.cell 2
    simp only [List.getElem?_toArray, List.getElem?_cons_succ, List.getElem?_cons_zero] at y0 y1 y2
    have HA1 := Lib.hid (H1.out.below HW.out)
    have HA2 := Lib.hid (H2.out.below HW.out)
    have HA3 := Lib.hid (H3.out.below HW.out)
    clear x0 x1 x2 HBr
    rcases hc with ⟨rfl, rfl, rfl⟩ | ⟨rfl, rfl, rfl⟩ | ⟨rfl, rfl, rfl⟩ | ⟨rfl, rfl, rfl⟩
    ·go_wp2_with (at_builtin; refine Stay.go ?_)
     refine Stay.on ?_
     refine append_byts_room rfl (.tmp 31) (.tmp 32) rfl w.heap.size g5 0 G [] rfl rfl HO.out A1 n1 c1 l1 rfl N1.out HA1.out hc1 (by omega) hws ?_
     intro w6 ho6 hb6
     have HO6 : Hid (OwnB w6 w.heap.size (.slice (some ⟨g5, 0, none⟩) n1 G) l1) := by rw [Nat.zero_add] at ho6; exact ho6
     have HW6 := Lib.hid (hb6 _ HW.out)
     clear ho6 hb6
     simp only [Nat.zero_add]
     go_wp2_with fail
     go_roundw
     case rel => exact ⟨_, _, rfl, N1.out, HO6.out, HW6.out, .inr (.inl ⟨by go_num, rfl, rfl⟩)⟩
     case measure => simp [intOf]
    ·go_wp2_with (at_builtin; refine Stay.go ?_)
     refine Stay.on ?_
     refine append_byts_room rfl (.tmp 31) (.tmp 32) rfl w.heap.size g5 _ G _ rfl HL.out HO.out A2 n2 c2 l2 rfl N2.out HA2.out hc2 (by omega) hws ?_
     intro w6 ho6 hb6
     have HO6 := Lib.hid ho6
     have HW6 := Lib.hid (hb6 _ HW.out)
     clear ho6 hb6
     go_wp2_with fail
     go_roundw
     case rel => exact ⟨_, _, rfl, by unfold Hid; rw [List.length_append, N1.out, N2.out], HO6.out, HW6.out, .inr (.inr (.inl ⟨by go_num, rfl, rfl⟩))⟩
     case measure => simp [intOf]
    ·go_wp2_with (at_builtin; refine Stay.go ?_)
     refine Stay.on ?_
     refine append_byts_room rfl (.tmp 31) (.tmp 32) rfl w.heap.size g5 _ G _ rfl HL.out HO.out A3 n3 c3 l3 rfl N3.out HA3.out hc3 (by omega) hws ?_
     intro w6 ho6 hb6
     have HO6 := Lib.hid ho6
     have HW6 := Lib.hid (hb6 _ HW.out)
     clear ho6 hb6
     go_wp2_with fail
     go_roundw
     case rel => exact ⟨_, _, rfl, by unfold Hid; rw [List.length_append, List.length_append, N1.out, N2.out, N3.out], HO6.out, HW6.out, .inr (.inr (.inr ⟨by go_num, rfl, rfl⟩))⟩
     case measure => simp [intOf]
    ·go_wp2_with fail
     go_ret
     exact ⟨_, rfl, HO.out, HW.out⟩
end Go.Proofs.YtmejnabngfpbeaaGreatDoor
