/- Package head: what the writer writes. -/
import Derived.Test.YtjklgadigcobcaaDoorHedW
import Derived.Test.YtjklgadigcobcaaDoorHedA
import Derived.StillTailTactics
import Derived.Deep.DeepCutAuto
set_option linter.unusedVariables false
set_option maxRecDepth 100000
namespace Go.Proofs.YtjklgadigcobcaaDoor
open Go.RowKit
open Go.OpenShut
/-- on the way: the writer has the bytes l and the error er, the header stands at g -/
def St (B b g : Nat) (h : HeadV) (u : World) (er : Int) (l : List UInt8) (n : Nat) (w : World) : Prop :=
  WrB B b er l w ∧ w.heap[g]? = some (.cells (headC h) 25 (0, 0)) ∧ Bel B u w ∧ l.length ≤ 512 * n ∧ B ≤ w.heap.size
theorem St.next {B b g : Nat} {h : HeadV} {u : World} {er er' : Int} {l l' : List UInt8} {n : Nat} {w w' : World} (H : St B b g h u er l n w) (h1 : WrB B b er' (l ++ l') w') (hb : Bel B w w') (hl : l'.length ≤ 512) : St B b g h u er' (l ++ l') (n + 1) w' :=
  ⟨h1, hb.2 _ _ _ H.2.1, H.2.2.1.trans hb, by rw [List.length_append]; have := H.2.2.2.1; omega, by have := H.2.2.2.2; have := hb.1.size; omega⟩
theorem St.drew {B b g : Nat} {h : HeadV} {u : World} {er : Int} {l : List UInt8} {n : Nat} {w : World} (H : St B b g h u er l n w) : St B b g h u er l n w.drew := ⟨H.1, H.2.1, ⟨H.2.2.1.1.drew, H.2.2.1.2⟩, H.2.2.2⟩
theorem St.cell {B b g : Nat} {h : HeadV} {u : World} {er : Int} {l : List UInt8} {n : Nat} {w : World} (H : St B b g h u er l n w) (i : Nat) (v : Value) (hv : (headC h)[i]? = some v) : w.cell? ⟨g, i, none⟩ = some v := by
  rw [Lib.cell_of_heap H.2.1]; exact hv
theorem stText {B b g : Nat} {h : HeadV} {u : World} {er : Int} {l : List UInt8} {n : Nat} {w : World} (H : St B b g h u er l n w) (hn : n ≤ 100) (s : List UInt8) (x : Int) (wh : Bool) (hs : s.length ≤ 140737488351232) :
    Calls Tryd.prog 23 #[.pointer (some ⟨b, 0, none⟩), .string (bs s), .int .i64 x, .bool wh] w fun e w' => e = .returned (.tuple #[]) ∧ St B b g h u (first1 er (fldW s x wh).2) (l ++ fw s x wh) (n + 1) w' := by
  refine (wText B b er l (bs s) x wh w H.1 (by have := H.2.2.2.1; omega) (by rw [bs_size]; unfold maxLen; omega) H.2.2.2.2).mono ?_
  rintro e w' ⟨rfl, h1, hb⟩
  exact ⟨rfl, H.next h1 hb (fw_le _ _ _)⟩
theorem stNumber {B b g : Nat} {h : HeadV} {u : World} {er : Int} {l : List UInt8} {n : Nat} {w : World} (H : St B b g h u er l n w) (hn : n ≤ 100) (v x : Int) :
    Calls Tryd.prog 24 #[.pointer (some ⟨b, 0, none⟩), .int .i64 v, .int .i64 x] w fun e w' => e = .returned (.tuple #[]) ∧ St B b g h u (first1 er (octW v x).2) (l ++ ow v x) (n + 1) w' := by
  refine (wNumber B b er l v x w H.1 (by have := H.2.2.2.1; omega) H.2.2.2.2).mono ?_
  rintro e w' ⟨rfl, h1, hb⟩
  exact ⟨rfl, H.next h1 hb (ow_le _ _)⟩
theorem stString {B b g : Nat} {h : HeadV} {u : World} {er : Int} {l : List UInt8} {n : Nat} {w : World} (H : St B b g h u er l n w) (hn : n ≤ 100) (s : ByteArray) (hs : s.size ≤ 512) :
    Calls Tryd.prog 25 #[.pointer (some ⟨b, 0, none⟩), .string s] w fun e w' => e = .returned (.tuple #[.int .i64 s.size, .nilIface]) ∧ St B b g h u er (l ++ s.data.toList) (n + 1) w' := by
  refine (wWrite B b er (Lib.byteCells l) s w H.1 (by rw [Lib.byteCells_length]; have := H.2.2.2.1; omega) H.2.2.2.2).mono ?_
  rintro e w' ⟨rfl, h1, hb⟩
  exact ⟨rfl, H.next (.inr h1.bytes) hb (by simpa using hs)⟩
theorem stByte {B b g : Nat} {h : HeadV} {u : World} {er : Int} {l : List UInt8} {n : Nat} {w : World} (H : St B b g h u er l n w) (hn : n ≤ 100) (c : UInt8) :
    Calls Tryd.prog 26 #[.pointer (some ⟨b, 0, none⟩), .int .u8 (c.toNat : Int)] w fun e w' => e = .returned .nilIface ∧ St B b g h u er (l ++ [c]) (n + 1) w' := by
  refine (wByte B b er (Lib.byteCells l) (c.toNat : Int) w H.1 (by rw [Lib.byteCells_length]; have := H.2.2.2.1; omega) H.2.2.2.2).mono ?_
  rintro e w' ⟨rfl, h1, hb⟩
  refine ⟨rfl, H.next (.inr ?_) hb (by simp)⟩
  rw [Lib.byteCells_append]; exact h1
def allL (h : HeadV) : List UInt8 := frontH h ++ List.replicate 8 32 ++ backH h

set_option maxHeartbeats 2000000 in
theorem wHead (B b : Nat) (h : HeadV) (w : World) (hB : B ≤ b) (hbk : w.heap[b]? = some (.cells #[.pointer none, .slice none 0 0, .int .i64 0] 45 (0, 0))) (hBw : B ≤ w.heap.size)
    (hn : h.name.length ≤ 140737488351232) (hp : h.pre.length ≤ 140737488351232) (hk : h.link.length ≤ 140737488351232) (hu : h.user.length ≤ 140737488351232) (hg : h.group.length ≤ 140737488351232) :
    Calls Tryd.prog 14 #[.pointer (some ⟨b, 0, none⟩), .agg (headC h)] w fun e w' => e = .returned (.tuple #[]) ∧ WrB B b (firstE (errsH h)) (allL h) w' ∧ Bel B w w' := by
  have hlt : b < w.heap.size := by
    rcases Nat.lt_or_ge b w.heap.size with h' | h'
    · exact h'
    · simp [Array.getElem?_eq_none h'] at hbk
  have hbk0 : (w.alloc (.cells (headC h) 25)).heap[b]? = some (.cells #[.pointer none, .slice none 0 0, .int .i64 0] 45 (0, 0)) := (Lib.alloc_old w _ b hlt).trans hbk
  have hgk : (w.alloc (.cells (headC h) 25)).heap[w.heap.size]? = some (.cells (headC h) 25 (0, 0)) := heap_alloc_new w _
  have hb0 : Bel B w (w.alloc (.cells (headC h) 25)) := ⟨(Below.refl B w).alloc hBw _, Oth.alloc w _⟩
  have HG := Lib.hid (wGrow B b 512 0 _ hB hbk0 (by have := hb0.1.size; omega) (by omega))
  have HK := Lib.hid hgk
  have HB := Lib.hid hb0
  have HW : Hid (B ≤ w.heap.size) := hBw
  clear hbk hbk0 hgk hb0
  go_enter Tryd.func14, Tryd.ntmps14
  go_wp2_with fail
  refine HG.out.mono ?_; rintro e w0 ⟨rfl, h1, hb1⟩
  have H0 : St B b w.heap.size h w 0 [] 0 w0 := ⟨.inr h1, hb1.2 _ _ _ HK.out, HB.out.trans hb1, Nat.zero_le _, by have := HW.out; have := HB.out.1.size; have := hb1.1.size; omega⟩
  clear h1 hb1 HG
  have c0 := H0.cell 0 (.string (bs h.name)) rfl
  go_wp2_with fail
  refine (stText H0 (by omega) h.name 100 true hn).mono ?_; rintro e w1 ⟨rfl, H1⟩
  clear H0 c0
  have c1 := H1.cell 3 (.int .i64 h.mode) rfl
  go_wp2_with fail
  refine (stNumber H1 (by omega) h.mode 8).mono ?_; rintro e w2 ⟨rfl, H2⟩
  clear H1 c1
  have c2 := H2.cell 4 (.int .i64 h.uid) rfl
  go_wp2_with fail
  refine (stNumber H2 (by omega) h.uid 8).mono ?_; rintro e w3 ⟨rfl, H3⟩
  clear H2 c2
  have c3 := H3.cell 5 (.int .i64 h.gid) rfl
  go_wp2_with fail
  refine (stNumber H3 (by omega) h.gid 8).mono ?_; rintro e w4 ⟨rfl, H4⟩
  clear H3 c3
  have c4 := H4.cell 6 (.int .i64 h.size) rfl
  go_wp2_with fail
  refine (stNumber H4 (by omega) h.size 12).mono ?_; rintro e w5 ⟨rfl, H5⟩
  clear H4 c4
  have c5 := H5.cell 7 (.int .i64 h.time) rfl
  go_wp2_with fail
  refine (stNumber H5 (by omega) h.time 12).mono ?_; rintro e w6 ⟨rfl, H6⟩
  clear H5 c5
  go_wp2_with fail
  refine (stString H6 (by omega) ⟨#[32, 32, 32, 32, 32, 32, 32, 32]⟩ (by decide)).mono ?_; rintro e w7 ⟨rfl, H7⟩
  clear H6
  have c7 := H7.cell 8 (.int .u8 (h.typ.toNat : Int)) rfl
  go_upto_region 9 with fail
  go_still_tail 5, (by kernel_rfl)
  change wpList _ _ _ _ _ w7.drew
  go_wp2_with fail
  refine (stByte H7.drew (by omega) h.typ).mono ?_; rintro e w8 ⟨rfl, H8⟩
  clear H7 c7
  have c8 := H8.cell 2 (.string (bs h.link)) rfl
  go_wp2_with fail
  refine (stText H8 (by omega) h.link 100 true hk).mono ?_; rintro e w9 ⟨rfl, H9⟩
  clear H8 c8
  go_wp2_with fail
  refine (stString H9 (by omega) ⟨#[117, 115, 116, 97, 114, 0, 48, 48]⟩ (by decide)).mono ?_; rintro e w10 ⟨rfl, H10⟩
  clear H9
  have c10 := H10.cell 9 (.string (bs h.user)) rfl
  go_wp2_with fail
  refine (stText H10 (by omega) h.user 32 false hu).mono ?_; rintro e w11 ⟨rfl, H11⟩
  clear H10 c10
  have c11 := H11.cell 10 (.string (bs h.group)) rfl
  go_wp2_with fail
  refine (stText H11 (by omega) h.group 32 false hg).mono ?_; rintro e w12 ⟨rfl, H12⟩
  clear H11 c11
  go_wp2_with fail
  refine (stNumber H12 (by omega) 0 8).mono ?_; rintro e w13 ⟨rfl, H13⟩
  clear H12
  go_wp2_with fail
  refine (stNumber H13 (by omega) 0 8).mono ?_; rintro e w14 ⟨rfl, H14⟩
  clear H13
  have c14 := H14.cell 1 (.string (bs h.pre)) rfl
  go_wp2_with fail
  refine (stText H14 (by omega) h.pre 155 true hp).mono ?_; rintro e w15 ⟨rfl, H15⟩
  clear H14 c14
  go_wp2_with fail
  refine (stString H15 (by omega) ⟨#[0, 0, 0, 0, 0, 0, 0, 0, 0, 0, 0, 0]⟩ (by decide)).mono ?_; rintro e w16 ⟨rfl, H16⟩
  clear H15
  go_wp2_with fail
  go_end0
  have key : ∀ (er : Int) (l : List UInt8), er = firstE (errsH h) → l = allL h → WrB B b er l w16 → WrB B b (firstE (errsH h)) (allL h) w16 := fun er l e1 e2 x => e1 ▸ e2 ▸ x
  exact ⟨rfl, key _ _ rfl (by unfold allL frontH backH magicL; simp only [List.nil_append, List.append_assoc]; rfl) H16.1, H16.2.2.1⟩
end Go.Proofs.YtjklgadigcobcaaDoor
