/- Texts of one kind, in one file: PthA, PrtA. -/
import Derived.Test.YtepjdiocicmjcaaGreatDoorMth
import Derived.BigQuiet
import Derived.Deep.QuietTactic
import Derived.WalkLawsBesides
import Derived.IntWalk
import Derived.WalkSmall
import Derived.Below
import Derived.Laws.OwnMore
import Derived.Laws.AppendOwn
import Derived.Deep.AppendLies
import Derived.StillTailTactics
import Derived.OwnWalk
/- Contracts of the comparing of paths. -/
set_option linter.unusedVariables false
set_option maxRecDepth 100000
namespace Go.Proofs.YtepjdiocicmjcaaGreatDoor
open Go.RowKit
open Go.OpenShut
theorem toList_nil {s : ByteArray} (h : s.data.toList = []) : s.toList = [] := by rw [ByteArray.toList_eq]; exact h
theorem toList_ne {s : ByteArray} (h : s.data.toList ≠ []) : s.toList.isEmpty = false := by
  rw [ByteArray.toList_eq, ← Bool.not_eq_true, List.isEmpty_iff]; exact h
theorem str_eqL (a b : ByteArray) : (a.toList == b.toList) = decide (a.data.toList = b.data.toList) := by
  rw [ByteArray.toList_eq, ByteArray.toList_eq, Bool.eq_iff_iff, beq_iff_eq, decide_eq_true_eq]
theorem byte_eq (b c : UInt8) : ((b.toNat : Int) == (c.toNat : Int)) = decide (b = c) := by
  rw [Bool.eq_iff_iff, beq_iff_eq, decide_eq_true_eq]
  exact ⟨fun e => UInt8.toNat_inj.1 (by omega), fun e => by rw [e]⟩
end Go.Proofs.YtepjdiocicmjcaaGreatDoor
/- Contracts of the reference's parts of a text. -/
set_option linter.unusedVariables false
set_option maxRecDepth 100000
namespace Go.Proofs.YtepjdiocicmjcaaGreatDoor
open Go.RowKit
open Go.OpenShut
theorem drewN_below {B : Nat} {a w : World} (h : Below B a w) (n : Nat) : Below B a (w.drewN n) := ⟨h.os, h.tape, h.output, h.size, h.block⟩
theorem info_str : (Tryz.prog.info? 9).map (fun i => (i.zero, i.size, i.bytes)) = some (some (.string ⟨#[]⟩), 1, 16) := by kernel_rfl
/-- the slice value v is a list of texts, of the call's own from block B on -/
def Texts (w : World) (B : Nat) (v : Value) (ls : List (List UInt8)) : Prop := w.ownsRow B 9 1 v ls.length (strC ls)
theorem Texts.form {w : World} {B : Nat} {v : Value} {ls : List (List UInt8)} (h : Texts w B v ls) (hn : 1 ≤ ls.length) : ∃ g cap, v = .slice (some ⟨g, 0, none⟩) ls.length cap ∧ B ≤ g ∧ g < w.heap.size := World.ownsRow.form h hn
theorem Texts.cell {w : World} {B g cap n : Nat} {ls : List (List UInt8)} (h : Texts w B (.slice (some ⟨g, 0, none⟩) n cap) ls) (hn : ls.length = n) (j : Nat) (hj : j < n) : w.cell? ⟨g, j, none⟩ = some (strV (ls.getD j [])) := by
  subst hn
  unfold Texts at h
  rw [h.cellAt j (by omega), strC_get _ _ hj]
theorem grown_below {a w : World} (h : Below a.heap.size a w) (row : Option Nat) : a.grownBy w row := ⟨h.os, h.tape, h.output, h.size, fun i hi _ => h.block i hi⟩
theorem Texts.below {w w' : World} {B : Nat} {v : Value} {ls : List (List UInt8)} (h : Texts w B v ls) (hb : Below w.heap.size w w') : Texts w' B v ls :=
  World.ownsRow.kept h (grown_below hb none) (by
    by_cases e : v.ownBlock = none
    · exact .inl e
    · exact .inr e)
theorem Texts.drewN {w : World} {B : Nat} {v : Value} {ls : List (List UInt8)} (h : Texts w B v ls) (n : Nat) : Texts (w.drewN n) B v ls := h.below (drewN_below (Below.refl _ _) n)
theorem Texts.nil (w : World) (B : Nat) : Texts w B (.slice none 0 0) [] := World.ownsRow_nil w B 9 1
theorem Texts.any {w : World} {B : Nat} {v : Value} {ls : List (List UInt8)} (h : Texts w B v ls) : ∃ A cap, v = .slice A ls.length cap ∧ (∀ j, j < ls.length → ∃ g, A = some ⟨g, 0, none⟩ ∧ B ≤ g ∧ g < w.heap.size ∧ w.cell? ⟨g, j, none⟩ = some (strV (ls.getD j []))) := by
  by_cases hn : 1 ≤ ls.length
  · obtain ⟨g, cap, rfl, hB, hlt⟩ := h.form hn
    exact ⟨_, cap, rfl, fun j hj => ⟨g, rfl, hB, hlt, h.cell rfl j hj⟩⟩
  · have h0 : ls.length = 0 := by omega
    have h' := h
    unfold Texts World.ownsRow at h'
    rcases h'.2 with ⟨rfl, _⟩ | ⟨g, cap, cur, rfl, _⟩
    · exact ⟨none, 0, by rw [h0], fun j hj => by omega⟩
    · exact ⟨_, cap, rfl, fun j hj => by omega⟩
theorem add_byte (l : List UInt8) (s : ByteArray) (k : Nat) (h : k < s.size) : Value.string ((⟨l.toArray⟩ : ByteArray) ++ s.extract k (k + 1)) = strV (l ++ [s[k]]) := by
  have : s.extract k (k + 1) = ⟨[s[k]].toArray⟩ := by
    apply ByteArray.ext; apply Array.toList_inj.1
    rw [ByteArray.data_extract, Array.toList_extract]
    simp only [List.extract, Nat.add_sub_cancel_left]
    rw [List.drop_eq_getElem_cons (by simpa using h), List.take_succ_cons, List.take_zero]; rfl
  rw [this, str_app]; rfl
set_option maxHeartbeats 1000000 in
theorem parts_any (s : ByteArray) (c : Int) (b : UInt8) (w : World) (hs : s.size ≤ 8000000000000) (hc : (b.toNat : Int) = c) :
    Calls Tryz.prog 158 #[.string s, .int .u8 c] w fun e w' => ∃ v, e = .returned v ∧ Texts w' w.heap.size v (partsL b s.data.toList) ∧ Below w.heap.size w w' := by
  subst hc
  have hb := u8_lt b
  obtain ⟨i0, hi, hz0, hz1, hz2⟩ := info_parts info_str
  go_enter Tryz.func158, Tryz.ntmps158
  go_wp2
  have ho := World.ownsRow_lit (e := 9) (size := 1) w #[.string ⟨#[]⟩] 1 (Nat.le_refl _) (by decide) rfl
  go_loopw [5, 6] (fun v i wr => ∃ k n g cap : Nat, i = .int .i64 k ∧ v = .slice (some ⟨g, 0, none⟩) n cap ∧ k ≤ s.size ∧ 1 ≤ n ∧ n ≤ k + 1 ∧ w.heap.size ≤ g ∧ Hid ((partsL b (s.data.toList.take k)).length = n) ∧
      Hid (Texts wr w.heap.size (.slice (some ⟨g, 0, none⟩) n cap) (partsL b (s.data.toList.take k))) ∧ Hid (Below w.heap.size w wr)) (fun _ i _ => s.size - (intOf i).toNat)
  case atStart => exact ⟨0, 1, _, _, rfl, rfl, Nat.zero_le _, Nat.le_refl _, by omega, Nat.le_refl _, rfl, ho, (Below.refl _ _).alloc (Nat.le_refl _) _⟩
  case round =>
    obtain ⟨k, n, g, cap, rfl, rfl, hk, hn1, hn2, hg, HN, HT, HB⟩ := hrel
    clear ho
    by_cases hlt : k < s.size
    · have hq := byte_eq s[k] b
      have HS := Lib.hid (take_snoc s k hlt)
      have hBw : w.heap.size ≤ wr.heap.size := HB.out.size
      by_cases he : s[k] = b
      · rw [decide_eq_true he] at hq
        have HP : Hid (partsL b (s.data.toList.take (k + 1)) = partsL b (s.data.toList.take k) ++ [[]]) := by
          unfold Hid; rw [HS.out, he, partsL_snoc_eq]
        clear he
        have hT : wr.ownsRow w.heap.size 9 1 (.slice (some ⟨g, 0, none⟩) n cap) n (strC (partsL b (s.data.toList.take k))) := by have := HT.out; unfold Texts at this; rwa [HN.out] at this
        have HO := Lib.hid hT
        clear hT
        go_wp2_with (at_builtin; refine wpList_append_lies _ rfl (.tmp 19) (.tmp 20) 77 rfl w.heap.size 9 i0 _ 1 16 Tryz.underlying77 hi hz0 hz1 hz2 rfl (by decide) (.slice (some ⟨g, 0, none⟩) n cap) n _ rfl (HO.out.alloc _) ⟨wr.heap.size, 0, none⟩ 1 1 [.string ⟨#[]⟩] rfl rfl (World.news_of_block (cs := #[.string ⟨#[]⟩]) (t := 9) (fr := (0, 0)) (heap_alloc_new wr _)) (by simp [Value.oneCell']) (by omega) (by unfold maxLen; omega) (by omega) (by simp; omega) (wr.heap.size + 1) (by simp) ?_; intro g' cap' w1 hown1 hgrow1 hat1 hlt1)
        have hBg : w.heap.size ≤ g' := (hown1.lt g' rfl).1
        have HB1 : Hid (Below w.heap.size w w1) := (HB.out.alloc hBw _).grown hgrow1 (by simp; omega) (fun k hk => by cases hk; exact hg)
        have HT1 : Hid (Texts w1 w.heap.size (.slice (some ⟨g', 0, none⟩) (n + 1) cap') (partsL b (s.data.toList.take (k + 1)))) := by
          unfold Hid Texts; rw [HP.out, List.length_append, HN.out, strC_app]; exact hown1
        have HN1 : Hid ((partsL b (s.data.toList.take (k + 1))).length = n + 1) := by unfold Hid; rw [HP.out, List.length_append, HN.out]; rfl
        clear hown1 hgrow1 hat1 hlt1
        go_roundw
        case rel => exact ⟨k + 1, n + 1, g', cap', by go_num, rfl, by omega, by omega, by omega, hBg, HN1, HT1, HB1⟩
        case measure => simp [intOf]; omega
      · rw [decide_eq_false he] at hq
        have HP : Hid (partsL b (s.data.toList.take (k + 1)) = lastSnoc s[k] (partsL b (s.data.toList.take k))) := by
          unfold Hid; rw [HS.out, partsL_snoc_ne _ _ _ he]
        clear he
        have hT : wr.ownsRow w.heap.size 9 1 (.slice (some ⟨g, 0, none⟩) n cap) n (strC (partsL b (s.data.toList.take k))) := by have := HT.out; unfold Texts at this; rwa [HN.out] at this
        have HO := Lib.hid hT
        clear hT
        have hcell : wr.cell? ⟨g, n - 1, none⟩ = some (.string ⟨((partsL b (s.data.toList.take k)).getD (n - 1) []).toArray⟩) := HT.out.cell HN.out (n - 1) (by omega)
        have htl : (⟨((partsL b (s.data.toList.take k)).getD (n - 1) []).toArray⟩ : ByteArray).size ≤ 8000000000000 := by
          have := partsL_getD b (s.data.toList.take k) (n - 1)
          rw [List.length_take] at this
          have h2 : s.data.toList.length = s.size := by simp
          rw [size_mk]; omega
        have hxs : (s.extract k (k + 1)).size ≤ 1 := by rw [ByteArray.size_extract]; omega
        obtain ⟨t, Ht⟩ := hid_name (⟨((partsL b (s.data.toList.take k)).getD (n - 1) []).toArray⟩ : ByteArray)
        rw [Ht.out] at hcell htl
        have hfro := HO.out.frozenAt (n - 1)
        have b0 : (0 : Int) ≤ (n : Int) - 1 := by omega
        have b0' : (1 : Int) ≤ (n : Int) := by omega
        have b1 : (n : Int) - 1 < (n : Int) := by omega
        have b2 : IntKind.i64.wrap ((n : Int) - 1) = (n : Int) - 1 := IntWalk.i64_in _ (by omega)
        have b7 : ((n : Int) - 1).toNat = n - 1 := by omega
        have b3 : (0 : Int) ≤ (k : Int) := by omega
        have b4 : (k : Int) ≤ (k : Int) + 1 := by omega
        have b5 : (k : Int) + 1 ≤ (s.size : Int) := by omega
        have b6 : IntKind.i64.wrap ((k : Int) + 1) = (k : Int) + 1 := IntWalk.i64_in _ (by omega)
        have b8 : ((k : Int) + 1).toNat = k + 1 := by omega
        go_wp2
        have hadd := fun W => run_string_add_sum (P := Tryz.prog) (w := W) t (s.extract k (k + 1)) (by omega)
        go_still_tail 13, (by kernel_rfl)
        change wpList _ _ _ _ _ wr.drew
        go_wp2
        have hl : (partsL b (s.data.toList.take k)).length = (n - 1) + 1 := by have := HN.out; omega
        have HN1 : Hid ((partsL b (s.data.toList.take (k + 1))).length = n) := by
          unfold Hid; rw [HP.out, lastSnoc_set _ _ (n - 1) hl, List.length_set]; exact HN.out
        have HT1 : Hid (Texts (wr.setCell ⟨g, n - 1, none⟩ (.string (t ++ s.extract k (k + 1)))).drew w.heap.size (.slice (some ⟨g, 0, none⟩) n cap) (partsL b (s.data.toList.take (k + 1)))) := by
          unfold Hid Texts
          rw [HN1.out, HP.out, lastSnoc_set _ _ (n - 1) hl, ← strC_set, ← add_byte _ s k hlt, Ht.out]
          exact (HO.out.stored (n - 1) _).1.drew
        have HB1 : Hid (Below w.heap.size w (wr.setCell ⟨g, n - 1, none⟩ (.string (t ++ s.extract k (k + 1)))).drew) := (HB.out.setCell hg _).drew
        clear hl hadd
        go_roundw
        case rel => exact ⟨k + 1, n, g, cap, by go_num, rfl, by omega, by omega, by omega, hg, HN1, HT1, HB1⟩
        case measure => simp [intOf]; omega
    · obtain rfl : k = s.size := by omega
      have hfin : s.data.toList.take s.size = s.data.toList := by
        have h2 : s.data.toList.length = s.size := by simp
        rw [← h2, List.take_length]
      have HT1 := HT.out
      rw [hfin] at HT1
      have HT2 := Lib.hid HT1
      clear hfin HT1
      go_wp2
      go_ret
      exact ⟨_, rfl, HT2.out, HB.out⟩
end Go.Proofs.YtepjdiocicmjcaaGreatDoor
