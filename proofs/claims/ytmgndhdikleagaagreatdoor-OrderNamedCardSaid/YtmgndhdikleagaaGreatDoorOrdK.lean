/- The property OrderAll. -/
import Derived.Test.YtmgndhdikleagaaGreatDoorKep
import Derived.Test.YtmgndhdikleagaaGreatDoorOrd
import Derived.Test.YtmgndhdikleagaaGreatDoorSplB
import Derived.Test.YtmgndhdikleagaaGreatDoorRaw
set_option linter.unusedVariables false
set_option maxRecDepth 100000
namespace Go.Proofs.YtmgndhdikleagaaGreatDoor
open Go.RowKit
open Go.OpenShut
/-- the row of strings, what may be read of it -/
theorem Texts.room {w : World} {B n cap : Nat} {A : Option Addr} {ls : List (List UInt8)} (h : Texts w B (.slice A n cap) ls) (hn : ls.length = n) : n ≤ cap ∧ cap ≤ maxLen ∧ ∀ j, j < n → ∃ g, A = some ⟨g, 0, none⟩ ∧ g < w.heap.size ∧ ∀ i, i < n → w.cell? ⟨g, i, none⟩ = some (strV (ls.getD i [])) := by
  subst hn
  have h' := h
  unfold Texts World.ownsRow at h
  rcases h.2 with ⟨e, h0⟩ | ⟨g, cap', cur, e, hB, hg, hcap, hm, hs, ht⟩
  · injection e with e1 e2 e3
    subst e1 e3
    rw [e2]
    exact ⟨Nat.zero_le _, by decide, fun j hj => by omega⟩
  · injection e with e1 e2 e3
    subst e1 e3
    refine ⟨hcap, hm, fun j hj => ⟨g, rfl, (World.ownsRow.lt h' g rfl).2, fun i hi => h'.cell rfl i hi⟩⟩
theorem sm_tree : treeE [smA, smB, smC] = 0 := by decide +kernel
theorem ahead {l : List NodeV} (h : Rises l) {i j : Nat} (hi : i < l.length) (hj : j < l.length) (hlt : pcmp l[i].path l[j].path < 0) : i < j := by
  rcases Nat.lt_trichotomy i j with h1 | h1 | h1
  · exact h1
  · subst h1; rw [pcmp_self] at hlt; omega
  · have := rises_get h j i hj hi h1
    have := pcmp_neg l[i].path l[j].path
    omega
/-- is a path among those that stand ahead? -/
theorem none_ahead {l : List NodeV} (h : Rises l) {j : Nat} (hj : j < l.length) : Lib.containsS (((l.map (·.path)).map fun p => (⟨p.toArray⟩ : ByteArray)).take j) ⟨l[j].path.toArray⟩ = false := by
  rcases e : Lib.containsS (((l.map (·.path)).map fun p => (⟨p.toArray⟩ : ByteArray)).take j) ⟨l[j].path.toArray⟩ with _ | _
  · exact e
  · exfalso
    rw [Lib.containsS_iff] at e
    obtain ⟨i, hi, hx⟩ := List.mem_take_iff_getElem.1 e
    have hil : i < l.length := by simp at hi; omega
    have hij : i < j := by omega
    rw [List.getElem_map, List.getElem_map] at hx
    have hp : l[i].path = l[j].path := by
      have := congrArg (fun b : ByteArray => b.data.toList) hx
      simpa using this
    have := rises_get h i j hil hj hij
    rw [hp] at this
    exact plt_irr _ this
theorem up_ahead {l : List NodeV} (h : Sound l) {j : Nat} (hj : j < l.length) (hu : upL l[j].path ≠ []) : Lib.containsS (((l.map (·.path)).map fun p => (⟨p.toArray⟩ : ByteArray)).take j) ⟨(upL l[j].path).toArray⟩ = true := by
  rw [Lib.containsS_iff]
  rcases h.up l[j] (List.getElem_mem hj) with e | ⟨y, hy, e, -⟩
  · exact absurd e hu
  · obtain ⟨i, hi, rfl⟩ := List.getElem_of_mem hy
    have hin := in_up (h.ne (List.getElem_mem hj))
    rw [← e] at hin
    have hij := ahead h.rises hi hj (pcmp_in hin)
    refine List.mem_take_iff_getElem.2 ⟨i, by simp; omega, ?_⟩
    rw [List.getElem_map, List.getElem_map, e]
theorem Walk_ok (T : Option Addr) (n d : Nat) (l : List NodeV) (hl : l.length = n) (hs : SlOk T n d) (hsd : Sound l) (h40 : n ≤ 40) (hsz : ∀ x ∈ l, x.sz) (W : World) (hA : NodesAt W T l) :
    Calls Tryz.prog 7 #[.slice T n d] W fun e w' => ∃ (V : Option Addr) (c : Nat), e = .returned (.tuple #[.slice V n c, .int .i64 0]) ∧ Texts w' W.heap.size (.slice V n c) (l.map (·.path)) ∧ Below W.heap.size W w' := by
  have h0 := sound_tree hsd (by omega)
  have := Walk_any T n d l hl hs hsz W hA
  rw [h0, walkR_ok h0] at this
  refine this.mono ?_
  rintro e w' ⟨v, rfl, hT, hb⟩
  obtain ⟨V, c, rfl, -⟩ := hT.any
  rw [List.length_map, hl] at hT ⊢
  exact ⟨V, c, rfl, hT, hb⟩
set_option maxHeartbeats 8000000 in
theorem OrderAll_walk (A0 : Option Addr) (n0 c0 : Nat) (rs0 : List RawV) (hn0 : rs0.length = n0) (hm0 : n0 ≤ 140737488355328) (hf0 : ∀ r ∈ rs0, r.wf) (w : World) (hr0 : RawsAt w A0 rs0) :
    Calls Tryz.prog 3 #[.slice A0 n0 c0] w fun e w' => e = .returned (.bool true) ∧ Below w.heap.size w w' := by
  have HT := Lib.hid (drawn_any A0 n0 c0 rs0 hn0 hm0 hf0 30 (by decide) w hr0)
  clear hn0 hm0 hf0 hr0
  go_enter Tryz.func3, Tryz.ntmps3
  go_wp2_with fail
  refine HT.out.mono ?_; rintro e wa ⟨l, T, n, d, rfl, hl, -, hs, hat, h30, hsd, hsz, hb⟩
  have HA := Lib.hid hat
  have HL := Lib.hid hl
  have HSD := Lib.hid hsd
  have HB := Lib.hid hb
  have HWk := Lib.hid (Walk_ok T n d l hl hs hsd (by omega) hsz wa hat)
  have HF : Hid (∀ (q : List UInt8) (W : World), NodesAt W T l → Calls Tryz.prog 12 #[.slice T n d, .string ⟨q.toArray⟩] W fun e w' => e = .returned (if findL l q < n then .tuple #[.int .i64 (findL l q : Nat), .int .i64 0] else .tuple #[.int .i64 0, .int .i64 5]) ∧ Below W.heap.size W w') := fun q W h => Find_any T n d l (⟨q.toArray⟩ : ByteArray) hl (by omega) hsz W h
  clear hat hl hs hsd hsz hb HT
  go_wp2_with fail
  refine HWk.out.mono ?_; rintro e wb ⟨V, cv, rfl, hT, hb⟩
  have HB1 := Lib.hid (HB.out.trans (hb.mono HB.out.size))
  have HA1 := Lib.hid (HA.out.below hb)
  have HT1 := Lib.hid hT
  clear hb hT HWk HB HA
  go_wp2_with fail
  refine (small_any _).mono ?_; rintro e wc ⟨g, rfl, hsm, hb⟩
  have HB2 := Lib.hid (HB1.out.trans (hb.mono HB1.out.size))
  have HA2 := Lib.hid (HA1.out.below hb)
  have HT2 := Lib.hid (HT1.out.below hb)
  have HWs := Lib.hid (Walk_ok (some ⟨g, 0, none⟩) 3 3 [smA, smB, smC] rfl ⟨Nat.le_refl _, by decide, fun e => by cases e⟩ ((treeE_zero _).1 sm_tree).2 (by decide) sm_sz wc hsm)
  clear hb hsm HB1 HA1 HT1
  go_wp2_with fail
  refine HWs.out.mono ?_; rintro e wd ⟨V2, cv2, rfl, hTs, hb⟩
  have HB3 := Lib.hid (HB2.out.trans (hb.mono HB2.out.size))
  have HA3 := Lib.hid (HA2.out.below hb)
  have HT3 := Lib.hid (HT2.out.below hb)
  have HE : Hid (∀ (o : Obj), o = .cells #[.string ⟨#[97]⟩, .string ⟨#[97, 47, 98]⟩, .string ⟨#[99]⟩] 9 → Calls Tryz.prog 9 #[.slice V2 3 cv2, .slice (some ⟨wd.heap.size, 0, none⟩) 3 3] (wd.alloc o) fun e w' => e = .returned (.bool true) ∧ Below (wd.alloc o).heap.size (wd.alloc o) w') := by
    rintro o rfl
    obtain ⟨g2, e2, -, hc2⟩ := (hTs.room (n := 3) rfl).2.2 0 (by decide)
    have hT4 := hTs.below (belowA (Below.refl wd.heap.size wd) (.cells #[.string ⟨#[97]⟩, .string ⟨#[97, 47, 98]⟩, .string ⟨#[99]⟩] 9))
    have hBk := Blk.new wd 9 #[.string ⟨#[97]⟩, .string ⟨#[97, 47, 98]⟩, .string ⟨#[99]⟩]
    have := Equal_any V2 (some ⟨wd.heap.size, 0, none⟩) cv2 3 [[97], [97, 47, 98], [99]] [[97], [97, 47, 98], [99]] (wd.alloc (.cells #[.string ⟨#[97]⟩, .string ⟨#[97, 47, 98]⟩, .string ⟨#[99]⟩] 9)) (by decide) (by decide) (fun j hj => by
      obtain ⟨g5, e5, -, hc5⟩ := (hT4.room (n := 3) rfl).2.2 0 (by decide)
      exact ⟨g5, e5, hc5 j hj⟩) (fun j hj => ⟨wd.heap.size, rfl, by
        rw [hBk.cell]
        match j, hj with
        | 0, _ => rfl
        | 1, _ => rfl
        | 2, _ => rfl⟩)
    refine this.mono ?_
    rintro e w' ⟨rfl, q, rfl⟩
    exact ⟨rfl, drewN_below (Below.refl _ _) _⟩
  clear hb hTs HB2 HA2 HT2 HWs
  have hroom := (HT3.out.room (by rw [List.length_map]; exact HL.out)).1
  have hroom2 := (HT3.out.room (by rw [List.length_map]; exact HL.out)).2.1
  have HB4 := Lib.hid fun o => belowA HB3.out o
  have HA4 := Lib.hid fun o => HA3.out.below (belowA (Below.refl wd.heap.size wd) o)
  have HT4 := Lib.hid fun o => HT3.out.below (belowA (Below.refl wd.heap.size wd) o)
  go_wp2_with fail
  refine (HE.out _ rfl).mono ?_; rintro e we ⟨rfl, hb⟩
  have HB5 := Lib.hid ((HB4.out _).trans (hb.mono (HB4.out _).size))
  have HA5 := Lib.hid ((HA4.out _).below hb)
  have HT5 := Lib.hid ((HT4.out _).below hb)
  clear hb HB3 HA3 HT3 HB4 HA4 HT4 HE
  go_wp2_with fail
  go_loopw [44] (fun iv wr => ∃ j : Nat, j ≤ n ∧ iv = .int .i64 j ∧ Hid (Below we.heap.size we wr)) (fun iv _ => n - (intOf iv).toNat)
  case atStart => exact ⟨0, Nat.zero_le _, rfl, Below.refl _ _⟩
  case round =>
    obtain ⟨j, hj, rfl, HBr⟩ := hrel
    by_cases hlt : j < n
    · have hjl : j < l.length := by rw [HL.out]; exact hlt
      obtain ⟨gv, e, hgl, hc⟩ := (HT5.out.room (by rw [List.length_map]; exact HL.out)).2.2 j hlt
      subst e
      have hlenp : (l.map (·.path)).length = n := by rw [List.length_map]; exact HL.out
      have eg : (l.map (·.path)).getD j [] = l[j].path := by
        rw [List.getD_eq_getElem?_getD, List.getElem?_eq_getElem (by rw [hlenp]; exact hlt), List.getElem_map]; rfl
      have c0 : wr.cell? ⟨gv, j, none⟩ = some (.string ⟨l[j].path.toArray⟩) := by
        have := (HBr.out.cell (p := ⟨gv, j, none⟩) hgl).trans (hc j hlt)
        rw [eg] at this; exact this
      have HCn : Hid (∀ (x : ByteArray) (W : World), Below we.heap.size we W → Calls Tryz.prog 11 #[.slice (some ⟨gv, 0, none⟩) j cv, .string x] W fun e w' => e = .returned (.bool (Lib.containsS (((l.map (·.path)).map fun p => (⟨p.toArray⟩ : ByteArray)).take j) x)) ∧ W = w') := fun x W hW => by
        have := Tryz.slices_Contains_string gv 0 j cv ((l.map (·.path)).map fun p => (⟨p.toArray⟩ : ByteArray)) x W (by rw [List.length_map, hlenp]; omega) (by omega) (fun i hi => by
          rw [List.length_map, hlenp] at hi
          rw [strs_get _ _ (by rw [hlenp]; exact hi), Nat.zero_add]
          exact (hW.cell (p := ⟨gv, i, none⟩) hgl).trans (hc i hi))
        exact this.mono fun e w' ⟨a, b⟩ => ⟨a, b.symm⟩
      have HC1 := Lib.hid fun W hW => HCn.out ⟨l[j].path.toArray⟩ W hW
      rw [none_ahead HSD.out.rises hjl] at HC1
      have HC2 : Hid (upL l[j].path ≠ [] → ∀ W, Below we.heap.size we W → Calls Tryz.prog 11 #[.slice (some ⟨gv, 0, none⟩) j cv, .string ⟨(upL l[j].path).toArray⟩] W fun e w' => e = .returned (.bool true) ∧ W = w') := fun hu W hW => by
        have := HCn.out ⟨(upL l[j].path).toArray⟩ W hW
        rw [up_ahead HSD.out hjl hu] at this; exact this
      have HFj : Hid (∀ W, NodesAt W T l → ∃ f : Nat, Calls Tryz.prog 12 #[.slice T n d, .string ⟨l[j].path.toArray⟩] W fun e w' => e = .returned (.tuple #[.int .i64 f, .int .i64 0]) ∧ Below W.heap.size W w') := fun W hW => by
        have := HF.out l[j].path W hW
        have h2 := (findL_mem HSD.out.rises (List.getElem_mem hjl)).1
        rw [if_pos (by have := HL.out; omega)] at this
        exact ⟨_, this⟩
      have hps := path_max HSD.out (List.getElem_mem hjl)
      have HU := Lib.hid fun W => Up_any (bs l[j].path) W (by omega)
      rw [bs_list] at HU
      generalize l[j].path = p at *
      have e1 : bs p = ⟨p.toArray⟩ := rfl
      rw [e1] at HU
      have hup : ((⟨(upL p).toArray⟩ : ByteArray).toList == []) = decide (upL p = []) := by rw [ByteArray.toList_eq]; cases upL p <;> rfl
      obtain ⟨P, hP⟩ := hid_name (⟨p.toArray⟩ : ByteArray)
      obtain ⟨U, hU⟩ := hid_name (⟨(upL p).toArray⟩ : ByteArray)
      rw [hP.out] at HU c0 HC1 HFj
      rw [hU.out] at HU HC2 hup
      have hjn : j ≤ n := hj
      clear hjl hc hlenp eg HCn hps e1 hP
      by_cases hu : upL p = []
      · have hu1 : U.toList = [] := by rw [← hU.out, hu, ByteArray.toList_eq]
        clear hup HC2 hU hu
        go_wp2_with fail
        refine (HU.out _).mono ?_; rintro e w1 ⟨rfl, hb⟩
        have HB1 := Lib.hid (HBr.out.trans (hb.mono HBr.out.size))
        clear hb c0
        go_wp2_with fail
        refine (HC1.out _ HB1.out).mono ?_; rintro e w2 ⟨rfl, rfl⟩
        go_wp2_with fail
        obtain ⟨f, HFw⟩ := HFj.out _ (HA5.out.below HB1.out)
        refine HFw.mono ?_; rintro e w3 ⟨rfl, hb⟩
        have HB3 := Lib.hid (HB1.out.trans (hb.mono HB1.out.size))
        clear hb HFw
        go_wp2_with fail
        go_roundw
        case rel => exact ⟨j + 1, by omega, by go_num, HB3.out⟩
        case measure => simp [intOf]; omega
      · have HC2' := Lib.hid (HC2.out hu)
        have hu1 : ¬ U.toList = [] := by
          intro e
          apply hu
          have h1 := congrArg ByteArray.toList hU.out
          rw [e, ByteArray.toList_eq] at h1
          simpa using h1
        have hu2 : U.toList.isEmpty = false := by cases h : U.toList with
          | nil => exact absurd h hu1
          | cons => rfl
        clear hup HC2 hU hu
        go_wp2_with fail
        refine (HU.out _).mono ?_; rintro e w1 ⟨rfl, hb⟩
        have HB1 := Lib.hid (HBr.out.trans (hb.mono HBr.out.size))
        clear hb c0
        go_wp2_with fail
        refine (HC1.out _ HB1.out).mono ?_; rintro e w2 ⟨rfl, rfl⟩
        go_wp2_with fail
        refine (HC2'.out _ HB1.out).mono ?_; rintro e w2 ⟨rfl, rfl⟩
        go_wp2_with fail
        obtain ⟨f, HFw⟩ := HFj.out _ (HA5.out.below HB1.out)
        refine HFw.mono ?_; rintro e w3 ⟨rfl, hb⟩
        have HB3 := Lib.hid (HB1.out.trans (hb.mono HB1.out.size))
        clear hb HFw
        go_wp2_with fail
        go_roundw
        case rel => exact ⟨j + 1, by omega, by go_num, HB3.out⟩
        case measure => simp [intOf]; omega
    · go_wp2_with fail
      go_ret
      exact ⟨rfl, HB5.out.trans (HBr.out.mono HB5.out.size)⟩
end Go.Proofs.YtmgndhdikleagaaGreatDoor
