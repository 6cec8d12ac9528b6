/- Package pax: Read; the reference's. -/
import Derived.Test.YtilofjaigpngoaaDoorPaxD
import Derived.OwnWalk
set_option linter.unusedVariables false
set_option maxRecDepth 100000
namespace Go.Proofs.YtilofjaigpngoaaDoor
open Go.RowKit
open Go.OpenShut
/-- a list of records, cell by cell -/
def recC (l : List Rc) : List Value := l.flatMap fun r => [.string (bs r.1), .string (bs r.2)]
theorem recC_length (l : List Rc) : (recC l).length = l.length * 2 := by
  induction l with
  | nil => rfl
  | cons x l ih => unfold recC at *; simp only [List.flatMap_cons, List.length_append, List.length_cons, List.length_nil] at *; omega
theorem recC_app (a b : List Rc) : recC (a ++ b) = recC a ++ recC b := by simp [recC]
theorem recC_one (r : Rc) : recC [r] = [.string (bs r.1), .string (bs r.2)] := rfl
theorem recC_get (l : List Rc) (j : Nat) (h : j < l.length) : (recC l)[j * 2]? = some (.string (bs l[j].1)) ∧ (recC l)[j * 2 + 1]? = some (.string (bs l[j].2)) := by
  induction l generalizing j with
  | nil => cases h
  | cons x l ih =>
    have e : recC (x :: l) = .string (bs x.1) :: .string (bs x.2) :: recC l := rfl
    rw [e]
    cases j with
    | zero => exact ⟨rfl, rfl⟩
    | succ j =>
      have hj : j < l.length := by simpa using h
      have := ih j hj
      rw [show (j + 1) * 2 = j * 2 + 2 by omega]
      simpa using this
/-- a list of records of the call's own -/
def Own (w : World) (B : Nat) (v : Value) (n : Nat) (l : List Rc) : Prop := l.length = n ∧ w.ownsRow B 35 2 v n (recC l)
theorem Own.at {w : World} {B n c : Nat} {A : Option Addr} {l : List Rc} (h : Own w B (.slice A n c) n l) : RecsAt w A l := fun j hj => by
  obtain ⟨hl, ho⟩ := h
  have hb := ho.2
  rcases hb with ⟨e, h0⟩ | ⟨g, cap, cur, e, -⟩
  · omega
  · injection e with e1 e2 e3
    subst e1 e3
    refine ⟨g, 0, rfl, ?_, ?_⟩
    · rw [Nat.zero_add, ho.cellAt (j * 2) (by omega), (recC_get l j hj).1]
    · rw [Nat.zero_add, ho.cellAt (j * 2 + 1) (by omega), (recC_get l j hj).2]
theorem Own.nil (w : World) (B : Nat) : Own w B (.slice none 0 0) 0 [] := ⟨rfl, World.ownsRow_nil _ _ _ _⟩
theorem Own.below {w w' : World} {B : Nat} {v : Value} {n : Nat} {l : List Rc} (h : Own w B v n l) (hb : Below w.heap.size w w') : Own w' B v n l := by
  refine ⟨h.1, own_heap h.2 fun g hg => ?_⟩
  obtain ⟨-, cur, hc⟩ := own_block h.2 g hg
  refine hb.block g ?_
  rcases Nat.lt_or_ge g w.heap.size with h1 | h1
  · exact h1
  · rw [Array.getElem?_eq_none h1] at hc; cases hc
theorem Own.alloc {w : World} {B : Nat} {v : Value} {n : Nat} {l : List Rc} (h : Own w B v n l) (o : Obj) : Own (w.alloc o) B v n l := h.below ((Below.refl _ _).alloc (Nat.le_refl _) o)
/-- the form of an own list -/
theorem Own.form {w : World} {B : Nat} {v : Value} {n : Nat} {l : List Rc} (h : Own w B v n l) : ∃ A c, v = .slice A n c := by
  rcases h.2.2 with ⟨e, h0⟩ | ⟨g, cap, cur, e, -⟩
  · exact ⟨none, 0, by rw [e, h0]⟩
  · exact ⟨_, _, e⟩
theorem Own.above {w : World} {B : Nat} {v : Value} {n : Nat} {l : List Rc} (h : Own w B v n l) : ∀ g0, v.ownBlock = some g0 → B ≤ g0 := fun g0 e => (own_block h.2 g0 e).1
theorem szR_of {l : List Rc} (h : ∀ r ∈ l, chkR r.1 r.2 = 0) : SzR l := fun r hr => by
  obtain ⟨-, h1, h2, -⟩ := chkR_of (h r hr)
  omega
theorem info_rec : (Tryd.prog.info? 35).map (fun i => (i.zero, i.size, i.bytes)) = some (some (.agg #[.string ⟨#[]⟩, .string ⟨#[]⟩]), 2, 32) := by kernel_rfl
theorem str_ne {s : ByteArray} (h : s.size ≠ 0) : s.toList.isEmpty = false := str_some h
theorem list_ne {s : ByteArray} (h : s.size ≠ 0) : s.data.toList ≠ [] := fun e => h (by rw [← sz_list, e]; rfl)
theorem own_push {w6 : World} {B n g' cap' : Nat} {l : List Rc} {r : Rc} (h : l.length = n)
    (hown : w6.ownsRow B 35 2 (.slice (some ⟨g', 0, none⟩) (n + 1) cap') (n + 1) (recC l ++ [.string (bs r.1), .string (bs r.2)])) : Own w6 B (.slice (some ⟨g', 0, none⟩) (n + 1) cap') (n + 1) (l ++ [r]) :=
  ⟨by rw [List.length_append, h]; rfl, by rw [recC_app, recC_one]; exact hown⟩
theorem ok_push {a : List Rc} {r : Rc} (h : ∀ x ∈ a, chkR x.1 x.2 = 0) (hr : chkR r.1 r.2 = 0) : ∀ x ∈ a ++ [r], chkR x.1 x.2 = 0 := fun x hx => by
  rcases List.mem_append.1 hx with h1 | h1
  · exact h x h1
  · obtain rfl : x = r := by simpa using h1
    exact hr
set_option maxHeartbeats 4000000 in
theorem pRead_any (s : ByteArray) (w : World) (T : Tab w) (hs : s.size ≤ 281474976710656) :
    Calls Tryd.prog 11 #[.string s] w fun e w' => ∃ A n c, e = .returned (.tuple #[.slice A n c, .int .i64 (paxR s.data.toList).2]) ∧ (paxR s.data.toList).1.length = n ∧ RecsAt w' A (paxR s.data.toList).1 ∧ Below w.heap.size w w' := by
  obtain ⟨i0, hi, hz0, hz1, hz2⟩ := info_parts info_rec
  have HS0 := Lib.hid (rdAll_acc s.data.toList)
  go_enter Tryd.func11, Tryd.ntmps11
  go_wp2_with fail
  go_loopw [0, 4] (fun sv lv wr => ∃ (S : ByteArray) (n : Nat) (acc : List Rc), sv = .string S ∧ S.size ≤ s.size ∧ n ≤ 13 ∧ Hid (rdAcc acc S.data.toList = rdAll s.data.toList) ∧ Hid (∀ r ∈ acc, chkR r.1 r.2 = 0) ∧ Hid (Own wr w.heap.size lv n (acc.take 13)) ∧ Hid (Below w.heap.size w wr)) (fun sv _ _ => strLen sv)
  case atStart => exact ⟨s, 0, [], rfl, Nat.le_refl _, by omega, HS0.out, (fun r hr => by cases hr), Own.nil _ _, Below.refl _ _⟩
  case round =>
    obtain ⟨S, n, acc, rfl, hSs, hn13, HA, HOK, HO, HB⟩ := hrel
    have hws : w.heap.size ≤ wr.heap.size := HB.out.size
    obtain ⟨A, c, rfl⟩ := HO.out.form
    by_cases h0 : S.size = 0
    · obtain rfl := str_none h0
      have HE : Hid (rdAll s.data.toList = (acc, 0)) := by
        have h : rdAcc acc [] = _ := HA.out
        rw [rdAcc_nil] at h; exact h.symm
      have HC := Lib.hid (pCheck_any A n c (acc.take 13) HO.out.1 (by omega) (szR_of (take_ok HOK.out 13)) wr HO.out.at)
      have HP := Lib.hid (paxR_end HE.out)
      clear h0
      by_cases hc : chkP (acc.take 13) = 0
      · have HP2 := Lib.hid (HP.out.trans (if_neg (by simpa using hc)))
        rw [hc] at HC
        clear hc
        go_wp2_with fail
        refine HC.out.mono ?_; rintro e w1 ⟨rfl, hb⟩
        have HW := Lib.hid (HB.out.trans (hb.mono hws))
        have HRA := Lib.hid (HO.out.at.below hb)
        clear hb
        go_wp2_with fail
        go_ret2
        rw [HP2.out]
        exact ⟨A, n, c, rfl, HO.out.1, HRA.out, HW.out⟩
      · have HP2 := Lib.hid (HP.out.trans (if_pos hc))
        obtain ⟨x, hx⟩ := hid_name (chkP (acc.take 13))
        rw [hx.out] at hc HC HP2
        have tc : (x != 0) = true := by simpa using hc
        clear hc
        go_wp2_with fail
        refine HC.out.mono ?_; rintro e w1 ⟨rfl, hb⟩
        have HW := Lib.hid (HB.out.trans (hb.mono hws))
        clear hb
        go_wp2_with fail
        go_ret2
        rw [HP2.out]
        exact ⟨none, 0, 0, rfl, rfl, RecsAt.nil _ _, HW.out⟩
    · have hemp := str_ne h0
      have hS1 : 1 ≤ S.size := by omega
      have HF := Lib.hid (first_any S wr (T.below HB.out) (by omega))
      have hne := list_ne h0
      clear h0
      by_cases hr : (recR S.data.toList).2.2.2 = 0
      · obtain ⟨-, hr2, hr3, hr1⟩ := szR_ok hr
        have hok := (recR_turn hr).1
        have HST := Lib.hid ((rdAcc_step hne hr).symm.trans HA.out)
        have HF2 : Hid (frV S.data.toList = .tuple #[.agg #[.string (bs (recR S.data.toList).1), .string (bs (recR S.data.toList).2.1)], .int .i64 (szR S.data.toList : Nat), .int .i64 0]) := by unfold Hid frV; rw [hr]
        rw [HF2.out] at HF
        rw [sz_list] at hr2
        have hext : (S.extract (szR S.data.toList) S.size).data.toList = (recR S.data.toList).2.2.1 := by rw [extract_tail, hr3]
        obtain ⟨z, hz⟩ := hid_name (szR S.data.toList)
        rw [hz.out] at hr1 hr2 HF hext
        have hzS : (z : Int) ≤ (S.size : Int) := by omega
        have hzr : (S.extract z S.size).size = S.size - z := by rw [ByteArray.size_extract]; omega
        obtain ⟨rk, hrk⟩ := hid_name (recR S.data.toList).1
        obtain ⟨rv, hrv⟩ := hid_name (recR S.data.toList).2.1
        rw [hrk.out, hrv.out] at HF HST hok
        rw [← hext] at HST
        have HOK2 : Hid (∀ x ∈ acc ++ [(rk, rv)], chkR x.1 x.2 = 0) := ok_push HOK.out hok
        clear hok hext hr hne hr2 hr3 hz hrk hrv HF2
        by_cases hn : n ≤ 12
        · have HT13 := Lib.hid (take13_few (a := acc) (rk, rv) (by rw [HO.out.1]; exact hn))
          obtain ⟨K, HK⟩ := hid_name (bs rk)
          obtain ⟨V, HV⟩ := hid_name (bs rv)
          rw [HK.out, HV.out] at HF
          go_wp2_with fail
          refine HF.out.mono ?_; rintro e w1 ⟨rfl, hb⟩
          have HB1 := Lib.hid (HB.out.trans (hb.mono hws))
          have hO1 := (HO.out.below hb).alloc (.cells #[.string K, .string V] 35)
          have HO1 := Lib.hid (hO1.alloc (.cells #[.string K, .string V] 35))
          obtain ⟨⟨d0, d1⟩, -⟩ := blk2 (Blk.new w1 35 #[.string K, .string V])
          have hw1 : w.heap.size ≤ w1.heap.size := HB1.out.size
          clear hb hO1
          go_wp2_with (at_builtin; refine Stay.go ?_)
          refine Stay.on ?_
          have hnb : ((w1.alloc (.cells #[.string K, .string V] 35)).alloc (.cells #[.string K, .string V] 35)).heap[w1.heap.size + 1]? = some (.cells #[.string K, .string V] 35 (0, 0)) := by
            have h9 := heap_alloc_new (w1.alloc (.cells #[.string K, .string V] 35)) (.cells #[.string K, .string V] 35)
            simpa using h9
          refine wpList_append_lies _ rfl (.tmp 23) (.tmp 25) 22 rfl w.heap.size 35 i0 _ 2 32 Tryd.underlying22 hi hz0 hz1 hz2 rfl (by decide) (.slice A n c) n _ rfl HO1.out.2 ⟨w1.heap.size + 1, 0, none⟩ 1 1 [.string K, .string V] rfl rfl (World.news_of_block (cs := #[.string K, .string V]) (t := 35) (fr := (0, 0)) hnb) (by simp [Value.oneCell']) (by omega) (by unfold maxLen; omega) (by omega) (by simp; omega) _ rfl ?_
          intro g' cap' w6 hown1 hgrow1 hat1 hlt1
          have HO6 : Hid (Own w6 w.heap.size (.slice (some ⟨g', 0, none⟩) (n + 1) cap') (n + 1) ((acc ++ [(rk, rv)]).take 13)) := by
            unfold Hid
            rw [HT13.out]
            refine own_push HO.out.1 ?_
            rw [HK.out, HV.out]; exact hown1
          have HB6 : Hid (Below w.heap.size w w6) := ((HB1.out.alloc hw1 _).alloc (by simp; omega) _).grown hgrow1 (by simp; omega) HO1.out.above
          clear hown1 hgrow1 hat1 hlt1 hnb d0 d1
          go_wp2_with fail
          go_roundw
          case rel => exact ⟨_, n + 1, acc ++ [(rk, rv)], rfl, by rw [hzr]; omega, by omega, HST, HOK2, HO6, HB6⟩
          case measure => show (S.extract z S.size).size < S.size; omega
        · have HT13 := Lib.hid (take13_many (a := acc) (rk, rv) (by rw [HO.out.1]; exact hn))
          go_wp2_with fail
          refine HF.out.mono ?_; rintro e w1 ⟨rfl, hb⟩
          have HB1 := Lib.hid ((HB.out.trans (hb.mono hws)).alloc (Nat.le_trans hws hb.size) (.cells #[.string (bs rk), .string (bs rv)] 35))
          have hO1 := (HO.out.below hb).alloc (.cells #[.string (bs rk), .string (bs rv)] 35)
          rw [← HT13.out] at hO1
          have HO1 := Lib.hid hO1
          clear hb hO1
          go_wp2_with fail
          go_roundw
          case rel => exact ⟨_, n, acc ++ [(rk, rv)], rfl, by rw [hzr]; omega, by omega, HST, HOK2, HO1, HB1⟩
          case measure => show (S.extract z S.size).size < S.size; omega
      · rw [frV_no hr] at HF
        have HE := Lib.hid (paxR_err (HA.out.symm.trans (rdAcc_err hne hr)) hr)
        obtain ⟨x, hx⟩ := hid_name (recR S.data.toList).2.2.2
        rw [hx.out] at HF HE hr
        have tc : (x != 0) = true := by simpa using hr
        clear hr hne
        go_wp2_with fail
        refine HF.out.mono ?_; rintro e w1 ⟨rfl, hb⟩
        have HW := Lib.hid ((HB.out.trans (hb.mono hws)).alloc (Nat.le_trans hws hb.size) (.cells #[.string ⟨#[]⟩, .string ⟨#[]⟩] 35))
        clear hb
        go_wp2_with fail
        go_ret2
        rw [HE.out]
        exact ⟨none, 0, 0, rfl, rfl, RecsAt.nil _ _, HW.out⟩
set_option maxHeartbeats 4000000 in
theorem rPaxOf_any (s : ByteArray) (w : World) (T : Tab w) (hs : s.size ≤ 4000000000000) :
    Calls Tryd.prog 12 #[.string s] w fun e w' => ∃ A n c, e = .returned (.tuple #[.slice A n c, .int .i64 (paxR s.data.toList).2]) ∧ (paxR s.data.toList).1.length = n ∧ RecsAt w' A (paxR s.data.toList).1 ∧ Below w.heap.size w w' := by
  obtain ⟨i0, hi, hz0, hz1, hz2⟩ := info_parts info_rec
  have HS0 := Lib.hid (rdAll_acc s.data.toList)
  go_enter Tryd.func12, Tryd.ntmps12
  go_wp2_with fail
  go_loopw [0, 4] (fun sv lv wr => ∃ (S : ByteArray) (n : Nat) (acc : List Rc), sv = .string S ∧ n + S.size ≤ s.size ∧ Hid (rdAcc acc S.data.toList = rdAll s.data.toList) ∧ Hid (∀ r ∈ acc, chkR r.1 r.2 = 0) ∧ Hid (Own wr w.heap.size lv n acc) ∧ Hid (Below w.heap.size w wr)) (fun sv _ _ => strLen sv)
  case atStart => exact ⟨s, 0, [], rfl, by omega, HS0.out, (fun r hr => by cases hr), Own.nil _ _, Below.refl _ _⟩
  case round =>
    obtain ⟨S, n, acc, rfl, hSs, HA, HOK, HO, HB⟩ := hrel
    have hws : w.heap.size ≤ wr.heap.size := HB.out.size
    obtain ⟨A, c, rfl⟩ := HO.out.form
    by_cases h0 : S.size = 0
    · obtain rfl := str_none h0
      have HE : Hid (rdAll s.data.toList = (acc, 0)) := by
        have h : rdAcc acc [] = _ := HA.out
        rw [rdAcc_nil] at h; exact h.symm
      have HC := Lib.hid (rPaxFault_any A n c acc HO.out.1 (by omega) (szR_of HOK.out) wr HO.out.at)
      clear h0
      by_cases hc : chkP acc = 0
      · have HP2 := Lib.hid (paxR_ok HE.out hc)
        rw [hc] at HC
        clear hc
        go_wp2_with fail
        refine HC.out.mono ?_; rintro e w1 ⟨rfl, hb⟩
        have HW := Lib.hid (HB.out.trans (hb.mono hws))
        have HRA := Lib.hid (HO.out.at.below hb)
        clear hb
        go_wp2_with fail
        go_ret2
        rw [HP2.out]
        exact ⟨A, n, c, rfl, HO.out.1, HRA.out, HW.out⟩
      · have HP2 := Lib.hid (paxR_chk HE.out hc)
        obtain ⟨x, hx⟩ := hid_name (chkP acc)
        rw [hx.out] at hc HC HP2
        have tc : (x != 0) = true := by simpa using hc
        clear hc
        go_wp2_with fail
        refine HC.out.mono ?_; rintro e w1 ⟨rfl, hb⟩
        have HW := Lib.hid (HB.out.trans (hb.mono hws))
        clear hb
        go_wp2_with fail
        go_ret2
        rw [HP2.out]
        exact ⟨none, 0, 0, rfl, rfl, RecsAt.nil _ _, HW.out⟩
    · have hS1 : 1 ≤ S.size := by omega
      have HF := Lib.hid (rRecOf_any S wr (T.below HB.out) (by omega))
      have hne := list_ne h0
      clear h0
      by_cases hr : (recR S.data.toList).2.2.2 = 0
      · obtain ⟨-, hr2, -, hr1⟩ := szR_ok hr
        have hok := (recR_turn hr).1
        have HST := Lib.hid ((rdAcc_step hne hr).symm.trans HA.out)
        rw [sz_list] at hr2
        unfold rdV recV at HF
        rw [hr] at HF
        obtain ⟨rk, hrk⟩ := hid_name (recR S.data.toList).1
        obtain ⟨rv, hrv⟩ := hid_name (recR S.data.toList).2.1
        have hrl : (bs (recR S.data.toList).2.2.1).size = (recR S.data.toList).2.2.1.length := rfl
        rw [← bs_list (recR S.data.toList).2.2.1] at HST
        obtain ⟨R, hR⟩ := hid_name (bs (recR S.data.toList).2.2.1)
        rw [hrk.out, hrv.out, hR.out] at HF
        rw [hrk.out, hrv.out, hR.out] at HST
        rw [hrk.out, hrv.out] at hok
        rw [hR.out] at hrl
        have hRS : R.size < S.size := by omega
        have HOK2 : Hid (∀ x ∈ acc ++ [(rk, rv)], chkR x.1 x.2 = 0) := ok_push HOK.out hok
        clear hok hr hne hr2 hrk hrv hrl hr1
        obtain ⟨K, HK⟩ := hid_name (bs rk)
        obtain ⟨V, HV⟩ := hid_name (bs rv)
        rw [HK.out, HV.out] at HF
        go_wp2_with fail
        refine HF.out.mono ?_; rintro e w1 ⟨rfl, hb⟩
        have HB1 := Lib.hid (HB.out.trans (hb.mono hws))
        have hO1 := (HO.out.below hb).alloc (.cells #[.string K, .string V] 35)
        have HO1 := Lib.hid (hO1.alloc (.cells #[.string K, .string V] 35))
        obtain ⟨⟨d0, d1⟩, -⟩ := blk2 (Blk.new w1 35 #[.string K, .string V])
        have hw1 : w.heap.size ≤ w1.heap.size := HB1.out.size
        clear hb hO1
        go_wp2_with (at_builtin; refine Stay.go ?_)
        refine Stay.on ?_
        have hnb : ((w1.alloc (.cells #[.string K, .string V] 35)).alloc (.cells #[.string K, .string V] 35)).heap[w1.heap.size + 1]? = some (.cells #[.string K, .string V] 35 (0, 0)) := by
          have h9 := heap_alloc_new (w1.alloc (.cells #[.string K, .string V] 35)) (.cells #[.string K, .string V] 35)
          simpa using h9
        refine wpList_append_lies _ rfl (.tmp 21) (.tmp 23) 22 rfl w.heap.size 35 i0 _ 2 32 Tryd.underlying22 hi hz0 hz1 hz2 rfl (by decide) (.slice A n c) n _ rfl HO1.out.2 ⟨w1.heap.size + 1, 0, none⟩ 1 1 [.string K, .string V] rfl rfl (World.news_of_block (cs := #[.string K, .string V]) (t := 35) (fr := (0, 0)) hnb) (by simp [Value.oneCell']) (by omega) (by unfold maxLen; omega) (by omega) (by simp; omega) _ rfl ?_
        intro g' cap' w6 hown1 hgrow1 hat1 hlt1
        have HO6 : Hid (Own w6 w.heap.size (.slice (some ⟨g', 0, none⟩) (n + 1) cap') (n + 1) (acc ++ [(rk, rv)])) := by
          refine own_push HO.out.1 ?_
          rw [HK.out, HV.out]; exact hown1
        have HB6 : Hid (Below w.heap.size w w6) := ((HB1.out.alloc hw1 _).alloc (by simp; omega) _).grown hgrow1 (by simp; omega) HO1.out.above
        clear hown1 hgrow1 hat1 hlt1 hnb d0 d1
        go_wp2_with fail
        go_roundw
        case rel => exact ⟨R, n + 1, acc ++ [(rk, rv)], rfl, by omega, HST, HOK2, HO6, HB6⟩
        case measure => exact hRS
      · have HE := Lib.hid (paxR_err (HA.out.symm.trans (rdAcc_err hne hr)) hr)
        have hrn := recR_no hr
        obtain ⟨x, hx⟩ := hid_name (recR S.data.toList).2.2.2
        rw [hx.out] at HE hr hrn
        rw [hrn] at HF
        have HF2 : Hid (Calls Tryd.prog 27 #[.string S] wr fun e w' => e = .returned (.tuple #[.agg #[.string ⟨#[]⟩, .string ⟨#[]⟩], .string ⟨#[]⟩, .int .i64 x]) ∧ Below wr.heap.size wr w') := HF.out
        have tc : (x != 0) = true := by simpa using hr
        clear hr hne hrn HF
        go_wp2_with fail
        refine HF2.out.mono ?_; rintro e w1 ⟨rfl, hb⟩
        have HW := Lib.hid ((HB.out.trans (hb.mono hws)).alloc (Nat.le_trans hws hb.size) (.cells #[.string ⟨#[]⟩, .string ⟨#[]⟩] 35))
        clear hb
        go_wp2_with fail
        go_ret2
        rw [HE.out]
        exact ⟨none, 0, 0, rfl, rfl, RecsAt.nil _ _, HW.out⟩
end Go.Proofs.YtilofjaigpngoaaDoor
