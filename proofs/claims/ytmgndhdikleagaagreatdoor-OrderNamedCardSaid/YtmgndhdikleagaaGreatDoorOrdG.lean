/- The property OrderNamed. -/
import Derived.Test.YtmgndhdikleagaaGreatDoorOrdL
import Derived.Laws.OwnMore
set_option linter.unusedVariables false
set_option maxRecDepth 100000
namespace Go.Proofs.YtmgndhdikleagaaGreatDoor
open Go.RowKit
open Go.OpenShut
theorem sum_named {a b A : ByteArray} (h : a ++ b = A) (hs : a.size + b.size ≤ 9223372036854775807) : ∀ W : World, (Op.stringOp .add a b).run Tryz.prog W = .ok (.string A) W := fun W => by
  rw [← h]; exact run_string_add_sum (P := Tryz.prog) (w := W) a b hs
def ndZ : NodeV := ⟨[], 2, 0, [], mdZ, []⟩
theorem named_up {l : List NodeV} (hs : Sound l) (hl : l.length ≤ 40) {x : NodeV} (hx : x ∈ l) (hk : x.kind ≠ 2) : namesE l x.path = 10 := by
  rw [namesE_dir (sound_tree hs hl)]
  obtain ⟨h1, h2⟩ := findL_mem hs.rises hx
  refine dirE_up (hs.ne hx) h1 ?_
  have h3 := findL_at l x.path h1
  rw [rises_inj hs.rises (List.getElem_mem h1) hx h3]; exact hk
theorem named_ok {l : List NodeV} (hs : Sound l) (hl : l.length ≤ 40) {x : NodeV} (hx : x ∈ ndZ :: l) (hk : x.kind = 2) : namesE l x.path = 0 := by
  rw [namesE_dir (sound_tree hs hl)]
  rcases List.mem_cons.1 hx with rfl | hx
  · exact dirE_top
  · obtain ⟨h1, h2⟩ := findL_mem hs.rises hx
    refine dirE_ok (hs.ne hx) h1 ?_
    have h3 := findL_at l x.path h1
    rw [rises_inj hs.rises (List.getElem_mem h1) hx h3]; exact hk
/-- how many names the first j nodes have -/
def cntN (l D : List NodeV) (j : Nat) : Nat := many l (((D.take j).filter fun x => decide (x.kind = 2)).map (·.path))
theorem cntN_step (l D : List NodeV) (j : Nat) (hj : j < D.length) : cntN l D (j + 1) = cntN l D j + if D[j].kind = 2 then (kids l D[j].path).length else 0 := by
  unfold cntN
  rw [List.take_succ_eq_append_getElem hj, List.filter_append, List.map_append, many_app]
  by_cases h : D[j].kind = 2 <;> simp [h, many]
theorem cntN_all {l : List NodeV} (hs : Sound l) : cntN l (ndZ :: l) (l.length + 1) = l.length := by
  refine Eq.trans ?_ (many_all hs)
  unfold cntN dirs
  rw [List.take_of_length_le (by simp)]
  rfl
theorem cntN_le {l : List NodeV} (hs : Sound l) (j : Nat) : cntN l (ndZ :: l) j ≤ l.length := by
  have h := cntN_all hs
  unfold cntN at h ⊢
  rw [List.take_of_length_le (by simp)] at h
  rw [← List.take_append_drop j (ndZ :: l), List.filter_append, List.map_append, many_app] at h
  omega
theorem kid_path {l : List NodeV} (hs : Sound l) {d : List UInt8} {y : NodeV} (hy : y ∈ kids l d) : (if d = [] then baseL y.path else d ++ 47 :: baseL y.path) = y.path :=
  (child_path (hs.path (mem_kids.1 hy).1) (mem_kids.1 hy).2).symm
theorem sm_named : namesE [smA, smB, smC] [97] = 0 ∧ namesR [smA, smB, smC] [97] = [[98]] := by decide +kernel
set_option maxHeartbeats 16000000 in
theorem OrderNamed_walk (A0 : Option Addr) (n0 c0 : Nat) (rs0 : List RawV) (hn0 : rs0.length = n0) (hm0 : n0 ≤ 140737488355328) (hf0 : ∀ r ∈ rs0, r.wf) (w : World) (hr0 : RawsAt w A0 rs0) :
    Calls Tryz.prog 4 #[.slice A0 n0 c0] w fun e w' => e = .returned (.bool true) ∧ Below w.heap.size w w' := by
  have HT := Lib.hid (drawn_any A0 n0 c0 rs0 hn0 hm0 hf0 30 (by decide) w hr0)
  clear hn0 hm0 hf0 hr0
  go_enter Tryz.func4, Tryz.ntmps4
  go_wp2_with fail
  refine HT.out.mono ?_; rintro e wa ⟨l, T, n, d, rfl, hl, -, hs, hat, h30, hsd, hsz, hb⟩
  have HA := Lib.hid hat
  have HL := Lib.hid hl
  have HSD := Lib.hid hsd
  have HSl := Lib.hid hs
  have HB := Lib.hid hb
  have HNm := Lib.hid fun (q : List UInt8) W h => Names_any T n d l (bs q) hl hs hsz W h
  simp only [bs_list] at HNm
  have HF : Hid (∀ (q : List UInt8) (W : World), NodesAt W T l → Calls Tryz.prog 12 #[.slice T n d, .string ⟨q.toArray⟩] W fun e w' => e = .returned (if findL l q < n then .tuple #[.int .i64 (findL l q : Nat), .int .i64 0] else .tuple #[.int .i64 0, .int .i64 5]) ∧ Below W.heap.size W w') := fun q W h => Find_any T n d l (⟨q.toArray⟩ : ByteArray) hl (by omega) hsz W h
  obtain ⟨ys, hys, hcN, hdt⟩ := hat.row
  have hyl : ys.length = n := by rw [← hl, ← hys, List.length_map]
  have HR0 : Hid (RowN (wa.alloc (.cells #[.string ⟨#[]⟩, .int .i64 2, .int .i64 0, .string ⟨#[]⟩, .int .i64 0, .int .i64 0, .int .i64 0, .string ⟨#[]⟩, .string ⟨#[]⟩, .int .i64 0, .int .i64 0, .slice none 0 0] 40)) wa.heap.size (.slice (some ⟨wa.heap.size, 0, none⟩) 1 1) [((ndZ, .slice none 0 0) : NodP)]) :=
    World.ownsRow_lit (base := wa.heap.size) (e := 40) (size := 12) wa #[.string ⟨#[]⟩, .int .i64 2, .int .i64 0, .string ⟨#[]⟩, .int .i64 0, .int .i64 0, .int .i64 0, .string ⟨#[]⟩, .string ⟨#[]⟩, .int .i64 0, .int .i64 0, .slice none 0 0] 1 (Nat.le_refl _) (by decide) rfl
  have HB0 := Lib.hid (belowA (Below.refl wa.heap.size wa) (.cells #[.string ⟨#[]⟩, .int .i64 2, .int .i64 0, .string ⟨#[]⟩, .int .i64 0, .int .i64 0, .int .i64 0, .string ⟨#[]⟩, .string ⟨#[]⟩, .int .i64 0, .int .i64 0, .slice none 0 0] 40))
  have HCN : Hid (CellsN (wa.alloc (.cells #[.string ⟨#[]⟩, .int .i64 2, .int .i64 0, .string ⟨#[]⟩, .int .i64 0, .int .i64 0, .int .i64 0, .string ⟨#[]⟩, .string ⟨#[]⟩, .int .i64 0, .int .i64 0, .slice none 0 0] 40)) T ys) := fun ad ha j u hu => by
    have h1 := hcN ad ha j u hu
    exact (HB0.out.cell (World.block_lt_of_cell? wa _ h1)).trans h1
  have HYS := Lib.hid hys
  have HYL := Lib.hid hyl
  have HDT := Lib.hid hdt
  clear hat hl hs hsd hsz hb HT hys hcN hdt hyl
  go_wp2_with (at_builtin; refine Stay.go ?_)
  refine Stay.on ?_
  refine append_nodes rfl (.tmp 18) (.tmp 19) rfl wa.heap.size _ [((ndZ, .slice none 0 0) : NodP)] rfl HR0.out T n d ys rfl HYL.out HCN.out (fun y hy => (HDT.out y hy).one) (fun e => ⟨HSl.out.2.2 e, by have := HSl.out.2.2 e; have := HSl.out.1; omega⟩) (by simp; omega) (by rw [hszA]; omega) ?_
  intro v1 w1 ho1 hg1
  have HB1 : Hid (Below wa.heap.size wa w1) := HB0.out.grown hg1 (by rw [hszA]; omega) HR0.out.above
  have HD1 : Hid (∀ z ∈ [((ndZ, .slice none 0 0) : NodP)] ++ ys, DatOk w1 z.2 z.1.data) := fun z hz => by
    rcases List.mem_append.1 hz with a | a
    · obtain rfl : z = (ndZ, .slice none 0 0) := by simpa using a
      exact ⟨none, 0, rfl, ⟨Nat.le_refl _, by decide, fun _ => rfl⟩, BytsAt.nil _ _⟩
    · exact (HDT.out z a).below HB1.out
  obtain ⟨A2, c2, he2, hs2, hat2⟩ := RowN.at ho1 HD1.out
  have hlen : ([((ndZ, .slice none 0 0) : NodP)] ++ ys).length = n + 1 := by rw [List.length_append, List.length_singleton, HYL.out]; omega
  have hmap : ([((ndZ, .slice none 0 0) : NodP)] ++ ys).map (·.1) = ndZ :: l := by rw [List.map_append, HYS.out]; rfl
  rw [hlen] at he2
  rw [hmap] at hat2
  obtain ⟨m, hm⟩ : ∃ m, m = n + 1 := ⟨_, rfl⟩
  rw [← hm] at he2
  subst he2
  have HA2 := Lib.hid hat2
  have HM := Lib.hid hm
  have hm31 : m ≤ 31 := by omega
  clear ho1 hg1 hs2 hat2 hlen hmap hm HR0 HB0 HCN HYS HYL HDT HD1 HSl
  go_wp2_with fail
  go_loopw [4, 22] (fun qv iv wr => ∃ j : Nat, j ≤ m ∧ iv = .int .i64 j ∧ qv = .int .i64 (cntN l (ndZ :: l) j : Nat) ∧ Hid (Below w1.heap.size w1 wr)) (fun _ iv _ => m - (intOf iv).toNat)
  case atStart => exact ⟨0, Nat.zero_le _, rfl, rfl, Below.refl _ _⟩
  case round =>
    obtain ⟨j, hj, rfl, rfl, HBr⟩ := hrel
    by_cases hlt : j < m
    · have hjl : j < (ndZ :: l).length := by rw [List.length_cons, HL.out, ← HM.out]; exact hlt
      obtain ⟨b, o, E, cc, hbo, hb1, hSl, hE, hcl⟩ := HA2.out.cells2 j hjl
      subst hbo
      obtain ⟨x0, x1, x2, x3, ⟨x4, x5, x6, x7, x8, x9, xA⟩, xB⟩ := hcl wr HBr.out
      have HST := Lib.hid (cntN_step l (ndZ :: l) j hjl)
      have hmem : (ndZ :: l)[j] ∈ ndZ :: l := List.getElem_mem hjl
      have HCl := cntN_le HSD.out j
      have HCl2 := cntN_le HSD.out (j + 1)
      rw [HL.out] at HCl HCl2
      have hsh : (ndZ :: l)[j].path.length ≤ 400 := by
        rcases List.mem_cons.1 hmem with e | e
        · rw [e]; decide
        · exact HSD.out.short e
      generalize hy : (ndZ :: l)[j] = y at *
      obtain ⟨q, hq⟩ : ∃ q, q = cntN l (ndZ :: l) j := ⟨_, rfl⟩
      rw [← hq] at HST HCl ⊢
      obtain ⟨wo, hwo⟩ : ∃ wo, wo = wr := ⟨_, rfl⟩
      subst hwo
      clear hy hcl hSl hE hb1 hjl hq
      go_upto_region 6 with fail
      have HBl := Lib.hid (Blk.new wo 40 #[.string (bs y.path), .int .i64 y.kind, .int .i64 y.same, .string (bs y.target), .int .i64 y.md.mode, .int .i64 y.md.uid, .int .i64 y.md.gid, .string (bs y.md.user), .string (bs y.md.group), .int .i64 y.md.second, .int .i64 y.md.nano, .slice E y.data.length cc])
      have HBc := Lib.hid (belowA HBr.out (.cells #[.string (bs y.path), .int .i64 y.kind, .int .i64 y.same, .string (bs y.target), .int .i64 y.md.mode, .int .i64 y.md.uid, .int .i64 y.md.gid, .string (bs y.md.user), .string (bs y.md.group), .int .i64 y.md.second, .int .i64 y.md.nano, .slice E y.data.length cc] 40))
      generalize hwa : wo.alloc _ = wb at HBl HBc ⊢
      obtain ⟨⟨e0, e1, e2, e3, e4, e5, e6, e7, e8, e9, eA, eB⟩, -⟩ := blk12 HBl.out
      clear hwa x0 x1 x2 x3 x4 x5 x6 x7 x8 x9 xA xB
      have HAb := Lib.hid (HA.out.below (HB1.out.trans (HBc.out.mono HB1.out.size)))
      by_cases hk : y.kind = 2
      · have hNE := named_ok HSD.out (by have := HL.out; omega) hmem hk
        have HNy := Lib.hid (HNm.out y.path wb HAb.out)
        rw [hNE, namesR_ok hNE] at HNy
        have HRi := Lib.hid (names_rise HSD.out y.path)
        rw [if_pos hk] at HST
        have HKp := Lib.hid fun (z : NodeV) (hz : z ∈ kids l y.path) => kid_path HSD.out hz
        have HKm := Lib.hid fun (z : NodeV) (hz : z ∈ kids l y.path) => (mem_kids.1 hz).1
        have hkl : (namesT l y.path).length = (kids l y.path).length := by unfold namesT; rw [List.length_map]
        have hk40 : (kids l y.path).length ≤ 40 := by have := kids_len l y.path; have := HL.out; omega
        rw [hk] at e1
        have HK2 := Lib.hid hk
        clear hmem hk hNE
        go_wp2_with fail
        refine HNy.out.mono ?_; rintro e w2 ⟨v2, rfl, hT, hb⟩
        have HC2 := Lib.hid (HBc.out.trans (hb.mono HBc.out.size))
        have HBl2 := Lib.hid (HBl.out.below hb HBl.out.lt)
        obtain ⟨V, cv, rfl, -⟩ := hT.any
        obtain ⟨kk, hkk⟩ : ∃ kk, (namesT l y.path).length = kk := ⟨_, rfl⟩
        rw [hkk] at hT ⊢
        have HT2 := Lib.hid hT
        have HKK := Lib.hid hkk
        have hkk40 : kk ≤ 40 := by omega
        have HKL : Hid ((kids l y.path).length = kk) := by unfold Hid; omega
        have HIs := Lib.hid (IsSorted_any V kk cv _ (namesT l y.path) hkk (by omega) HRi.out w2 hT)
        obtain ⟨⟨e0, e1', e2, e3, e4, e5, e6, e7, e8, e9, eA, eB⟩, -⟩ := blk12 HBl2.out
        rw [HK2.out] at e1'
        clear hb hT HNy HBl HBc hkk hkl hk40 HRi
        go_wp2_with fail
        refine HIs.out.mono ?_; rintro e w3 ⟨rfl, hb⟩
        have HC3 := Lib.hid (HC2.out.trans (hb.mono HC2.out.size))
        have HBl3 := Lib.hid (HBl2.out.below hb HBl2.out.lt)
        have HT3 := Lib.hid (HT2.out.below hb)
        have hq1000 : q ≤ 1000 := by omega
        clear hb HIs HC2 HBl2 HT2 e0 e1' e2 e3 e4 e5 e6 e7 e8 e9 eA eB
        go_wp2_with fail
        go_loopw [4, 47] (fun qv iv wr => ∃ i : Nat, i ≤ kk ∧ iv = .int .i64 i ∧ qv = .int .i64 ((q + i : Nat) : Int) ∧ Hid (Below w3.heap.size w3 wr)) (fun _ iv _ => kk - (intOf iv).toNat)
        case atStart => exact ⟨0, Nat.zero_le _, rfl, rfl, Below.refl _ _⟩
        case round =>
          obtain ⟨i, hi, rfl, rfl, HBi⟩ := hrel
          by_cases hlt2 : i < kk
          · obtain ⟨gv, e, hgl, hc⟩ := (HT3.out.room HKK.out).2.2 i hlt2
            subst e
            have hik : i < (kids l y.path).length := by rw [HKL.out]; exact hlt2
            have eg : (namesT l y.path).getD i [] = baseL (kids l y.path)[i].path := by
              unfold namesT
              rw [List.getD_eq_getElem?_getD, List.getElem?_eq_getElem (by rw [List.length_map]; exact hik), List.getElem_map]; rfl
            have c0 : wr.cell? ⟨gv, i, none⟩ = some (.string ⟨(baseL (kids l y.path)[i].path).toArray⟩) := by
              have := (HBi.out.cell (p := ⟨gv, i, none⟩) hgl).trans (hc i hlt2)
              rw [eg] at this; exact this
            have hz := List.getElem_mem hik
            have hKP := HKp.out _ hz
            have hzl := HKm.out _ hz
            have hz4 := HSD.out.short hzl
            have HFz : Hid (∀ W, NodesAt W T l → ∃ f : Nat, Calls Tryz.prog 12 #[.slice T n d, .string ⟨(kids l y.path)[i].path.toArray⟩] W fun e w' => e = .returned (.tuple #[.int .i64 f, .int .i64 0]) ∧ Below W.heap.size W w') := fun W hW => by
              have := HF.out (kids l y.path)[i].path W hW
              have h2 := (findL_mem HSD.out.rises hzl).1
              rw [if_pos (by have := HL.out; omega)] at this
              exact ⟨_, this⟩
            have HBl4 := Lib.hid (HBl3.out.below HBi.out HBl3.out.lt)
            obtain ⟨⟨e0, -⟩, -⟩ := blk12 HBl4.out
            generalize (kids l y.path)[i].path = z at *
            have hAw := HA.out.below (HB1.out.trans ((HC3.out.trans (HBi.out.mono HC3.out.size)).mono HB1.out.size))
            have HAw := Lib.hid hAw
            obtain ⟨S1, hS1⟩ := hid_name (⟨(baseL z).toArray⟩ : ByteArray)
            obtain ⟨Z, hZ⟩ := hid_name (⟨z.toArray⟩ : ByteArray)
            rw [hS1.out] at c0
            rw [hZ.out] at HFz
            by_cases hd : y.path = []
            · rw [if_pos hd] at hKP
              have e5 : S1 = Z := by rw [← hS1.out, ← hZ.out, hKP]
              subst e5
              have e0' : wr.cell? ⟨wo.heap.size, 0, none⟩ = some (.string ⟨#[]⟩) := by
                have h6 : bs y.path = ⟨#[]⟩ := by rw [hd]; rfl
                rw [h6] at e0; exact e0
              clear e0 eg hc hik hz hzl hKP hz4 hAw hS1 hZ HBl4 hd
              go_wp2_with fail
              obtain ⟨f, HFw⟩ := HFz.out _ HAw.out
              refine HFw.mono ?_; rintro e w4 ⟨rfl, hb⟩
              have HB4 := Lib.hid (HBi.out.trans (hb.mono HBi.out.size))
              clear hb HFw
              go_wp2_with fail
              go_roundw
              case rel => exact ⟨i + 1, by omega, by go_num, by go_num, HB4.out⟩
              case measure => simp [intOf]; omega
            · rw [if_neg hd] at hKP
              obtain ⟨P, hP⟩ := hid_name (bs y.path)
              obtain ⟨PS, hPS⟩ := hid_name (⟨(y.path ++ [47]).toArray⟩ : ByteArray)
              have hs1 : P.size ≤ 400 := by rw [← hP.out, bs_size]; exact hsh
              have hs2 : PS.size ≤ 401 := by rw [← hPS.out, size_mk, List.length_append]; show y.path.length + 1 ≤ 401; omega
              have hs3 : S1.size ≤ 400 := by
                have h6 := congrArg List.length hKP
                rw [List.length_append, List.length_cons] at h6
                rw [← hS1.out, size_mk]; omega
              have hz5 : (y.path ++ [47]) ++ baseL z = z := by rw [List.append_assoc]; exact hKP
              have p1 := sum_named (a := P) (b := ⟨#[47]⟩) (A := PS) (by rw [← hP.out, ← hPS.out]; exact str_app y.path [47]) (by show P.size + 1 ≤ _; omega)
              have p2 := sum_named (a := PS) (b := S1) (A := Z) (by rw [← hPS.out, ← hS1.out, ← hZ.out, str_app, hz5]) (by omega)
              have hu1 : ¬ P.toList = [] := by
                rw [← hP.out, ByteArray.toList_eq]
                show ¬ (bs y.path).data.toList = []
                rw [bs_list]; exact hd
              have hu2 : P.toList.isEmpty = false := by cases h : P.toList with
                | nil => exact absurd h hu1
                | cons => rfl
              rw [hP.out] at e0
              clear eg hc hik hz hzl hKP hz4 hAw hS1 hZ HBl4 hd hP hPS hs1 hs2 hs3 hz5
              go_wp2_with fail
              obtain ⟨f, HFw⟩ := HFz.out _ HAw.out
              refine HFw.mono ?_; rintro e w4 ⟨rfl, hb⟩
              have HB4 := Lib.hid (HBi.out.trans (hb.mono HBi.out.size))
              clear hb HFw e0 p1 p2
              go_wp2_with fail
              go_roundw
              case rel => exact ⟨i + 1, by omega, by go_num, by go_num, HB4.out⟩
              case measure => simp [intOf]; omega
          · obtain rfl : i = kk := by omega
            have hst := HST.out
            rw [HKL.out] at hst
            have HS2 := Lib.hid hst
            have HBo := Lib.hid (HC3.out.trans (HBi.out.mono HC3.out.size))
            clear hst HT3 HBl3
            go_wp2_with fail
            go_roundw
            case rel => exact ⟨j + 1, by omega, by go_num, by rw [HS2.out], HBo.out⟩
            case measure => simp [intOf]; omega
      · have hml : y ∈ l := by
          rcases List.mem_cons.1 hmem with e | e
          · rw [e] at hk; exact absurd rfl hk
          · exact e
        have hNE := named_up HSD.out (by have := HL.out; omega) hml hk
        have HNy := Lib.hid (HNm.out y.path wb HAb.out)
        rw [hNE] at HNy
        rw [if_neg hk, Nat.add_zero] at HST
        have HK2 : Hid (∃ kd : Int, kd = y.kind ∧ (kd != 2) = true) := ⟨y.kind, rfl, by simpa using hk⟩
        have hk3 : (y.kind != 2) = true := by simpa using hk
        generalize y.kind = kd at *
        clear hmem hk hNE hml HK2
        go_wp2_with fail
        refine HNy.out.mono ?_; rintro e w2 ⟨v2, rfl, hT, hb⟩
        have HC2 := Lib.hid (HBc.out.trans (hb.mono HBc.out.size))
        have HBl2 := Lib.hid (HBl.out.below hb HBl.out.lt)
        obtain ⟨V, cv, rfl, -⟩ := hT.any
        obtain ⟨⟨e0', e1', -⟩, -⟩ := blk12 HBl2.out
        obtain ⟨kk, hkk⟩ : ∃ kk, (namesR l y.path).length = kk := ⟨_, rfl⟩
        rw [hkk]
        clear hb hT HNy HBl HBc hkk e0 e1 e2 e3 e4 e5 e6 e7 e8 e9 eA eB HBl2
        go_wp2_with fail
        go_roundw
        case rel => exact ⟨j + 1, by omega, by go_num, by rw [HST.out]; rfl, HC2.out⟩
        case measure => simp [intOf]; omega
    · obtain rfl : j = m := by omega
      have hq : cntN l (ndZ :: l) j = n := by rw [HM.out, ← HL.out]; exact cntN_all HSD.out
      rw [hq]
      have HBw := Lib.hid (HB.out.trans ((HB1.out.trans (HBr.out.mono HB1.out.size)).mono HB.out.size))
      clear hq HA2 HNm HF HA HB1
      go_wp2_with fail
      refine (small_any _).mono ?_; rintro e wc ⟨g, rfl, hsm, hb⟩
      have HB2 := Lib.hid (HBw.out.trans (hb.mono HBw.out.size))
      have HWs := Lib.hid (Names_any (some ⟨g, 0, none⟩) 3 3 [smA, smB, smC] (⟨#[97]⟩ : ByteArray) rfl ⟨Nat.le_refl _, by decide, fun e => by cases e⟩ sm_sz wc hsm)
      rw [show ((⟨#[97]⟩ : ByteArray).data.toList) = [97] from rfl, sm_named.1, sm_named.2] at HWs
      clear hb hsm HBr
      go_wp2_with fail
      refine HWs.out.mono ?_; rintro e wd ⟨v2, rfl, hTs, hb⟩
      obtain ⟨V2, cv2, rfl, -⟩ := hTs.any
      have HB3 := Lib.hid (HB2.out.trans (hb.mono HB2.out.size))
      have HE : Hid (∀ (o : Obj), o = .cells #[.string ⟨#[98]⟩] 9 → Calls Tryz.prog 9 #[.slice V2 1 cv2, .slice (some ⟨wd.heap.size, 0, none⟩) 1 1] (wd.alloc o) fun e w' => e = .returned (.bool true) ∧ Below (wd.alloc o).heap.size (wd.alloc o) w') := by
        rintro o rfl
        have hT4 := hTs.below (belowA (Below.refl wd.heap.size wd) (.cells #[.string ⟨#[98]⟩] 9))
        have hBk := Blk.new wd 9 #[.string ⟨#[98]⟩]
        have := Equal_any V2 (some ⟨wd.heap.size, 0, none⟩) cv2 1 [[98]] [[98]] (wd.alloc (.cells #[.string ⟨#[98]⟩] 9)) (by decide) (by decide) (fun j hj => by
          obtain ⟨g5, e5, -, hc5⟩ := (hT4.room (n := 1) rfl).2.2 0 (by decide)
          exact ⟨g5, e5, hc5 j hj⟩) (fun j hj => ⟨wd.heap.size, rfl, by
            rw [hBk.cell]
            match j, hj with
            | 0, _ => rfl⟩)
        refine this.mono ?_
        rintro e w' ⟨rfl, q, rfl⟩
        exact ⟨rfl, drewN_below (Below.refl _ _) _⟩
      have HB4 := Lib.hid fun o => belowA HB3.out o
      clear hb hTs HB2 HWs
      go_wp2_with fail
      refine (HE.out _ rfl).mono ?_; rintro e we ⟨rfl, hb⟩
      have HB5 := Lib.hid ((HB4.out _).trans (hb.mono (HB4.out _).size))
      clear hb HB3 HB4 HE
      go_wp2_with fail
      go_ret
      exact ⟨rfl, HB5.out⟩
end Go.Proofs.YtmgndhdikleagaaGreatDoor
