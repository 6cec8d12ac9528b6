/- The reference's OrderSort. -/
import Derived.Test.YtmgndhdikleagaaOrdR
import Derived.Test.YtmgndhdikleagaaSrtM
import Derived.Test.YtmgndhdikleagaaTrgI
import Derived.Deep.RegionHeld3
set_option linter.unusedVariables false
set_option maxRecDepth 100000
namespace Go.Proofs.Ytmgndhdikleagaa
open Go.RowKit
open Go.OpenShut
/-- where a node comes to lie -/
theorem insT_at {t : List NodeV} (h : Sorts t) (n : NodeV) (k : Nat) (hk : k ≤ t.length) (h1 : ∀ j (hj : j < t.length), j + 1 = k → pcmp (t[j]'hj).path n.path ≤ 0) (h2 : ∀ j (hj : j < t.length), k ≤ j → 0 < pcmp (t[j]'hj).path n.path) : insT t n = t.take k ++ [n] ++ t.drop k := by
  have ha : ∀ x ∈ t.take k, pcmp x.path n.path ≤ 0 := by
    intro x hx
    obtain ⟨i, hi, rfl⟩ := List.mem_take_iff_getElem.1 hx
    have hik : i < k := by omega
    obtain ⟨j, hj⟩ : ∃ j, j + 1 = k := ⟨k - 1, by omega⟩
    have hj2 : j < t.length := by omega
    have h3 := h1 j hj2 hj
    rcases Nat.lt_or_eq_of_le (show i ≤ j by omega) with e | e
    · exact pcmp_trans _ _ _ ((List.pairwise_iff_getElem.1 h) i j (by omega) hj2 e) h3
    · subst e; exact h3
  have hb : ∀ x ∈ t.drop k, 0 < pcmp x.path n.path := by
    intro x hx
    obtain ⟨i, hi, rfl⟩ := List.mem_drop_iff_getElem.1 hx
    exact h2 _ (by omega) (by omega)
  unfold insT
  have e1 : t.filter (fun x => decide (pcmp x.path n.path ≤ 0)) = t.take k := by
    conv => lhs; rw [← List.take_append_drop k t]
    rw [List.filter_append, List.filter_eq_self.2 (fun x hx => by simpa using ha x hx), List.filter_eq_nil_iff.2 (fun x hx => by have := hb x hx; simp; omega), List.append_nil]
  have e2 : t.filter (fun x => !decide (pcmp x.path n.path ≤ 0)) = t.drop k := by
    conv => lhs; rw [← List.take_append_drop k t]
    rw [List.filter_append, List.filter_eq_nil_iff.2 (fun x hx => by have := ha x hx; simp; omega), List.filter_eq_self.2 (fun x hx => by have := hb x hx; simp; omega), List.nil_append]
  rw [e1, e2, List.append_assoc]; rfl
theorem sortT_step (l : List NodeV) (k : Nat) (hk : k < l.length) : sortT (l.take (k + 1)) = insT (sortT (l.take k)) l[k] := by
  rw [List.take_succ_eq_append_getElem hk, sortT_snoc]
theorem RowN.cellsN {w : World} {B n c : Nat} {A : Option Addr} {xs : List NodP} (h : RowN w B (.slice A n c) xs) : CellsN w A xs := fun ad ha j u hu => by
  have hpos : 0 < xs.length := by
    have := (List.getElem?_eq_some_iff.1 hu).1
    rw [rowN_length] at this; omega
  obtain ⟨g, cap, e, -⟩ := h.row hpos
  injection e with e1 e2 e3
  subst e2
  subst ha
  injection e1 with e1
  subst e1
  rw [Addr.add_lit, Nat.zero_add]
  have h' := h
  unfold RowN at h'
  have hl := (List.getElem?_eq_some_iff.1 hu).1
  rw [World.ownsRow.cellAt h' j (by rw [rowN_length] at hl; omega)]
  exact hu
theorem dat_one {w : World} {xs : List NodP} (h : ∀ y ∈ xs, DatOk w y.2 y.1.data) : ∀ y ∈ xs, y.2.oneCell' = true := fun y hy => by
  obtain ⟨E, c, e, -⟩ := h y hy
  rw [e]; rfl
set_option maxHeartbeats 8000000 in
theorem rSort_any (A : Option Addr) (n c : Nat) (l : List NodeV) (hn : l.length = n) (hm : n * 144 ≤ 140737488351232) (hsz : ∀ x ∈ l, x.sz) (hps : ∀ x ∈ l, x.path.length ≤ 8000000000000) (w : World) (hA : NodesAt w A l) :
    Calls Try.prog 5 #[.slice A n c] w fun e w' => ∃ v xs, e = .returned v ∧ xs.map (·.1) = sortT l ∧ OwnN w' w.heap.size v xs ∧ Below w.heap.size w w' := by
  have HA := Lib.hid hA
  have HN := Lib.hid hn
  have HSZ := Lib.hid hsz
  have HPS := Lib.hid hps
  have HCp := Lib.hid fun (A3 : Option Addr) (c3 m : Nat) (t : List NodeV) (ht : t.length = m) (hm3 : m * 144 ≤ 140737488351232) (hts : ∀ x ∈ t, x.sz) W h => rCopy_any A3 m c3 t ht hm3 hts W h
  clear hA hn hsz hps
  go_enter Try.func5, Try.ntmps5
  go_wp2_with fail
  go_loopw [3, 10] (fun ov iv wr => ∃ (k : Nat) (xs : List NodP), k ≤ n ∧ iv = .int .i64 k ∧ xs.length = k ∧ Hid (RowN wr w.heap.size ov xs) ∧ Hid (xs.map (·.1) = sortT (l.take k)) ∧ Hid (∀ y ∈ xs, DatOk w y.2 y.1.data) ∧ Hid (Below w.heap.size w wr)) (fun _ iv _ => n - (intOf iv).toNat)
  case atStart => exact ⟨0, [], Nat.zero_le _, rfl, rfl, RowN.nil _ _, by unfold Hid; rw [List.take_zero]; rfl, fun y hy => by (cases hy), Below.refl _ _⟩
  case round =>
    obtain ⟨k, xs, hk, rfl, hxl, HR, HM, HDT, HB⟩ := hrel
    by_cases hlt : k < n
    · have hk1 : k < l.length := by rw [HN.out]; exact hlt
      obtain ⟨b, o, E, cc, hbo, hb1, hSl, hE, hcl⟩ := HA.out.cells2 k hk1
      subst hbo
      obtain ⟨c0, c1, c2', c3, ⟨c4, c5, c6, c7, c8, c9, cA⟩, cB⟩ := hcl wr HB.out
      have HST := Lib.hid (sortT_step l k hk1)
      have hsh := HPS.out _ (List.getElem_mem hk1)
      have HYM := Lib.hid (List.getElem_mem hk1)
      generalize hy : l[k] = y at *
      have HYD : Hid (DatOk w (.slice E y.data.length cc) y.data) := ⟨E, cc, rfl, hSl, hE⟩
      have HXP : Hid (∀ i (hi : i < xs.length), (xs[i]'hi).1.path.length ≤ 8000000000000) := fun i hi => by
        have h1 : (xs[i]'hi).1 ∈ xs.map (·.1) := List.mem_map_of_mem (List.getElem_mem hi)
        rw [HM.out] at h1
        exact HPS.out _ (List.mem_of_mem_take (of_mem (sortT_both _).2 h1))
      obtain ⟨Ao, co, hov, hso⟩ := HR.out.form
      subst hov
      rw [hxl] at HR hso ⊢
      have hco := hso.1
      have hco2 := hso.2.1
      unfold maxLen at hco2
      have HSo := Lib.hid hso
      clear hy hcl hSl hE hb1 hso
      go_upto_region 5 with fail
      have HBl := Lib.hid (Blk.new wr 31 #[.string (bs y.path), .int .i64 y.kind, .int .i64 y.same, .string (bs y.target), .int .i64 y.md.mode, .int .i64 y.md.uid, .int .i64 y.md.gid, .string (bs y.md.user), .string (bs y.md.group), .int .i64 y.md.second, .int .i64 y.md.nano, .slice E y.data.length cc])
      have HBa := Lib.hid (belowA (Below.refl wr.heap.size wr) (.cells #[.string (bs y.path), .int .i64 y.kind, .int .i64 y.same, .string (bs y.target), .int .i64 y.md.mode, .int .i64 y.md.uid, .int .i64 y.md.gid, .string (bs y.md.user), .string (bs y.md.group), .int .i64 y.md.second, .int .i64 y.md.nano, .slice E y.data.length cc] 31))
      generalize hwa : wr.alloc _ = wa at HBl HBa ⊢
      have HS := Lib.hid (show RdS w wr wr.heap.size y E cc wa from ⟨HBl.out, HBa.out⟩)
      clear hwa c0 c1 c2' c3 c4 c5 c6 c7 c8 c9 cA cB HBl HBa
      obtain ⟨wo, hwo⟩ : ∃ wo, wo = wr := ⟨_, rfl⟩
      subst hwo
      go_wp2_with fail
      go_loopw [6] (fun iv wi => ∃ (j : Nat), j ≤ k ∧ iv = .int .i64 j ∧ Hid (RdS w wo wo.heap.size y E cc wi) ∧ Hid (∀ i (hi : i < xs.length), j ≤ i → 0 < pcmp (xs[i]'hi).1.path y.path)) (fun iv _ => (intOf iv).toNat)
      case atStart => exact ⟨k, Nat.le_refl _, rfl, HS.out, fun i hi h => by omega⟩
      case round =>
        obtain ⟨j, hj, rfl, HSi, HG⟩ := hrel
        obtain ⟨wi, hwi⟩ : ∃ wi, wi = wr := ⟨_, rfl⟩
        subst hwi
        obtain ⟨q, hq⟩ : ∃ q : Bool, q = decide (∃ j1, ∃ (hj1 : j1 < xs.length), j1 + 1 = j ∧ 0 < pcmp (xs[j1]'hj1).1.path y.path) := ⟨_, rfl⟩
        have HQ := Lib.hid hq
        clear hq HS
        go_upto_region 6 with fail
        go_cut [29] (fun s29 wx => s29 = .bool q ∧ RdS w wo wo.heap.size y E cc wx)
        case first =>
          by_cases hj0 : 0 < j
          · have hd0 : decide (0 < j) = true := decide_eq_true hj0
            have hd1 : decide ((0 : Int) < (j : Int)) = true := by simpa using hj0
            obtain ⟨j1, hj1'⟩ : ∃ j1, j1 + 1 = j := ⟨j - 1, by omega⟩
            have hsub : IntKind.i64.wrap ((j : Int) - 1) = (j1 : Int) := by rw [IntKind.wrap_i64]; omega
            have hj2 : j1 < xs.length := by omega
            obtain ⟨go, cap, hgo, -⟩ := HR.out.row (by omega)
            injection hgo with hgo hgo2 hgo3
            clear hgo2 hgo3
            subst hgo
            have hRi := HR.out.below HSi.out.2
            have f0 : wi.cell? ⟨go, j1 * 12, none⟩ = some (.string (bs (xs[j1]'hj2).1.path)) := by
              have h1 := hRi
              unfold RowN at h1
              rw [hxl] at h1
              have h3 := World.ownsRow.cellAt h1 (j1 * 12) (by omega)
              rw [h3]
              have h2 := rowN_get xs j1 0 hj2 (by omega)
              rw [Nat.add_zero] at h2
              rw [h2]; rfl
            have hps2 : (bs (xs[j1]'hj2).1.path).size ≤ 8000000000000 := by rw [bs_size]; exact HXP.out j1 hj2
            have hps3 : (bs y.path).size ≤ 8000000000000 := by rw [bs_size]; exact hsh
            have HO := Lib.hid fun W => rOrder_any (bs (xs[j1]'hj2).1.path) (bs y.path) W
            rw [bs_list, bs_list] at HO
            obtain ⟨pc, hpc⟩ : ∃ pc, pc = pcmp (xs[j1]'hj2).1.path y.path := ⟨_, rfl⟩
            rw [← hpc] at HO
            have HQ2 : Hid (decide (0 < pc) = q) := by
              unfold Hid; rw [HQ.out, hpc]
              refine decide_eq_decide.2 ⟨fun h => ⟨j1, hj2, hj1', h⟩, ?_⟩
              rintro ⟨j3, hj3, e3, h⟩
              obtain rfl : j3 = j1 := by omega
              exact h
            obtain ⟨P, hP⟩ := hid_name (bs (xs[j1]'hj2).1.path)
            obtain ⟨X, hX⟩ := hid_name (bs y.path)
            rw [hP.out, hX.out] at HO
            rw [hP.out] at f0 hps2
            rw [hX.out] at hps3
            have hS0 : RdP w wo wo.heap.size y E cc go (j1 * 12) P wi := ⟨HSi.out, f0⟩
            have r0 : ∀ W : World, RdP w wo wo.heap.size y E cc go (j1 * 12) P W → W.cell? ⟨wo.heap.size, 0, none⟩ = some (.string X) := fun W h => by rw [← hX.out]; exact (blk12 h.1.1).1.1
            have r1 : ∀ W : World, RdP w wo wo.heap.size y E cc go (j1 * 12) P W → W.cell? ⟨go, j1 * 12, none⟩ = some (.string P) := fun W h => h.2
            have hj1n : (j1 : Int) < (k : Int) := by omega
            have hj10 : (0 : Int) ≤ (j1 : Int) := by omega
            have HOr := Lib.hid fun W => HO.out W (by omega) (by omega)
            clear hpc hj1' f0 HO hRi hd1 hps2 hps3 hsh hm hco hco2 hxl hk1
            go_region_held3 (fun W => RdP w wo wo.heap.size y E cc go (j1 * 12) P W)
              (first
                | (with_reducible assumption)
                | (with_reducible refine RdP.drew ?_; with_reducible assumption)
                | (with_reducible exact RdP.below (by with_reducible assumption) (by with_reducible assumption)))
              (first
                | (go_at_call 11; refine (HOr.out _).mono ?_; rintro e w5 ⟨rfl, hbO⟩))
            all_goals
              go_wp2_with fail
              go_meet
              exact ⟨by rw [HQ2.out], (RdP.below hS0.drew hbO).1⟩
          · have hd0 : decide (0 < j) = false := decide_eq_false hj0
            have hq2 := HQ.out
            rw [decide_eq_false (by rintro ⟨j1, hj1, e, -⟩; omega)] at hq2
            clear HQ HG hsh hm hco hco2 hxl HXP hk1
            subst hq2
            go_quiet (fail)
            go_wp2_with fail
            go_meet
            exact ⟨rfl, HSi.out.drewN _⟩
        case rest =>
          obtain ⟨rfl, hSc⟩ := hcut
          have HSc := Lib.hid hSc
          clear hSc HSi
          cases q with
          | true =>
            obtain ⟨j1, hj1, e1, hp1⟩ : ∃ j1, ∃ (hj1 : j1 < xs.length), j1 + 1 = j ∧ 0 < pcmp (xs[j1]'hj1).1.path y.path := of_decide_eq_true HQ.out.symm
            have HG2 : Hid (∀ i (hi : i < xs.length), j1 ≤ i → 0 < pcmp (xs[i]'hi).1.path y.path) := fun i hi h => by
              rcases Nat.lt_or_eq_of_le h with h' | h'
              · exact HG.out i hi (by omega)
              · subst h'; exact hp1
            clear hp1
            go_wp2_with fail
            go_roundw
            case rel => exact ⟨j1, by omega, by go_num, HSc, HG2⟩
            case measure => simp [intOf]; omega
          | false =>
            have HL : Hid (∀ i (hi : i < xs.length), i + 1 = j → pcmp (xs[i]'hi).1.path y.path ≤ 0) := fun i hi h => by
              have := of_decide_eq_false HQ.out.symm
              by_cases h' : 0 < pcmp (xs[i]'hi).1.path y.path
              · exact absurd ⟨i, hi, h, h'⟩ this
              · omega
            have HNew : Hid ((xs.take j ++ [((y, .slice E y.data.length cc) : NodP)] ++ xs.drop j).map (·.1) = sortT (l.take (k + 1))) := by
              unfold Hid
              have hM := HM.out
              rw [HST.out, insT_at (sortT_both _).1 y j (by rw [sortT_len, List.length_take]; omega) ?_ ?_, ← hM]
              · rw [List.map_append, List.map_append, List.map_take, List.map_drop]; rfl
              · intro i hi h
                have h2 : (sortT (l.take k))[i]'hi = (xs[i]'(by rw [← hM, List.length_map] at hi; exact hi)).1 := by simp only [← hM, List.getElem_map]
                rw [h2]; exact HL.out i _ h
              · intro i hi h
                have h2 : (sortT (l.take k))[i]'hi = (xs[i]'(by rw [← hM, List.length_map] at hi; exact hi)).1 := by simp only [← hM, List.getElem_map]
                rw [h2]; exact HG.out i _ h
            have hsl := fun W => nslice_to W Ao k co j (by omega)
            have hsf := fun W => nslice_from W Ao k co j hj
            have HRc := Lib.hid (HR.out.below HSc.out.2)
            have HO0 : Hid (RowN (wc.alloc (.cells #[] 31)) wc.heap.size (.slice (some ⟨wc.heap.size, 0, none⟩) 0 0) []) := World.ownsRow_lit (e := 31) (size := 12) wc #[] 0 (Nat.le_refl _) (by decide) rfl
            have HB0 := Lib.hid (belowA (Below.refl wc.heap.size wc) (.cells #[] 31))
            have HOne := Lib.hid (dat_one HDT.out)
            go_wp2_with (at_builtin; refine Stay.go ?_)
            refine Stay.on ?_
            refine append_nodes rfl (.tmp 32) (.tmp 35) rfl wc.heap.size _ [] rfl HO0.out Ao j co (xs.take j) rfl (by rw [List.length_take]; omega) (CellsN.take (RowN.cellsN (HRc.out.below HB0.out)) j) (fun z hz => HOne.out z (List.mem_of_mem_take hz)) (fun e => ⟨HSo.out.2.2 e, by have := HSo.out.2.2 e; omega⟩) (by simp; omega) (by simp) ?_
            intro v6 w6 ho6 hg6
            have HR6 : Hid (RowN w6 wc.heap.size v6 (xs.take j)) := by have := ho6; rwa [List.nil_append] at this
            have HB6 : Hid (Below wc.heap.size wc w6) := HB0.out.grown hg6 (by rw [hszA]; omega) HO0.out.above
            have HBk6 := Lib.hid (HSc.out.1.below HB6.out HSc.out.1.lt)
            clear ho6 hg6 hsl
            obtain ⟨⟨e0, e1, e2, e3, e4, e5, e6, e7, e8, e9, eA, eB⟩, -⟩ := blk12 HBk6.out
            go_wp2_with (at_builtin; refine Stay.go ?_)
            refine Stay.on ?_
            refine append_nodes rfl (.tmp 37) (.tmp 39) rfl wc.heap.size _ (xs.take j) rfl (HR6.out.alloc _) (some ⟨w6.heap.size, 0, none⟩) 1 1 [(y, .slice E y.data.length cc)] rfl rfl (cells_new w6 (y, .slice E y.data.length cc)) (by simp [Value.oneCell']) (fun e => by cases e) (by rw [List.length_take]; omega) (by simp; have := HB6.out.size; omega) ?_
            intro v7 w7 ho7 hg7
            have HR7 := Lib.hid ho7
            have HB7 : Hid (Below wc.heap.size wc w7) := (belowA HB6.out _).grown hg7 (by rw [hszA]; have := HB6.out.size; omega) HR6.out.above
            clear ho7 hg7 e0 e1 e2 e3 e4 e5 e6 e7 e8 e9 eA eB
            go_wp2_with (at_builtin; refine Stay.go ?_)
            refine Stay.on ?_
            refine append_nodes rfl (.tmp 41) (.tmp 44) rfl wc.heap.size _ _ rfl HR7.out (cutN Ao co j) (k - j) (co - j) (xs.drop j) rfl (by rw [List.length_drop, hxl]) (CellsN.drop (RowN.cellsN (HRc.out.below HB7.out)) (by omega) (by omega)) (fun z hz => HOne.out z (List.mem_of_mem_drop hz)) (fun e => by have := HSo.out.2.2 (cutN_none e); omega) (by simp; omega) (by have := HB7.out.size; omega) ?_
            intro v8 w8 ho8 hg8
            have HBw : w.heap.size ≤ wc.heap.size := by have := HB.out.size; have := HSc.out.2.size; omega
            have HR8 := Lib.hid (ho8.mono HBw)
            have HB8 : Hid (Below w.heap.size w w8) := (HB.out.trans (HSc.out.2.mono HB.out.size)).trans ((HB7.out.grown hg8 (by have := HB7.out.size; omega) HR7.out.above).mono HBw)
            have HD8 : Hid (∀ z ∈ xs.take j ++ [((y, .slice E y.data.length cc) : NodP)] ++ xs.drop j, DatOk w z.2 z.1.data) := fun z hz => by
              rcases List.mem_append.1 hz with a | a
              · rcases List.mem_append.1 a with a | a
                · exact HDT.out z (List.mem_of_mem_take a)
                · obtain rfl : z = (y, .slice E y.data.length cc) := by simpa using a
                  exact HYD.out
              · exact HDT.out z (List.mem_of_mem_drop a)
            have hl8 : (xs.take j ++ [((y, .slice E y.data.length cc) : NodP)] ++ xs.drop j).length = k + 1 := by simp; omega
            clear ho8 hg8 hsf
            go_wp2_with fail
            go_roundw
            case rel => exact ⟨k + 1, _, by omega, by go_num, hl8, HR8, HNew, HD8, HB8⟩
            case measure => simp [intOf]; omega
    · obtain rfl : k = n := by omega
      have h2 := HM.out
      rw [List.take_of_length_le (by rw [HN.out]; omega)] at h2
      have HMl := Lib.hid h2
      obtain ⟨A3, c3, he3, hs3, hat3⟩ := HR.out.at fun y hy => (HDT.out y hy).below HB.out
      rw [HMl.out] at hat3
      rw [hxl] at hs3 he3
      subst he3
      have HA3 := Lib.hid hat3
      have HC3 := Lib.hid (HCp.out A3 c3 k (sortT l) (by rw [sortT_len]; exact HN.out) hm (fun x hx => HSZ.out x (of_mem (sortT_both l).2 hx)) wr HA3.out)
      clear h2 hs3 hat3
      go_wp2_with fail
      refine HC3.out.mono ?_; rintro e wB ⟨v5, xs5, rfl, hxs5, hO5, hb5⟩
      have HB5 := Lib.hid (HB.out.trans (hb5.mono HB.out.size))
      have HO5 := Lib.hid (hO5.mono HB.out.size)
      have HX5 := Lib.hid hxs5
      clear hb5 hO5 hxs5
      go_wp2_with fail
      go_ret
      exact ⟨_, xs5, rfl, HX5.out, HO5.out, HB5.out⟩
end Go.Proofs.Ytmgndhdikleagaa
