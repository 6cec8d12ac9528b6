/- The reference's tree of members. -/
import Derived.Test.YtoikpnjnljdpaaaDoorEntT
import Derived.Test.YtoikpnjnljdpaaaDoorEntG
import Derived.Test.YtoikpnjnljdpaaaDoorTrgF
set_option linter.unusedVariables false
set_option maxRecDepth 100000
namespace Go.Proofs.YtoikpnjnljdpaaaDoor
open Go.RowKit
open Go.OpenShut
theorem entsE_zero (l : List EntV) : entsE l = 0 ↔ l.length ≤ 40 ∧ ∀ k (hk : k < l.length), eatE (l.take k) l[k] = 0 := by
  unfold entsE
  by_cases h : 40 < l.length
  · rw [if_pos h]; exact ⟨fun e => absurd e (by decide), fun e => by omega⟩
  · rw [if_neg h, ewalkE_all]
    simp only [List.nil_append]
    exact ⟨fun e => ⟨by omega, e⟩, fun e => e.2⟩
theorem findE_take {l : List EntV} {s : List UInt8} {k : Nat} (h : findE (l.take k) s < (l.take k).length) : findE l s = findE (l.take k) s := by
  have h1 : findE (l.take k) s < l.length := by rw [List.length_take] at h; omega
  have h2 := findE_at (l.take k) s h
  rw [List.getElem_take] at h2
  refine findE_stop l s _ h1 ?_ h2
  apply Classical.byContradiction
  intro hc
  have h3 : findE l s < findE (l.take k) s := by omega
  have h4 : findE l s < l.length := by omega
  have h5 := findE_at l s h4
  refine findE_ne (l.take k) s (findE l s) h3 (by omega) ?_
  rw [List.getElem_take]; exact h5
/-- where a link aims -/
theorem aim_at {l : List EntV} (h : entsE l = 0) {i : Nat} (hi : i < l.length) (hk : l[i].kind = 4) : ∃ hf : findE l l[i].target < l.length, findE l l[i].target < i ∧ (l[findE l l[i].target]'hf).kind = 1 ∧ (l[findE l l[i].target]'hf).md = l[i].md := by
  have h1 := ((eatE_zero _ _).1 (((entsE_zero l).1 h).2 i hi)).2.2.2
  unfold aimE at h1
  rw [decide_eq_false (by simp [hk]), Bool.false_or] at h1
  split at h1
  · rename_i hf
    have e := findE_take hf
    rw [List.length_take] at hf
    rw [Bool.and_eq_true, decide_eq_true_eq, decide_eq_true_eq, List.getElem_take] at h1
    refine ⟨by omega, by omega, ?_, ?_⟩
    · simp only [e]; exact h1.1
    · simp only [e]; exact h1.2
  · cases h1
def anyE (l : List EntV) (p : List UInt8) : Bool := l.any fun y => decide (y.kind = 4) && decide (y.target = p)
/-- the number of a file that links aim at -/
def smE (l : List EntV) (i : Nat) (x : EntV) : Int := if x.kind = 1 ∧ anyE l x.path = true then (i : Int) + 1 else 0
theorem smE_snoc (l : List EntV) (i : Nat) (x : EntV) (k : Nat) (hk : k < l.length) (q : Bool) (hq : q = (decide (l[k].kind = 4) && decide (l[k].target = x.path) && decide (x.kind = 1))) :
    smE (l.take (k + 1)) i x = if q = true then (i : Int) + 1 else smE (l.take k) i x := by
  have e : anyE (l.take (k + 1)) x.path = (anyE (l.take k) x.path || (decide (l[k].kind = 4) && decide (l[k].target = x.path))) := by
    unfold anyE
    rw [List.take_succ_eq_append_getElem hk, List.any_append, List.any_cons, List.any_nil, Bool.or_false]
  unfold smE
  rw [e, hq]
  generalize (decide (l[k].kind = 4) && decide (l[k].target = x.path)) = r
  by_cases h : x.kind = 1
  · rw [decide_eq_true h]
    cases r
    · simp [h]
    · simp [h]
  · rw [decide_eq_false h]
    simp [h]
theorem EntV.sz.grow {l : List EntV} (h : ∀ x ∈ l, x.sz) {i : Nat} (hi : i < l.length) : (growE l i l[i]).sz := by
  have hx := h _ (List.getElem_mem hi)
  unfold growE
  by_cases hk : l[i].kind = 4
  · rw [if_pos hk]
    refine ⟨⟨hx.1.1, Nat.zero_le _, ?_⟩, hx.2⟩
    simp only
    cases hd : l[findE l l[i].target]? with
    | none => exact Nat.zero_le _
    | some y => exact (h y (List.mem_of_getElem? hd)).1.2.2
  · rw [if_neg hk]
    exact ⟨⟨hx.1.1, hx.1.2.1, hx.1.2.2⟩, hx.2⟩
set_option maxHeartbeats 8000000 in
theorem rGrow_ok (A : Option Addr) (n c : Nat) (l : List EntV) (hn : l.length = n) (hc : SlOk A n c) (hsz : ∀ x ∈ l, x.sz) (w : World) (hA : EntsAt w A l) (hE : entsE l = 0) :
    Calls Tryd.prog 11 #[.slice A n c] w fun e w' => ∃ v xs, e = .returned (.tuple #[v, .int .i64 0]) ∧ xs.map (·.1) = growL l ∧ OwnN w' w.heap.size v xs ∧ Below w.heap.size w w' := by
  have H1 := Lib.hid (rEnts_any A n c l hn hc hsz w hA)
  rw [hE] at H1
  have h40 : n ≤ 40 := by have := ((entsE_zero l).1 hE).1; omega
  have HFd := Lib.hid fun (s : List UInt8) W (h : Below w.heap.size w W) => rEntAt_any A n c l s hn (by omega) W (hA.below h)
  have HAim := Lib.hid fun i (hi : i < l.length) (hk : l[i].kind = 4) => aim_at hE hi hk
  have HFin : Hid (∀ (v : Value) (xs : List NodP) (W : World), RowN W w.heap.size v xs → xs.map (·.1) = growL l → (∀ y ∈ xs, DatOk w y.2 y.1.data) → Below w.heap.size w W → Calls Tryd.prog 25 #[v] W fun e w' => ∃ v xs, e = .returned v ∧ xs.map (·.1) = growL l ∧ OwnN w' w.heap.size v xs ∧ Below w.heap.size w w') := fun v xs W hR hmap hdy hB => by
    obtain ⟨A9, c9, rfl, hs9, hN9⟩ := hR.at fun y hy => (hdy y hy).below hB
    have hxl : xs.length ≤ 40 := by
      have h1 := congrArg List.length hmap
      rw [List.length_map, growL_len] at h1
      omega
    refine (rCopy_any A9 xs.length c9 (xs.map (·.1)) (by rw [List.length_map]) (by omega) (fun x hx9 => by
      rw [hmap] at hx9
      obtain ⟨i, hi, rfl⟩ := List.getElem_of_mem hx9
      rw [growL_len] at hi
      rw [growL_at l i hi]
      exact EntV.sz.grow hsz hi) W hN9).mono ?_
    rintro e w' ⟨v, zs, rfl, h1, h2, h3⟩
    exact ⟨v, zs, rfl, by rw [h1, hmap], h2.mono hB.size, hB.trans (h3.mono hB.size)⟩
  have HN := Lib.hid hn
  have HA := Lib.hid hA
  have hcap := hc.1
  have hmx := hc.2.1
  unfold maxLen at hmx
  clear hn hc hsz hA hE
  go_enter Tryd.func11, Tryd.ntmps11
  go_wp2_with fail
  refine H1.out.mono ?_; rintro e w1 ⟨rfl, hB⟩
  have HB1 := Lib.hid hB
  clear hB H1
  go_wp2_with fail
  go_loopw [5, 19] (fun ov iv wr => ∃ (i : Nat) (xs : List NodP), i ≤ n ∧ iv = .int .i64 i ∧ xs.length = i ∧ Hid (RowN wr w.heap.size ov xs) ∧ Hid (xs.map (·.1) = (growL l).take i) ∧ Hid (∀ y ∈ xs, DatOk w y.2 y.1.data) ∧ Hid (Below w.heap.size w wr)) (fun _ iv _ => n - (intOf iv).toNat)
  case atStart => exact ⟨0, [], Nat.zero_le _, rfl, rfl, RowN.nil _ _, (by unfold Hid; rw [List.take_zero]; rfl), (fun y hy => by cases hy), HB1.out⟩
  case round =>
    obtain ⟨i, xs, hi, rfl, hxl, HR, HM, HDT, HB⟩ := hrel
    by_cases hlt : i < n
    · have hi1 : i < l.length := by rw [HN.out]; exact hlt
      obtain ⟨b, o, E, cc, hbo, hb1, hSl, hE, hcl⟩ := HA.out.cells2 i hi1
      subst hbo
      obtain ⟨c0, c1, c3, ⟨c4, c5, c6, c7, c8, c9x, cA⟩, cB⟩ := hcl wr HB.out
      have hga := growL_at l i hi1
      have hai := HAim.out i hi1
      generalize hx : l[i] = x at *
      have HYD : Hid (DatOk w (.slice E x.data.length cc) x.data) := ⟨E, cc, rfl, hSl, hE⟩
      have HGa := Lib.hid hga
      have HAi := Lib.hid hai
      clear hx hcl hSl hE hb1 hga hai
      go_upto_region 8 with fail
      have HBl := Lib.hid (Blk.new wr 26 #[.string (bs x.path), .int .i64 x.kind, .string (bs x.target), .int .i64 x.md.mode, .int .i64 x.md.uid, .int .i64 x.md.gid, .string (bs x.md.user), .string (bs x.md.group), .int .i64 x.md.second, .int .i64 x.md.nano, .slice E x.data.length cc])
      have HBa := Lib.hid (belowA (Below.refl _ wr) (.cells #[.string (bs x.path), .int .i64 x.kind, .string (bs x.target), .int .i64 x.md.mode, .int .i64 x.md.uid, .int .i64 x.md.gid, .string (bs x.md.user), .string (bs x.md.group), .int .i64 x.md.second, .int .i64 x.md.nano, .slice E x.data.length cc] 26))
      generalize hwa : wr.alloc _ = wa at HBl HBa ⊢
      obtain ⟨g, hg⟩ : ∃ g, g = wr.heap.size := ⟨_, rfl⟩
      have hga : g < wa.heap.size := by rw [hg]; exact HBl.out.lt
      have hgw : wr.heap.size ≤ g := by omega
      rw [← hg] at HBl ⊢
      clear hg
      obtain ⟨⟨e0, e1, e3, e4, e5, e6, e7, e8, e9, eA, eB⟩, -⟩ := blk11 HBl.out
      clear hwa c0 c1 c3 c4 c5 c6 c7 c8 c9x cA cB
      go_upto_region 9 with fail
      have HBx := Lib.hid (Blk.new wa 48 #[.string (bs x.path), .int .i64 x.kind, .int .i64 0, .string (bs x.target), .int .i64 x.md.mode, .int .i64 x.md.uid, .int .i64 x.md.gid, .string (bs x.md.user), .string (bs x.md.group), .int .i64 x.md.second, .int .i64 x.md.nano, .slice E x.data.length cc])
      have HBl2 := Lib.hid (HBl.out.alloc (.cells #[.string (bs x.path), .int .i64 x.kind, .int .i64 0, .string (bs x.target), .int .i64 x.md.mode, .int .i64 x.md.uid, .int .i64 x.md.gid, .string (bs x.md.user), .string (bs x.md.group), .int .i64 x.md.second, .int .i64 x.md.nano, .slice E x.data.length cc] 48))
      have HBb := Lib.hid (belowA HBa.out (.cells #[.string (bs x.path), .int .i64 x.kind, .int .i64 0, .string (bs x.target), .int .i64 x.md.mode, .int .i64 x.md.uid, .int .i64 x.md.gid, .string (bs x.md.user), .string (bs x.md.group), .int .i64 x.md.second, .int .i64 x.md.nano, .slice E x.data.length cc] 48))
      generalize hwb : wa.alloc _ = wb at HBx HBl2 HBb ⊢
      obtain ⟨gx, hgx⟩ : ∃ gx, gx = wa.heap.size := ⟨_, rfl⟩
      rw [← hgx] at HBx ⊢
      have hgx1 : wr.heap.size ≤ gx := by omega
      have hgg : g ≠ gx := by omega
      clear hwb hgx HBl HBa hga e0 e1 e3 e4 e5 e6 e7 e8 e9 eA eB
      go_wp2_with fail
      go_loopw [37] (fun jv wy => ∃ (k : Nat) (sm : Int), k ≤ n ∧ jv = .int .i64 (k : Int) ∧ Hid (sm = smE (l.take k) i x) ∧
        Hid (Blk wy g 26 #[.string (bs x.path), .int .i64 x.kind, .string (bs x.target), .int .i64 x.md.mode, .int .i64 x.md.uid, .int .i64 x.md.gid, .string (bs x.md.user), .string (bs x.md.group), .int .i64 x.md.second, .int .i64 x.md.nano, .slice E x.data.length cc]) ∧
        Hid (Blk wy gx 48 #[.string (bs x.path), .int .i64 x.kind, .int .i64 sm, .string (bs x.target), .int .i64 x.md.mode, .int .i64 x.md.uid, .int .i64 x.md.gid, .string (bs x.md.user), .string (bs x.md.group), .int .i64 x.md.second, .int .i64 x.md.nano, .slice E x.data.length cc]) ∧ Hid (Below wr.heap.size wr wy)) (fun jv _ => n - (intOf jv).toNat)
      case atStart => exact ⟨0, 0, Nat.zero_le _, rfl, (by unfold Hid smE anyE; simp), HBl2.out, HBx.out, HBb.out⟩
      case round =>
        obtain ⟨k, sm, hk, rfl, HSM, HX, HNx, HY⟩ := hrel
        rename World => wy
        by_cases hkn : k < n
        · have hk1 : k < l.length := by rw [HN.out]; exact hkn
          obtain ⟨b', o', E', cc', hbo', hb1', -, -, hcl'⟩ := HA.out.cells2 k hk1
          injection hbo' with hbo'
          injection hbo' with q1 q2 _
          subst q1 q2
          obtain ⟨c0, c1, c3, ⟨c4, c5, c6, c7, c8, c9x, cA⟩, cB⟩ := hcl' wy (HB.out.trans (HY.out.mono HB.out.size))
          obtain ⟨q, hq⟩ : ∃ q, q = (decide (l[k].kind = 4) && decide (l[k].target = x.path) && decide (x.kind = 1)) := ⟨_, rfl⟩
          have HSn := Lib.hid (smE_snoc l i x k hk1 q hq)
          generalize hz : l[k] = z at *
          have HQ := Lib.hid hq
          clear hz hcl' hb1' hq
          go_upto_region 12 with fail
          have HBz := Lib.hid (Blk.new wy 26 #[.string (bs z.path), .int .i64 z.kind, .string (bs z.target), .int .i64 z.md.mode, .int .i64 z.md.uid, .int .i64 z.md.gid, .string (bs z.md.user), .string (bs z.md.group), .int .i64 z.md.second, .int .i64 z.md.nano, .slice E' z.data.length cc'])
          have HXz := Lib.hid (HX.out.alloc (.cells #[.string (bs z.path), .int .i64 z.kind, .string (bs z.target), .int .i64 z.md.mode, .int .i64 z.md.uid, .int .i64 z.md.gid, .string (bs z.md.user), .string (bs z.md.group), .int .i64 z.md.second, .int .i64 z.md.nano, .slice E' z.data.length cc'] 26))
          have HNz := Lib.hid (HNx.out.alloc (.cells #[.string (bs z.path), .int .i64 z.kind, .string (bs z.target), .int .i64 z.md.mode, .int .i64 z.md.uid, .int .i64 z.md.gid, .string (bs z.md.user), .string (bs z.md.group), .int .i64 z.md.second, .int .i64 z.md.nano, .slice E' z.data.length cc'] 26))
          have HYz := Lib.hid (belowA HY.out (.cells #[.string (bs z.path), .int .i64 z.kind, .string (bs z.target), .int .i64 z.md.mode, .int .i64 z.md.uid, .int .i64 z.md.gid, .string (bs z.md.user), .string (bs z.md.group), .int .i64 z.md.second, .int .i64 z.md.nano, .slice E' z.data.length cc'] 26))
          generalize hwz : wy.alloc _ = wz at HBz HXz HNz HYz ⊢
          obtain ⟨gz, hgz⟩ : ∃ gz, gz = wy.heap.size := ⟨_, rfl⟩
          rw [← hgz] at HBz ⊢
          clear hwz hgz c0 c1 c3 c4 c5 c6 c7 c8 c9x cA cB
          go_cut [55] (fun s55 wx => s55 = .bool q ∧ wx = wz)
          case first =>
            obtain ⟨⟨-, d1, d2, -⟩, -⟩ := blk11 HBz.out
            obtain ⟨⟨e0, e1, -⟩, -⟩ := blk11 HXz.out
            have hq := HQ.out
            have hst := bs_eq (a := z.target) (b := x.path)
            obtain ⟨X, hX⟩ := hid_name (bs x.path)
            obtain ⟨Z, hZ⟩ := hid_name (bs z.target)
            rw [hX.out] at e0 hst
            rw [hZ.out] at d2 hst
            by_cases h4 : z.kind = 4
            · have h4b : (z.kind == 4) = true := by simp [h4]
              rw [decide_eq_true h4, Bool.true_and] at hq
              by_cases h5 : z.target = x.path
              · rw [decide_eq_true h5] at hst
                rw [decide_eq_true h5, Bool.true_and] at hq
                by_cases h6 : x.kind = 1
                · have h6b : (x.kind == 1) = true := by simp [h6]
                  rw [decide_eq_true h6] at hq
                  subst hq
                  clear h4 h5 h6
                  go_wp2_with fail
                  go_meet
                  exact ⟨rfl, rfl⟩
                · have h6b : (x.kind == 1) = false := by simpa using h6
                  rw [decide_eq_false h6] at hq
                  subst hq
                  clear h4 h5 h6
                  go_wp2_with fail
                  go_meet
                  exact ⟨rfl, rfl⟩
              · rw [decide_eq_false h5] at hst
                rw [decide_eq_false h5, Bool.false_and] at hq
                subst hq
                clear h4 h5
                go_wp2_with fail
                go_meet
                exact ⟨rfl, rfl⟩
            · have h4b : (z.kind == 4) = false := by simpa using h4
              rw [decide_eq_false h4, Bool.false_and, Bool.false_and] at hq
              subst hq
              clear h4
              go_wp2_with fail
              go_meet
              exact ⟨rfl, rfl⟩
          case rest =>
            obtain ⟨rfl, rfl⟩ := hcut
            rename World => wz
            cases q with
            | true =>
              have hsn := HSn.out
              rw [if_pos rfl] at hsn
              have HSn2 : Hid ((i : Int) + 1 = smE (l.take (k + 1)) i x) := hsn.symm
              clear hsn
              obtain ⟨⟨-, -, f2, -⟩, ⟨-, -, r2, -⟩⟩ := blk12 HNz.out
              have hw : IntKind.i64.wrap ((i : Int) + 1) = ((i : Int) + 1) := by rw [IntKind.wrap_i64]; omega
              have HN3 : Hid (Blk (wz.setCell ⟨gx, 2, none⟩ (.int .i64 ((i : Int) + 1))) gx 48 #[.string (bs x.path), .int .i64 x.kind, .int .i64 ((i : Int) + 1), .string (bs x.target), .int .i64 x.md.mode, .int .i64 x.md.uid, .int .i64 x.md.gid, .string (bs x.md.user), .string (bs x.md.group), .int .i64 x.md.second, .int .i64 x.md.nano, .slice E x.data.length cc]) := HNz.out.set_ 2 (.int .i64 ((i : Int) + 1))
              have HX3 := Lib.hid (HXz.out.far (p := ⟨gx, 2, none⟩) hgg (.int .i64 ((i : Int) + 1)))
              have HY3 := Lib.hid (HYz.out.setCell (p := ⟨gx, 2, none⟩) hgx1 (.int .i64 ((i : Int) + 1)))
              go_wp2_with fail
              go_roundw
              case rel => exact ⟨k + 1, _, by omega, by go_num, HSn2.out, HX3.out, HN3.out, HY3.out⟩
              case measure => simp [intOf]; omega
            | false =>
              have hsn := HSn.out
              rw [if_neg (by decide)] at hsn
              have HSn2 : Hid (sm = smE (l.take (k + 1)) i x) := by unfold Hid; rw [hsn, HSM.out]
              clear hsn
              go_wp2_with fail
              go_roundw
              case rel => exact ⟨k + 1, sm, by omega, by go_num, HSn2.out, HXz.out, HNz.out, HYz.out⟩
              case measure => simp [intOf]; omega
        · obtain rfl : k = n := by omega
          have hsm := HSM.out
          rw [List.take_of_length_le (by rw [HN.out]; omega)] at hsm
          have HSm := Lib.hid hsm
          have HB6 := Lib.hid (HB.out.trans (HY.out.mono HB.out.size))
          clear hsm
          -- what the node is at last
          obtain ⟨y, hy⟩ : ∃ y, y = growE l i x := ⟨_, rfl⟩
          by_cases hk4 : x.kind = 4
          · obtain ⟨hf, hf2, -, -⟩ := HAi.out hk4
            obtain ⟨f, hfe⟩ : ∃ f, f = findE l x.target := ⟨_, rfl⟩
            have hk4b : (x.kind == 4) = true := by simp [hk4]
            have hyx : y = ⟨x.path, 1, (f : Int) + 1, [], x.md, (l[f]'(by rw [hfe]; exact hf)).data⟩ := by
              rw [hy]; subst hfe; unfold growE; rw [if_pos hk4, List.getElem?_eq_getElem hf]; rfl
            have HF := Lib.hid (HFd.out x.target wy HB6.out)
            rw [← hfe] at HF
            have hf9 : f < l.length := by rw [hfe]; exact hf
            have hfi : f < i := by rw [hfe]; exact hf2
            obtain ⟨b', o', E', cc', hbo', hb1', hSl', hE', hcl'⟩ := HA.out.cells2 f hf9
            injection hbo' with hbo'
            injection hbo' with q1 q2 _
            subst q1 q2
            obtain ⟨-, -, -, -, cB⟩ := hcl' wy HB6.out
            generalize hz : l[f] = z at *
            have HZD : Hid (DatOk w (.slice E' z.data.length cc') z.data) := ⟨E', cc', rfl, hSl', hE'⟩
            have hbg : b ≠ gx := by have := HB.out.size; omega
            have hfw : IntKind.i64.wrap ((f : Int) + 1) = ((f : Int) + 1) := by rw [IntKind.wrap_i64]; omega
            have hf8 : (f : Int) < (k : Int) := by omega
            have hf7 : (0 : Int) ≤ (f : Int) := by omega
            have HCN : Hid (∀ W : World, CellsN (W.alloc (.cells #[.string (bs x.path), .int .i64 1, .int .i64 ((f : Int) + 1), .string ⟨#[]⟩, .int .i64 x.md.mode, .int .i64 x.md.uid, .int .i64 x.md.gid, .string (bs x.md.user), .string (bs x.md.group), .int .i64 x.md.second, .int .i64 x.md.nano, .slice E' z.data.length cc'] 48)) (some ⟨W.heap.size, 0, none⟩) [(y, .slice E' z.data.length cc')]) := fun W => by
              have h1 := cells_new W (y, .slice E' z.data.length cc')
              rw [hyx] at h1 ⊢
              exact h1
            have HDY : Hid (DatOk w (.slice E' z.data.length cc') y.data) := by unfold Hid; rw [hyx]; exact HZD.out
            have HY0 := Lib.hid hy
            have hi9 : i ≤ 40 := by omega
            obtain ⟨⟨e0, e1, e2, e3, e4, e5, e6, e7, e8, e9, eA, eB⟩, ⟨-, r1, r2, r3, -, -, -, -, -, -, -, rB⟩⟩ := blk12 HNx.out
            obtain ⟨⟨-, x1, x2, -⟩, -⟩ := blk11 HX.out
            have HN3 : Hid (Blk ((((wy.setCell ⟨gx, 1, none⟩ (.int .i64 1)).setCell ⟨gx, 3, none⟩ (.string ⟨#[]⟩)).setCell ⟨gx, 2, none⟩ (.int .i64 ((f : Int) + 1))).setCell ⟨gx, 11, none⟩ (.slice E' z.data.length cc')) gx 48 #[.string (bs x.path), .int .i64 1, .int .i64 ((f : Int) + 1), .string ⟨#[]⟩, .int .i64 x.md.mode, .int .i64 x.md.uid, .int .i64 x.md.gid, .string (bs x.md.user), .string (bs x.md.group), .int .i64 x.md.second, .int .i64 x.md.nano, .slice E' z.data.length cc']) :=
              (((HNx.out.set_ 1 (.int .i64 1)).set_ 3 (.string ⟨#[]⟩)).set_ 2 (.int .i64 ((f : Int) + 1))).set_ 11 (.slice E' z.data.length cc')
            have HY3 := Lib.hid ((((HY.out.setCell (p := ⟨gx, 1, none⟩) hgx1 (.int .i64 1)).setCell (p := ⟨gx, 3, none⟩) hgx1 (.string ⟨#[]⟩)).setCell (p := ⟨gx, 2, none⟩) hgx1 (.int .i64 ((f : Int) + 1))).setCell (p := ⟨gx, 11, none⟩) hgx1 (.slice E' z.data.length cc'))
            have HR3 := Lib.hid (HR.out.below HY3.out)
            have HB3 := Lib.hid (HB.out.trans (HY3.out.mono HB.out.size))
            clear hy hyx hk4 hz hcl' hfe hb1' hSl' hE' hf hf9 hfi
            go_wp2_with fail
            refine HF.out.mono ?_; rintro e' w6 ⟨rfl, rfl⟩
            go_upto_region 21 with fail
            generalize hwm : (((wy.setCell ⟨gx, 1, none⟩ (.int .i64 1)).setCell ⟨gx, 3, none⟩ (.string ⟨#[]⟩)).setCell ⟨gx, 2, none⟩ (.int .i64 ((f : Int) + 1))).setCell ⟨gx, 11, none⟩ (.slice E' z.data.length cc') = wm at HN3 HR3 HB3 ⊢
            clear hwm e0 e1 e2 e3 e4 e5 e6 e7 e8 e9 eA eB r1 r2 r3 rB x1 x2 cB
            obtain ⟨⟨e0, e1, e2, e3, e4, e5, e6, e7, e8, e9, eA, eB⟩, -⟩ := blk12 HN3.out
            go_wp2_with (at_builtin; refine Stay.go ?_)
            refine Stay.on ?_
            refine append_nodes rfl (.tmp 78) (.tmp 80) rfl w.heap.size _ xs rfl (HR3.out.alloc _) (some ⟨wm.heap.size, 0, none⟩) 1 1 [(y, .slice E' z.data.length cc')] rfl rfl (HCN.out wm) (by simp [Value.oneCell']) (fun e => by cases e) (by omega) (by simp; have := HB3.out.size; omega) ?_
            intro v7 w7 ho7 hg7
            have HR7 := Lib.hid ho7
            have HB7 : Hid (Below w.heap.size w w7) := (HB3.out.alloc HB3.out.size _).grown hg7 (by rw [hszA]; have := HB3.out.size; omega) HR3.out.above
            have HM7 : Hid ((xs ++ [((y, .slice E' z.data.length cc') : NodP)]).map (·.1) = (growL l).take (i + 1)) := by
              unfold Hid; rw [List.map_append, HM.out, List.take_succ_eq_append_getElem (by rw [growL_len]; exact hi1), HGa.out, ← HY0.out]; rfl
            have HD7 : Hid (∀ u ∈ xs ++ [((y, .slice E' z.data.length cc') : NodP)], DatOk w u.2 u.1.data) := fun u hu => by
              rcases List.mem_append.1 hu with a | a
              · exact HDT.out u a
              · obtain rfl : u = (y, .slice E' z.data.length cc') := by simpa using a
                exact HDY.out
            have hl7 : (xs ++ [((y, .slice E' z.data.length cc') : NodP)]).length = i + 1 := by rw [List.length_append, List.length_singleton]; omega
            clear ho7 hg7 e0 e1 e2 e3 e4 e5 e6 e7 e8 e9 eA eB
            go_wp2_with fail
            go_roundw
            case rel => exact ⟨i + 1, _, by omega, by go_num, hl7, HR7.out, HM7.out, HD7.out, HB7.out⟩
            case measure => simp [intOf]; omega
          · have hk4b : (x.kind == 4) = false := by simpa using hk4
            have hyx : y = ⟨x.path, x.kind, sm, x.target, x.md, x.data⟩ := by
              rw [hy, HSm.out]; unfold growE; rw [if_neg hk4]; rfl
            have HCN : Hid (∀ W : World, CellsN (W.alloc (.cells #[.string (bs x.path), .int .i64 x.kind, .int .i64 sm, .string (bs x.target), .int .i64 x.md.mode, .int .i64 x.md.uid, .int .i64 x.md.gid, .string (bs x.md.user), .string (bs x.md.group), .int .i64 x.md.second, .int .i64 x.md.nano, .slice E x.data.length cc] 48)) (some ⟨W.heap.size, 0, none⟩) [(y, .slice E x.data.length cc)]) := fun W => by
              have h1 := cells_new W (y, .slice E x.data.length cc)
              rw [hyx] at h1 ⊢
              exact h1
            have HDY : Hid (DatOk w (.slice E x.data.length cc) y.data) := by unfold Hid; rw [hyx]; exact HYD.out
            have HY0 := Lib.hid hy
            have hi9 : i ≤ 40 := by omega
            obtain ⟨⟨e0, e1, e2, e3, e4, e5, e6, e7, e8, e9, eA, eB⟩, -⟩ := blk12 HNx.out
            obtain ⟨⟨-, x1, -⟩, -⟩ := blk11 HX.out
            have HR6 := Lib.hid (HR.out.below HY.out)
            clear hy hyx hk4
            go_wp2_with (at_builtin; refine Stay.go ?_)
            refine Stay.on ?_
            refine append_nodes rfl (.tmp 78) (.tmp 80) rfl w.heap.size _ xs rfl (HR6.out.alloc _) (some ⟨wy.heap.size, 0, none⟩) 1 1 [(y, .slice E x.data.length cc)] rfl rfl (HCN.out wy) (by simp [Value.oneCell']) (fun e => by cases e) (by omega) (by simp; have := HB6.out.size; omega) ?_
            intro v7 w7 ho7 hg7
            have HR7 := Lib.hid ho7
            have HB7 : Hid (Below w.heap.size w w7) := (HB6.out.alloc HB6.out.size _).grown hg7 (by rw [hszA]; have := HB6.out.size; omega) HR6.out.above
            have HM7 : Hid ((xs ++ [((y, .slice E x.data.length cc) : NodP)]).map (·.1) = (growL l).take (i + 1)) := by
              unfold Hid; rw [List.map_append, HM.out, List.take_succ_eq_append_getElem (by rw [growL_len]; exact hi1), HGa.out, ← HY0.out]; rfl
            have HD7 : Hid (∀ z ∈ xs ++ [((y, .slice E x.data.length cc) : NodP)], DatOk w z.2 z.1.data) := fun z hz => by
              rcases List.mem_append.1 hz with a | a
              · exact HDT.out z a
              · obtain rfl : z = (y, .slice E x.data.length cc) := by simpa using a
                exact HDY.out
            have hl7 : (xs ++ [((y, .slice E x.data.length cc) : NodP)]).length = i + 1 := by rw [List.length_append, List.length_singleton]; omega
            clear ho7 hg7 e0 e1 e2 e3 e4 e5 e6 e7 e8 e9 eA eB
            go_wp2_with fail
            go_roundw
            case rel => exact ⟨i + 1, _, by omega, by go_num, hl7, HR7.out, HM7.out, HD7.out, HB7.out⟩
            case measure => simp [intOf]; omega
    · obtain rfl : i = n := by omega
      have hm9 := HM.out
      rw [List.take_of_length_le (by rw [growL_len, HN.out]; omega)] at hm9
      have HC := Lib.hid (HFin.out _ xs _ HR.out hm9 HDT.out HB.out)
      clear hm9
      go_wp2_with fail
      refine HC.out.mono ?_; rintro e w9 ⟨v, xs, rfl, h1, h2, h3⟩
      have HV := Lib.hid (And.intro h1 (And.intro h2 h3))
      clear h1 h2 h3
      go_wp2_with fail
      refine bodyPost_ret (v := .tuple #[v, .int .i64 0]) (by simp [results, Tryd.results11, go_sem, *]) rfl ?_
      exact ⟨v, xs, rfl, HV.out.1, HV.out.2.1, HV.out.2.2⟩
/-- what Tree makes of members -/
def growT (l : List EntV) : List NodeV := if entsE l = 0 then growL l else []
theorem rGrow_any (A : Option Addr) (n c : Nat) (l : List EntV) (hn : l.length = n) (hc : SlOk A n c) (hsz : ∀ x ∈ l, x.sz) (w : World) (hA : EntsAt w A l) :
    Calls Tryd.prog 11 #[.slice A n c] w fun e w' => ∃ v xs, e = .returned (.tuple #[v, .int .i64 (entsE l)]) ∧ xs.map (·.1) = growT l ∧ OwnN w' w.heap.size v xs ∧ Below w.heap.size w w' := by
  by_cases hE : entsE l = 0
  · have := rGrow_ok A n c l hn hc hsz w hA hE
    unfold growT
    rw [if_pos hE, hE]; exact this
  · have H1 := Lib.hid (rEnts_any A n c l hn hc hsz w hA)
    unfold growT
    rw [if_neg hE]
    obtain ⟨E, HEE⟩ := hid_name (entsE l)
    rw [HEE.out] at H1 hE ⊢
    have hne : (E == 0) = false := by simpa using hE
    clear hn hc hsz hA hE
    go_enter Tryd.func11, Tryd.ntmps11
    go_wp2_with fail
    refine H1.out.mono ?_; rintro e w1 ⟨rfl, hB⟩
    have HB1 := Lib.hid hB
    clear hB H1
    go_wp2_with fail
    refine bodyPost_ret (v := .tuple #[.slice none 0 0, .int .i64 E]) (by simp [results, Tryd.results11, go_sem, *]) rfl ?_
    exact ⟨_, [], rfl, rfl, OwnN.nil _ _, HB1.out⟩
end Go.Proofs.YtoikpnjnljdpaaaDoor
