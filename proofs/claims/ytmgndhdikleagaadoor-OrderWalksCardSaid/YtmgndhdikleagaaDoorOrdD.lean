/- Package order: the traversal of a tree. -/
import Derived.Test.YtmgndhdikleagaaDoorOrdB
import Derived.Laws.AppendOwnNone
set_option linter.unusedVariables false
set_option maxRecDepth 100000
namespace Go.Proofs.YtmgndhdikleagaaDoor
open Go.RowKit
open Go.OpenShut
/-- append of a list of strings to a row of strings of the call's own -/
theorem append_texts {w : World} {ops : Array Oper} {rest : List Oper} {o : Oper} {a : Act} {Q : Exit → Act → World → Prop} (hgd : o.guard = none) (s x : Operand)
    (ho : o.op = .call { callee := .builtin .append, args := #[s, x], argTypes := #[23, 23] }) (B : Nat) (v : Value) (ls : List (List UInt8)) (hs : a.eval s = v) (hown : Texts w B v ls)
    (B' : Nat) (u : Value) (ps : List (List UInt8)) (hx : a.eval x = u) (hA : Texts w B' u ps) (hbig : (ls.length + ps.length) * 16 ≤ 140737488355328) (hB : B ≤ w.heap.size)
    (h : ∀ v' w', Texts w' B v' (ls ++ ps) → w.grownBy w' v.ownBlock → wpList Tryd.prog ops Q rest (a.put o.dst v') w') : wpList Tryd.prog ops Q (o :: rest) a w := by
  obtain ⟨i0, hi, hz0, hz1, hz2⟩ := info_parts info_str
  have hA' := hA
  unfold Texts World.ownsRow at hA'
  rcases hA'.2 with ⟨rfl, h0⟩ | ⟨g, cap, cur, rfl, hBg, hg, hcap, hm, hsz, ht⟩
  · obtain rfl : ps = [] := by
      have : (strC ps).length = ps.length * 1 := hA'.1
      exact List.eq_nil_of_length_eq_zero (by omega)
    refine wpList_append_own_none hgd s x 23 ho B 9 i0 1 Tryd.underlying23 hi v _ _ hs hown hx ?_
    exact h v w (by rw [List.append_nil]; exact hown) ⟨rfl, rfl, rfl, Nat.le_refl _, fun _ _ _ => rfl⟩
  · have hl : (strC ps).length = ps.length := by simp [strC]
    refine wpList_append_own _ hgd s x 23 ho B 9 i0 _ 1 16 Tryd.underlying23 hi hz0 hz1 hz2 rfl (by decide) v _ _ hs hown ⟨g, 0, none⟩ ps.length cap (strC ps) hx (by rw [hl, Nat.mul_one]) ?_ ?_ (by unfold maxLen at *; omega) hbig hB ?_
    · intro j q hq
      have hj := (List.getElem?_eq_some_iff.1 hq).1
      rw [Addr.add_lit, Nat.zero_add, World.ownsRow.cellAt hA j (by omega)]; exact hq
    · intro q hq
      obtain ⟨p, -, rfl⟩ := List.mem_map.1 hq
      rfl
    · intro v6 w6 hown6 hgrow _
      exact h v6 w6 (by unfold Texts; rw [List.length_append, strC_app]; exact hown6) hgrow
/-- a row of strings is no node -/
theorem text_apart {w : World} {B g : Nat} {v : Value} {ls : List (List UInt8)} {cs : Array Value} (h : Texts w B v ls) (hb : Blk w g 40 cs) : some g ≠ v.ownBlock := by
  intro e
  unfold Texts World.ownsRow at h
  rcases h.2 with ⟨rfl, h0⟩ | ⟨g', cap, cur, rfl, hBg, hg, -⟩
  · cases e
  · obtain rfl : g = g' := by injection e
    have h1 : w.heap[g]? = some (.cells cs 40 (0, 0)) := hb
    rw [hg] at h1
    injection h1 with h1
    injection h1 with _ h1
    exact absurd h1 (by decide)
/-- the paths of what lies in a directory -/
def pathsT (t : List NodeV) (ks : List NodeV) : List (List UInt8) := (ks.flatMap fun x => x :: if x.kind = 2 then subs t x.path else []).map (·.path)
theorem pathsT_snoc (t ks : List NodeV) (x : NodeV) : pathsT t (ks ++ [x]) = pathsT t ks ++ [x.path] ++ if x.kind = 2 then (subs t x.path).map (·.path) else [] := by
  unfold pathsT
  rw [List.flatMap_append, List.map_append]
  by_cases h : x.kind = 2 <;> simp [h]
theorem pathsT_step (t K : List NodeV) (k : Nat) (hk : k < K.length) : pathsT t (K.take (k + 1)) = pathsT t (K.take k) ++ [K[k].path] ++ if K[k].kind = 2 then (subs t K[k].path).map (·.path) else [] := by
  rw [List.take_succ_eq_append_getElem hk, pathsT_snoc]
theorem pathsT_all {t : List NodeV} (hs : Sound t) (d : List UInt8) : pathsT t (kids t d) = (subs t d).map (·.path) := by
  unfold pathsT; rw [← subs_kids hs d]
theorem subs_len (t : List NodeV) (d : List UInt8) : (subs t d).length ≤ t.length := by unfold subs; exact List.length_filter_le _ _
theorem pathsT_len {t : List NodeV} (hs : Sound t) (d : List UInt8) (k : Nat) : (pathsT t ((kids t d).take k)).length ≤ t.length := by
  have h1 := subs_len t d
  rw [subs_kids hs d] at h1
  refine Nat.le_trans ?_ h1
  unfold pathsT
  rw [List.length_map]
  conv => rhs; rw [← List.take_append_drop k (kids t d)]
  rw [List.flatMap_append, List.length_append]
  omega
set_option maxHeartbeats 8000000 in
theorem pathsIn_upto (A : Option Addr) (n c : Nat) (l : List NodeV) (hn : l.length = n) (h40 : n ≤ 40) (hs : Sound l) : ∀ (d : Nat) (s : ByteArray) (w : World), (subs l s.data.toList).length < d → NodesAt w A l →
    Calls Tryd.prog 20 #[.slice A n c, .string s] w fun e w' => ∃ v, e = .returned v ∧ Texts w' w.heap.size v ((subs l s.data.toList).map (·.path)) ∧ Below w.heap.size w w' := by
  intro d
  induction d with
  | zero => intro s w h; omega
  | succ d ih =>
  intro s w hd hA
  have HA := Lib.hid hA
  have HSH := Lib.hid fun x hx => hs.short (x := x) hx
  have HIH : Hid (∀ x ∈ kids l s.data.toList, ∀ W, NodesAt W A l → Calls Tryd.prog 20 #[.slice A n c, .string (bs x.path)] W fun e w' => ∃ v, e = .returned v ∧ Texts w' W.heap.size v ((subs l x.path).map (·.path)) ∧ Below W.heap.size W w') := fun x hx W hW => by
    have h1 := subs_less hs hx
    have := ih (bs x.path) W (by rw [bs_list]; omega) hW
    rw [bs_list] at this; exact this
  have HNd := Lib.hid fun W h => nodesIn_any A n c l s hn h40 (fun x hx => HSH.out x hx) W h
  have HKm : Hid (∀ x ∈ kids l s.data.toList, x ∈ l) := fun x hx => (mem_kids.1 hx).1
  have hKl : (kids l s.data.toList).length ≤ 40 := by have := kids_len l s.data.toList; omega
  have HPl := Lib.hid fun k => pathsT_len hs s.data.toList k
  have HSl := Lib.hid fun p => subs_len l p
  have HV := Lib.hid (pathsT_all hs s.data.toList)
  rw [← HV.out]
  generalize hK : kids l s.data.toList = K at *
  clear hd hA hs hK ih HV
  have e20 : ∀ args w, (callFunc 20 args).run Tryd.prog w = .ok (.enter 20 args) w := enters_of Tryd.func20 (by kernel_rfl) rfl
  go_enter Tryd.func20, Tryd.ntmps20
  go_wp2_with fail
  refine (HNd.out _ HA.out).mono ?_; rintro e w3 ⟨v3, ys, rfl, hys, hR, hDt, hb⟩
  have HB3 := Lib.hid hb
  obtain ⟨A3, c3, he3, hs3, hat3⟩ := hR.at hDt
  rw [hys] at hat3
  have hyl : ys.length = K.length := by rw [← hys, List.length_map]
  rw [hyl] at he3
  obtain ⟨m, hm⟩ : ∃ m, K.length = m := ⟨_, rfl⟩
  rw [hm] at he3 hKl
  subst he3
  have HA3 := Lib.hid hat3
  have HM := Lib.hid hm
  clear hb hR hDt hs3 hat3 hys hyl hm HNd
  go_wp2_with fail
  go_loopw [5, 12] (fun ov iv wr => ∃ (k : Nat), k ≤ m ∧ iv = .int .i64 k ∧ Hid (Texts wr w3.heap.size ov (pathsT l (K.take k))) ∧ Hid (Below w3.heap.size w3 wr)) (fun _ iv _ => m - (intOf iv).toNat)
  case atStart => exact ⟨0, Nat.zero_le _, rfl, by rw [List.take_zero]; exact Texts.nil _ _, Below.refl _ _⟩
  case round =>
    obtain ⟨k, hk, rfl, HT, HBa3⟩ := hrel
    by_cases hlt : k < m
    · have hk1 : k < K.length := by rw [HM.out]; exact hlt
      obtain ⟨b, o, E, cc, hbo, hb1, hSl, hE, hcl⟩ := HA3.out.cells2 k hk1
      subst hbo
      obtain ⟨c0, c1, c2', c4', ⟨c4, c5, c6, c7, c8, c9, cA⟩, cB⟩ := hcl wr HBa3.out
      have HST := Lib.hid (pathsT_step l K k hk1)
      have hsh := HSH.out _ (HKm.out _ (List.getElem_mem hk1))
      have HIy := Lib.hid (HIH.out _ (List.getElem_mem hk1))
      have hlen : (pathsT l (K.take k)).length ≤ 40 := by have := HPl.out k; omega
      have hsl2 : (subs l K[k].path).length ≤ 40 := by have := HSl.out K[k].path; omega
      generalize hy : K[k] = y at *
      have HP := Lib.hid fun W => Clone_any (bs y.path) W (by rw [bs_size]; omega)
      clear hy hcl hSl hE hb1
      go_upto_region 5 with fail
      have HBl := Lib.hid (Blk.new wr 40 #[.string (bs y.path), .int .i64 y.kind, .int .i64 y.same, .string (bs y.target), .int .i64 y.md.mode, .int .i64 y.md.uid, .int .i64 y.md.gid, .string (bs y.md.user), .string (bs y.md.group), .int .i64 y.md.second, .int .i64 y.md.nano, .slice E y.data.length cc])
      have HBc := Lib.hid (belowA HBa3.out (.cells #[.string (bs y.path), .int .i64 y.kind, .int .i64 y.same, .string (bs y.target), .int .i64 y.md.mode, .int .i64 y.md.uid, .int .i64 y.md.gid, .string (bs y.md.user), .string (bs y.md.group), .int .i64 y.md.second, .int .i64 y.md.nano, .slice E y.data.length cc] 40))
      have HTa := Lib.hid (HT.out.alloc (.cells #[.string (bs y.path), .int .i64 y.kind, .int .i64 y.same, .string (bs y.target), .int .i64 y.md.mode, .int .i64 y.md.uid, .int .i64 y.md.gid, .string (bs y.md.user), .string (bs y.md.group), .int .i64 y.md.second, .int .i64 y.md.nano, .slice E y.data.length cc] 40))
      generalize hwa : wr.alloc _ = wa at HBl HBc HTa ⊢
      obtain ⟨⟨e0, e1, e2, e3, e4, e5, e6, e7, e8, e9, eA, eB⟩, -⟩ := blk12 HBl.out
      clear hwa c0 c1 c2' c4' c4 c5 c6 c7 c8 c9 cA cB
      go_wp2_with fail
      refine (HP.out _).mono ?_; rintro e w6 ⟨rfl, hb⟩
      have HC6 := Lib.hid (HBc.out.trans (hb.mono HBc.out.size))
      have HT6 := Lib.hid (HTa.out.below hb)
      have HBl6 := Lib.hid (HBl.out.below hb HBl.out.lt)
      have hblt := HBl6.out.lt
      clear hb e0 e1 e2 e3 e4 e5 e6 e7 e8 e9 eA eB
      go_wp2_with (at_builtin; refine Stay.go ?_)
      refine Stay.on ?_
      refine append_text rfl (.tmp 16) (.tmp 20) rfl w3.heap.size _ _ rfl (HT6.out.alloc _) w6.heap.size y.path rfl (by rw [World.cell?_alloc_at (hn := rfl)]; rfl) (by omega) (by simp; have := HC6.out.size; omega) ?_
      intro v7 w7 ho7 hg7
      have HT7 := Lib.hid ho7
      have HC7 : Hid (Below w3.heap.size w3 w7) := (HC6.out.alloc HC6.out.size _).grown hg7 (by rw [hszA]; have := HC6.out.size; omega) HT6.out.above
      have HBl7 : Hid (Blk w7 wr.heap.size 40 #[.string (bs y.path), .int .i64 y.kind, .int .i64 y.same, .string (bs y.target), .int .i64 y.md.mode, .int .i64 y.md.uid, .int .i64 y.md.gid, .string (bs y.md.user), .string (bs y.md.group), .int .i64 y.md.second, .int .i64 y.md.nano, .slice E y.data.length cc]) := (HBl6.out.alloc _).grown hg7 (text_apart HT6.out HBl6.out)
      obtain ⟨⟨e0, e1, e2, e3, e4, e5, e6, e7, e8, e9, eA, eB⟩, -⟩ := blk12 HBl7.out
      have HB7 : Hid (Below w.heap.size w w7) := HB3.out.trans (HC7.out.mono HB3.out.size)
      clear ho7 hg7 HBl HBl6 HT6 HC6 HBc HTa
      by_cases hk2 : y.kind = 2
      · rw [if_pos hk2] at HST
        have hlen2 : (pathsT l (K.take k) ++ [y.path]).length + ((subs l y.path).map (·.path)).length ≤ 100 := by rw [List.length_append, List.length_map, List.length_singleton]; omega
        rw [hk2] at e1
        clear hk2
        go_wp2_with (at_builtin; refine Stay.go ?_)
        refine (HIy.out w7 (HA.out.below HB7.out)).mono ?_; rintro e w8 ⟨v8, rfl, hT8, hb⟩
        have HC8 := Lib.hid (HC7.out.trans (hb.mono HC7.out.size))
        have HT8 := Lib.hid (HT7.out.below hb)
        have HU8 := Lib.hid hT8
        clear hb hT8 e0 e1 e2 e3 e4 e5 e6 e7 e8 e9 eA eB
        go_wp2_with (at_builtin; refine Stay.go ?_)
        refine Stay.on ?_
        refine append_texts rfl (.tmp 25) (.tmp 29) rfl w3.heap.size _ _ rfl HT8.out w7.heap.size _ _ rfl HU8.out (by omega) (by have := HC8.out.size; omega) ?_
        intro v9 w9 ho9 hg9
        have HT9 : Hid (Texts w9 w3.heap.size v9 (pathsT l (K.take (k + 1)))) := by unfold Hid; rw [HST.out]; exact ho9
        have HC9 : Hid (Below w3.heap.size w3 w9) := HC8.out.grown hg9 (by have := HC8.out.size; omega) HT8.out.above
        clear ho9 hg9
        go_wp2_with fail
        go_roundw
        case rel => exact ⟨k + 1, by omega, by go_num, HT9, HC9⟩
        case measure => simp [intOf]; omega
      · rw [if_neg hk2, List.append_nil] at HST
        have hk3 : (y.kind == 2) = false := by simpa using hk2
        have h8 := HT7.out
        rw [← HST.out] at h8
        have HT9 := Lib.hid h8
        clear h8
        go_wp2_with fail
        go_roundw
        case rel => exact ⟨k + 1, by omega, by go_num, HT9, HC7⟩
        case measure => simp [intOf]; omega
    · obtain rfl : k = m := by omega
      have h2 := HT.out
      rw [List.take_of_length_le (by rw [HM.out]; omega)] at h2
      have HTl := Lib.hid h2
      clear h2
      go_wp2_with fail
      go_ret
      exact ⟨_, rfl, own_mono HTl.out HB3.out.size, HB3.out.trans (HBa3.out.mono HB3.out.size)⟩
set_option maxHeartbeats 4000000 in
theorem Walk_any (A : Option Addr) (n c : Nat) (l : List NodeV) (hn : l.length = n) (hc : SlOk A n c) (hsz : ∀ x ∈ l, x.sz) (w : World) (hA : NodesAt w A l) :
    Calls Tryd.prog 8 #[.slice A n c] w fun e w' => ∃ v, e = .returned (.tuple #[v, .int .i64 (treeE l)]) ∧ Texts w' w.heap.size v (walkR l) ∧ Below w.heap.size w w' := by
  have HA := Lib.hid hA
  have HCk := Lib.hid fun W h => trCheck_any A n c l hn hc hsz W h
  by_cases h0 : treeE l = 0
  · have h40 : n ≤ 40 := by have := ((treeE_zero l).1 h0).1; omega
    have hs := ((treeE_zero l).1 h0).2
    have HP : Hid (∀ W, NodesAt W A l → Calls Tryd.prog 20 #[.slice A n c, .string ⟨#[]⟩] W fun e w' => ∃ v, e = .returned v ∧ Texts w' W.heap.size v (walkR l) ∧ Below W.heap.size W w') := fun W hW => by
      have := pathsIn_upto A n c l hn h40 hs _ ⟨#[]⟩ W (Nat.lt_succ_self _) hW
      rw [show ((⟨#[]⟩ : ByteArray).data.toList) = [] from rfl, subs_all hs] at this
      rw [walkR_ok h0]; exact this
    rw [h0] at HCk ⊢
    clear h0 hA hn hsz hc hs
    go_enter Tryd.func8, Tryd.ntmps8
    go_wp2_with fail
    refine (HCk.out _ HA.out).mono ?_; rintro e w1 ⟨rfl, hb⟩
    have HB1 := Lib.hid hb
    clear hb
    go_wp2_with fail
    refine (HP.out _ (HA.out.below HB1.out)).mono ?_; rintro e w2 ⟨v, rfl, hT, hb⟩
    have HB2 := Lib.hid (HB1.out.trans (hb.mono HB1.out.size))
    have HT := Lib.hid hT
    clear hb hT
    go_wp2_with fail
    go_ret2
    exact ⟨_, rfl, own_mono HT.out HB1.out.size, HB2.out⟩
  · have HV := Lib.hid (walkR_no h0)
    have h1 : (treeE l != 0) = true := by simpa using h0
    generalize treeE l = t at *
    clear h0 hA hn hsz hc
    go_enter Tryd.func8, Tryd.ntmps8
    go_wp2_with fail
    refine (HCk.out _ HA.out).mono ?_; rintro e w1 ⟨rfl, hb⟩
    have HB1 := Lib.hid hb
    clear hb
    go_wp2_with fail
    go_ret2
    exact ⟨_, rfl, by rw [HV.out]; exact Texts.nil _ _, HB1.out⟩
end Go.Proofs.YtmgndhdikleagaaDoor
