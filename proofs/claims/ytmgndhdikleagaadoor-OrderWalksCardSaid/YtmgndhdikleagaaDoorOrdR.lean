/- The reference's OrderNames, OrderWalk and OrderDepth. -/
import Derived.Test.YtmgndhdikleagaaDoorOrdM
import Derived.Test.YtmgndhdikleagaaDoorNodH
import Derived.Test.YtmgndhdikleagaaDoorSplB
import Derived.Test.YtmgndhdikleagaaDoorTrgE
import Derived.Deep.DeepCutAuto
set_option linter.unusedVariables false
set_option maxRecDepth 100000
namespace Go.Proofs.YtmgndhdikleagaaDoor
open Go.RowKit
open Go.OpenShut
theorem Texts.alloc {w : World} {B : Nat} {v : Value} {ls : List (List UInt8)} (h : Texts w B v ls) (o : Obj) : Texts (w.alloc o) B v ls := h.below (belowA (Below.refl _ _) o)
theorem Texts.above {w : World} {B : Nat} {v : Value} {ls : List (List UInt8)} (h : Texts w B v ls) : ∀ g, v.ownBlock = some g → B ≤ g := fun g e => (World.ownsRow.lt h g e).1
/-- append of a string to a row of strings of the call's own -/
theorem append_text {w : World} {ops : Array Oper} {rest : List Oper} {o : Oper} {a : Act} {Q : Exit → Act → World → Prop} (hgd : o.guard = none) (s x : Operand)
    (ho : o.op = .call { callee := .builtin .append, args := #[s, x], argTypes := #[23, 23] }) (B : Nat) (v : Value) (ls : List (List UInt8)) (hs : a.eval s = v) (hown : Texts w B v ls)
    (g0 : Nat) (p : List UInt8) (hx : a.eval x = .slice (some ⟨g0, 0, none⟩) 1 1) (hA : w.cell? ⟨g0, 0, none⟩ = some (strV p)) (hbig : (ls.length + 1) * 16 ≤ 140737488355328) (hB : B ≤ w.heap.size)
    (h : ∀ v' w', Texts w' B v' (ls ++ [p]) → w.grownBy w' v.ownBlock → wpList Tryd.prog ops Q rest (a.put o.dst v') w') : wpList Tryd.prog ops Q (o :: rest) a w := by
  obtain ⟨i0, hi, hz0, hz1, hz2⟩ := info_parts info_str
  refine wpList_append_own _ hgd s x 23 ho B 9 i0 _ 1 16 Tryd.underlying23 hi hz0 hz1 hz2 rfl (by decide) v _ _ hs hown ⟨g0, 0, none⟩ 1 1 [strV p] hx rfl ?_ ?_ (by unfold maxLen; omega) hbig hB ?_
  · intro j u hu
    cases j with
    | zero => injection hu with hu; subst hu; exact hA
    | succ j => simp at hu
  · intro u hu; obtain rfl : u = strV p := by simpa using hu
    rfl
  · intro v6 w6 hown6 hgrow _
    exact h v6 w6 (by unfold Texts; rw [List.length_append, strC_app]; exact hown6) hgrow
theorem Sound.short {t : List NodeV} (hs : Sound t) {x : NodeV} (hx : x ∈ t) : x.path.length ≤ 400 := by
  have h := hs.path hx
  unfold pathE at h
  split at h
  · omega
  · omega
/-- what Names says of a directory -/
def namesE (t : List NodeV) (d : List UInt8) : Int :=
  if treeE t ≠ 0 then treeE t else if d = [] then 0 else match t[findL t d]? with | none => 5 | some x => if x.kind = 2 then 0 else 10
def namesR (t : List NodeV) (d : List UInt8) : List (List UInt8) := if namesE t d = 0 then namesT t d else []
def walkR (t : List NodeV) : List (List UInt8) := if treeE t = 0 then t.map (·.path) else []
def deepT (t : List NodeV) : Nat := t.foldl (fun m x => max m (partsL 47 x.path).length) 0
def deepR (t : List NodeV) : Nat := if treeE t = 0 then deepT t else 0
theorem walkR_ok {t : List NodeV} (h : treeE t = 0) : walkR t = t.map (·.path) := if_pos h
theorem walkR_no {t : List NodeV} (h : treeE t ≠ 0) : walkR t = [] := if_neg h
theorem deepR_ok {t : List NodeV} (h : treeE t = 0) : deepR t = deepT t := if_pos h
theorem deepR_no {t : List NodeV} (h : treeE t ≠ 0) : deepR t = 0 := if_neg h
theorem deepT_step (t : List NodeV) (k : Nat) (hk : k < t.length) : deepT (t.take (k + 1)) = max (deepT (t.take k)) (partsL 47 t[k].path).length := by
  unfold deepT
  rw [List.take_succ_eq_append_getElem hk, List.foldl_append]; rfl
theorem walk_step (t : List NodeV) (k : Nat) (hk : k < t.length) : (t.take (k + 1)).map (·.path) = (t.take k).map (·.path) ++ [t[k].path] := by
  rw [List.take_succ_eq_append_getElem hk, List.map_append]; rfl
theorem names_step (t : List NodeV) (d : List UInt8) (k : Nat) (hk : k < t.length) : namesT (t.take (k + 1)) d = if upL t[k].path = d then namesT (t.take k) d ++ [baseL t[k].path] else namesT (t.take k) d := by
  unfold namesT kids
  rw [List.take_succ_eq_append_getElem hk, List.filter_append, List.map_append]
  by_cases h : upL t[k].path = d <;> simp [h]
theorem names_len (t : List NodeV) (d : List UInt8) : (namesT t d).length ≤ t.length := by
  unfold namesT kids; rw [List.length_map]; exact List.length_filter_le _ _
set_option maxHeartbeats 4000000 in
theorem rWalk_any (A : Option Addr) (n c : Nat) (l : List NodeV) (hn : l.length = n) (hc : SlOk A n c) (hsz : ∀ x ∈ l, x.sz) (w : World) (hA : NodesAt w A l) :
    Calls Tryd.prog 10 #[.slice A n c] w fun e w' => ∃ v, e = .returned (.tuple #[v, .int .i64 (treeE l)]) ∧ Texts w' w.heap.size v (walkR l) ∧ Below w.heap.size w w' := by
  have HA := Lib.hid hA
  have HN := Lib.hid hn
  have HCk := Lib.hid fun W h => rTree_any A n c l hn hc hsz W h
  by_cases h0 : treeE l = 0
  · have h40 : n ≤ 40 := by have := ((treeE_zero l).1 h0).1; omega
    have HV := Lib.hid (walkR_ok h0)
    rw [h0] at HCk ⊢
    clear h0 hA hn hsz hc
    go_enter Tryd.func10, Tryd.ntmps10
    go_wp2_with fail
    refine (HCk.out _ HA.out).mono ?_; rintro e w1 ⟨rfl, hb⟩
    have HB1 := Lib.hid hb
    clear hb
    go_wp2_with fail
    go_loopw [5, 15] (fun ov iv wr => ∃ (k : Nat), k ≤ n ∧ iv = .int .i64 k ∧ Hid (Texts wr w.heap.size ov ((l.take k).map (·.path))) ∧ Hid (Below w.heap.size w wr)) (fun _ iv _ => n - (intOf iv).toNat)
    case atStart => exact ⟨0, Nat.zero_le _, rfl, by rw [List.take_zero]; exact Texts.nil _ _, HB1.out⟩
    case round =>
      obtain ⟨k, hk, rfl, HT, HB⟩ := hrel
      by_cases hlt : k < n
      · have hk1 : k < l.length := by rw [HN.out]; exact hlt
        obtain ⟨b, o, E, cc, rfl, hb1, hSl, hE, hcl⟩ := HA.out.cells2 k hk1
        obtain ⟨c0, c1, c2', c3, ⟨c4, c5, c6, c7, c8, c9, cA⟩, cB⟩ := hcl wr HB.out
        have HST := Lib.hid (walk_step l k hk1)
        have hlen : ((l.take k).map (·.path)).length ≤ 40 := by rw [List.length_map, List.length_take]; omega
        generalize hy : l[k] = y at *
        clear hy hcl hSl hE hb1
        go_upto_region 8 with fail
        have HBl := Lib.hid (Blk.new wr 40 #[.string (bs y.path), .int .i64 y.kind, .int .i64 y.same, .string (bs y.target), .int .i64 y.md.mode, .int .i64 y.md.uid, .int .i64 y.md.gid, .string (bs y.md.user), .string (bs y.md.group), .int .i64 y.md.second, .int .i64 y.md.nano, .slice E y.data.length cc])
        have HBa := Lib.hid (belowA HB.out (.cells #[.string (bs y.path), .int .i64 y.kind, .int .i64 y.same, .string (bs y.target), .int .i64 y.md.mode, .int .i64 y.md.uid, .int .i64 y.md.gid, .string (bs y.md.user), .string (bs y.md.group), .int .i64 y.md.second, .int .i64 y.md.nano, .slice E y.data.length cc] 40))
        have HTa := Lib.hid (HT.out.alloc (.cells #[.string (bs y.path), .int .i64 y.kind, .int .i64 y.same, .string (bs y.target), .int .i64 y.md.mode, .int .i64 y.md.uid, .int .i64 y.md.gid, .string (bs y.md.user), .string (bs y.md.group), .int .i64 y.md.second, .int .i64 y.md.nano, .slice E y.data.length cc] 40))
        generalize hwa : wr.alloc _ = wa at HBl HBa HTa ⊢
        obtain ⟨⟨e0, e1, e2, e3, e4, e5, e6, e7, e8, e9, eA, eB⟩, -⟩ := blk12 HBl.out
        clear hwa c0 c1 c2' c3 c4 c5 c6 c7 c8 c9 cA cB
        go_wp2_with (at_builtin; refine Stay.go ?_)
        refine Stay.on ?_
        refine append_text rfl (.tmp 19) (.tmp 22) rfl w.heap.size _ _ rfl (HTa.out.alloc _) wa.heap.size y.path rfl (by rw [World.cell?_alloc_at (hn := rfl)]; rfl) (by omega) (by simp; have := HBa.out.size; omega) ?_
        intro v6 w6 ho6 hg6
        have HT6 : Hid (Texts w6 w.heap.size v6 ((l.take (k + 1)).map (·.path))) := by unfold Hid; rw [HST.out]; exact ho6
        have HB6 : Hid (Below w.heap.size w w6) := (HBa.out.alloc HBa.out.size _).grown hg6 (by rw [hszA]; have := HBa.out.size; omega) HTa.out.above
        clear ho6 hg6 e0 e1 e2 e3 e4 e5 e6 e7 e8 e9 eA eB
        go_wp2_with fail
        go_roundw
        case rel => exact ⟨k + 1, by omega, by go_num, HT6, HB6⟩
        case measure => simp [intOf]; omega
      · obtain rfl : k = n := by omega
        have h2 := HT.out
        rw [List.take_of_length_le (by rw [HN.out]; omega), ← HV.out] at h2
        have HTl := Lib.hid h2
        clear h2
        go_wp2_with fail
        go_ret2
        exact ⟨_, rfl, HTl.out, HB.out⟩
  · have HV := Lib.hid (walkR_no h0)
    have h1 : (treeE l != 0) = true := by simpa using h0
    generalize treeE l = t at *
    clear h0 hA hn hsz hc
    go_enter Tryd.func10, Tryd.ntmps10
    go_wp2_with fail
    refine (HCk.out _ HA.out).mono ?_; rintro e w1 ⟨rfl, hb⟩
    have HB1 := Lib.hid hb
    clear hb
    go_wp2_with fail
    go_ret2
    exact ⟨_, rfl, by rw [HV.out]; exact Texts.nil _ _, HB1.out⟩
set_option maxHeartbeats 4000000 in
theorem rDepth_any (A : Option Addr) (n c : Nat) (l : List NodeV) (hn : l.length = n) (hc : SlOk A n c) (hsz : ∀ x ∈ l, x.sz) (w : World) (hA : NodesAt w A l) :
    Calls Tryd.prog 11 #[.slice A n c] w fun e w' => e = .returned (.tuple #[.int .i64 (deepR l : Nat), .int .i64 (treeE l)]) ∧ Below w.heap.size w w' := by
  have HA := Lib.hid hA
  have HN := Lib.hid hn
  have HCk := Lib.hid fun W h => rTree_any A n c l hn hc hsz W h
  by_cases h0 : treeE l = 0
  · have h40 : n ≤ 40 := by have := ((treeE_zero l).1 h0).1; omega
    have HSH := Lib.hid fun x hx => ((treeE_zero l).1 h0).2.short (x := x) hx
    have HV := Lib.hid (deepR_ok h0)
    rw [h0] at HCk ⊢
    clear h0 hA hn hsz hc
    go_enter Tryd.func11, Tryd.ntmps11
    go_wp2_with fail
    refine (HCk.out _ HA.out).mono ?_; rintro e w1 ⟨rfl, hb⟩
    have HB1 := Lib.hid hb
    clear hb
    go_wp2_with fail
    go_loopw [5, 16] (fun ov iv wr => ∃ (k m : Nat), k ≤ n ∧ m ≤ 401 ∧ ov = .int .i64 m ∧ iv = .int .i64 k ∧ Hid (deepT (l.take k) = m) ∧ Hid (Below w.heap.size w wr)) (fun _ iv _ => n - (intOf iv).toNat)
    case atStart => exact ⟨0, 0, Nat.zero_le _, by omega, rfl, rfl, by rw [List.take_zero]; rfl, HB1.out⟩
    case round =>
      obtain ⟨k, m, hk, hm, rfl, rfl, HT, HB⟩ := hrel
      by_cases hlt : k < n
      · have hk1 : k < l.length := by rw [HN.out]; exact hlt
        obtain ⟨b, o, E, cc, rfl, hb1, hSl, hE, hcl⟩ := HA.out.cells2 k hk1
        obtain ⟨c0, c1, c2', c3, ⟨c4, c5, c6, c7, c8, c9, cA⟩, cB⟩ := hcl wr HB.out
        have HST := Lib.hid (deepT_step l k hk1)
        have hsh := HSH.out _ (List.getElem_mem hk1)
        generalize hy : l[k] = y at *
        have HP := Lib.hid fun W => parts_any (bs y.path) 47 47 W (by rw [bs_size]; omega) rfl
        simp only [bs_list] at HP
        obtain ⟨q, hq⟩ : ∃ q, q = (partsL 47 y.path).length := ⟨_, rfl⟩
        have hq2 : q ≤ 401 := by rw [hq]; have := partsL_le 47 y.path; omega
        rw [HT.out, ← hq] at HST
        clear hy hcl hSl hE hb1
        go_upto_region 8 with fail
        have HBl := Lib.hid (Blk.new wr 40 #[.string (bs y.path), .int .i64 y.kind, .int .i64 y.same, .string (bs y.target), .int .i64 y.md.mode, .int .i64 y.md.uid, .int .i64 y.md.gid, .string (bs y.md.user), .string (bs y.md.group), .int .i64 y.md.second, .int .i64 y.md.nano, .slice E y.data.length cc])
        have HBa := Lib.hid (belowA HB.out (.cells #[.string (bs y.path), .int .i64 y.kind, .int .i64 y.same, .string (bs y.target), .int .i64 y.md.mode, .int .i64 y.md.uid, .int .i64 y.md.gid, .string (bs y.md.user), .string (bs y.md.group), .int .i64 y.md.second, .int .i64 y.md.nano, .slice E y.data.length cc] 40))
        generalize hwa : wr.alloc _ = wa at HBl HBa ⊢
        obtain ⟨⟨e0, e1, e2, e3, e4, e5, e6, e7, e8, e9, eA, eB⟩, -⟩ := blk12 HBl.out
        clear hwa c0 c1 c2' c3 c4 c5 c6 c7 c8 c9 cA cB
        go_wp2_with fail
        refine (HP.out _).mono ?_; rintro e w6 ⟨v, rfl, ht, hb⟩
        obtain ⟨A6, c6, rfl, -⟩ := ht.any
        rw [← hq]
        have HB6 := Lib.hid (HBa.out.trans (hb.mono HBa.out.size))
        clear hb ht hq e0 e1 e2 e3 e4 e5 e6 e7 e8 e9 eA eB
        by_cases hlt2 : m < q
        · have HT6 : Hid (deepT (l.take (k + 1)) = q) := by unfold Hid; rw [HST.out]; omega
          go_wp2_with fail
          go_roundw
          case rel => exact ⟨k + 1, q, by omega, hq2, rfl, by go_num, HT6, HB6⟩
          case measure => simp [intOf]; omega
        · have HT6 : Hid (deepT (l.take (k + 1)) = m) := by unfold Hid; rw [HST.out]; omega
          go_wp2_with fail
          go_roundw
          case rel => exact ⟨k + 1, m, by omega, hm, rfl, by go_num, HT6, HB6⟩
          case measure => simp [intOf]; omega
      · obtain rfl : k = n := by omega
        have h2 := HT.out
        rw [List.take_of_length_le (by rw [HN.out]; omega), ← HV.out] at h2
        subst h2
        go_wp2_with fail
        go_ret2
        exact ⟨rfl, HB.out⟩
  · have HV := Lib.hid (deepR_no h0)
    have h1 : (treeE l != 0) = true := by simpa using h0
    generalize treeE l = t at *
    clear h0 hA hn hsz hc
    go_enter Tryd.func11, Tryd.ntmps11
    go_wp2_with fail
    refine (HCk.out _ HA.out).mono ?_; rintro e w1 ⟨rfl, hb⟩
    have HB1 := Lib.hid hb
    clear hb
    go_wp2_with fail
    go_ret2
    exact ⟨by rw [HV.out]; rfl, HB1.out⟩
theorem namesE_bad {t : List NodeV} {d : List UInt8} (h : treeE t ≠ 0) : namesE t d = treeE t := if_pos h
theorem namesE_none {t : List NodeV} {d : List UInt8} (h : treeE t = 0) (hd : d ≠ []) (hf : findL t d = t.length) : namesE t d = 5 := by
  unfold namesE; rw [if_neg (by simp [h]), if_neg hd, hf, List.getElem?_eq_none (Nat.le_refl _)]
theorem namesE_up {t : List NodeV} {d : List UInt8} (h : treeE t = 0) (hd : d ≠ []) (hf : findL t d < t.length) (hk : (t[findL t d]'hf).kind ≠ 2) : namesE t d = 10 := by
  unfold namesE; rw [if_neg (by simp [h]), if_neg hd, List.getElem?_eq_getElem hf]; exact if_neg hk
theorem namesE_ok {t : List NodeV} {d : List UInt8} (h : treeE t = 0) (hd : d ≠ []) (hf : findL t d < t.length) (hk : (t[findL t d]'hf).kind = 2) : namesE t d = 0 := by
  unfold namesE; rw [if_neg (by simp [h]), if_neg hd, List.getElem?_eq_getElem hf]; exact if_pos hk
theorem namesE_top {t : List NodeV} (h : treeE t = 0) : namesE t [] = 0 := by unfold namesE; rw [if_neg (by simp [h]), if_pos rfl]
theorem namesR_ok {t : List NodeV} {d : List UInt8} (h : namesE t d = 0) : namesR t d = namesT t d := if_pos h
theorem namesR_no {t : List NodeV} {d : List UInt8} (h : namesE t d ≠ 0) : namesR t d = [] := if_neg h
set_option maxHeartbeats 8000000 in
theorem rNames_any (A : Option Addr) (n c : Nat) (l : List NodeV) (s : ByteArray) (hn : l.length = n) (hc : SlOk A n c) (hsz : ∀ x ∈ l, x.sz) (w : World) (hA : NodesAt w A l) :
    Calls Tryd.prog 6 #[.slice A n c, .string s] w fun e w' => ∃ v, e = .returned (.tuple #[v, .int .i64 (namesE l s.data.toList)]) ∧ Texts w' w.heap.size v (namesR l s.data.toList) ∧ Below w.heap.size w w' := by
  have HA := Lib.hid hA
  have HN := Lib.hid hn
  have HCk := Lib.hid fun W h => rTree_any A n c l hn hc hsz W h
  by_cases h0 : treeE l = 0
  · have h40 : n ≤ 40 := by have := ((treeE_zero l).1 h0).1; omega
    have HSH := Lib.hid fun x hx => ((treeE_zero l).1 h0).2.short (x := x) hx
    have HFd := Lib.hid fun W h => rFind_any A n c l s.data.toList hn (by omega) W h
    rw [bs_of] at HFd
    rw [h0] at HCk
    by_cases hd : s.data.toList = []
    · have HE := Lib.hid (show namesE l s.data.toList = 0 by rw [hd]; exact namesE_top h0)
      have HV := Lib.hid (namesR_ok HE.out)
      obtain ⟨fi, hfi⟩ : ∃ fi, fi = findL l s.data.toList := ⟨_, rfl⟩
      rw [← hfi] at HFd
      have hd1 : s.toList = [] := toList_nil hd
      clear h0 hA hn hsz hc hd hfi
      go_enter Tryd.func6, Tryd.ntmps6
      go_wp2_with fail
      refine (HCk.out _ HA.out).mono ?_; rintro e w1 ⟨rfl, hb⟩
      have HB1 := Lib.hid hb
      clear hb
      go_wp2_with fail
      refine (HFd.out _ (HA.out.below HB1.out)).mono ?_; rintro e w2 ⟨rfl, rfl⟩
      go_wp2_with fail
      clear hd1
      go_loopw [8, 35] (fun ov iv wr => ∃ (k : Nat), k ≤ n ∧ iv = .int .i64 k ∧ Hid (Texts wr w.heap.size ov (namesT (l.take k) s.data.toList)) ∧ Hid (Below w.heap.size w wr)) (fun _ iv _ => n - (intOf iv).toNat)
      case atStart => exact ⟨0, Nat.zero_le _, rfl, by rw [List.take_zero]; exact Texts.nil _ _, HB1.out⟩
      case round =>
        obtain ⟨k, hk, rfl, HT, HB⟩ := hrel
        by_cases hlt : k < n
        · have hk1 : k < l.length := by rw [HN.out]; exact hlt
          obtain ⟨b, o, E, cc, hbo, hb1, hSl, hE, hcl⟩ := HA.out.cells2 k hk1
          subst hbo
          obtain ⟨c0, c1, c2', c3, ⟨c4, c5, c6, c7, c8, c9, cA⟩, cB⟩ := hcl wr HB.out
          have HST := Lib.hid (names_step l s.data.toList k hk1)
          have hlen : (namesT (l.take k) s.data.toList).length ≤ 40 := by
            have := names_len (l.take k) s.data.toList
            rw [List.length_take] at this; omega
          have hsh := HSH.out _ (List.getElem_mem hk1)
          generalize hy : l[k] = y at *
          have HP := Lib.hid fun W => rSplit_any (bs y.path) W (by rw [bs_size]; omega)
          simp only [bs_list] at HP
          have hqp : ((⟨(upL y.path).toArray⟩ : ByteArray).toList == s.toList) = decide (upL y.path = s.data.toList) := by
            have := bs_eq (a := upL y.path) (b := s.data.toList)
            rw [bs_of] at this; exact this
          obtain ⟨U, HU⟩ := hid_name (⟨(upL y.path).toArray⟩ : ByteArray)
          rw [HU.out] at HP hqp
          clear hy hcl hSl hE hb1
          go_upto_region 14 with fail
          have HBl := Lib.hid (Blk.new wr 40 #[.string (bs y.path), .int .i64 y.kind, .int .i64 y.same, .string (bs y.target), .int .i64 y.md.mode, .int .i64 y.md.uid, .int .i64 y.md.gid, .string (bs y.md.user), .string (bs y.md.group), .int .i64 y.md.second, .int .i64 y.md.nano, .slice E y.data.length cc])
          have HBa := Lib.hid (belowA HB.out (.cells #[.string (bs y.path), .int .i64 y.kind, .int .i64 y.same, .string (bs y.target), .int .i64 y.md.mode, .int .i64 y.md.uid, .int .i64 y.md.gid, .string (bs y.md.user), .string (bs y.md.group), .int .i64 y.md.second, .int .i64 y.md.nano, .slice E y.data.length cc] 40))
          have HTa := Lib.hid (HT.out.alloc (.cells #[.string (bs y.path), .int .i64 y.kind, .int .i64 y.same, .string (bs y.target), .int .i64 y.md.mode, .int .i64 y.md.uid, .int .i64 y.md.gid, .string (bs y.md.user), .string (bs y.md.group), .int .i64 y.md.second, .int .i64 y.md.nano, .slice E y.data.length cc] 40))
          generalize hwa : wr.alloc _ = wa at HBl HBa HTa ⊢
          obtain ⟨⟨e0, e1, e2, e3, e4, e5, e6, e7, e8, e9, eA, eB⟩, -⟩ := blk12 HBl.out
          clear hwa c0 c1 c2' c3 c4 c5 c6 c7 c8 c9 cA cB
          go_wp2_with fail
          refine (HP.out _).mono ?_; rintro e w6 ⟨rfl, hb⟩
          have HB6 := Lib.hid (HBa.out.trans (hb.mono HBa.out.size))
          have HT6 := Lib.hid (HTa.out.below hb)
          clear hb e0 e1 e2 e3 e4 e5 e6 e7 e8 e9 eA eB
          by_cases hu : upL y.path = s.data.toList
          · rw [decide_eq_true hu] at hqp
            rw [if_pos hu] at HST
            clear hu
            go_wp2_with (at_builtin; refine Stay.go ?_)
            refine Stay.on ?_
            refine append_text rfl (.tmp 48) (.tmp 50) rfl w.heap.size _ _ rfl (HT6.out.alloc _) w6.heap.size (baseL y.path) rfl (by rw [World.cell?_alloc_at (hn := rfl)]; rfl) (by omega) (by simp; have := HB6.out.size; omega) ?_
            intro v7 w7 ho7 hg7
            have HT7 : Hid (Texts w7 w.heap.size v7 (namesT (l.take (k + 1)) s.data.toList)) := by unfold Hid; rw [HST.out]; exact ho7
            have HB7 : Hid (Below w.heap.size w w7) := (HB6.out.alloc HB6.out.size _).grown hg7 (by rw [hszA]; have := HB6.out.size; omega) HT6.out.above
            clear ho7 hg7
            go_wp2_with fail
            go_roundw
            case rel => exact ⟨k + 1, by omega, by go_num, HT7, HB7⟩
            case measure => simp [intOf]; omega
          · rw [decide_eq_false hu] at hqp
            rw [if_neg hu] at HST
            have h7 := HT6.out
            rw [← HST.out] at h7
            have HT7 := Lib.hid h7
            clear hu h7
            go_wp2_with fail
            go_roundw
            case rel => exact ⟨k + 1, by omega, by go_num, HT7, HB6⟩
            case measure => simp [intOf]; omega
        · obtain rfl : k = n := by omega
          have h2 := HT.out
          rw [List.take_of_length_le (by rw [HN.out]; omega), ← HV.out] at h2
          have HTl := Lib.hid h2
          clear h2
          go_wp2_with fail
          go_ret2
          exact ⟨_, by rw [HE.out]; rfl, HTl.out, HB.out⟩
    · have hd1 : s.toList.isEmpty = false := toList_ne hd
      have hd2 : ¬ s.toList = [] := by rw [eq_const]; exact hd
      have hle := findL_le l s.data.toList
      rw [hn] at hle
      by_cases hlt0 : findL l s.data.toList < n
      · have hf1 : findL l s.data.toList < l.length := by rw [hn]; exact hlt0
        by_cases hk2 : (l[findL l s.data.toList]'hf1).kind = 2
        · have HE := Lib.hid (namesE_ok h0 hd hf1 hk2)
          have HV := Lib.hid (namesR_ok HE.out)
          have HKc : Hid (∀ W : World, Below w.heap.size w W → ∃ (b o : Nat), A = some ⟨b, o, none⟩ ∧ W.cell? ⟨b, o + findL l s.data.toList * 12 + 1, none⟩ = some (.int .i64 2)) := fun W hW => by
            obtain ⟨b, o, E, cc, hbo, -, -, -, hcl⟩ := HA.out.cells2 _ hf1
            exact ⟨b, o, hbo, by rw [← hk2]; exact (hcl W hW).2.1⟩
          obtain ⟨fi, hfi⟩ : ∃ fi, fi = findL l s.data.toList := ⟨_, rfl⟩
          rw [← hfi] at HFd hlt0 HKc
          have hfe2 : ((fi : Int) == (n : Int)) = false := by simp; omega
          clear h0 hA hn hsz hc hd hfi hf1 hk2 hle
          go_enter Tryd.func6, Tryd.ntmps6
          go_wp2_with fail
          refine (HCk.out _ HA.out).mono ?_; rintro e w1 ⟨rfl, hb⟩
          have HB1 := Lib.hid hb
          clear hb
          go_wp2_with fail
          refine (HFd.out _ (HA.out.below HB1.out)).mono ?_; rintro e w2 ⟨rfl, rfl⟩
          obtain ⟨bq, oq, hAq, hcq⟩ := HKc.out _ HB1.out
          subst hAq
          go_wp2_with fail
          clear hd1 hd2
          go_loopw [8, 35] (fun ov iv wr => ∃ (k : Nat), k ≤ n ∧ iv = .int .i64 k ∧ Hid (Texts wr w.heap.size ov (namesT (l.take k) s.data.toList)) ∧ Hid (Below w.heap.size w wr)) (fun _ iv _ => n - (intOf iv).toNat)
          case atStart => exact ⟨0, Nat.zero_le _, rfl, by rw [List.take_zero]; exact Texts.nil _ _, HB1.out⟩
          case round =>
            obtain ⟨k, hk, rfl, HT, HB⟩ := hrel
            by_cases hlt : k < n
            · have hk1 : k < l.length := by rw [HN.out]; exact hlt
              obtain ⟨b, o, E, cc, hbo, hb1, hSl, hE, hcl⟩ := HA.out.cells2 k hk1
              injection hbo with hbo
              injection hbo with hbo1 hbo2
              subst hbo1
              subst hbo2
              obtain ⟨c0, c1, c2', c3, ⟨c4, c5, c6, c7, c8, c9, cA⟩, cB⟩ := hcl wr HB.out
              have HST := Lib.hid (names_step l s.data.toList k hk1)
              have hlen : (namesT (l.take k) s.data.toList).length ≤ 40 := by
                have := names_len (l.take k) s.data.toList
                rw [List.length_take] at this; omega
              have hsh := HSH.out _ (List.getElem_mem hk1)
              generalize hy : l[k] = y at *
              have HP := Lib.hid fun W => rSplit_any (bs y.path) W (by rw [bs_size]; omega)
              simp only [bs_list] at HP
              have hqp : ((⟨(upL y.path).toArray⟩ : ByteArray).toList == s.toList) = decide (upL y.path = s.data.toList) := by
                have := bs_eq (a := upL y.path) (b := s.data.toList)
                rw [bs_of] at this; exact this
              obtain ⟨U, HU⟩ := hid_name (⟨(upL y.path).toArray⟩ : ByteArray)
              rw [HU.out] at HP hqp
              clear hy hcl hSl hE hb1
              go_upto_region 14 with fail
              have HBl := Lib.hid (Blk.new wr 40 #[.string (bs y.path), .int .i64 y.kind, .int .i64 y.same, .string (bs y.target), .int .i64 y.md.mode, .int .i64 y.md.uid, .int .i64 y.md.gid, .string (bs y.md.user), .string (bs y.md.group), .int .i64 y.md.second, .int .i64 y.md.nano, .slice E y.data.length cc])
              have HBa := Lib.hid (belowA HB.out (.cells #[.string (bs y.path), .int .i64 y.kind, .int .i64 y.same, .string (bs y.target), .int .i64 y.md.mode, .int .i64 y.md.uid, .int .i64 y.md.gid, .string (bs y.md.user), .string (bs y.md.group), .int .i64 y.md.second, .int .i64 y.md.nano, .slice E y.data.length cc] 40))
              have HTa := Lib.hid (HT.out.alloc (.cells #[.string (bs y.path), .int .i64 y.kind, .int .i64 y.same, .string (bs y.target), .int .i64 y.md.mode, .int .i64 y.md.uid, .int .i64 y.md.gid, .string (bs y.md.user), .string (bs y.md.group), .int .i64 y.md.second, .int .i64 y.md.nano, .slice E y.data.length cc] 40))
              generalize hwa : wr.alloc _ = wa at HBl HBa HTa ⊢
              obtain ⟨⟨e0, e1, e2, e3, e4, e5, e6, e7, e8, e9, eA, eB⟩, -⟩ := blk12 HBl.out
              clear hwa c0 c1 c2' c3 c4 c5 c6 c7 c8 c9 cA cB
              go_wp2_with fail
              refine (HP.out _).mono ?_; rintro e w6 ⟨rfl, hb⟩
              have HB6 := Lib.hid (HBa.out.trans (hb.mono HBa.out.size))
              have HT6 := Lib.hid (HTa.out.below hb)
              clear hb e0 e1 e2 e3 e4 e5 e6 e7 e8 e9 eA eB
              by_cases hu : upL y.path = s.data.toList
              · rw [decide_eq_true hu] at hqp
                rw [if_pos hu] at HST
                clear hu
                go_wp2_with (at_builtin; refine Stay.go ?_)
                refine Stay.on ?_
                refine append_text rfl (.tmp 48) (.tmp 50) rfl w.heap.size _ _ rfl (HT6.out.alloc _) w6.heap.size (baseL y.path) rfl (by rw [World.cell?_alloc_at (hn := rfl)]; rfl) (by omega) (by simp; have := HB6.out.size; omega) ?_
                intro v7 w7 ho7 hg7
                have HT7 : Hid (Texts w7 w.heap.size v7 (namesT (l.take (k + 1)) s.data.toList)) := by unfold Hid; rw [HST.out]; exact ho7
                have HB7 : Hid (Below w.heap.size w w7) := (HB6.out.alloc HB6.out.size _).grown hg7 (by rw [hszA]; have := HB6.out.size; omega) HT6.out.above
                clear ho7 hg7
                go_wp2_with fail
                go_roundw
                case rel => exact ⟨k + 1, by omega, by go_num, HT7, HB7⟩
                case measure => simp [intOf]; omega
              · rw [decide_eq_false hu] at hqp
                rw [if_neg hu] at HST
                have h7 := HT6.out
                rw [← HST.out] at h7
                have HT7 := Lib.hid h7
                clear hu h7
                go_wp2_with fail
                go_roundw
                case rel => exact ⟨k + 1, by omega, by go_num, HT7, HB6⟩
                case measure => simp [intOf]; omega
            · obtain rfl : k = n := by omega
              have h2 := HT.out
              rw [List.take_of_length_le (by rw [HN.out]; omega), ← HV.out] at h2
              have HTl := Lib.hid h2
              clear h2
              go_wp2_with fail
              go_ret2
              exact ⟨_, by rw [HE.out]; rfl, HTl.out, HB.out⟩
        · have HE := Lib.hid (namesE_up h0 hd hf1 hk2)
          have HV := Lib.hid (namesR_no (t := l) (d := s.data.toList) (by rw [HE.out]; decide))
          obtain ⟨kd, hkd⟩ : ∃ kd, kd = (l[findL l s.data.toList]'hf1).kind := ⟨_, rfl⟩
          rw [← hkd] at hk2
          have hk3 : (kd != 2) = true := by simpa using hk2
          have HKc : Hid (∀ W : World, Below w.heap.size w W → ∃ (b o : Nat), A = some ⟨b, o, none⟩ ∧ W.cell? ⟨b, o + findL l s.data.toList * 12 + 1, none⟩ = some (.int .i64 kd)) := fun W hW => by
            obtain ⟨b, o, E, cc, hbo, -, -, -, hcl⟩ := HA.out.cells2 _ hf1
            exact ⟨b, o, hbo, by rw [hkd]; exact (hcl W hW).2.1⟩
          obtain ⟨fi, hfi⟩ : ∃ fi, fi = findL l s.data.toList := ⟨_, rfl⟩
          rw [← hfi] at HFd hlt0 HKc
          have hfe2 : ((fi : Int) == (n : Int)) = false := by simp; omega
          clear h0 hA hn hsz hc hd hfi hkd hf1 hle
          go_enter Tryd.func6, Tryd.ntmps6
          go_wp2_with fail
          refine (HCk.out _ HA.out).mono ?_; rintro e w1 ⟨rfl, hb⟩
          have HB1 := Lib.hid hb
          clear hb
          go_wp2_with fail
          refine (HFd.out _ (HA.out.below HB1.out)).mono ?_; rintro e w2 ⟨rfl, rfl⟩
          obtain ⟨bq, oq, hAq, hcq⟩ := HKc.out _ HB1.out
          subst hAq
          go_wp2_with fail
          go_ret2
          exact ⟨_, by rw [HE.out]; rfl, by rw [HV.out]; exact Texts.nil _ _, HB1.out⟩
      · have HE := Lib.hid (namesE_none h0 hd (show findL l s.data.toList = l.length by omega))
        have HV := Lib.hid (namesR_no (t := l) (d := s.data.toList) (by rw [HE.out]; decide))
        obtain ⟨fi, hfi⟩ : ∃ fi, fi = findL l s.data.toList := ⟨_, rfl⟩
        rw [← hfi] at HFd hle hlt0
        obtain rfl : fi = n := by omega
        clear h0 hA hn hsz hc hd hle hlt0 hfi
        go_enter Tryd.func6, Tryd.ntmps6
        go_wp2_with fail
        refine (HCk.out _ HA.out).mono ?_; rintro e w1 ⟨rfl, hb⟩
        have HB1 := Lib.hid hb
        clear hb
        go_wp2_with fail
        refine (HFd.out _ (HA.out.below HB1.out)).mono ?_; rintro e w2 ⟨rfl, rfl⟩
        go_wp2_with fail
        go_ret2
        exact ⟨_, by rw [HE.out]; rfl, by rw [HV.out]; exact Texts.nil _ _, HB1.out⟩
  · have HE := Lib.hid (namesE_bad (d := s.data.toList) h0)
    have HV := Lib.hid (namesR_no (t := l) (d := s.data.toList) (by rw [HE.out]; exact h0))
    have h1 : (treeE l != 0) = true := by simpa using h0
    generalize treeE l = t at *
    clear h0 hA hn hsz hc
    go_enter Tryd.func6, Tryd.ntmps6
    go_wp2_with fail
    refine (HCk.out _ HA.out).mono ?_; rintro e w1 ⟨rfl, hb⟩
    have HB1 := Lib.hid hb
    clear hb
    go_wp2_with fail
    go_ret2
    exact ⟨_, by rw [HE.out]; rfl, by rw [HV.out]; exact Texts.nil _ _, HB1.out⟩
end Go.Proofs.YtmgndhdikleagaaDoor
