/- Texts of one kind, in one file: OrdR, OrdA, OrdB, OrdD. -/
import Derived.Test.YtmgndhdikleagaaGreatDoorMth
import Derived.Test.YtmgndhdikleagaaGreatDoorNodH
import Derived.Test.YtmgndhdikleagaaGreatDoorSplB
import Derived.Test.YtmgndhdikleagaaGreatDoorTrgE
import Derived.Deep.DeepCutAuto
import Derived.Test.YtmgndhdikleagaaGreatDoorTrgD
import Derived.Lib.MinMax
import Derived.Laws.AppendOwnNone
/- The reference's OrderNames, OrderWalk and OrderDepth. -/
set_option linter.unusedVariables false
set_option maxRecDepth 100000
namespace Go.Proofs.YtmgndhdikleagaaGreatDoor
open Go.RowKit
open Go.OpenShut
theorem Texts.alloc {w : World} {B : Nat} {v : Value} {ls : List (List UInt8)} (h : Texts w B v ls) (o : Obj) : Texts (w.alloc o) B v ls := h.below (belowA (Below.refl _ _) o)
theorem Texts.above {w : World} {B : Nat} {v : Value} {ls : List (List UInt8)} (h : Texts w B v ls) : ∀ g, v.ownBlock = some g → B ≤ g := fun g e => (World.ownsRow.lt h g e).1
/-- append of a string to a row of strings of the call's own -/
theorem append_text {w : World} {ops : Array Oper} {rest : List Oper} {o : Oper} {a : Act} {Q : Exit → Act → World → Prop} (hgd : o.guard = none) (s x : Operand)
    (ho : o.op = .call { callee := .builtin .append, args := #[s, x], argTypes := #[25, 25] }) (B : Nat) (v : Value) (ls : List (List UInt8)) (hs : a.eval s = v) (hown : Texts w B v ls)
    (g0 : Nat) (p : List UInt8) (hx : a.eval x = .slice (some ⟨g0, 0, none⟩) 1 1) (hA : w.cell? ⟨g0, 0, none⟩ = some (strV p)) (hbig : (ls.length + 1) * 16 ≤ 140737488355328) (hB : B ≤ w.heap.size)
    (h : ∀ v' w', Texts w' B v' (ls ++ [p]) → w.grownBy w' v.ownBlock → wpList Tryz.prog ops Q rest (a.put o.dst v') w') : wpList Tryz.prog ops Q (o :: rest) a w := by
  obtain ⟨i0, hi, hz0, hz1, hz2⟩ := info_parts info_str
  refine wpList_append_own _ hgd s x 25 ho B 9 i0 _ 1 16 Tryz.underlying25 hi hz0 hz1 hz2 rfl (by decide) v _ _ hs hown ⟨g0, 0, none⟩ 1 1 [strV p] hx rfl ?_ ?_ (by unfold maxLen; omega) hbig hB ?_
  · intro j u hu
    cases j with
    | zero => injection hu with hu; subst hu; exact hA
    | succ j => simp at hu
  · intro u hu; obtain rfl : u = strV p := by simpa using hu
    rfl
  · intro v6 w6 hown6 hgrow _
    exact h v6 w6 (by unfold Texts; rw [List.length_append, strC_app]; exact hown6) hgrow
theorem Sound.short {t : List NodeV} (hs : Sound t) {x : NodeV} (hx : x ∈ t) : x.path.length ≤ 400 := by
  have h := hs.path hx
  unfold pathE at h
  split at h
  · omega
  · omega
/-- what Names says of a directory -/
def namesE (t : List NodeV) (d : List UInt8) : Int :=
  if treeE t ≠ 0 then treeE t else if d = [] then 0 else match t[findL t d]? with | none => 5 | some x => if x.kind = 2 then 0 else 10
def namesR (t : List NodeV) (d : List UInt8) : List (List UInt8) := if namesE t d = 0 then namesT t d else []
def walkR (t : List NodeV) : List (List UInt8) := if treeE t = 0 then t.map (·.path) else []
def deepT (t : List NodeV) : Nat := t.foldl (fun m x => max m (partsL 47 x.path).length) 0
def deepR (t : List NodeV) : Nat := if treeE t = 0 then deepT t else 0
theorem walkR_ok {t : List NodeV} (h : treeE t = 0) : walkR t = t.map (·.path) := if_pos h
theorem walkR_no {t : List NodeV} (h : treeE t ≠ 0) : walkR t = [] := if_neg h
theorem deepR_ok {t : List NodeV} (h : treeE t = 0) : deepR t = deepT t := if_pos h
theorem deepR_no {t : List NodeV} (h : treeE t ≠ 0) : deepR t = 0 := if_neg h
theorem deepT_step (t : List NodeV) (k : Nat) (hk : k < t.length) : deepT (t.take (k + 1)) = max (deepT (t.take k)) (partsL 47 t[k].path).length := by
  unfold deepT
  rw [List.take_succ_eq_append_getElem hk, List.foldl_append]; rfl
theorem walk_step (t : List NodeV) (k : Nat) (hk : k < t.length) : (t.take (k + 1)).map (·.path) = (t.take k).map (·.path) ++ [t[k].path] := by
  rw [List.take_succ_eq_append_getElem hk, List.map_append]; rfl
theorem names_step (t : List NodeV) (d : List UInt8) (k : Nat) (hk : k < t.length) : namesT (t.take (k + 1)) d = if upL t[k].path = d then namesT (t.take k) d ++ [baseL t[k].path] else namesT (t.take k) d := by
  unfold namesT kids
  rw [List.take_succ_eq_append_getElem hk, List.filter_append, List.map_append]
  by_cases h : upL t[k].path = d <;> simp [h]
theorem names_len (t : List NodeV) (d : List UInt8) : (namesT t d).length ≤ t.length := by
  unfold namesT kids; rw [List.length_map]; exact List.length_filter_le _ _
theorem namesE_bad {t : List NodeV} {d : List UInt8} (h : treeE t ≠ 0) : namesE t d = treeE t := if_pos h
theorem namesE_none {t : List NodeV} {d : List UInt8} (h : treeE t = 0) (hd : d ≠ []) (hf : findL t d = t.length) : namesE t d = 5 := by
  unfold namesE; rw [if_neg (by simp [h]), if_neg hd, hf, List.getElem?_eq_none (Nat.le_refl _)]
theorem namesE_up {t : List NodeV} {d : List UInt8} (h : treeE t = 0) (hd : d ≠ []) (hf : findL t d < t.length) (hk : (t[findL t d]'hf).kind ≠ 2) : namesE t d = 10 := by
  unfold namesE; rw [if_neg (by simp [h]), if_neg hd, List.getElem?_eq_getElem hf]; exact if_neg hk
theorem namesE_ok {t : List NodeV} {d : List UInt8} (h : treeE t = 0) (hd : d ≠ []) (hf : findL t d < t.length) (hk : (t[findL t d]'hf).kind = 2) : namesE t d = 0 := by
  unfold namesE; rw [if_neg (by simp [h]), if_neg hd, List.getElem?_eq_getElem hf]; exact if_pos hk
theorem namesE_top {t : List NodeV} (h : treeE t = 0) : namesE t [] = 0 := by unfold namesE; rw [if_neg (by simp [h]), if_pos rfl]
theorem namesR_ok {t : List NodeV} {d : List UInt8} (h : namesE t d = 0) : namesR t d = namesT t d := if_pos h
theorem namesR_no {t : List NodeV} {d : List UInt8} (h : namesE t d ≠ 0) : namesR t d = [] := if_neg h
end Go.Proofs.YtmgndhdikleagaaGreatDoor
/- Package order: the nodes of a directory, names, depth. -/
set_option linter.unusedVariables false
set_option maxRecDepth 100000
namespace Go.Proofs.YtmgndhdikleagaaGreatDoor
open Go.RowKit
open Go.OpenShut
theorem kids_step (t : List NodeV) (d : List UInt8) (k : Nat) (hk : k < t.length) : kids (t.take (k + 1)) d = if upL t[k].path = d then kids (t.take k) d ++ [t[k]] else kids (t.take k) d := by
  unfold kids
  rw [List.take_succ_eq_append_getElem hk, List.filter_append]
  by_cases h : upL t[k].path = d <;> simp [h]
theorem kids_len (t : List NodeV) (d : List UInt8) : (kids t d).length ≤ t.length := by unfold kids; exact List.length_filter_le _ _
set_option maxHeartbeats 8000000 in
theorem nodesIn_any (A : Option Addr) (n c : Nat) (l : List NodeV) (s : ByteArray) (hn : l.length = n) (h40 : n ≤ 40) (hsz : ∀ x ∈ l, x.path.length ≤ 400) (w : World) (hA : NodesAt w A l) :
    Calls Tryz.prog 39 #[.slice A n c, .string s] w fun e w' => ∃ v ys, e = .returned v ∧ ys.map (·.1) = kids l s.data.toList ∧ RowN w' w.heap.size v ys ∧ (∀ y ∈ ys, DatOk w' y.2 y.1.data) ∧ Below w.heap.size w w' := by
  have HA := Lib.hid hA
  have HN := Lib.hid hn
  have HSH := Lib.hid hsz
  clear hA hn hsz
  go_enter Tryz.func39, Tryz.ntmps39
  go_wp2_with fail
  go_loopw [5, 10] (fun ov iv wr => ∃ (k : Nat) (xs : List NodP), k ≤ n ∧ iv = .int .i64 k ∧ xs.length ≤ 40 ∧ Hid (RowN wr w.heap.size ov xs) ∧ Hid (xs.map (·.1) = kids (l.take k) s.data.toList) ∧ Hid (∀ y ∈ xs, DatOk w y.2 y.1.data) ∧ Hid (Below w.heap.size w wr)) (fun _ iv _ => n - (intOf iv).toNat)
  case atStart => exact ⟨0, [], Nat.zero_le _, rfl, Nat.zero_le _, RowN.nil _ _, by unfold Hid; rw [List.take_zero]; rfl, fun y hy => by (cases hy), Below.refl _ _⟩
  case round =>
    obtain ⟨k, xs, hk, rfl, hxl, HR, HM, HDT, HB⟩ := hrel
    by_cases hlt : k < n
    · have hk1 : k < l.length := by rw [HN.out]; exact hlt
      obtain ⟨b, o, E, cc, hbo, hb1, hSl, hE, hcl⟩ := HA.out.cells2 k hk1
      subst hbo
      obtain ⟨c0, c1, c2', c3, ⟨c4, c5, c6, c7, c8, c9, cA⟩, cB⟩ := hcl wr HB.out
      have HST := Lib.hid (kids_step l s.data.toList k hk1)
      have hsh := HSH.out _ (List.getElem_mem hk1)
      have hKL := kids_len (l.take (k + 1)) s.data.toList
      rw [List.length_take] at hKL
      generalize hy : l[k] = y at *
      have HYD : Hid (DatOk w (.slice E y.data.length cc) y.data) := ⟨E, cc, rfl, hSl, hE⟩
      have HP := Lib.hid fun W => Up_any (bs y.path) W (by rw [bs_size]; omega)
      simp only [bs_list] at HP
      have hqp : ((⟨(upL y.path).toArray⟩ : ByteArray).toList == s.toList) = decide (upL y.path = s.data.toList) := by
        have := bs_eq (a := upL y.path) (b := s.data.toList)
        rw [bs_of] at this; exact this
      obtain ⟨U, HU⟩ := hid_name (⟨(upL y.path).toArray⟩ : ByteArray)
      rw [HU.out] at HP hqp
      clear hy hcl hSl hE hb1
      go_upto_region 5 with fail
      have HBl := Lib.hid (Blk.new wr 40 #[.string (bs y.path), .int .i64 y.kind, .int .i64 y.same, .string (bs y.target), .int .i64 y.md.mode, .int .i64 y.md.uid, .int .i64 y.md.gid, .string (bs y.md.user), .string (bs y.md.group), .int .i64 y.md.second, .int .i64 y.md.nano, .slice E y.data.length cc])
      have HBa := Lib.hid (belowA HB.out (.cells #[.string (bs y.path), .int .i64 y.kind, .int .i64 y.same, .string (bs y.target), .int .i64 y.md.mode, .int .i64 y.md.uid, .int .i64 y.md.gid, .string (bs y.md.user), .string (bs y.md.group), .int .i64 y.md.second, .int .i64 y.md.nano, .slice E y.data.length cc] 40))
      have HRa := Lib.hid (RowN.alloc HR.out (.cells #[.string (bs y.path), .int .i64 y.kind, .int .i64 y.same, .string (bs y.target), .int .i64 y.md.mode, .int .i64 y.md.uid, .int .i64 y.md.gid, .string (bs y.md.user), .string (bs y.md.group), .int .i64 y.md.second, .int .i64 y.md.nano, .slice E y.data.length cc] 40))
      generalize hwa : wr.alloc _ = wa at HBl HBa HRa ⊢
      obtain ⟨⟨e0, e1, e2, e3, e4, e5, e6, e7, e8, e9, eA, eB⟩, -⟩ := blk12 HBl.out
      clear hwa c0 c1 c2' c3 c4 c5 c6 c7 c8 c9 cA cB
      go_wp2_with fail
      refine (HP.out _).mono ?_; rintro e w6 ⟨rfl, hb⟩
      have HB6 := Lib.hid (HBa.out.trans (hb.mono HBa.out.size))
      have HR6 := Lib.hid (HRa.out.below hb)
      have HBl6 := Lib.hid (HBl.out.below hb HBl.out.lt)
      clear hb e0 e1 e2 e3 e4 e5 e6 e7 e8 e9 eA eB
      by_cases hu : upL y.path = s.data.toList
      · rw [decide_eq_true hu] at hqp
        rw [if_pos hu] at HST
        have hxl2 : xs.length + 1 ≤ 40 := by
          have h1 := congrArg List.length HST.out
          have h2 := congrArg List.length HM.out
          rw [List.length_append, List.length_singleton] at h1
          rw [List.length_map] at h2
          omega
        clear hu
        obtain ⟨⟨e0, e1, e2, e3, e4, e5, e6, e7, e8, e9, eA, eB⟩, -⟩ := blk12 HBl6.out
        go_wp2_with (at_builtin; refine Stay.go ?_)
        refine Stay.on ?_
        refine append_nodes rfl (.tmp 19) (.tmp 21) rfl w.heap.size _ xs rfl (HR6.out.alloc _) (some ⟨w6.heap.size, 0, none⟩) 1 1 [(y, .slice E y.data.length cc)] rfl rfl (cells_new w6 (y, .slice E y.data.length cc)) (by simp [Value.oneCell']) (fun e => by cases e) (by omega) (by simp; have := HB6.out.size; omega) ?_
        intro v7 w7 ho7 hg7
        have HR7 := Lib.hid ho7
        have HB7 : Hid (Below w.heap.size w w7) := (HB6.out.alloc HB6.out.size _).grown hg7 (by rw [hszA]; have := HB6.out.size; omega) HR6.out.above
        have HM7 : Hid ((xs ++ [((y, .slice E y.data.length cc) : NodP)]).map (·.1) = kids (l.take (k + 1)) s.data.toList) := by
          unfold Hid; rw [HST.out, List.map_append, HM.out]; rfl
        have HD7 : Hid (∀ z ∈ xs ++ [((y, .slice E y.data.length cc) : NodP)], DatOk w z.2 z.1.data) := fun z hz => by
          rcases List.mem_append.1 hz with a | a
          · exact HDT.out z a
          · obtain rfl : z = (y, .slice E y.data.length cc) := by simpa using a
            exact HYD.out
        have hl7 : (xs ++ [((y, .slice E y.data.length cc) : NodP)]).length ≤ 40 := by rw [List.length_append, List.length_singleton]; omega
        clear ho7 hg7 e0 e1 e2 e3 e4 e5 e6 e7 e8 e9 eA eB
        go_wp2_with fail
        go_roundw
        case rel => exact ⟨k + 1, _, by omega, by go_num, hl7, HR7, HM7, HD7, HB7⟩
        case measure => simp [intOf]; omega
      · rw [decide_eq_false hu] at hqp
        rw [if_neg hu] at HST
        have h7 := HM.out
        rw [← HST.out] at h7
        have HM7 := Lib.hid h7
        clear hu h7
        go_wp2_with fail
        go_roundw
        case rel => exact ⟨k + 1, xs, by omega, by go_num, hxl, HR6, HM7, HDT, HB6⟩
        case measure => simp [intOf]; omega
    · obtain rfl : k = n := by omega
      have h2 := HM.out
      rw [List.take_of_length_le (by rw [HN.out]; omega)] at h2
      have HMl := Lib.hid h2
      clear h2
      go_wp2_with fail
      go_ret
      exact ⟨_, xs, rfl, HMl.out, HR.out, fun y hy => (HDT.out y hy).below HB.out, HB.out⟩
end Go.Proofs.YtmgndhdikleagaaGreatDoor
/- Package order: names, depth. -/
set_option linter.unusedVariables false
set_option maxRecDepth 100000
namespace Go.Proofs.YtmgndhdikleagaaGreatDoor
open Go.RowKit
open Go.OpenShut
/-- what is said of a directory of a tree -/
def dirE (t : List NodeV) (d : List UInt8) : Int := if d = [] then 0 else match t[findL t d]? with | none => 5 | some x => if x.kind = 2 then 0 else 10
theorem dirE_top {t : List NodeV} : dirE t [] = 0 := if_pos rfl
theorem dirE_none {t : List NodeV} {d : List UInt8} (hd : d ≠ []) (hf : findL t d = t.length) : dirE t d = 5 := by
  unfold dirE; rw [if_neg hd, hf, List.getElem?_eq_none (Nat.le_refl _)]
theorem dirE_up {t : List NodeV} {d : List UInt8} (hd : d ≠ []) (hf : findL t d < t.length) (hk : (t[findL t d]'hf).kind ≠ 2) : dirE t d = 10 := by
  unfold dirE; rw [if_neg hd, List.getElem?_eq_getElem hf]; exact if_neg hk
theorem dirE_ok {t : List NodeV} {d : List UInt8} (hd : d ≠ []) (hf : findL t d < t.length) (hk : (t[findL t d]'hf).kind = 2) : dirE t d = 0 := by
  unfold dirE; rw [if_neg hd, List.getElem?_eq_getElem hf]; exact if_pos hk
theorem namesE_dir {t : List NodeV} {d : List UInt8} (h : treeE t = 0) : namesE t d = dirE t d := by unfold namesE; rw [if_neg (by simp [h])]; rfl
set_option maxHeartbeats 4000000 in
theorem checkDir_any (A : Option Addr) (n c : Nat) (l : List NodeV) (s : ByteArray) (hn : l.length = n) (h40 : n ≤ 40) (hsz : ∀ x ∈ l, x.sz) (w : World) (hA : NodesAt w A l) :
    Calls Tryz.prog 38 #[.slice A n c, .string s] w fun e w' => e = .returned (.int .i64 (dirE l s.data.toList)) ∧ Below w.heap.size w w' := by
  by_cases hd : s.data.toList = []
  · have e0 : s.toList = [] := toList_nil hd
    rw [hd, dirE_top]
    clear hd hA hsz
    go_enter Tryz.func38, Tryz.ntmps38
    go_wp2_with fail
    go_ret
    exact ⟨rfl, Below.refl _ _⟩
  · have hd1 : s.toList.isEmpty = false := toList_ne hd
    have hd2 : ¬ s.toList = [] := by rw [eq_const]; exact hd
    have HF := Lib.hid (Find_any A n c l s hn (by omega) hsz w hA)
    have hle := findL_le l s.data.toList
    rw [hn] at hle
    by_cases hlt0 : findL l s.data.toList < n
    · have hf1 : findL l s.data.toList < l.length := by rw [hn]; exact hlt0
      rw [if_pos hlt0] at HF
      have HKc : Hid (∀ W : World, Below w.heap.size w W → ∃ (b o : Nat), A = some ⟨b, o, none⟩ ∧ W.cell? ⟨b, o + findL l s.data.toList * 12 + 1, none⟩ = some (.int .i64 (l[findL l s.data.toList]'hf1).kind)) := fun W hW => by
        obtain ⟨b, o, E, cc, hbo, -, -, -, hcl⟩ := hA.cells2 _ hf1
        exact ⟨b, o, hbo, (hcl W hW).2.1⟩
      by_cases hk2 : (l[findL l s.data.toList]'hf1).kind = 2
      · have HE := Lib.hid (dirE_ok hd hf1 hk2)
        rw [HE.out]
        rw [hk2] at HKc
        generalize findL l s.data.toList = fi at *
        clear HE hk2 hA hsz hd hf1 hle
        go_enter Tryz.func38, Tryz.ntmps38
        go_wp2_with fail
        refine HF.out.mono ?_; rintro e w1 ⟨rfl, hb⟩
        have HB := Lib.hid hb
        obtain ⟨bq, oq, hAq, hcq⟩ := HKc.out _ hb
        subst hAq
        clear hb HF
        go_wp2_with fail
        go_ret
        exact ⟨rfl, HB.out⟩
      · have HE := Lib.hid (dirE_up hd hf1 hk2)
        rw [HE.out]
        obtain ⟨kd, hkd⟩ : ∃ kd, kd = (l[findL l s.data.toList]'hf1).kind := ⟨_, rfl⟩
        rw [← hkd] at hk2 HKc
        have hk3 : (kd != 2) = true := by simpa using hk2
        generalize findL l s.data.toList = fi at *
        clear HE hkd hA hsz hd hf1 hle
        go_enter Tryz.func38, Tryz.ntmps38
        go_wp2_with fail
        refine HF.out.mono ?_; rintro e w1 ⟨rfl, hb⟩
        have HB := Lib.hid hb
        obtain ⟨bq, oq, hAq, hcq⟩ := HKc.out _ hb
        subst hAq
        clear hb HF
        go_wp2_with fail
        go_ret
        exact ⟨rfl, HB.out⟩
    · have HE := Lib.hid (dirE_none hd (show findL l s.data.toList = l.length by omega))
      rw [HE.out]
      rw [if_neg hlt0] at HF
      generalize findL l s.data.toList = fi at *
      clear HE hA hsz hd hle hlt0
      go_enter Tryz.func38, Tryz.ntmps38
      go_wp2_with fail
      refine HF.out.mono ?_; rintro e w1 ⟨rfl, hb⟩
      have HB := Lib.hid hb
      clear hb HF
      go_wp2_with fail
      go_ret
      exact ⟨rfl, HB.out⟩
theorem namesT_step (t : List NodeV) (d : List UInt8) (ks : List NodeV) (hks : ks = kids t d) : namesT t d = ks.map fun x => baseL x.path := by rw [hks]; rfl
theorem map_step (ks : List NodeV) (k : Nat) (hk : k < ks.length) : ((ks.take (k + 1)).map fun x => baseL x.path) = ((ks.take k).map fun x => baseL x.path) ++ [baseL ks[k].path] := by
  rw [List.take_succ_eq_append_getElem hk, List.map_append]; rfl
set_option maxHeartbeats 8000000 in
theorem Names_any (A : Option Addr) (n c : Nat) (l : List NodeV) (s : ByteArray) (hn : l.length = n) (hc : SlOk A n c) (hsz : ∀ x ∈ l, x.sz) (w : World) (hA : NodesAt w A l) :
    Calls Tryz.prog 13 #[.slice A n c, .string s] w fun e w' => ∃ v, e = .returned (.tuple #[v, .int .i64 (namesE l s.data.toList)]) ∧ Texts w' w.heap.size v (namesR l s.data.toList) ∧ Below w.heap.size w w' := by
  have HA := Lib.hid hA
  have HCk := Lib.hid fun W h => trCheck_any A n c l hn hc hsz W h
  by_cases h0 : treeE l = 0
  · have h40 : n ≤ 40 := by have := ((treeE_zero l).1 h0).1; omega
    have HSH := Lib.hid fun x hx => ((treeE_zero l).1 h0).2.short (x := x) hx
    have HDr := Lib.hid fun W h => checkDir_any A n c l s hn h40 hsz W h
    have HNd := Lib.hid fun W h => nodesIn_any A n c l s hn h40 (fun x hx => HSH.out x hx) W h
    have HKm : Hid (∀ x ∈ kids l s.data.toList, x ∈ l) := fun x hx => (mem_kids.1 hx).1
    have hKl : (kids l s.data.toList).length ≤ 40 := by have := kids_len l s.data.toList; omega
    rw [namesE_dir h0]
    by_cases hd : dirE l s.data.toList = 0
    · have HV : Hid (namesR l s.data.toList = (kids l s.data.toList).map fun x => baseL x.path) := by unfold Hid; rw [namesR_ok (by rw [namesE_dir h0]; exact hd)]; rfl
      rw [hd] at HDr ⊢
      rw [h0] at HCk
      rw [HV.out]
      generalize hK : kids l s.data.toList = K at *
      clear h0 hd hA hn hsz hc HV hK
      go_enter Tryz.func13, Tryz.ntmps13
      go_wp2_with fail
      refine (HCk.out _ HA.out).mono ?_; rintro e w1 ⟨rfl, hb⟩
      have HB1 := Lib.hid hb
      clear hb
      go_wp2_with fail
      refine (HDr.out _ (HA.out.below HB1.out)).mono ?_; rintro e w2 ⟨rfl, hb⟩
      have HB2 := Lib.hid (HB1.out.trans (hb.mono HB1.out.size))
      clear hb
      go_wp2_with fail
      refine (HNd.out _ (HA.out.below HB2.out)).mono ?_; rintro e w3 ⟨v3, ys, rfl, hys, hR, hDt, hb⟩
      have HB3 := Lib.hid (HB2.out.trans (hb.mono HB2.out.size))
      obtain ⟨A3, c3, he3, hs3, hat3⟩ := hR.at hDt
      rw [hys] at hat3
      have hyl : ys.length = K.length := by rw [← hys, List.length_map]
      rw [hyl] at he3
      obtain ⟨m, hm⟩ : ∃ m, K.length = m := ⟨_, rfl⟩
      rw [hm] at he3 hKl
      subst he3
      have HA3 := Lib.hid hat3
      have HM := Lib.hid hm
      clear hb hR hDt hs3 hat3 hys hyl hm HCk HDr HNd
      go_wp2_with fail
      go_loopw [8, 26] (fun ov iv wr => ∃ (k : Nat), k ≤ m ∧ iv = .int .i64 k ∧ Hid (Texts wr w3.heap.size ov ((K.take k).map fun x => baseL x.path)) ∧ Hid (Below w3.heap.size w3 wr)) (fun _ iv _ => m - (intOf iv).toNat)
      case atStart => exact ⟨0, Nat.zero_le _, rfl, by rw [List.take_zero]; exact Texts.nil _ _, Below.refl _ _⟩
      case round =>
        obtain ⟨k, hk, rfl, HT, HBa3⟩ := hrel
        by_cases hlt : k < m
        · have hk1 : k < K.length := by rw [HM.out]; exact hlt
          obtain ⟨b, o, E, cc, hbo, hb1, hSl, hE, hcl⟩ := HA3.out.cells2 k hk1
          subst hbo
          obtain ⟨c0, c1, c2', c4', ⟨c4, c5, c6, c7, c8, c9, cA⟩, cB⟩ := hcl wr HBa3.out
          have HST := Lib.hid (map_step K k hk1)
          have hsh := HSH.out _ (HKm.out _ (List.getElem_mem hk1))
          have hlen : ((K.take k).map fun x => baseL x.path).length ≤ 40 := by rw [List.length_map, List.length_take]; omega
          generalize hy : K[k] = y at *
          have HP := Lib.hid fun W => Base_any (bs y.path) W (by rw [bs_size]; omega)
          simp only [bs_list] at HP
          clear hy hcl hSl hE hb1
          go_upto_region 11 with fail
          have HBl := Lib.hid (Blk.new wr 40 #[.string (bs y.path), .int .i64 y.kind, .int .i64 y.same, .string (bs y.target), .int .i64 y.md.mode, .int .i64 y.md.uid, .int .i64 y.md.gid, .string (bs y.md.user), .string (bs y.md.group), .int .i64 y.md.second, .int .i64 y.md.nano, .slice E y.data.length cc])
          have HBc := Lib.hid (belowA HBa3.out (.cells #[.string (bs y.path), .int .i64 y.kind, .int .i64 y.same, .string (bs y.target), .int .i64 y.md.mode, .int .i64 y.md.uid, .int .i64 y.md.gid, .string (bs y.md.user), .string (bs y.md.group), .int .i64 y.md.second, .int .i64 y.md.nano, .slice E y.data.length cc] 40))
          have HTa := Lib.hid (HT.out.alloc (.cells #[.string (bs y.path), .int .i64 y.kind, .int .i64 y.same, .string (bs y.target), .int .i64 y.md.mode, .int .i64 y.md.uid, .int .i64 y.md.gid, .string (bs y.md.user), .string (bs y.md.group), .int .i64 y.md.second, .int .i64 y.md.nano, .slice E y.data.length cc] 40))
          generalize hwa : wr.alloc _ = wa at HBl HBc HTa ⊢
          obtain ⟨⟨e0, e1, e2, e3, e4, e5, e6, e7, e8, e9, eA, eB⟩, -⟩ := blk12 HBl.out
          clear hwa c0 c1 c2' c4' c4 c5 c6 c7 c8 c9 cA cB
          go_wp2_with fail
          refine (HP.out _).mono ?_; rintro e w6 ⟨rfl, hb⟩
          have HC6 := Lib.hid (HBc.out.trans (hb.mono HBc.out.size))
          have HT6 := Lib.hid (HTa.out.below hb)
          clear hb e0 e1 e2 e3 e4 e5 e6 e7 e8 e9 eA eB
          go_wp2_with (at_builtin; refine Stay.go ?_)
          refine Stay.on ?_
          refine append_text rfl (.tmp 30) (.tmp 34) rfl w3.heap.size _ _ rfl (HT6.out.alloc _) w6.heap.size (baseL y.path) rfl (by rw [World.cell?_alloc_at (hn := rfl)]; rfl) (by omega) (by simp; have := HC6.out.size; omega) ?_
          intro v7 w7 ho7 hg7
          have HT7 : Hid (Texts w7 w3.heap.size v7 ((K.take (k + 1)).map fun x => baseL x.path)) := by unfold Hid; rw [HST.out]; exact ho7
          have HC7 : Hid (Below w3.heap.size w3 w7) := (HC6.out.alloc HC6.out.size _).grown hg7 (by rw [hszA]; have := HC6.out.size; omega) HT6.out.above
          clear ho7 hg7
          go_wp2_with fail
          go_roundw
          case rel => exact ⟨k + 1, by omega, by go_num, HT7, HC7⟩
          case measure => simp [intOf]; omega
        · obtain rfl : k = m := by omega
          have h2 := HT.out
          rw [List.take_of_length_le (by rw [HM.out]; omega)] at h2
          have HTl := Lib.hid h2
          clear h2
          go_wp2_with fail
          go_ret2
          exact ⟨_, rfl, own_mono HTl.out HB3.out.size, HB3.out.trans (HBa3.out.mono HB3.out.size)⟩
    · have HV := Lib.hid (namesR_no (t := l) (d := s.data.toList) (by rw [namesE_dir h0]; exact hd))
      rw [HV.out]
      rw [h0] at HCk
      have h1 : (dirE l s.data.toList != 0) = true := by simpa using hd
      generalize dirE l s.data.toList = t at *
      clear h0 hd hA hn hsz hc HV
      go_enter Tryz.func13, Tryz.ntmps13
      go_wp2_with fail
      refine (HCk.out _ HA.out).mono ?_; rintro e w1 ⟨rfl, hb⟩
      have HB1 := Lib.hid hb
      clear hb
      go_wp2_with fail
      refine (HDr.out _ (HA.out.below HB1.out)).mono ?_; rintro e w2 ⟨rfl, hb⟩
      have HB2 := Lib.hid (HB1.out.trans (hb.mono HB1.out.size))
      clear hb
      go_wp2_with fail
      go_ret2
      exact ⟨_, rfl, Texts.nil _ _, HB2.out⟩
  · have HE := Lib.hid (namesE_bad (d := s.data.toList) h0)
    have HV := Lib.hid (namesR_no (t := l) (d := s.data.toList) (by rw [HE.out]; exact h0))
    have h1 : (treeE l != 0) = true := by simpa using h0
    rw [HE.out, HV.out]
    clear HE HV
    generalize treeE l = t at *
    clear h0 hA hn hsz hc
    go_enter Tryz.func13, Tryz.ntmps13
    go_wp2_with fail
    refine (HCk.out _ HA.out).mono ?_; rintro e w1 ⟨rfl, hb⟩
    have HB1 := Lib.hid hb
    clear hb
    go_wp2_with fail
    go_ret2
    exact ⟨_, rfl, Texts.nil _ _, HB1.out⟩
set_option maxHeartbeats 4000000 in
theorem Depth_any (A : Option Addr) (n c : Nat) (l : List NodeV) (hn : l.length = n) (hc : SlOk A n c) (hsz : ∀ x ∈ l, x.sz) (w : World) (hA : NodesAt w A l) :
    Calls Tryz.prog 17 #[.slice A n c] w fun e w' => e = .returned (.tuple #[.int .i64 (deepR l : Nat), .int .i64 (treeE l)]) ∧ Below w.heap.size w w' := by
  have HA := Lib.hid hA
  have HN := Lib.hid hn
  have HCk := Lib.hid fun W h => trCheck_any A n c l hn hc hsz W h
  by_cases h0 : treeE l = 0
  · have h40 : n ≤ 40 := by have := ((treeE_zero l).1 h0).1; omega
    have HSH := Lib.hid fun x hx => ((treeE_zero l).1 h0).2.short (x := x) hx
    have HNE := Lib.hid fun x hx => ((treeE_zero l).1 h0).2.ne (x := x) hx
    have HV := Lib.hid (deepR_ok h0)
    rw [h0] at HCk ⊢
    clear h0 hA hn hsz hc
    go_enter Tryz.func17, Tryz.ntmps17
    go_wp2_with fail
    refine (HCk.out _ HA.out).mono ?_; rintro e w1 ⟨rfl, hb⟩
    have HB1 := Lib.hid hb
    clear hb
    go_wp2_with fail
    go_loopw [5, 15] (fun ov iv wr => ∃ (k m : Nat), k ≤ n ∧ m ≤ 401 ∧ ov = .int .i64 m ∧ iv = .int .i64 k ∧ Hid (deepT (l.take k) = m) ∧ Hid (Below w.heap.size w wr)) (fun _ iv _ => n - (intOf iv).toNat)
    case atStart => exact ⟨0, 0, Nat.zero_le _, by omega, rfl, rfl, by rw [List.take_zero]; rfl, HB1.out⟩
    case round =>
      obtain ⟨k, m, hk, hm, rfl, rfl, HT, HB⟩ := hrel
      by_cases hlt : k < n
      · have hk1 : k < l.length := by rw [HN.out]; exact hlt
        obtain ⟨b, o, E, cc, rfl, hb1, hSl, hE, hcl⟩ := HA.out.cells2 k hk1
        obtain ⟨c0, c1, c2', c3, ⟨c4, c5, c6, c7, c8, c9, cA⟩, cB⟩ := hcl wr HB.out
        have HST := Lib.hid (deepT_step l k hk1)
        have hsh := HSH.out _ (List.getElem_mem hk1)
        have hne := HNE.out _ (List.getElem_mem hk1)
        generalize hy : l[k] = y at *
        have HP := Lib.hid fun W => Parts_any (bs y.path) W (by rw [bs_size]; omega)
        simp only [bs_list] at HP
        obtain ⟨q, hq⟩ : ∃ q, q = (partsL 47 y.path).length := ⟨_, rfl⟩
        have hq2 : q ≤ 401 := by rw [hq]; have := partsL_le 47 y.path; omega
        have hpp : (pp y.path).length = q := by rw [hq]; unfold pp; rw [if_neg hne]
        rw [HT.out, ← hq] at HST
        clear hy hcl hSl hE hb1 hne
        go_upto_region 8 with fail
        have HBl := Lib.hid (Blk.new wr 40 #[.string (bs y.path), .int .i64 y.kind, .int .i64 y.same, .string (bs y.target), .int .i64 y.md.mode, .int .i64 y.md.uid, .int .i64 y.md.gid, .string (bs y.md.user), .string (bs y.md.group), .int .i64 y.md.second, .int .i64 y.md.nano, .slice E y.data.length cc])
        have HBa := Lib.hid (belowA HB.out (.cells #[.string (bs y.path), .int .i64 y.kind, .int .i64 y.same, .string (bs y.target), .int .i64 y.md.mode, .int .i64 y.md.uid, .int .i64 y.md.gid, .string (bs y.md.user), .string (bs y.md.group), .int .i64 y.md.second, .int .i64 y.md.nano, .slice E y.data.length cc] 40))
        generalize hwa : wr.alloc _ = wa at HBl HBa ⊢
        obtain ⟨⟨e0, e1, e2, e3, e4, e5, e6, e7, e8, e9, eA, eB⟩, -⟩ := blk12 HBl.out
        clear hwa c0 c1 c2' c3 c4 c5 c6 c7 c8 c9 cA cB
        go_wp2_with fail
        refine (HP.out _).mono ?_; rintro e w6 ⟨v, rfl, ht, hb⟩
        obtain ⟨A6, c6, rfl, -⟩ := ht.any
        rw [hpp]
        have HB6 := Lib.hid (HBa.out.trans (hb.mono HBa.out.size))
        clear hb ht hq hpp e0 e1 e2 e3 e4 e5 e6 e7 e8 e9 eA eB
        by_cases hlt2 : m < q
        · have HT6 : Hid (deepT (l.take (k + 1)) = q) := by unfold Hid; rw [HST.out]; omega
          go_wp2_with fail
          go_roundw
          case rel => exact ⟨k + 1, q, by omega, hq2, by first | rfl | go_num | (congr 1; omega), by go_num, HT6, HB6⟩
          case measure => simp [intOf]; omega
        · have HT6 : Hid (deepT (l.take (k + 1)) = m) := by unfold Hid; rw [HST.out]; omega
          go_wp2_with fail
          go_roundw
          case rel => exact ⟨k + 1, m, by omega, hm, by first | rfl | go_num | (congr 1; omega), by go_num, HT6, HB6⟩
          case measure => simp [intOf]; omega
      · obtain rfl : k = n := by omega
        have h2 := HT.out
        rw [List.take_of_length_le (by rw [HN.out]; omega), ← HV.out] at h2
        subst h2
        go_wp2_with fail
        go_ret2
        exact ⟨rfl, HB.out⟩
  · have HV := Lib.hid (deepR_no h0)
    have h1 : (treeE l != 0) = true := by simpa using h0
    generalize treeE l = t at *
    clear h0 hA hn hsz hc
    go_enter Tryz.func17, Tryz.ntmps17
    go_wp2_with fail
    refine (HCk.out _ HA.out).mono ?_; rintro e w1 ⟨rfl, hb⟩
    have HB1 := Lib.hid hb
    clear hb
    go_wp2_with fail
    go_ret2
    exact ⟨by rw [HV.out]; rfl, HB1.out⟩
end Go.Proofs.YtmgndhdikleagaaGreatDoor
/- Package order: the traversal of a tree. -/
set_option linter.unusedVariables false
set_option maxRecDepth 100000
namespace Go.Proofs.YtmgndhdikleagaaGreatDoor
open Go.RowKit
open Go.OpenShut
/-- append of a list of strings to a row of strings of the call's own -/
theorem append_texts {w : World} {ops : Array Oper} {rest : List Oper} {o : Oper} {a : Act} {Q : Exit → Act → World → Prop} (hgd : o.guard = none) (s x : Operand)
    (ho : o.op = .call { callee := .builtin .append, args := #[s, x], argTypes := #[25, 25] }) (B : Nat) (v : Value) (ls : List (List UInt8)) (hs : a.eval s = v) (hown : Texts w B v ls)
    (B' : Nat) (u : Value) (ps : List (List UInt8)) (hx : a.eval x = u) (hA : Texts w B' u ps) (hbig : (ls.length + ps.length) * 16 ≤ 140737488355328) (hB : B ≤ w.heap.size)
    (h : ∀ v' w', Texts w' B v' (ls ++ ps) → w.grownBy w' v.ownBlock → wpList Tryz.prog ops Q rest (a.put o.dst v') w') : wpList Tryz.prog ops Q (o :: rest) a w := by
  obtain ⟨i0, hi, hz0, hz1, hz2⟩ := info_parts info_str
  have hA' := hA
  unfold Texts World.ownsRow at hA'
  rcases hA'.2 with ⟨rfl, h0⟩ | ⟨g, cap, cur, rfl, hBg, hg, hcap, hm, hsz, ht⟩
  · obtain rfl : ps = [] := by
      have : (strC ps).length = ps.length * 1 := hA'.1
      exact List.eq_nil_of_length_eq_zero (by omega)
    refine wpList_append_own_none hgd s x 25 ho B 9 i0 1 Tryz.underlying25 hi v _ _ hs hown hx ?_
    exact h v w (by rw [List.append_nil]; exact hown) ⟨rfl, rfl, rfl, Nat.le_refl _, fun _ _ _ => rfl⟩
  · have hl : (strC ps).length = ps.length := by simp [strC]
    refine wpList_append_own _ hgd s x 25 ho B 9 i0 _ 1 16 Tryz.underlying25 hi hz0 hz1 hz2 rfl (by decide) v _ _ hs hown ⟨g, 0, none⟩ ps.length cap (strC ps) hx (by rw [hl, Nat.mul_one]) ?_ ?_ (by unfold maxLen at *; omega) hbig hB ?_
    · intro j q hq
      have hj := (List.getElem?_eq_some_iff.1 hq).1
      rw [Addr.add_lit, Nat.zero_add, World.ownsRow.cellAt hA j (by omega)]; exact hq
    · intro q hq
      obtain ⟨p, -, rfl⟩ := List.mem_map.1 hq
      rfl
    · intro v6 w6 hown6 hgrow _
      exact h v6 w6 (by unfold Texts; rw [List.length_append, strC_app]; exact hown6) hgrow
/-- a row of strings is no node -/
theorem text_apart {w : World} {B g : Nat} {v : Value} {ls : List (List UInt8)} {cs : Array Value} (h : Texts w B v ls) (hb : Blk w g 40 cs) : some g ≠ v.ownBlock := by
  intro e
  unfold Texts World.ownsRow at h
  rcases h.2 with ⟨rfl, h0⟩ | ⟨g', cap, cur, rfl, hBg, hg, -⟩
  · cases e
  · obtain rfl : g = g' := by injection e
    have h1 : w.heap[g]? = some (.cells cs 40 (0, 0)) := hb
    rw [hg] at h1
    injection h1 with h1
    injection h1 with _ h1
    exact absurd h1 (by decide)
/-- the paths of what lies in a directory -/
def pathsT (t : List NodeV) (ks : List NodeV) : List (List UInt8) := (ks.flatMap fun x => x :: if x.kind = 2 then subs t x.path else []).map (·.path)
theorem pathsT_snoc (t ks : List NodeV) (x : NodeV) : pathsT t (ks ++ [x]) = pathsT t ks ++ [x.path] ++ if x.kind = 2 then (subs t x.path).map (·.path) else [] := by
  unfold pathsT
  rw [List.flatMap_append, List.map_append]
  by_cases h : x.kind = 2 <;> simp [h]
theorem pathsT_step (t K : List NodeV) (k : Nat) (hk : k < K.length) : pathsT t (K.take (k + 1)) = pathsT t (K.take k) ++ [K[k].path] ++ if K[k].kind = 2 then (subs t K[k].path).map (·.path) else [] := by
  rw [List.take_succ_eq_append_getElem hk, pathsT_snoc]
theorem pathsT_all {t : List NodeV} (hs : Sound t) (d : List UInt8) : pathsT t (kids t d) = (subs t d).map (·.path) := by
  unfold pathsT; rw [← subs_kids hs d]
theorem subs_len (t : List NodeV) (d : List UInt8) : (subs t d).length ≤ t.length := by unfold subs; exact List.length_filter_le _ _
theorem pathsT_len {t : List NodeV} (hs : Sound t) (d : List UInt8) (k : Nat) : (pathsT t ((kids t d).take k)).length ≤ t.length := by
  have h1 := subs_len t d
  rw [subs_kids hs d] at h1
  refine Nat.le_trans ?_ h1
  unfold pathsT
  rw [List.length_map]
  conv => rhs; rw [← List.take_append_drop k (kids t d)]
  rw [List.flatMap_append, List.length_append]
  omega
set_option maxHeartbeats 8000000 in
theorem pathsIn_upto (A : Option Addr) (n c : Nat) (l : List NodeV) (hn : l.length = n) (h40 : n ≤ 40) (hs : Sound l) : ∀ (d : Nat) (s : ByteArray) (w : World), (subs l s.data.toList).length < d → NodesAt w A l →
    Calls Tryz.prog 33 #[.slice A n c, .string s] w fun e w' => ∃ v, e = .returned v ∧ Texts w' w.heap.size v ((subs l s.data.toList).map (·.path)) ∧ Below w.heap.size w w' := by
  intro d
  induction d with
  | zero => intro s w h; omega
  | succ d ih =>
  intro s w hd hA
  have HA := Lib.hid hA
  have HSH := Lib.hid fun x hx => hs.short (x := x) hx
  have HIH : Hid (∀ x ∈ kids l s.data.toList, ∀ W, NodesAt W A l → Calls Tryz.prog 33 #[.slice A n c, .string (bs x.path)] W fun e w' => ∃ v, e = .returned v ∧ Texts w' W.heap.size v ((subs l x.path).map (·.path)) ∧ Below W.heap.size W w') := fun x hx W hW => by
    have h1 := subs_less hs hx
    have := ih (bs x.path) W (by rw [bs_list]; omega) hW
    rw [bs_list] at this; exact this
  have HNd := Lib.hid fun W h => nodesIn_any A n c l s hn h40 (fun x hx => HSH.out x hx) W h
  have HKm : Hid (∀ x ∈ kids l s.data.toList, x ∈ l) := fun x hx => (mem_kids.1 hx).1
  have hKl : (kids l s.data.toList).length ≤ 40 := by have := kids_len l s.data.toList; omega
  have HPl := Lib.hid fun k => pathsT_len hs s.data.toList k
  have HSl := Lib.hid fun p => subs_len l p
  have HV := Lib.hid (pathsT_all hs s.data.toList)
  rw [← HV.out]
  generalize hK : kids l s.data.toList = K at *
  clear hd hA hs hK ih HV
  have e20 : ∀ args w, (callFunc 33 args).run Tryz.prog w = .ok (.enter 33 args) w := enters_of Tryz.func33 (by kernel_rfl) rfl
  go_enter Tryz.func33, Tryz.ntmps33
  go_wp2_with fail
  refine (HNd.out _ HA.out).mono ?_; rintro e w3 ⟨v3, ys, rfl, hys, hR, hDt, hb⟩
  have HB3 := Lib.hid hb
  obtain ⟨A3, c3, he3, hs3, hat3⟩ := hR.at hDt
  rw [hys] at hat3
  have hyl : ys.length = K.length := by rw [← hys, List.length_map]
  rw [hyl] at he3
  obtain ⟨m, hm⟩ : ∃ m, K.length = m := ⟨_, rfl⟩
  rw [hm] at he3 hKl
  subst he3
  have HA3 := Lib.hid hat3
  have HM := Lib.hid hm
  clear hb hR hDt hs3 hat3 hys hyl hm HNd
  go_wp2_with fail
  go_loopw [5, 12] (fun ov iv wr => ∃ (k : Nat), k ≤ m ∧ iv = .int .i64 k ∧ Hid (Texts wr w3.heap.size ov (pathsT l (K.take k))) ∧ Hid (Below w3.heap.size w3 wr)) (fun _ iv _ => m - (intOf iv).toNat)
  case atStart => exact ⟨0, Nat.zero_le _, rfl, by rw [List.take_zero]; exact Texts.nil _ _, Below.refl _ _⟩
  case round =>
    obtain ⟨k, hk, rfl, HT, HBa3⟩ := hrel
    by_cases hlt : k < m
    · have hk1 : k < K.length := by rw [HM.out]; exact hlt
      obtain ⟨b, o, E, cc, hbo, hb1, hSl, hE, hcl⟩ := HA3.out.cells2 k hk1
      subst hbo
      obtain ⟨c0, c1, c2', c4', ⟨c4, c5, c6, c7, c8, c9, cA⟩, cB⟩ := hcl wr HBa3.out
      have HST := Lib.hid (pathsT_step l K k hk1)
      have hsh := HSH.out _ (HKm.out _ (List.getElem_mem hk1))
      have HIy := Lib.hid (HIH.out _ (List.getElem_mem hk1))
      have hlen : (pathsT l (K.take k)).length ≤ 40 := by have := HPl.out k; omega
      have hsl2 : (subs l K[k].path).length ≤ 40 := by have := HSl.out K[k].path; omega
      generalize hy : K[k] = y at *
      have HP := Lib.hid fun W => Clone_any (bs y.path) W (by rw [bs_size]; omega)
      clear hy hcl hSl hE hb1
      go_upto_region 5 with fail
      have HBl := Lib.hid (Blk.new wr 40 #[.string (bs y.path), .int .i64 y.kind, .int .i64 y.same, .string (bs y.target), .int .i64 y.md.mode, .int .i64 y.md.uid, .int .i64 y.md.gid, .string (bs y.md.user), .string (bs y.md.group), .int .i64 y.md.second, .int .i64 y.md.nano, .slice E y.data.length cc])
      have HBc := Lib.hid (belowA HBa3.out (.cells #[.string (bs y.path), .int .i64 y.kind, .int .i64 y.same, .string (bs y.target), .int .i64 y.md.mode, .int .i64 y.md.uid, .int .i64 y.md.gid, .string (bs y.md.user), .string (bs y.md.group), .int .i64 y.md.second, .int .i64 y.md.nano, .slice E y.data.length cc] 40))
      have HTa := Lib.hid (HT.out.alloc (.cells #[.string (bs y.path), .int .i64 y.kind, .int .i64 y.same, .string (bs y.target), .int .i64 y.md.mode, .int .i64 y.md.uid, .int .i64 y.md.gid, .string (bs y.md.user), .string (bs y.md.group), .int .i64 y.md.second, .int .i64 y.md.nano, .slice E y.data.length cc] 40))
      generalize hwa : wr.alloc _ = wa at HBl HBc HTa ⊢
      obtain ⟨⟨e0, e1, e2, e3, e4, e5, e6, e7, e8, e9, eA, eB⟩, -⟩ := blk12 HBl.out
      clear hwa c0 c1 c2' c4' c4 c5 c6 c7 c8 c9 cA cB
      go_wp2_with fail
      refine (HP.out _).mono ?_; rintro e w6 ⟨rfl, hb⟩
      have HC6 := Lib.hid (HBc.out.trans (hb.mono HBc.out.size))
      have HT6 := Lib.hid (HTa.out.below hb)
      have HBl6 := Lib.hid (HBl.out.below hb HBl.out.lt)
      have hblt := HBl6.out.lt
      clear hb e0 e1 e2 e3 e4 e5 e6 e7 e8 e9 eA eB
      go_wp2_with (at_builtin; refine Stay.go ?_)
      refine Stay.on ?_
      refine append_text rfl (.tmp 16) (.tmp 20) rfl w3.heap.size _ _ rfl (HT6.out.alloc _) w6.heap.size y.path rfl (by rw [World.cell?_alloc_at (hn := rfl)]; rfl) (by omega) (by simp; have := HC6.out.size; omega) ?_
      intro v7 w7 ho7 hg7
      have HT7 := Lib.hid ho7
      have HC7 : Hid (Below w3.heap.size w3 w7) := (HC6.out.alloc HC6.out.size _).grown hg7 (by rw [hszA]; have := HC6.out.size; omega) HT6.out.above
      have HBl7 : Hid (Blk w7 wr.heap.size 40 #[.string (bs y.path), .int .i64 y.kind, .int .i64 y.same, .string (bs y.target), .int .i64 y.md.mode, .int .i64 y.md.uid, .int .i64 y.md.gid, .string (bs y.md.user), .string (bs y.md.group), .int .i64 y.md.second, .int .i64 y.md.nano, .slice E y.data.length cc]) := (HBl6.out.alloc _).grown hg7 (text_apart HT6.out HBl6.out)
      obtain ⟨⟨e0, e1, e2, e3, e4, e5, e6, e7, e8, e9, eA, eB⟩, -⟩ := blk12 HBl7.out
      have HB7 : Hid (Below w.heap.size w w7) := HB3.out.trans (HC7.out.mono HB3.out.size)
      clear ho7 hg7 HBl HBl6 HT6 HC6 HBc HTa
      by_cases hk2 : y.kind = 2
      · rw [if_pos hk2] at HST
        have hlen2 : (pathsT l (K.take k) ++ [y.path]).length + ((subs l y.path).map (·.path)).length ≤ 100 := by rw [List.length_append, List.length_map, List.length_singleton]; omega
        rw [hk2] at e1
        clear hk2
        go_wp2_with (at_builtin; refine Stay.go ?_)
        refine (HIy.out w7 (HA.out.below HB7.out)).mono ?_; rintro e w8 ⟨v8, rfl, hT8, hb⟩
        have HC8 := Lib.hid (HC7.out.trans (hb.mono HC7.out.size))
        have HT8 := Lib.hid (HT7.out.below hb)
        have HU8 := Lib.hid hT8
        clear hb hT8 e0 e1 e2 e3 e4 e5 e6 e7 e8 e9 eA eB
        go_wp2_with (at_builtin; refine Stay.go ?_)
        refine Stay.on ?_
        refine append_texts rfl (.tmp 25) (.tmp 29) rfl w3.heap.size _ _ rfl HT8.out w7.heap.size _ _ rfl HU8.out (by omega) (by have := HC8.out.size; omega) ?_
        intro v9 w9 ho9 hg9
        have HT9 : Hid (Texts w9 w3.heap.size v9 (pathsT l (K.take (k + 1)))) := by unfold Hid; rw [HST.out]; exact ho9
        have HC9 : Hid (Below w3.heap.size w3 w9) := HC8.out.grown hg9 (by have := HC8.out.size; omega) HT8.out.above
        clear ho9 hg9
        go_wp2_with fail
        go_roundw
        case rel => exact ⟨k + 1, by omega, by go_num, HT9, HC9⟩
        case measure => simp [intOf]; omega
      · rw [if_neg hk2, List.append_nil] at HST
        have hk3 : (y.kind == 2) = false := by simpa using hk2
        have h8 := HT7.out
        rw [← HST.out] at h8
        have HT9 := Lib.hid h8
        clear h8
        go_wp2_with fail
        go_roundw
        case rel => exact ⟨k + 1, by omega, by go_num, HT9, HC7⟩
        case measure => simp [intOf]; omega
    · obtain rfl : k = m := by omega
      have h2 := HT.out
      rw [List.take_of_length_le (by rw [HM.out]; omega)] at h2
      have HTl := Lib.hid h2
      clear h2
      go_wp2_with fail
      go_ret
      exact ⟨_, rfl, own_mono HTl.out HB3.out.size, HB3.out.trans (HBa3.out.mono HB3.out.size)⟩
set_option maxHeartbeats 4000000 in
theorem Walk_any (A : Option Addr) (n c : Nat) (l : List NodeV) (hn : l.length = n) (hc : SlOk A n c) (hsz : ∀ x ∈ l, x.sz) (w : World) (hA : NodesAt w A l) :
    Calls Tryz.prog 7 #[.slice A n c] w fun e w' => ∃ v, e = .returned (.tuple #[v, .int .i64 (treeE l)]) ∧ Texts w' w.heap.size v (walkR l) ∧ Below w.heap.size w w' := by
  have HA := Lib.hid hA
  have HCk := Lib.hid fun W h => trCheck_any A n c l hn hc hsz W h
  by_cases h0 : treeE l = 0
  · have h40 : n ≤ 40 := by have := ((treeE_zero l).1 h0).1; omega
    have hs := ((treeE_zero l).1 h0).2
    have HP : Hid (∀ W, NodesAt W A l → Calls Tryz.prog 33 #[.slice A n c, .string ⟨#[]⟩] W fun e w' => ∃ v, e = .returned v ∧ Texts w' W.heap.size v (walkR l) ∧ Below W.heap.size W w') := fun W hW => by
      have := pathsIn_upto A n c l hn h40 hs _ ⟨#[]⟩ W (Nat.lt_succ_self _) hW
      rw [show ((⟨#[]⟩ : ByteArray).data.toList) = [] from rfl, subs_all hs] at this
      rw [walkR_ok h0]; exact this
    rw [h0] at HCk ⊢
    clear h0 hA hn hsz hc hs
    go_enter Tryz.func7, Tryz.ntmps7
    go_wp2_with fail
    refine (HCk.out _ HA.out).mono ?_; rintro e w1 ⟨rfl, hb⟩
    have HB1 := Lib.hid hb
    clear hb
    go_wp2_with fail
    refine (HP.out _ (HA.out.below HB1.out)).mono ?_; rintro e w2 ⟨v, rfl, hT, hb⟩
    have HB2 := Lib.hid (HB1.out.trans (hb.mono HB1.out.size))
    have HT := Lib.hid hT
    clear hb hT
    go_wp2_with fail
    go_ret2
    exact ⟨_, rfl, own_mono HT.out HB1.out.size, HB2.out⟩
  · have HV := Lib.hid (walkR_no h0)
    have h1 : (treeE l != 0) = true := by simpa using h0
    generalize treeE l = t at *
    clear h0 hA hn hsz hc
    go_enter Tryz.func7, Tryz.ntmps7
    go_wp2_with fail
    refine (HCk.out _ HA.out).mono ?_; rintro e w1 ⟨rfl, hb⟩
    have HB1 := Lib.hid hb
    clear hb
    go_wp2_with fail
    go_ret2
    exact ⟨_, rfl, by rw [HV.out]; exact Texts.nil _ _, HB1.out⟩
end Go.Proofs.YtmgndhdikleagaaGreatDoor
