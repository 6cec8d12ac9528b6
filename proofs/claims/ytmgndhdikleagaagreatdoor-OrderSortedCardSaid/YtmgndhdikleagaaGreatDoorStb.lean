/- Texts of one kind, in one file: StbO, StbP, StbQ, StbR, StbS, StbT. -/
import Derived.Test.YtmgndhdikleagaaGreatDoorMth
import Derived.Test.YtmgndhdikleagaaGreatDoorTrg
import Derived.Shelf.SlSortCmp.InsertionK
/- Sorting in place a row of nodes of the call's own: what a swap of two nodes does to the row and to all else. -/
set_option linter.unusedVariables false
set_option maxRecDepth 100000
namespace Go.Proofs.YtmgndhdikleagaaGreatDoor
open Go.RowKit
open Go.OpenShut
def swX (xs : List NodP) (i j : Nat) : List NodP := if h : i < xs.length ∧ j < xs.length then (xs.set i xs[j]).set j xs[i] else xs
theorem swX_len (xs : List NodP) (i j : Nat) : (swX xs i j).length = xs.length := by unfold swX; split <;> simp
theorem swX_map (xs : List NodP) (i j : Nat) : (swX xs i j).map (·.1) = swT (xs.map (·.1)) i j := by
  unfold swX swT
  by_cases h : i < xs.length ∧ j < xs.length
  · rw [dif_pos h, dif_pos (by simpa using h), List.map_set, List.map_set, List.getElem_map, List.getElem_map]
  · rw [dif_neg h, dif_neg (by simpa using h)]
theorem swX_mem {xs : List NodP} {i j : Nat} {y : NodP} (h : y ∈ swX xs i j) : y ∈ xs := by
  unfold swX at h
  split at h
  · rcases List.mem_or_eq_of_mem_set h with h | rfl
    · rcases List.mem_or_eq_of_mem_set h with h | rfl
      · exact h
      · exact List.getElem_mem _
    · exact List.getElem_mem _
  · exact h
theorem grown_set1 (W : World) (g i : Nat) (v : Value) : W.grownBy (W.setCell ⟨g, i, none⟩ v) (some g) :=
  ⟨rfl, rfl, rfl, Below.size (Below.setCell (Below.refl 0 W) (p := ⟨g, i, none⟩) (Nat.zero_le _) v), fun k _ hk => Below.heap_setCell _ _ _ k (fun e => hk (by rw [e]))⟩
theorem grown_many {g : Nat} (vs : List Value) : ∀ (W : World) (o : Nat), W.grownBy (W.setCells g o vs) (some g) := by
  induction vs with
  | nil => intro W o; exact ⟨rfl, rfl, rfl, Nat.le_refl _, fun _ _ _ => rfl⟩
  | cons v vs ih => intro W o; exact (grown_set1 W g o v).trans (ih _ _)
/-- the row holds the nodes xs, all of them of xs0, and all else is as it was -/
def SrtS (w0 : World) (B g n cap : Nat) (xs0 xs : List NodP) (W : World) : Prop := RowN W B (.slice (some ⟨g, 0, none⟩) n cap) xs ∧ xs.length = n ∧ w0.grownBy W (some g) ∧ ∀ y ∈ xs, y ∈ xs0
theorem SrtS.start {w : World} {B g n cap : Nat} {xs : List NodP} (h : RowN w B (.slice (some ⟨g, 0, none⟩) n cap) xs) (hn : xs.length = n) : SrtS w B g n cap xs xs w := ⟨h, hn, ⟨rfl, rfl, rfl, Nat.le_refl _, fun _ _ _ => rfl⟩, fun _ h => h⟩
theorem SrtS.below {w0 W W' : World} {B g n cap : Nat} {xs0 xs : List NodP} (h : SrtS w0 B g n cap xs0 xs W) (hb : Below W.heap.size W W') : SrtS w0 B g n cap xs0 xs W' := ⟨h.1.below hb, h.2.1, h.2.2.1.trans (grown_below hb _), h.2.2.2⟩
theorem SrtS.drew {w0 W : World} {B g n cap : Nat} {xs0 xs : List NodP} (h : SrtS w0 B g n cap xs0 xs W) : SrtS w0 B g n cap xs0 xs W.drew := h.below (Below.drew (Below.refl _ _))
theorem SrtS.drewN {w0 W : World} {B g n cap q : Nat} {xs0 xs : List NodP} (h : SrtS w0 B g n cap xs0 xs W) : SrtS w0 B g n cap xs0 xs (W.drewN q) := h.below (below_drewN (Below.refl _ _) q)
theorem SrtS.trans {w0 W1 W2 : World} {B g n cap : Nat} {xs0 xs1 xs2 : List NodP} (h : SrtS w0 B g n cap xs0 xs1 W1) (k : SrtS W1 B g n cap xs1 xs2 W2) : SrtS w0 B g n cap xs0 xs2 W2 := ⟨k.1, k.2.1, h.2.2.1.trans k.2.2.1, fun y hy => h.2.2.2 y (k.2.2.2 y hy)⟩
theorem SrtS.len {w0 W : World} {B g n cap : Nat} {xs0 xs : List NodP} (h : SrtS w0 B g n cap xs0 xs W) : xs.length = n := h.2.1
theorem SrtS.set {w0 W : World} {B g n cap : Nat} {xs0 xs : List NodP} (h : SrtS w0 B g n cap xs0 xs W) (i : Nat) (hi : i < n) (y : NodP) (hy : y ∈ xs0) : SrtS w0 B g n cap xs0 (xs.set i y) (W.setCells g (i * 12) (nodV y.1 y.2)) :=
  ⟨h.1.setNode h.2.1 i (by rw [h.2.1]; exact hi) y, by rw [List.length_set]; exact h.2.1, h.2.2.1.trans (grown_many _ _ _), fun z hz => by
    rcases List.mem_or_eq_of_mem_set hz with a | rfl
    · exact h.2.2.2 z a
    · exact hy⟩
theorem SrtS.swap {w0 W : World} {B g n cap : Nat} {xs0 xs : List NodP} (h : SrtS w0 B g n cap xs0 xs W) (i j : Nat) (hi : i < n) (hj : j < n) (hi' : i < xs.length) (hj' : j < xs.length) :
    SrtS w0 B g n cap xs0 (swX xs i j) ((W.setCells g (i * 12) (nodV (xs[j]'hj').1 (xs[j]'hj').2)).setCells g (j * 12) (nodV (xs[i]'hi').1 (xs[i]'hi').2)) := by
  have h1 := h.set i hi (xs[j]'hj') (h.2.2.2 _ (List.getElem_mem _))
  have h2 := h1.set j hj (xs[i]'hi') (h.2.2.2 _ (List.getElem_mem _))
  have e : swX xs i j = (xs.set i (xs[j]'hj')).set j (xs[i]'hi') := by unfold swX; rw [dif_pos ⟨hi', hj'⟩]
  rw [e]; exact h2
theorem SrtS.at {w0 W : World} {B g n cap : Nat} {xs0 xs : List NodP} (h : SrtS w0 B g n cap xs0 xs W) : B ≤ g ∧ g < W.heap.size := World.ownsRow.lt h.1 g rfl
end Go.Proofs.YtmgndhdikleagaaGreatDoor
/- Sorting in place, over any program that holds the bodies: what is asked of it; the exchange of two parts of one length. -/
set_option linter.unusedVariables false
set_option maxRecDepth 100000
namespace Go.Proofs.YtmgndhdikleagaaGreatDoor
open Go.RowKit Go.Shelf Go.Lib
open Go.OpenShut
open Go.Sort (grow grow_empty)
/-- what is asked of a program in which nodes are sorted by the function c; a node takes k cells -/
structure StbL (P : Program) (k c : Nat) (ok : NodP → Prop) : Prop where
  mixed : P.follows .mixedOrders = true
  fins : P.funcs[82]? = some Tryz.f82
  fswp : P.funcs[127]? = some Tryz.f127
  frot : P.funcs[124]? = some Tryz.f124
  fsym : P.funcs[105]? = some Tryz.f105
  fstb : P.funcs[73]? = some Tryz.f73
  fssf : P.funcs[47]? = some Tryz.f47
  hk : k = 12
  aE : ∀ w, (isAgg 40).run P w = .ok true w
  zE : ∀ w, (Go.sizeOf 40).run P w = .ok k w
  t0 : P.underlying 0 = some (TypeDesc.tuple #[])
  a0 : ∀ w, (isAgg 0).run P w = .ok false w
  z0 : ∀ w, (Go.sizeOf 0).run P w = .ok 1 w
  v0 : ∀ w, (zeroValue 0).run P w = .ok (Value.tuple #[]) w
  t3 : P.underlying 3 = some (TypeDesc.int IntKind.i64)
  a3 : ∀ w, (isAgg 3).run P w = .ok false w
  z3 : ∀ w, (Go.sizeOf 3).run P w = .ok 1 w
  v3 : ∀ w, (zeroValue 3).run P w = .ok (Value.int IntKind.i64 0) w
  t4 : P.underlying 4 = some (TypeDesc.bool)
  a4 : ∀ w, (isAgg 4).run P w = .ok false w
  z4 : ∀ w, (Go.sizeOf 4).run P w = .ok 1 w
  v4 : ∀ w, (zeroValue 4).run P w = .ok (Value.bool false) w
  t22 : P.underlying 23 = some (TypeDesc.slice 40)
  a22 : ∀ w, (isAgg 23).run P w = .ok false w
  z22 : ∀ w, (Go.sizeOf 23).run P w = .ok 1 w
  v22 : ∀ w, (zeroValue 23).run P w = .ok (Value.slice none 0 0) w
  t25 : P.underlying 60 = some (TypeDesc.func #[40, 40] #[3] false)
  a25 : ∀ w, (isAgg 60).run P w = .ok false w
  z25 : ∀ w, (Go.sizeOf 60).run P w = .ok 1 w
  v25 : ∀ w, (zeroValue 60).run P w = .ok (Value.nilFunc) w
  tu : P.underlying 72 = some (TypeDesc.int IntKind.u64)
  au : ∀ w, (isAgg 72).run P w = .ok false w
  zu : ∀ w, (Go.sizeOf 72).run P w = .ok 1 w
  vu : ∀ w, (zeroValue 72).run P w = .ok (Value.int IntKind.u64 0) w
  eg : ∀ args w, (callFunc c args).run P w = .ok (.enter c args) w
  one : ∀ y, ok y → y.2.oneCell' = true
  cmp : ∀ x y : NodP, ok x → ok y → ∀ W, Calls P c #[.agg (nodV x.1 x.2).toArray, .agg (nodV y.1 y.2).toArray] W fun e w' => e = .returned (.int .i64 (pcmp x.1.path y.1.path)) ∧ ∃ q os', w' = grow (W.drewN q) os'
/-- the same, of the nodes alone -/
def SrtT (w0 : World) (B g n cap : Nat) (xs0 : List NodP) (T : List NodeV) (W : World) : Prop := ∃ xs, SrtS w0 B g n cap xs0 xs W ∧ xs.map (·.1) = T
variable {P : Program} {k c : Nat} {ok : NodP → Prop} {w0 W : World} {B g n cap : Nat} {xs0 xs : List NodP} {T : List NodeV}
theorem SrtT.len (h : SrtT w0 B g n cap xs0 T W) : T.length = n := by
  obtain ⟨xs, h1, rfl⟩ := h
  rw [List.length_map]; exact h1.len
theorem below_grown (w : World) (q : Nat) (os : Array Obj) : Below w.heap.size w (grow (w.drewN q) os) :=
  ⟨rfl, rfl, rfl, by rw [Go.Sort.size_grow]; exact Nat.le_add_right _ _, fun k hk => by rw [Go.Sort.heap_grow_old _ _ (by simpa using hk)]; rfl⟩
theorem SrtS.grown (h : SrtS w0 B g n cap xs0 xs W) (q : Nat) (os : Array Obj) : SrtS w0 B g n cap xs0 xs (grow (W.drewN q) os) := h.below (below_grown W q os)
theorem SrtS.cellAt (h : SrtS w0 B g n cap xs0 xs W) (i : Nat) (hi : i < xs.length) (q : Nat) (hq : q < 12) : W.cell? ⟨g, i * 12 + q, none⟩ = (nodV xs[i].1 xs[i].2)[q]? ∧ W.frozen? ⟨g, i * 12 + q, none⟩ = false := by
  have h1 := h.1
  unfold RowN at h1
  have hl := h.2.1
  subst hl
  exact ⟨by rw [World.ownsRow.cellAt h1 (i * 12 + q) (by omega), rowN_get xs i q hi hq], World.ownsRow.frozenAt h1 _⟩
theorem SrtS.ld (h : SrtS w0 B g n cap xs0 xs W) (P : Program) (hk : k = 12) (i : Nat) (hi : i < xs.length) : Sem.run P (loadCellsFrom ⟨g, i * k, none⟩ 0 k #[]) W = .ok (nodV xs[i].1 xs[i].2).toArray W := by
  subst hk
  refine run_loadCellsFrom_list P W _ _ 12 (nodV_length _ _) fun j v hj => ?_
  have hj2 : j < 12 := by have := (List.getElem?_eq_some_iff.1 hj).1; rwa [nodV_length] at this
  rw [Addr.add_lit, (h.cellAt i hi j hj2).1, hj]
theorem SrtS.st (h : SrtS w0 B g n cap xs0 xs W) (P : Program) (hk : k = 12) (i : Nat) (hi : i < xs.length) (y : NodP) (hy : y.2.oneCell' = true) : Sem.run P (storeCells ⟨g, i * k, none⟩ (nodV y.1 y.2) 0) W = .ok () (W.setCells g (i * k) (nodV y.1 y.2)) := by
  subst hk
  have := run_storeCells_cells (P := P) g (i * 12) (nodV y.1 y.2) 0 W (fun j hj => by
    rw [nodV_length] at hj
    rw [Nat.add_zero, (h.cellAt i hi j hj).1, List.getElem?_eq_getElem (by rw [nodV_length]; exact hj)]; rfl) (fun j hj => by
    rw [nodV_length] at hj
    rw [Nat.add_zero, (h.cellAt i hi j hj).2]) (nodV_one' y.1 y.2 hy)
  rwa [Nat.add_zero] at this
/-- an exchange of two nodes: the loads, the stores, what comes of it -/
theorem SrtS.exch (L : StbL P k c ok) (hok : ∀ y ∈ xs0, ok y) (h : SrtS w0 B g n cap xs0 xs W) (i j : Nat) (hi : i < n) (hj : j < n) :
    ∃ cI cJ : List Value, cI.length = k ∧ cJ.length = k ∧ Sem.run P (loadCellsFrom ⟨g, i * k, none⟩ 0 k #[]) W.drew = .ok cI.toArray W.drew ∧ Sem.run P (loadCellsFrom ⟨g, j * k, none⟩ 0 k #[]) W.drew = .ok cJ.toArray W.drew ∧
      Sem.run P (storeCells ⟨g, i * k, none⟩ cJ 0) W.drew = .ok () (W.drew.setCells g (i * k) cJ) ∧ Sem.run P (storeCells ⟨g, j * k, none⟩ cI 0) (W.drew.setCells g (i * k) cJ) = .ok () ((W.drew.setCells g (i * k) cJ).setCells g (j * k) cI) ∧
      Hid (SrtS w0 B g n cap xs0 (swX xs i j) ((W.drew.setCells g (i * k) cJ).setCells g (j * k) cI)) := by
  have hd := h.drew
  have hl := h.len
  have hi' : i < xs.length := by omega
  have hj' : j < xs.length := by omega
  have hx1 := L.one _ (hok _ (h.2.2.2 _ (List.getElem_mem hi')))
  have hx2 := L.one _ (hok _ (h.2.2.2 _ (List.getElem_mem hj')))
  have h1 := hd.set i hi (xs[j]'hj') (h.2.2.2 _ (List.getElem_mem hj'))
  refine ⟨nodV xs[i].1 xs[i].2, nodV xs[j].1 xs[j].2, by rw [nodV_length, L.hk], by rw [nodV_length, L.hk], hd.ld P L.hk i hi', hd.ld P L.hk j hj', hd.st P L.hk i hi' _ hx2, ?_, ?_⟩
  · have e : i * k = i * 12 := by rw [L.hk]
    rw [e]
    exact h1.st P L.hk j (by rw [List.length_set]; exact hj') _ hx1
  · rw [L.hk]
    exact hd.swap i j hi hj hi' hj'
/-- a comparison of two nodes: the loads and the call, in every world that comes of draws and of new blocks -/
theorem SrtS.test (L : StbL P k c ok) (hok : ∀ y ∈ xs0, ok y) (h : SrtS w0 B g n cap xs0 xs W) (i j : Nat) (hi : i < n) (hj : j < n) :
    ∃ cI cJ : List Value, (∀ q os, Sem.run P (loadCellsFrom ⟨g, i * k, none⟩ 0 k #[]) (grow (W.drewN q) os) = .ok cI.toArray (grow (W.drewN q) os)) ∧ (∀ q os, Sem.run P (loadCellsFrom ⟨g, j * k, none⟩ 0 k #[]) (grow (W.drewN q) os) = .ok cJ.toArray (grow (W.drewN q) os)) ∧
      (∀ q os, Calls P c #[.agg cI.toArray, .agg cJ.toArray] (grow (W.drewN q) os) fun e w' => e = .returned (.int .i64 (pcmp (pa (xs.map (·.1)) i) (pa (xs.map (·.1)) j))) ∧ ∃ q' os', w' = grow ((grow (W.drewN q) os).drewN q') os') ∧
      Hid (∀ q os, SrtS w0 B g n cap xs0 xs (grow (W.drewN q) os)) := by
  have hl := h.len
  have hi' : i < xs.length := by omega
  have hj' : j < xs.length := by omega
  refine ⟨nodV xs[i].1 xs[i].2, nodV xs[j].1 xs[j].2, fun q os => (h.grown q os).ld P L.hk i hi', fun q os => (h.grown q os).ld P L.hk j hj', fun q os => ?_, fun q os => h.grown q os⟩
  have := L.cmp xs[i] xs[j] (hok _ (h.2.2.2 _ (List.getElem_mem hi'))) (hok _ (h.2.2.2 _ (List.getElem_mem hj'))) (grow (W.drewN q) os)
  rw [pa_get _ i (by rw [List.length_map]; exact hi'), pa_get _ j (by rw [List.length_map]; exact hj'), List.getElem_map, List.getElem_map]
  exact this
set_option maxHeartbeats 4000000 in
theorem swapRange_any (L : StbL P k c ok) (hok : ∀ y ∈ xs0, ok y) (hn : n ≤ 1000000000000000) (F : Value) (a b m : Nat) (Pf X M Y S : List NodeV) (ha : Pf.length = a) (hb : a + m + M.length = b) (hX : X.length = m) (hY : Y.length = m) (w : World) (h : SrtT w0 B g n cap xs0 (Pf ++ X ++ M ++ Y ++ S) w) :
    Calls P 127 #[.slice (some ⟨g, 0, none⟩) n cap, .int .i64 a, .int .i64 b, .int .i64 m, F] w fun e w' => e = .returned (.tuple #[]) ∧ SrtT w0 B g n cap xs0 (Pf ++ Y ++ M ++ X ++ S) w' := by
  have mixed := L.mixed; have t0 := L.t0; have a0 := L.a0; have z0 := L.z0; have v0 := L.v0; have t3 := L.t3; have a3 := L.a3; have z3 := L.z3; have v3 := L.v3; have t4 := L.t4; have a4 := L.a4; have z4 := L.z4; have v4 := L.v4; have t22 := L.t22; have a22 := L.a22; have z22 := L.z22; have v22 := L.v22; have t25 := L.t25; have a25 := L.a25; have z25 := L.z25; have v25 := L.v25; have aE := L.aE; have zE := L.zE
  have u22 := run_underlying L.t22
  have hlen := h.len
  simp only [List.length_append] at hlen
  have HL : Aside _ := L
  have HOK := Lib.hid hok
  have HX := Lib.hid hX
  have HY := Lib.hid hY
  have HA := Lib.hid ha
  have HM := Lib.hid hb
  have H0 : Hid (SrtT w0 B g n cap xs0 (swR Pf X M Y S 0) w) := by unfold Hid; rw [swR_zero]; exact h
  have HE := Lib.hid (swR_end Pf X M Y S hX hY)
  have hb1 : b + m ≤ n := by omega
  have ha1 : a + m ≤ n := by omega
  clear h hok hX hY ha hb hlen
  go_enter L.fswp, Tryz.ntmps127
  go_wp2
  go_loopw [10] (fun iv wr => ∃ i : Nat, i ≤ m ∧ iv = .int .i64 i ∧ Hid (SrtT w0 B g n cap xs0 (swR Pf X M Y S i) wr)) (fun iv _ => m - (intOf iv).toNat)
  case atStart => exact ⟨0, Nat.zero_le _, rfl, H0.out⟩
  case round =>
    obtain ⟨i, him, rfl, HI⟩ := hrel
    by_cases hlt : i < m
    · obtain ⟨xs, hS, hm⟩ := HI.out
      obtain ⟨I, hI⟩ : ∃ I, I = a + i := ⟨_, rfl⟩
      obtain ⟨J, hJ⟩ : ∃ J, J = b + i := ⟨_, rfl⟩
      have hIn : I < n := by omega
      have hJn : J < n := by omega
      have wI : IntKind.i64.wrap ((a : Int) + (i : Int)) = (I : Int) := by rw [IntKind.wrap_i64]; omega
      have wJ : IntKind.i64.wrap ((b : Int) + (i : Int)) = (J : Int) := by rw [IntKind.wrap_i64]; omega
      obtain ⟨cI, cJ, k1, k2, l1, l2, s1, s2, HS⟩ := hS.exch HL HOK.out I J hIn hJn
      have HT : Hid (SrtT w0 B g n cap xs0 (swR Pf X M Y S (i + 1)) ((wr.drew.setCells g (I * k) cJ).setCells g (J * k) cI)) := ⟨_, HS.out, by
        rw [swX_map, hm, hI, hJ, ← HM.out, ← HA.out, show Pf.length + m + M.length + i = Pf.length + m + M.length + i from rfl]
        exact swR_step Pf X M Y S HX.out HY.out hlt⟩
      clear hS hm HS hI hJ HI
      go_wp2_with fail
      go_big_region_o
      all_goals go_wp2
      go_roundw
      case rel => exact ⟨i + 1, by omega, by go_num, HT⟩
      case measure => simp [intOf]; omega
    · obtain rfl : i = m := by omega
      have HF := HI.out
      rw [HE.out] at HF
      go_wp2
      go_end0
      exact ⟨rfl, HF⟩
end Go.Proofs.YtmgndhdikleagaaGreatDoor
/- Sorting in place: rotating two parts; sorting by insertion. -/
set_option linter.unusedVariables false
set_option maxRecDepth 100000
namespace Go.Proofs.YtmgndhdikleagaaGreatDoor
open Go.RowKit Go.Shelf Go.Lib
open Go.OpenShut
open Go.Sort (grow grow_empty)
variable {P : Program} {k c : Nat} {ok : NodP → Prop} {w0 W : World} {B g n cap : Nat} {xs0 xs : List NodP} {T : List NodeV}
/-- a rotation under way: u (i nodes) and v (j nodes) lie at m, what is wanted is Z -/
def RotI (m i j : Nat) (Z T : List NodeV) : Prop := ∃ Pf U V S, T = Pf ++ U ++ V ++ S ∧ Pf.length + i = m ∧ U.length = i ∧ V.length = j ∧ Pf ++ V ++ U ++ S = Z
set_option maxHeartbeats 4000000 in
theorem rotate_any (L : StbL P k c ok) (hok : ∀ y ∈ xs0, ok y) (hn : n ≤ 1000000000000000) (F : Value) (a m b : Nat) (Pf U V S : List NodeV) (ha : Pf.length = a) (hU : a + U.length = m) (hV : m + V.length = b) (hU1 : 0 < U.length) (hV1 : 0 < V.length) (w : World) (h : SrtT w0 B g n cap xs0 (Pf ++ U ++ V ++ S) w) :
    Calls P 124 #[.slice (some ⟨g, 0, none⟩) n cap, .int .i64 a, .int .i64 m, .int .i64 b, F] w fun e w' => e = .returned (.tuple #[]) ∧ SrtT w0 B g n cap xs0 (Pf ++ V ++ U ++ S) w' := by
  have mixed := L.mixed; have t0 := L.t0; have a0 := L.a0; have z0 := L.z0; have v0 := L.v0; have t3 := L.t3; have a3 := L.a3; have z3 := L.z3; have v3 := L.v3; have t4 := L.t4; have a4 := L.a4; have z4 := L.z4; have v4 := L.v4; have t22 := L.t22; have a22 := L.a22; have z22 := L.z22; have v22 := L.v22; have t25 := L.t25; have a25 := L.a25; have z25 := L.z25; have v25 := L.v25
  have hlen := h.len
  simp only [List.length_append] at hlen
  have e29 : ∀ args w, (callFunc 127 args).run P w = .ok (.enter 127 args) w := enters_of L.fswp (by kernel_rfl) rfl
  have HL : Aside _ := L
  have HOK := Lib.hid hok
  have H0 : Hid (RotI m (m - a) (b - m) (Pf ++ V ++ U ++ S) (Pf ++ U ++ V ++ S)) := ⟨Pf, U, V, S, rfl, by omega, by omega, by omega, rfl⟩
  have HW0 := Lib.hid h
  obtain ⟨T0, hT0⟩ : ∃ T0, T0 = Pf ++ U ++ V ++ S := ⟨_, rfl⟩
  obtain ⟨Z, hZ⟩ : ∃ Z, Z = Pf ++ V ++ U ++ S := ⟨_, rfl⟩
  rw [← hT0] at H0 HW0
  rw [← hZ] at H0 ⊢
  have hbn : b ≤ n := by omega
  have ham : a < m := by omega
  have hmb : m < b := by omega
  clear h hok hT0 hZ hlen ha hU hV hU1 hV1
  go_enter L.frot, Tryz.ntmps124
  go_wp2
  go_loopw [10, 11] (fun iv jv wr => ∃ (i j : Nat) (T : List NodeV), iv = .int .i64 i ∧ jv = .int .i64 j ∧ 0 < i ∧ 0 < j ∧ i ≤ m ∧ m + j ≤ n ∧ Hid (RotI m i j Z T) ∧ Hid (SrtT w0 B g n cap xs0 T wr)) (fun iv jv _ => (intOf iv).toNat + (intOf jv).toNat)
  case atStart => exact ⟨m - a, b - m, T0, by go_num, by go_num, by omega, by omega, by omega, by omega, H0.out, HW0.out⟩
  case round =>
    obtain ⟨i, j, T, rfl, rfl, hi, hj, him, hjn, HR, HW⟩ := hrel
    obtain ⟨A, U, V, S, rfl, eA, eU, eV, eZ⟩ := HR.out
    obtain ⟨q, hq⟩ : ∃ q, q = A.length := ⟨_, rfl⟩
    have wM : IntKind.i64.wrap ((m : Int) - (i : Int)) = (q : Int) := by rw [IntKind.wrap_i64]; omega
    rcases Nat.lt_trichotomy i j with hlt | heq | hgt
    · -- i < j: v = v1 v2
      obtain ⟨d, hd⟩ : ∃ d, j = d + i := ⟨j - i, by omega⟩
      have e1 : V = V.take d ++ V.drop d := (List.take_append_drop d V).symm
      have l1 : (V.take d).length = d := by rw [List.length_take]; omega
      have l2 : (V.drop d).length = i := by rw [List.length_drop]; omega
      obtain ⟨J, hJ⟩ : ∃ J, J = m + d := ⟨_, rfl⟩
      obtain ⟨s, hs⟩ : ∃ s, s = m + j := ⟨_, rfl⟩
      have HWc : Hid (SrtT w0 B g n cap xs0 (A ++ U ++ V.take d ++ V.drop d ++ S) wr) := by unfold Hid; rw [List.append_assoc (A ++ U), List.take_append_drop]; exact HW.out
      have HC := Lib.hid (swapRange_any HL HOK.out hn F q J i A U (V.take d) (V.drop d) S hq.symm (by rw [l1]; omega) eU l2 wr HWc.out)
      have HR2 : Hid (RotI m i d Z (A ++ V.drop d ++ V.take d ++ U ++ S)) := by
        refine ⟨A, V.drop d, V.take d, U ++ S, by simp only [List.append_assoc], eA, l2, l1, ?_⟩
        rw [← eZ]
        conv => rhs; rw [e1]
        simp only [List.append_assoc]
      have hne : (i : Int) ≠ (j : Int) := by omega
      have hng : ¬ (i : Int) > (j : Int) := by omega
      have wS : IntKind.i64.wrap ((m : Int) + (j : Int)) = (s : Int) := by rw [IntKind.wrap_i64]; omega
      have wJ : IntKind.i64.wrap ((s : Int) - (i : Int)) = (J : Int) := by rw [IntKind.wrap_i64]; omega
      have wj : IntKind.i64.wrap ((j : Int) - (i : Int)) = (d : Int) := by rw [IntKind.wrap_i64]; omega
      have hd0 : 0 < d := by omega
      have hdn : m + d ≤ n := by omega
      have hdj : d < j := by omega
      generalize A ++ V.drop d ++ V.take d ++ U ++ S = T2 at HC HR2
      clear eA eU eV eZ hq hd e1 l1 l2 hJ hs HWc HW HR hlt
      go_wp2_with fail
      refine HC.out.mono ?_; rintro e w1 ⟨rfl, h1⟩
      have H1 := Lib.hid h1
      clear h1 HC
      go_wp2_with fail
      go_roundw
      case rel => exact ⟨i, d, T2, rfl, by go_num, hi, hd0, him, hdn, HR2, H1⟩
      case measure => simp [intOf]; omega
    · -- i = j: the last exchange
      subst heq
      have HWc : Hid (SrtT w0 B g n cap xs0 (A ++ U ++ [] ++ V ++ S) wr) := by unfold Hid; rw [List.append_nil]; exact HW.out
      have HC := Lib.hid (swapRange_any HL HOK.out hn F q m i A U [] V S hq.symm (by rw [List.length_nil]; omega) eU eV wr HWc.out)
      rw [List.append_nil, eZ] at HC
      have hng : ((i : Int) != (i : Int)) = false := by simp
      clear eA eU eV eZ hq HWc HW HR
      go_wp2_with fail
      refine HC.out.mono ?_; rintro e w1 ⟨rfl, h1⟩
      have H1 := Lib.hid h1
      clear h1 HC
      go_wp2_with fail
      go_end0
      exact ⟨rfl, H1.out⟩
    · -- i > j: u = u1 u2
      obtain ⟨d, hd⟩ : ∃ d, i = j + d := ⟨i - j, by omega⟩
      have e1 : U = U.take j ++ U.drop j := (List.take_append_drop j U).symm
      have l1 : (U.take j).length = j := by rw [List.length_take]; omega
      have l2 : (U.drop j).length = d := by rw [List.length_drop]; omega
      have HWc : Hid (SrtT w0 B g n cap xs0 (A ++ U.take j ++ U.drop j ++ V ++ S) wr) := by unfold Hid; rw [List.append_assoc A, List.take_append_drop]; exact HW.out
      have HC := Lib.hid (swapRange_any HL HOK.out hn F q m j A (U.take j) (U.drop j) V S hq.symm (by rw [l2]; omega) l1 eV wr HWc.out)
      have HR2 : Hid (RotI m d j Z (A ++ V ++ U.drop j ++ U.take j ++ S)) := by
        refine ⟨A ++ V, U.drop j, U.take j, S, by simp only [List.append_assoc], by rw [List.length_append]; omega, l2, l1, ?_⟩
        rw [← eZ]
        conv => rhs; rw [e1]
        simp only [List.append_assoc]
      have hne : (i : Int) ≠ (j : Int) := by omega
      have wi : IntKind.i64.wrap ((i : Int) - (j : Int)) = (d : Int) := by rw [IntKind.wrap_i64]; omega
      have hd0 : 0 < d := by omega
      have hdn : d ≤ m := by omega
      have hgi : (i : Int) > (j : Int) := by omega
      have hdi : d < i := by omega
      generalize A ++ V ++ U.drop j ++ U.take j ++ S = T2 at HC HR2
      clear eA eU eV eZ hq hd e1 l1 l2 HWc HW HR hgt
      go_wp2_with fail
      refine HC.out.mono ?_; rintro e w1 ⟨rfl, h1⟩
      have H1 := Lib.hid h1
      clear h1 HC
      go_wp2_with fail
      go_roundw
      case rel => exact ⟨d, j, T2, by go_num, rfl, hd0, hj, hdn, hjn, HR2, H1⟩
      case measure => simp [intOf]; omega
end Go.Proofs.YtmgndhdikleagaaGreatDoor
/- Sorting in place: by insertion. -/
set_option linter.unusedVariables false
set_option maxRecDepth 100000
namespace Go.Proofs.YtmgndhdikleagaaGreatDoor
open Go.RowKit Go.Shelf Go.Lib
open Go.OpenShut
open Go.Sort (grow grow_empty)
variable {P : Program} {k c : Nat} {ok : NodP → Prop} {w0 W : World} {B g n cap : Nat} {xs0 xs : List NodP} {T : List NodeV}
theorem sorts_short {t : List NodeV} (h : t.length ≤ 1) : Sorts t := by
  match t, h with
  | [], _ => exact List.Pairwise.nil
  | [x], _ => exact List.pairwise_singleton _ _
/-- a part of a list sorted -/
def srt (T : List NodeV) (a b : Nat) : List NodeV := puts T a b (sortT (rng T a b))
theorem srt_len (T : List NodeV) (a b : Nat) (hab : a ≤ b) (hb : b ≤ T.length) : (srt T a b).length = T.length := by
  unfold srt
  exact puts_len hab hb (by rw [sortT_len, rng_len T a b hb])
theorem srt_short (T : List NodeV) (a b : Nat) (hab : a ≤ b) (hb : b ≤ T.length) (h : b ≤ a + 1) : srt T a b = T := by
  unfold srt
  rw [sortT_sorted (sorts_short (by rw [rng_len T a b hb]; omega)), puts_self T a b hab]
theorem srt_parts (T : List NodeV) (a i : Nat) (hai : a ≤ i) (hi : i < T.length) : ∃ Z S x, Sorts Z ∧ Z.length = i - a ∧ srt T a i = T.take a ++ Z ++ x :: S ∧ srt T a (i + 1) = T.take a ++ sortT (Z ++ [x]) ++ S ∧ (T.take a).length = a := by
  refine ⟨sortT (rng T a i), T.drop (i + 1), T[i], (sortT_both _).1, by rw [sortT_len, rng_len T a i (by omega)], ?_, ?_, by rw [List.length_take]; omega⟩
  · unfold srt puts
    rw [List.drop_eq_getElem_cons hi]
  · unfold srt puts
    have h1 : rng T a (i + 1) = rng T a i ++ [T[i]] := by
      unfold rng
      rw [List.take_succ_eq_append_getElem hi, List.drop_append_of_le_length (by rw [List.length_take]; omega)]
    rw [h1, sortT_snoc, sortT_snoc, sortT_sorted (sortT_both _).1]
set_option maxHeartbeats 8000000 in
theorem insertion_any (L : StbL P k c ok) (hok : ∀ y ∈ xs0, ok y) (hn : n ≤ 1000000000000000) (a b : Nat) (hab : a ≤ b) (hbn : b ≤ n) (T : List NodeV) (w : World) (h : SrtT w0 B g n cap xs0 T w) :
    Calls P 82 #[.slice (some ⟨g, 0, none⟩) n cap, .int .i64 a, .int .i64 b, .func (.func c) #[] #[]] w fun e w' => e = .returned (.tuple #[]) ∧ SrtT w0 B g n cap xs0 (srt T a b) w' := by
  have mixed := L.mixed; have t0 := L.t0; have a0 := L.a0; have z0 := L.z0; have v0 := L.v0; have t3 := L.t3; have a3 := L.a3; have z3 := L.z3; have v3 := L.v3; have t4 := L.t4; have a4 := L.a4; have z4 := L.z4; have v4 := L.v4; have t22 := L.t22; have a22 := L.a22; have z22 := L.z22; have v22 := L.v22; have t25 := L.t25; have a25 := L.a25; have z25 := L.z25; have v25 := L.v25; have aE := L.aE; have zE := L.zE
  have u22 := run_underlying L.t22
  have eg := L.eg
  have hTn := h.len
  have HL : Aside _ := L
  have HOK := Lib.hid hok
  have HTN := Lib.hid hTn
  have H0 : Hid (SrtT w0 B g n cap xs0 (srt T a (min (a + 1) b)) w) := by
    unfold Hid
    rw [srt_short T a _ (by omega) (by omega) (by omega)]; exact h
  clear h hok hTn
  go_enter L.fins, Tryz.ntmps82
  go_wp2
  go_loopw [8] (fun iv wr => ∃ i : Nat, iv = .int .i64 i ∧ a < i ∧ i ≤ n + 1 ∧ (i ≤ b ∨ i = a + 1) ∧ Hid (SrtT w0 B g n cap xs0 (srt T a (min i b)) wr)) (fun iv _ => b - (intOf iv).toNat)
  case atStart => exact ⟨a + 1, by go_num, by omega, by omega, .inr rfl, H0.out⟩
  case round =>
    obtain ⟨i, rfl, hai, hin1, hib, HI⟩ := hrel
    by_cases hlt : i < b
    · obtain ⟨wo, hwo⟩ : ∃ wo, wo = wr := ⟨_, rfl⟩
      subst hwo
      obtain ⟨Z, S, x, hZs, hZl, hsi, hsi1, hPl⟩ := srt_parts T a i (by omega) (by have := HTN.out; omega)
      have e1 : min i b = i := by omega
      have e2 : min (i + 1) b = i + 1 := by omega
      have HI0 : Hid (SrtT w0 B g n cap xs0 (mvR (T.take a) x Z S (i - a)) wo) := by
        have h1 := HI.out
        rw [e1, hsi] at h1
        unfold Hid
        rw [mvR_all _ _ _ _ hZl]
        simpa only [List.append_assoc, List.singleton_append] using h1
      have HEnd : Hid (∀ q, q ≤ i - a → (∀ j (hj : j < Z.length), j + 1 = q → pcmp Z[j].path x.path ≤ 0) → (∀ z ∈ Z.drop q, pcmp x.path z.path < 0) → mvR (T.take a) x Z S q = srt T a (min (i + 1) b)) := fun q hq h1 h2 => by
        rw [e2, hsi1, ins_left hZs x q (by omega) h1 h2]
        unfold mvR
        simp only [List.append_assoc, List.cons_append]
      obtain ⟨Pf, hPf⟩ : ∃ Pf, Pf = T.take a := ⟨_, rfl⟩
      rw [← hPf] at HI0 HEnd hPl
      have HPl := Lib.hid hPl
      have HZl := Lib.hid hZl
      have hin : i < n := by omega
      clear hsi hsi1 hPf e1 e2 HI H0 hPl hZl hZs HTN hib
      go_wp2
      go_loopw [9] (fun jv wr => ∃ (j q : Nat), jv = .int .i64 j ∧ j = a + q ∧ q ≤ i - a ∧ Hid (SrtT w0 B g n cap xs0 (mvR Pf x Z S q) wr) ∧ Hid (∀ z ∈ Z.drop q, pcmp x.path z.path < 0)) (fun jv _ => (intOf jv).toNat)
      case atStart => exact ⟨i, i - a, rfl, by omega, Nat.le_refl _, HI0.out, fun z hz => by
        rw [List.drop_eq_nil_of_le (by have := HZl.out; omega)] at hz; cases hz⟩
      case round =>
        obtain ⟨j, q, rfl, hjq, hqi, HJ, HD⟩ := hrel
        by_cases hq0 : 0 < q
        · obtain ⟨p, hp⟩ : ∃ p, q = p + 1 := ⟨q - 1, by omega⟩
          obtain ⟨jp, hjp⟩ : ∃ jp, j = jp + 1 := ⟨j - 1, by omega⟩
          obtain ⟨xs, hS, hm⟩ := HJ.out
          have hpZ : p < Z.length := by have := HZl.out; omega
          have hj1 : j < n := by omega
          have hjp1 : jp < n := by omega
          obtain ⟨cI, cJ, l1, l2, hc, HG⟩ := hS.test HL HOK.out j jp hj1 hjp1
          have ex : pa (xs.map (·.1)) j = x.path := by
            have := mvR_at Pf x Z S (k := q) (by omega)
            rw [HPl.out] at this
            rw [hm, hjq]; exact this
          have ez : pa (xs.map (·.1)) jp = Z[p].path := by
            have := mvR_before Pf x Z S (k := p) hpZ
            rw [HPl.out] at this
            rw [hm, show jp = a + p by omega, hp]; exact this
          rw [ex, ez] at hc
          have hja : (j : Int) > (a : Int) := by omega
          have wj : IntKind.i64.wrap ((j : Int) - 1) = (jp : Int) := by rw [IntKind.wrap_i64]; omega
          have HM : Hid (xs.map (·.1) = mvR Pf x Z S q) := hm
          have hp1 : (p : Nat) + 1 = q := hp.symm
          obtain ⟨v, hv⟩ : ∃ v, v = pcmp x.path Z[p].path := ⟨_, rfl⟩
          rw [← hv] at hc
          by_cases hlv : v < 0
          · have HD2 : Hid (∀ z ∈ Z.drop p, pcmp x.path z.path < 0) := fun z hz => by
              rw [List.drop_eq_getElem_cons hpZ] at hz
              rcases List.mem_cons.1 hz with rfl | hz
              · rw [← hv]; exact hlv
              · exact HD.out z (by rw [hp]; exact hz)
            have HSw : Hid (swT (mvR Pf x Z S q) j jp = mvR Pf x Z S p) := by
              have := mvR_left Pf x Z S hpZ
              rw [HPl.out] at this
              unfold Hid
              rw [hp, hjq, show jp = a + p by omega, hp, show a + (p + 1) = a + p + 1 by omega]; exact this
            have hjq2 : Hid (jp = a + p) := by unfold Hid; omega
            have hpq2 : p ≤ i - a := by omega
            have hjlt : jp < j := by omega
            clear hS hm ex ez hv hpZ hjp hjq hp hp1 HJ HD hqi
            go_wp2_with fail
            go_quiet_grown (first | (go_at_fn c; refine Calls.grown_of (hc _ _)))
            have h2 := HG.out nq osq
            clear l1 l2 hc HG
            go_wp2_with fail
            generalize grow (wr.drewN nq) osq = wr2 at h2 ⊢
            obtain ⟨cI2, cJ2, k1, k2, l1, l2, s1, s2, HX⟩ := h2.exch HL HOK.out j jp hj1 hjp1
            have HT : Hid (SrtT w0 B g n cap xs0 (mvR Pf x Z S p) ((wr2.drew.setCells g (j * k) cJ2).setCells g (jp * k) cI2)) := ⟨_, HX.out, by rw [swX_map, HM.out, HSw.out]⟩
            clear h2 HX HM HSw
            go_big_region_o
            all_goals go_wp2
            go_roundw
            case rel => exact ⟨jp, p, by go_num, hjq2.out, hpq2, HT, HD2⟩
            case measure => simp [intOf]; omega
          · have HOut : Hid (SrtT w0 B g n cap xs0 (srt T a (min (i + 1) b)) (grow (wr.drewN 0) #[]) → True) := fun _ => trivial
            have HT : Hid (∀ q os, SrtT w0 B g n cap xs0 (srt T a (min (i + 1) b)) (grow (wr.drewN q) os)) := fun q' os => by
              refine ⟨xs, HG.out q' os, ?_⟩
              rw [hm]
              refine HEnd.out q hqi (fun j' hj' e => ?_) HD.out
              obtain rfl : j' = p := by omega
              have := pcmp_neg x.path (Z[j']'hj').path
              have h3 : ¬ pcmp x.path (Z[j']'hj').path < 0 := by rw [← hv]; exact hlv
              omega
            clear hS hm ex ez hv hpZ hjp hjq hp hp1 HJ HD hqi HOut HG
            go_wp2_with fail
            go_quiet_grown (first | (go_at_fn c; refine Calls.grown_of (hc _ _)))
            have h2 := Lib.hid (HT.out nq osq)
            clear l1 l2 hc HT
            go_wp2
            go_roundw
            case rel => exact ⟨i + 1, by go_num, by omega, by omega, .inl (by omega), h2⟩
            case measure => simp [intOf]; omega
        · obtain rfl : q = 0 := by omega
          have hja : decide ((j : Int) > (a : Int)) = false := decide_eq_false (by omega)
          have hja' : ¬ (a : Int) < (j : Int) := by omega
          have hja2 : ¬ a < j := by omega
          have HT : Hid (∀ W, SrtT w0 B g n cap xs0 (mvR Pf x Z S 0) W → SrtT w0 B g n cap xs0 (srt T a (min (i + 1) b)) W.drew) := fun W hW => by
            obtain ⟨xs, h1, h2⟩ := hW
            refine ⟨xs, h1.drew, ?_⟩
            rw [h2]
            exact HEnd.out 0 (Nat.zero_le _) (fun j' _ e => by omega) HD.out
          have h2 := Lib.hid (HT.out wr HJ.out)
          clear hjq HJ HD HT hqi
          go_wp2_with fail
          go_big_region_o
          all_goals go_wp2
          go_roundw
          case rel => exact ⟨i + 1, by go_num, by omega, by omega, .inl (by omega), h2⟩
          case measure => simp [intOf]; omega
    · have hf := HI.out
      have e : srt T a (min i b) = srt T a b := by
        by_cases h : i ≤ b
        · rw [show min i b = b by omega]
        · rw [show min i b = b by omega]
      rw [e] at hf
      have HF := Lib.hid hf
      clear hf e
      go_wp2
      go_end0
      exact ⟨rfl, HF.out⟩
end Go.Proofs.YtmgndhdikleagaaGreatDoor
/- Sorting in place: merging where one side has one node. -/
set_option linter.unusedVariables false
set_option maxRecDepth 100000
namespace Go.Proofs.YtmgndhdikleagaaGreatDoor
open Go.RowKit Go.Shelf Go.Lib
open Go.OpenShut
open Go.Sort (grow grow_empty)
variable {P : Program} {k c : Nat} {ok : NodP → Prop} {w0 W : World} {B g n cap : Nat} {xs0 xs : List NodP} {T : List NodeV}
theorem srt_split (T : List NodeV) (a b : Nat) (hab : a < b) (hb : b ≤ T.length) : ∃ x Y, T = T.take a ++ x :: Y ++ T.drop b ∧ Y.length = b - (a + 1) ∧ rng T (a + 1) b = Y ∧ rng T a b = x :: Y ∧ (T.take a).length = a := by
  have l0 : (T.take a).length = a := by rw [List.length_take]; omega
  have hl := rng_len T a b hb
  cases hr : rng T a b with
  | nil => rw [hr] at hl; simp at hl; omega
  | cons x Y =>
    rw [hr] at hl
    have hY : Y.length = b - (a + 1) := by rw [List.length_cons] at hl; omega
    have hT : T = T.take a ++ x :: Y ++ T.drop b := by rw [← hr]; exact cut_rng T a b (by omega)
    refine ⟨x, Y, hT, hY, ?_, rfl, l0⟩
    refine rng_eq (P := T.take a ++ [x]) (S := T.drop b) ?_ (by rw [List.length_append, l0]; rfl) (by rw [List.length_append, l0, List.length_singleton]; omega)
    conv => lhs; rw [hT]
    simp only [List.append_assoc, List.cons_append, List.nil_append]
theorem srt_last (T : List NodeV) (a m : Nat) (ham : a ≤ m) (hm : m < T.length) : ∃ y, T = T.take a ++ rng T a m ++ y :: T.drop (m + 1) ∧ rng T a (m + 1) = rng T a m ++ [y] ∧ (T.take a).length = a ∧ (rng T a m).length = m - a ∧ y = T[m] := by
  refine ⟨T[m], ?_, ?_, by rw [List.length_take]; omega, rng_len T a m (by omega), rfl⟩
  · rw [← List.drop_eq_getElem_cons hm]; exact cut_rng T a m ham
  · unfold rng
    rw [List.take_succ_eq_append_getElem hm, List.drop_append_of_le_length (by rw [List.length_take]; omega)]
set_option maxHeartbeats 8000000 in
theorem symMerge_one (L : StbL P k c ok) (hok : ∀ y ∈ xs0, ok y) (hn : n ≤ 1000000000000000) (a m b : Nat) (ham : m = a + 1) (hmb : m < b) (hbn : b ≤ n) (T : List NodeV) (hs : Sorts (rng T m b)) (w : World) (h : SrtT w0 B g n cap xs0 T w) :
    Calls P 105 #[.slice (some ⟨g, 0, none⟩) n cap, .int .i64 a, .int .i64 m, .int .i64 b, .func (.func c) #[] #[]] w fun e w' => e = .returned (.tuple #[]) ∧ SrtT w0 B g n cap xs0 (srt T a b) w' := by
  have mixed := L.mixed; have t0 := L.t0; have a0 := L.a0; have z0 := L.z0; have v0 := L.v0; have t3 := L.t3; have a3 := L.a3; have z3 := L.z3; have v3 := L.v3; have t4 := L.t4; have a4 := L.a4; have z4 := L.z4; have v4 := L.v4; have t22 := L.t22; have a22 := L.a22; have z22 := L.z22; have v22 := L.v22; have t25 := L.t25; have a25 := L.a25; have z25 := L.z25; have v25 := L.v25; have aE := L.aE; have zE := L.zE; have tu := L.tu; have au := L.au; have zu := L.zu; have vu := L.vu
  have u22 := run_underlying L.t22
  have uu := run_underlying L.tu
  have u3 := run_underlying L.t3
  have eg := L.eg
  have hTn := h.len
  have HL : Aside _ := L
  have HOK := Lib.hid hok
  obtain ⟨x, Y, hT, hYl, hr, hr2, hPl⟩ := srt_split T a b (by omega) (by omega)
  rw [ham, hr] at hs
  obtain ⟨S, hS⟩ : ∃ S, S = T.drop b := ⟨_, rfl⟩
  obtain ⟨Pf, hPf⟩ : ∃ Pf, Pf = T.take a := ⟨_, rfl⟩
  have HE : Hid (srt T a b = Pf ++ sortT (x :: Y) ++ S) := by unfold Hid srt puts; rw [hr2, hPf, hS]
  rw [← hS, ← hPf] at hT
  rw [← hPf] at hPl
  have hT0 : T = mvR Pf x Y S 0 := by rw [mvR_zero]; exact hT
  rw [HE.out]
  have H0 : Hid (SrtT w0 B g n cap xs0 (mvR Pf x Y S 0) w) := by unfold Hid; rw [← hT0]; exact h
  have hA : pa (mvR Pf x Y S 0) a = x.path := by have := mvR_at Pf x Y S (k := 0) (Nat.zero_le _); rwa [hPl] at this
  have HC : Hid (∀ j (hj : j < Y.length), pa (mvR Pf x Y S 0) (m + j) = Y[j].path) := fun j hj => by
    have hl : (Pf ++ [x]).length = m := by rw [List.length_append, hPl]; exact ham.symm
    rw [mvR_zero, show Pf ++ x :: Y ++ S = (Pf ++ [x]) ++ (Y ++ S) by simp only [List.append_assoc, List.cons_append, List.nil_append]]
    unfold pa
    rw [List.getElem?_append_right (by omega), hl, Nat.add_sub_cancel_left, List.getElem?_append_left hj, List.getElem?_eq_getElem hj]
  have HYl := Lib.hid hYl
  have HPl := Lib.hid hPl
  have HSo := Lib.hid hs
  have HA := Lib.hid hA
  have HAM := Lib.hid ham
  have hm1 : IntKind.i64.wrap ((m : Int) - (a : Int)) = 1 := by rw [IntKind.wrap_i64]; omega
  have hab : a < m := by omega
  clear h hok hTn hT hr hr2 hs hS hPf HE hT0 hYl hPl hA ham
  go_enter L.fsym, Tryz.ntmps105
  go_wp2
  go_loopw [10, 11] (fun iv jv wr => ∃ i j : Nat, iv = .int .i64 i ∧ jv = .int .i64 j ∧ m ≤ i ∧ i ≤ j ∧ j ≤ b ∧ Hid (Srch (fun q => decide (pcmp (pa (mvR Pf x Y S 0) q) x.path < 0)) m b i j) ∧ Hid (SrtT w0 B g n cap xs0 (mvR Pf x Y S 0) wr)) (fun iv jv _ => (intOf jv).toNat - (intOf iv).toNat)
  case atStart => exact ⟨m, b, rfl, rfl, Nat.le_refl _, by omega, Nat.le_refl _, Srch.start _ (by omega), H0.out⟩
  case round =>
    obtain ⟨i, j, rfl, rfl, hmi, hij, hjb, HSr, HT⟩ := hrel
    by_cases hlt : i < j
    · obtain ⟨h, hh⟩ : ∃ h, h = (i + j) / 2 := ⟨_, rfl⟩
      have hih : i ≤ h := by omega
      have hhj : h < j := by omega
      have hhn : h < n := by omega
      have han : a < n := by omega
      have hH : ((i : Int) + (j : Int)) / 2 = (h : Int) := by omega
      obtain ⟨xs, hS, hm⟩ := HT.out
      obtain ⟨cI, cJ, l1, l2, hc, HG⟩ := hS.test HL HOK.out h a hhn han
      rw [hm, HA.out] at hc
      have HG2 : Hid (∀ q os, SrtT w0 B g n cap xs0 (mvR Pf x Y S 0) (grow (wr.drewN q) os)) := fun q os => ⟨xs, HG.out q os, hm⟩
      obtain ⟨v, hv⟩ : ∃ v, v = pcmp (pa (mvR Pf x Y S 0) h) x.path := ⟨_, rfl⟩
      rw [← hv] at hc
      have HUp : Hid (v < 0 → Srch (fun q => decide (pcmp (pa (mvR Pf x Y S 0) q) x.path < 0)) m b (h + 1) j) := fun hl => HSr.out.up hih hhj (by simp only [← hv]; exact decide_eq_true hl)
      have HDn : Hid (¬ v < 0 → Srch (fun q => decide (pcmp (pa (mvR Pf x Y S 0) q) x.path < 0)) m b i h) := fun hl => HSr.out.down hih hhj (by simp only [← hv]; exact decide_eq_false hl)
      obtain ⟨s, hs⟩ : ∃ s, s = i + j := ⟨_, rfl⟩
      have wS : IntKind.i64.wrap ((i : Int) + (j : Int)) = (s : Int) := by rw [IntKind.wrap_i64]; omega
      have wU : IntKind.u64.wrap (s : Int) = (s : Int) := by rw [IntKind.wrap_u64]; omega
      have hH2 : (s : Int) / 2 = (h : Int) := by omega
      have hs2 : s ≤ 2000000000000000 := by omega
      clear hS hm hv HG hh HT HSr hH hs
      by_cases hlv : v < 0
      · have HU := Lib.hid (HUp.out hlv)
        clear HUp HDn
        go_wp2_with fail
        go_quiet_grown (first | (go_at_fn c; refine Calls.grown_of (hc _ _)))
        have h2 := Lib.hid (HG2.out nq osq)
        clear l1 l2 hc HG2
        go_wp2
        go_roundw
        case rel => exact ⟨h + 1, j, by go_num, rfl, by omega, by omega, hjb, HU, h2⟩
        case measure => simp [intOf]; omega
      · have HU := Lib.hid (HDn.out hlv)
        clear HUp HDn
        go_wp2_with fail
        go_quiet_grown (first | (go_at_fn c; refine Calls.grown_of (hc _ _)))
        have h2 := Lib.hid (HG2.out nq osq)
        clear l1 l2 hc HG2
        go_wp2
        go_roundw
        case rel => exact ⟨i, h, rfl, rfl, hmi, by omega, by omega, HU, h2⟩
        case measure => simp [intOf]; omega
    · obtain rfl : i = j := by omega
      obtain ⟨q, hq⟩ : ∃ q, i = m + q := ⟨i - m, by omega⟩
      have hqY : q ≤ Y.length := by have := HYl.out; omega
      have HIns : Hid (mvR Pf x Y S q = Pf ++ sortT (x :: Y) ++ S) := by
        obtain ⟨-, -, -, g1, g2⟩ := HSr.out
        unfold Hid
        rw [ins_right HSo.out x q hqY]
        · unfold mvR; simp only [List.append_assoc, List.cons_append]
        · intro j' hj' e
          have h3 := g1.resolve_left (by omega)
          have h4 : pcmp (pa (mvR Pf x Y S 0) (i - 1)) x.path < 0 := of_decide_eq_true h3
          rw [show i - 1 = m + j' by omega, HC.out j' hj'] at h4
          exact h4
        · intro hj'
          have h3 := g2.resolve_left (by have := HYl.out; have := HAM.out; omega)
          have h4 : ¬ pcmp (pa (mvR Pf x Y S 0) i) x.path < 0 := of_decide_eq_false h3
          rw [hq, HC.out q hj'] at h4
          exact h4
      obtain ⟨i1, hi1⟩ : ∃ i1, i1 = a + q := ⟨_, rfl⟩
      have hAM := HAM.out
      have wI : IntKind.i64.wrap ((i : Int) - 1) = (i1 : Int) := by rw [IntKind.wrap_i64]; omega
      have hi1n : i1 < n := by omega
      have HI1 := Lib.hid hi1
      have HQY := Lib.hid hqY
      obtain ⟨wo, hwo⟩ : ∃ wo, wo = wr := ⟨_, rfl⟩
      subst hwo
      clear HSr hq hqY hi1 hAM HAM H0
      go_wp2
      go_loopw [13] (fun kv wr => ∃ kk p : Nat, kv = .int .i64 kk ∧ Hid (kk = a + p) ∧ Hid (p ≤ q) ∧ kk ≤ i1 ∧ Hid (SrtT w0 B g n cap xs0 (mvR Pf x Y S p) wr)) (fun kv _ => i1 - (intOf kv).toNat)
      case atStart => exact ⟨a, 0, rfl, rfl, Nat.zero_le _, by have := HI1.out; omega, HT.out⟩
      case round =>
        obtain ⟨kk, p, rfl, HK, HP, hki, HX⟩ := hrel
        by_cases hlt : kk < i1
        · obtain ⟨xs, hS, hm⟩ := HX.out
          obtain ⟨k1, hk1⟩ : ∃ k1, k1 = kk + 1 := ⟨_, rfl⟩
          have hkn : kk < n := by omega
          have hk1n : k1 < n := by omega
          have wK : IntKind.i64.wrap ((kk : Int) + 1) = (k1 : Int) := by rw [IntKind.wrap_i64]; omega
          obtain ⟨cI2, cJ2, e1, e2, l1, l2, s1, s2, HXX⟩ := hS.exch HL HOK.out kk k1 hkn hk1n
          have hpq : p < q := by have := HI1.out; have := HK.out; omega
          have HT2 : Hid (SrtT w0 B g n cap xs0 (mvR Pf x Y S (p + 1)) ((wr.drew.setCells g (kk * k) cJ2).setCells g (k1 * k) cI2)) := ⟨_, HXX.out, by
            rw [swX_map, hm]
            have := mvR_right Pf x Y S (k := p) (by have := HQY.out; omega)
            rw [HPl.out] at this
            rw [hk1, HK.out]; exact this⟩
          have HK2 : Hid (k1 = a + (p + 1)) := by unfold Hid; rw [hk1, HK.out]; omega
          have HP2 : Hid (p + 1 ≤ q) := hpq
          have hk1i : k1 ≤ i1 := by omega
          have hkk1 : kk < k1 := by omega
          clear hS hm hk1 HXX hpq HK HP HX HT
          go_wp2_with fail
          go_big_region_o
          all_goals go_wp2
          go_roundw
          case rel => exact ⟨k1, p + 1, by go_num, HK2.out, HP2.out, hk1i, HT2⟩
          case measure => simp [intOf]; omega
        · have hpq : p = q := by have := HI1.out; have := HK.out; have := HP.out; omega
          have hf := HX.out
          rw [hpq, HIns.out] at hf
          have HF := Lib.hid hf
          clear hf hpq HX HK HP HT
          go_wp2
          (try simp only [Exit.inBlock, Exit.then]); refine bodyPost_ret (results_none rfl _ _ _) rfl ?_
          exact ⟨rfl, HF.out⟩
end Go.Proofs.YtmgndhdikleagaaGreatDoor
/- Sorting in place: merging where the second side has one node. -/
set_option linter.unusedVariables false
set_option maxRecDepth 100000
namespace Go.Proofs.YtmgndhdikleagaaGreatDoor
open Go.RowKit Go.Shelf Go.Lib
open Go.OpenShut
open Go.Sort (grow grow_empty)
variable {P : Program} {k c : Nat} {ok : NodP → Prop} {w0 W : World} {B g n cap : Nat} {xs0 xs : List NodP} {T : List NodeV}
set_option maxHeartbeats 8000000 in
theorem symMerge_last (L : StbL P k c ok) (hok : ∀ y ∈ xs0, ok y) (hn : n ≤ 1000000000000000) (a m b : Nat) (ham : a + 1 < m) (hmb : b = m + 1) (hbn : b ≤ n) (T : List NodeV) (hs : Sorts (rng T a m)) (w : World) (h : SrtT w0 B g n cap xs0 T w) :
    Calls P 105 #[.slice (some ⟨g, 0, none⟩) n cap, .int .i64 a, .int .i64 m, .int .i64 b, .func (.func c) #[] #[]] w fun e w' => e = .returned (.tuple #[]) ∧ SrtT w0 B g n cap xs0 (srt T a b) w' := by
  have mixed := L.mixed; have t0 := L.t0; have a0 := L.a0; have z0 := L.z0; have v0 := L.v0; have t3 := L.t3; have a3 := L.a3; have z3 := L.z3; have v3 := L.v3; have t4 := L.t4; have a4 := L.a4; have z4 := L.z4; have v4 := L.v4; have t22 := L.t22; have a22 := L.a22; have z22 := L.z22; have v22 := L.v22; have t25 := L.t25; have a25 := L.a25; have z25 := L.z25; have v25 := L.v25; have aE := L.aE; have zE := L.zE; have tu := L.tu; have au := L.au; have zu := L.zu; have vu := L.vu
  have u22 := run_underlying L.t22
  have uu := run_underlying L.tu
  have u3 := run_underlying L.t3
  have eg := L.eg
  have hTn := h.len
  have HL : Aside _ := L
  have HOK := Lib.hid hok
  obtain ⟨y, hT, hr, hPl, hZl, -⟩ := srt_last T a m (by omega) (by omega)
  obtain ⟨S, hS⟩ : ∃ S, S = T.drop (m + 1) := ⟨_, rfl⟩
  obtain ⟨Pf, hPf⟩ : ∃ Pf, Pf = T.take a := ⟨_, rfl⟩
  obtain ⟨Z, hZ⟩ : ∃ Z, Z = rng T a m := ⟨_, rfl⟩
  have HE : Hid (srt T a b = Pf ++ sortT (Z ++ [y]) ++ S) := by unfold Hid srt puts; rw [hmb, hr, hPf, hS, hZ]
  rw [← hS, ← hPf, ← hZ] at hT
  rw [← hPf] at hPl
  rw [← hZ] at hZl hs
  obtain ⟨qm, hqm⟩ : ∃ qm, m = a + qm := ⟨m - a, by omega⟩
  have hT0 : T = mvR Pf y Z S qm := by rw [mvR_all _ _ _ _ (by omega)]; conv => lhs; rw [hT]
                                       simp only [List.append_assoc, List.singleton_append]
  rw [HE.out]
  have H0 : Hid (SrtT w0 B g n cap xs0 (mvR Pf y Z S qm) w) := by unfold Hid; rw [← hT0]; exact h
  have hA : pa (mvR Pf y Z S qm) m = y.path := by have := mvR_at Pf y Z S (k := qm) (by omega); rwa [hPl, ← hqm] at this
  have HC : Hid (∀ j (hj : j < Z.length), pa (mvR Pf y Z S qm) (a + j) = Z[j].path) := fun j hj => by
    rw [mvR_all _ _ _ _ (by omega), show Pf ++ (Z ++ [y]) ++ S = Pf ++ (Z ++ ([y] ++ S)) by simp only [List.append_assoc]]
    unfold pa
    rw [List.getElem?_append_right (by omega), hPl, Nat.add_sub_cancel_left, List.getElem?_append_left hj, List.getElem?_eq_getElem hj]
  have HZl : Hid (Z.length = qm) := by unfold Hid; omega
  have HPl := Lib.hid hPl
  have HSo := Lib.hid hs
  have HA := Lib.hid hA
  have HQM := Lib.hid hqm
  obtain ⟨d1, hd1⟩ : ∃ d1, d1 = m - a := ⟨_, rfl⟩
  have hm1 : IntKind.i64.wrap ((m : Int) - (a : Int)) = (d1 : Int) := by rw [IntKind.wrap_i64]; omega
  have hm2 : ((d1 : Int) == 1) = false := by simp; omega
  have hm3 : ¬ (d1 : Int) = 1 := by omega
  have hb1 : IntKind.i64.wrap ((b : Int) - (m : Int)) = 1 := by rw [IntKind.wrap_i64]; omega
  have ham2 : a < m := by omega
  have hmn : m < n := by omega
  clear h hok hTn hT hr hZ hs hS hPf HE hT0 hZl hPl hA ham hqm hd1 hmb hbn
  go_enter L.fsym, Tryz.ntmps105
  go_wp2
  go_loopw [14, 15] (fun iv jv wr => ∃ i j : Nat, iv = .int .i64 i ∧ jv = .int .i64 j ∧ a ≤ i ∧ i ≤ j ∧ j ≤ m ∧ Hid (Srch (fun q => !decide (pcmp y.path (pa (mvR Pf y Z S qm) q) < 0)) a m i j) ∧ Hid (SrtT w0 B g n cap xs0 (mvR Pf y Z S qm) wr)) (fun iv jv _ => (intOf jv).toNat - (intOf iv).toNat)
  case atStart => exact ⟨a, m, rfl, rfl, Nat.le_refl _, by omega, Nat.le_refl _, Srch.start _ (by omega), H0.out⟩
  case round =>
    obtain ⟨i, j, rfl, rfl, hmi, hij, hjb, HSr, HT⟩ := hrel
    by_cases hlt : i < j
    · obtain ⟨h, hh⟩ : ∃ h, h = (i + j) / 2 := ⟨_, rfl⟩
      have hih : i ≤ h := by omega
      have hhj : h < j := by omega
      have hhn : h < n := by omega
      obtain ⟨xs, hS, hm⟩ := HT.out
      obtain ⟨cI, cJ, l1, l2, hc, HG⟩ := hS.test HL HOK.out m h hmn hhn
      rw [hm, HA.out] at hc
      have HG2 : Hid (∀ q os, SrtT w0 B g n cap xs0 (mvR Pf y Z S qm) (grow (wr.drewN q) os)) := fun q os => ⟨xs, HG.out q os, hm⟩
      obtain ⟨v, hv⟩ : ∃ v, v = pcmp y.path (pa (mvR Pf y Z S qm) h) := ⟨_, rfl⟩
      rw [← hv] at hc
      have HUp : Hid (¬ v < 0 → Srch (fun q => !decide (pcmp y.path (pa (mvR Pf y Z S qm) q) < 0)) a m (h + 1) j) := fun hl => HSr.out.up hih hhj (by simp only [← hv]; rw [decide_eq_false hl]; rfl)
      have HDn : Hid (v < 0 → Srch (fun q => !decide (pcmp y.path (pa (mvR Pf y Z S qm) q) < 0)) a m i h) := fun hl => HSr.out.down hih hhj (by simp only [← hv]; rw [decide_eq_true hl]; rfl)
      obtain ⟨s, hs⟩ : ∃ s, s = i + j := ⟨_, rfl⟩
      have wS : IntKind.i64.wrap ((i : Int) + (j : Int)) = (s : Int) := by rw [IntKind.wrap_i64]; omega
      have wU : IntKind.u64.wrap (s : Int) = (s : Int) := by rw [IntKind.wrap_u64]; omega
      have hH2 : (s : Int) / 2 = (h : Int) := by omega
      have hs2 : s ≤ 2000000000000000 := by omega
      clear hS hm hv HG hh HT HSr hs
      by_cases hlv : v < 0
      · have HU := Lib.hid (HDn.out hlv)
        clear HUp HDn
        go_wp2_with fail
        go_quiet_grown (first | (go_at_fn c; refine Calls.grown_of (hc _ _)))
        have h2 := Lib.hid (HG2.out nq osq)
        clear l1 l2 hc HG2
        go_wp2
        go_roundw
        case rel => exact ⟨i, h, rfl, rfl, hmi, by omega, by omega, HU, h2⟩
        case measure => simp [intOf]; omega
      · have HU := Lib.hid (HUp.out hlv)
        have hd0 : decide (v < 0) = false := decide_eq_false hlv
        have hd1 : (!decide (v < 0)) = true := by rw [hd0]; rfl
        clear HUp HDn
        go_wp2_with fail
        go_quiet_grown (first | (go_at_fn c; refine Calls.grown_of (hc _ _)))
        have h2 := Lib.hid (HG2.out nq osq)
        clear l1 l2 hc HG2
        go_wp2
        go_roundw
        case rel => exact ⟨h + 1, j, by go_num, rfl, by omega, by omega, hjb, HU, h2⟩
        case measure => simp [intOf]; omega
    · obtain rfl : i = j := by omega
      obtain ⟨q, hq⟩ : ∃ q, i = a + q := ⟨i - a, by omega⟩
      have hqZ : q ≤ Z.length := by have := HZl.out; have := HQM.out; omega
      have HIns : Hid (mvR Pf y Z S q = Pf ++ sortT (Z ++ [y]) ++ S) := by
        obtain ⟨-, -, -, g1, g2⟩ := HSr.out
        unfold Hid
        have h1 : ∀ j (hj : j < Z.length), j + 1 = q → pcmp Z[j].path y.path ≤ 0 := by
          intro j' hj' e
          have h3 := g1.resolve_left (by omega)
          have h4 : ¬ pcmp y.path (pa (mvR Pf y Z S qm) (i - 1)) < 0 := by simpa using h3
          rw [show i - 1 = a + j' by omega, HC.out j' hj'] at h4
          have := pcmp_neg y.path Z[j'].path
          omega
        have h2 : ∀ z ∈ Z.drop q, pcmp y.path z.path < 0 := by
          intro z hz
          obtain ⟨t, ht, rfl⟩ := List.mem_drop_iff_getElem.1 hz
          have hqlt : q < Z.length := by omega
          have h3 := g2.resolve_left (by have := HZl.out; have := HQM.out; omega)
          have h4 : pcmp y.path (pa (mvR Pf y Z S qm) i) < 0 := by simpa using h3
          rw [hq, HC.out q hqlt] at h4
          exact pcmp_lt_le h4 (sorts_get HSo.out q (q + t) hqlt (by omega) (by omega))
        rw [ins_left HSo.out y q hqZ h1 h2]
        unfold mvR; simp only [List.append_assoc, List.cons_append]
      have HQ := Lib.hid hq
      obtain ⟨wo, hwo⟩ : ∃ wo, wo = wr := ⟨_, rfl⟩
      subst hwo
      clear HSr hq hqZ H0
      go_wp2
      go_loopw [17] (fun kv wr => ∃ kk p : Nat, kv = .int .i64 kk ∧ Hid (kk = a + p) ∧ Hid (q ≤ p ∧ p ≤ qm) ∧ i ≤ kk ∧ kk ≤ m ∧ Hid (SrtT w0 B g n cap xs0 (mvR Pf y Z S p) wr)) (fun kv _ => (intOf kv).toNat)
      case atStart => exact ⟨m, qm, rfl, HQM.out, ⟨by have := HQ.out; have := HQM.out; omega, Nat.le_refl _⟩, hjb, Nat.le_refl _, HT.out⟩
      case round =>
        obtain ⟨kk, p, rfl, HK, HP, hki, hkm, HX⟩ := hrel
        by_cases hlt : i < kk
        · obtain ⟨xs, hS, hm⟩ := HX.out
          obtain ⟨k1, hk1⟩ : ∃ k1, kk = k1 + 1 := ⟨kk - 1, by omega⟩
          obtain ⟨p1, hp1⟩ : ∃ p1, p = p1 + 1 := ⟨p - 1, by have := HQ.out; have := HK.out; omega⟩
          have hkn : kk < n := by omega
          have hk1n : k1 < n := by omega
          have wK : IntKind.i64.wrap ((kk : Int) - 1) = (k1 : Int) := by rw [IntKind.wrap_i64]; omega
          have hgt : (kk : Int) > (i : Int) := by omega
          obtain ⟨cI2, cJ2, e1, e2, l1, l2, s1, s2, HXX⟩ := hS.exch HL HOK.out kk k1 hkn hk1n
          have HT2 : Hid (SrtT w0 B g n cap xs0 (mvR Pf y Z S p1) ((wr.drew.setCells g (kk * k) cJ2).setCells g (k1 * k) cI2)) := ⟨_, HXX.out, by
            rw [swX_map, hm]
            have := mvR_left Pf y Z S (k := p1) (by have := HZl.out; have := HP.out; omega)
            rw [HPl.out] at this
            have e3 : kk = a + p1 + 1 := by have := HK.out; omega
            have e4 : k1 = a + p1 := by have := HK.out; omega
            rw [hp1, e3, e4]; exact this⟩
          have HK2 : Hid (k1 = a + p1) := by unfold Hid; have := HK.out; omega
          have HP2 : Hid (q ≤ p1 ∧ p1 ≤ qm) := by
            have h1 := HQ.out
            have h2 := HK.out
            have h3 := HP.out
            exact ⟨by omega, by omega⟩
          have hk1i : i ≤ k1 := by omega
          have hk1m : k1 ≤ m := by omega
          have hkk1 : k1 < kk := by omega
          clear hS hm hk1 HXX HK HP HX HT hp1
          go_wp2_with fail
          go_big_region_o
          all_goals go_wp2
          go_roundw
          case rel => exact ⟨k1, p1, by go_num, HK2.out, HP2.out, hk1i, hk1m, HT2⟩
          case measure => simp [intOf]; omega
        · have hpq : p = q := by have := HQ.out; have := HK.out; have := HP.out; omega
          have hf := HX.out
          rw [hpq, HIns.out] at hf
          have HF := Lib.hid hf
          clear hf hpq HX HK HP HT
          go_wp2
          (try simp only [Exit.inBlock, Exit.then]); refine bodyPost_ret (results_none rfl _ _ _) rfl ?_
          exact ⟨rfl, HF.out⟩
end Go.Proofs.YtmgndhdikleagaaGreatDoor
