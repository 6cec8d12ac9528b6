/- Sorting in place, over any program that holds the bodies: what is asked of it; the exchange of two parts of one length. -/
import Derived.Test.YtmgndhdikleagaaStbO
import Derived.Shelf.SlSortCmp.InsertionK
set_option linter.unusedVariables false
set_option maxRecDepth 100000
namespace Go.Proofs.Ytmgndhdikleagaa
open Go.RowKit Go.Shelf Go.Lib
open Go.OpenShut
open Go.Sort (grow grow_empty)
/-- what is asked of a program in which nodes are sorted by the function c; a node takes k cells -/
structure StbL (P : Program) (k c : Nat) (ok : NodP → Prop) : Prop where
  mixed : P.follows .mixedOrders = true
  fins : P.funcs[23]? = some Try.f23
  fswp : P.funcs[29]? = some Try.f29
  frot : P.funcs[28]? = some Try.f28
  fsym : P.funcs[24]? = some Try.f24
  fstb : P.funcs[16]? = some Try.f16
  fssf : P.funcs[8]? = some Try.f8
  hk : k = 12
  aE : ∀ w, (isAgg 31).run P w = .ok true w
  zE : ∀ w, (Go.sizeOf 31).run P w = .ok k w
  t0 : P.underlying 0 = some (TypeDesc.tuple #[])
  a0 : ∀ w, (isAgg 0).run P w = .ok false w
  z0 : ∀ w, (Go.sizeOf 0).run P w = .ok 1 w
  v0 : ∀ w, (zeroValue 0).run P w = .ok (Value.tuple #[]) w
  t3 : P.underlying 3 = some (TypeDesc.int IntKind.i64)
  a3 : ∀ w, (isAgg 3).run P w = .ok false w
  z3 : ∀ w, (Go.sizeOf 3).run P w = .ok 1 w
  v3 : ∀ w, (zeroValue 3).run P w = .ok (Value.int IntKind.i64 0) w
  t4 : P.underlying 4 = some (TypeDesc.bool)
  a4 : ∀ w, (isAgg 4).run P w = .ok false w
  z4 : ∀ w, (Go.sizeOf 4).run P w = .ok 1 w
  v4 : ∀ w, (zeroValue 4).run P w = .ok (Value.bool false) w
  t22 : P.underlying 22 = some (TypeDesc.slice 31)
  a22 : ∀ w, (isAgg 22).run P w = .ok false w
  z22 : ∀ w, (Go.sizeOf 22).run P w = .ok 1 w
  v22 : ∀ w, (zeroValue 22).run P w = .ok (Value.slice none 0 0) w
  t25 : P.underlying 33 = some (TypeDesc.func #[31, 31] #[3] false)
  a25 : ∀ w, (isAgg 33).run P w = .ok false w
  z25 : ∀ w, (Go.sizeOf 33).run P w = .ok 1 w
  v25 : ∀ w, (zeroValue 33).run P w = .ok (Value.nilFunc) w
  tu : P.underlying 49 = some (TypeDesc.int IntKind.u64)
  au : ∀ w, (isAgg 49).run P w = .ok false w
  zu : ∀ w, (Go.sizeOf 49).run P w = .ok 1 w
  vu : ∀ w, (zeroValue 49).run P w = .ok (Value.int IntKind.u64 0) w
  eg : ∀ args w, (callFunc c args).run P w = .ok (.enter c args) w
  one : ∀ y, ok y → y.2.oneCell' = true
  cmp : ∀ x y : NodP, ok x → ok y → ∀ W, Calls P c #[.agg (nodV x.1 x.2).toArray, .agg (nodV y.1 y.2).toArray] W fun e w' => e = .returned (.int .i64 (pcmp x.1.path y.1.path)) ∧ ∃ q os', w' = grow (W.drewN q) os'
/-- the same, of the nodes alone -/
def SrtT (w0 : World) (B g n cap : Nat) (xs0 : List NodP) (T : List NodeV) (W : World) : Prop := ∃ xs, SrtS w0 B g n cap xs0 xs W ∧ xs.map (·.1) = T
variable {P : Program} {k c : Nat} {ok : NodP → Prop} {w0 W : World} {B g n cap : Nat} {xs0 xs : List NodP} {T : List NodeV}
theorem SrtT.len (h : SrtT w0 B g n cap xs0 T W) : T.length = n := by
  obtain ⟨xs, h1, rfl⟩ := h
  rw [List.length_map]; exact h1.len
theorem below_grown (w : World) (q : Nat) (os : Array Obj) : Below w.heap.size w (grow (w.drewN q) os) :=
  ⟨rfl, rfl, rfl, by rw [Go.Sort.size_grow]; exact Nat.le_add_right _ _, fun k hk => by rw [Go.Sort.heap_grow_old _ _ (by simpa using hk)]; rfl⟩
theorem SrtS.grown (h : SrtS w0 B g n cap xs0 xs W) (q : Nat) (os : Array Obj) : SrtS w0 B g n cap xs0 xs (grow (W.drewN q) os) := h.below (below_grown W q os)
theorem SrtS.cellAt (h : SrtS w0 B g n cap xs0 xs W) (i : Nat) (hi : i < xs.length) (q : Nat) (hq : q < 12) : W.cell? ⟨g, i * 12 + q, none⟩ = (nodV xs[i].1 xs[i].2)[q]? ∧ W.frozen? ⟨g, i * 12 + q, none⟩ = false := by
  have h1 := h.1
  unfold RowN at h1
  have hl := h.2.1
  subst hl
  exact ⟨by rw [World.ownsRow.cellAt h1 (i * 12 + q) (by omega), rowN_get xs i q hi hq], World.ownsRow.frozenAt h1 _⟩
theorem SrtS.ld (h : SrtS w0 B g n cap xs0 xs W) (P : Program) (hk : k = 12) (i : Nat) (hi : i < xs.length) : Sem.run P (loadCellsFrom ⟨g, i * k, none⟩ 0 k #[]) W = .ok (nodV xs[i].1 xs[i].2).toArray W := by
  subst hk
  refine run_loadCellsFrom_list P W _ _ 12 (nodV_length _ _) fun j v hj => ?_
  have hj2 : j < 12 := by have := (List.getElem?_eq_some_iff.1 hj).1; rwa [nodV_length] at this
  rw [Addr.add_lit, (h.cellAt i hi j hj2).1, hj]
theorem SrtS.st (h : SrtS w0 B g n cap xs0 xs W) (P : Program) (hk : k = 12) (i : Nat) (hi : i < xs.length) (y : NodP) (hy : y.2.oneCell' = true) : Sem.run P (storeCells ⟨g, i * k, none⟩ (nodV y.1 y.2) 0) W = .ok () (W.setCells g (i * k) (nodV y.1 y.2)) := by
  subst hk
  have := run_storeCells_cells (P := P) g (i * 12) (nodV y.1 y.2) 0 W (fun j hj => by
    rw [nodV_length] at hj
    rw [Nat.add_zero, (h.cellAt i hi j hj).1, List.getElem?_eq_getElem (by rw [nodV_length]; exact hj)]; rfl) (fun j hj => by
    rw [nodV_length] at hj
    rw [Nat.add_zero, (h.cellAt i hi j hj).2]) (nodV_one' y.1 y.2 hy)
  rwa [Nat.add_zero] at this
/-- an exchange of two nodes: the loads, the stores, what comes of it -/
theorem SrtS.exch (L : StbL P k c ok) (hok : ∀ y ∈ xs0, ok y) (h : SrtS w0 B g n cap xs0 xs W) (i j : Nat) (hi : i < n) (hj : j < n) :
    ∃ cI cJ : List Value, cI.length = k ∧ cJ.length = k ∧ Sem.run P (loadCellsFrom ⟨g, i * k, none⟩ 0 k #[]) W.drew = .ok cI.toArray W.drew ∧ Sem.run P (loadCellsFrom ⟨g, j * k, none⟩ 0 k #[]) W.drew = .ok cJ.toArray W.drew ∧
      Sem.run P (storeCells ⟨g, i * k, none⟩ cJ 0) W.drew = .ok () (W.drew.setCells g (i * k) cJ) ∧ Sem.run P (storeCells ⟨g, j * k, none⟩ cI 0) (W.drew.setCells g (i * k) cJ) = .ok () ((W.drew.setCells g (i * k) cJ).setCells g (j * k) cI) ∧
      Hid (SrtS w0 B g n cap xs0 (swX xs i j) ((W.drew.setCells g (i * k) cJ).setCells g (j * k) cI)) := by
  have hd := h.drew
  have hl := h.len
  have hi' : i < xs.length := by omega
  have hj' : j < xs.length := by omega
  have hx1 := L.one _ (hok _ (h.2.2.2 _ (List.getElem_mem hi')))
  have hx2 := L.one _ (hok _ (h.2.2.2 _ (List.getElem_mem hj')))
  have h1 := hd.set i hi (xs[j]'hj') (h.2.2.2 _ (List.getElem_mem hj'))
  refine ⟨nodV xs[i].1 xs[i].2, nodV xs[j].1 xs[j].2, by rw [nodV_length, L.hk], by rw [nodV_length, L.hk], hd.ld P L.hk i hi', hd.ld P L.hk j hj', hd.st P L.hk i hi' _ hx2, ?_, ?_⟩
  · have e : i * k = i * 12 := by rw [L.hk]
    rw [e]
    exact h1.st P L.hk j (by rw [List.length_set]; exact hj') _ hx1
  · rw [L.hk]
    exact hd.swap i j hi hj hi' hj'
/-- a comparison of two nodes: the loads and the call, in every world that comes of draws and of new blocks -/
theorem SrtS.test (L : StbL P k c ok) (hok : ∀ y ∈ xs0, ok y) (h : SrtS w0 B g n cap xs0 xs W) (i j : Nat) (hi : i < n) (hj : j < n) :
    ∃ cI cJ : List Value, (∀ q os, Sem.run P (loadCellsFrom ⟨g, i * k, none⟩ 0 k #[]) (grow (W.drewN q) os) = .ok cI.toArray (grow (W.drewN q) os)) ∧ (∀ q os, Sem.run P (loadCellsFrom ⟨g, j * k, none⟩ 0 k #[]) (grow (W.drewN q) os) = .ok cJ.toArray (grow (W.drewN q) os)) ∧
      (∀ q os, Calls P c #[.agg cI.toArray, .agg cJ.toArray] (grow (W.drewN q) os) fun e w' => e = .returned (.int .i64 (pcmp (pa (xs.map (·.1)) i) (pa (xs.map (·.1)) j))) ∧ ∃ q' os', w' = grow ((grow (W.drewN q) os).drewN q') os') ∧
      Hid (∀ q os, SrtS w0 B g n cap xs0 xs (grow (W.drewN q) os)) := by
  have hl := h.len
  have hi' : i < xs.length := by omega
  have hj' : j < xs.length := by omega
  refine ⟨nodV xs[i].1 xs[i].2, nodV xs[j].1 xs[j].2, fun q os => (h.grown q os).ld P L.hk i hi', fun q os => (h.grown q os).ld P L.hk j hj', fun q os => ?_, fun q os => h.grown q os⟩
  have := L.cmp xs[i] xs[j] (hok _ (h.2.2.2 _ (List.getElem_mem hi'))) (hok _ (h.2.2.2 _ (List.getElem_mem hj'))) (grow (W.drewN q) os)
  rw [pa_get _ i (by rw [List.length_map]; exact hi'), pa_get _ j (by rw [List.length_map]; exact hj'), List.getElem_map, List.getElem_map]
  exact this
set_option maxHeartbeats 4000000 in
theorem swapRange_any (L : StbL P k c ok) (hok : ∀ y ∈ xs0, ok y) (hn : n ≤ 1000000000000000) (F : Value) (a b m : Nat) (Pf X M Y S : List NodeV) (ha : Pf.length = a) (hb : a + m + M.length = b) (hX : X.length = m) (hY : Y.length = m) (w : World) (h : SrtT w0 B g n cap xs0 (Pf ++ X ++ M ++ Y ++ S) w) :
    Calls P 29 #[.slice (some ⟨g, 0, none⟩) n cap, .int .i64 a, .int .i64 b, .int .i64 m, F] w fun e w' => e = .returned (.tuple #[]) ∧ SrtT w0 B g n cap xs0 (Pf ++ Y ++ M ++ X ++ S) w' := by
  have mixed := L.mixed; have t0 := L.t0; have a0 := L.a0; have z0 := L.z0; have v0 := L.v0; have t3 := L.t3; have a3 := L.a3; have z3 := L.z3; have v3 := L.v3; have t4 := L.t4; have a4 := L.a4; have z4 := L.z4; have v4 := L.v4; have t22 := L.t22; have a22 := L.a22; have z22 := L.z22; have v22 := L.v22; have t25 := L.t25; have a25 := L.a25; have z25 := L.z25; have v25 := L.v25; have aE := L.aE; have zE := L.zE
  have u22 := run_underlying L.t22
  have hlen := h.len
  simp only [List.length_append] at hlen
  have HL : Aside _ := L
  have HOK := Lib.hid hok
  have HX := Lib.hid hX
  have HY := Lib.hid hY
  have HA := Lib.hid ha
  have HM := Lib.hid hb
  have H0 : Hid (SrtT w0 B g n cap xs0 (swR Pf X M Y S 0) w) := by unfold Hid; rw [swR_zero]; exact h
  have HE := Lib.hid (swR_end Pf X M Y S hX hY)
  have hb1 : b + m ≤ n := by omega
  have ha1 : a + m ≤ n := by omega
  clear h hok hX hY ha hb hlen
  go_enter L.fswp, Try.ntmps29
  go_wp2
  go_loopw [10] (fun iv wr => ∃ i : Nat, i ≤ m ∧ iv = .int .i64 i ∧ Hid (SrtT w0 B g n cap xs0 (swR Pf X M Y S i) wr)) (fun iv _ => m - (intOf iv).toNat)
  case atStart => exact ⟨0, Nat.zero_le _, rfl, H0.out⟩
  case round =>
    obtain ⟨i, him, rfl, HI⟩ := hrel
    by_cases hlt : i < m
    · obtain ⟨xs, hS, hm⟩ := HI.out
      obtain ⟨I, hI⟩ : ∃ I, I = a + i := ⟨_, rfl⟩
      obtain ⟨J, hJ⟩ : ∃ J, J = b + i := ⟨_, rfl⟩
      have hIn : I < n := by omega
      have hJn : J < n := by omega
      have wI : IntKind.i64.wrap ((a : Int) + (i : Int)) = (I : Int) := by rw [IntKind.wrap_i64]; omega
      have wJ : IntKind.i64.wrap ((b : Int) + (i : Int)) = (J : Int) := by rw [IntKind.wrap_i64]; omega
      obtain ⟨cI, cJ, k1, k2, l1, l2, s1, s2, HS⟩ := hS.exch HL HOK.out I J hIn hJn
      have HT : Hid (SrtT w0 B g n cap xs0 (swR Pf X M Y S (i + 1)) ((wr.drew.setCells g (I * k) cJ).setCells g (J * k) cI)) := ⟨_, HS.out, by
        rw [swX_map, hm, hI, hJ, ← HM.out, ← HA.out, show Pf.length + m + M.length + i = Pf.length + m + M.length + i from rfl]
        exact swR_step Pf X M Y S HX.out HY.out hlt⟩
      clear hS hm HS hI hJ HI
      go_wp2_with fail
      go_big_region_o
      all_goals go_wp2
      go_roundw
      case rel => exact ⟨i + 1, by omega, by go_num, HT⟩
      case measure => simp [intOf]; omega
    · obtain rfl : i = m := by omega
      have HF := HI.out
      rw [HE.out] at HF
      go_wp2
      go_end0
      exact ⟨rfl, HF⟩
end Go.Proofs.Ytmgndhdikleagaa
