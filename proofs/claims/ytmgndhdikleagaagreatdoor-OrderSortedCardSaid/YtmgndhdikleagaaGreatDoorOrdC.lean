/- order.Sort. -/
import Derived.Test.YtmgndhdikleagaaGreatDoorStbV
import Derived.Test.YtmgndhdikleagaaGreatDoorTrg
set_option linter.unusedVariables false
set_option maxRecDepth 100000
namespace Go.Proofs.YtmgndhdikleagaaGreatDoor
open Go.RowKit Go.Shelf Go.Lib
open Go.OpenShut
open Go.Sort (grow grow_empty)
theorem sort1_any (x y : NodeV) (D E : Option Addr) (m c m' c' : Nat) (hx : x.path.length ≤ maxLen) (hy : y.path.length ≤ maxLen) (W : World) :
    Calls Tryz.prog 48 #[.agg (nodV x (.slice D m c)).toArray, .agg (nodV y (.slice E m' c')).toArray] W fun e w' => e = .returned (.int .i64 (pcmp x.path y.path)) ∧ ∃ q os', w' = grow (W.drewN q) os' := by
  have HC := Lib.hid fun W => (Compare_any (bs x.path) (bs y.path) W (by rw [bs_size]; omega) (by rw [bs_size]; omega))
  rw [bs_list, bs_list] at HC
  generalize pcmp x.path y.path = r at *
  obtain ⟨path, kind, same, target, ⟨m0, m1, m2, m3, m4, m5, m6⟩, data⟩ := x
  obtain ⟨path', kind', same', target', ⟨n0, n1, n2, n3, n4, n5, n6⟩, data'⟩ := y
  unfold nodV
  simp only at HC ⊢
  obtain ⟨P, hP⟩ := hid_name (bs path)
  obtain ⟨Q, hQ⟩ := hid_name (bs path')
  rw [hP.out, hQ.out] at HC
  rw [hP.out, hQ.out]
  clear hP hQ hx hy
  have HG := Lib.hid fun o1 o2 q => (show ((W.alloc o1).alloc o2).drewN q = grow (W.drewN q) #[o1, o2] by rw [Go.Sort.alloc_eq_grow, Go.Sort.alloc_eq_grow, Go.Sort.grow_grow]; rfl)
  go_enter Tryz.func48, Tryz.ntmps48
  go_wp2_with fail
  refine (HC.out _).mono ?_; rintro e w1 ⟨rfl, q, rfl⟩
  go_wp2_with fail
  go_ret
  exact ⟨rfl, q, _, HG.out _ _ q⟩
/-- what is asked of a node that is sorted -/
def okN (y : NodP) : Prop := y.1.path.length ≤ maxLen ∧ ∃ D m c, y.2 = .slice D m c
theorem stbL : StbL Tryz.prog 12 48 okN where
  mixed := by kernel_rfl
  fins := Tryz.func82
  fswp := Tryz.func127
  frot := Tryz.func124
  fsym := Tryz.func105
  fstb := Tryz.func73
  fssf := Tryz.func47
  hk := rfl
  aE := Tryz.isAgg40
  zE := Tryz.sizeOf40
  t0 := Tryz.underlying0
  a0 := Tryz.isAgg0
  z0 := Tryz.sizeOf0
  v0 := Tryz.zeroValue0
  t3 := Tryz.underlying3
  a3 := Tryz.isAgg3
  z3 := Tryz.sizeOf3
  v3 := Tryz.zeroValue3
  t4 := Tryz.underlying4
  a4 := Tryz.isAgg4
  z4 := Tryz.sizeOf4
  v4 := Tryz.zeroValue4
  t22 := Tryz.underlying23
  a22 := Tryz.isAgg23
  z22 := Tryz.sizeOf23
  v22 := Tryz.zeroValue23
  t25 := Tryz.underlying60
  a25 := Tryz.isAgg60
  z25 := Tryz.sizeOf60
  v25 := Tryz.zeroValue60
  tu := Tryz.underlying72
  au := Tryz.isAgg72
  zu := Tryz.sizeOf72
  vu := Tryz.zeroValue72
  eg := enters_of Tryz.func48 (by kernel_rfl) rfl
  one := fun y hy => by
    obtain ⟨-, D, m, c, e⟩ := hy
    rw [e]; rfl
  cmp := fun x y hx hy W => by
    obtain ⟨h1, D, m, c, e1⟩ := hx
    obtain ⟨h2, E, m', c', e2⟩ := hy
    rw [e1, e2]
    exact sort1_any x.1 y.1 D E m c m' c' h1 h2 W
theorem ins_none (F : Value) (w : World) : Calls Tryz.prog 82 #[.slice none 0 0, .int .i64 0, .int .i64 0, F] w fun e w' => e = .returned (.tuple #[]) ∧ w = w' := by
  go_enter Tryz.func82, Tryz.ntmps82
  go_wp2
  go_loop [8] (fun i => i = .int .i64 1) (fun _ => 0)
  case atStart => rfl
  case round =>
    subst hrel
    go_wp2
    go_end0
    exact ⟨rfl, rfl⟩
theorem stb_none (F : Value) (w : World) : Calls Tryz.prog 73 #[.slice none 0 0, .int .i64 0, F] w fun e w' => e = .returned (.tuple #[]) ∧ w = w' := by
  go_enter Tryz.func73, Tryz.ntmps73
  go_wp2
  go_loop [7, 8] (fun i j => i = .int .i64 0 ∧ j = .int .i64 20) (fun _ _ => 0)
  case atStart => exact ⟨rfl, rfl⟩
  case round =>
    obtain ⟨rfl, rfl⟩ := hrel
    go_wp2_with fail
    refine (ins_none F _).mono ?_; rintro e w1 ⟨rfl, rfl⟩
    go_wp2_with fail
    go_loop [6] (fun i => i = .int .i64 20) (fun _ => 0)
    case atStart => rfl
    case round =>
      subst hrel
      go_wp2
      go_end0
      exact ⟨rfl, rfl⟩
theorem ssf_none (F : Value) (w : World) : Calls Tryz.prog 47 #[.slice none 0 0, F] w fun e w' => e = .returned (.tuple #[]) ∧ w = w' := by
  go_enter Tryz.func47, Tryz.ntmps47
  go_wp2_with fail
  refine (stb_none F _).mono ?_; rintro e w1 ⟨rfl, rfl⟩
  go_wp2_with fail
  go_end0
  exact ⟨rfl, rfl⟩
/-- a row of nodes of the call's own, sorted -/
theorem ssf_any (B : Nat) (v : Value) (xs : List NodP) (w : World) (h : OwnN w B v xs) (hB : B ≤ w.heap.size) (hn : xs.length ≤ 1000000000000000) (hp : ∀ y ∈ xs, y.1.path.length ≤ maxLen) :
    Calls Tryz.prog 47 #[v, .func (.func 48) #[] #[]] w fun e w' => e = .returned (.tuple #[]) ∧ ∃ xs', xs'.map (·.1) = sortT (xs.map (·.1)) ∧ OwnN w' B v xs' ∧ Below B w w' := by
  have h' := h.1
  unfold RowN World.ownsRow at h'
  rcases h'.2 with ⟨rfl, h0⟩ | ⟨g, cap, cur, rfl, hBg, hg, -⟩
  · obtain rfl : xs = [] := List.eq_nil_of_length_eq_zero h0
    refine (ssf_none _ w).mono ?_; rintro e w' ⟨rfl, rfl⟩
    exact ⟨rfl, [], rfl, h, Below.refl _ _⟩
  · have hok : ∀ y ∈ xs, okN y := fun y hy => by
      obtain ⟨A, c, e, -⟩ := (h.2 y hy).form
      exact ⟨hp y hy, A, _, c, e⟩
    have hS : SrtT w B g xs.length cap xs (xs.map (·.1)) w := ⟨xs, SrtS.start h.1 rfl, rfl⟩
    refine (sorted_any stbL hok hn _ w hS).mono ?_
    rintro e w' ⟨rfl, xs', hS', hm⟩
    have hr : (Value.slice (some ⟨g, 0, none⟩) xs.length cap).ownBlock = some g := rfl
    refine ⟨rfl, xs', hm, ⟨hS'.1, fun y hy => ?_⟩, (Below.refl B w).grown hS'.2.2.1 hB fun q e => by injection e with e; omega⟩
    have hy' := h.2 y (hS'.2.2.2 y hy)
    exact hy'.grown hS'.2.2.1 fun q e e2 => own_apart hy' h.1 q e (by rw [hr]; exact e2)
set_option maxHeartbeats 2000000 in
theorem Sort_any (A : Option Addr) (n c : Nat) (l : List NodeV) (hn : l.length = n) (hm : n * 144 ≤ 140737488351232) (hsz : ∀ x ∈ l, x.sz) (w : World) (hA : NodesAt w A l) :
    Calls Tryz.prog 19 #[.slice A n c] w fun e w' => ∃ v xs, e = .returned v ∧ xs.map (·.1) = sortT l ∧ OwnN w' w.heap.size v xs ∧ Below w.heap.size w w' := by
  have HCp := Lib.hid (Copy_any A n c l hn hm hsz w hA)
  have HSZ := Lib.hid hsz
  have HN := Lib.hid hn
  clear hA hsz hn
  go_enter Tryz.func19, Tryz.ntmps19
  go_wp2_with fail
  refine HCp.out.mono ?_; rintro e w1 ⟨v, xs, rfl, hx, hO, hb⟩
  have hl : xs.length = n := by have := congrArg List.length hx; rw [List.length_map] at this; rw [this]; exact HN.out
  have HS := Lib.hid (ssf_any w.heap.size v xs w1 hO hb.size (by omega) fun y hy => by
    have : y.1 ∈ l := by rw [← hx]; exact List.mem_map_of_mem hy
    have := (HSZ.out _ this).1.1
    unfold maxLen; omega)
  rw [hx] at HS
  have HB := Lib.hid hb
  clear hO hb hx HCp
  go_wp2_with fail
  refine HS.out.mono ?_; rintro e w2 ⟨rfl, xs', hx', hO', hb'⟩
  have HB2 := Lib.hid (HB.out.trans hb')
  have HO2 := Lib.hid hO'
  have HX2 := Lib.hid hx'
  clear hx' hO' hb' HS
  go_wp2_with fail
  go_ret
  exact ⟨v, xs', rfl, HX2.out, HO2.out, HB2.out⟩
end Go.Proofs.YtmgndhdikleagaaGreatDoor
