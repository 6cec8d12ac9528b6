/- The property OrderSorted. -/
import Derived.Test.YtmgndhdikleagaaGreatDoorOrdC
import Derived.Test.YtmgndhdikleagaaGreatDoorOrd
import Derived.Test.YtmgndhdikleagaaGreatDoorKep
import Derived.Test.YtmgndhdikleagaaGreatDoorRaw
import Derived.Test.YtmgndhdikleagaaGreatDoorInt
set_option linter.unusedVariables false
set_option maxRecDepth 100000
namespace Go.Proofs.YtmgndhdikleagaaGreatDoor
open Go.RowKit
open Go.OpenShut
open Go.Sort (grow grow_empty)
theorem swT_perm (t : List NodeV) (i j : Nat) : (swT t i j).Perm t := by
  unfold swT
  split
  · rename_i h; exact List.set_set_perm h.1 h.2
  · exact List.Perm.refl _
theorem drawn2_any (A : Option Addr) (n c : Nat) (rs : List RawV) (hn : rs.length = n) (hn2 : n ≤ 140737488355328) (hwf : ∀ r ∈ rs, r.wf) (m : Nat) (hm : m ≤ 1000) (w : World) (hA : RawsAt w A rs) :
    Calls Tryz.prog 6 #[.slice A n c, .int .i64 m] w fun e w' => ∃ (l : List NodeV) (T : Option Addr) (k d : Nat), e = .returned (.slice T k d) ∧ l.length = k ∧ SlOk T k d ∧ NodesAt w' T l ∧ k ≤ m ∧ Sound l ∧ (∀ x ∈ l, x.sz) ∧ (T = none ∨ ∃ g, T = some ⟨g, 0, none⟩) ∧ Below w.heap.size w w' :=
  (Tree_any A n c rs hn hn2 hwf m hm w hA).mono fun e w' ⟨v, ys, he, ho⟩ => by
    have h0 := ho.1.any
    obtain ⟨l, T, d, h1, h2, h3, h4, h5, h6, h7, h8⟩ := ho.tree
    refine ⟨l, T, l.length, d, by rw [he, h2], rfl, h3, h4, h5, h6, h7, ?_, h8⟩
    rcases h0 with ⟨e0, -⟩ | ⟨g, cap, e0, -⟩
    · rw [h2] at e0; injection e0 with e0; exact .inl e0
    · rw [h2] at e0; injection e0 with e0; exact .inr ⟨g, e0⟩
def ndB : NodeV := ⟨[98], 0, 0, [], mdZ, []⟩
def ndA : NodeV := ⟨[97], 0, 0, [], mdZ, []⟩
theorem two_at (W : World) : NodesAt (W.alloc (.cells #[.string ⟨#[98]⟩, .int .i64 0, .int .i64 0, .string ⟨#[]⟩, .int .i64 0, .int .i64 0, .int .i64 0, .string ⟨#[]⟩, .string ⟨#[]⟩, .int .i64 0, .int .i64 0, .slice none 0 0, .string ⟨#[97]⟩, .int .i64 0, .int .i64 0, .string ⟨#[]⟩, .int .i64 0, .int .i64 0, .int .i64 0, .string ⟨#[]⟩, .string ⟨#[]⟩, .int .i64 0, .int .i64 0, .slice none 0 0] 40)) (some ⟨W.heap.size, 0, none⟩) [ndB, ndA] := by
  have hb := Blk.new W 40 #[.string ⟨#[98]⟩, .int .i64 0, .int .i64 0, .string ⟨#[]⟩, .int .i64 0, .int .i64 0, .int .i64 0, .string ⟨#[]⟩, .string ⟨#[]⟩, .int .i64 0, .int .i64 0, .slice none 0 0, .string ⟨#[97]⟩, .int .i64 0, .int .i64 0, .string ⟨#[]⟩, .int .i64 0, .int .i64 0, .int .i64 0, .string ⟨#[]⟩, .string ⟨#[]⟩, .int .i64 0, .int .i64 0, .slice none 0 0]
  have hnil : SlOk (none : Option Addr) 0 0 := ⟨Nat.le_refl _, by decide, fun _ => rfl⟩
  intro j hj
  match j, hj with
  | 0, _ =>
    refine ⟨W.heap.size, 0, none, 0, rfl, fun i hi => ?_, hnil, BytsAt.nil _ _⟩
    show World.cell? _ ⟨W.heap.size, 0 + 0 * 12 + i, none⟩ = (nodC ndB none 0)[i]?
    match i, hi with
      | 0, _ => exact (hb.cell 0).trans rfl
      | 1, _ => exact (hb.cell 1).trans rfl
      | 2, _ => exact (hb.cell 2).trans rfl
      | 3, _ => exact (hb.cell 3).trans rfl
      | 4, _ => exact (hb.cell 4).trans rfl
      | 5, _ => exact (hb.cell 5).trans rfl
      | 6, _ => exact (hb.cell 6).trans rfl
      | 7, _ => exact (hb.cell 7).trans rfl
      | 8, _ => exact (hb.cell 8).trans rfl
      | 9, _ => exact (hb.cell 9).trans rfl
      | 10, _ => exact (hb.cell 10).trans rfl
      | 11, _ => exact (hb.cell 11).trans rfl
  | 1, _ =>
    refine ⟨W.heap.size, 0, none, 0, rfl, fun i hi => ?_, hnil, BytsAt.nil _ _⟩
    show World.cell? _ ⟨W.heap.size, 0 + 1 * 12 + i, none⟩ = (nodC ndA none 0)[i]?
    match i, hi with
      | 0, _ => exact (hb.cell 12).trans rfl
      | 1, _ => exact (hb.cell 13).trans rfl
      | 2, _ => exact (hb.cell 14).trans rfl
      | 3, _ => exact (hb.cell 15).trans rfl
      | 4, _ => exact (hb.cell 16).trans rfl
      | 5, _ => exact (hb.cell 17).trans rfl
      | 6, _ => exact (hb.cell 18).trans rfl
      | 7, _ => exact (hb.cell 19).trans rfl
      | 8, _ => exact (hb.cell 20).trans rfl
      | 9, _ => exact (hb.cell 21).trans rfl
      | 10, _ => exact (hb.cell 22).trans rfl
      | 11, _ => exact (hb.cell 23).trans rfl
theorem two_sorted : sortT [ndB, ndA] = [ndA, ndB] := by
  refine sortT_tree ?_ (List.Perm.swap _ _ _)
  unfold Rises
  rw [List.pairwise_cons]
  refine ⟨fun y hy => ?_, List.pairwise_singleton _ _⟩
  obtain rfl : y = ndB := by simpa using hy
  decide
theorem two_sz : ∀ x ∈ [ndB, ndA], x.sz := by
  intro x hx
  simp only [List.mem_cons, List.not_mem_nil, or_false] at hx
  rcases hx with rfl | rfl <;> (unfold NodeV.sz MetaV.sz; decide)
/-- a copy of a list of nodes, their data shared -/
theorem nClone_any (T : Option Addr) (n d : Nat) (l : List NodeV) (hn : l.length = n) (hs : SlOk T n d) (h40 : n ≤ 1000) (hT : T = none ∨ ∃ g, T = some ⟨g, 0, none⟩) (w : World) (hA : NodesAt w T l) :
    Calls Tryz.prog 15 #[.slice T n d] w fun e w' => ∃ (v : Value) (ys : List NodP), e = .returned v ∧ ys.map (·.1) = l ∧ RowN w' w.heap.size v ys ∧ (∀ y ∈ ys, DatOk w y.2 y.1.data) ∧ Below w.heap.size w w' := by
  obtain ⟨ys, hys, hc, hd⟩ := hA.row
  have hyl : ys.length = n := by rw [← hn, ← hys, List.length_map]
  rcases hT with rfl | ⟨g, rfl⟩
  · have h0 : n = 0 := by have := hs.1; have := hs.2.2 rfl; omega
    obtain rfl : ys = [] := List.eq_nil_of_length_eq_zero (by omega)
    exact (Tryz.slices_Clone_nil_f15 n d w).mono fun e w' ⟨a, b⟩ => ⟨_, [], a, hys, RowN.nil _ _, fun y hy => by (cases hy), b ▸ Below.refl _ _⟩
  · obtain ⟨i0, hi, hz0, hz1, hz2⟩ := info_parts zinfo
    have hcon := Tryz.slices_Clone_f15 i0 (.agg zeroN) 12 144 hi hz0 hz1 hz2 rfl (by omega) Tryz.sizeOf40 g 0 n d (rowN ys) w (by rw [rowN_length, hyl]) (by unfold maxLen; omega) (by omega) (fun j u hu => by
      have := hc _ rfl j u hu
      rwa [Addr.add_lit] at this) (rowN_one' ys fun y hy => (hd y hy).one)
    refine hcon.mono fun e w' ⟨v, hv, ho, _, hb⟩ => ⟨v, ys, hv, hys, ?_, hd, hb⟩
    subst hyl
    exact ho
set_option maxHeartbeats 16000000 in
theorem OrderSorted_walk (A0 : Option Addr) (n0 c0 : Nat) (rs0 : List RawV) (A1 : Option Addr) (n1 c1 : Nat) (l1 : List Int) (hn0 : rs0.length = n0) (hm0 : n0 ≤ 140737488355328) (hf0 : ∀ r ∈ rs0, r.wf) (hn1 : l1.length = n1) (hm1 : n1 ≤ 140737488355328) (hc1 : n1 ≤ c1 ∧ c1 ≤ maxLen ∧ (A1 = none → c1 = 0)) (w : World) (hr0 : RawsAt w A0 rs0) (hr1 : IntsAt w A1 l1) :
    Calls Tryz.prog 5 #[.slice A0 n0 c0, .slice A1 n1 c1] w fun e w' => e = .returned (.bool true) ∧ Below w.heap.size w w' := by
  have HT := Lib.hid (drawn2_any A0 n0 c0 rs0 hn0 hm0 hf0 20 (by decide) w hr0)
  have HI0 := Lib.hid hr1
  have HN1 := Lib.hid hn1
  clear hn0 hm0 hf0 hr0 hn1 hc1 hr1
  go_enter Tryz.func5, Tryz.ntmps5
  go_wp2_with fail
  refine HT.out.mono ?_; rintro e wa ⟨l, T, n, d, rfl, hl, hs, hat, h20, hsd, hsz, hTf, hb⟩
  have HA := Lib.hid hat
  have HL := Lib.hid hl
  have HSD := Lib.hid hsd
  have HSZ := Lib.hid hsz
  have HB := Lib.hid hb
  have HI := Lib.hid (HI0.out.below hb)
  have HS := Lib.hid hs
  have HCl := Lib.hid (nClone_any T n d l hl hs (by omega) hTf wa hat)
  clear hat hl hs hsd hsz hTf hb HT HI0
  go_wp2_with fail
  refine HCl.out.mono ?_; rintro e w1 ⟨v, ys, rfl, hys, hR, hD, hb⟩
  have HB1 := Lib.hid hb
  obtain ⟨V, cv, hv, -⟩ := (RowN.at hR fun y hy => (hD y hy).below hb)
  have hyl : ys.length = n := by rw [← HL.out, ← hys, List.length_map]
  rw [hyl] at hv
  subst hv
  have HR1 := Lib.hid hR
  have HP1 : Hid ((ys.map (·.1)).Perm l) := by unfold Hid; rw [hys]
  have HD1 := Lib.hid hD
  obtain ⟨z0, hz0⟩ : ∃ z0 : Int, z0 = (n : Int) - 1 := ⟨_, rfl⟩
  have wz : IntKind.i64.wrap ((n : Int) - 1) = z0 := by rw [IntKind.wrap_i64]; omega
  have HZ := Lib.hid hz0
  clear hb hR hD hys hyl HCl hz0
  go_wp2_with fail
  go_loopw [7] (fun iv wr => ∃ (z : Int) (xs : List NodP), iv = .int .i64 z ∧ -1 ≤ z ∧ Hid (z < (n : Int)) ∧ Hid (RowN wr wa.heap.size (.slice V n cv) xs) ∧ Hid ((xs.map (·.1)).Perm l) ∧ Hid (∀ y ∈ xs, DatOk wa y.2 y.1.data) ∧ Hid (Below wa.heap.size wa wr)) (fun iv _ => (intOf iv + 1).toNat)
  case atStart => exact ⟨z0, ys, rfl, by have := HZ.out; omega, by have := HZ.out; unfold Hid; omega, HR1.out, HP1.out, HD1.out, HB1.out⟩
  case round =>
    obtain ⟨z, xs, rfl, hz1, hz2, HR, HP, HD, HBr⟩ := hrel
    obtain ⟨bb, hbb⟩ : ∃ bb : Bool, bb = (decide (0 < z) && decide (0 < n1)) := ⟨_, rfl⟩
    obtain ⟨wo, hwo⟩ : ∃ wo, wo = wr := ⟨_, rfl⟩
    subst hwo
    go_upto_region 4 with fail
    go_cut [28] (fun s wx => s = .bool bb ∧ Hid (RowN wx wa.heap.size (.slice V n cv) xs) ∧ Hid (Below wa.heap.size wa wx))
    case first =>
      by_cases h1 : 0 < z
      · by_cases h2 : 0 < n1
        · rw [decide_eq_true h1, decide_eq_true h2] at hbb
          subst hbb
          go_wp2_with fail
          go_meet
          exact ⟨rfl, HR.out, HBr.out⟩
        · rw [decide_eq_true h1, decide_eq_false h2] at hbb
          subst hbb
          obtain rfl : n1 = 0 := by omega
          go_wp2_with fail
          go_meet
          exact ⟨rfl, HR.out, HBr.out⟩
      · rw [decide_eq_false h1] at hbb
        subst hbb
        go_wp2_with fail
        go_meet
        exact ⟨rfl, HR.out, HBr.out⟩
    case rest =>
    obtain ⟨rfl, HRc, HBc⟩ := hcut
    clear HR HBr
    obtain ⟨wr, hwr⟩ : ∃ wr, wr = wc := ⟨_, rfl⟩
    subst hwr
    have HR := Lib.hid HRc.out
    have HBr := Lib.hid HBc.out
    clear HRc HBc
    cases bb with
    | true =>
      obtain ⟨hlt1, hlt2⟩ : 0 < z ∧ 0 < n1 := by
        have := hbb.symm
        rw [Bool.and_eq_true, decide_eq_true_eq, decide_eq_true_eq] at this; exact this
      clear hbb
      obtain ⟨i, hi⟩ : ∃ i : Nat, z = (i : Int) := ⟨z.toNat, by omega⟩
      subst hi
      have hin : i < n := by have := hz2.out; omega
      obtain ⟨r, hr⟩ : ∃ r, r = i % n1 := ⟨_, rfl⟩
      have hrn : r < n1 := by rw [hr]; exact Nat.mod_lt _ hlt2
      obtain ⟨b1, o1, e1, ci, hwf⟩ := HI.out r (by rw [HN1.out]; exact hrn)
      subst e1
      have hgl : b1 < wa.heap.size := World.block_lt_of_cell? wa _ ci
      have ci' := (HBr.out.cell (p := ⟨b1, o1 + r, none⟩) hgl).trans ci
      obtain ⟨a, ha⟩ : ∃ a, a = l1[r]'(by rw [HN1.out]; exact hrn) := ⟨_, rfl⟩
      rw [← ha] at ci' hwf
      have hxl : xs.length = n := by have := HP.out.length_eq; rw [List.length_map] at this; rw [this]; exact HL.out
      have hrem : (i : Int).tmod (n1 : Int) = (r : Int) := by rw [hr]; rfl
      obtain ⟨p, Hp⟩ : ∃ p : Nat, Hid (pick a ((i : Int) + 1) = p) := ⟨(pick a ((i : Int) + 1)).toNat, by have := pick_bd a ((i : Int) + 1) (by omega); show _ = _; omega⟩
      have hpi : p ≤ i := by have := pick_bd a ((i : Int) + 1) (by omega); have := Hp.out; omega
      have hwa := Lib.hid hwf
      obtain ⟨g, cap, hV, hBg, hgl2, -⟩ := HR.out.row (by rw [hxl]; omega)
      rw [hxl] at hV
      injection hV with hV1 _ hV3
      subst hV1 hV3
      have HOKs : Hid (∀ y ∈ xs, okN y) := fun y hy => by
        have hy2 : y.1 ∈ l := HP.out.mem_iff.1 (List.mem_map_of_mem hy)
        obtain ⟨D, c, e, -⟩ := HD.out y hy
        exact ⟨by have := (HSZ.out _ hy2).1.1; unfold maxLen; omega, D, _, c, e⟩
      have HSt := Lib.hid (SrtS.start HR.out hxl)
      have hpn : p < n := by omega
      have HPm := Lib.hid (swT_perm (xs.map (·.1)) i p)
      clear ha hr hgl ci hwf hxl HS
      go_wp2_with fail
      refine (picked_any a _ _ hwa.out (by omega)).mono ?_; rintro e w2 ⟨rfl, rfl⟩
      rw [Hp.out]
      go_upto_region 7 with fail
      have hex : ∃ (P : Program) (k : Nat), Hid (Tryz.prog = P) ∧ Hid (12 = k) := ⟨_, _, rfl, rfl⟩
      obtain ⟨P, k, hP, hk⟩ := hex
      have L : StbL P k 48 okN := by rw [← hP.out, ← hk.out]; exact stbL
      have mixed := L.mixed; have t0 := L.t0; have a0 := L.a0; have z0' := L.z0; have v0 := L.v0; have t3 := L.t3; have a3 := L.a3; have z3 := L.z3; have v3 := L.v3; have t22 := L.t22; have a22 := L.a22; have z22 := L.z22; have v22 := L.v22; have aE := L.aE; have zE := L.zE
      have u22 := run_underlying L.t22
      obtain ⟨cI, cJ, k1, k2, l1', l2', s1, s2, HX⟩ := HSt.out.exch L HOKs.out i p hin hpn
      have HR2 : Hid (RowN ((wr.drew.setCells g (i * k) cJ).setCells g (p * k) cI) wa.heap.size (.slice (some ⟨g, 0, none⟩) n cv) (swX xs i p)) := HX.out.1
      have HB2 : Hid (Below wa.heap.size wa ((wr.drew.setCells g (i * k) cJ).setCells g (p * k) cI)) := HBr.out.grown HX.out.2.2.1 HBr.out.size fun q e => by injection e with e; omega
      have HP2 : Hid (((swX xs i p).map (·.1)).Perm l) := by unfold Hid; rw [swX_map]; exact HPm.out.trans HP.out
      have HD2 : Hid (∀ y ∈ swX xs i p, DatOk wa y.2 y.1.data) := fun y hy => HD.out y (swX_mem hy)
      have HL2 : Aside _ := L
      clear HX HSt HOKs HR HP HD HBr HPm Hp hwa L
      rw [hP.out]
      go_big_region_o
      clear mixed t0 a0 z0' v0 t3 a3 z3 v3 t22 a22 z22 v22 aE zE u22 l1' l2' s1 s2 HL2 k1 k2
      have hgoal : -1 ≤ (i : Int) - 1 := by omega
      go_wp2_with fail
      go_roundw
      case rel => exact ⟨(i : Int) - 1, swX xs i p, by go_num, hgoal, by unfold Hid; omega, HR2.out, HP2.out, HD2.out, HB2.out⟩
      case measure => first | (simp [intOf]; done) | (simp [intOf]; omega)
    | false =>
      clear hbb
      have hxl : xs.length = n := by have := HP.out.length_eq; rw [List.length_map] at this; rw [this]; exact HL.out
      obtain ⟨V', cv', hV, hsV, hatV⟩ := RowN.at HR.out fun y hy => (HD.out y hy).below HBr.out
      rw [hxl] at hV
      injection hV with hV1 _ hV3
      subst hV1 hV3
      have HAm := Lib.hid hatV
      have HSo := Lib.hid fun W h => Sort_any V n cv (xs.map (·.1)) (by rw [List.length_map]; exact hxl) (by omega) (fun x hx => HSZ.out x (HP.out.mem_iff.1 hx)) W h
      rw [sortT_tree HSD.out.rises HP.out] at HSo
      have HA2 := Lib.hid (HA.out.below HBr.out)
      have HB2 := Lib.hid (HB.out.trans (HBr.out.mono HB.out.size))
      have h0 := sound_tree HSD.out (by have := HL.out; omega)
      have HDp := Lib.hid fun W h => Depth_any T n d l HL.out HS.out HSZ.out W h
      rw [h0, deepR_ok h0] at HDp
      have HSH := Lib.hid fun x hx => HSD.out.short (x := x) hx
      clear hxl hsV hatV HR HP HD HBr HI HA h0 HB HR1 HP1 HD1 HB1 HZ
      go_wp2_with fail
      refine (HDp.out _ HA2.out).mono ?_; rintro e w2 ⟨rfl, hb⟩
      have HB3 := Lib.hid (HB2.out.trans (hb.mono HB2.out.size))
      have HA3 := Lib.hid (HA2.out.below hb)
      have HAm3 := Lib.hid (HAm.out.below hb)
      clear hb HB2 HA2 HAm HDp
      obtain ⟨dp, hdp⟩ : ∃ dp, dp = deepT l := ⟨_, rfl⟩
      rw [← hdp]
      have HDP := Lib.hid hdp
      clear hdp
      go_wp2_with fail
      go_loopw [11, 62] (fun ov iv wr => ∃ (k m : Nat), k ≤ n ∧ m ≤ 401 ∧ ov = .int .i64 m ∧ iv = .int .i64 k ∧ Hid (deepT (l.take k) = m) ∧ Hid (Below w2.heap.size w2 wr)) (fun _ iv _ => n - (intOf iv).toNat)
      case atStart => exact ⟨0, 0, Nat.zero_le _, by omega, rfl, rfl, by rw [List.take_zero]; rfl, Below.refl _ _⟩
      case round =>
        obtain ⟨k, m, hk, hm, rfl, rfl, HT, HBr⟩ := hrel
        by_cases hlt : k < n
        · have hk1 : k < l.length := by rw [HL.out]; exact hlt
          obtain ⟨b, o, E, cc, hbo, hb1, hSl, hE, hcl⟩ := HA3.out.cells2 k hk1
          subst hbo
          obtain ⟨x0, x1, x2, x3, ⟨x4, x5, x6, x7, x8, x9, xA⟩, xB⟩ := hcl wr HBr.out
          have HST := Lib.hid (deepT_step l k hk1)
          have hsh := HSH.out _ (List.getElem_mem hk1)
          generalize hy : l[k] = y at *
          have HCt := Lib.hid fun W => Count_one (bs y.path) 47 W
          rw [bs_list] at HCt
          have hcl2 := partsL_length 47 y.path
          have hle := partsL_le 47 y.path
          rw [HT.out, hcl2] at HST
          generalize y.path.count 47 = q at *
          have hq : q ≤ 400 := by omega
          have wq : IntKind.i64.wrap (1 + (q : Int)) = ((q + 1 : Nat) : Int) := by rw [IntKind.wrap_i64]; omega
          obtain ⟨q1, hq1⟩ : ∃ q1, q1 = q + 1 := ⟨_, rfl⟩
          rw [← hq1] at wq HST
          have hq2 : q1 ≤ 401 := by omega
          clear hy hcl hSl hE hb1 hcl2 hle hq1
          go_upto_region 13 with fail
          have HBl := Lib.hid (Blk.new wr 40 #[.string (bs y.path), .int .i64 y.kind, .int .i64 y.same, .string (bs y.target), .int .i64 y.md.mode, .int .i64 y.md.uid, .int .i64 y.md.gid, .string (bs y.md.user), .string (bs y.md.group), .int .i64 y.md.second, .int .i64 y.md.nano, .slice E y.data.length cc])
          have HBa := Lib.hid (belowA HBr.out (.cells #[.string (bs y.path), .int .i64 y.kind, .int .i64 y.same, .string (bs y.target), .int .i64 y.md.mode, .int .i64 y.md.uid, .int .i64 y.md.gid, .string (bs y.md.user), .string (bs y.md.group), .int .i64 y.md.second, .int .i64 y.md.nano, .slice E y.data.length cc] 40))
          generalize hwa : wr.alloc _ = wb at HBl HBa ⊢
          obtain ⟨⟨e0, e1, e2, e3, e4, e5, e6, e7, e8, e9, eA, eB⟩, -⟩ := blk12 HBl.out
          clear hwa x0 x1 x2 x3 x4 x5 x6 x7 x8 x9 xA xB
          by_cases hlt2 : m < q1
          · have HT6 : Hid (deepT (l.take (k + 1)) = q1) := by unfold Hid; rw [HST.out]; omega
            go_wp2_with fail
            refine (HCt.out _).mono ?_; rintro e w6 ⟨rfl, rfl⟩
            go_wp2_with fail
            go_roundw
            case rel => exact ⟨k + 1, q1, by omega, hq2, by first | rfl | go_num | (congr 1; omega), by go_num, HT6, HBa.out⟩
            case measure => simp [intOf]; omega
          · have HT6 : Hid (deepT (l.take (k + 1)) = m) := by unfold Hid; rw [HST.out]; omega
            go_wp2_with fail
            refine (HCt.out _).mono ?_; rintro e w6 ⟨rfl, rfl⟩
            go_wp2_with fail
            go_roundw
            case rel => exact ⟨k + 1, m, by omega, hm, by first | rfl | go_num | (congr 1; omega), by go_num, HT6, HBa.out⟩
            case measure => simp [intOf]; omega
        · obtain rfl : k = n := by omega
          have h2 := HT.out
          rw [List.take_of_length_le (by rw [HL.out]; omega), ← HDP.out] at h2
          subst h2
          have HB4 := Lib.hid (HB3.out.trans (HBr.out.mono HB3.out.size))
          have HA4 := Lib.hid (HA3.out.below HBr.out)
          have HAm4 := Lib.hid (HAm3.out.below HBr.out)
          have HTw := Lib.hid (two_at wr)
          have HBt := Lib.hid (belowA (Below.refl wr.heap.size wr) (.cells #[.string ⟨#[98]⟩, .int .i64 0, .int .i64 0, .string ⟨#[]⟩, .int .i64 0, .int .i64 0, .int .i64 0, .string ⟨#[]⟩, .string ⟨#[]⟩, .int .i64 0, .int .i64 0, .slice none 0 0, .string ⟨#[97]⟩, .int .i64 0, .int .i64 0, .string ⟨#[]⟩, .int .i64 0, .int .i64 0, .int .i64 0, .string ⟨#[]⟩, .string ⟨#[]⟩, .int .i64 0, .int .i64 0, .slice none 0 0] 40))
          generalize hwt : wr.alloc (.cells #[.string ⟨#[98]⟩, .int .i64 0, .int .i64 0, .string ⟨#[]⟩, .int .i64 0, .int .i64 0, .int .i64 0, .string ⟨#[]⟩, .string ⟨#[]⟩, .int .i64 0, .int .i64 0, .slice none 0 0, .string ⟨#[97]⟩, .int .i64 0, .int .i64 0, .string ⟨#[]⟩, .int .i64 0, .int .i64 0, .int .i64 0, .string ⟨#[]⟩, .string ⟨#[]⟩, .int .i64 0, .int .i64 0, .slice none 0 0] 40) = wt at HTw HBt
          have HWT := Lib.hid hwt
          have HS2 := Lib.hid (Sort_any (some ⟨wr.heap.size, 0, none⟩) 2 2 [ndB, ndA] rfl (by decide) two_sz wt HTw.out)
          rw [two_sorted] at HS2
          clear HB3 HA3 HAm3 HBr HT hwt
          go_wp2_with fail
          rw [HWT.out]
          refine HS2.out.mono ?_; rintro e w3 ⟨v3, x3, rfl, hx3, hO3, hb⟩
          have HB5 := Lib.hid (HB4.out.trans ((HBt.out.trans (hb.mono HBt.out.size)).mono HB4.out.size))
          have HA5 := Lib.hid (HA4.out.below (HBt.out.trans (hb.mono HBt.out.size)))
          have HAm5 := Lib.hid (HAm4.out.below (HBt.out.trans (hb.mono HBt.out.size)))
          have hl3 : x3.length = 2 := by have := congrArg List.length hx3; rw [List.length_map] at this; exact this
          obtain ⟨g3, cap3, hv3, -⟩ := hO3.1.row (by rw [hl3]; decide)
          rw [hl3] at hv3
          subst hv3
          have c00 : w3.cell? ⟨g3, 0, none⟩ = some (.string ⟨#[97]⟩) := by
            obtain ⟨⟨h1, -⟩, -⟩ := hO3.1.cells12 hl3 0 (by rw [hl3]; decide)
            have h5 : (x3[0]'(by rw [hl3]; decide)).1 = ndA := by
              have h6 : (x3.map (·.1))[0]? = some ndA := by rw [hx3]; rfl
              rw [List.getElem?_map, List.getElem?_eq_getElem (by rw [hl3]; decide)] at h6
              simpa using h6
            rw [h5, Nat.zero_mul] at h1
            exact h1
          clear hb hO3 hx3 hl3 HBt HTw HS2 HWT HB4 HA4 HAm4
          go_wp2_with fail
          refine (HSo.out _ HAm5.out).mono ?_; rintro e w4 ⟨v4, x4, rfl, hx4, hO4, hb⟩
          have HB6 := Lib.hid (HB5.out.trans (hb.mono HB5.out.size))
          have HA6 := Lib.hid (HA5.out.below hb)
          obtain ⟨A4, d4, he4, -, hat4⟩ := hO4.at
          rw [hx4] at hat4
          have hl4 : x4.length = k := by have := congrArg List.length hx4; rw [List.length_map] at this; rw [this]; exact HL.out
          rw [hl4] at he4
          subst he4
          have HE := Lib.hid (keepTree_any A4 T k d4 k d l l HL.out HL.out (by omega) (by omega) w4 hat4 HA6.out)
          simp only [decide_true] at HE
          clear hb hO4 hx4 hat4 hl4 HA5 HAm5 HB5 c00
          go_wp2_with fail
          refine HE.out.mono ?_; rintro e w5 ⟨rfl, hb⟩
          have HB7 := Lib.hid (HB6.out.trans (hb.mono HB6.out.size))
          clear hb HE
          go_wp2_with fail
          go_ret
          exact ⟨rfl, HB7.out⟩
end Go.Proofs.YtmgndhdikleagaaGreatDoor
