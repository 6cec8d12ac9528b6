/- The reference's header of a member: MemberHead. (Stage 17, ahead.) -/
import Derived.Test.YtepjdiocicmjcaaDoorMemA
import Derived.Test.YtepjdiocicmjcaaDoorHedA
set_option linter.unusedVariables false
set_option maxRecDepth 100000
namespace Go.Proofs.YtepjdiocicmjcaaDoor
open Go.RowKit
open Go.OpenShut
/-- what one record takes out of a header -/
def hdR (h : HeadV) (r : Rc) : HeadV :=
  if r.1 = kGid then { h with gid := 0 } else if r.1 = kGname then { h with group := [] } else if r.1 = kLink then { h with link := atLong } else if r.1 = kMtime then { h with time := 0 }
  else if r.1 = kPath then { h with name := atLong } else if r.1 = kUid then { h with uid := 0 } else if r.1 = kUname then { h with user := [] } else h
theorem hdR_gid (h : HeadV) (v : List UInt8) : hdR h (kGid, v) = { h with gid := 0 } := if_pos rfl
theorem hdR_gname (h : HeadV) (v : List UInt8) : hdR h (kGname, v) = { h with group := [] } := by rw [hdR, if_neg (by show ¬ kGname = kGid; decide), if_pos rfl]
theorem hdR_link (h : HeadV) (v : List UInt8) : hdR h (kLink, v) = { h with link := atLong } := by rw [hdR, if_neg (by show ¬ kLink = kGid; decide), if_neg (by show ¬ kLink = kGname; decide), if_pos rfl]
theorem hdR_mtime (h : HeadV) (v : List UInt8) : hdR h (kMtime, v) = { h with time := 0 } := by
  rw [hdR, if_neg (by show ¬ kMtime = kGid; decide), if_neg (by show ¬ kMtime = kGname; decide), if_neg (by show ¬ kMtime = kLink; decide), if_pos rfl]
theorem hdR_path (h : HeadV) (v : List UInt8) : hdR h (kPath, v) = { h with name := atLong } := by
  rw [hdR, if_neg (by show ¬ kPath = kGid; decide), if_neg (by show ¬ kPath = kGname; decide), if_neg (by show ¬ kPath = kLink; decide), if_neg (by show ¬ kPath = kMtime; decide), if_pos rfl]
theorem hdR_uid (h : HeadV) (v : List UInt8) : hdR h (kUid, v) = { h with uid := 0 } := by
  rw [hdR, if_neg (by show ¬ kUid = kGid; decide), if_neg (by show ¬ kUid = kGname; decide), if_neg (by show ¬ kUid = kLink; decide), if_neg (by show ¬ kUid = kMtime; decide), if_neg (by show ¬ kUid = kPath; decide), if_pos rfl]
theorem hdR_uname (h : HeadV) (v : List UInt8) : hdR h (kUname, v) = { h with user := [] } := by
  rw [hdR, if_neg (by show ¬ kUname = kGid; decide), if_neg (by show ¬ kUname = kGname; decide), if_neg (by show ¬ kUname = kLink; decide), if_neg (by show ¬ kUname = kMtime; decide), if_neg (by show ¬ kUname = kPath; decide), if_neg (by show ¬ kUname = kUid; decide), if_pos rfl]
theorem fold_gid (b : Bool) (h : HeadV) (v : List UInt8) : (recIf b kGid v).foldl hdR h = { h with gid := if b = true then 0 else h.gid } := by
  unfold recIf; cases b
  · rfl
  · exact hdR_gid h v
theorem fold_gname (b : Bool) (h : HeadV) (v : List UInt8) : (recIf b kGname v).foldl hdR h = { h with group := if b = true then [] else h.group } := by
  unfold recIf; cases b
  · rfl
  · exact hdR_gname h v
theorem fold_link (b : Bool) (h : HeadV) (v : List UInt8) : (recIf b kLink v).foldl hdR h = { h with link := if b = true then atLong else h.link } := by
  unfold recIf; cases b
  · rfl
  · exact hdR_link h v
theorem fold_mtime (b : Bool) (h : HeadV) (v : List UInt8) : (recIf b kMtime v).foldl hdR h = { h with time := if b = true then 0 else h.time } := by
  unfold recIf; cases b
  · rfl
  · exact hdR_mtime h v
theorem fold_path (b : Bool) (h : HeadV) (v : List UInt8) : (recIf b kPath v).foldl hdR h = { h with name := if b = true then atLong else h.name } := by
  unfold recIf; cases b
  · rfl
  · exact hdR_path h v
theorem fold_uid (b : Bool) (h : HeadV) (v : List UInt8) : (recIf b kUid v).foldl hdR h = { h with uid := if b = true then 0 else h.uid } := by
  unfold recIf; cases b
  · rfl
  · exact hdR_uid h v
theorem fold_uname (b : Bool) (h : HeadV) (v : List UInt8) : (recIf b kUname v).foldl hdR h = { h with user := if b = true then [] else h.user } := by
  unfold recIf; cases b
  · rfl
  · exact hdR_uname h v
/-- the header of a member ahead of its records -/
def head0 (x : EntV) : HeadV := { name := (cutV x.path).2.1, pre := (cutV x.path).1, link := x.target, mode := x.md.mode, uid := x.md.uid, gid := x.md.gid, size := x.data.length, time := x.md.second, typ := typM x.kind, user := x.md.user, group := x.md.group }
theorem hdR_recs (x : EntV) : (recsM x).foldl hdR (head0 x) = headM x := by
  unfold recsM
  simp only [List.foldl_append, fold_gid, fold_gname, fold_link, fold_mtime, fold_path, fold_uid, fold_uname]
  unfold headM head0
  simp only [decide_eq_true_eq]
def keysM : List (List UInt8) := [kGid, kGname, kLink, kMtime, kPath, kUid, kUname]
theorem recIf_key {b : Bool} {k v : List UInt8} {r : Rc} (h : r ∈ recIf b k v) : r.1 = k := by
  unfold recIf at h
  split at h
  · simp at h; rw [h]
  · cases h
theorem recs_key {x : EntV} {r : Rc} (h : r ∈ recsM x) : r.1 ∈ keysM := by
  unfold recsM at h
  simp only [List.mem_append] at h
  unfold keysM
  simp only [List.mem_cons, List.not_mem_nil, or_false]
  rcases h with h | h | h | h | h | h | h
  · exact .inl (recIf_key h)
  · exact .inr (.inl (recIf_key h))
  · exact .inr (.inr (.inl (recIf_key h)))
  · exact .inr (.inr (.inr (.inl (recIf_key h))))
  · exact .inr (.inr (.inr (.inr (.inl (recIf_key h)))))
  · exact .inr (.inr (.inr (.inr (.inr (.inl (recIf_key h))))))
  · exact .inr (.inr (.inr (.inr (.inr (.inr (recIf_key h))))))
theorem recs_few (x : EntV) : (recsM x).length ≤ 7 := by
  unfold recsM
  simp only [List.length_append]
  have h1 := recIf_le (decide (2097152 ≤ x.md.gid)) kGid (Lib.itoa x.md.gid)
  have h2 := recIf_le (decide (31 < x.md.group.length)) kGname x.md.group
  have h3 := recIf_le (decide (100 < x.target.length)) kLink x.target
  have h4 := recIf_le (lateM x) kMtime (tText x.md.second x.md.nano).1.data.toList
  have h5 := recIf_le (decide ((cutV x.path).2.2 ≠ 0)) kPath x.path
  have h6 := recIf_le (decide (2097152 ≤ x.md.uid)) kUid (Lib.itoa x.md.uid)
  have h7 := recIf_le (decide (31 < x.md.user.length)) kUname x.md.user
  omega
/-- the records of a member, none of a bad one -/
def recO (x : EntV) : List Rc := if entE x = 0 then recsM x else []
theorem rRecs_any (x : EntV) (D : Option Addr) (c : Nat) (hx : x.sz) (w : World) (T : Tab w) :
    Calls Tryd.prog 6 #[.agg (entC x D c).toArray] w fun e w' => ∃ v, e = .returned (.tuple #[v, .int .i64 (entE x)]) ∧ Own w' w.heap.size v (recO x).length (recO x) ∧ Below w.heap.size w w' := by
  unfold recO
  by_cases h0 : entE x = 0
  · rw [if_pos h0, h0]
    exact rRecs_ok x D c hx h0 w T
  · rw [if_neg h0]
    have H1 := Lib.hid fun W => rEnt_any x D c hx W
    obtain ⟨E, HE⟩ := hid_name (entE x)
    rw [HE.out] at H1 h0 ⊢
    have hne : (E != 0) = true := by simpa using h0
    have hw0 : Hid (Below w.heap.size w (w.alloc (.cells (entC x D c).toArray 26))) := (Below.refl _ _).alloc (Nat.le_refl _) _
    unfold entC at H1 hw0 ⊢
    clear h0 HE
    obtain ⟨path, kind, target, ⟨m0, m1, m2, m3, m4, m5, m6⟩, data⟩ := x
    simp only at H1 hw0 ⊢
    go_enter Tryd.func6, Tryd.ntmps6
    go_wp2_with fail
    refine (H1.out _).mono ?_; rintro e u ⟨rfl, hb⟩
    have HB := Lib.hid (hw0.out.trans (hb.mono hw0.out.size))
    clear hb
    go_wp2_with fail
    refine bodyPost_ret (v := .tuple #[.slice none 0 0, .int .i64 E]) (by simp [results, Tryd.results6, go_sem, *]) rfl ?_
    exact ⟨_, rfl, Own.nil _ _, HB.out⟩
set_option maxHeartbeats 8000000 in
theorem rMHead_ok (x : EntV) (D : Option Addr) (c : Nat) (hx : x.sz) (h0 : entE x = 0) (w : World) (T : Tab w) :
    Calls Tryd.prog 7 #[.agg (entC x D c).toArray] w fun e w' => e = .returned (.tuple #[.agg (headC (headM x)), .int .i64 0]) ∧ Below w.heap.size w w' := by
  have g := entE_good h0
  have HRc := Lib.hid fun W TW => rRecs_ok x D c hx h0 W TW
  have HCt := Lib.hid fun W => rTwo_any (bs x.path) W (by rw [bs_size]; unfold maxLen; have := g.path; omega)
  rw [bs_list] at HCt
  have HF := hdR_recs x
  have HK : Hid (∀ (k : Nat) (h : k < (recsM x).length), ((recsM x)[k]).1 ∈ keysM) := fun k h => recs_key (List.getElem_mem h)
  have hn7 := recs_few x
  have hdl := g.data
  obtain ⟨k, hk, hk4⟩ : ∃ k : Nat, x.kind = (k : Int) + 1 ∧ k < 4 := ⟨(x.kind - 1).toNat, by have := g.kind; omega, by have := g.kind; omega⟩
  have hsub : IntKind.i64.wrap ((k : Int) + 1 - 1) = (k : Int) := by rw [IntKind.wrap_i64]; omega
  have HTy : Hid (∀ W : World, (W.alloc (.cells #[.int .u8 48, .int .u8 53, .int .u8 50, .int .u8 49] 5)).cell? ⟨W.heap.size, k, none⟩ = some (.int .u8 ((typM x.kind).toNat : Int))) := fun W => by
    rw [(Blk.new W _ _).cell k, hk]
    match k, hk4 with
    | 0, _ => rfl
    | 1, _ => rfl
    | 2, _ => rfl
    | 3, _ => rfl
  unfold head0 at HF
  obtain ⟨path, kind, target, ⟨m0, m1, m2, m3, m4, m5, m6⟩, data⟩ := x
  unfold entC at HRc ⊢
  simp only at HRc HCt HF HTy hk hdl ⊢
  subst hk
  obtain ⟨RS, hRS⟩ : ∃ RS, RS = recsM ⟨path, (k : Int) + 1, target, ⟨m0, m1, m2, m3, m4, m5, m6⟩, data⟩ := ⟨_, rfl⟩
  rw [← hRS] at HRc HF HK hn7
  generalize headM _ = H9 at HF ⊢
  generalize (cutV path).2.2 = ce at HCt
  obtain ⟨cp, hcp⟩ : ∃ cp, cp = (cutV path).1 := ⟨_, rfl⟩
  obtain ⟨cn, hcn⟩ : ∃ cn, cn = (cutV path).2.1 := ⟨_, rfl⟩
  rw [← hcp, ← hcn] at HCt HF
  obtain ⟨ty, hty⟩ : ∃ ty, ty = typM ((k : Int) + 1) := ⟨_, rfl⟩
  rw [← hty] at HTy HF
  clear hRS hcp hcn hty g h0 hx
  obtain ⟨hh0, hhh0⟩ : ∃ hh0 : HeadV, hh0 = { name := cn, pre := cp, link := target, mode := m0, uid := m1, gid := m2, size := (data.length : Int), time := m5, typ := ty, user := m3, group := m4 } := ⟨_, rfl⟩
  rw [← hhh0] at HF
  have HH0 : Hid (headC hh0 = #[.string (bs cn), .string (bs cp), .string (bs target), .int .i64 m0, .int .i64 m1, .int .i64 m2, .int .i64 (data.length : Int), .int .i64 m5, .int .u8 (ty.toNat : Int), .string (bs m3), .string (bs m4)]) := by unfold Hid; rw [hhh0]; rfl
  have HF := Lib.hid HF
  generalize data.length = dl at HRc HH0 hdl ⊢
  clear hhh0
  obtain ⟨P, HP⟩ := hid_name (bs path)
  rw [HP.out] at HCt HRc ⊢
  have HE0 := Lib.hid ((Blk.new w 26 #[.string P, .int .i64 ((k : Int) + 1), .string (bs target), .int .i64 m0, .int .i64 m1, .int .i64 m2, .string (bs m3), .string (bs m4), .int .i64 m5, .int .i64 m6, .slice D dl c]).alloc (.cells (headC headZ) 32))
  have HZ0 := Lib.hid (Blk.new (w.alloc (.cells #[.string P, .int .i64 ((k : Int) + 1), .string (bs target), .int .i64 m0, .int .i64 m1, .int .i64 m2, .string (bs m3), .string (bs m4), .int .i64 m5, .int .i64 m6, .slice D dl c] 26)) 32 (headC headZ))
  have HB0 : Hid (Below w.heap.size w ((w.alloc (.cells #[.string P, .int .i64 ((k : Int) + 1), .string (bs target), .int .i64 m0, .int .i64 m1, .int .i64 m2, .string (bs m3), .string (bs m4), .int .i64 m5, .int .i64 m6, .slice D dl c] 26)).alloc (.cells (headC headZ) 32))) := ((Below.refl _ _).alloc (Nat.le_refl _) _).alloc (by rw [hszA]; omega) _
  have ez : headC headZ = #[.string ⟨#[]⟩, .string ⟨#[]⟩, .string ⟨#[]⟩, .int .i64 0, .int .i64 0, .int .i64 0, .int .i64 0, .int .i64 0, .int .u8 0, .string ⟨#[]⟩, .string ⟨#[]⟩] := rfl
  rw [hszA] at HZ0
  rw [ez] at HE0 HZ0 HB0
  clear ez
  go_enter Tryd.func7, Tryd.ntmps7
  go_wp2_with fail
  refine (HRc.out _ (T.below HB0.out)).mono ?_; rintro e x3 ⟨v, rfl, ho, hb⟩
  have HE := Lib.hid (HE0.out.below hb HE0.out.lt)
  have HZ := Lib.hid (HZ0.out.below hb HZ0.out.lt)
  have HBx := Lib.hid (HB0.out.trans (hb.mono HB0.out.size))
  obtain ⟨A, cA, rfl⟩ := ho.form
  have HR := Lib.hid ho.at
  generalize hnn : RS.length = n at hn7 HR ⊢
  clear ho hb HE0 HZ0 HB0 HRc
  obtain ⟨⟨E0, E1, E2, E3, E4, E5, E6, E7, E8, E9, EA⟩, -⟩ := blk11 HE.out
  go_upto_region 5 with fail
  have hH4 := Blk.new x3 32 #[.string ⟨#[]⟩, .string ⟨#[]⟩, .string (bs target), .int .i64 m0, .int .i64 m1, .int .i64 m2, .int .i64 (dl : Int), .int .i64 m5, .int .u8 0, .string (bs m3), .string (bs m4)]
  have hE4 := HE.out.alloc (.cells #[.string ⟨#[]⟩, .string ⟨#[]⟩, .string (bs target), .int .i64 m0, .int .i64 m1, .int .i64 m2, .int .i64 (dl : Int), .int .i64 m5, .int .u8 0, .string (bs m3), .string (bs m4)] 32)
  have hB4 := (Below.refl x3.heap.size x3).alloc (Nat.le_refl _) (.cells #[.string ⟨#[]⟩, .string ⟨#[]⟩, .string (bs target), .int .i64 m0, .int .i64 m1, .int .i64 m2, .int .i64 (dl : Int), .int .i64 m5, .int .u8 0, .string (bs m3), .string (bs m4)] 32)
  have hs4 : (x3.alloc (.cells #[.string ⟨#[]⟩, .string ⟨#[]⟩, .string (bs target), .int .i64 m0, .int .i64 m1, .int .i64 m2, .int .i64 (dl : Int), .int .i64 m5, .int .u8 0, .string (bs m3), .string (bs m4)] 32)).heap.size = x3.heap.size + 1 := hszA _ _
  generalize x3.alloc (.cells #[.string ⟨#[]⟩, .string ⟨#[]⟩, .string (bs target), .int .i64 m0, .int .i64 m1, .int .i64 m2, .int .i64 (dl : Int), .int .i64 m5, .int .u8 0, .string (bs m3), .string (bs m4)] 32) = x4 at hH4 hE4 hB4 hs4 ⊢
  have hTy := HTy.out x4
  rw [hs4] at hTy
  obtain ⟨⟨G0, G1, G2, -⟩, -⟩ := blk11 (hE4.alloc (.cells #[.int .u8 48, .int .u8 53, .int .u8 50, .int .u8 49] 5))
  obtain ⟨⟨q0, q1, q2, q3, q4, q5, q6, q7, q8, q9, qA⟩, f0, f1, f2, f3, f4, f5, f6, f7, f8, f9, fA⟩ := blk11 (hH4.alloc (.cells #[.int .u8 48, .int .u8 53, .int .u8 50, .int .u8 49] 5))
  have HH5 := Lib.hid ((hH4.set_ 8 (.int .u8 (ty.toNat : Int))).alloc (.cells #[.int .u8 48, .int .u8 53, .int .u8 50, .int .u8 49] 5))
  have hB5 := hB4.setCell (p := ⟨x3.heap.size, 8, none⟩) (Nat.le_refl _) (.int .u8 (ty.toNat : Int))
  have HB5 := Lib.hid (hB5.alloc hB5.size (.cells #[.int .u8 48, .int .u8 53, .int .u8 50, .int .u8 49] 5))
  clear E0 E1 E2 E3 E4 E5 E6 E7 E8 E9 EA hH4 hE4 hB4 HTy
  go_upto_region 6 with fail
  generalize hx6 : (x4.setCell ⟨x3.heap.size, 8, none⟩ (.int .u8 (ty.toNat : Int))).alloc (.cells #[.int .u8 48, .int .u8 53, .int .u8 50, .int .u8 49] 5) = x6 at HH5 HB5 ⊢
  clear hB5 hx6 hTy G0 G1 G2 q0 q1 q2 q3 q4 q5 q6 q7 q8 q9 qA f0 f1 f2 f3 f4 f5 f6 f7 f8 f9 fA
  obtain ⟨⟨E0, E1, E2, -⟩, -⟩ := blk11 (HE.out.below HB5.out HE.out.lt)
  go_wp2_with fail
  refine (HCt.out _).mono ?_; rintro e x7 ⟨rfl, n6, rfl⟩
  have hH7 : Blk (x6.drewN n6) x3.heap.size 32 #[.string ⟨#[]⟩, .string ⟨#[]⟩, .string (bs target), .int .i64 m0, .int .i64 m1, .int .i64 m2, .int .i64 (dl : Int), .int .i64 m5, .int .u8 (ty.toNat : Int), .string (bs m3), .string (bs m4)] := HH5.out.drewN n6
  have HB7 := Lib.hid (below_drewN HB5.out n6)
  generalize x6.drewN n6 = x7 at hH7 HB7 ⊢
  clear E0 E1 E2 HH5 HB5 HCt
  obtain ⟨⟨q0, q1, q2, q3, q4, q5, q6, q7, q8, q9, qA⟩, f0, f1, f2, f3, f4, f5, f6, f7, f8, f9, fA⟩ := blk11 hH7
  have HH8 : Hid (Blk ((x7.setCell ⟨x3.heap.size, 1, none⟩ (.string (bs cp))).setCell ⟨x3.heap.size, 0, none⟩ (.string (bs cn))) x3.heap.size 32 (headC hh0)) := by
    unfold Hid; rw [HH0.out]; exact (hH7.set_ 1 (.string (bs cp))).set_ 0 (.string (bs cn))
  have HB8 := Lib.hid ((HB7.out.setCell (p := ⟨x3.heap.size, 1, none⟩) (Nat.le_refl _) (.string (bs cp))).setCell (p := ⟨x3.heap.size, 0, none⟩) (Nat.le_refl _) (.string (bs cn)))
  clear hH7 HB7 HH0
  go_wp2_with fail
  go_loopw [60] (fun iv wr => ∃ i : Nat, i ≤ n ∧ iv = .int .i64 i ∧ Hid (Blk wr x3.heap.size 32 (headC ((RS.take i).foldl hdR hh0))) ∧ Hid (Below x3.heap.size x3 wr)) (fun iv _ => n - (intOf iv).toNat)
  case atStart => exact ⟨0, Nat.zero_le _, rfl, HH8.out, HB8.out⟩
  case round =>
    obtain ⟨i, hi, rfl, HBk, HB⟩ := hrel
    by_cases hlt : i < n
    · have i1 : i < RS.length := by rw [hnn]; exact hlt
      obtain ⟨b, o, rfl, c0, c1⟩ := (HR.out.below HB.out) i i1
      have HSt : Hid ((RS.take (i + 1)).foldl hdR hh0 = hdR ((RS.take i).foldl hdR hh0) RS[i]) := by
        unfold Hid; rw [List.take_succ_eq_append_getElem i1, List.foldl_append]; rfl
      have hkey := HK.out i i1
      have hsz : x3.heap.size < wr.heap.size := HBk.out.lt
      generalize RS[i] = r at c0 c1 HSt hkey
      obtain ⟨K, V⟩ := r
      simp only at c0 c1 hkey
      generalize (RS.take i).foldl hdR hh0 = hi0 at HBk HSt
      unfold keysM at hkey
      simp only [List.mem_cons, List.not_mem_nil, or_false] at hkey
      rcases hkey with rfl | rfl | rfl | rfl | rfl | rfl | rfl
      · replace c0 : wr.cell? ⟨b, o + i * 2, none⟩ = some (.string ⟨#[103, 105, 100]⟩) := c0
        have HN : Hid (Blk ((wr.setCell ⟨x3.heap.size, 5, none⟩ (.int .i64 0)).alloc (.cells #[.string ⟨#[103, 105, 100]⟩, .string (bs V)] 39)) x3.heap.size 32 (headC ((RS.take (i + 1)).foldl hdR hh0))) := by
          unfold Hid; rw [HSt.out, hdR_gid]; exact (HBk.out.set_ 5 (.int .i64 0)).alloc _
        have hB2 := HB.out.setCell (p := ⟨x3.heap.size, 5, none⟩) (Nat.le_refl _) (.int .i64 0)
        have HB2 := Lib.hid (hB2.alloc hB2.size (.cells #[.string ⟨#[103, 105, 100]⟩, .string (bs V)] 39))
        clear hB2
        generalize bs V = VS at c1 HN HB2
        obtain ⟨⟨q0, q1, q2, q3, q4, q5, q6, q7, q8, q9, qA⟩, f0, f1, f2, f3, f4, f5, f6, f7, f8, f9, fA⟩ := blk11 (HBk.out.alloc (.cells #[.string ⟨#[103, 105, 100]⟩, .string VS] 39))
        clear HSt
        go_wp2_with fail
        go_roundw
        case rel => exact ⟨i + 1, by omega, by go_num, HN.out, HB2.out⟩
        case measure => simp [intOf]; omega
      · replace c0 : wr.cell? ⟨b, o + i * 2, none⟩ = some (.string ⟨#[103, 110, 97, 109, 101]⟩) := c0
        have HN : Hid (Blk ((wr.setCell ⟨x3.heap.size, 10, none⟩ (.string ⟨#[]⟩)).alloc (.cells #[.string ⟨#[103, 110, 97, 109, 101]⟩, .string (bs V)] 39)) x3.heap.size 32 (headC ((RS.take (i + 1)).foldl hdR hh0))) := by
          unfold Hid; rw [HSt.out, hdR_gname]; exact (HBk.out.set_ 10 (.string ⟨#[]⟩)).alloc _
        have hB2 := HB.out.setCell (p := ⟨x3.heap.size, 10, none⟩) (Nat.le_refl _) (.string ⟨#[]⟩)
        have HB2 := Lib.hid (hB2.alloc hB2.size (.cells #[.string ⟨#[103, 110, 97, 109, 101]⟩, .string (bs V)] 39))
        clear hB2
        generalize bs V = VS at c1 HN HB2
        obtain ⟨⟨q0, q1, q2, q3, q4, q5, q6, q7, q8, q9, qA⟩, f0, f1, f2, f3, f4, f5, f6, f7, f8, f9, fA⟩ := blk11 (HBk.out.alloc (.cells #[.string ⟨#[103, 110, 97, 109, 101]⟩, .string VS] 39))
        clear HSt
        go_wp2_with fail
        go_roundw
        case rel => exact ⟨i + 1, by omega, by go_num, HN.out, HB2.out⟩
        case measure => simp [intOf]; omega
      · replace c0 : wr.cell? ⟨b, o + i * 2, none⟩ = some (.string ⟨#[108, 105, 110, 107, 112, 97, 116, 104]⟩) := c0
        have HN : Hid (Blk ((wr.setCell ⟨x3.heap.size, 2, none⟩ (.string ⟨#[64, 108, 111, 110, 103]⟩)).alloc (.cells #[.string ⟨#[108, 105, 110, 107, 112, 97, 116, 104]⟩, .string (bs V)] 39)) x3.heap.size 32 (headC ((RS.take (i + 1)).foldl hdR hh0))) := by
          unfold Hid; rw [HSt.out, hdR_link]; exact (HBk.out.set_ 2 (.string ⟨#[64, 108, 111, 110, 103]⟩)).alloc _
        have hB2 := HB.out.setCell (p := ⟨x3.heap.size, 2, none⟩) (Nat.le_refl _) (.string ⟨#[64, 108, 111, 110, 103]⟩)
        have HB2 := Lib.hid (hB2.alloc hB2.size (.cells #[.string ⟨#[108, 105, 110, 107, 112, 97, 116, 104]⟩, .string (bs V)] 39))
        clear hB2
        generalize bs V = VS at c1 HN HB2
        obtain ⟨⟨q0, q1, q2, q3, q4, q5, q6, q7, q8, q9, qA⟩, f0, f1, f2, f3, f4, f5, f6, f7, f8, f9, fA⟩ := blk11 (HBk.out.alloc (.cells #[.string ⟨#[108, 105, 110, 107, 112, 97, 116, 104]⟩, .string VS] 39))
        clear HSt
        go_wp2_with fail
        go_roundw
        case rel => exact ⟨i + 1, by omega, by go_num, HN.out, HB2.out⟩
        case measure => simp [intOf]; omega
      · replace c0 : wr.cell? ⟨b, o + i * 2, none⟩ = some (.string ⟨#[109, 116, 105, 109, 101]⟩) := c0
        have HN : Hid (Blk ((wr.setCell ⟨x3.heap.size, 7, none⟩ (.int .i64 0)).alloc (.cells #[.string ⟨#[109, 116, 105, 109, 101]⟩, .string (bs V)] 39)) x3.heap.size 32 (headC ((RS.take (i + 1)).foldl hdR hh0))) := by
          unfold Hid; rw [HSt.out, hdR_mtime]; exact (HBk.out.set_ 7 (.int .i64 0)).alloc _
        have hB2 := HB.out.setCell (p := ⟨x3.heap.size, 7, none⟩) (Nat.le_refl _) (.int .i64 0)
        have HB2 := Lib.hid (hB2.alloc hB2.size (.cells #[.string ⟨#[109, 116, 105, 109, 101]⟩, .string (bs V)] 39))
        clear hB2
        generalize bs V = VS at c1 HN HB2
        obtain ⟨⟨q0, q1, q2, q3, q4, q5, q6, q7, q8, q9, qA⟩, f0, f1, f2, f3, f4, f5, f6, f7, f8, f9, fA⟩ := blk11 (HBk.out.alloc (.cells #[.string ⟨#[109, 116, 105, 109, 101]⟩, .string VS] 39))
        clear HSt
        go_wp2_with fail
        go_roundw
        case rel => exact ⟨i + 1, by omega, by go_num, HN.out, HB2.out⟩
        case measure => simp [intOf]; omega
      · replace c0 : wr.cell? ⟨b, o + i * 2, none⟩ = some (.string ⟨#[112, 97, 116, 104]⟩) := c0
        have HN : Hid (Blk ((wr.setCell ⟨x3.heap.size, 0, none⟩ (.string ⟨#[64, 108, 111, 110, 103]⟩)).alloc (.cells #[.string ⟨#[112, 97, 116, 104]⟩, .string (bs V)] 39)) x3.heap.size 32 (headC ((RS.take (i + 1)).foldl hdR hh0))) := by
          unfold Hid; rw [HSt.out, hdR_path]; exact (HBk.out.set_ 0 (.string ⟨#[64, 108, 111, 110, 103]⟩)).alloc _
        have hB2 := HB.out.setCell (p := ⟨x3.heap.size, 0, none⟩) (Nat.le_refl _) (.string ⟨#[64, 108, 111, 110, 103]⟩)
        have HB2 := Lib.hid (hB2.alloc hB2.size (.cells #[.string ⟨#[112, 97, 116, 104]⟩, .string (bs V)] 39))
        clear hB2
        generalize bs V = VS at c1 HN HB2
        obtain ⟨⟨q0, q1, q2, q3, q4, q5, q6, q7, q8, q9, qA⟩, f0, f1, f2, f3, f4, f5, f6, f7, f8, f9, fA⟩ := blk11 (HBk.out.alloc (.cells #[.string ⟨#[112, 97, 116, 104]⟩, .string VS] 39))
        clear HSt
        go_wp2_with fail
        go_roundw
        case rel => exact ⟨i + 1, by omega, by go_num, HN.out, HB2.out⟩
        case measure => simp [intOf]; omega
      · replace c0 : wr.cell? ⟨b, o + i * 2, none⟩ = some (.string ⟨#[117, 105, 100]⟩) := c0
        have HN : Hid (Blk ((wr.setCell ⟨x3.heap.size, 4, none⟩ (.int .i64 0)).alloc (.cells #[.string ⟨#[117, 105, 100]⟩, .string (bs V)] 39)) x3.heap.size 32 (headC ((RS.take (i + 1)).foldl hdR hh0))) := by
          unfold Hid; rw [HSt.out, hdR_uid]; exact (HBk.out.set_ 4 (.int .i64 0)).alloc _
        have hB2 := HB.out.setCell (p := ⟨x3.heap.size, 4, none⟩) (Nat.le_refl _) (.int .i64 0)
        have HB2 := Lib.hid (hB2.alloc hB2.size (.cells #[.string ⟨#[117, 105, 100]⟩, .string (bs V)] 39))
        clear hB2
        generalize bs V = VS at c1 HN HB2
        obtain ⟨⟨q0, q1, q2, q3, q4, q5, q6, q7, q8, q9, qA⟩, f0, f1, f2, f3, f4, f5, f6, f7, f8, f9, fA⟩ := blk11 (HBk.out.alloc (.cells #[.string ⟨#[117, 105, 100]⟩, .string VS] 39))
        clear HSt
        go_wp2_with fail
        go_roundw
        case rel => exact ⟨i + 1, by omega, by go_num, HN.out, HB2.out⟩
        case measure => simp [intOf]; omega
      · replace c0 : wr.cell? ⟨b, o + i * 2, none⟩ = some (.string ⟨#[117, 110, 97, 109, 101]⟩) := c0
        have HN : Hid (Blk ((wr.setCell ⟨x3.heap.size, 9, none⟩ (.string ⟨#[]⟩)).alloc (.cells #[.string ⟨#[117, 110, 97, 109, 101]⟩, .string (bs V)] 39)) x3.heap.size 32 (headC ((RS.take (i + 1)).foldl hdR hh0))) := by
          unfold Hid; rw [HSt.out, hdR_uname]; exact (HBk.out.set_ 9 (.string ⟨#[]⟩)).alloc _
        have hB2 := HB.out.setCell (p := ⟨x3.heap.size, 9, none⟩) (Nat.le_refl _) (.string ⟨#[]⟩)
        have HB2 := Lib.hid (hB2.alloc hB2.size (.cells #[.string ⟨#[117, 110, 97, 109, 101]⟩, .string (bs V)] 39))
        clear hB2
        generalize bs V = VS at c1 HN HB2
        obtain ⟨⟨q0, q1, q2, q3, q4, q5, q6, q7, q8, q9, qA⟩, f0, f1, f2, f3, f4, f5, f6, f7, f8, f9, fA⟩ := blk11 (HBk.out.alloc (.cells #[.string ⟨#[117, 110, 97, 109, 101]⟩, .string VS] 39))
        clear HSt
        go_wp2_with fail
        go_roundw
        case rel => exact ⟨i + 1, by omega, by go_num, HN.out, HB2.out⟩
        case measure => simp [intOf]; omega
    · obtain rfl : i = n := by omega
      have hH := HBk.out
      rw [List.take_of_length_le (by omega), HF.out] at hH
      have HZ9 := HZ.out.below HB.out HZ.out.lt
      obtain ⟨⟨z0, z1, z2, z3, z4, z5, z6, z7, z8, z9, zA⟩, g0, g1, g2, g3, g4, g5, g6, g7, g8, g9, gA⟩ := blk11 HZ9
      unfold headC at hH
      obtain ⟨⟨q0, q1, q2, q3, q4, q5, q6, q7, q8, q9, qA⟩, f0, f1, f2, f3, f4, f5, f6, f7, f8, f9, fA⟩ := blk11 hH
      have HB9 := Lib.hid (HBx.out.trans (HB.out.mono HBx.out.size))
      clear hH HZ9
      unfold headC
      go_wp2_with fail
      refine bodyPost_ret (v := .tuple #[.agg #[.string (bs H9.name), .string (bs H9.pre), .string (bs H9.link), .int .i64 H9.mode, .int .i64 H9.uid, .int .i64 H9.gid, .int .i64 H9.size, .int .i64 H9.time, .int .u8 (H9.typ.toNat : Int), .string (bs H9.user), .string (bs H9.group)], .int .i64 0]) (by simp [results, Tryd.results7, go_sem, *]) rfl ⟨rfl, ?_⟩
      repeat (with_reducible refine Below.setCell ?_ (Nat.le_succ _) _)
      exact HB9.out
theorem rMHead_any (x : EntV) (D : Option Addr) (c : Nat) (hx : x.sz) (w : World) (T : Tab w) :
    Calls Tryd.prog 7 #[.agg (entC x D c).toArray] w fun e w' => e = .returned (.tuple #[.agg (headC (if entE x = 0 then headM x else headZ)), .int .i64 (entE x)]) ∧ Below w.heap.size w w' := by
  by_cases h0 : entE x = 0
  · rw [if_pos h0, h0]
    exact rMHead_ok x D c hx h0 w T
  · rw [if_neg h0]
    have H1 := Lib.hid fun W TW => rRecs_any x D c hx W TW
    unfold recO at H1
    rw [if_neg h0] at H1
    obtain ⟨E, HE⟩ := hid_name (entE x)
    rw [HE.out] at H1 h0 ⊢
    have hne : (E != 0) = true := by simpa using h0
    have HW : Hid (Below w.heap.size w ((w.alloc (.cells (entC x D c).toArray 26)).alloc (.cells (headC headZ) 32))) := ((Below.refl _ _).alloc (Nat.le_refl _) _).alloc (by rw [hszA]; omega) _
    have HZ0 := Lib.hid (Blk.new (w.alloc (.cells (entC x D c).toArray 26)) 32 (headC headZ))
    have ez : headC headZ = #[.string ⟨#[]⟩, .string ⟨#[]⟩, .string ⟨#[]⟩, .int .i64 0, .int .i64 0, .int .i64 0, .int .i64 0, .int .i64 0, .int .u8 0, .string ⟨#[]⟩, .string ⟨#[]⟩] := rfl
    rw [ez] at HW HZ0 ⊢
    rw [hszA] at HZ0
    unfold entC at H1 HW HZ0 ⊢
    clear h0 HE ez
    obtain ⟨path, kind, target, ⟨m0, m1, m2, m3, m4, m5, m6⟩, data⟩ := x
    simp only at H1 HW HZ0 ⊢
    go_enter Tryd.func7, Tryd.ntmps7
    go_wp2_with fail
    refine (H1.out _ (T.below HW.out)).mono ?_; rintro e u ⟨v, rfl, -, hb⟩
    have HB := Lib.hid (HW.out.trans (hb.mono HW.out.size))
    obtain ⟨⟨z0, z1, z2, z3, z4, z5, z6, z7, z8, z9, zA⟩, g0, g1, g2, g3, g4, g5, g6, g7, g8, g9, gA⟩ := blk11 (HZ0.out.below hb HZ0.out.lt)
    clear hb
    go_wp2_with fail
    refine bodyPost_ret (v := .tuple #[.agg #[.string ⟨#[]⟩, .string ⟨#[]⟩, .string ⟨#[]⟩, .int .i64 0, .int .i64 0, .int .i64 0, .int .i64 0, .int .i64 0, .int .u8 0, .string ⟨#[]⟩, .string ⟨#[]⟩], .int .i64 E]) (by simp [results, Tryd.results7, go_sem, *]) rfl ⟨rfl, ?_⟩
    repeat (with_reducible refine Below.setCell ?_ (Nat.le_succ _) _)
    exact HB.out
end Go.Proofs.YtepjdiocicmjcaaDoor
