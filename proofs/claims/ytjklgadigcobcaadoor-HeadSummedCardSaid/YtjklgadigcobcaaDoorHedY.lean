/- Package head: Write, Check. -/
import Derived.Test.YtjklgadigcobcaaDoorHedX
import Derived.Deep.RegionWith
set_option linter.unusedVariables false
set_option maxRecDepth 100000
namespace Go.Proofs.YtjklgadigcobcaaDoor
open Go.RowKit
open Go.OpenShut
theorem headE_kind {h : HeadV} (ht : typB h.typ = false) : headE h = 2 := by unfold headE; rw [if_neg (by simp [ht])]
theorem headE_eq {h : HeadV} (ht : typB h.typ = true) : headE h = firstE (errsH h) := if_pos ht
theorem allL_len {h : HeadV} (e : headE h = 0) : (allL h).length = 512 := by
  unfold allL
  rw [List.length_append, List.length_append, front_len e, back_len e, List.length_replicate]
theorem allL_sum {h : HeadV} (e : headE h = 0) : sumH (allL h) = sumB (frontH h) + 256 + sumB (backH h) := by
  unfold allL
  rw [List.append_assoc, sumH_mid _ _ _ (front_len e) (by simp)]
theorem allL_front {h : HeadV} (e : headE h = 0) : (bs (allL h)).extract 0 148 = bs (frontH h) := by
  rw [bs_ext]; unfold sl allL
  rw [List.drop_zero, List.append_assoc, List.take_left' (front_len e)]
theorem allL_back {h : HeadV} (e : headE h = 0) : (bs (allL h)).extract 156 512 = bs (backH h) := by
  have e1 : (frontH h ++ List.replicate 8 32).length = 156 := by rw [List.length_append, front_len e, List.length_replicate]
  rw [bs_ext]; unfold sl
  rw [List.take_of_length_le (by rw [allL_len e]; omega)]
  unfold allL
  rw [← e1, List.drop_left]
theorem add_to {a b A : ByteArray} (h : a ++ b = A) (hs : a.size + b.size ≤ 9223372036854775807) : ∀ W : World, (Op.stringOp .add a b).run Tryd.prog W = .ok (.string A) W := fun W => by
  rw [← h]; exact run_string_add_sum (P := Tryd.prog) (w := W) a b hs
theorem hWrite_kind (h : HeadV) (w : World) (ht : typB h.typ = false) : Calls Tryd.prog 7 #[.agg (headC h)] w fun e w' => e = .returned (.tuple #[.string ⟨#[]⟩, .int .i64 2]) ∧ Below w.heap.size w w' := by
  have hgk : (w.alloc (.cells (headC h) 25)).heap[w.heap.size]? = some (.cells (headC h) 25 (0, 0)) := heap_alloc_new w _
  have c8 : (w.alloc (.cells (headC h) 25)).cell? ⟨w.heap.size, 8, none⟩ = some (.int .u8 (h.typ.toNat : Int)) := by rw [Lib.cell_of_heap hgk]; rfl
  have hb0 := Lib.hid ((Below.refl w.heap.size w).alloc (Nat.le_refl _) (.cells (headC h) 25))
  clear hgk
  go_enter Tryd.func7, Tryd.ntmps7
  go_wp2_with fail
  refine (isType_any h.typ _ _ rfl).mono ?_; rintro e w' ⟨rfl, rfl⟩
  go_wp2_with fail
  go_ret2
  exact ⟨rfl, hb0.out⟩
set_option maxHeartbeats 2000000 in
theorem hWrite_in (h : HeadV) (w : World) (ht : typB h.typ = true)
    (hn : h.name.length ≤ 140737488351232) (hp : h.pre.length ≤ 140737488351232) (hk : h.link.length ≤ 140737488351232) (hu : h.user.length ≤ 140737488351232) (hg : h.group.length ≤ 140737488351232) :
    Calls Tryd.prog 7 #[.agg (headC h)] w fun e w' => e = .returned (.tuple #[.string (headW h).1, .int .i64 (headW h).2]) ∧ Below w.heap.size w w' := by
  have hgk : (w.alloc (.cells (headC h) 25)).heap[w.heap.size]? = some (.cells (headC h) 25 (0, 0)) := heap_alloc_new w _
  have c8 : (w.alloc (.cells (headC h) 25)).cell? ⟨w.heap.size, 8, none⟩ = some (.int .u8 (h.typ.toNat : Int)) := by rw [Lib.cell_of_heap hgk]; rfl
  have hb0 := (Below.refl w.heap.size w).alloc (Nat.le_refl _) (.cells (headC h) 25)
  obtain ⟨w1, W1⟩ : ∃ w1, w1 = (w.alloc (.cells (headC h) 25)).alloc (.cells #[.pointer none, .slice none 0 0, .int .i64 0] 45) := ⟨_, rfl⟩
  have hb1 : Below w.heap.size w w1 := by rw [W1]; exact hb0.alloc (by simp) _
  have hs1 : w1.heap.size = w.heap.size + 2 := by rw [W1]; simp
  have hbk : w1.heap[w.heap.size + 1]? = some (.cells #[.pointer none, .slice none 0 0, .int .i64 0] 45 (0, 0)) := by
    have := heap_alloc_new (w.alloc (.cells (headC h) 25)) (.cells #[.pointer none, .slice none 0 0, .int .i64 0] 45)
    rw [W1]; simpa using this
  have hgk1 : w1.heap[w.heap.size]? = some (.cells (headC h) 25 (0, 0)) := by
    rw [W1, Lib.alloc_old _ _ _ (by simp)]; exact hgk
  have d0 : (headC h)[0]? = some (.string (bs h.name)) := rfl
  have d1 : (headC h)[1]? = some (.string (bs h.pre)) := rfl
  have d2 : (headC h)[2]? = some (.string (bs h.link)) := rfl
  have d3 : (headC h)[3]? = some (.int .i64 h.mode) := rfl
  have d4 : (headC h)[4]? = some (.int .i64 h.uid) := rfl
  have d5 : (headC h)[5]? = some (.int .i64 h.gid) := rfl
  have d6 : (headC h)[6]? = some (.int .i64 h.size) := rfl
  have d7 : (headC h)[7]? = some (.int .i64 h.time) := rfl
  have d8 : (headC h)[8]? = some (.int .u8 (h.typ.toNat : Int)) := rfl
  have d9 : (headC h)[9]? = some (.string (bs h.user)) := rfl
  have dA : (headC h)[10]? = some (.string (bs h.group)) := rfl
  have HH := Lib.hid (wHead w.heap.size (w.heap.size + 1) h w1 (by omega) hbk (by omega) hn hp hk hu hg)
  have HB1 := Lib.hid hb1
  have hE := headE_eq ht
  subst W1
  clear hgk hb0 hb1 hbk hgk1 hs1
  go_enter Tryd.func7, Tryd.ntmps7
  go_wp2_with fail
  refine (isType_any h.typ _ _ rfl).mono ?_; rintro e w' ⟨rfl, rfl⟩
  go_wp2_with fail
  refine HH.out.mono ?_; rintro e w2 ⟨rfl, h2, hb2⟩
  obtain ⟨p, hB, v, hbk, -, -⟩ : ∃ p, WrAt w.heap.size (w.heap.size + 1) p (firstE (errsH h)) (Lib.byteCells (allL h)) w2 := by
    rcases h2 with h2 | h2
    · exact ⟨_, h2⟩
    · exact ⟨_, h2⟩
  have HB2 := Lib.hid (HB1.out.trans hb2.1)
  have H2 := Lib.hid h2
  rw [← hE] at hbk
  obtain ⟨E, HE⟩ := hid_name (headE h)
  rw [HE.out] at hbk
  have c2 : w2.cell? ⟨w.heap.size + 1, 2, none⟩ = some (.int .i64 E) := by rw [Lib.cell_of_heap hbk]; rfl
  clear hbk h2 hb2 hE d0 d1 d2 d3 d4 d5 d6 d7 d8 d9 dA c8 HH HB1
  by_cases h0 : E = 0
  · subst h0
    have hz := HE.out
    have hlen := allL_len hz
    have HS := Lib.hid (allL_sum hz)
    have hlt := sumH_lt (allL h) hlen
    have HV := Lib.hid (sumV_ok hlen)
    have HF := Lib.hid (allL_front hz)
    have HK := Lib.hid (allL_back hz)
    have HT := Lib.hid (wString_some _ _ _ (allL h) w2 H2.out (by intro e; rw [e] at hlen; cases hlen))
    have HO := Lib.hid (headW_ok hz)
    have hfl := front_len hz
    have hbl := back_len hz
    obtain ⟨S, HN⟩ : ∃ S, Hid (bs (allL h) = S) := ⟨_, rfl⟩
    obtain ⟨N, HM⟩ := hid_name (sumH (allL h))
    obtain ⟨F, HFN⟩ := hid_name (bs (frontH h))
    obtain ⟨K, HKN⟩ := hid_name (bs (backH h))
    obtain ⟨C, HC⟩ := hid_name (bs (ckL N))
    rw [HM.out] at hlt
    have hS : S.size = 512 := by rw [← HN.out, bs_size, hlen]
    have HSz := Lib.hid hS
    have y1 : 148 ≤ S.size := by omega
    have y2 : 156 ≤ S.size := by omega
    have y3 : S.size ≤ 512 := by omega
    have x1 : Hid (S.extract 0 148 = F) := by unfold Hid; rw [← HN.out, ← HFN.out]; exact HF.out
    have x2 : Hid (S.extract 156 S.size = K) := by unfold Hid; rw [HSz.out, ← HN.out, ← HKN.out]; exact HK.out
    have zF : F.size = 148 := by rw [← HFN.out, bs_size, hfl]
    have zK : K.size = 356 := by rw [← HKN.out, bs_size, hbl]
    have zC : C.size = 8 := by rw [← HC.out, bs_size, ckL_length]
    have hsl : S.data.toList = allL h := by rw [← HN.out]; rfl
    have HD : Hid (∀ W, Calls Tryd.prog 11 #[.string S] W fun e w' => e = .returned (.tuple #[.int .i64 (N : Int), .int .i64 0]) ∧ Below W.heap.size W w') := by
      intro W
      have := Sum_any S W (by unfold maxLen; omega)
      rw [hsl, HV.out, HM.out] at this
      exact this
    have HQ : Hid (∀ W, Calls Tryd.prog 16 #[.int .i64 (N : Int)] W fun e w' => e = .returned (.string C) ∧ Below W.heap.size W w') := by
      intro W
      have := sumField_any N W hlt
      rw [HC.out] at this
      exact this
    have HX : Hid (F ++ C ++ K = (headW h).1) := by
      unfold Hid
      rw [HO.out, ← HFN.out, ← HC.out, ← HKN.out, ← HM.out, HS.out]
      show bs _ ++ bs _ ++ bs _ = bs _
      unfold bs
      rw [str_app, str_app, List.append_assoc]
    obtain ⟨FC, HFC⟩ : ∃ FC, FC = F ++ C := ⟨_, rfl⟩
    obtain ⟨R, HR⟩ : ∃ R, R = FC ++ K := ⟨_, rfl⟩
    have zFC : FC.size = 156 := by rw [HFC, ByteArray.size_append]; omega
    have p1 := add_to HFC.symm (by omega)
    have p2 := add_to HR.symm (by omega)
    have HRX : Hid (R = (headW h).1) := by unfold Hid; rw [HR, HFC]; exact HX.out
    have x1 := x1.out
    have x2 := x2.out
    clear HX HFC HR zFC
    clear hz hlen hlt hS hsl hfl hbl zF zK zC HF HK
    go_wp2_with fail
    refine HT.out.mono ?_; rintro e w3 ⟨rfl, hb3⟩
    rw [show (⟨(allL h).toArray⟩ : ByteArray) = S from HN.out]
    have HB3 := Lib.hid (HB2.out.trans hb3)
    clear hb3
    go_wp2_with fail
    refine (HD.out _).mono ?_; rintro e w4 ⟨rfl, hb4⟩
    have HB4 := Lib.hid (HB3.out.trans (hb4.mono HB3.out.size))
    clear hb4
    go_wp2_with fail
    go_region_with (go_at_call 16; refine (HQ.out _).mono ?_; rintro e w5 ⟨rfl, hb5⟩)
    all_goals
      go_wp2_with fail
      go_ret2
      exact ⟨ret_strint2 HRX.out (by rw [HO.out]), (Below.drew HB4.out).trans (Below.mono hb5 (show w.heap.size ≤ w4.drew.heap.size from HB4.out.size))⟩
  · have hb : (E != 0) = true := by simpa using h0
    have HO := Lib.hid (headW_no (h := h) (by rw [HE.out]; exact h0))
    clear h0
    go_wp2_with fail
    go_quiet (fail)
    go_wp2_with fail
    go_ret2
    exact ⟨ret_strint2 (by rw [HO.out]) (by rw [HO.out]; exact HE.out.symm), below_drewN HB2.out _⟩
theorem hWrite_any (h : HeadV) (w : World)
    (hn : h.name.length ≤ 140737488351232) (hp : h.pre.length ≤ 140737488351232) (hk : h.link.length ≤ 140737488351232) (hu : h.user.length ≤ 140737488351232) (hg : h.group.length ≤ 140737488351232) :
    Calls Tryd.prog 7 #[.agg (headC h)] w fun e w' => e = .returned (.tuple #[.string (headW h).1, .int .i64 (headW h).2]) ∧ Below w.heap.size w w' := by
  cases ht : typB h.typ
  · have e := headE_kind ht
    rw [headW_no (by rw [e]; decide), e]
    exact hWrite_kind h w ht
  · exact hWrite_in h w ht hn hp hk hu hg
end Go.Proofs.YtjklgadigcobcaaDoor
