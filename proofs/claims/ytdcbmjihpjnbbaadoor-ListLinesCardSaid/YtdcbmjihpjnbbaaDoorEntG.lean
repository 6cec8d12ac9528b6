/- The reference's fault of a list of members. -/
import Derived.Test.YtdcbmjihpjnbbaaDoorEna
import Derived.Test.YtdcbmjihpjnbbaaDoorNod
set_option linter.unusedVariables false
set_option maxRecDepth 100000
namespace Go.Proofs.YtdcbmjihpjnbbaaDoor
open Go.RowKit
open Go.OpenShut
def entA (x : EntV) (D : Option Addr) (c : Nat) : Array Value := #[.string (bs x.path), .int .i64 x.kind, .string (bs x.target), .int .i64 x.md.mode, .int .i64 x.md.uid, .int .i64 x.md.gid, .string (bs x.md.user), .string (bs x.md.group), .int .i64 x.md.second, .int .i64 x.md.nano, .slice D x.data.length c]
/-- what stands ahead of the tests of a round: the member's box, all else below -/
def RdE (wr : World) (g : Nat) (x : EntV) (D : Option Addr) (c : Nat) (W : World) : Prop := Blk W g 30 (entA x D c) ∧ Below wr.heap.size wr W
theorem RdE.below {wr W W' : World} {g : Nat} {x : EntV} {D : Option Addr} {c : Nat} (h : RdE wr g x D c W) (hb : Below W.heap.size W W') : RdE wr g x D c W' := ⟨h.1.below hb h.1.lt, h.2.trans (hb.mono h.2.size)⟩
theorem RdE.drew {wr W : World} {g : Nat} {x : EntV} {D : Option Addr} {c : Nat} (h : RdE wr g x D c W) : RdE wr g x D c W.drew := ⟨h.1.drew_, h.2.drew⟩
theorem RdE.drewN {wr W : World} {g : Nat} {x : EntV} {D : Option Addr} {c : Nat} (h : RdE wr g x D c W) (q : Nat) : RdE wr g x D c (W.drewN q) := ⟨h.1.drewN q, below_drewN h.2 q⟩
def RdF (wr : World) (g : Nat) (x : EntV) (D : Option Addr) (c b q : Nat) (P : ByteArray) (W : World) : Prop := RdE wr g x D c W ∧ W.cell? ⟨b, q, none⟩ = some (.string P)
theorem RdF.below {wr W W' : World} {g : Nat} {x : EntV} {D : Option Addr} {c b q : Nat} {P : ByteArray} (h : RdF wr g x D c b q P W) (hb : Below W.heap.size W W') : RdF wr g x D c b q P W' :=
  ⟨h.1.below hb, (hb.cell (p := ⟨b, q, none⟩) (World.block_lt_of_cell? W _ h.2)).trans h.2⟩
theorem RdF.drew {wr W : World} {g : Nat} {x : EntV} {D : Option Addr} {c b q : Nat} {P : ByteArray} (h : RdF wr g x D c b q P W) : RdF wr g x D c b q P W.drew := ⟨h.1.drew, h.2⟩
theorem ents_good {t : List EntV} (h : ewalkE [] t = 0) : ∀ x ∈ t, entE x = 0 := fun x hx => by
  obtain ⟨j, hj, rfl⟩ := List.getElem_of_mem hx
  exact ((eatE_zero _ _).1 ((ewalkE_all t []).1 h j hj)).1
theorem pathE_len {p : List UInt8} (h : pathE p = 0) : p.length ≤ 400 := by
  unfold pathE at h
  split at h
  · exact absurd h (by decide)
  · omega
theorem eatE_node {t : List EntV} {n : EntV} (h : entE n ≠ 0) : eatE t n = entE n := if_pos h
theorem eatE_twice {t : List EntV} {n : EntV} (h : entE n = 0) (x : EntV) (hl : t.getLast? = some x) (h2 : pcmp x.path n.path ≠ -1) : eatE t n = 6 := by
  unfold eatE; rw [if_neg (by simp [h]), hl]; simp only; rw [if_pos (by simp [h2])]
theorem eatE_up {t : List EntV} {n : EntV} (h : entE n = 0) (hl : ∀ x, t.getLast? = some x → pcmp x.path n.path = -1) (hu : upE t n.path = false) : eatE t n = 10 := by
  unfold eatE
  rw [if_neg (by simp [h]), if_neg, if_pos hu]
  cases e : t.getLast? with
  | none => simp
  | some x => simp [hl x e]
theorem eatE_link {t : List EntV} {n : EntV} (h : entE n = 0) (hl : ∀ x, t.getLast? = some x → pcmp x.path n.path = -1) (hu : upE t n.path = true) (hk : aimE t n = false) : eatE t n = 11 := by
  unfold eatE
  rw [if_neg (by simp [h]), if_neg, if_neg (by simp [hu]), if_pos hk]
  cases e : t.getLast? with
  | none => simp
  | some x => simp [hl x e]
theorem elast_take (l : List EntV) (k : Nat) (hk : k < l.length) (x : EntV) : (l.take k).getLast? = some x ↔ ∃ h : 0 < k, l[k - 1] = x := by
  cases k with
  | zero => simp
  | succ k =>
    rw [List.take_succ_eq_append_getElem (by omega), List.getLast?_append]
    simp
set_option maxHeartbeats 8000000 in
theorem rEnts_any (A : Option Addr) (n c : Nat) (l : List EntV) (hn : l.length = n) (hc : SlOk A n c) (hsz : ∀ x ∈ l, x.sz) (w : World) (hA : EntsAt w A l) :
    Calls Tryd.prog 35 #[.slice A n c] w fun e w' => e = .returned (.int .i64 (entsE l)) ∧ Below w.heap.size w w' := by
  have HN := Lib.hid hn
  have HA := Lib.hid hA
  have HSZ := Lib.hid hsz
  have hcap := hc.1
  have hmx := hc.2.1
  unfold maxLen at hmx
  clear hn hA hsz hc
  by_cases h40 : 40 < n
  · have HV : Hid (entsE l = 1) := by unfold Hid entsE; rw [HN.out, if_pos h40]
    go_enter Tryd.func35, Tryd.ntmps35
    go_wp2_with fail
    go_ret
    exact ⟨ret_int (by rw [HV.out]), Below.refl _ _⟩
  · have HT : Hid (entsE l = ewalkE [] l) := by unfold Hid entsE; rw [HN.out, if_neg h40]
    have h41 : n ≤ 40 := by omega
    go_enter Tryd.func35, Tryd.ntmps35
    go_wp2_with fail
    go_loopw [15] (fun i wr => ∃ k : Nat, k ≤ n ∧ i = .int .i64 k ∧ Hid (ewalkE [] (l.take k) = 0) ∧ Hid (Below w.heap.size w wr)) (fun i _ => n - (intOf i).toNat)
    case atStart => exact ⟨0, Nat.zero_le _, rfl, by unfold Hid; rw [List.take_zero]; rfl, Below.refl _ _⟩
    case round =>
      obtain ⟨k, hk, rfl, HW, HB⟩ := hrel
      by_cases hlt : k < n
      · have hk1 : k < l.length := by rw [HN.out]; exact hlt
        obtain ⟨b, o, D, cc, rfl, c0, c1, c3, ⟨c4, c5, c6, c7, c8, c9, cA⟩, cB, -, -⟩ := (HA.out.below HB.out).cells k hk1
        have hb1 : b < wr.heap.size := World.block_lt_of_cell? wr _ c0
        have hxsz := HSZ.out _ (List.getElem_mem hk1)
        have HST := Lib.hid fun he => ewalkE_stop l k hk1 HW.out he
        have HSP := Lib.hid fun he => ewalkE_step l k hk1 HW.out he
        generalize hx : l[k] = x at *
        have HNd := Lib.hid fun W => rEnt_any x D cc hxsz W
        unfold entC at HNd
        have hps : (bs x.path).size ≤ 140737488351232 := by rw [bs_size]; exact hxsz.1.1
        clear hxsz
        go_upto_region 6 with fail
        have HBl := Lib.hid (Blk.new wr 30 (entA x D cc))
        have HBa : Hid (Below wr.heap.size wr (wr.alloc (.cells (entA x D cc) 30))) := (Below.refl _ _).alloc (Nat.le_refl _) _
        unfold entA at HBl HBa
        generalize hwa : wr.alloc _ = wa at HBl HBa ⊢
        obtain ⟨⟨e0, e1, e3, e4, e5, e6, e7, e8, e9, eA, eB⟩, -⟩ := blk11 HBl.out
        clear hwa c0 c1 c3 c4 c5 c6 c7 c8 c9 cA cB
        by_cases hne : entE x = 0
        · rw [hne] at HNd
          go_wp2_with fail
          refine (HNd.out _).mono ?_; rintro e' w4 ⟨rfl, hb4⟩
          have HS4 : Hid (RdE wr wr.heap.size x D cc w4) := ⟨HBl.out.below hb4 HBl.out.lt, HBa.out.trans (hb4.mono HBa.out.size)⟩
          clear hb4 e0 e1 e3 e4 e5 e6 e7 e8 e9 eA eB
          go_upto_region 9 with fail
          obtain ⟨q, hq⟩ : ∃ q : Bool, q = (match (l.take k).getLast? with | some y => !decide (pcmp y.path x.path = -1) | none => false) := ⟨_, rfl⟩
          have HQ := Lib.hid hq
          clear hq
          go_cut [38] (fun s38 wx => s38 = .bool q ∧ RdE wr wr.heap.size x D cc wx)
          case first =>
            by_cases hk0 : 0 < k
            · have hd0 : decide (0 < k) = true := decide_eq_true hk0
              obtain ⟨k1, hk1'⟩ : ∃ k1, k1 = k - 1 := ⟨_, rfl⟩
              have hsub : IntKind.i64.wrap ((k : Int) - 1) = (k1 : Int) := by rw [IntKind.wrap_i64]; omega
              have hk2 : k1 < l.length := by omega
              obtain ⟨b', o', D', cc', e', f0, -⟩ := (HA.out.below (HB.out.trans (HS4.out.2.mono HB.out.size))).cells k1 hk2
              injection e' with e'
              injection e' with e1' e2' _
              subst e1' e2'
              have hlast : (l.take k).getLast? = some l[k1] := (elast_take l k (by omega) l[k1]).2 ⟨hk0, by simp only [hk1']⟩
              have hps2 : (bs l[k1].path).size ≤ 400 := by rw [bs_size]; exact pathE_len (entE_parts (ents_good HW.out _ (List.mem_take_iff_getElem.2 ⟨k1, by omega, rfl⟩))).1
              have hps3 : (bs x.path).size ≤ 400 := by rw [bs_size]; exact pathE_len (entE_parts hne).1
              have HO := Lib.hid fun W => rOrder_any (bs l[k1].path) (bs x.path) W
              rw [bs_list, bs_list] at HO
              have hq2 := HQ.out
              rw [hlast] at hq2
              simp only at hq2
              have hpb := pcmp_bd l[k1].path x.path
              obtain ⟨pc, hpc⟩ : ∃ pc, pc = pcmp l[k1].path x.path := ⟨_, rfl⟩
              rw [← hpc] at HO hq2 hpb
              have HQ2 : Hid (decide (0 ≤ pc) = q) := by
                unfold Hid; rw [hq2]
                rcases (show pc = -1 ∨ 0 ≤ pc by omega) with e | e
                · subst e; rfl
                · have e2 : pc ≠ -1 := by omega
                  simp [e, e2]
              obtain ⟨P, hP⟩ := hid_name (bs l[k1].path)
              obtain ⟨X, hX⟩ := hid_name (bs x.path)
              rw [hP.out, hX.out] at HO
              rw [hP.out] at f0 hps2
              rw [hX.out] at hps hps3
              have hS0 : RdF wr wr.heap.size x D cc b (o + k1 * 11) P w4 := ⟨HS4.out, f0⟩
              have r0 : ∀ W : World, RdF wr wr.heap.size x D cc b (o + k1 * 11) P W → W.cell? ⟨wr.heap.size, 0, none⟩ = some (.string X) := fun W h => by rw [← hX.out]; exact (blk11 h.1.1).1.1
              have r1 : ∀ W : World, RdF wr wr.heap.size x D cc b (o + k1 * 11) P W → W.cell? ⟨b, o + k1 * 11, none⟩ = some (.string P) := fun W h => h.2
              have hk1n : (k1 : Int) < (n : Int) := by omega
              have hk10 : (0 : Int) ≤ (k1 : Int) := by omega
              have HOr := Lib.hid fun W => HO.out W (by omega) (by omega)
              clear hq2 hlast hpc hpb hk1' f0 HO
              go_region_held3 (fun W => RdF wr wr.heap.size x D cc b (o + k1 * 11) P W)
                (first
                  | (with_reducible assumption)
                  | (with_reducible refine RdF.drew ?_; with_reducible assumption)
                  | (with_reducible exact RdF.below (by with_reducible assumption) (by with_reducible assumption)))
                (first
                  | (go_at_call 60; refine (HOr.out _).mono ?_; rintro e w5 ⟨rfl, hbO⟩))
              all_goals
                go_wp2_with fail
                go_meet
                exact ⟨by rw [HQ2.out], (RdF.below hS0.drew hbO).1⟩
            · have hd0 : decide (0 < k) = false := decide_eq_false hk0
              have hq2 := HQ.out
              have hk00 : k = 0 := by omega
              rw [show (l.take k).getLast? = none by rw [hk00]; simp] at hq2
              simp only at hq2
              subst hq2
              clear hk00
              go_quiet (fail)
              go_wp2_with fail
              go_meet
              exact ⟨rfl, HS4.out.drewN _⟩
          case rest =>
            obtain ⟨rfl, hSc⟩ := hcut
            have HSc := Lib.hid hSc
            clear hSc HS4
            cases q with
            | true =>
              have HV : Hid (entsE l = 6) := by
                unfold Hid
                have ha : eatE (l.take k) x = 6 := by
                  have h0 := HQ.out
                  cases e : (l.take k).getLast? with
                  | none => rw [e] at h0; cases h0
                  | some y => rw [e] at h0; exact eatE_twice hne y e (by simpa using h0)
                rw [HT.out, HST.out (by rw [ha]; decide), ha]
              go_wp2_with fail
              go_ret
              exact ⟨ret_int (by rw [HV.out]), HB.out.trans (HSc.out.2.mono HB.out.size)⟩
            | false =>
              have HL : Hid (∀ y, (l.take k).getLast? = some y → pcmp y.path x.path = -1) := fun y e => by
                have h0 := HQ.out
                rw [e] at h0
                simpa using h0.symm
              have hx4 := pathE_len (entE_parts hne).1
              have HPs := Lib.hid fun W => rSplit_any (bs x.path) W (by rw [bs_size]; omega)
              rw [bs_list] at HPs
              have HFd := Lib.hid fun W h => rEntAt_any (some ⟨b, o, none⟩) k c (l.take k) (upL x.path) (by rw [List.length_take]; omega) (by omega) W h
              unfold bs at HFd
              have hfl := findE_le (l.take k) (upL x.path)
              rw [List.length_take, Nat.min_eq_left (by omega)] at hfl
              obtain ⟨f, hf⟩ : ∃ f, f = findE (l.take k) (upL x.path) := ⟨_, rfl⟩
              rw [← hf] at HFd hfl
              have HU : Hid (upE (l.take k) x.path = (decide (upL x.path = []) || if hk : f < (l.take k).length then decide (((l.take k)[f]'hk).kind = 2) else false)) := by
                unfold Hid upE; subst hf; rfl
              clear hf
              obtain ⟨X, hX⟩ := hid_name (bs x.path)
              rw [hX.out] at HPs
              obtain ⟨⟨c0, -⟩, -⟩ := blk11 HSc.out.1
              rw [hX.out] at c0
              go_upto_region 11 with fail
              go_wp2_with fail
              refine (HPs.out _).mono ?_; rintro e' w5 ⟨rfl, hb5⟩
              have HS5 := Lib.hid (HSc.out.below hb5)
              clear hb5 c0
              obtain ⟨U, hU⟩ := hid_name (⟨(upL x.path).toArray⟩ : ByteArray)
              rw [hU.out] at HFd
              rw [hU.out]
              have HAk := Lib.hid ((HA.out.below (HB.out.trans (HS5.out.2.mono HB.out.size))).take k)
              go_wp2_with fail
              refine (HFd.out _ HAk.out).mono ?_; rintro e' w6 ⟨rfl, rfl⟩
              go_upto_region 13 with fail
              obtain ⟨q2, hq2⟩ : ∃ q2 : Bool, upE (l.take k) x.path = !q2 := ⟨!upE (l.take k) x.path, by simp⟩
              have HQ2 := Lib.hid hq2
              rw [hq2] at HU
              clear hq2
              go_cut [64] (fun s64 wx => s64 = .bool q2 ∧ wx = w5)
              case first =>
                by_cases hu0 : upL x.path = []
                · have hu1 := HU.out
                  rw [decide_eq_true hu0, Bool.true_or] at hu1
                  obtain rfl : q2 = false := by revert hu1; cases q2 <;> decide
                  obtain rfl : U = ⟨#[]⟩ := by rw [← hU.out, hu0]
                  clear hu1 hu0
                  go_wp2_with fail
                  go_meet
                  exact ⟨rfl, rfl⟩
                · have hu1 := HU.out
                  rw [decide_eq_false hu0, Bool.false_or] at hu1
                  have hun : ¬ U.toList = [] := fun e => hu0 (by rw [← hU.out, ByteArray.toList_eq] at e; exact e)
                  have hun2 : (U.toList == []) = false := by simpa using hun
                  by_cases hfk : f = k
                  · rw [dif_neg (by rw [List.length_take]; omega)] at hu1
                    obtain rfl : q2 = true := by revert hu1; cases q2 <;> decide
                    have hfk2 : ((f : Int) == (k : Int)) = true := by simp [hfk]
                    clear hu1 hu0 hfk
                    go_wp2_with fail
                    go_meet
                    exact ⟨rfl, rfl⟩
                  · have hfk2 : ((f : Int) == (k : Int)) = false := by simp; omega
                    have hfl2 : f < (l.take k).length := by rw [List.length_take]; omega
                    have hfln : f < n := by omega
                    rw [dif_pos hfl2] at hu1
                    obtain ⟨b', o', D', cc', e', -, f1, -⟩ := HAk.out.cells f hfl2
                    injection e' with e'
                    injection e' with e1' e2' _
                    subst e1' e2'
                    generalize (l.take k)[f].kind = kd at f1 hu1
                    clear hfk hu0
                    by_cases hkd : kd = 2
                    · rw [decide_eq_true hkd] at hu1
                      obtain rfl : q2 = false := by revert hu1; cases q2 <;> decide
                      subst hkd
                      clear hu1
                      go_wp2_with fail
                      go_meet
                      exact ⟨rfl, rfl⟩
                    · rw [decide_eq_false hkd] at hu1
                      obtain rfl : q2 = true := by revert hu1; cases q2 <;> decide
                      have hkd2 : (kd != 2) = true := by simpa using hkd
                      clear hu1 hkd
                      go_wp2_with fail
                      go_meet
                      exact ⟨rfl, rfl⟩
              case rest =>
                obtain ⟨rfl, rfl⟩ := hcut
                cases q2 with
                | true =>
                  have HV : Hid (entsE l = 10) := by
                    unfold Hid
                    have ha : eatE (l.take k) x = 10 := eatE_up hne HL.out (by rw [HQ2.out]; rfl)
                    rw [HT.out, HST.out (by rw [ha]; decide), ha]
                  go_wp2_with fail
                  go_ret
                  exact ⟨ret_int (by rw [HV.out]), HB.out.trans (HS5.out.2.mono HB.out.size)⟩
                | false =>
                  have HUp : Hid (upE (l.take k) x.path = true) := by unfold Hid; rw [HQ2.out]; rfl
                  clear HFd HU HQ2 hfl hU
                  have HFd := Lib.hid fun W h => rEntAt_any (some ⟨b, o, none⟩) k c (l.take k) x.target (by rw [List.length_take]; omega) (by omega) W h
                  have hfl := findE_le (l.take k) x.target
                  rw [List.length_take, Nat.min_eq_left (by omega)] at hfl
                  obtain ⟨f2, hf⟩ : ∃ f2, f2 = findE (l.take k) x.target := ⟨_, rfl⟩
                  rw [← hf] at HFd hfl
                  have HU : Hid (aimE (l.take k) x = (decide (x.kind ≠ 4) || if hk : f2 < (l.take k).length then decide (((l.take k)[f2]'hk).kind = 1) && decide (((l.take k)[f2]'hk).md = x.md) else false)) := by
                    unfold Hid aimE; subst hf; rfl
                  clear hf
                  obtain ⟨Tg, hTg⟩ := hid_name (bs x.target)
                  rw [hTg.out] at HFd
                  obtain ⟨⟨-, -, c2, -⟩, -⟩ := blk11 HS5.out.1
                  rw [hTg.out] at c2
                  go_upto_region 15 with fail
                  go_cut [9] (fun s9 wx => s9 = .int .i64 (f2 : Int) ∧ RdE wr wr.heap.size x D cc wx)
                  case first =>
                    go_quiet ((go_at_call 62; exact Calls.quiet_of_same (flip_same (HFd.out _ HAk.out))))
                    go_wp2_with fail
                    go_meet
                    exact ⟨rfl, HS5.out.drewN _⟩
                  case rest =>
                    obtain ⟨rfl, hSd⟩ := hcut
                    have HSd := Lib.hid hSd
                    clear hSd HS5 c2
                    have HAm := Lib.hid ((HA.out.below (HB.out.trans (HSd.out.2.mono HB.out.size))).take k)
                    obtain ⟨q3, hq3⟩ : ∃ q3 : Bool, aimE (l.take k) x = !q3 := ⟨!aimE (l.take k) x, by simp⟩
                    have HQ3 := Lib.hid hq3
                    rw [hq3] at HU
                    clear hq3 HAk
                    obtain ⟨⟨c0, c1, c2, c4, c5, c6, c7, c8, c9, cA, cB⟩, -⟩ := blk11 HSd.out.1
                    go_upto_region 16 with fail
                    go_cut [96] (fun s96 wx => s96 = .bool q3 ∧ RdE wr wr.heap.size x D cc wx)
                    case first =>
                      by_cases hk4 : x.kind = 4
                      · have hu1 := HU.out
                        rw [decide_eq_false (by simp [hk4]), Bool.false_or] at hu1
                        have hk4b : (x.kind == 4) = true := by simp [hk4]
                        by_cases hfk : f2 = k
                        · rw [dif_neg (by rw [List.length_take]; omega)] at hu1
                          obtain rfl : q3 = true := by revert hu1; cases q3 <;> decide
                          have hfk2 : ((f2 : Int) == (k : Int)) = true := by simp [hfk]
                          clear hu1 hfk hk4
                          go_quiet (fail)
                          go_wp2_with fail
                          go_meet
                          exact ⟨rfl, HSd.out.drewN _⟩
                        · have hfk2 : ((f2 : Int) == (k : Int)) = false := by simp; omega
                          have hfl2 : f2 < (l.take k).length := by rw [List.length_take]; omega
                          have hfln : f2 < n := by omega
                          rw [dif_pos hfl2] at hu1
                          obtain ⟨b', o', D', cc', e', -, f1, -, ⟨g4, g5, g6, g7, g8, g9, gA⟩, -⟩ := HAm.out.cells f2 hfl2
                          injection e' with e'
                          injection e' with e1' e2' _
                          subst e1' e2'
                          generalize (l.take k)[f2] = y at f1 hu1 g4 g5 g6 g7 g8 g9 gA
                          clear hfk hk4
                          by_cases hkd : y.kind = 1
                          · rw [decide_eq_true hkd, Bool.true_and] at hu1
                            rw [hkd] at f1
                            have hq := meta_neq y.md x.md
                            unfold metB at hq
                            rw [← hu1] at hq
                            unfold metA at hq
                            simp only [Bool.not_not] at hq
                            clear hu1 hkd
                            go_quiet (fail)
                            go_wp2_with fail
                            go_meet
                            exact ⟨rfl, HSd.out.drewN _⟩
                          · rw [decide_eq_false hkd, Bool.false_and] at hu1
                            obtain rfl : q3 = true := by revert hu1; cases q3 <;> decide
                            have hkd2 : (y.kind != 1) = true := by simpa using hkd
                            clear hu1 hkd
                            go_quiet (fail)
                            go_wp2_with fail
                            go_meet
                            exact ⟨rfl, HSd.out.drewN _⟩
                      · have hu1 := HU.out
                        rw [decide_eq_true hk4, Bool.true_or] at hu1
                        obtain rfl : q3 = false := by revert hu1; cases q3 <;> decide
                        have hk4b : (x.kind == 4) = false := by simpa using hk4
                        clear hu1 hk4
                        go_quiet (fail)
                        go_wp2_with fail
                        go_meet
                        exact ⟨rfl, HSd.out.drewN _⟩
                    case rest =>
                      obtain ⟨rfl, hSf⟩ := hcut
                      have HSf := Lib.hid hSf
                      clear hSf HSd c0 c1 c2 c4 c5 c6 c7 c8 c9 cA cB
                      cases q3 with
                      | true =>
                        have HV : Hid (entsE l = 11) := by
                          unfold Hid
                          have ha : eatE (l.take k) x = 11 := eatE_link hne HL.out HUp.out (by rw [HQ3.out]; rfl)
                          rw [HT.out, HST.out (by rw [ha]; decide), ha]
                        go_wp2_with fail
                        go_ret
                        exact ⟨ret_int (by rw [HV.out]), HB.out.trans (HSf.out.2.mono HB.out.size)⟩
                      | false =>
                        have HV : Hid (ewalkE [] (l.take (k + 1)) = 0) := HSP.out ((eatE_zero _ _).2 ⟨hne, HL.out, HUp.out, by rw [HQ3.out]; rfl⟩)
                        go_wp2_with fail
                        go_roundw
                        case rel => exact ⟨k + 1, by omega, by go_num, HV, HB.out.trans (HSf.out.2.mono HB.out.size)⟩
                        case measure => simp [intOf]; omega
        · have hne2 : (entE x != 0) = true := by simpa using hne
          have HV : Hid (entsE l = entE x) := by
            unfold Hid
            have ha := eatE_node (t := l.take k) hne
            rw [HT.out, HST.out (by rw [ha]; exact hne), ha]
          generalize entE x = ex at *
          clear hne
          go_wp2_with fail
          refine (HNd.out _).mono ?_; rintro e' w4 ⟨rfl, hb4⟩
          have HB4 := Lib.hid (HB.out.trans ((HBa.out.trans (hb4.mono HBa.out.size)).mono HB.out.size))
          clear hb4 e0 e1 e3 e4 e5 e6 e7 e8 e9 eA eB
          go_wp2_with fail
          go_ret
          exact ⟨ret_int (by rw [HV.out]), HB4.out⟩
      · obtain rfl : k = n := by omega
        have HV : Hid (entsE l = 0) := by
          have := HW.out
          rw [List.take_of_length_le (by rw [HN.out]; omega)] at this
          unfold Hid; rw [HT.out, this]
        go_wp2_with fail
        go_ret
        exact ⟨ret_int (by rw [HV.out]), HB.out⟩
end Go.Proofs.YtdcbmjihpjnbbaaDoor
