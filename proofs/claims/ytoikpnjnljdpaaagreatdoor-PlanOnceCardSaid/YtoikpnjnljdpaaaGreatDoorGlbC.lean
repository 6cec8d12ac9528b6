/- The signs of a part, as the reference reads them: the walk. -/
import Derived.Test.YtoikpnjnljdpaaaGreatDoorGlbB
set_option linter.unusedVariables false
set_option maxRecDepth 100000
namespace Go.Proofs.YtoikpnjnljdpaaaGreatDoor
open Go.RowKit
open Go.OpenShut
set_option maxHeartbeats 8000000 in
theorem tokens_any (s : ByteArray) (hs : s.size ≤ 1000000) (w : World) :
    Calls Tryz.prog 122 #[.string s] w fun e w' => ∃ v, e = .returned (.tuple #[v, .bool (tokL s.data.toList).isSome]) ∧ Toks w' w.heap.size v ((tokL s.data.toList).getD []) ∧ Below w.heap.size w w' := by
  have hzn := tokC_ne false fun _ => false
  have hZs := Lib.hid (tokC_size false fun _ => false)
  have hZt : Hid (∀ b, (tokC false fun _ => false).toList.set 0 (.bool b) = (tokC b fun _ => false).toList) := fun b => rfl
  have hz := zero_tok
  generalize (tokC false fun _ => false) = z at hzn hZs hZt hz
  have hlen : s.data.toList.length = s.size := by simp
  have HL := Lib.hid hlen
  clear hlen
  go_enter Tryz.func122, Tryz.ntmps122
  go_wp2_with fail
  go_loopw [4, 5] (fun ov iv wr => ∃ (i : Nat) (ts : List Tok), i ≤ s.size ∧ iv = .int .i64 i ∧ ts.length ≤ i ∧ Hid (Toks wr w.heap.size ov ts) ∧ Hid (tokL s.data.toList = (tokL (s.data.toList.drop i)).map fun us => ts ++ us) ∧ Hid (Below w.heap.size w wr)) (fun _ iv _ => s.size - (intOf iv).toNat)
  case atStart => exact ⟨0, [], Nat.zero_le _, rfl, Nat.le_refl _, Toks.nil _ _, by unfold Hid; rw [List.drop_zero]; simp, Below.refl _ _⟩
  case round =>
    obtain ⟨i, ts, hin, rfl, htl, HT, HI, HB⟩ := hrel
    obtain ⟨v0, hv0⟩ : ∃ v0, v0 = u4 := ⟨_, rfl⟩
    subst hv0
    by_cases hlt : i < s.size
    · have hst : ∀ b : Bool, Sem.run Tryz.prog (storeCells ⟨wr.heap.size, 0, none⟩ (z.toList.set 0 (.bool b))) (wr.alloc (.cells z 177)) = .ok () ((wr.alloc (.cells z 177)).setCells wr.heap.size 0 (tokC b fun _ => false).toList) := fun b => by
        rw [hZt.out b]
        exact (TokB.st (Blk.new wr 177 z) hZs.out Tryz.prog b fun _ => false).1
      have HTB : Hid (∀ b, TokB ((wr.alloc (.cells z 177)).setCells wr.heap.size 0 (tokC b fun _ => false).toList) wr.heap.size b fun _ => false) := fun b => (TokB.st (Blk.new wr 177 z) hZs.out Tryz.prog b fun _ => false).2
      have hD := drop_at s i hlt
      have HD := Lib.hid hD
      clear hD
      go_upto_region 5 with fail
      clear hst
      have HBl : Hid (∀ b, Below wr.heap.size wr ((wr.alloc (.cells z 177)).setCells wr.heap.size 0 (tokC b fun _ => false).toList)) := fun b => Below.many (Nat.le_refl _) _ _ _ ((Below.refl _ _).alloc (Nat.le_refl _) _)
      generalize hc : s[i] = c at HD ⊢
      have HB0 := HTB.out ((c.toNat : Int) == 42)
      have HW0 := Lib.hid (HBl.out ((c.toNat : Int) == 42))
      generalize ((wr.alloc (.cells z 177)).setCells wr.heap.size 0 (tokC ((c.toNat : Int) == 42) fun _ => false).toList) = wt at HB0 HW0 ⊢
      obtain ⟨g, hg⟩ : ∃ g, g = wr.heap.size := ⟨_, rfl⟩
      have HW : Hid (Below g wr wt) := by rw [hg]; exact HW0.out
      rw [← hg] at HB0 ⊢
      have HTk : Hid (TokB wt g (decide (c = 42)) fun _ => false) := by rw [← byte_eq c 42]; exact HB0
      have HG := Lib.hid hg
      clear HTB HBl HW0 HB0 hg
      have hcl : c.toNat < 256 := c.toNat_lt
      go_cut [26] (fun cv wx => cv = .int .u8 c.toNat ∧ wt = wx)
      case first =>
        go_wp2_with fail
        go_meet
        exact ⟨rfl, rfl⟩
      case rest =>
      obtain ⟨rfl, rfl⟩ := hcut
      rename_i hK
      refine hK _ _ ?_
      go_cut [5, 7, 8, 9, 10, 11, 12, 13, 14] from 15 to 144 (fun iv _ _ _ _ _ _ _ _ wx => ∃ (i2 : Nat) (t : Tok), i ≤ i2 ∧ i2 < s.size ∧ iv = .int .i64 i2 ∧ Hid (TokB wx g t.1 t.2) ∧ Hid (Below g wr wx) ∧ Hid (tokL (s.data.toList.drop i) = (tokL (s.data.toList.drop (i2 + 1))).map fun us => t :: us))
      case first =>
        by_cases h63 : c = 63
        · subst h63
          go_wp2_with fail
          go_loopw [7] (fun jv wx => ∃ j : Nat, j ≤ 256 ∧ jv = .int .i64 j ∧ Hid (TokB wx g false (fun x => decide (x.toNat < j))) ∧ Hid (Below g wr wx)) (fun jv _ => 256 - (intOf jv).toNat)
          case atStart => exact ⟨0, by omega, rfl, HTk.out.same (fun x => rfl), HW.out⟩
          case round =>
            obtain ⟨j, hj, rfl, HTj, HBj⟩ := hrel
            rename World => wx
            by_cases hj2 : j < 256
            · obtain ⟨hcell, hfro⟩ := HTj.out.at j hj2
              have HTn : Hid (TokB (wx.setCell ⟨g, 1 + j, none⟩ (.bool true)) g false fun x => decide (x.toNat < j + 1)) := HTj.out.put j true _ (fun x => by
                by_cases hx : x.toNat = j
                · rw [if_pos hx]; simp; omega
                · rw [if_neg hx]; congr 1; rw [eq_iff_iff]; omega)
              have HBn : Hid (Below g wr (wx.setCell ⟨g, 1 + j, none⟩ (.bool true))) := Below.set1 HBj.out (Nat.le_refl _) _ _
              clear HTj HBj HTk HW
              go_wp2_with fail
              go_roundw
              case rel => exact ⟨j + 1, by omega, by go_num, HTn.out, HBn.out⟩
              case measure => simp [intOf]; omega
            · obtain rfl : j = 256 := by omega
              have HTf : Hid (TokB wx g false fun _ => true) := HTj.out.same (fun x => by have := x.toNat_lt; simp; omega)
              clear HTj HTk HW
              go_wp2_with fail
              go_meet
              refine ⟨i, (false, fun _ => true), Nat.le_refl _, hlt, rfl, HTf.out, HBj.out, ?_⟩
              unfold Hid
              rw [HD.out, tokL_other _ _ (by decide)]
              rfl
        · by_cases h91 : c = 91
          · subst h91
            obtain ⟨i1, hi1⟩ : ∃ i1, i1 = i + 1 := ⟨_, rfl⟩
            have wi1 : IntKind.i64.wrap ((i : Int) + 1) = (i1 : Int) := by rw [IntKind.wrap_i64]; omega
            rw [← hi1] at HD
            obtain ⟨k0, hik0, hk0n, hk0, hP⟩ := setP_from s i1 (by omega)
            have hnA : ∀ h : i1 < s.size, notS (s.data.toList.drop i1) = decide (s[i1] = 33) := notS_at s i1
            have hnB := notS_no s i1
            generalize notS (s.data.toList.drop i1) = nt at hk0 hP hnA hnB
            have HNA := Lib.hid hnA
            have HNB := Lib.hid hnB
            have HK0 := Lib.hid hk0
            have HP := Lib.hid hP
            have hii : i < i1 := by omega
            have w1 : IntKind.i64.wrap ((i1 : Int) + 1) = ((i1 + 1 : Nat) : Int) := by rw [IntKind.wrap_i64]; omega
            clear hi1 hk0 hP hnA hnB
            go_upto_region 14 with fail
            go_cut [9] (fun nv wx => nv = .bool nt ∧ wt = wx)
            case first =>
              by_cases hk : i1 < s.size
              · have hn := HNA.out hk
                have e : ((s[i1].toNat : Int) == 33) = nt := by rw [hn]; exact byte_eq s[i1] 33
                go_wp2_with fail
                go_meet
                exact ⟨by rw [hn], rfl⟩
              · have hn := HNB.out hk
                subst hn
                go_wp2_with fail
                go_meet
                exact ⟨rfl, rfl⟩
            case rest =>
            obtain ⟨rfl, hwx⟩ := hcut
            subst hwx
            go_upto_if 55 with fail
            go_cut [8] (fun kv wx => kv = .int .i64 k0 ∧ wt = wx)
            case first =>
              cases nt with
              | false =>
                have h := HK0.out
                rw [if_neg (by decide)] at h
                subst h
                go_wp2_with fail
                go_meet
                exact ⟨rfl, rfl⟩
              | true =>
                have h := HK0.out
                rw [if_pos rfl] at h
                subst h
                go_wp2_with fail
                go_meet
                exact ⟨by go_num, rfl⟩
            case rest =>
            obtain ⟨rfl, hwx⟩ := hcut
            subst hwx
            go_wp2_with fail
            go_loopw [8] (fun kv wx => ∃ (k : Nat) (acc : UInt8 → Bool), k0 ≤ k ∧ k ≤ s.size ∧ kv = .int .i64 k ∧ Hid (TokB wx g false acc) ∧ Hid (Below g wr wx) ∧ Hid (setG true (fun _ => false) (s.data.toList.drop k0) = setG (decide (k = k0)) acc (s.data.toList.drop k))) (fun kv _ => s.size - (intOf kv).toNat)
            case atStart => exact ⟨k0, _, Nat.le_refl _, hk0n, rfl, HTk.out, HW.out, by unfold Hid; rw [decide_eq_true rfl]⟩
            case round =>
              obtain ⟨k, acc, hk0k, hkn, rfl, HTa, HBa, HSg⟩ := hrel
              rename World => wx
              clear HTk HW
              by_cases hlk : k < s.size
              · by_cases hgo : ¬(decide (k = k0) = false ∧ s[k] = 93)
                · have HGo := Lib.hid hgo
                  obtain ⟨ke, hi, hke, hken, hstep, hrA, hrB⟩ := setG_step s k hlk _ acc hgo
                  have hatA := rngB_at s k
                  have hatB := rngB_no s k
                  generalize rngB (s.data.toList.drop (k + 1)) = rg at hrA hrB hatA hatB
                  have HStep := Lib.hid hstep
                  have HRA := Lib.hid hrA
                  have HRB := Lib.hid hrB
                  have HAA := Lib.hid hatA
                  have HAB := Lib.hid hatB
                  clear hgo hstep hrA hrB hatA hatB
                  go_upto_region 18 with fail
                  go_cut [73] (fun bv wy => bv = .bool true ∧ wx = wy)
                  case first =>
                    by_cases hkk : k = k0
                    · have e0 : ((k : Int) == (k0 : Int)) = true := by rw [hkk]; simp
                      clear hkk
                      go_wp2_with fail
                      go_meet
                      exact ⟨rfl, rfl⟩
                    · have e0 : ((k : Int) == (k0 : Int)) = false := by simp; omega
                      have hne : s[k] ≠ 93 := fun h => HGo.out ⟨decide_eq_false hkk, h⟩
                      have e1 : ((s[k].toNat : Int) != 93) = true := by unfold bne; rw [show ((s[k].toNat : Int) == 93) = false from u8_not s[k] 93 hne]; rfl
                      clear hkk hne
                      go_wp2_with fail
                      go_meet
                      exact ⟨rfl, rfl⟩
                  case rest =>
                  obtain ⟨rfl, hwx⟩ := hcut
                  subst hwx
                  have w1k : IntKind.i64.wrap ((k : Int) + 1) = ((k + 1 : Nat) : Int) := by rw [IntKind.wrap_i64]; omega
                  have w2k : IntKind.i64.wrap ((k : Int) + 2) = ((k + 2 : Nat) : Int) := by rw [IntKind.wrap_i64]; omega
                  go_upto_region 21 with fail
                  go_cut [96] (fun bv wy => bv = .bool rg ∧ wx = wy)
                  case first =>
                    by_cases h2 : k + 2 < s.size
                    · have hr := HAA.out h2
                      have h2' : ((k : Int) + 2) < (s.size : Int) := by omega
                      have b1 : ((s[k + 1].toNat : Int) == 45) = decide (s[k + 1] = 45) := byte_eq s[k + 1] 45
                      have b2 : ((s[k + 2].toNat : Int) != 93) = !decide (s[k + 2] = 93) := by unfold bne; rw [show ((s[k + 2].toNat : Int) == 93) = decide (s[k + 2] = 93) from byte_eq s[k + 2] 93]
                      by_cases h45 : s[k + 1] = 45
                      · rw [decide_eq_true h45] at b1 hr
                        rw [Bool.true_and] at hr
                        rw [← hr] at b2
                        clear hr h45
                        go_wp2_with fail
                        go_meet
                        exact ⟨rfl, rfl⟩
                      · rw [decide_eq_false h45] at b1 hr
                        rw [Bool.false_and] at hr
                        subst hr
                        clear b2 h45
                        go_wp2_with fail
                        go_meet
                        exact ⟨rfl, rfl⟩
                    · have hr := HAB.out h2
                      subst hr
                      go_wp2_with fail
                      go_meet
                      exact ⟨rfl, rfl⟩
                  case rest =>
                  obtain ⟨rfl, hwx⟩ := hcut
                  subst hwx
                  obtain ⟨lo, hlo⟩ : ∃ lo, lo = s[k] := ⟨_, rfl⟩
                  rw [← hlo] at HStep HRB ⊢
                  clear hlo
                  go_upto_if 96 with fail
                  go_cut [8, 12] (fun kv hv wy => kv = .int .i64 ke ∧ hv = .int .u8 hi.toNat ∧ wx = wy)
                  case first =>
                    cases rg with
                    | true =>
                      obtain ⟨h, h2, hh⟩ := HRA.out rfl
                      subst h hh
                      go_wp2_with fail
                      go_meet
                      exact ⟨by go_num, rfl, rfl⟩
                    | false =>
                      obtain ⟨h, hh⟩ := HRB.out rfl
                      subst h hh
                      go_wp2_with fail
                      go_meet
                      exact ⟨rfl, rfl, rfl⟩
                  case rest =>
                  obtain ⟨rfl, rfl, hwx⟩ := hcut
                  subst hwx
                  clear HAA HAB HRA HRB
                  have hlo2 : lo.toNat < 256 := lo.toNat_lt
                  have hhi2 : hi.toNat < 256 := hi.toNat_lt
                  go_wp2_with fail
                  go_loopw [13] (fun jv wy => ∃ j : Nat, lo.toNat ≤ j ∧ j ≤ 256 ∧ (j ≤ hi.toNat + 1 ∨ j = lo.toNat) ∧ jv = .int .i64 j ∧ Hid (TokB wy g false (fun x => acc x || decide (lo.toNat ≤ x.toNat ∧ x.toNat < j))) ∧ Hid (Below g wr wy)) (fun jv _ => 256 - (intOf jv).toNat)
                  case atStart => exact ⟨lo.toNat, Nat.le_refl _, by omega, .inr rfl, rfl, HTa.out.same (fun x => by
                    rw [decide_eq_false (by omega), Bool.or_false]), HBa.out⟩
                  case round =>
                    obtain ⟨j, hlj, hj, hjj, rfl, HTj, HBj⟩ := hrel
                    rename World => wz
                    clear HTa HBa
                    by_cases hle : j ≤ hi.toNat
                    · have hj2 : j < 256 := by omega
                      have hle' : (j : Int) ≤ (hi.toNat : Int) := by omega
                      obtain ⟨hcell, hfro⟩ := HTj.out.at j hj2
                      have HTn : Hid (TokB (wz.setCell ⟨g, 1 + j, none⟩ (.bool true)) g false fun x => acc x || decide (lo.toNat ≤ x.toNat ∧ x.toNat < j + 1)) := HTj.out.put j true _ (fun x => by
                        by_cases hx : x.toNat = j
                        · rw [if_pos hx, decide_eq_true (by omega), Bool.or_true]
                        · rw [if_neg hx]
                          congr 2
                          rw [eq_iff_iff]; omega)
                      have HBn : Hid (Below g wr (wz.setCell ⟨g, 1 + j, none⟩ (.bool true))) := Below.set1 HBj.out (Nat.le_refl _) _ _
                      clear HTj HBj
                      go_wp2_with fail
                      go_roundw
                      case rel => exact ⟨j + 1, by omega, by omega, .inl (by omega), by go_num, HTn.out, HBn.out⟩
                      case measure => simp [intOf]; omega
                    · have hle' : ¬ (j : Int) ≤ (hi.toNat : Int) := by omega
                      have HTf : Hid (TokB wz g false fun x => acc x || span lo hi x) := HTj.out.same (fun x => by
                        unfold span
                        congr 2
                        rw [eq_iff_iff, UInt8.le_iff_toNat_le, UInt8.le_iff_toNat_le]; omega)
                      have wke : IntKind.i64.wrap ((ke : Int) + 1) = ((ke + 1 : Nat) : Int) := by rw [IntKind.wrap_i64]; omega
                      clear HTj
                      go_wp2_with fail
                      go_roundw
                      case rel => exact ⟨ke + 1, _, by omega, by omega, by go_num, HTf.out, HBj.out, by
                        unfold Hid
                        rw [HSg.out, HStep.out, decide_eq_false (by omega : ¬ ke + 1 = k0)]⟩
                      case measure => simp [intOf]; omega
                · -- the set's end
                  have hgo2 : decide (k = k0) = false ∧ s[k] = 93 := Classical.byContradiction hgo
                  have hkk : k ≠ k0 := of_decide_eq_false hgo2.1
                  have e0 : ((k : Int) == (k0 : Int)) = false := by simp; omega
                  have e1 : ((s[k].toNat : Int) != 93) = false := by unfold bne; rw [show ((s[k].toNat : Int) == 93) = true from u8_num s[k] 93 hgo2.2]; rfl
                  have hsg := HSg.out
                  rw [decide_eq_false hkk, drop_at s k hlk, hgo2.2, setG_end] at hsg
                  have hpp := HP.out
                  rw [hsg, Option.map_some] at hpp
                  have HT1 : Hid (tokL (s.data.toList.drop i) = (tokL (s.data.toList.drop (k + 1))).map fun us => (false, fun x => nt != acc x) :: us) := by
                    unfold Hid; rw [HD.out, tokL_set _ _ _ hpp]
                  clear hgo hgo2 hkk hsg hpp
                  cases nt with
                  | false =>
                    have HTf : Hid (TokB wx g false fun x => false != acc x) := HTa.out.same (fun x => by simp)
                    clear HTa
                    go_wp2_with fail
                    go_meet
                    exact ⟨k, (false, fun x => false != acc x), by omega, hlk, rfl, HTf.out, HBa.out, HT1.out⟩
                  | true =>
                    go_wp2_with fail
                    go_loopw [14] (fun jv wy => ∃ j : Nat, j ≤ 256 ∧ jv = .int .i64 j ∧ Hid (TokB wy g false (fun x => if x.toNat < j then !acc x else acc x)) ∧ Hid (Below g wr wy)) (fun jv _ => 256 - (intOf jv).toNat)
                    case atStart => exact ⟨0, by omega, rfl, HTa.out.same (fun x => by rw [if_neg (by omega)]), HBa.out⟩
                    case round =>
                      obtain ⟨j, hj, rfl, HTj, HBj⟩ := hrel
                      rename World => wz
                      clear HTa HBa
                      by_cases hj2 : j < 256
                      · obtain ⟨hcell, hfro⟩ := HTj.out.at j hj2
                        have HTn : Hid (TokB (wz.setCell ⟨g, 1 + j, none⟩ (.bool !(if (UInt8.ofNat j).toNat < j then !acc (UInt8.ofNat j) else acc (UInt8.ofNat j)))) g false fun x => if x.toNat < j + 1 then !acc x else acc x) := HTj.out.put j _ _ (fun x => by
                          by_cases hx : x.toNat = j
                          · have : UInt8.ofNat j = x := by rw [← hx]; simp
                            rw [if_pos hx, this, if_pos (by omega), if_neg (by omega)]
                          · rw [if_neg hx]
                            by_cases h3 : x.toNat < j
                            · rw [if_pos h3, if_pos (by omega)]
                            · rw [if_neg h3, if_neg (by omega)])
                        generalize (if (UInt8.ofNat j).toNat < j then !acc (UInt8.ofNat j) else acc (UInt8.ofNat j)) = ob at hcell HTn
                        have HBn : Hid (Below g wr (wz.setCell ⟨g, 1 + j, none⟩ (.bool !ob))) := Below.set1 HBj.out (Nat.le_refl _) _ _
                        clear HTj HBj
                        go_wp2_with fail
                        go_roundw
                        case rel => exact ⟨j + 1, by omega, by go_num, HTn.out, HBn.out⟩
                        case measure => simp [intOf]; omega
                      · obtain rfl : j = 256 := by omega
                        have HTf : Hid (TokB wz g false fun x => true != acc x) := HTj.out.same (fun x => by
                          rw [if_pos x.toNat_lt]; simp)
                        clear HTj
                        go_wp2_with fail
                        go_meet
                        exact ⟨k, (false, fun x => true != acc x), by omega, hlk, rfl, HTf.out, HBj.out, HT1.out⟩
              · obtain rfl : k = s.size := by omega
                have hsg := HSg.out
                rw [List.drop_eq_nil_of_le (i := s.size) (by rw [HL.out]; exact Nat.le_refl _), setG_nil] at hsg
                have hpp := HP.out
                rw [hsg, Option.map_none] at hpp
                have hI := HI.out
                rw [HD.out, tokL_none _ hpp, Option.map_none] at hI
                have HI2 := Lib.hid hI
                have HBw : Hid (Below w.heap.size w wx) := HB.out.trans (Below.mono (HG.out ▸ HBa.out) HB.out.size)
                clear hsg hpp hI
                go_wp2_with fail
                refine bodyPost_ret (v := .tuple #[.slice none 0 0, .bool false]) (by simp [results, Tryz.results122, go_sem, *]) rfl ?_
                exact ⟨_, by rw [HI2.out]; rfl, by rw [HI2.out]; exact Toks.nil _ _, HBw.out⟩
          · have e63 : ((c.toNat : Int) == 63) = false := u8_not c 63 h63
            have e91 : ((c.toNat : Int) == 91) = false := u8_not c 91 h91
            obtain ⟨hcell, hfro⟩ := HTk.out.at c.toNat hcl
            have HTn : Hid (TokB (wt.setCell ⟨g, 1 + c.toNat, none⟩ (.bool true)) g (decide (c = 42)) (span c c)) := HTk.out.put c.toNat true _ (fun x => by
              unfold span
              by_cases hx : x = c
              · subst hx; simp
              · have : x.toNat ≠ c.toNat := fun h => hx (UInt8.toNat_inj.1 h)
                rw [if_neg this]
                simp only [decide_eq_false_iff_not, UInt8.le_iff_toNat_le]; omega)
            have HBn : Hid (Below g wr (wt.setCell ⟨g, 1 + c.toNat, none⟩ (.bool true))) := Below.set1 HW.out (Nat.le_refl _) _ _
            clear HTk HW
            go_wp2_with fail
            go_meet
            refine ⟨i, (decide (c = 42), span c c), Nat.le_refl _, hlt, rfl, HTn.out, HBn.out, ?_⟩
            unfold Hid
            rw [HD.out, tokL_other _ _ h91]
            congr 1; funext us
            by_cases h42 : c = 42
            · subst h42; rfl
            · rw [if_neg h42, if_neg h63, decide_eq_false h42]
      case rest =>
      obtain ⟨i2, t, hi2, hlt2, rfl, HTx, HBx, HS⟩ := hcut
      rename World => wx
      go_wp2_with fail
      refine wp_load_mid 177 (.tmp 6) rfl g 0 rfl (tokC t.1 t.2).toList _ HTx.out.range Tryz.underlying177 rfl tok_size ?_
      rw [show (tokC t.1 t.2).toList.toArray = tokC t.1 t.2 from Array.toArray_toList]
      obtain ⟨ie, hie, hie0, hie1, hie2⟩ := info_parts tinfo
      go_wp2_with fail
      refine wp_buildSlice 152 177 1 #[(0, .tmp 140)] rfl (tokC t.1 t.2) ie _ Tryz.underlying152 hie hie0 (by rw [hie1]; decide) (by rw [hie1]; decide) (tok_parts t ie hie1 _ _ _ rfl) ?_
      have hA := Blk.new wx 177 (tokC t.1 t.2)
      have hw1 : w.heap.size ≤ wx.heap.size := Nat.le_trans HB.out.size (HG.out ▸ HBx.out).size
      go_wp2_with (at_builtin; refine append_toks rfl (.tmp 139) (.tmp 141) rfl w.heap.size v0 ts rfl ((HT.out.below (HG.out ▸ HBx.out)).below ((Below.refl _ _).alloc (Nat.le_refl _) _)) ⟨wx.heap.size, 0, none⟩ 1 t rfl (fun j u hu => by rw [Addr.add_lit, Nat.zero_add, hA.cell, hu]) (by omega) (Nat.le_trans hw1 ((Below.refl _ wx).alloc (Nat.le_refl _) _).size) ?_; intro v' w' hv' hg')
      have hBw := HB.out.trans (Below.mono (HG.out ▸ HBx.out) HB.out.size)
      have hBf := (hBw.alloc hw1 (.cells (tokC t.1 t.2) 177)).grown hg' (Nat.le_trans hw1 ((Below.refl _ wx).alloc (Nat.le_refl _) _).size) (fun k hk => (World.ownsRow.lt HT.out k hk).1)
      go_roundw
      case rel =>
        refine ⟨i2 + 1, ts ++ [t], by omega, by go_num, by rw [List.length_append, List.length_singleton]; omega, hv', ?_, hBf⟩
        unfold Hid
        rw [HI.out, HS.out, Option.map_map]
        congr 1; funext us; simp
      case measure => simp [intOf]; omega
    · obtain rfl : i = s.size := by omega
      have hI := HI.out
      rw [List.drop_eq_nil_of_le (by rw [HL.out]; exact Nat.le_refl _), tokL_nil, Option.map_some, List.append_nil] at hI
      have HI2 := Lib.hid hI
      clear hI HI
      go_wp2_with fail
      refine bodyPost_ret (v := .tuple #[v0, .bool true]) (by simp [results, Tryz.results122, go_sem, *]) rfl ?_
      exact ⟨v0, by rw [HI2.out]; rfl, by rw [HI2.out]; exact HT.out, HB.out⟩
end Go.Proofs.YtoikpnjnljdpaaaGreatDoor
