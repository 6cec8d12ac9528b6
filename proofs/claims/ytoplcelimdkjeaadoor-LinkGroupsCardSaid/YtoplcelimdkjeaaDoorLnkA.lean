/- The reference's hard links: LinkFirsts, LinkNames. -/
import Derived.Test.YtoplcelimdkjeaaDoorMth
import Derived.Test.YtoplcelimdkjeaaDoorNms
import Derived.Test.YtoplcelimdkjeaaDoorNodH
import Derived.Test.YtoplcelimdkjeaaDoorTrgF
set_option linter.unusedVariables false
set_option maxRecDepth 100000
namespace Go.Proofs.YtoplcelimdkjeaaDoor
open Go.RowKit
open Go.OpenShut
/-- the first of each, the count of each -/
def fsL (l : List NodeV) : List Int := (List.range l.length).map fun i => ((firstF l i : Nat) : Int)
def nmL (l : List NodeV) : List Int := (List.range l.length).map fun i => ((namesF l i : Nat) : Int)
theorem fsL_len (l : List NodeV) : (fsL l).length = l.length := by unfold fsL; rw [List.length_map, List.length_range]
theorem nmL_len (l : List NodeV) : (nmL l).length = l.length := by unfold nmL; rw [List.length_map, List.length_range]
theorem range_snoc (f : Nat → Int) (k : Nat) : (List.range (k + 1)).map f = (List.range k).map f ++ [f k] := by rw [List.range_succ, List.map_append]; rfl
theorem range_mlen (f : Nat → Int) (k : Nat) : ((List.range k).map f).length = k := by rw [List.length_map, List.length_range]
/-- of the nodes i and k, what tells of hard links -/
theorem NodesAt.same2 {w : World} {A : Option Addr} {l : List NodeV} (h : NodesAt w A l) (i k : Nat) (hi : i < l.length) (hk : k < l.length) : ∃ b o, A = some ⟨b, o, none⟩ ∧ w.cell? ⟨b, o + i * 12 + 2, none⟩ = some (.int .i64 (sameAt l i)) ∧ w.cell? ⟨b, o + k * 12 + 2, none⟩ = some (.int .i64 (sameAt l k)) := by
  obtain ⟨b, o, D, c, e, h1, h2, h3, h4⟩ := h.cells2 i hi
  obtain ⟨b', o', D', c', e', h1', h2', h3', h4'⟩ := h.cells2 k hk
  subst e
  injection e' with e'
  injection e' with e1 e2
  subst e1 e2
  refine ⟨b, o, rfl, ?_, ?_⟩
  · rw [sameAt_at hi]; exact (h4 w (Below.refl _ _)).2.2.1
  · rw [sameAt_at hk]; exact (h4' w (Below.refl _ _)).2.2.1
theorem eqF_no {l : List NodeV} {k i : Nat} (h : sameAt l i = 0 ∨ sameAt l k ≠ sameAt l i) : eqF l k i = false := by
  unfold eqF
  exact decide_eq_false fun ⟨a, b⟩ => by rcases h with h | h; exact a h; exact h b
theorem eqF_yes {l : List NodeV} {k i : Nat} (h0 : sameAt l i ≠ 0) (h1 : sameAt l k = sameAt l i) : eqF l k i = true := decide_eq_true ⟨h0, h1⟩
theorem sound_path' {l : List NodeV} (h : treeE l = 0) : l.length ≤ 40 := ((treeE_zero l).1 h).1
set_option maxHeartbeats 4000000 in
theorem rFirsts_ok (A : Option Addr) (n c : Nat) (l : List NodeV) (hn : l.length = n) (hc : SlOk A n c) (hsz : ∀ x ∈ l, x.sz) (h40 : n ≤ 40) (w : World) (hA : NodesAt w A l) (ht : treeE l = 0) :
    Calls Tryd.prog 9 #[.slice A n c] w fun e w' => ∃ v, e = .returned (.tuple #[v, .int .i64 0]) ∧ OwnI w' w.heap.size v (fsL l) ∧ Below w.heap.size w w' := by
  have H1 := Lib.hid fun W (h : Below w.heap.size w W) => rTree_any A n c l hn hc hsz W (hA.below h)
  rw [ht] at H1
  have HN := Lib.hid hn
  have HA := Lib.hid hA
  clear hn hc hsz hA ht
  go_enter Tryd.func9, Tryd.ntmps9
  go_wp2_with fail
  refine (H1.out _ (Below.refl _ _)).mono ?_; rintro e x1 ⟨rfl, hb⟩
  have HB1 := Lib.hid hb
  clear hb
  go_wp2_with fail
  go_loopw [5, 6] (fun ov iv wr => ∃ i : Nat, i ≤ n ∧ iv = .int .i64 i ∧ Hid (OwnI wr w.heap.size ov ((List.range i).map fun j => ((firstF l j : Nat) : Int))) ∧ Hid (Below w.heap.size w wr)) (fun _ iv _ => n - (intOf iv).toNat)
  case atStart => exact ⟨0, Nat.zero_le _, rfl, OwnI.nil _ _, HB1.out⟩
  case round =>
    obtain ⟨i, hi, rfl, HR, HB⟩ := hrel
    by_cases hlt : i < n
    · have i1 : i < l.length := by rw [HN.out]; exact hlt
      go_wp2_with fail
      go_loopw [7] (fun kv wy => ∃ k : Nat, k ≤ i ∧ kv = .int .i64 k ∧ Hid (∀ j, j < k → eqF l j i = false) ∧ Hid (Below wr.heap.size wr wy)) (fun kv _ => i - (intOf kv).toNat)
      case atStart => exact ⟨0, Nat.zero_le _, rfl, fun j hj => absurd hj (Nat.not_lt_zero _), Below.refl _ _⟩
      case round =>
        obtain ⟨k, hk, rfl, HK, HY⟩ := hrel
        rename World => wy
        have k1 : k < l.length := by omega
        have HBy := Lib.hid (HB.out.trans (HY.out.mono HB.out.size))
        have HRy := Lib.hid (HR.out.below HY.out)
        obtain ⟨b, o, rfl, e1, e2⟩ := (HA.out.below HBy.out).same2 i k i1 k1
        have h1 : (k : Int) < (n : Int) := by omega
        have h2 : (0 : Int) ≤ (k : Int) := by omega
        have h3 : (i : Int) < (n : Int) := by omega
        have h4 : (0 : Int) ≤ (i : Int) := by omega
        by_cases hgo : k < i ∧ eqF l k i = false
        · have HK1 : Hid (∀ j, j < k + 1 → eqF l j i = false) := fun j hj => by
            rcases (by omega : j < k ∨ j = k) with h | rfl
            · exact HK.out j h
            · exact hgo.2
          have hki := hgo.1
          have hcase : sameAt l i = 0 ∨ (sameAt l i ≠ 0 ∧ sameAt l k ≠ sameAt l i) := by
            by_cases hz : sameAt l i = 0
            · exact .inl hz
            · refine .inr ⟨hz, fun he => ?_⟩
              rw [eqF_yes hz he] at hgo
              cases hgo.2
          generalize sameAt l i = si at e1 hcase
          generalize sameAt l k = sk at e2 hcase
          clear hgo
          rcases hcase with rfl | ⟨hz, hne⟩
          · go_upto_region 9 with fail
            go_quiet (fail)
            go_wp2_with fail
            go_roundw
            case rel => exact ⟨k + 1, by omega, by go_num, HK1.out, below_drewN HY.out _⟩
            case measure => simp [intOf]; omega
          · have hz1 : (si == 0) = false := by simpa using hz
            have hz2 : (sk != si) = true := by simpa using hne
            clear hz hne
            go_upto_region 9 with fail
            go_quiet (fail)
            go_wp2_with fail
            go_roundw
            case rel => exact ⟨k + 1, by omega, by go_num, HK1.out, below_drewN HY.out _⟩
            case measure => simp [intOf]; omega
        · have HF : Hid (firstF l i = k) := firstF_stop hk HK.out (by
            by_cases hki : k = i
            · exact .inl hki
            · refine .inr ?_
              cases he : eqF l k i with
              | true => rfl
              | false => exact absurd ⟨by omega, he⟩ hgo)
          have HR1 : Hid ((List.range i).map (fun j => ((firstF l j : Nat) : Int)) ++ [(k : Int)] = (List.range (i + 1)).map fun j => ((firstF l j : Nat) : Int)) := by
            unfold Hid
            rw [range_snoc, HF.out]
          have hcase : k = i ∨ (k < i ∧ sameAt l i ≠ 0 ∧ sameAt l k = sameAt l i) := by
            by_cases hki : k = i
            · exact .inl hki
            · refine .inr ⟨by omega, ?_⟩
              apply Classical.byContradiction
              intro hc
              refine hgo ⟨by omega, eqF_no ?_⟩
              by_cases hz : sameAt l i = 0
              · exact .inl hz
              · exact .inr fun he => hc ⟨hz, he⟩
          clear hgo HF
          generalize sameAt l i = si at e1 hcase
          generalize sameAt l k = sk at e2 hcase
          rcases hcase with rfl | ⟨hki, hz, rfl⟩
          all_goals
            go_upto_region 9 with fail
            go_quiet (fail)
            go_wp2_with (at_builtin; refine Stay.go ?_)
            refine Stay.on ?_
            refine append_int rfl (.tmp 45) (.tmp 47) rfl w.heap.size _ _ rfl (HRy.out.alloc _) wy.heap.size 1 (k : Int) rfl ((Blk.new _ 3 #[.int .i64 (k : Int)]).cell 0) (by rw [range_mlen]; omega) (by rw [hszA]; exact Nat.le_trans HBy.out.size (Nat.le_succ _)) ?_
            intro v7 w7 ho7 hg7
            rw [HR1.out] at ho7
            have HR7 := Lib.hid ho7
            have HB7 : Hid (Below w.heap.size w w7) := ((below_drewN HBy.out _).alloc HBy.out.size _).grown hg7 (by rw [hszA]; exact Nat.le_trans HBy.out.size (Nat.le_succ _)) fun g e => (World.ownsRow.lt HRy.out g e).1
            clear ho7 hg7 e1 e2 HR1
            go_wp2_with fail
            go_roundw
            case rel => exact ⟨_, by omega, by go_num, HR7.out, HB7.out⟩
            case measure => simp [intOf]; omega
    · obtain rfl : i = n := by omega
      have hR := HR.out
      rw [← HN.out] at hR
      have HV : Hid (OwnI wr w.heap.size u5 (fsL l)) := hR
      clear hR
      go_wp2_with fail
      refine bodyPost_ret (v := .tuple #[u5, .int .i64 0]) (by simp [results, Tryd.results9, go_sem, *]) rfl ?_
      exact ⟨_, rfl, HV.out, HB.out⟩
theorem rFirsts_any (A : Option Addr) (n c : Nat) (l : List NodeV) (hn : l.length = n) (hc : SlOk A n c) (hsz : ∀ x ∈ l, x.sz) (w : World) (hA : NodesAt w A l) :
    Calls Tryd.prog 9 #[.slice A n c] w fun e w' => ∃ v, e = .returned (.tuple #[v, .int .i64 (treeE l)]) ∧ OwnI w' w.heap.size v (if treeE l = 0 then fsL l else []) ∧ Below w.heap.size w w' := by
  by_cases ht : treeE l = 0
  · rw [if_pos ht, ht]
    have h40 := (sound_path' ht)
    exact rFirsts_ok A n c l hn hc hsz (by omega) w hA ht
  · rw [if_neg ht]
    have H1 := Lib.hid (rTree_any A n c l hn hc hsz w hA)
    obtain ⟨E, HEE⟩ := hid_name (treeE l)
    rw [HEE.out] at H1 ht ⊢
    have hne : (E == 0) = false := by simpa using ht
    clear hn hc hsz hA ht
    go_enter Tryd.func9, Tryd.ntmps9
    go_wp2_with fail
    refine H1.out.mono ?_; rintro e x1 ⟨rfl, hb⟩
    have HB1 := Lib.hid hb
    clear hb
    go_wp2_with fail
    refine bodyPost_ret (v := .tuple #[.slice none 0 0, .int .i64 E]) (by simp [results, Tryd.results9, go_sem, *]) rfl ?_
    exact ⟨_, rfl, OwnI.nil _ _, HB1.out⟩
set_option maxHeartbeats 4000000 in
theorem rNames_ok (A : Option Addr) (n c : Nat) (l : List NodeV) (hn : l.length = n) (hc : SlOk A n c) (hsz : ∀ x ∈ l, x.sz) (h40 : n ≤ 40) (w : World) (hA : NodesAt w A l) (ht : treeE l = 0) :
    Calls Tryd.prog 10 #[.slice A n c] w fun e w' => ∃ v, e = .returned (.tuple #[v, .int .i64 0]) ∧ OwnI w' w.heap.size v (nmL l) ∧ Below w.heap.size w w' := by
  have H1 := Lib.hid fun W (h : Below w.heap.size w W) => rTree_any A n c l hn hc hsz W (hA.below h)
  rw [ht] at H1
  have HN := Lib.hid hn
  have HA := Lib.hid hA
  clear hn hc hsz hA ht
  go_enter Tryd.func10, Tryd.ntmps10
  go_wp2_with fail
  refine (H1.out _ (Below.refl _ _)).mono ?_; rintro e x1 ⟨rfl, hb⟩
  have HB1 := Lib.hid hb
  clear hb
  go_wp2_with fail
  go_loopw [5, 6] (fun ov iv wr => ∃ i : Nat, i ≤ n ∧ iv = .int .i64 i ∧ Hid (OwnI wr w.heap.size ov ((List.range i).map fun j => ((namesF l j : Nat) : Int))) ∧ Hid (Below w.heap.size w wr)) (fun _ iv _ => n - (intOf iv).toNat)
  case atStart => exact ⟨0, Nat.zero_le _, rfl, OwnI.nil _ _, HB1.out⟩
  case round =>
    obtain ⟨i, hi, rfl, HR, HB⟩ := hrel
    by_cases hlt : i < n
    · have i1 : i < l.length := by rw [HN.out]; exact hlt
      go_wp2_with fail
      go_loopw [7, 8] (fun mv kv wy => ∃ m k : Nat, k ≤ n ∧ m ≤ k ∧ mv = .int .i64 m ∧ kv = .int .i64 k ∧ Hid ((List.range k).countP (isF l i) = m) ∧ Hid (Below wr.heap.size wr wy)) (fun _ kv _ => n - (intOf kv).toNat)
      case atStart => exact ⟨0, 0, Nat.zero_le _, Nat.le_refl _, rfl, rfl, rfl, Below.refl _ _⟩
      case round =>
        obtain ⟨m, k, hk, hm, rfl, rfl, HK, HY⟩ := hrel
        rename World => wy
        have HBy := Lib.hid (HB.out.trans (HY.out.mono HB.out.size))
        by_cases hlt2 : k < n
        · have k1 : k < l.length := by rw [HN.out]; exact hlt2
          obtain ⟨b, o, rfl, e1, e2⟩ := (HA.out.below HBy.out).same2 i k i1 k1
          have h1 : (k : Int) < (n : Int) := by omega
          have h2 : (0 : Int) ≤ (k : Int) := by omega
          have h3 : (i : Int) < (n : Int) := by omega
          have h4 : (0 : Int) ≤ (i : Int) := by omega
          by_cases hgo : isF l i k = true
          · have HK1 : Hid ((List.range (k + 1)).countP (isF l i) = m + 1) := by
              unfold Hid
              rw [List.range_succ, List.countP_append, HK.out, List.countP_singleton, if_pos hgo]
            have hcase : k = i ∨ (k ≠ i ∧ 0 < sameAt l i ∧ sameAt l k = sameAt l i) := by
              unfold isF at hgo
              by_cases hki : k = i
              · exact .inl hki
              · exact .inr ⟨hki, by simpa [hki] using hgo⟩
            generalize sameAt l i = si at e1 hcase
            generalize sameAt l k = sk at e2 hcase
            clear hgo
            rcases hcase with rfl | ⟨hki, hz, rfl⟩
            · go_upto_region 12 with fail
              go_quiet (fail)
              go_wp2_with fail
              go_roundw
              case rel => exact ⟨m + 1, k + 1, by omega, by omega, by go_num, by go_num, HK1.out, below_drewN HY.out _⟩
              case measure => simp [intOf]; omega
            · have hki1 : ((k : Int) == (i : Int)) = false := by simp; omega
              go_upto_region 12 with fail
              go_quiet (fail)
              go_wp2_with fail
              go_roundw
              case rel => exact ⟨m + 1, k + 1, by omega, by omega, by go_num, by go_num, HK1.out, below_drewN HY.out _⟩
              case measure => simp [intOf]; omega
          · have HK1 : Hid ((List.range (k + 1)).countP (isF l i) = m) := by
              unfold Hid
              rw [List.range_succ, List.countP_append, HK.out, List.countP_singleton, if_neg hgo]; rfl
            have hcase : k ≠ i ∧ (¬ 0 < sameAt l i ∨ (0 < sameAt l i ∧ sameAt l k ≠ sameAt l i)) := by
              unfold isF at hgo
              have hki : k ≠ i := fun h => hgo (by simp [h])
              refine ⟨hki, ?_⟩
              by_cases hz : 0 < sameAt l i
              · refine .inr ⟨hz, fun he => hgo (by simp [hz, he])⟩
              · exact .inl hz
            obtain ⟨hki, hcase⟩ := hcase
            have hki1 : ((k : Int) == (i : Int)) = false := by simp; omega
            generalize sameAt l i = si at e1 hcase
            generalize sameAt l k = sk at e2 hcase
            clear hgo
            rcases hcase with hz | ⟨hz, hne⟩
            · go_upto_region 12 with fail
              go_quiet (fail)
              go_wp2_with fail
              go_roundw
              case rel => exact ⟨m, k + 1, by omega, by omega, rfl, by go_num, HK1.out, below_drewN HY.out _⟩
              case measure => simp [intOf]; omega
            · have hz2 : (sk == si) = false := by simpa using hne
              clear hne
              go_upto_region 12 with fail
              go_quiet (fail)
              go_wp2_with fail
              go_roundw
              case rel => exact ⟨m, k + 1, by omega, by omega, rfl, by go_num, HK1.out, below_drewN HY.out _⟩
              case measure => simp [intOf]; omega
        · obtain rfl : k = n := by omega
          have HRy := Lib.hid (HR.out.below HY.out)
          have HR1 : Hid ((List.range i).map (fun j => ((namesF l j : Nat) : Int)) ++ [(m : Int)] = (List.range (i + 1)).map fun j => ((namesF l j : Nat) : Int)) := by
            unfold Hid
            rw [range_snoc, show namesF l i = m by unfold namesF; rw [HN.out]; exact HK.out]
          go_wp2_with (at_builtin; refine Stay.go ?_)
          refine Stay.on ?_
          refine append_int rfl (.tmp 52) (.tmp 54) rfl w.heap.size _ _ rfl (HRy.out.alloc _) wy.heap.size 1 (m : Int) rfl ((Blk.new _ 3 #[.int .i64 (m : Int)]).cell 0) (by rw [range_mlen]; omega) (by rw [hszA]; exact Nat.le_trans HBy.out.size (Nat.le_succ _)) ?_
          intro v7 w7 ho7 hg7
          rw [HR1.out] at ho7
          have HR7 := Lib.hid ho7
          have HB7 : Hid (Below w.heap.size w w7) := (HBy.out.alloc HBy.out.size _).grown hg7 (by rw [hszA]; exact Nat.le_trans HBy.out.size (Nat.le_succ _)) fun g e => (World.ownsRow.lt HRy.out g e).1
          clear ho7 hg7 HR1
          go_wp2_with fail
          go_roundw
          case rel => exact ⟨_, by omega, by go_num, HR7.out, HB7.out⟩
          case measure => simp [intOf]; omega
    · obtain rfl : i = n := by omega
      have hR := HR.out
      rw [← HN.out] at hR
      have HV : Hid (OwnI wr w.heap.size u5 (nmL l)) := hR
      clear hR
      go_wp2_with fail
      refine bodyPost_ret (v := .tuple #[u5, .int .i64 0]) (by simp [results, Tryd.results10, go_sem, *]) rfl ?_
      exact ⟨_, rfl, HV.out, HB.out⟩
theorem rNames_any (A : Option Addr) (n c : Nat) (l : List NodeV) (hn : l.length = n) (hc : SlOk A n c) (hsz : ∀ x ∈ l, x.sz) (w : World) (hA : NodesAt w A l) :
    Calls Tryd.prog 10 #[.slice A n c] w fun e w' => ∃ v, e = .returned (.tuple #[v, .int .i64 (treeE l)]) ∧ OwnI w' w.heap.size v (if treeE l = 0 then nmL l else []) ∧ Below w.heap.size w w' := by
  by_cases ht : treeE l = 0
  · rw [if_pos ht, ht]
    have h40 := (sound_path' ht)
    exact rNames_ok A n c l hn hc hsz (by omega) w hA ht
  · rw [if_neg ht]
    have H1 := Lib.hid (rTree_any A n c l hn hc hsz w hA)
    obtain ⟨E, HEE⟩ := hid_name (treeE l)
    rw [HEE.out] at H1 ht ⊢
    have hne : (E == 0) = false := by simpa using ht
    clear hn hc hsz hA ht
    go_enter Tryd.func10, Tryd.ntmps10
    go_wp2_with fail
    refine H1.out.mono ?_; rintro e x1 ⟨rfl, hb⟩
    have HB1 := Lib.hid hb
    clear hb
    go_wp2_with fail
    refine bodyPost_ret (v := .tuple #[.slice none 0 0, .int .i64 E]) (by simp [results, Tryd.results10, go_sem, *]) rfl ?_
    exact ⟨_, rfl, OwnI.nil _ _, HB1.out⟩
end Go.Proofs.YtoplcelimdkjeaaDoor
