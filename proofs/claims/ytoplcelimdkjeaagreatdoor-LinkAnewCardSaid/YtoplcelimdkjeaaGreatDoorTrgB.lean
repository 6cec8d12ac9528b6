/- Finding by a closure: slices.IndexFunc, slices.ContainsFunc, tree.Find. -/
import Derived.Test.YtoplcelimdkjeaaGreatDoorNodE
import Derived.Test.YtoplcelimdkjeaaGreatDoorNodD
import Derived.Test.YtoplcelimdkjeaaGreatDoorPthA
import Derived.Deep.DeepCutAuto
set_option linter.unusedVariables false
set_option maxRecDepth 100000
namespace Go.Proofs.YtoplcelimdkjeaaGreatDoor
open Go.RowKit
open Go.OpenShut
theorem idx_stop {P : NodeV → Bool} {l : List NodeV} {k : Nat} (hk : k < l.length) (h : k ≤ l.findIdx P) (hp : P l[k] = true) : l.findIdx P = k := by
  rcases Nat.lt_or_eq_of_le h with h' | h'
  · exact absurd hp (by simpa using List.not_of_lt_findIdx h')
  · exact h'.symm
theorem idx_step {P : NodeV → Bool} {l : List NodeV} {k : Nat} (hk : k < l.length) (h : k ≤ l.findIdx P) (hp : P l[k] = false) : k + 1 ≤ l.findIdx P := by
  rcases Nat.lt_or_eq_of_le h with h' | h'
  · exact h'
  · have h1 : l.findIdx P < l.length := by omega
    have := List.findIdx_getElem (w := h1)
    simp only [← h'] at this
    rw [hp] at this; cases this
theorem idx_le (P : NodeV → Bool) (l : List NodeV) : l.findIdx P ≤ l.length := List.findIdx_le_length
/-- the place of the first, or -1 -/
def idxI (P : NodeV → Bool) (l : List NodeV) : Int := if l.findIdx P < l.length then (l.findIdx P : Int) else -1
theorem idxI_yes {P : NodeV → Bool} {l : List NodeV} (h : l.findIdx P < l.length) : idxI P l = (l.findIdx P : Nat) := if_pos h
theorem idxI_no {P : NodeV → Bool} {l : List NodeV} (h : l.findIdx P = l.length) : idxI P l = -1 := if_neg (by omega)
theorem idxI_any (P : NodeV → Bool) (l : List NodeV) : decide (0 ≤ idxI P l) = l.any P := by
  unfold idxI
  rw [Bool.eq_iff_iff, decide_eq_true_eq, List.any_eq_true, ← List.findIdx_lt_length]
  split
  · rename_i h; exact ⟨fun _ => h, fun _ => by omega⟩
  · rename_i h; exact ⟨fun e => absurd e (by omega), fun e => absurd e h⟩
theorem findL_idx (l : List NodeV) (s : List UInt8) : findL l s = l.findIdx fun n => decide (n.path = s) := by
  induction l with
  | nil => rfl
  | cons a l ih =>
    rw [List.findIdx_cons]
    unfold findL at *
    rw [List.takeWhile_cons]
    by_cases e : a.path = s
    · simp [e]
    · simp [e, ih]
set_option maxHeartbeats 2000000 in
theorem IndexFunc_any (f : Nat) (p : Value) (P : NodeV → Bool) (I : World → Prop) (hI : ∀ W W', I W → Below W.heap.size W W' → I W')
    (hf : ∀ (x : NodeV) (D : Option Addr) (c : Nat) (W : World), I W → x.sz → Calls Tryz.prog f #[.agg (nodC x D c).toArray, p] W fun e w' => e = .returned (.bool (P x)) ∧ Below W.heap.size W w')
    (ef : ∀ args w, (callFunc f args).run Tryz.prog w = .ok (.enter f args) w)
    (A : Option Addr) (n c : Nat) (l : List NodeV) (hn : l.length = n) (hm : n ≤ 140737488355328) (hsz : ∀ x ∈ l, x.sz) (w : World) (hw : I w) (hA : NodesAt w A l) :
    Calls Tryz.prog 10 #[.slice A n c, .func (.func f) #[] #[p]] w fun e w' => e = .returned (.int .i64 (idxI P l)) ∧ Below w.heap.size w w' := by
  have HN := Lib.hid hn
  have HA := Lib.hid hA
  have HF := Lib.hid hf
  have HI := Lib.hid hI
  have HW := Lib.hid hw
  have HSZ := Lib.hid hsz
  clear hn hA hf hI hw hsz
  go_enter Tryz.func10, Tryz.ntmps10
  go_wp2_with fail
  go_loopw [8] (fun i wr => ∃ k : Nat, k ≤ n ∧ i = .int .i64 k ∧ Hid (k ≤ l.findIdx P) ∧ Hid (Below w.heap.size w wr)) (fun i _ => n - (intOf i).toNat)
  case atStart => exact ⟨0, Nat.zero_le _, rfl, Nat.zero_le _, Below.refl _ _⟩
  case round =>
    obtain ⟨k, hk, rfl, HK, HB⟩ := hrel
    by_cases hlt : k < n
    · have hk1 : k < l.length := by rw [HN.out]; exact hlt
      obtain ⟨b, o, D, cc, rfl, c0, c1, c2', c3, ⟨c4, c5, c6, c7, c8, c9, cA⟩, cB, -, hD⟩ := (HA.out.below HB.out).cells k hk1
      have HC := Lib.hid (HF.out l[k] D cc wr (HI.out _ _ HW.out HB.out) (HSZ.out _ (List.getElem_mem hk1)))
      have HS0 := Lib.hid fun h => idx_stop hk1 HK.out h
      have HS1 := Lib.hid fun h => idx_step hk1 HK.out h
      generalize hx : l[k] = x at *
      unfold nodC at HC
      clear hx hD
      obtain ⟨q, hq⟩ : ∃ q, q = P x := ⟨_, rfl⟩
      rw [← hq] at HC HS0 HS1
      clear hq
      cases q with
      | true =>
        have HV : Hid (idxI P l = (k : Nat)) := by
          have := HS0.out rfl
          unfold Hid; rw [idxI_yes (by omega), this]
        clear HS0 HS1
        go_wp2_with fail
        refine HC.out.mono ?_; rintro e w1 ⟨rfl, hb⟩
        have HB1 := Lib.hid (HB.out.trans (hb.mono HB.out.size))
        clear hb c0 c1 c2' c3 c4 c5 c6 c7 c8 c9 cA cB
        go_wp2_with fail
        go_ret
        exact ⟨ret_int (by rw [HV.out]), HB1.out⟩
      | false =>
        have HK1 := Lib.hid (HS1.out rfl)
        clear HS0 HS1
        go_wp2_with fail
        refine HC.out.mono ?_; rintro e w1 ⟨rfl, hb⟩
        have HB1 := Lib.hid (HB.out.trans (hb.mono HB.out.size))
        clear hb c0 c1 c2' c3 c4 c5 c6 c7 c8 c9 cA cB
        go_wp2_with fail
        go_roundw
        case rel => exact ⟨k + 1, by omega, by go_num, HK1, HB1⟩
        case measure => simp [intOf]; omega
    · obtain rfl : k = n := by omega
      have HV : Hid (idxI P l = -1) := by
        have := idx_le P l
        have h2 := HK.out
        have h3 := HN.out
        unfold Hid; exact idxI_no (by omega)
      go_wp2_with fail
      go_ret
      exact ⟨ret_int (by rw [HV.out]), HB.out⟩
theorem dirAt1_any (s : ByteArray) (b : Nat) (x : NodeV) (D : Option Addr) (c : Nat) (W : World) (hc : W.cell? ⟨b, 0, none⟩ = some (.string s)) :
    Calls Tryz.prog 84 #[.agg (nodC x D c).toArray, .pointer (some ⟨b, 0, none⟩)] W fun e w' => e = .returned (.bool (decide (x.path = s.data.toList) && decide (x.kind = 2))) ∧ Below W.heap.size W w' := by
  have q := bs_eq (a := x.path) (b := s.data.toList)
  rw [bs_of] at q
  obtain ⟨path, kind, same, target, ⟨m0, m1, m2, m3, m4, m5, m6⟩, data⟩ := x
  unfold nodC
  simp only at q ⊢
  obtain ⟨P, hP⟩ := hid_name (bs path)
  rw [hP.out] at q ⊢
  generalize decide (path = s.data.toList) = r at q ⊢
  have hlt : b < W.heap.size := World.block_lt_of_cell? W _ hc
  have hne : b ≠ W.heap.size := by omega
  have HW := Lib.hid fun o => belowA (Below.refl W.heap.size W) o
  have hc1 : ∀ o, (W.alloc o).cell? ⟨b, 0, none⟩ = some (.string s) := fun o => by rw [World.cell?_alloc_old _ _ _ (by show b ≠ _; omega)]; exact hc
  clear hP hlt
  cases r with
  | false =>
    go_enter Tryz.func84, Tryz.ntmps84
    go_wp2_with fail
    go_ret
    exact ⟨rfl, HW.out _⟩
  | true =>
    by_cases k : kind = 2
    · subst k
      go_enter Tryz.func84, Tryz.ntmps84
      go_wp2_with fail
      go_ret
      exact ⟨rfl, HW.out _⟩
    · rw [decide_eq_false k]
      have k2 : (kind == 2) = false := by simpa using k
      clear k
      go_enter Tryz.func84, Tryz.ntmps84
      go_wp2_with fail
      go_ret
      exact ⟨rfl, HW.out _⟩
theorem dirAtf_any (s : ByteArray) (w : World) : Calls Tryz.prog 61 #[.string s] w fun e w' => e = .returned (.func (.func 84) #[] #[.pointer (some ⟨w.heap.size, 0, none⟩)]) ∧ w' = w.alloc (.cells #[.string s] 9) := by
  go_enter Tryz.func61, Tryz.ntmps61
  go_wp2_with fail
  go_ret
  exact ⟨rfl, rfl⟩
theorem below_cell (b : Nat) (v : Value) : ∀ W W' : World, W.cell? ⟨b, 0, none⟩ = some v → Below W.heap.size W W' → W'.cell? ⟨b, 0, none⟩ = some v := fun W W' h hb =>
  (hb.cell (p := ⟨b, 0, none⟩) (World.block_lt_of_cell? W _ h)).trans h
theorem Contains_dir (s : ByteArray) (b : Nat) (A : Option Addr) (n c : Nat) (l : List NodeV) (hn : l.length = n) (hm : n ≤ 140737488355328) (hsz : ∀ x ∈ l, x.sz) (w : World) (hc : w.cell? ⟨b, 0, none⟩ = some (.string s)) (hA : NodesAt w A l) :
    Calls Tryz.prog 60 #[.slice A n c, .func (.func 84) #[] #[.pointer (some ⟨b, 0, none⟩)]] w fun e w' => e = .returned (.bool (l.any fun x => decide (x.path = s.data.toList) && decide (x.kind = 2))) ∧ Below w.heap.size w w' := by
  have HI := Lib.hid (IndexFunc_any 84 (.pointer (some ⟨b, 0, none⟩)) (fun x => decide (x.path = s.data.toList) && decide (x.kind = 2)) (fun W => W.cell? ⟨b, 0, none⟩ = some (.string s)) (below_cell b _) (fun x D c W h _ => dirAt1_any s b x D c W h) (enters_of Tryz.func84 (by kernel_rfl) rfl) A n c l hn hm hsz w hc hA)
  have HV := Lib.hid (idxI_any (fun x => decide (x.path = s.data.toList) && decide (x.kind = 2)) l)
  obtain ⟨r, hr⟩ : ∃ r, r = idxI (fun x => decide (x.path = s.data.toList) && decide (x.kind = 2)) l := ⟨_, rfl⟩
  rw [← hr] at HI HV
  clear hr hc hA hsz
  go_enter Tryz.func60, Tryz.ntmps60
  go_wp2_with fail
  refine HI.out.mono ?_; rintro e w1 ⟨rfl, hb⟩
  have HB := Lib.hid hb
  clear hb
  go_wp2_with fail
  go_ret
  exact ⟨ret_bool HV.out, HB.out⟩
end Go.Proofs.YtoplcelimdkjeaaGreatDoor
