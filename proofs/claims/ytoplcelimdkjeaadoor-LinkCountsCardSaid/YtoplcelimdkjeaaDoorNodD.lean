/- The reference's finding. -/
import Derived.Test.YtoplcelimdkjeaaDoorNodC
set_option linter.unusedVariables false
set_option maxRecDepth 100000
namespace Go.Proofs.YtoplcelimdkjeaaDoor
open Go.RowKit
open Go.OpenShut
/-- the cells of the j-th node -/
theorem NodesAt.cells {w : World} {A : Option Addr} {l : List NodeV} (h : NodesAt w A l) (j : Nat) (hj : j < l.length) : ∃ (b o : Nat) (D : Option Addr) (c : Nat), A = some ⟨b, o, none⟩ ∧
    w.cell? ⟨b, o + j * 12, none⟩ = some (.string (bs l[j].path)) ∧ w.cell? ⟨b, o + j * 12 + 1, none⟩ = some (.int .i64 l[j].kind) ∧ w.cell? ⟨b, o + j * 12 + 2, none⟩ = some (.int .i64 l[j].same) ∧ w.cell? ⟨b, o + j * 12 + 3, none⟩ = some (.string (bs l[j].target)) ∧
    (w.cell? ⟨b, o + j * 12 + 4, none⟩ = some (.int .i64 l[j].md.mode) ∧ w.cell? ⟨b, o + j * 12 + 5, none⟩ = some (.int .i64 l[j].md.uid) ∧ w.cell? ⟨b, o + j * 12 + 6, none⟩ = some (.int .i64 l[j].md.gid) ∧ w.cell? ⟨b, o + j * 12 + 7, none⟩ = some (.string (bs l[j].md.user)) ∧ w.cell? ⟨b, o + j * 12 + 8, none⟩ = some (.string (bs l[j].md.group)) ∧ w.cell? ⟨b, o + j * 12 + 9, none⟩ = some (.int .i64 l[j].md.second) ∧ w.cell? ⟨b, o + j * 12 + 10, none⟩ = some (.int .i64 l[j].md.nano)) ∧
    w.cell? ⟨b, o + j * 12 + 11, none⟩ = some (.slice D l[j].data.length c) ∧ SlOk D l[j].data.length c ∧ BytsAt w D l[j].data := by
  obtain ⟨b, o, D, c, e, h12, hs, hd⟩ := h j hj
  exact ⟨b, o, D, c, e, h12 0 (by omega), h12 1 (by omega), h12 2 (by omega), h12 3 (by omega), ⟨h12 4 (by omega), h12 5 (by omega), h12 6 (by omega), h12 7 (by omega), h12 8 (by omega), h12 9 (by omega), h12 10 (by omega)⟩, h12 11 (by omega), hs, hd⟩
theorem NodesAt.take {w : World} {A : Option Addr} {l : List NodeV} (h : NodesAt w A l) (k : Nat) : NodesAt w A (l.take k) := fun j hj => by
  have hj' : j < l.length := by rw [List.length_take] at hj; omega
  have := h j hj'
  rwa [List.getElem_take]
theorem bs_eq {a b : List UInt8} : ((bs a).toList == (bs b).toList) = decide (a = b) := by
  rw [str_eq, Bool.eq_iff_iff, decide_eq_true_eq, decide_eq_true_eq]
  exact ⟨fun e => congrArg (fun s : ByteArray => s.data.toList) e, fun e => by rw [e]⟩
set_option maxHeartbeats 1000000 in
theorem rFind_any (A : Option Addr) (n c : Nat) (l : List NodeV) (s : List UInt8) (hn : l.length = n) (hn2 : n ≤ 140737488355328) (w : World) (hA : NodesAt w A l) :
    Calls Tryd.prog 45 #[.slice A n c, .string (bs s)] w fun e w' => e = .returned (.int .i64 (findL l s : Nat)) ∧ w = w' := by
  have HN := Lib.hid hn
  have HA := Lib.hid hA
  obtain ⟨S, HS⟩ := hid_name (bs s)
  rw [HS.out]
  clear hn hA
  go_enter Tryd.func45, Tryd.ntmps45
  go_wp2_with fail
  go_loop [5] (fun i => ∃ k : Nat, k ≤ n ∧ i = .int .i64 k ∧ Hid (k ≤ findL l s)) (fun i => n - (intOf i).toNat)
  case atStart => exact ⟨0, Nat.zero_le _, rfl, Nat.zero_le _⟩
  case round =>
    obtain ⟨k, hk, rfl, hf⟩ := hrel
    by_cases hlt : k < n
    · have hkl : k < l.length := by rw [HN.out]; exact hlt
      obtain ⟨b, o, D, cc, rfl, c0, -⟩ := HA.out.cells k hkl
      have hq := bs_eq (a := l[k].path) (b := s)
      rw [HS.out] at hq
      obtain ⟨P, HP⟩ := hid_name (bs l[k].path)
      rw [HP.out] at hq c0
      by_cases e : l[k].path = s
      · have HV := Lib.hid (findL_stop l s k hkl hf.out e)
        rw [decide_eq_true e] at hq
        clear e
        go_wp2_with fail
        go_ret
        exact ⟨ret_int (by rw [HV.out]), rfl⟩
      · have HV := Lib.hid (findL_step l s k hkl hf.out e)
        rw [decide_eq_false e] at hq
        clear e
        go_wp2_with fail
        go_round
        case rel => exact ⟨k + 1, by omega, by go_num, HV⟩
        case measure => simp [intOf]; omega
    · obtain rfl : k = n := by omega
      have HV : Hid (findL l s = k) := by
        have := findL_le l s
        unfold Hid
        have h2 := hf.out
        have h3 := HN.out
        omega
      go_wp2_with fail
      go_ret
      exact ⟨ret_int (by rw [HV.out]), rfl⟩
end Go.Proofs.YtoplcelimdkjeaaDoor
