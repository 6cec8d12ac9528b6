/- Package pax: lists of records in memory; Find; the reference's. -/
import Derived.Test.YtilofjaigpngoaaDoorSlc
import Derived.Test.YtilofjaigpngoaaDoorPaxN
import Derived.Test.YtilofjaigpngoaaDoorFldD
import Derived.Deep.AppendLies
import Derived.Laws.OwnMore
import Derived.Deep.DeepCutAuto
set_option linter.unusedVariables false
set_option maxRecDepth 100000
namespace Go.Proofs.YtilofjaigpngoaaDoor
open Go.RowKit
open Go.OpenShut
theorem sz_list (s : ByteArray) : s.data.toList.length = s.size := by simp
/-- records in memory: each a key, a value -/
def RecsAt (w : World) (A : Option Addr) (l : List Rc) : Prop :=
  ∀ (j : Nat) (h : j < l.length), ∃ b o, A = some ⟨b, o, none⟩ ∧ w.cell? ⟨b, o + j * 2, none⟩ = some (.string (bs l[j].1)) ∧ w.cell? ⟨b, o + j * 2 + 1, none⟩ = some (.string (bs l[j].2))
def unb (r : ByteArray × ByteArray) : Rc := (r.1.data.toList, r.2.data.toList)
theorem RecsB.at {w : World} {A : Option Addr} {rs : List (ByteArray × ByteArray)} (h : RecsB w A rs) : RecsAt w A (rs.map unb) := fun j hj => by
  have hj' : j < rs.length := by simpa using hj
  obtain ⟨b, o, e, h0, h1⟩ := h j hj'
  refine ⟨b, o, e, ?_, ?_⟩
  · rw [List.getElem_map]; show _ = some (Value.string (bs rs[j].1.data.toList)); rw [bs_of]; exact h0
  · rw [List.getElem_map]; show _ = some (Value.string (bs rs[j].2.data.toList)); rw [bs_of]; exact h1
theorem RecsAt.below {w w' : World} {A : Option Addr} {l : List Rc} (h : RecsAt w A l) (hb : Below w.heap.size w w') : RecsAt w' A l := fun j hj => by
  obtain ⟨b, o, e, h0, h1⟩ := h j hj
  have hlt : b < w.heap.size := World.block_lt_of_cell? w _ h0
  exact ⟨b, o, e, (hb.cell (p := ⟨b, o + j * 2, none⟩) hlt).trans h0, (hb.cell (p := ⟨b, o + j * 2 + 1, none⟩) hlt).trans h1⟩
theorem RecsAt.nil (w : World) (A : Option Addr) : RecsAt w A [] := fun j hj => by cases hj
/-- the sizes of the keys, of the values -/
def SzR (l : List Rc) : Prop := ∀ r ∈ l, r.1.length ≤ 140737488351232 ∧ r.2.length ≤ 140737488351232
theorem SzR.of {rs : List (ByteArray × ByteArray)} (h : ∀ r ∈ rs, r.1.size ≤ 140737488351232 ∧ r.2.size ≤ 140737488351232) : SzR (rs.map unb) := fun r hr => by
  obtain ⟨x, hx, rfl⟩ := List.mem_map.1 hr
  have := h x hx
  unfold unb
  rw [sz_list, sz_list]; exact this
/-- the record at a place: where it lies -/
theorem RecsAt.get {w w' : World} {A : Option Addr} {l : List Rc} (h : RecsAt w A l) (hb : Below w.heap.size w w') {n : Nat} (hn : l.length = n) (k : Nat) (hk : k < n) :
    ∃ b o K V, A = some ⟨b, o, none⟩ ∧ w'.cell? ⟨b, o + k * 2, none⟩ = some (.string K) ∧ w'.cell? ⟨b, o + k * 2 + 1, none⟩ = some (.string V) ∧ Hid (l.drop k = (K.data.toList, V.data.toList) :: l.drop (k + 1)) ∧ Hid ((K.data.toList, V.data.toList) ∈ l) := by
  subst hn
  obtain ⟨b, o, e, h0, h1⟩ := h.below hb k hk
  refine ⟨b, o, _, _, e, h0, h1, ?_, ?_⟩
  · unfold Hid
    rw [bs_list, bs_list, List.drop_eq_getElem_cons hk]
  · unfold Hid
    rw [bs_list, bs_list]
    exact List.getElem_mem _
theorem str_eq_of (K key : ByteArray) : (K.toList == key.toList) = decide (K.data.toList = key.data.toList) := by
  rw [Lib.toList_data, Lib.toList_data, Bool.eq_iff_iff, beq_iff_eq, decide_eq_true_eq]
set_option maxHeartbeats 1000000 in
theorem Find_any (A : Option Addr) (n c : Nat) (l : List Rc) (key : ByteArray) (hn : l.length = n) (hn2 : n ≤ 140737488355328) (hz : SzR l) (w : World) (hA : RecsAt w A l) :
    Calls Tryd.prog 20 #[.slice A n c, .string key] w fun e w' => e = .returned (.tuple #[.string (bs (paxF l key.data.toList).1), .bool (paxF l key.data.toList).2]) ∧ Below w.heap.size w w' := by
  have HA := Lib.hid hA
  have HN := Lib.hid hn
  have HZ := Lib.hid hz
  obtain ⟨X, x, HR⟩ : ∃ X x, Hid (paxF l key.data.toList = (X, x)) := ⟨_, _, rfl⟩
  rw [HR.out]
  show Calls Tryd.prog 20 _ w fun e w' => e = .returned (.tuple #[.string (bs X), .bool x]) ∧ Below w.heap.size w w'
  clear hA hn hz
  go_enter Tryd.func20, Tryd.ntmps20
  go_wp2_with fail
  go_loopw [10] (fun i wr => ∃ k : Nat, i = .int .i64 k ∧ k ≤ n ∧ Hid (paxF (l.drop k) key.data.toList = (X, x)) ∧ Hid (Below w.heap.size w wr)) (fun i _ => n - (intOf i).toNat)
  case atStart => exact ⟨0, rfl, Nat.zero_le _, HR.out, Below.refl _ _⟩
  case round =>
    obtain ⟨k, rfl, hk, HP, HB⟩ := hrel
    have hws : w.heap.size ≤ wr.heap.size := HB.out.size
    by_cases hlt : k < n
    · obtain ⟨b, o, K, V, rfl, e0, e1, HD, HM⟩ := HA.out.get HB.out HN.out k hlt
      have hV : V.size ≤ 281474976710656 := by have := (HZ.out _ HM.out).2; rw [sz_list] at this; omega
      have heq := str_eq_of K key
      have hB1 := (HB.out.alloc hws (.cells #[.string K, .string V] 35))
      have hb1 := Blk.new wr 35 #[.string K, .string V]
      obtain ⟨⟨c0, c1⟩, -⟩ := blk2 hb1
      by_cases hk2 : K.data.toList = key.data.toList
      · rw [decide_eq_true hk2] at heq
        have HX : bs X = V ∧ x = true := by
          have h := HP.out
          rw [HD.out, paxF_hit hk2] at h
          injection h with h1 h2
          exact ⟨by rw [← h1]; exact bs_of _, h2.symm⟩
        obtain ⟨x1, x2⟩ := HX
        subst x2
        have X1 := Lib.hid x1
        clear hk2 x1
        have HW1 := Lib.hid hB1
        clear hB1
        go_wp2_with fail
        refine (Clone_any V _ hV).mono ?_; rintro e w1 ⟨rfl, hb⟩
        have HW2 := Lib.hid (HW1.out.trans (hb.mono HW1.out.size))
        clear hb
        go_wp2_with fail
        go_ret2
        exact ⟨by rw [X1.out]; rfl, HW2.out⟩
      · rw [decide_eq_false hk2] at heq
        have HX : Hid (paxF (l.drop (k + 1)) key.data.toList = (X, x)) := by
          have h := HP.out
          rw [HD.out, paxF_go hk2] at h; exact h
        clear hk2
        have HW1 := Lib.hid hB1
        clear hB1
        go_wp2_with fail
        go_roundw
        case rel => exact ⟨k + 1, by go_num, by omega, HX, HW1.out⟩
        case measure => simp [intOf]; omega
    · obtain rfl : k = n := by omega
      have HX : X = [] ∧ x = false := by
        have h := HP.out
        rw [List.drop_of_length_le (by rw [HN.out]; omega)] at h
        injection h with h1 h2
        exact ⟨h1.symm, h2.symm⟩
      obtain ⟨x1, x2⟩ := HX
      subst x1 x2
      go_wp2_with fail
      go_ret2
      exact ⟨rfl, HB.out⟩
end Go.Proofs.YtilofjaigpngoaaDoor
