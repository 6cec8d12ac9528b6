/- What a round of a tree's checking needs: its state, the faults by their causes. -/
import Derived.Test.YtoikpnjnljdpaaaDoorNodD
import Derived.Test.YtoikpnjnljdpaaaDoorPrtA
import Derived.Test.YtoikpnjnljdpaaaDoorNodE
import Derived.Deep.RegionHeld3
import Derived.Deep.DeepCutAuto
import Derived.Deep.QuietTactic
import Derived.BigQuiet
set_option linter.unusedVariables false
set_option maxRecDepth 100000
namespace Go.Proofs.YtoikpnjnljdpaaaDoor
open Go.RowKit
open Go.OpenShut
def nodA (x : NodeV) (D : Option Addr) (c : Nat) : Array Value := #[.string (bs x.path), .int .i64 x.kind, .int .i64 x.same, .string (bs x.target), .int .i64 x.md.mode, .int .i64 x.md.uid, .int .i64 x.md.gid, .string (bs x.md.user), .string (bs x.md.group), .int .i64 x.md.second, .int .i64 x.md.nano, .slice D x.data.length c]
/-- what stands ahead of the tests of a round: the node's box, all else below -/
def RdS (w wr : World) (g : Nat) (x : NodeV) (D : Option Addr) (c : Nat) (W : World) : Prop := Blk W g 48 (nodA x D c) ∧ Below wr.heap.size wr W
theorem RdS.below {w wr W W' : World} {g : Nat} {x : NodeV} {D : Option Addr} {c : Nat} (h : RdS w wr g x D c W) (hb : Below W.heap.size W W') : RdS w wr g x D c W' := ⟨h.1.below hb h.1.lt, h.2.trans (hb.mono h.2.size)⟩
theorem RdS.drew {w wr W : World} {g : Nat} {x : NodeV} {D : Option Addr} {c : Nat} (h : RdS w wr g x D c W) : RdS w wr g x D c W.drew := ⟨h.1.drew_, h.2.drew⟩
theorem RdS.drewN {w wr W : World} {g : Nat} {x : NodeV} {D : Option Addr} {c : Nat} (h : RdS w wr g x D c W) (q : Nat) : RdS w wr g x D c (W.drewN q) := ⟨h.1.drewN q, below_drewN h.2 q⟩
/-- and the path ahead -/
def RdP (w wr : World) (g : Nat) (x : NodeV) (D : Option Addr) (c b q : Nat) (P : ByteArray) (W : World) : Prop := RdS w wr g x D c W ∧ W.cell? ⟨b, q, none⟩ = some (.string P)
theorem RdP.below {w wr W W' : World} {g : Nat} {x : NodeV} {D : Option Addr} {c b q : Nat} {P : ByteArray} (h : RdP w wr g x D c b q P W) (hb : Below W.heap.size W W') : RdP w wr g x D c b q P W' :=
  ⟨h.1.below hb, (hb.cell (p := ⟨b, q, none⟩) (World.block_lt_of_cell? W _ h.2)).trans h.2⟩
theorem RdP.drew {w wr W : World} {g : Nat} {x : NodeV} {D : Option Addr} {c b q : Nat} {P : ByteArray} (h : RdP w wr g x D c b q P W) : RdP w wr g x D c b q P W.drew := ⟨h.1.drew, h.2⟩
theorem BytsAt.convD {w : World} {A : Option Addr} {l : List UInt8} (h : BytsAt w A l) (c : Nat) (hn : A = none → l = []) : ∀ q, (convert 24 9 (.slice A l.length c)).run Tryd.prog (w.drewN q) = .ok (.string (bs l)) (w.drewN q) := fun q => BytsAt.conv (w := w.drewN q) h c hn
theorem path_len {n : NodeV} (h : nodE n = 0) : n.path.length ≤ 400 := by
  by_cases hp : pathE n.path = 0
  · unfold pathE at hp
    split at hp
    · exact absurd hp (by decide)
    · omega
  · rw [nodE_path hp] at h; exact absurd h hp
theorem atE_node {t : List NodeV} {n : NodeV} (h : nodE n ≠ 0) : atE t n = nodE n := if_pos h
theorem atE_twice {t : List NodeV} {n : NodeV} (h : nodE n = 0) (x : NodeV) (hl : t.getLast? = some x) (h2 : pcmp x.path n.path ≠ -1) : atE t n = 6 := by
  unfold atE; rw [if_neg (by simp [h]), hl]; simp only; rw [if_pos (by simp [h2])]
theorem atE_up {t : List NodeV} {n : NodeV} (h : nodE n = 0) (hl : ∀ x, t.getLast? = some x → pcmp x.path n.path = -1) (hu : upOk t n.path = false) : atE t n = 10 := by
  unfold atE
  rw [if_neg (by simp [h]), if_neg, if_pos hu]
  cases e : t.getLast? with
  | none => simp
  | some x => simp [hl x e]
theorem atE_link {t : List NodeV} {n : NodeV} (h : nodE n = 0) (hl : ∀ x, t.getLast? = some x → pcmp x.path n.path = -1) (hu : upOk t n.path = true) (hk : linkNo t n = true) : atE t n = 11 := by
  unfold atE
  rw [if_neg (by simp [h]), if_neg, if_neg (by simp [hu]), if_pos hk]
  cases e : t.getLast? with
  | none => simp
  | some x => simp [hl x e]
theorem last_take (l : List NodeV) (k : Nat) (hk : k < l.length) (x : NodeV) : (l.take k).getLast? = some x ↔ ∃ h : 0 < k, l[k - 1] = x := by
  cases k with
  | zero => simp
  | succ k =>
    rw [List.take_succ_eq_append_getElem (by omega), List.getLast?_append]
    simp
/-- is the directory there, by the first node with its path -/
theorem upOk_first {t : List NodeV} (h : Sound t) (p : List UInt8) : upOk t p = (decide (upL p = []) || if hk : findL t (upL p) < t.length then decide ((t[findL t (upL p)]'hk).kind = 2) else false) := by
  unfold upOk
  congr 1
  split
  · rename_i hk
    rw [Bool.eq_iff_iff, List.any_eq_true, decide_eq_true_eq]
    constructor
    · rintro ⟨d, hd, e⟩
      rw [Bool.and_eq_true, decide_eq_true_eq, decide_eq_true_eq] at e
      obtain ⟨hk2, e2⟩ := findL_mem h.rises hd
      simp only [e.1] at hk2 e2
      rw [e2]; exact e.2
    · intro e
      exact ⟨_, List.getElem_mem hk, by rw [Bool.and_eq_true, decide_eq_true_eq, decide_eq_true_eq]; exact ⟨findL_at t _ hk, e⟩⟩
  · rename_i hk
    rw [Bool.eq_false_iff]
    intro e
    obtain ⟨d, hd, e⟩ := List.any_eq_true.1 e
    rw [Bool.and_eq_true, decide_eq_true_eq, decide_eq_true_eq] at e
    have := findL_le t (upL p)
    exact findL_none.1 (by omega) d hd e.1
end Go.Proofs.YtoikpnjnljdpaaaDoor
