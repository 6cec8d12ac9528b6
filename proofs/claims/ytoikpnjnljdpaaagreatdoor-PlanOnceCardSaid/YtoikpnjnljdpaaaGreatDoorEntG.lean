/- The reference's fault of a list of members. -/
import Derived.Test.YtoikpnjnljdpaaaGreatDoorEna
import Derived.Test.YtoikpnjnljdpaaaGreatDoorEntC
import Derived.Test.YtoikpnjnljdpaaaGreatDoorNod
set_option linter.unusedVariables false
set_option maxRecDepth 100000
namespace Go.Proofs.YtoikpnjnljdpaaaGreatDoor
open Go.RowKit
open Go.OpenShut
def entA (x : EntV) (D : Option Addr) (c : Nat) : Array Value := #[.string (bs x.path), .int .i64 x.kind, .string (bs x.target), .int .i64 x.md.mode, .int .i64 x.md.uid, .int .i64 x.md.gid, .string (bs x.md.user), .string (bs x.md.group), .int .i64 x.md.second, .int .i64 x.md.nano, .slice D x.data.length c]
/-- what stands ahead of the tests of a round: the member's box, all else below -/
def RdE (wr : World) (g : Nat) (x : EntV) (D : Option Addr) (c : Nat) (W : World) : Prop := Blk W g 45 (entA x D c) ∧ Below wr.heap.size wr W
theorem RdE.below {wr W W' : World} {g : Nat} {x : EntV} {D : Option Addr} {c : Nat} (h : RdE wr g x D c W) (hb : Below W.heap.size W W') : RdE wr g x D c W' := ⟨h.1.below hb h.1.lt, h.2.trans (hb.mono h.2.size)⟩
theorem RdE.drew {wr W : World} {g : Nat} {x : EntV} {D : Option Addr} {c : Nat} (h : RdE wr g x D c W) : RdE wr g x D c W.drew := ⟨h.1.drew_, h.2.drew⟩
theorem RdE.drewN {wr W : World} {g : Nat} {x : EntV} {D : Option Addr} {c : Nat} (h : RdE wr g x D c W) (q : Nat) : RdE wr g x D c (W.drewN q) := ⟨h.1.drewN q, below_drewN h.2 q⟩
def RdF (wr : World) (g : Nat) (x : EntV) (D : Option Addr) (c b q : Nat) (P : ByteArray) (W : World) : Prop := RdE wr g x D c W ∧ W.cell? ⟨b, q, none⟩ = some (.string P)
theorem RdF.below {wr W W' : World} {g : Nat} {x : EntV} {D : Option Addr} {c b q : Nat} {P : ByteArray} (h : RdF wr g x D c b q P W) (hb : Below W.heap.size W W') : RdF wr g x D c b q P W' :=
  ⟨h.1.below hb, (hb.cell (p := ⟨b, q, none⟩) (World.block_lt_of_cell? W _ h.2)).trans h.2⟩
theorem RdF.drew {wr W : World} {g : Nat} {x : EntV} {D : Option Addr} {c b q : Nat} {P : ByteArray} (h : RdF wr g x D c b q P W) : RdF wr g x D c b q P W.drew := ⟨h.1.drew, h.2⟩
theorem ents_good {t : List EntV} (h : ewalkE [] t = 0) : ∀ x ∈ t, entE x = 0 := fun x hx => by
  obtain ⟨j, hj, rfl⟩ := List.getElem_of_mem hx
  exact ((eatE_zero _ _).1 ((ewalkE_all t []).1 h j hj)).1
theorem pathE_len {p : List UInt8} (h : pathE p = 0) : p.length ≤ 400 := by
  unfold pathE at h
  split at h
  · exact absurd h (by decide)
  · omega
theorem eatE_node {t : List EntV} {n : EntV} (h : entE n ≠ 0) : eatE t n = entE n := if_pos h
theorem eatE_twice {t : List EntV} {n : EntV} (h : entE n = 0) (x : EntV) (hl : t.getLast? = some x) (h2 : pcmp x.path n.path ≠ -1) : eatE t n = 6 := by
  unfold eatE; rw [if_neg (by simp [h]), hl]; simp only; rw [if_pos (by simp [h2])]
theorem eatE_up {t : List EntV} {n : EntV} (h : entE n = 0) (hl : ∀ x, t.getLast? = some x → pcmp x.path n.path = -1) (hu : upE t n.path = false) : eatE t n = 10 := by
  unfold eatE
  rw [if_neg (by simp [h]), if_neg, if_pos hu]
  cases e : t.getLast? with
  | none => simp
  | some x => simp [hl x e]
theorem eatE_link {t : List EntV} {n : EntV} (h : entE n = 0) (hl : ∀ x, t.getLast? = some x → pcmp x.path n.path = -1) (hu : upE t n.path = true) (hk : aimE t n = false) : eatE t n = 11 := by
  unfold eatE
  rw [if_neg (by simp [h]), if_neg, if_neg (by simp [hu]), if_pos hk]
  cases e : t.getLast? with
  | none => simp
  | some x => simp [hl x e]
theorem elast_take (l : List EntV) (k : Nat) (hk : k < l.length) (x : EntV) : (l.take k).getLast? = some x ↔ ∃ h : 0 < k, l[k - 1] = x := by
  cases k with
  | zero => simp
  | succ k =>
    rw [List.take_succ_eq_append_getElem (by omega), List.getLast?_append]
    simp
end Go.Proofs.YtoikpnjnljdpaaaGreatDoor
