/- Texts of one kind, in one file: MemA, HedA, MemB. -/
import Derived.Test.YtmejnabngfpbeaaGreatDoorMth
import Derived.Test.YtmejnabngfpbeaaGreatDoorEna
import Derived.Test.YtmejnabngfpbeaaGreatDoorStp
import Derived.Test.YtmejnabngfpbeaaGreatDoorCut
import Derived.Test.YtmejnabngfpbeaaGreatDoorPxa
import Derived.StillTailTactics
import Derived.Deep.DeepCutAuto
import Derived.Test.YtmejnabngfpbeaaGreatDoorArb
set_option linter.unusedVariables false
set_option maxRecDepth 100000
namespace Go.Proofs.YtmejnabngfpbeaaGreatDoor
open Go.RowKit
open Go.OpenShut
theorem append_rec {w : World} {ops : Array Oper} {rest : List Oper} {o : Oper} {a : Act} {Q : Exit → Act → World → Prop} (hgd : o.guard = none) (s x : Operand)
  (ho : o.op = .call { callee := .builtin .append, args := #[s, x], argTypes := #[77, 77] }) (B : Nat) (v : Value) (l : List Rc) (hs : a.eval s = v) (hown : Own w B v l.length l)
  (g c : Nat) (r : Rc) (hx : a.eval x = .slice (some ⟨g, 0, none⟩) 1 c) (hc : Blk w g 85 #[.string (bs r.1), .string (bs r.2)]) (hbig : l.length ≤ 1000000) (hB : B ≤ w.heap.size)
  (h : ∀ v' w', Own w' B v' (l ++ [r]).length (l ++ [r]) → w.grownBy w' v.ownBlock → wpList Tryz.prog ops Q rest (a.put o.dst v') w') : wpList Tryz.prog ops Q (o :: rest) a w := by
 obtain ⟨i0, hi, hz0, hz1, hz2⟩ := info_parts info_rec
 refine wpList_append_own _ hgd s x 77 ho B 85 i0 _ 2 32 Tryz.underlying77 hi hz0 hz1 hz2 rfl (by decide) v _ _ hs hown.2 ⟨g, 0, none⟩ 1 c [.string (bs r.1), .string (bs r.2)] hx rfl (fun j q hq => ?_) (fun q hq => ?_) (by unfold maxLen; omega) (by omega) hB ?_
 ·rw [Addr.add_lit, Nat.zero_add, hc.cell j, List.getElem?_toArray]; exact hq
 ·simp only [List.mem_cons, List.not_mem_nil, or_false] at hq
  rcases hq with rfl | rfl <;> rfl
 ·intro v6 w6 hown6 hgrow _
  refine h v6 w6 ⟨rfl, ?_⟩ hgrow
  rw [recC_app, recC_one, List.length_append]
  exact hown6
def Ad (u : World) (mc : Array Value) (L : List Rc) (w : World) : Prop :=
 (∃ v, Blk w u.heap.size 77 #[v] ∧ Own w (u.heap.size + 1) v L.length L) ∧ Blk w (u.heap.size + 1) 32 mc ∧ Below u.heap.size u w
theorem Ad.below {u w w' : World} {mc : Array Value} {L : List Rc} (h : Ad u mc L w) (hb : Below w.heap.size w w') : Ad u mc L w' := by
 obtain ⟨⟨v, h1, h2⟩, h3, h5⟩ := h
 exact ⟨⟨v, h1.below hb h1.lt, h2.below hb⟩, h3.below hb h3.lt, h5.trans (hb.mono (Nat.le_of_lt h1.lt))⟩
theorem Ad.drew_ {u w : World} {mc : Array Value} {L : List Rc} (h : Ad u mc L w) : Ad u mc L w.drew := h.below (Below.refl _ _).drew
theorem Ad.drewN {u w : World} {mc : Array Value} {L : List Rc} (h : Ad u mc L w) (n : Nat) : Ad u mc L (w.drewN n) := h.below (below_drewN (Below.refl _ _) n)
theorem Ad.tab {u w : World} {mc : Array Value} {L : List Rc} (h : Ad u mc L w) (T : Tab u) : Tab w := T.below h.2.2
theorem Ad.blk {u w : World} {mc cs : Array Value} {L : List Rc} {b t : Nat} (h : Ad u mc L w) (hb : Blk u b t cs) : Blk w b t cs := hb.below h.2.2 hb.lt
theorem Ad.new {u : World} {mc : Array Value} : Ad u mc [] ((u.alloc (.cells #[.slice none 0 0] 77)).alloc (.cells mc 32)) := by
 have h1 := Blk.new u 77 #[.slice none 0 0]
 have h2 := Blk.new (u.alloc (.cells #[.slice none 0 0] 77)) 32 mc
 rw [hszA] at h2
 exact ⟨⟨_, h1.alloc _, ⟨rfl, World.ownsRow_nil _ _ _ _⟩⟩, h2, ((Below.refl _ _).alloc (Nat.le_refl _) _).alloc (by rw [hszA]; exact Nat.le_succ _) _⟩
def AdX (u : World) (mc : Array Value) (w : World) : Prop := ∃ L, Ad u mc L w
theorem Ad.x {u w : World} {mc : Array Value} {L : List Rc} (h : Ad u mc L w) : AdX u mc w := ⟨L, h⟩
theorem AdX.drew_ {u w : World} {mc : Array Value} (h : AdX u mc w) : AdX u mc w.drew := by obtain ⟨L, h⟩ := h; exact ⟨L, h.drew_⟩
theorem AdX.below {u w w' : World} {mc : Array Value} (h : AdX u mc w) (hb : Below w.heap.size w w') : AdX u mc w' := by obtain ⟨L, h⟩ := h; exact ⟨L, h.below hb⟩
theorem Own.mono {w : World} {B B' : Nat} {v : Value} {n : Nat} {l : List Rc} (h : Own w B v n l) (hB : B' ≤ B) : Own w B' v n l := ⟨h.1, own_mono h.2 hB⟩
theorem recIf_le (b : Bool) (k v : List UInt8) : (recIf b k v).length ≤ 1 := by rw [recIf_len]; split <;> omega
theorem app_le {L : List Rc} {n : Nat} (h : L.length ≤ n) (b : Bool) (k v : List UInt8) : (L ++ recIf b k v).length ≤ n + 1 := by rw [List.length_append]; have := recIf_le b k v; omega
end Go.Proofs.YtmejnabngfpbeaaGreatDoor
namespace Go.Proofs.YtmejnabngfpbeaaGreatDoor
open Go.RowKit
open Go.OpenShut
open Go.ChangeShapes Go.WideShapes Go.Deep
def headC (h : HeadV) : Array Value := #[.string (bs h.name), .string (bs h.pre), .string (bs h.link), .int .i64 h.mode, .int .i64 h.uid, .int .i64 h.gid, .int .i64 h.size, .int .i64 h.time, .int .u8 (h.typ.toNat : Int), .string (bs h.user), .string (bs h.group)]
def HeadV.wf (h : HeadV) : Prop := (h.name.length ≤ 140737488351232 ∧ h.pre.length ≤ 140737488351232 ∧ h.link.length ≤ 140737488351232 ∧ h.user.length ≤ 140737488351232 ∧ h.group.length ≤ 140737488351232) ∧
 (Lit.int .i64 h.mode).wf = true ∧ (Lit.int .i64 h.uid).wf = true ∧ (Lit.int .i64 h.gid).wf = true ∧ (Lit.int .i64 h.size).wf = true ∧ (Lit.int .i64 h.time).wf = true
section
variable {H : Type} {enc : TypeId × Value → H} {w : World} {base : Nat} {spare : Nat → Bool} {held : Bool}
end
end Go.Proofs.YtmejnabngfpbeaaGreatDoor
namespace Go.Proofs.YtmejnabngfpbeaaGreatDoor
open Go.RowKit
open Go.OpenShut
def hdR (h : HeadV) (r : Rc) : HeadV :=
 if r.1 = kGid then { h with gid := 0 } else if r.1 = kGname then { h with group := [] } else if r.1 = kLink then { h with link := atLong } else if r.1 = kMtime then { h with time := 0 }
 else if r.1 = kPath then { h with name := atLong } else if r.1 = kUid then { h with uid := 0 } else if r.1 = kUname then { h with user := [] } else h
theorem hdR_gid (h : HeadV) (v : List UInt8) : hdR h (kGid, v) = { h with gid := 0 } := if_pos rfl
theorem hdR_gname (h : HeadV) (v : List UInt8) : hdR h (kGname, v) = { h with group := [] } := by rw [hdR, if_neg (by show ¬ kGname = kGid; decide), if_pos rfl]
theorem hdR_link (h : HeadV) (v : List UInt8) : hdR h (kLink, v) = { h with link := atLong } := by rw [hdR, if_neg (by show ¬ kLink = kGid; decide), if_neg (by show ¬ kLink = kGname; decide), if_pos rfl]
theorem hdR_mtime (h : HeadV) (v : List UInt8) : hdR h (kMtime, v) = { h with time := 0 } := by
 rw [hdR, if_neg (by show ¬ kMtime = kGid; decide), if_neg (by show ¬ kMtime = kGname; decide), if_neg (by show ¬ kMtime = kLink; decide), if_pos rfl]
theorem hdR_path (h : HeadV) (v : List UInt8) : hdR h (kPath, v) = { h with name := atLong } := by
 rw [hdR, if_neg (by show ¬ kPath = kGid; decide), if_neg (by show ¬ kPath = kGname; decide), if_neg (by show ¬ kPath = kLink; decide), if_neg (by show ¬ kPath = kMtime; decide), if_pos rfl]
theorem hdR_uid (h : HeadV) (v : List UInt8) : hdR h (kUid, v) = { h with uid := 0 } := by
 rw [hdR, if_neg (by show ¬ kUid = kGid; decide), if_neg (by show ¬ kUid = kGname; decide), if_neg (by show ¬ kUid = kLink; decide), if_neg (by show ¬ kUid = kMtime; decide), if_neg (by show ¬ kUid = kPath; decide), if_pos rfl]
theorem hdR_uname (h : HeadV) (v : List UInt8) : hdR h (kUname, v) = { h with user := [] } := by
 rw [hdR, if_neg (by show ¬ kUname = kGid; decide), if_neg (by show ¬ kUname = kGname; decide), if_neg (by show ¬ kUname = kLink; decide), if_neg (by show ¬ kUname = kMtime; decide), if_neg (by show ¬ kUname = kPath; decide), if_neg (by show ¬ kUname = kUid; decide), if_pos rfl]
theorem fold_gid (b : Bool) (h : HeadV) (v : List UInt8) : (recIf b kGid v).foldl hdR h = { h with gid := if b = true then 0 else h.gid } := by
 unfold recIf; cases b
 ·rfl
 ·exact hdR_gid h v
theorem fold_gname (b : Bool) (h : HeadV) (v : List UInt8) : (recIf b kGname v).foldl hdR h = { h with group := if b = true then [] else h.group } := by
 unfold recIf; cases b
 ·rfl
 ·exact hdR_gname h v
theorem fold_link (b : Bool) (h : HeadV) (v : List UInt8) : (recIf b kLink v).foldl hdR h = { h with link := if b = true then atLong else h.link } := by
 unfold recIf; cases b
 ·rfl
 ·exact hdR_link h v
theorem fold_mtime (b : Bool) (h : HeadV) (v : List UInt8) : (recIf b kMtime v).foldl hdR h = { h with time := if b = true then 0 else h.time } := by
 unfold recIf; cases b
 ·rfl
 ·exact hdR_mtime h v
theorem fold_path (b : Bool) (h : HeadV) (v : List UInt8) : (recIf b kPath v).foldl hdR h = { h with name := if b = true then atLong else h.name } := by
 unfold recIf; cases b
 ·rfl
 ·exact hdR_path h v
theorem fold_uid (b : Bool) (h : HeadV) (v : List UInt8) : (recIf b kUid v).foldl hdR h = { h with uid := if b = true then 0 else h.uid } := by
 unfold recIf; cases b
 ·rfl
 ·exact hdR_uid h v
theorem fold_uname (b : Bool) (h : HeadV) (v : List UInt8) : (recIf b kUname v).foldl hdR h = { h with user := if b = true then [] else h.user } := by
 unfold recIf; cases b
 ·rfl
 ·exact hdR_uname h v
def head0 (x : EntV) : HeadV := { name := (cutV x.path).2.1, pre := (cutV x.path).1, link := x.target, mode := x.md.mode, uid := x.md.uid, gid := x.md.gid, size := x.data.length, time := x.md.second, typ := typM x.kind, user := x.md.user, group := x.md.group }
theorem hdR_recs (x : EntV) : (recsM x).foldl hdR (head0 x) = headM x := by
 unfold recsM
 simp only [List.foldl_append, fold_gid, fold_gname, fold_link, fold_mtime, fold_path, fold_uid, fold_uname]
 unfold headM head0
 simp only [decide_eq_true_eq]
def keysM : List (List UInt8) := [kGid, kGname, kLink, kMtime, kPath, kUid, kUname]
theorem recIf_key {b : Bool} {k v : List UInt8} {r : Rc} (h : r ∈ recIf b k v) : r.1 = k := by
 unfold recIf at h
 split at h
 ·simp at h; rw [h]
 ·cases h
theorem recs_key {x : EntV} {r : Rc} (h : r ∈ recsM x) : r.1 ∈ keysM := by
 unfold recsM at h
 simp only [List.mem_append] at h
 unfold keysM
 simp only [List.mem_cons, List.not_mem_nil, or_false]
 rcases h with h | h | h | h | h | h | h
 ·exact .inl (recIf_key h)
 ·exact .inr (.inl (recIf_key h))
 ·exact .inr (.inr (.inl (recIf_key h)))
 ·exact .inr (.inr (.inr (.inl (recIf_key h))))
 ·exact .inr (.inr (.inr (.inr (.inl (recIf_key h)))))
 ·exact .inr (.inr (.inr (.inr (.inr (.inl (recIf_key h))))))
 ·exact .inr (.inr (.inr (.inr (.inr (.inr (recIf_key h))))))
theorem recs_few (x : EntV) : (recsM x).length ≤ 7 := by
 unfold recsM
 simp only [List.length_append]
 have h1 := recIf_le (decide (2097152 ≤ x.md.gid)) kGid (Lib.itoa x.md.gid)
 have h2 := recIf_le (decide (31 < x.md.group.length)) kGname x.md.group
 have h3 := recIf_le (decide (100 < x.target.length)) kLink x.target
 have h4 := recIf_le (lateM x) kMtime (tText x.md.second x.md.nano).1.data.toList
 have h5 := recIf_le (decide ((cutV x.path).2.2 ≠ 0)) kPath x.path
 have h6 := recIf_le (decide (2097152 ≤ x.md.uid)) kUid (Lib.itoa x.md.uid)
 have h7 := recIf_le (decide (31 < x.md.user.length)) kUname x.md.user
 omega
def recO (x : EntV) : List Rc := if entE x = 0 then recsM x else []
end Go.Proofs.YtmejnabngfpbeaaGreatDoor
