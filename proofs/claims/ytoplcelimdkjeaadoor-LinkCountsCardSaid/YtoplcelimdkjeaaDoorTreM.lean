/- The drawing of trees: what is drawn; worlds and blocks. -/
import Derived.Test.YtoplcelimdkjeaaDoorSlc
import Derived.Test.YtoplcelimdkjeaaDoorTreC
import Derived.Test.YtoplcelimdkjeaaDoorTreB
import Derived.Test.YtoplcelimdkjeaaDoorSplA
import Derived.Deep.RegionLaw
import Derived.Deep.RegionWith
set_option linter.unusedVariables false
set_option maxRecDepth 100000
namespace Go.Proofs.YtoplcelimdkjeaaDoor
open Go.RowKit
open Go.OpenShut
theorem hasK_any (xs : List NodeD) (p : List UInt8) (h : ∀ x ∈ xs, x.1.path.length ≤ 400) : hasK xs p = ((xs.map (·.1)).any fun n => decide (n.path = p)) := by
  unfold hasK
  rw [List.any_map]
  induction xs with
  | nil => rfl
  | cons x xs ih =>
    rw [List.any_cons, List.any_cons, ih (fun y hy => h y (by simp [hy]))]
    congr 1
    show decide (keyL x = p) = decide (x.1.path = p)
    rw [keyL, List.take_of_length_le (h x (by simp))]
/-- the loop's state -/
def TL (w : World) (m : Nat) (rs : List RawV) (k : Nat) (xs : List NodeD) (ds : List (List UInt8)) (tv dv : Value) (wr : World) : Prop :=
  Blk wr w.heap.size 22 #[tv] ∧ Nodes wr (w.heap.size + 1) tv xs ∧ Texts wr (w.heap.size + 1) dv ds ∧ (∀ x ∈ xs, Dat wr (w.heap.size + 1) x.2 x.1.data ∧ Fits x.1) ∧
  (xs.map (·.1), ds) = treeS m (rs.take k) ∧ 1 ≤ ds.length ∧ ds.length ≤ xs.length + 1 ∧ (∀ d ∈ ds, d.length ≤ 400) ∧ Below w.heap.size w wr
theorem Nodes.form {w : World} {B : Nat} {v : Value} {xs : List NodeD} (h : Nodes w B v xs) : ∃ G cap, v = .slice (adr G) xs.length cap := by
  rcases h.any with ⟨rfl, rfl⟩ | ⟨g, cap, rfl, _⟩
  · exact ⟨none, 0, rfl⟩
  · exact ⟨some g, cap, rfl⟩
theorem Nodes.below {w w' : World} {B : Nat} {v : Value} {xs : List NodeD} (h : Nodes w B v xs) (hb : Below w.heap.size w w') : Nodes w' B v xs :=
  World.ownsRow.kept h (grown_below hb none) (by
    by_cases e : v.ownBlock = none
    · exact .inl e
    · exact .inr e)
theorem TL.below {w : World} {m : Nat} {rs : List RawV} {k : Nat} {xs : List NodeD} {ds : List (List UInt8)} {tv dv : Value} {wr wx : World} (h : TL w m rs k xs ds tv dv wr) (hb : Below wr.heap.size wr wx) : TL w m rs k xs ds tv dv wx := by
  obtain ⟨h1, h2, h3, h4, h5, h6, h7, h8, h9⟩ := h
  exact ⟨h1.below hb h1.lt, h2.below hb, h3.below hb, fun x hx => ⟨(h4 x hx).1.below hb, (h4 x hx).2⟩, h5, h6, h7, h8, h9.trans (hb.mono h9.size)⟩
theorem TL.next {w : World} {m : Nat} {rs : List RawV} {k : Nat} {xs : List NodeD} {ds : List (List UInt8)} {tv dv : Value} {wr : World} (h : TL w m rs k xs ds tv dv wr) (hk : k < rs.length)
    (hs : stepT m (xs.map (·.1), ds) rs[k] = (xs.map (·.1), ds)) : TL w m rs (k + 1) xs ds tv dv wr := by
  obtain ⟨h1, h2, h3, h4, h5, h6, h7, h8, h9⟩ := h
  exact ⟨h1, h2, h3, h4, by rw [treeS_snoc m rs k hk, ← h5, hs], h6, h7, h8, h9⟩
theorem nodeN1 {w wA : World} {t : TypeId} {cs : Array Value} (hb : Below ((w.alloc (.cells cs t)).drew).heap.size (w.alloc (.cells cs t)).drew wA) : Blk wA w.heap.size t cs :=
  Blk.below (w := (w.alloc (.cells cs t)).drew) (Blk.new w t cs) hb (by simp)
theorem nodeN2 {w wA : World} {t : TypeId} {cs : Array Value} (hb : Below (w.alloc (.cells cs t)).heap.size (w.alloc (.cells cs t)) wA) : Blk wA w.heap.size t cs :=
  Blk.below (Blk.new w t cs) hb (by simp)
def nodeZ : Array Value := #[.string ⟨#[]⟩, .int .i64 0, .int .i64 0, .string ⟨#[]⟩, .int .i64 0, .int .i64 0, .int .i64 0, .string ⟨#[]⟩, .string ⟨#[]⟩, .int .i64 0, .int .i64 0, .slice none 0 0]
def nodeL (p dt : ByteArray) (md : MetaV) (g n c : Nat) : Array Value := #[.string p, .int .i64 1, .int .i64 0, .string ⟨#[]⟩, .int .i64 md.mode, .int .i64 md.uid, .int .i64 md.gid, .string ⟨md.user.toArray⟩, .string ⟨md.group.toArray⟩, .int .i64 md.second, .int .i64 md.nano, .slice (some ⟨g, 0, none⟩) n c]
/-- what the statement that makes a node leaves -/
def NodeAt (w : World) (B : Nat) (p dt : ByteArray) (md : MetaV) (g : Nat) (wx : World) : Prop :=
  ∃ gd c : Nat, Blk wx g 39 (nodeL p dt md gd dt.size c) ∧ Dat wx B (some gd, dt.size, c) dt.data.toList ∧ w.heap.size ≤ g ∧ Below w.heap.size w wx
theorem heap_set12 (W : World) (g k : Nat) (h : k ≠ g) (v0 v1 v2 v3 v4 v5 v6 v7 v8 v9 v10 v11 : Value) : ((((((((((((W.setCell ⟨g, 0, none⟩ v0).setCell ⟨g, 1, none⟩ v1).setCell ⟨g, 2, none⟩ v2).setCell ⟨g, 3, none⟩ v3).setCell ⟨g, 4, none⟩ v4).setCell ⟨g, 5, none⟩ v5).setCell ⟨g, 6, none⟩ v6).setCell ⟨g, 7, none⟩ v7).setCell ⟨g, 8, none⟩ v8).setCell ⟨g, 9, none⟩ v9).setCell ⟨g, 10, none⟩ v10).setCell ⟨g, 11, none⟩ v11).heap[k]? = W.heap[k]? :=
  ((Below.heap_setCell _ ⟨g, 11, none⟩ v11 k h).trans ((Below.heap_setCell _ ⟨g, 10, none⟩ v10 k h).trans ((Below.heap_setCell _ ⟨g, 9, none⟩ v9 k h).trans ((Below.heap_setCell _ ⟨g, 8, none⟩ v8 k h).trans ((Below.heap_setCell _ ⟨g, 7, none⟩ v7 k h).trans ((Below.heap_setCell _ ⟨g, 6, none⟩ v6 k h).trans ((Below.heap_setCell _ ⟨g, 5, none⟩ v5 k h).trans ((Below.heap_setCell _ ⟨g, 4, none⟩ v4 k h).trans ((Below.heap_setCell _ ⟨g, 3, none⟩ v3 k h).trans ((Below.heap_setCell _ ⟨g, 2, none⟩ v2 k h).trans ((Below.heap_setCell _ ⟨g, 1, none⟩ v1 k h).trans (Below.heap_setCell _ ⟨g, 0, none⟩ v0 k h))))))))))))
theorem step {w a b : World} (h1 : Below w.heap.size w a) (h2 : Below a.heap.size a b) : Below w.heap.size w b := h1.trans (h2.mono h1.size)
theorem al {w a : World} (h : Below w.heap.size w a) (o : Obj) : Below w.heap.size w (a.alloc o) := h.alloc h.size o
theorem Blk.set12 {w : World} {g : Nat} {t : TypeId} {a0 a1 a2 a3 a4 a5 a6 a7 a8 a9 a10 a11 : Value} (h : Blk w g t #[a0, a1, a2, a3, a4, a5, a6, a7, a8, a9, a10, a11]) (v0 v1 v2 v3 v4 v5 v6 v7 v8 v9 v10 v11 : Value) : Blk ((((((((((((w.setCell ⟨g, 0, none⟩ v0).setCell ⟨g, 1, none⟩ v1).setCell ⟨g, 2, none⟩ v2).setCell ⟨g, 3, none⟩ v3).setCell ⟨g, 4, none⟩ v4).setCell ⟨g, 5, none⟩ v5).setCell ⟨g, 6, none⟩ v6).setCell ⟨g, 7, none⟩ v7).setCell ⟨g, 8, none⟩ v8).setCell ⟨g, 9, none⟩ v9).setCell ⟨g, 10, none⟩ v10).setCell ⟨g, 11, none⟩ v11) g t #[v0, v1, v2, v3, v4, v5, v6, v7, v8, v9, v10, v11] := by
  have h0 : Blk (w.setCell ⟨g, 0, none⟩ v0) g t #[v0, a1, a2, a3, a4, a5, a6, a7, a8, a9, a10, a11] := Blk.set_ h 0 v0
  have h1 : Blk ((w.setCell ⟨g, 0, none⟩ v0).setCell ⟨g, 1, none⟩ v1) g t #[v0, v1, a2, a3, a4, a5, a6, a7, a8, a9, a10, a11] := Blk.set_ h0 1 v1
  have h2 : Blk (((w.setCell ⟨g, 0, none⟩ v0).setCell ⟨g, 1, none⟩ v1).setCell ⟨g, 2, none⟩ v2) g t #[v0, v1, v2, a3, a4, a5, a6, a7, a8, a9, a10, a11] := Blk.set_ h1 2 v2
  have h3 : Blk ((((w.setCell ⟨g, 0, none⟩ v0).setCell ⟨g, 1, none⟩ v1).setCell ⟨g, 2, none⟩ v2).setCell ⟨g, 3, none⟩ v3) g t #[v0, v1, v2, v3, a4, a5, a6, a7, a8, a9, a10, a11] := Blk.set_ h2 3 v3
  have h4 : Blk (((((w.setCell ⟨g, 0, none⟩ v0).setCell ⟨g, 1, none⟩ v1).setCell ⟨g, 2, none⟩ v2).setCell ⟨g, 3, none⟩ v3).setCell ⟨g, 4, none⟩ v4) g t #[v0, v1, v2, v3, v4, a5, a6, a7, a8, a9, a10, a11] := Blk.set_ h3 4 v4
  have h5 : Blk ((((((w.setCell ⟨g, 0, none⟩ v0).setCell ⟨g, 1, none⟩ v1).setCell ⟨g, 2, none⟩ v2).setCell ⟨g, 3, none⟩ v3).setCell ⟨g, 4, none⟩ v4).setCell ⟨g, 5, none⟩ v5) g t #[v0, v1, v2, v3, v4, v5, a6, a7, a8, a9, a10, a11] := Blk.set_ h4 5 v5
  have h6 : Blk (((((((w.setCell ⟨g, 0, none⟩ v0).setCell ⟨g, 1, none⟩ v1).setCell ⟨g, 2, none⟩ v2).setCell ⟨g, 3, none⟩ v3).setCell ⟨g, 4, none⟩ v4).setCell ⟨g, 5, none⟩ v5).setCell ⟨g, 6, none⟩ v6) g t #[v0, v1, v2, v3, v4, v5, v6, a7, a8, a9, a10, a11] := Blk.set_ h5 6 v6
  have h7 : Blk ((((((((w.setCell ⟨g, 0, none⟩ v0).setCell ⟨g, 1, none⟩ v1).setCell ⟨g, 2, none⟩ v2).setCell ⟨g, 3, none⟩ v3).setCell ⟨g, 4, none⟩ v4).setCell ⟨g, 5, none⟩ v5).setCell ⟨g, 6, none⟩ v6).setCell ⟨g, 7, none⟩ v7) g t #[v0, v1, v2, v3, v4, v5, v6, v7, a8, a9, a10, a11] := Blk.set_ h6 7 v7
  have h8 : Blk (((((((((w.setCell ⟨g, 0, none⟩ v0).setCell ⟨g, 1, none⟩ v1).setCell ⟨g, 2, none⟩ v2).setCell ⟨g, 3, none⟩ v3).setCell ⟨g, 4, none⟩ v4).setCell ⟨g, 5, none⟩ v5).setCell ⟨g, 6, none⟩ v6).setCell ⟨g, 7, none⟩ v7).setCell ⟨g, 8, none⟩ v8) g t #[v0, v1, v2, v3, v4, v5, v6, v7, v8, a9, a10, a11] := Blk.set_ h7 8 v8
  have h9 : Blk ((((((((((w.setCell ⟨g, 0, none⟩ v0).setCell ⟨g, 1, none⟩ v1).setCell ⟨g, 2, none⟩ v2).setCell ⟨g, 3, none⟩ v3).setCell ⟨g, 4, none⟩ v4).setCell ⟨g, 5, none⟩ v5).setCell ⟨g, 6, none⟩ v6).setCell ⟨g, 7, none⟩ v7).setCell ⟨g, 8, none⟩ v8).setCell ⟨g, 9, none⟩ v9) g t #[v0, v1, v2, v3, v4, v5, v6, v7, v8, v9, a10, a11] := Blk.set_ h8 9 v9
  have h10 : Blk (((((((((((w.setCell ⟨g, 0, none⟩ v0).setCell ⟨g, 1, none⟩ v1).setCell ⟨g, 2, none⟩ v2).setCell ⟨g, 3, none⟩ v3).setCell ⟨g, 4, none⟩ v4).setCell ⟨g, 5, none⟩ v5).setCell ⟨g, 6, none⟩ v6).setCell ⟨g, 7, none⟩ v7).setCell ⟨g, 8, none⟩ v8).setCell ⟨g, 9, none⟩ v9).setCell ⟨g, 10, none⟩ v10) g t #[v0, v1, v2, v3, v4, v5, v6, v7, v8, v9, v10, a11] := Blk.set_ h9 10 v10
  have h11 : Blk ((((((((((((w.setCell ⟨g, 0, none⟩ v0).setCell ⟨g, 1, none⟩ v1).setCell ⟨g, 2, none⟩ v2).setCell ⟨g, 3, none⟩ v3).setCell ⟨g, 4, none⟩ v4).setCell ⟨g, 5, none⟩ v5).setCell ⟨g, 6, none⟩ v6).setCell ⟨g, 7, none⟩ v7).setCell ⟨g, 8, none⟩ v8).setCell ⟨g, 9, none⟩ v9).setCell ⟨g, 10, none⟩ v10).setCell ⟨g, 11, none⟩ v11) g t #[v0, v1, v2, v3, v4, v5, v6, v7, v8, v9, v10, v11] := Blk.set_ h10 11 v11
  exact h11
theorem Dat.set12 {w : World} {g B : Nat} {t : TypeId} {cs : Array Value} {d : Option Nat × Nat × Nat} {l : List UInt8} (h : Blk w g t cs) (ht : t ≠ 5) (hD : Dat w B d l) (v0 v1 v2 v3 v4 v5 v6 v7 v8 v9 v10 v11 : Value) : Dat ((((((((((((w.setCell ⟨g, 0, none⟩ v0).setCell ⟨g, 1, none⟩ v1).setCell ⟨g, 2, none⟩ v2).setCell ⟨g, 3, none⟩ v3).setCell ⟨g, 4, none⟩ v4).setCell ⟨g, 5, none⟩ v5).setCell ⟨g, 6, none⟩ v6).setCell ⟨g, 7, none⟩ v7).setCell ⟨g, 8, none⟩ v8).setCell ⟨g, 9, none⟩ v9).setCell ⟨g, 10, none⟩ v10).setCell ⟨g, 11, none⟩ v11) B d l :=
  hD.keep fun g' cur fr hg => (heap_set12 _ _ _ (by
    rintro rfl
    unfold Blk at h
    rw [h] at hg
    simp only [Option.some.injEq, Obj.cells.injEq] at hg
    exact ht hg.2.1) _ _ _ _ _ _ _ _ _ _ _ _).trans hg
theorem Dat.conv_al (w : World) (o : Obj) (B : Nat) (s : ByteArray) (hB : B ≤ w.heap.size) (hs : s.size ≤ 1000000) : Dat (Lib.bytesWorld (w.alloc o) 5 s) B (some (w.heap.size + 1), s.size, grownCap (w.alloc o) s.size 0 5) s.data.toList := by
  have e : (w.alloc o).heap.size = w.heap.size + 1 := by simp
  rw [← e]
  exact Dat.conv (w.alloc o) B s (by omega) hs
theorem node_sets {w W : World} {B g gd c : Nat} (p : ByteArray) {dt : ByteArray} (md : MetaV)
    (HN : Blk W g 39 #[.string ⟨#[]⟩, .int .i64 0, .int .i64 0, .string ⟨#[]⟩, .int .i64 0, .int .i64 0, .int .i64 0, .string ⟨#[]⟩, .string ⟨#[]⟩, .int .i64 0, .int .i64 0, .slice none 0 0])
    (hD : Dat W B (some gd, dt.size, c) dt.data.toList) (hb : Below w.heap.size w W) (hg : w.heap.size ≤ g) :
    NodeAt w B p dt md g ((((((((((((W.setCell ⟨g, 0, none⟩ (.string p)).setCell ⟨g, 1, none⟩ (.int .i64 1)).setCell ⟨g, 2, none⟩ (.int .i64 0)).setCell ⟨g, 3, none⟩ (.string ⟨#[]⟩)).setCell ⟨g, 4, none⟩ (.int .i64 md.mode)).setCell ⟨g, 5, none⟩ (.int .i64 md.uid)).setCell ⟨g, 6, none⟩ (.int .i64 md.gid)).setCell ⟨g, 7, none⟩ (.string ⟨md.user.toArray⟩)).setCell ⟨g, 8, none⟩ (.string ⟨md.group.toArray⟩)).setCell ⟨g, 9, none⟩ (.int .i64 md.second)).setCell ⟨g, 10, none⟩ (.int .i64 md.nano)).setCell ⟨g, 11, none⟩ (.slice (some ⟨gd, 0, none⟩) dt.size c)) :=
  ⟨gd, c, Blk.set12 HN _ _ _ _ _ _ _ _ _ _ _ _, Dat.set12 HN (by decide) hD _ _ _ _ _ _ _ _ _ _ _ _, hg, Below.set12 hb hg _ _ _ _ _ _ _ _ _ _ _ _⟩
theorem node_new {w W : World} {B gd c : Nat} (p : ByteArray) {dt : ByteArray} (md : MetaV) (hD : Dat W B (some gd, dt.size, c) dt.data.toList) (hb : Below w.heap.size w W) :
    NodeAt w B p dt md W.heap.size (W.alloc (.cells #[.string p, .int .i64 1, .int .i64 0, .string ⟨#[]⟩, .int .i64 md.mode, .int .i64 md.uid, .int .i64 md.gid, .string ⟨md.user.toArray⟩, .string ⟨md.group.toArray⟩, .int .i64 md.second, .int .i64 md.nano, .slice (some ⟨gd, 0, none⟩) dt.size c] 39)) :=
  ⟨gd, c, Blk.new _ _ _, hD.below ((Below.refl _ _).alloc (Nat.le_refl _) _), hb.size, hb.alloc hb.size _⟩
theorem ba_selfT (s : ByteArray) : (⟨s.data.toList.toArray⟩ : ByteArray) = s := by apply ByteArray.ext; simp
theorem app_list (a b : ByteArray) : (a ++ b).data.toList = a.data.toList ++ b.data.toList := by simp [ByteArray.data_append]
end Go.Proofs.YtoplcelimdkjeaaDoor
