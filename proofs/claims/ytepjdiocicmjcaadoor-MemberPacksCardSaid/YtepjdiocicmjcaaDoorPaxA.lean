/- Package pax: lists of records in memory; Find; the reference's. -/
import Derived.Test.YtepjdiocicmjcaaDoorBas
import Derived.Test.YtepjdiocicmjcaaDoorMth
import Derived.Test.YtepjdiocicmjcaaDoorFldD
import Derived.Deep.AppendLies
import Derived.Laws.OwnMore
import Derived.Deep.DeepCutAuto
set_option linter.unusedVariables false
set_option maxRecDepth 100000
namespace Go.Proofs.YtepjdiocicmjcaaDoor
open Go.RowKit
open Go.OpenShut
theorem sz_list (s : ByteArray) : s.data.toList.length = s.size := by simp
/-- records in memory: each a key, a value -/
def RecsAt (w : World) (A : Option Addr) (l : List Rc) : Prop :=
  ∀ (j : Nat) (h : j < l.length), ∃ b o, A = some ⟨b, o, none⟩ ∧ w.cell? ⟨b, o + j * 2, none⟩ = some (.string (bs l[j].1)) ∧ w.cell? ⟨b, o + j * 2 + 1, none⟩ = some (.string (bs l[j].2))
def unb (r : ByteArray × ByteArray) : Rc := (r.1.data.toList, r.2.data.toList)
theorem RecsB.at {w : World} {A : Option Addr} {rs : List (ByteArray × ByteArray)} (h : RecsB w A rs) : RecsAt w A (rs.map unb) := fun j hj => by
  have hj' : j < rs.length := by simpa using hj
  obtain ⟨b, o, e, h0, h1⟩ := h j hj'
  refine ⟨b, o, e, ?_, ?_⟩
  · rw [List.getElem_map]; show _ = some (Value.string (bs rs[j].1.data.toList)); rw [bs_of]; exact h0
  · rw [List.getElem_map]; show _ = some (Value.string (bs rs[j].2.data.toList)); rw [bs_of]; exact h1
theorem RecsAt.below {w w' : World} {A : Option Addr} {l : List Rc} (h : RecsAt w A l) (hb : Below w.heap.size w w') : RecsAt w' A l := fun j hj => by
  obtain ⟨b, o, e, h0, h1⟩ := h j hj
  have hlt : b < w.heap.size := World.block_lt_of_cell? w _ h0
  exact ⟨b, o, e, (hb.cell (p := ⟨b, o + j * 2, none⟩) hlt).trans h0, (hb.cell (p := ⟨b, o + j * 2 + 1, none⟩) hlt).trans h1⟩
theorem RecsAt.nil (w : World) (A : Option Addr) : RecsAt w A [] := fun j hj => by cases hj
/-- the sizes of the keys, of the values -/
def SzR (l : List Rc) : Prop := ∀ r ∈ l, r.1.length ≤ 140737488351232 ∧ r.2.length ≤ 140737488351232
theorem SzR.of {rs : List (ByteArray × ByteArray)} (h : ∀ r ∈ rs, r.1.size ≤ 140737488351232 ∧ r.2.size ≤ 140737488351232) : SzR (rs.map unb) := fun r hr => by
  obtain ⟨x, hx, rfl⟩ := List.mem_map.1 hr
  have := h x hx
  unfold unb
  rw [sz_list, sz_list]; exact this
/-- the record at a place: where it lies -/
theorem RecsAt.get {w w' : World} {A : Option Addr} {l : List Rc} (h : RecsAt w A l) (hb : Below w.heap.size w w') {n : Nat} (hn : l.length = n) (k : Nat) (hk : k < n) :
    ∃ b o K V, A = some ⟨b, o, none⟩ ∧ w'.cell? ⟨b, o + k * 2, none⟩ = some (.string K) ∧ w'.cell? ⟨b, o + k * 2 + 1, none⟩ = some (.string V) ∧ Hid (l.drop k = (K.data.toList, V.data.toList) :: l.drop (k + 1)) ∧ Hid ((K.data.toList, V.data.toList) ∈ l) := by
  subst hn
  obtain ⟨b, o, e, h0, h1⟩ := h.below hb k hk
  refine ⟨b, o, _, _, e, h0, h1, ?_, ?_⟩
  · unfold Hid
    rw [bs_list, bs_list, List.drop_eq_getElem_cons hk]
  · unfold Hid
    rw [bs_list, bs_list]
    exact List.getElem_mem _
theorem str_eq_of (K key : ByteArray) : (K.toList == key.toList) = decide (K.data.toList = key.data.toList) := by
  rw [Lib.toList_data, Lib.toList_data, Bool.eq_iff_iff, beq_iff_eq, decide_eq_true_eq]
end Go.Proofs.YtepjdiocicmjcaaDoor
