/- Package pax: Write; the reference's text. -/
import Derived.Test.YtepjdiocicmjcaaDoorPaxB
import Derived.Test.YtepjdiocicmjcaaDoorRep
set_option linter.unusedVariables false
set_option maxRecDepth 100000
namespace Go.Proofs.YtepjdiocicmjcaaDoor
open Go.RowKit
open Go.OpenShut
theorem isBuilder_below {T e : TypeId} {B b : Nat} {l : List Value} {w w' : World} (h : Lib.IsBuilder T e B b l w) (hb : Below w.heap.size w w') : Lib.IsBuilder T e B b l w' := by
  have key : ∀ p, Lib.BuilderAt T e B b p l w → Lib.BuilderAt T e B b p l w' := by
    intro p h
    have hlt := h.lt
    obtain ⟨hB, v, hk, ho, hne⟩ := h
    refine ⟨hB, v, (hb.block b hlt).trans hk, own_heap ho fun g hg => ?_, hne⟩
    obtain ⟨-, cur, hc⟩ := own_block ho g hg
    refine hb.block g ?_
    rcases Nat.lt_or_ge g w.heap.size with h1 | h1
    · exact h1
    · rw [Array.getElem?_eq_none h1] at hc; cases hc
  rcases h with h | h
  · exact .inl (key _ h)
  · exact .inr (key _ h)
theorem isBuilder_new (T e : TypeId) (B : Nat) (w : World) (hB : B ≤ w.heap.size) : Lib.IsBuilder T e B w.heap.size [] (w.alloc (.cells #[.pointer none, .slice none 0 0] T)) :=
  .inl ⟨hB, _, heap_alloc_new w _, World.ownsRow_nil _ _ _ _, by simp [Value.ownBlock]⟩
theorem textP_take {l : List Rc} {k : Nat} {x : Rc} {t : List Rc} (h : l.drop k = x :: t) : textP (l.take (k + 1)) = textP (l.take k) ++ recL x.1 x.2 := by
  have e : l.take (k + 1) = l.take k ++ [x] := by
    rw [List.take_add, h]; rfl
  rw [e, textP_app, textP_cons, textP_nil, List.append_nil]
theorem take_ok {l : List Rc} (h : ∀ r ∈ l, chkR r.1 r.2 = 0) (k : Nat) : ∀ r ∈ l.take k, chkR r.1 r.2 = 0 := fun r hr => h r (List.mem_of_mem_take hr)
theorem drop_ok {l : List Rc} (h : ∀ r ∈ l, chkR r.1 r.2 = 0) (k : Nat) : ∀ r ∈ l.drop k, chkR r.1 r.2 = 0 := fun r hr => h r (List.mem_of_mem_drop hr)
theorem recL_max {k v : List UInt8} (h : chkR k v = 0) : (recL k v).length ≤ 566 := by
  obtain ⟨-, k2, v2, -⟩ := chkR_of h
  have h2 := recL_len k v (by omega)
  have h3 := recN_bd (k.length + v.length + 3)
  omega
end Go.Proofs.YtepjdiocicmjcaaDoor
