/- The law on order.Sort; the bulk of an argument that is a list of nodes. -/
import Derived.Test.YtmgndhdikleagaaOrdC
import Derived.Test.YtmgndhdikleagaaOrdS
import Derived.Test.YtmgndhdikleagaaNodF
import Derived.Test.YtmgndhdikleagaaRows
set_option linter.unusedVariables false
set_option maxRecDepth 100000
namespace Go.Proofs.Ytmgndhdikleagaa
open Go.RowKit
open Go.OpenShut
open Go.ChangeShapes Go.WideShapes Go.Deep
theorem bulk_in {H : Type} {d : DataW H} {l : List (DataW H)} (h : d ∈ l) : Rows.uptoBulk d ≤ Rows.uptoBulkAll l := by
  induction l with
  | nil => cases h
  | cons x r ih =>
    simp only [Rows.uptoBulkAll]
    rcases List.mem_cons.1 h with rfl | h
    · omega
    · have := ih h; omega
section
variable {H : Type} {enc : TypeId × Value → H} {w : World} {base : Nat} {spare : Nat → Bool} {held : Bool}
theorem node_bulk_at {a : NodeV} {D : Option Addr} {c fuel : Nat} {d : DataW H} {p : List MemPlace} (h0 : DataW.trod enc Try.prog w base spare held fuel 31 (nodC a D c) = some (d, p)) : a.path.length + 1 ≤ Rows.uptoBulk d := by
  obtain ⟨f0, f1, f2, f3, f4, f5, he, ⟨t0, -⟩, o0, -⟩ := node_flds
  obtain ⟨ys, n', hn', hy, hlen, hyl, hf⟩ := DataW.trod_struct he h0
  have ks : Try.prog.cellsOf 9 = 1 := by kernel_rfl
  obtain ⟨y0, y1, y2, y3, y4, y5, rfl⟩ := list6 hyl
  have h1 := hf 0 f0 rfl
  rw [t0, o0, ks] at h1
  obtain ⟨s0, q0, x0, -⟩ := DataW.trod_string Try.underlying9 (show DataW.trod enc Try.prog w base spare held n' 9 [.string (bs a.path)] = some y0 from h1)
  simp only [List.cons.injEq, and_true, Value.string.injEq] at q0
  subst x0
  have hd : d = .agg ([(DataW.lit (Lit.string s0.data.toList), ([] : List MemPlace)), y1, y2, y3, y4, y5].map (·.1)) := congrArg Prod.fst hy
  have hb := bulk_in (d := (DataW.lit (Lit.string s0.data.toList) : DataW H)) (l := [(DataW.lit (Lit.string s0.data.toList), ([] : List MemPlace)), y1, y2, y3, y4, y5].map (·.1)) (by simp)
  simp only [Rows.uptoBulk] at hb
  rw [hd]
  have hl : s0.data.toList.length = a.path.length := by rw [← q0]; rfl
  have e : Rows.uptoBulk (.agg ([(DataW.lit (Lit.string s0.data.toList), ([] : List MemPlace)), y1, y2, y3, y4, y5].map (·.1))) = Rows.uptoBulkAll ([(DataW.lit (Lit.string s0.data.toList), ([] : List MemPlace)), y1, y2, y3, y4, y5].map (·.1)) + 1 := by simp only [Rows.uptoBulk]
  rw [e]
  omega
theorem nodes_bulk {A : Option Addr} {n c : Nat} {l : List NodeV} {d : DataW H} {p : List MemPlace} (h : DataW.Trod enc Try.prog w base spare held 22 (.slice A n c) d p) (hn : l.length = n) (hA : NodesAt w A l) : ∀ x ∈ l, x.path.length + 1 ≤ Rows.uptoBulk d := by
  obtain ⟨fuel, hf⟩ := h
  rcases open_slice Try.underlying22 hf with ⟨hcs, hx⟩ | ⟨a, len, cap, m, n', D, Pl, hcs, hb, hl, hm, hmm, hx, hi⟩
  · simp only [Value.cells, List.cons.injEq, Value.slice.injEq, and_true] at hcs
    obtain ⟨rfl, rfl, rfl⟩ := hcs
    intro x hx
    rw [List.eq_nil_of_length_eq_zero hn] at hx
    cases hx
  · simp only [Value.cells, List.cons.injEq, Value.slice.injEq, and_true] at hcs
    obtain ⟨rfl, rfl, rfl⟩ := hcs
    have hlm : n ≤ m := by rw [hmm]; split <;> omega
    simp only [Prod.mk.injEq] at hx
    obtain ⟨hxd, -⟩ := hx
    subst hxd
    intro x hx
    obtain ⟨i, hil, rfl⟩ := List.getElem_of_mem hx
    obtain ⟨cs', hc, ht'⟩ := hi i (by omega)
    rw [show Try.prog.cellsOf 31 = 12 by kernel_rfl] at hc
    obtain ⟨_, hcl, hat⟩ := World.cells?_some hc
    obtain ⟨b, o, Dd, cc, e, h12, -⟩ := hA i hil
    injection e with e
    have hcs : cs' = nodC l[i] Dd cc := by
      apply List.ext_getElem?
      intro j
      by_cases hj : j < 12
      · rw [← hat j hj, ← h12 j hj, Go.Deep.add_add, e, Addr.add_lit, Nat.add_assoc]
      · rw [List.getElem?_eq_none (by omega), List.getElem?_eq_none (by show 12 ≤ j; omega)]
    rw [hcs] at ht'
    have h1 := node_bulk_at ht'
    have h2 := bulk_in (d := D i) (l := (List.range n).map D) (List.mem_map.2 ⟨i, List.mem_range.2 (by omega), rfl⟩)
    simp only [Rows.uptoBulk]
    omega
end
set_option maxHeartbeats 2000000 in
theorem OrderSorts_walk (A0 : Option Addr) (n0 c0 : Nat) (l0 : List NodeV) (hn0 : l0.length = n0) (hm0 : n0 * 144 ≤ 140737488351232) (hf0 : ∀ r ∈ l0, r.wf) (hs0 : SlOk A0 n0 c0) (hb : ∀ x ∈ l0, x.path.length ≤ 1048576) (w : World) (hr0 : NodesAt w A0 l0) :
    Calls Try.prog 3 #[.slice A0 n0 c0] w fun e w' => e = .returned (.bool true) ∧ Below w.heap.size w w' := by
  have hsz : ∀ x ∈ l0, x.sz := fun x hx => (hf0 x hx).sz
  have HA := Lib.hid hr0
  have H1 := Lib.hid fun W h => Sort_any A0 n0 c0 l0 hn0 hm0 hsz W h
  have H2 := Lib.hid fun W h => rSort_any A0 n0 c0 l0 hn0 hm0 hsz (fun x hx => by have := hb x hx; omega) W h
  have hl : (sortT l0).length = n0 := by rw [sortT_len]; exact hn0
  have HS := Lib.hid fun (A A2 : Option Addr) (c c2 : Nat) w h h' => sameTree_any A A2 n0 c n0 c2 (sortT l0) (sortT l0) hl hl (by omega) (by omega) w h h'
  have HL := Lib.hid hl
  generalize sortT l0 = r at *
  clear hr0 hf0 hsz hn0 hs0 hb hl
  go_enter Try.func3, Try.ntmps3
  go_wp2_with fail
  refine (H1.out _ HA.out).mono ?_; rintro e1 wa ⟨v1, x1, rfl, hx1, hO1, hb⟩
  have HB1 := Lib.hid hb
  have HO1 := Lib.hid hO1
  have HX1 := Lib.hid hx1
  clear hb hO1 hx1
  go_wp2_with fail
  refine (H2.out _ (HA.out.below HB1.out)).mono ?_; rintro e1 wb ⟨v2, x2, rfl, hx2, hO2, hb⟩
  have HB2 := Lib.hid (HB1.out.trans (hb.mono HB1.out.size))
  obtain ⟨A1, d1, he1, hs1, hat1⟩ := (HO1.out.below hb).at
  obtain ⟨A2, d2, he2, hs2, hat2⟩ := hO2.at
  rw [HX1.out] at hat1
  rw [hx2] at hat2
  have hl1 : x1.length = n0 := by have := congrArg List.length HX1.out; rw [List.length_map] at this; rw [this]; exact HL.out
  have hl2 : x2.length = n0 := by have := congrArg List.length hx2; rw [List.length_map] at this; rw [this]; exact HL.out
  rw [hl1] at he1
  rw [hl2] at he2
  subst he1 he2
  have HC := Lib.hid (HS.out A1 A2 d1 d2 wb hat1 hat2)
  simp only [decide_true] at HC
  clear hb hO2 hx2 hs1 hs2 hat1 hat2 hl1 hl2 HO1 HX1 HS H1 H2
  go_wp2_with fail
  refine HC.out.mono ?_; rintro e1 wc ⟨rfl, hb⟩
  have HB3 := Lib.hid (HB2.out.trans (hb.mono HB2.out.size))
  clear hb
  go_wp2_with fail
  go_ret
  exact ⟨rfl, HB3.out⟩
end Go.Proofs.Ytmgndhdikleagaa
