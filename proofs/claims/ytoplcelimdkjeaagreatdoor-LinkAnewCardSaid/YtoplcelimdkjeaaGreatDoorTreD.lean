/- The sorting of nodes. -/
import Derived.Test.YtoplcelimdkjeaaGreatDoorTreC
set_option linter.unusedVariables false
set_option maxRecDepth 100000
namespace Go.Proofs.YtoplcelimdkjeaaGreatDoor
open Go.RowKit
open Go.OpenShut
theorem flatK_enc (d : Array NodeD) : (Go.Sort.flatK encN 12 d).toList = encC d.toList := by
  apply List.ext_getElem?
  intro t
  by_cases ht : t < d.size * 12
  · have h1 := Go.Sort.get_flatK encN 12 d t ht
    have hlt : t < (Go.Sort.flatK encN 12 d).size := by rw [Go.Sort.size_flatK]; exact ht
    rw [getElem!_pos _ t hlt] at h1
    rw [Array.getElem?_toList, Array.getElem?_eq_getElem hlt, h1]
    have hd : t / 12 < d.size := by omega
    have hm : t % 12 < 12 := Nat.mod_lt _ (by omega)
    have e := encC_get d.toList (t / 12) (t % 12) (by simpa using hd) hm
    rw [show t / 12 * 12 + t % 12 = t by omega] at e
    rw [e, getElem!_pos d (t / 12) hd, Array.getElem_toList]
    have hm' : t % 12 < (encN d[t / 12]).length := by rw [encN_length]; exact hm
    rw [List.getElem?_eq_getElem hm', getElem!_pos (encN d[t / 12]) (t % 12) hm']
  · rw [List.getElem?_eq_none (by simp; omega), List.getElem?_eq_none (by rw [encC_length]; simp; omega)]
theorem putCells_all (F c : Array Value) (h : F.size ≤ c.size) : (Go.Sort.putCells id 0 F c).size = c.size ∧ (Go.Sort.putCells id 0 F c).toList.take F.size = F.toList := by
  refine ⟨by simp [Go.Sort.putCells], ?_⟩
  apply List.ext_getElem?
  intro t
  by_cases ht : t < F.size
  · rw [List.getElem?_take_of_lt ht, Array.getElem?_toList, Array.getElem?_toList]
    simp only [Go.Sort.putCells, Array.getElem?_mapIdx]
    rw [Array.getElem?_eq_getElem (by omega : t < c.size), Array.getElem?_eq_getElem ht]
    simp only [Option.map_some]
    rw [if_pos (by omega), Nat.sub_zero, getElem!_pos F t ht]; rfl
  · rw [List.getElem?_eq_none (by rw [List.length_take]; omega), List.getElem?_eq_none (by simpa using ht)]
theorem sorted_world (w : World) (g m : Nat) (os : Array Obj) (d' : Array NodeD) (cur : Array Value) (hg : w.heap[g]? = some (.cells cur 37 (0, 0))) (hs : d'.size * 12 ≤ cur.size) :
    (∃ cur', (sortWorldK encN 12 w g 0 m d' os).heap[g]? = some (.cells cur' 37 (0, 0)) ∧ cur'.size = cur.size ∧ cur'.toList.take (d'.size * 12) = encC d'.toList) ∧ w.grownBy (sortWorldK encN 12 w g 0 m d' os) (some g) := by
  have hlt : g < w.heap.size := heap_lt hg
  have hF : (Go.Sort.flatK encN 12 d').size = d'.size * 12 := Go.Sort.size_flatK _ _ _
  obtain ⟨p1, p2⟩ := putCells_all (Go.Sort.flatK encN 12 d') cur (by rw [hF]; exact hs)
  rw [hF, flatK_enc] at p2
  unfold sortWorldK Go.Sort.putRowK Go.Sort.putRow Go.Sort.mapBlock Go.Sort.ahead
  constructor
  · refine ⟨_, ?_, p1, p2⟩
    rw [Go.Sort.heap_grow_old _ _ (by simpa using hlt)]
    simp only [Array.getElem?_modify, if_true, hg, Option.map_some, Go.Sort.onCells]
  · refine ⟨rfl, rfl, rfl, by simp, fun k hk hne => ?_⟩
    rw [Go.Sort.heap_grow_old _ _ (by simpa using hk)]
    simp only [Array.getElem?_modify]
    rw [if_neg (fun e => hne (by rw [e]))]
set_option maxHeartbeats 800000 in
theorem Sort_nodes (w : World) (B : Nat) (v : Value) (xs : List NodeD) (h : Nodes w B v xs) (hl : xs.length ≤ 1000000) :
    Calls Tryz.prog 18 #[v, .func (.func 19) #[] #[]] w fun e w' => e = .returned (.tuple #[]) ∧ ∃ ys : List NodeD, ys.Perm xs ∧ (∀ i j (hi : i < j) (hj : j < ys.length), pcmp (keyL (ys[i]'(by omega))) (keyL ys[j]) ≤ 0) ∧ Nodes w' B v ys ∧ w.grownBy w' v.ownBlock := by
  have h' := h
  unfold Nodes World.ownsRow at h'
  rcases h'.2 with ⟨rfl, h0⟩ | ⟨g, cap, cur, rfl, hB, hg, hcap, hm, hsz, htk⟩
  · have hx0 : xs = [] := List.eq_nil_of_length_eq_zero h0
    subst hx0
    exact (Tryz.slices_SortFunc_none (α := Nat) none 0 (.func (.func 19) #[] #[]) w).mono fun e w' ⟨a, b⟩ => ⟨a, [], List.Perm.nil, (fun i j _ hj => by simp at hj), b ▸ h, b ▸ World.grownBy.refl w _⟩
  · have eg : ∀ args w, (callFunc 19 args).run Tryz.prog w = .ok (.enter 19 args) w := enters_of Tryz.func19 (by kernel_rfl) rfl
    have hH : Go.Sort.HoldsK encN 12 w g 0 xs.toArray := by
      intro j hj
      rw [Go.Sort.size_flatK] at hj
      have hj' : j < xs.length * 12 := by simpa using hj
      have hlt : j < (Go.Sort.flatK encN 12 xs.toArray).size := by rw [Go.Sort.size_flatK]; exact hj
      have hfl := flatK_enc xs.toArray
      have e1 : (Go.Sort.flatK encN 12 xs.toArray)[j]? = (encC xs)[j]? := by rw [← Array.getElem?_toList, hfl]
      rw [Array.getElem?_eq_getElem hlt] at e1
      refine ⟨?_, World.ownsRow.frozenAt h _⟩
      rw [Nat.zero_add, World.ownsRow.cellAt h j hj', ← e1, getElem!_pos _ j hlt]; rfl
    have hcon := Tryz.slices_SortFunc 12 Tryz.isAgg37 Tryz.sizeOf37 encN encN_length encN_one (fun x y => pcmp (keyL x) (keyL y)) swoN 19 #[] g 0 cap xs.toArray w eg (cmp_lays g 0 _ w) hH (heap_lt hg) (by simp; omega)
    refine hcon.mono fun e w' ⟨he, d', n, os, hp, hs, hw⟩ => ⟨he, d'.toList, ?_, ?_, ?_, ?_⟩
    · have h2 := hp.2.2
      have e1 : d'.size = xs.length := by simpa using hp.1
      have e2 : d'.extract 0 xs.toArray.size = d' := by rw [← hp.1]; simp
      have e3 : xs.toArray.extract 0 xs.toArray.size = xs.toArray := by simp
      rw [e2, e3] at h2
      simpa using h2
    · intro i j hi hj
      have e1 : d'.size = xs.toArray.size := hp.1
      have hj' : j < d'.size := by simpa using hj
      have := hs i j (Nat.zero_le _) hi (by omega)
      rw [ltOf_eq, decide_eq_false_iff_not, getElem!_pos d' j hj', getElem!_pos d' i (by omega)] at this
      have h3 := pcmp_neg (keyL d'[j]) (keyL (d'[i]'(by omega)))
      simp only [Array.getElem_toList]
      omega
    · have e1 : d'.size = xs.length := by simpa using hp.1
      obtain ⟨⟨cur', k1, k2, k3⟩, _⟩ := sorted_world w g n os d' cur hg (by rw [e1, hsz]; exact Nat.mul_le_mul_right 12 hcap)
      rw [hw]
      refine ⟨encC_length _, .inr ⟨g, cap, cur', ?_, hB, k1, ?_, hm, by rw [k2, hsz], ?_⟩⟩
      · simp [e1]
      · simp [e1]; exact hcap
      · have e2 : d'.toList.length = d'.size := by simp
        rw [e2]; exact k3
    · have e1 : d'.size = xs.length := by simpa using hp.1
      rw [hw]
      exact (sorted_world w g n os d' cur hg (by rw [e1, hsz]; exact Nat.mul_le_mul_right 12 hcap)).2
end Go.Proofs.YtoplcelimdkjeaaGreatDoor
