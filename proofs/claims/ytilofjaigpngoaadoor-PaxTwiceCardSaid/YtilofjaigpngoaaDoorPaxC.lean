/- Package pax: Write; the reference's text. -/
import Derived.Test.YtilofjaigpngoaaDoorPaxB
import Derived.Test.YtilofjaigpngoaaDoorRep
set_option linter.unusedVariables false
set_option maxRecDepth 100000
namespace Go.Proofs.YtilofjaigpngoaaDoor
open Go.RowKit
open Go.OpenShut
theorem isBuilder_below {T e : TypeId} {B b : Nat} {l : List Value} {w w' : World} (h : Lib.IsBuilder T e B b l w) (hb : Below w.heap.size w w') : Lib.IsBuilder T e B b l w' := by
  have key : ∀ p, Lib.BuilderAt T e B b p l w → Lib.BuilderAt T e B b p l w' := by
    intro p h
    have hlt := h.lt
    obtain ⟨hB, v, hk, ho, hne⟩ := h
    refine ⟨hB, v, (hb.block b hlt).trans hk, own_heap ho fun g hg => ?_, hne⟩
    obtain ⟨-, cur, hc⟩ := own_block ho g hg
    refine hb.block g ?_
    rcases Nat.lt_or_ge g w.heap.size with h1 | h1
    · exact h1
    · rw [Array.getElem?_eq_none h1] at hc; cases hc
  rcases h with h | h
  · exact .inl (key _ h)
  · exact .inr (key _ h)
theorem isBuilder_new (T e : TypeId) (B : Nat) (w : World) (hB : B ≤ w.heap.size) : Lib.IsBuilder T e B w.heap.size [] (w.alloc (.cells #[.pointer none, .slice none 0 0] T)) :=
  .inl ⟨hB, _, heap_alloc_new w _, World.ownsRow_nil _ _ _ _, by simp [Value.ownBlock]⟩
theorem textP_take {l : List Rc} {k : Nat} {x : Rc} {t : List Rc} (h : l.drop k = x :: t) : textP (l.take (k + 1)) = textP (l.take k) ++ recL x.1 x.2 := by
  have e : l.take (k + 1) = l.take k ++ [x] := by
    rw [List.take_add, h]; rfl
  rw [e, textP_app, textP_cons, textP_nil, List.append_nil]
theorem take_ok {l : List Rc} (h : ∀ r ∈ l, chkR r.1 r.2 = 0) (k : Nat) : ∀ r ∈ l.take k, chkR r.1 r.2 = 0 := fun r hr => h r (List.mem_of_mem_take hr)
theorem drop_ok {l : List Rc} (h : ∀ r ∈ l, chkR r.1 r.2 = 0) (k : Nat) : ∀ r ∈ l.drop k, chkR r.1 r.2 = 0 := fun r hr => h r (List.mem_of_mem_drop hr)
theorem recL_max {k v : List UInt8} (h : chkR k v = 0) : (recL k v).length ≤ 566 := by
  obtain ⟨-, k2, v2, -⟩ := chkR_of h
  have h2 := recL_len k v (by omega)
  have h3 := recN_bd (k.length + v.length + 3)
  omega
set_option maxHeartbeats 4000000 in
theorem pWrite_any (A : Option Addr) (n c : Nat) (l : List Rc) (hn : l.length = n) (hn2 : n ≤ 140737488355328) (hz : SzR l) (w : World) (T : Tab w) (hA : RecsAt w A l) :
    Calls Tryd.prog 8 #[.slice A n c] w fun e w' => e = .returned (.tuple #[.string (bs (paxW l).1), .int .i64 (paxW l).2]) ∧ Below w.heap.size w w' := by
  have HC := Lib.hid fun W h => pCheck_any A n c l hn hn2 hz W h
  have HA := Lib.hid hA
  by_cases h0 : chkP l = 0
  · obtain ⟨h12, -, hall⟩ := chkP_all h0
    rw [paxW_ok h0]
    rw [h0] at HC
    show Calls Tryd.prog 8 _ w fun e w' => e = .returned (.tuple #[.string (bs (textP l)), .int .i64 0]) ∧ Below w.heap.size w w'
    have HN := Lib.hid hn
    have HO := Lib.hid hall
    have hn12 : n ≤ 12 := by omega
    clear hA hn hz h0 h12 hall
    go_enter Tryd.func8, Tryd.ntmps8
    go_wp2_with fail
    refine (HC.out _ HA.out).mono ?_; rintro e w1 ⟨rfl, hb⟩
    have hw1 : w.heap.size ≤ w1.heap.size := hb.size
    have H0 := Lib.hid (isBuilder_new 50 5 w.heap.size w1 hw1)
    have HB0 := Lib.hid (hb.alloc hw1 (.cells #[.pointer none, .slice none 0 0] 50))
    clear hb
    go_wp2_with fail
    go_loopw [17] (fun i wr => ∃ k : Nat, i = .int .i64 k ∧ k ≤ n ∧ Hid (Lib.IsBuilder 50 5 w.heap.size w1.heap.size (Lib.byteCells (textP (l.take k))) wr) ∧ Hid (Below w.heap.size w wr)) (fun i _ => n - (intOf i).toNat)
    case atStart => exact ⟨0, rfl, Nat.zero_le _, H0, HB0⟩
    case round =>
      obtain ⟨k, rfl, hk, HI, HB⟩ := hrel
      have hws : w.heap.size ≤ wr.heap.size := HB.out.size
      by_cases hlt : k < n
      · obtain ⟨b, o, K, V, rfl, e0, e1, HD, HM⟩ := HA.out.get HB.out HN.out k hlt
        have hc := HO.out _ HM.out
        have hc' : chkR K.data.toList V.data.toList = 0 := hc
        have HT := Lib.hid (textP_take HD.out)
        obtain ⟨-, hK, hV, -⟩ := chkR_of hc'
        rw [sz_list] at hK hV
        have HW := Lib.hid fun W TW => rWrite_any K V W TW (by unfold maxLen; omega) (by unfold maxLen; omega)
        rw [recW_ok hc'] at HW
        unfold recV at HW
        have hls : (textP (l.take k)).length + (bs (recL K.data.toList V.data.toList)).size ≤ 140737488355328 := by
          have h1 := textP_len (take_ok HO.out k)
          have h2 := recL_max hc'
          rw [List.length_take] at h1
          have : min k l.length * 566 ≤ 12 * 566 := Nat.mul_le_mul_right _ (by omega)
          rw [bs_size]; omega
        obtain ⟨S, HS⟩ := hid_name (bs (recL K.data.toList V.data.toList))
        rw [HS.out] at HW hls
        have HTS : Hid (Lib.byteCells (textP (l.take k)) ++ Lib.strCells S = Lib.byteCells (textP (l.take (k + 1)))) := by
          unfold Hid
          rw [HT.out, Lib.strCells_eq, ← HS.out, Lib.byteCells_append]; rfl
        have hb1 := HI.out
        have hI1 := isBuilder_below HI.out ((Below.refl wr.heap.size wr).alloc (Nat.le_refl _) (.cells #[.string K, .string V] 35))
        have hB1 := HB.out.alloc hws (.cells #[.string K, .string V] 35)
        clear hc hc' hK hV hb1 HT
        go_wp2_with fail
        refine (HW.out _ (T.below hB1)).mono ?_; rintro e w2 ⟨rfl, hb⟩
        have hI2 := isBuilder_below hI1 hb
        have hB2 := hB1.trans (hb.mono hB1.size)
        have HI2 := Lib.hid hI2
        have HB2 := Lib.hid hB2
        have hBw2 : w.heap.size ≤ w2.heap.size := hB2.size
        clear hI1 hB1 hI2 hB2 hb
        go_wp2_with fail
        refine (bWrite w.heap.size w1.heap.size _ S w2 HI2.out (by rw [Lib.byteCells_length]; exact hls) hBw2).mono ?_
        rintro e w3 ⟨rfl, h3, hb3⟩
        rw [HTS.out] at h3
        have H3 := Lib.hid (Or.inr h3 : Lib.IsBuilder 50 5 w.heap.size w1.heap.size _ w3)
        have HB3 := Lib.hid (HB2.out.trans hb3)
        clear h3 hb3
        go_wp2_with fail
        go_roundw
        case rel => exact ⟨k + 1, by go_num, by omega, H3, HB3⟩
        case measure => simp [intOf]; omega
      · obtain rfl : k = n := by omega
        have HX : Hid (l.take k = l) := List.take_of_length_le (by rw [HN.out]; omega)
        rw [HX.out] at HI
        go_wp2_with fail
        refine (bString w.heap.size w1.heap.size _ wr HI.out hws).mono ?_
        rintro e w5 ⟨rfl, hb5⟩
        have Hb5 := Lib.hid (HB.out.trans hb5)
        clear hb5
        go_wp2_with fail
        go_ret2
        exact ⟨rfl, Hb5.out⟩
  · rw [paxW_no h0]
    obtain ⟨R, HR⟩ := hid_name (chkP l)
    rw [HR.out] at h0 HC ⊢
    show Calls Tryd.prog 8 _ w fun e w' => e = .returned (.tuple #[.string ⟨#[]⟩, .int .i64 R]) ∧ Below w.heap.size w w'
    have tc : (R != 0) = true := by simpa using h0
    clear hA hn hz h0
    go_enter Tryd.func8, Tryd.ntmps8
    go_wp2_with fail
    refine (HC.out _ HA.out).mono ?_; rintro e w1 ⟨rfl, hb⟩
    have HB := Lib.hid hb
    clear hb
    go_wp2_with fail
    go_ret2
    exact ⟨rfl, HB.out⟩
set_option maxHeartbeats 4000000 in
theorem rPaxText_any (A : Option Addr) (n c : Nat) (l : List Rc) (hn : l.length = n) (hn2 : n ≤ 140737488355328) (hz : SzR l) (w : World) (T : Tab w) (hA : RecsAt w A l) :
    Calls Tryd.prog 10 #[.slice A n c] w fun e w' => e = .returned (.tuple #[.string (bs (paxW l).1), .int .i64 (paxW l).2]) ∧ Below w.heap.size w w' := by
  have HC := Lib.hid fun W h => rPaxFault_any A n c l hn hn2 hz W h
  have HA := Lib.hid hA
  by_cases h0 : chkP l = 0
  · obtain ⟨h12, -, hall⟩ := chkP_all h0
    rw [paxW_ok h0]
    rw [h0] at HC
    show Calls Tryd.prog 10 _ w fun e w' => e = .returned (.tuple #[.string (bs (textP l)), .int .i64 0]) ∧ Below w.heap.size w w'
    have HN := Lib.hid hn
    have HO := Lib.hid hall
    have hn12 : n ≤ 12 := by omega
    have HE : Hid (l.drop n = []) := List.drop_of_length_le (by rw [hn]; omega)
    clear hA hn hz h0 h12 hall
    go_enter Tryd.func10, Tryd.ntmps10
    go_wp2_with fail
    refine (HC.out _ HA.out).mono ?_; rintro e w1 ⟨rfl, hb⟩
    have HB0 := Lib.hid hb
    clear hb
    go_wp2_with fail
    go_loopw [5, 6] (fun s i wr => ∃ (k : Nat) (S : ByteArray), i = .int .i64 ((k : Int) - 1) ∧ s = .string S ∧ k ≤ n ∧ Hid (S = bs (textP (l.drop k))) ∧ Hid (Below w.heap.size w wr)) (fun _ i _ => (intOf i + 1).toNat)
    case atStart => exact ⟨n, _, by go_num, rfl, Nat.le_refl _, (by unfold Hid; rw [HE.out]; rfl), HB0⟩
    case round =>
      obtain ⟨k, S, rfl, rfl, hk, HS, HB⟩ := hrel
      have hws : w.heap.size ≤ wr.heap.size := HB.out.size
      by_cases hlt : 1 ≤ k
      · obtain ⟨j, rfl⟩ : ∃ j, k = j + 1 := ⟨k - 1, by omega⟩
        obtain ⟨b, o, K, V, rfl, e0, e1, HD, HM⟩ := HA.out.get HB.out HN.out j (by omega)
        have hc : chkR K.data.toList V.data.toList = 0 := HO.out _ HM.out
        obtain ⟨-, hK, hV, -⟩ := chkR_of hc
        rw [sz_list] at hK hV
        have HW := Lib.hid fun W TW => rRecText_any K V W TW (by unfold maxLen; omega) (by unfold maxLen; omega)
        rw [recW_ok hc] at HW
        unfold recV at HW
        have hsum : bs (recL K.data.toList V.data.toList) ++ S = bs (textP (l.drop j)) := by
          rw [HS.out, bs_cat, HD.out]; rfl
        have hsz : (bs (recL K.data.toList V.data.toList)).size + S.size ≤ 9223372036854775807 := by
          have h1 := textP_len (drop_ok HO.out (j + 1))
          have h2 := recL_max hc
          rw [List.length_drop] at h1
          have : (l.length - (j + 1)) * 566 ≤ 12 * 566 := Nat.mul_le_mul_right _ (by have := HN.out; omega)
          rw [HS.out, bs_size, bs_size]; omega
        obtain ⟨X, HX⟩ := hid_name (bs (recL K.data.toList V.data.toList))
        rw [HX.out] at HW hsum hsz
        obtain ⟨Y, HY⟩ := hid_name (bs (textP (l.drop j)))
        rw [HY.out] at hsum
        have padd := add_named hsum hsz
        have j1 : (((j + 1 : Nat) : Int) - 1) = (j : Int) := by omega
        rw [j1]
        clear hc hK hV hsum
        go_wp2_with fail
        refine (HW.out _ (T.below HB.out)).mono ?_; rintro e w2 ⟨rfl, hb⟩
        have HB2 := Lib.hid (HB.out.trans (hb.mono hws))
        clear hb
        go_wp2_with fail
        go_roundw
        case rel => exact ⟨j, _, by go_num, rfl, by omega, HY.symm, HB2⟩
        case measure => simp only [intOf]; omega
      · obtain rfl : k = 0 := by omega
        have hx := HS.out
        rw [List.drop_zero] at hx
        have HX := Lib.hid hx
        clear hx
        go_wp2_with fail
        go_ret2
        exact ⟨by rw [HX.out]; rfl, HB.out⟩
  · rw [paxW_no h0]
    obtain ⟨R, HR⟩ := hid_name (chkP l)
    rw [HR.out] at h0 HC ⊢
    show Calls Tryd.prog 10 _ w fun e w' => e = .returned (.tuple #[.string ⟨#[]⟩, .int .i64 R]) ∧ Below w.heap.size w w'
    have tc : (R != 0) = true := by simpa using h0
    clear hA hn hz h0
    go_enter Tryd.func10, Tryd.ntmps10
    go_wp2_with fail
    refine (HC.out _ HA.out).mono ?_; rintro e w1 ⟨rfl, hb⟩
    have HB := Lib.hid hb
    clear hb
    go_wp2_with fail
    go_ret2
    exact ⟨rfl, HB.out⟩
end Go.Proofs.YtilofjaigpngoaaDoor
