/- The program's signs of a part: byteStep, partFits. -/
import Derived.Test.YtilmfnlhpnbngaaDoorGlqB
import Derived.Test.YtilmfnlhpnbngaaDoorGlqD
import Derived.Test.YtilmfnlhpnbngaaDoorGlbN
import Derived.Deep.RegionWith
set_option linter.unusedVariables false
set_option maxRecDepth 100000
namespace Go.Proofs.YtilmfnlhpnbngaaDoor
open Go.RowKit
open Go.OpenShut
theorem bs1_any (v : Value) (W : World) : Calls Tryd.prog 60 #[v] W fun e w' => e = .returned (.bool true) ∧ W = w' := by
  go_enter Tryd.func60, Tryd.ntmps60
  go_wp2_with fail
  go_ret
  exact ⟨rfl, rfl⟩
theorem bs2_any (x c : UInt8) (b : Nat) (W : World) (h : W.cell? ⟨b, 0, none⟩ = some (.int .u8 c.toNat)) : Calls Tryd.prog 61 #[.int .u8 x.toNat, .pointer (some ⟨b, 0, none⟩)] W fun e w' => e = .returned (.bool (decide (x = c))) ∧ W = w' := by
  have hq := byte_eq x c
  go_enter Tryd.func61, Tryd.ntmps61
  go_wp2_with fail
  go_ret
  exact ⟨rfl, rfl⟩
/-- all stays but lists of signs -/
def frT (w W : World) : Prop := ∀ (g : Nat) (cs : Array Value) (t : TypeId) (fr : Nat × Nat), w.heap[g]? = some (.cells cs t fr) → t ≠ 71 → t ≠ 73 → t ≠ 63 → W.heap[g]? = some (.cells cs t fr)
theorem gq_lt {w : World} {g : Nat} {o : Obj} (h : w.heap[g]? = some o) : g < w.heap.size := by
  rcases Nat.lt_or_ge g w.heap.size with hlt | hge
  · exact hlt
  · rw [Array.getElem?_eq_none hge] at h; cases h
theorem frT_frame : Frame frT := ⟨fun w W h g cs t fr hg _ _ _ => (h.block g (gq_lt hg)).trans hg, fun _ _ _ h h2 g cs t fr hg a b c => h2 g cs t fr (h g cs t fr hg a b c) a b c⟩
theorem frT_blk {w W : World} {b t : Nat} {cs : Array Value} (ht : t ≠ 71 ∧ t ≠ 73 ∧ t ≠ 63) (h : Blk w b t cs) (hf : frT w W) : Blk W b t cs := hf b cs t (0, 0) h ht.1 ht.2.1 ht.2.2
/-- all stays but lists of a path's signs -/
def frP (w W : World) : Prop := ∀ (g : Nat) (cs : Array Value) (t : TypeId) (fr : Nat × Nat), w.heap[g]? = some (.cells cs t fr) → t ≠ 63 → W.heap[g]? = some (.cells cs t fr)
theorem frP_frame : Frame frP := ⟨fun w W h g cs t fr hg _ => (h.block g (gq_lt hg)).trans hg, fun _ _ _ h h2 g cs t fr hg a => h2 g cs t fr (h g cs t fr hg a) a⟩
theorem frP_blk {w W : World} {b t : Nat} {cs : Array Value} (ht : t ≠ 63) (h : Blk w b t cs) (hf : frP w W) : Blk W b t cs := hf b cs t (0, 0) h ht
theorem frP_T {w W : World} (h : frP w W) : frT w W := fun g cs t fr hg _ _ c => h g cs t fr hg c
theorem Fns.frP {w w' : World} {B t : Nat} {v : Value} {fs : List Value} (ht : t ≠ 63) (h : Fns w B t v fs) (hk : frP w w') : Fns w' B t v fs := own_heap h fun g hg => by
  obtain ⟨_, cur, hc⟩ := own_block h g hg
  rw [hk _ _ _ _ hc ht, hc]
theorem inner_list (q : ByteArray) (k : Nat) (hk : k + 1 = q.size) : (q.extract 1 k).data.toList = innL q.data.toList := by
  have hl : q.data.toList.length = q.size := by simp
  unfold innL
  rw [ByteArray.data_extract, Array.toList_extract, hl, List.extract, List.drop_take]
  congr 1; omega
theorem pieceT_set {q : List UInt8} (h : 1 < q.length) : pieceT q = (false, setT (innL q)) := if_pos h
theorem pieceT_one (c : UInt8) : pieceT [c] = if c = 42 then (true, span 42 42) else if c = 63 then (false, fun _ => true) else (false, span c c) := by
  unfold pieceT
  rw [if_neg (by simp)]
  simp only [List.head?_cons, Option.some.injEq, List.headD_cons]
set_option maxHeartbeats 2000000 in
theorem byteStep_any (q : ByteArray) (h1 : 1 ≤ q.size) (hq : q.size ≤ 1000) (w : World) : Calls Tryd.prog 50 #[.string q] w fun e w' => ∃ v, e = .returned v ∧ v.oneCell' = true ∧ v.cells = #[v] ∧ StepV frT encB limB w' v (tokStar (pieceT q.data.toList)) (tokFits (pieceT q.data.toList)) ∧ Below w.heap.size w w' := by
  have hl : q.data.toList.length = q.size := by simp
  by_cases h : 1 < q.size
  · rw [pieceT_set (by omega)]
    obtain ⟨k, hk⟩ : ∃ k, k + 1 = q.size := ⟨q.size - 1, by omega⟩
    have hS := fun W => set_any frT (fun _ _ _ _ => frT_blk (by decide)) (fun _ _ _ _ => frT_blk (by decide)) (q.extract 1 k) (by rw [ByteArray.size_extract]; omega) W
    rw [inner_list q k hk] at hS
    have HS := Lib.hid hS
    have wk : IntKind.i64.wrap ((q.size : Int) - 1) = (k : Int) := by rw [IntKind.wrap_i64]; omega
    generalize setT (innL q.data.toList) = F at HS ⊢
    have hk1 : 1 ≤ k := by omega
    have hk2 : k ≤ q.size := by omega
    clear hS hl hk
    go_enter Tryd.func50, Tryd.ntmps50
    go_wp2_with fail
    refine (HS.out _).mono ?_; rintro e w1 ⟨fv, rfl, hF, hB⟩
    have HF := Lib.hid hF
    have HB := Lib.hid hB
    clear hF hB
    go_wp2_with fail
    refine (oneB_any frT frT_frame (fun _ _ _ _ => frT_blk (by decide)) encB limB fv _ _ HF.out).mono ?_; rintro e w2 ⟨v, rfl, e1, e2, hs, hB2⟩
    have HB2 := Lib.hid (HB.out.trans (hB2.mono HB.out.size))
    have HS2 := Lib.hid hs
    have HE := Lib.hid (And.intro e1 e2)
    clear hs hB2 e1 e2
    go_wp2_with fail
    go_ret
    exact ⟨v, rfl, HE.out.1, HE.out.2, HS2.out, HB2.out⟩
  · have e1 : q.size = 1 := by omega
    have h0 : 0 < q.size := by omega
    have eq : q.data.toList = [q[0]] := by
      have e0 := drop_at q 0 h0
      rw [List.drop_zero] at e0
      rw [e0, List.drop_eq_nil_of_le (by omega)]
    rw [eq, pieceT_one]
    have hcl : q[0].toNat < 256 := q[0].toNat_lt
    have h' : ¬ (1 : Int) < (q.size : Int) := by omega
    have hnb := Blk.new w 5 #[.int .u8 q[0].toNat]
    have HB1 := Lib.hid (belowA (Below.refl w.heap.size w) (.cells #[.int .u8 q[0].toNat] 5))
    have hc1 : (w.alloc (.cells #[.int .u8 q[0].toNat] 5)).cell? ⟨w.heap.size, 0, none⟩ = some (.int .u8 q[0].toNat) := by rw [hnb.cell]; rfl
    have HN := Lib.hid hnb
    clear e1 eq hl hnb
    by_cases h42 : q[0] = 42
    · have b1 : ((q[0].toNat : Int) == 42) = true := u8_num q[0] 42 h42
      rw [if_pos h42]
      clear h42
      go_enter Tryd.func50, Tryd.ntmps50
      go_wp2_with fail
      refine (starB_any frT encB limB (tokFits (true, span 42 42)) _).mono ?_; rintro e w2 ⟨v, rfl, e1, e2, hs, rfl⟩
      have HS2 := Lib.hid hs
      have HE := Lib.hid (And.intro e1 e2)
      clear hs e1 e2
      go_wp2_with fail
      go_ret
      exact ⟨v, rfl, HE.out.1, HE.out.2, HS2.out, HB1.out⟩
    · have b1 : ((q[0].toNat : Int) == 42) = false := u8_not q[0] 42 h42
      rw [if_neg h42]
      by_cases h63 : q[0] = 63
      · have b2 : ((q[0].toNat : Int) == 63) = true := u8_num q[0] 63 h63
        rw [if_pos h63]
        clear h42 h63
        have HF : Hid (∀ W, FitV frT encB limB W (.func (.func 60) #[] #[]) fun _ => true) := fun W => ⟨60, #[], ⟨rfl, enters_of Tryd.func60 (by kernel_rfl) rfl⟩, fun W hW x _ args ha => by
          subst ha
          refine (bs1_any _ W).mono ?_; rintro e w' ⟨rfl, rfl⟩
          exact ⟨rfl, Below.refl _ _⟩⟩
        go_enter Tryd.func50, Tryd.ntmps50
        go_wp2_with fail
        refine (oneB_any frT frT_frame (fun _ _ _ _ => frT_blk (by decide)) encB limB _ _ _ (HF.out _)).mono ?_; rintro e w2 ⟨v, rfl, e1, e2, hs, hB2⟩
        have HB2 := Lib.hid (HB1.out.trans (hB2.mono HB1.out.size))
        have HS2 := Lib.hid hs
        have HE := Lib.hid (And.intro e1 e2)
        clear hs hB2 e1 e2
        go_wp2_with fail
        go_ret
        exact ⟨v, rfl, HE.out.1, HE.out.2, HS2.out, HB2.out⟩
      · have b2 : ((q[0].toNat : Int) == 63) = false := u8_not q[0] 63 h63
        rw [if_neg h63]
        clear h42 h63
        have HF : Hid (FitV frT encB limB (w.alloc (.cells #[.int .u8 q[0].toNat] 5)) (.func (.func 61) #[] #[.pointer (some ⟨w.heap.size, 0, none⟩)]) (span q[0] q[0])) := ⟨61, #[.pointer (some ⟨w.heap.size, 0, none⟩)], ⟨rfl, enters_of Tryd.func61 (by kernel_rfl) rfl⟩, fun W hW x _ args ha => by
          rw [app11] at ha
          subst ha
          refine (bs2_any x q[0] w.heap.size W (by rw [(frT_blk (by decide) HN.out hW).cell]; rfl)).mono ?_; rintro e w' ⟨rfl, rfl⟩
          exact ⟨by rw [span_self], Below.refl _ _⟩⟩
        generalize span q[0] q[0] = F at HF ⊢
        go_enter Tryd.func50, Tryd.ntmps50
        go_wp2_with fail
        refine (oneB_any frT frT_frame (fun _ _ _ _ => frT_blk (by decide)) encB limB _ _ _ HF.out).mono ?_; rintro e w2 ⟨v, rfl, e1, e2, hs, hB2⟩
        have HB2 := Lib.hid (HB1.out.trans (hB2.mono HB1.out.size))
        have HS2 := Lib.hid hs
        have HE := Lib.hid (And.intro e1 e2)
        clear hs hB2 e1 e2
        go_wp2_with fail
        go_ret
        exact ⟨v, rfl, HE.out.1, HE.out.2, HS2.out, HB2.out⟩
end Go.Proofs.YtilmfnlhpnbngaaDoor
