/- Texts of one kind, in one file: GlbA, GlbF. -/
import Derived.Test.YtoikpnjnljdpaaaGreatDoorMth
import Derived.Test.YtoikpnjnljdpaaaGreatDoorBas
import Derived.Deep.DeepCutAuto
import Derived.Test.YtoikpnjnljdpaaaGreatDoorPth
/- The reference's table. -/
set_option linter.unusedVariables false
set_option maxRecDepth 100000
namespace Go.Proofs.YtoikpnjnljdpaaaGreatDoor
open Go.RowKit
open Go.OpenShut
/-- a row of the table -/
def rowR (R : Nat → Nat → Bool) (i m : Nat) : List Bool := (List.range (m + 1)).map (R i)
/-- the next row under way: k of its truths behind the first -/
def nextR (R : Nat → Nat → Bool) (i m k : Nat) : List Bool := (List.range (k + 1)).map (R (i + 1)) ++ List.replicate (m - k) false
theorem rowR_get (R : Nat → Nat → Bool) (i m k : Nat) (hk : k < m + 1) : (rowR R i m)[k]? = some (R i k) := by
  unfold rowR; simp [hk]
theorem nextR_get (R : Nat → Nat → Bool) (i m k j : Nat) (hj : j < k + 1) : (nextR R i m k)[j]? = some (R (i + 1) j) := by
  unfold nextR
  rw [List.getElem?_append_left (by simp; omega)]
  simp [hj]
theorem nextR_len (R : Nat → Nat → Bool) (i m k : Nat) (hk : k ≤ m) : (nextR R i m k).length = m + 1 := by unfold nextR; simp; omega
theorem nextR_end (R : Nat → Nat → Bool) (i m : Nat) : nextR R i m m = rowR R (i + 1) m := by unfold nextR rowR; simp
theorem nextR_set (R : Nat → Nat → Bool) (i m k : Nat) (hk : k < m) : (nextR R i m k).set (k + 1) (R (i + 1) (k + 1)) = nextR R i m (k + 1) := by
  unfold nextR
  rw [List.set_append_right _ _ (by simp)]
  simp only [List.length_map, List.length_range, Nat.sub_self]
  obtain ⟨q, hq⟩ : ∃ q, m - k = q + 1 := ⟨m - k - 1, by omega⟩
  rw [hq, List.replicate_succ, List.set_cons_zero, show m - (k + 1) = q by omega, List.range_succ (n := k + 1), List.map_append]
  simp
def bA (l : List Bool) : Array Value := (l.map Value.bool).toArray
theorem bA_get (l : List Bool) (k : Nat) : (bA l)[k]? = l[k]?.map Value.bool := by unfold bA; simp
theorem bA_set (l : List Bool) (k : Nat) (b : Bool) : (bA l).setIfInBounds k (.bool b) = bA (l.set k b) := by
  unfold bA; rw [List.setIfInBounds_toArray, List.map_set]
theorem info_bool : (Tryz.prog.info? 4).map (fun i => (i.zero, i.size, i.bytes)) = some (some (.bool false), 1, 1) := by kernel_rfl
/-- make([]bool, n) -/
theorem made_bools (n : Nat) (hn : n ≤ 1000000) : ∀ W : World, (Instr.makeSlice 169 (.int .i64 (n : Int)) (.int .i64 (n : Int))).run Tryz.prog W = .ok (.slice (some ⟨W.heap.size, 0, none⟩) n n) (W.alloc (.cells (bA (List.replicate n false)) 4)) := fun W => by
  obtain ⟨i0, hi, hz0, hz1, hz2⟩ := info_parts info_bool
  have h := run_make (P := Tryz.prog) W 169 4 i0 (.bool false) Tryz.underlying169 hi hz0 .i64 .i64 (n : Int) (n : Int) (by omega) (by omega) (by rw [hz2]; omega) (by omega)
  have hM : madeCells (Value.bool false).cells (((n : Nat) : Int).toNat * i0.size) = bA (List.replicate n false) := by
    rw [hz1, Int.toNat_natCast, Nat.mul_one]
    apply Array.ext
    · simp [madeCells, bA]
    · intro j h1 h2
      simp [madeCells, bA, Value.cells, Nat.mod_one]
  rw [hM] at h
  simpa using h
set_option maxHeartbeats 8000000 in
theorem table_any (f g : Nat) (p p1 p2 : Value) (St : Nat → Bool) (Ft : Nat → Nat → Bool) (R : Nat → Nat → Bool) (n m : Nat) (hn : n ≤ 1000) (hm : m ≤ 1000)
    (ef : ∀ args w, (callFunc f args).run Tryz.prog w = .ok (.enter f args) w) (eg : ∀ args w, (callFunc g args).run Tryz.prog w = .ok (.enter g args) w) (w : World)
    (hf : ∀ i, i < n → ∀ W, Below w.heap.size w W → Calls Tryz.prog f #[.int .i64 (i : Nat), p] W fun e w' => e = .returned (.bool (St i)) ∧ Below W.heap.size W w')
    (hg : ∀ i k, i < n → k < m → ∀ W, Below w.heap.size w W → Calls Tryz.prog g #[.int .i64 (i : Nat), .int .i64 (k : Nat), p1, p2] W fun e w' => e = .returned (.bool (Ft i k)) ∧ Below W.heap.size W w')
    (h00 : R 0 0 = true) (h0k : ∀ k, k < m → R 0 (k + 1) = false) (hi0 : ∀ i, i < n → R (i + 1) 0 = (R i 0 && St i)) (hik : ∀ i k, i < n → k < m → R (i + 1) (k + 1) = if St i then R i (k + 1) || R (i + 1) k else R i k && Ft i k) :
    Calls Tryz.prog 123 #[.int .i64 (n : Nat), .int .i64 (m : Nat), .func (.func f) #[] #[p], .func (.func g) #[] #[p1, p2]] w fun e w' => e = .returned (.bool (R n m)) ∧ Below w.heap.size w w' := by
  have HF := Lib.hid hf
  have HG := Lib.hid hg
  have HI0 := Lib.hid hi0
  have HIK := Lib.hid hik
  obtain ⟨m1, hm1⟩ : ∃ m1, m1 = m + 1 := ⟨_, rfl⟩
  have wm : IntKind.i64.wrap ((m : Int) + 1) = (m1 : Int) := by rw [IntKind.wrap_i64]; omega
  have HMk := Lib.hid (made_bools m1 (by omega))
  have hm10 : 0 < m1 := by omega
  have hst : (List.replicate m1 false).set 0 true = rowR R 0 m := by
    apply List.ext_getElem?
    intro j
    by_cases hj : j < m + 1
    · rw [rowR_get R 0 m j hj]
      cases j with
      | zero => rw [h00, List.getElem?_set_self (by rw [List.length_replicate]; omega)]
      | succ j =>
        rw [h0k j (by omega), List.getElem?_set_ne (by omega), List.getElem?_eq_getElem (by rw [List.length_replicate]; omega), List.getElem_replicate]
    · rw [List.getElem?_eq_none (by rw [List.length_set, List.length_replicate]; omega), List.getElem?_eq_none (by unfold rowR; simp; omega)]
  have HB0 := Lib.hid (Blk.new w 4 (bA (List.replicate m1 false)))
  have HBe0 := Lib.hid (belowA (Below.refl w.heap.size w) (.cells (bA (List.replicate m1 false)) 4))
  have hc0 : (w.alloc (.cells (bA (List.replicate m1 false)) 4)).cell? ⟨w.heap.size, 0, none⟩ = some (.bool false) := by
    rw [HB0.out.cell, bA_get, List.getElem?_eq_getElem (by rw [List.length_replicate]; omega), List.getElem_replicate]; rfl
  have hf0 := HB0.out.frozen 0
  have hmk := HMk.out w
  have HM1 := Lib.hid hm1
  have HST0 := Lib.hid hst
  clear hf hg hi0 hik h00 h0k hst hm1
  go_enter Tryz.func123, Tryz.ntmps123
  go_upto_region 2 with fail
  obtain ⟨g0, hg0⟩ : ∃ g0, g0 = w.heap.size := ⟨_, rfl⟩
  have hgg : w.heap.size ≤ g0 := by omega
  rw [← hg0] at hc0 hf0 ⊢
  have HB0' : Hid (Blk (w.alloc (.cells (bA (List.replicate m1 false)) 4)) g0 4 (bA (List.replicate m1 false))) := by rw [hg0]; exact HB0.out
  generalize w.alloc (.cells (bA (List.replicate m1 false)) 4) = wz at HB0' HBe0 hc0 hf0 ⊢
  have HR0 : Hid (Blk (wz.setCell ⟨g0, 0, none⟩ (.bool true)) g0 4 (bA (rowR R 0 m))) := by
    have := HB0'.out.set_ 0 (.bool true)
    rw [bA_set, HST0.out] at this; exact this
  have HBe1 : Hid (Below w.heap.size w (wz.setCell ⟨g0, 0, none⟩ (.bool true))) := Below.set1 HBe0.out hgg 0 _
  clear hg0 hmk HB0
  go_wp2_with fail
  go_loopw [9, 10] (fun rv iv wr => ∃ (i gr : Nat), i ≤ n ∧ iv = .int .i64 i ∧ rv = .slice (some ⟨gr, 0, none⟩) m1 m1 ∧ w.heap.size ≤ gr ∧ Hid (Blk wr gr 4 (bA (rowR R i m))) ∧ Hid (Below w.heap.size w wr)) (fun _ iv _ => n - (intOf iv).toNat)
  case atStart => exact ⟨0, g0, Nat.zero_le _, rfl, rfl, hgg, HR0.out, HBe1.out⟩
  case round =>
    obtain ⟨i, gr, hin, rfl, rfl, hgr, HR, HB⟩ := hrel
    obtain ⟨wo, hwo⟩ : ∃ wo, wo = wr := ⟨_, rfl⟩
    subst hwo
    by_cases hlt : i < n
    · have hmk2 := HMk.out wo
      have HBn := Lib.hid (Blk.new wo 4 (bA (List.replicate m1 false)))
      have HRn := Lib.hid (HR.out.alloc (.cells (bA (List.replicate m1 false)) 4))
      have HBx := Lib.hid (belowA HB.out (.cells (bA (List.replicate m1 false)) 4))
      have hst : (List.replicate m1 false).set 0 (R (i + 1) 0) = nextR R i m 0 := by
        have := HM1.out
        unfold nextR
        rw [this, List.replicate_succ, List.set_cons_zero, Nat.sub_zero]; rfl
      have HST := Lib.hid hst
      go_upto_region 7 with fail
      have hne0 : gr ≠ wo.heap.size := by have := HR.out.lt; omega
      have hgw0 : w.heap.size ≤ wo.heap.size := HB.out.size
      clear hmk2
      generalize wo.heap.size = gn at HBn hne0 hgw0 ⊢
      have hne : gr ≠ gn := hne0
      have hgw : w.heap.size ≤ gn := hgw0
      generalize wo.alloc (.cells (bA (List.replicate m1 false)) 4) = wn at HBn HRn HBx ⊢
      have c1 : wn.cell? ⟨gr, 0, none⟩ = some (.bool (R i 0)) := by rw [HRn.out.cell, bA_get, rowR_get R i m 0 (by omega)]; rfl
      have HC2 : Hid (∀ W, Blk W gn 4 (bA (List.replicate m1 false)) → W.cell? ⟨gn, 0, none⟩ = some (.bool false) ∧ W.frozen? ⟨gn, 0, none⟩ = false) := fun W hW => ⟨by
        rw [hW.cell, bA_get, List.getElem?_eq_getElem (by rw [List.length_replicate]; omega), List.getElem_replicate]; rfl, hW.frozen 0⟩
      have HFin : Hid (∀ W, Blk W gn 4 (bA (List.replicate m1 false)) → Blk W gr 4 (bA (rowR R i m)) → Below w.heap.size w W → Blk (W.setCell ⟨gn, 0, none⟩ (.bool (R (i + 1) 0))) gn 4 (bA (nextR R i m 0)) ∧ Blk (W.setCell ⟨gn, 0, none⟩ (.bool (R (i + 1) 0))) gr 4 (bA (rowR R i m)) ∧ Below w.heap.size w (W.setCell ⟨gn, 0, none⟩ (.bool (R (i + 1) 0)))) := fun W h1 h2 h3 => by
        refine ⟨?_, h2.far hne _, Below.set1 h3 hgw 0 _⟩
        have := h1.set_ 0 (.bool (R (i + 1) 0))
        rw [bA_set, HST.out] at this; exact this
      have h0i := HI0.out i hlt
      clear hst
      go_cut [34] (fun s wx => Hid (Blk wx gn 4 (bA (nextR R i m 0))) ∧ Hid (Blk wx gr 4 (bA (rowR R i m))) ∧ Hid (Below w.heap.size w wx))
      case first =>
        rcases hb : R i 0 with _ | _
        · rw [hb, Bool.false_and] at h0i
          rw [hb] at c1
          have hc2 := (HC2.out wn HBn.out).1
          have hf2 := (HC2.out wn HBn.out).2
          have HE := Lib.hid (HFin.out wn HBn.out HRn.out HBx.out)
          rw [h0i] at HE
          clear HFin HC2 hb
          go_wp2_with fail
          go_meet
          exact HE.out
        · rw [hb, Bool.true_and] at h0i
          rw [hb] at c1
          have HFi := Lib.hid (HF.out i hlt wn HBx.out)
          clear hb
          go_wp2_with fail
          refine HFi.out.mono ?_; rintro e w2 ⟨rfl, hbl⟩
          have hB2 := HBn.out.below hbl HBn.out.lt
          have hR2 := HRn.out.below hbl HRn.out.lt
          have hc2 := (HC2.out w2 hB2).1
          have hf2 := (HC2.out w2 hB2).2
          have HE := Lib.hid (HFin.out w2 hB2 hR2 (HBx.out.trans (hbl.mono HBx.out.size)))
          rw [h0i] at HE
          clear HFin HC2 hB2 hR2 hbl HFi c1
          go_wp2_with fail
          go_meet
          exact HE.out
      case rest =>
      obtain ⟨HN0, HR0', HB0'⟩ := hcut
      clear HBn HRn HBx HC2 HFin h0i c1
      go_wp2_with fail
      go_loopw [12] (fun kv wr => ∃ k : Nat, k ≤ m ∧ kv = .int .i64 k ∧ Hid (Blk wr gn 4 (bA (nextR R i m k))) ∧ Hid (Blk wr gr 4 (bA (rowR R i m))) ∧ Hid (Below w.heap.size w wr)) (fun kv _ => m - (intOf kv).toNat)
      case atStart => exact ⟨0, Nat.zero_le _, rfl, HN0.out, HR0'.out, HB0'.out⟩
      case round =>
        obtain ⟨k, hkm, rfl, HN, HRk, HBk⟩ := hrel
        by_cases hlt2 : k < m
        · obtain ⟨k1, hk1⟩ : ∃ k1, k1 = k + 1 := ⟨_, rfl⟩
          have wk : IntKind.i64.wrap ((k : Int) + 1) = (k1 : Int) := by rw [IntKind.wrap_i64]; omega
          have hk1m : k1 < m1 := by have := HM1.out; omega
          have hkm1 : k < m1 := by omega
          have hik := HIK.out i k hlt hlt2
          have HC : Hid (∀ W, Blk W gn 4 (bA (nextR R i m k)) → Blk W gr 4 (bA (rowR R i m)) → (W.cell? ⟨gr, k1, none⟩ = some (.bool (R i (k + 1))) ∧ W.cell? ⟨gr, k, none⟩ = some (.bool (R i k)) ∧ W.cell? ⟨gn, k, none⟩ = some (.bool (R (i + 1) k))) ∧ (∃ b, W.cell? ⟨gn, k1, none⟩ = some (.bool b)) ∧ W.frozen? ⟨gn, k1, none⟩ = false) := fun W h1 h2 => by
            refine ⟨⟨by rw [h2.cell, bA_get, hk1, rowR_get R i m (k + 1) (by omega)]; rfl, by rw [h2.cell, bA_get, rowR_get R i m k (by omega)]; rfl, by rw [h1.cell, bA_get, nextR_get R i m k k (by omega)]; rfl⟩, ?_, h1.frozen k1⟩
            have hl := nextR_len R i m k (by omega)
            refine ⟨(nextR R i m k)[k1]'(by omega), ?_⟩
            rw [h1.cell, bA_get, List.getElem?_eq_getElem (by omega)]; rfl
          have HFin : Hid (∀ W, Blk W gn 4 (bA (nextR R i m k)) → Blk W gr 4 (bA (rowR R i m)) → Below w.heap.size w W → Blk (W.setCell ⟨gn, k1, none⟩ (.bool (R (i + 1) (k + 1)))) gn 4 (bA (nextR R i m k1)) ∧ Blk (W.setCell ⟨gn, k1, none⟩ (.bool (R (i + 1) (k + 1)))) gr 4 (bA (rowR R i m)) ∧ Below w.heap.size w (W.setCell ⟨gn, k1, none⟩ (.bool (R (i + 1) (k + 1))))) := fun W h1 h2 h3 => by
            refine ⟨?_, h2.far hne _, Below.set1 h3 hgw k1 _⟩
            have := h1.set_ k1 (.bool (R (i + 1) (k + 1)))
            rw [bA_set, hk1, nextR_set R i m k hlt2] at this
            rw [hk1]; exact this
          have HFs := Lib.hid (HF.out i hlt wr HBk.out)
          have HGs := Lib.hid fun W h => HG.out i k hlt hlt2 W h
          have HK := Lib.hid hk1
          clear hk1
          rcases hs : St i with _ | _
          · rw [hs] at hik HFs
            simp only [Bool.false_eq_true, if_false] at hik
            clear hs
            go_wp2_with fail
            refine HFs.out.mono ?_; rintro e w2 ⟨rfl, hbl⟩
            have hN2 := HN.out.below hbl HN.out.lt
            have hR2 := HRk.out.below hbl HRk.out.lt
            have hB2 := HBk.out.trans (hbl.mono HBk.out.size)
            obtain ⟨⟨-, c2, -⟩, ⟨b0, c4⟩, f4⟩ := HC.out w2 hN2 hR2
            rcases hr : R i k with _ | _
            · rw [hr, Bool.false_and] at hik
              rw [hr] at c2
              have HE := Lib.hid (HFin.out w2 hN2 hR2 hB2)
              rw [hik] at HE
              clear HFin HC hN2 hR2 hB2 hr hbl HFs HGs
              go_wp2_with fail
              go_roundw
              case rel => exact ⟨k1, by have := HK.out; omega, rfl, HE.out.1, HE.out.2.1, HE.out.2.2⟩
              case measure => have := HK.out; simp [intOf]; omega
            · rw [hr, Bool.true_and] at hik
              rw [hr] at c2
              have HGw := Lib.hid (HGs.out w2 hB2)
              have HN2 := Lib.hid hN2
              have HR2 := Lib.hid hR2
              have HB2 := Lib.hid hB2
              clear hr hbl HFs HGs hN2 hR2 hB2 c4 f4
              go_wp2_with fail
              refine HGw.out.mono ?_; rintro e w3 ⟨rfl, hbl⟩
              have hN3 := HN2.out.below hbl HN2.out.lt
              have hR3 := HR2.out.below hbl HR2.out.lt
              have hB3 := HB2.out.trans (hbl.mono HB2.out.size)
              obtain ⟨-, ⟨b0, c4⟩, f4⟩ := HC.out w3 hN3 hR3
              have HE := Lib.hid (HFin.out w3 hN3 hR3 hB3)
              rw [hik] at HE
              clear HFin HC hN3 hR3 hB3 hbl HGw c2 HN2 HR2 HB2
              go_wp2_with fail
              go_roundw
              case rel => exact ⟨k1, by have := HK.out; omega, rfl, HE.out.1, HE.out.2.1, HE.out.2.2⟩
              case measure => have := HK.out; simp [intOf]; omega
          · rw [hs] at hik HFs
            simp only [if_true] at hik
            clear hs
            go_wp2_with fail
            refine HFs.out.mono ?_; rintro e w2 ⟨rfl, hbl⟩
            have hN2 := HN.out.below hbl HN.out.lt
            have hR2 := HRk.out.below hbl HRk.out.lt
            have hB2 := HBk.out.trans (hbl.mono HBk.out.size)
            obtain ⟨⟨c1, -, c3⟩, ⟨b0, c4⟩, f4⟩ := HC.out w2 hN2 hR2
            have HE := Lib.hid (HFin.out w2 hN2 hR2 hB2)
            rcases hr : R i (k + 1) with _ | _
            · rw [hr, Bool.false_or] at hik
              rw [hr] at c1
              rw [hik] at HE
              clear HFin HC hN2 hR2 hB2 hr hbl HFs HGs
              go_wp2_with fail
              go_roundw
              case rel => exact ⟨k1, by have := HK.out; omega, rfl, HE.out.1, HE.out.2.1, HE.out.2.2⟩
              case measure => have := HK.out; simp [intOf]; omega
            · rw [hr, Bool.true_or] at hik
              rw [hr] at c1
              rw [hik] at HE
              clear HFin HC hN2 hR2 hB2 hr hbl HFs HGs
              go_wp2_with fail
              go_roundw
              case rel => exact ⟨k1, by have := HK.out; omega, rfl, HE.out.1, HE.out.2.1, HE.out.2.2⟩
              case measure => have := HK.out; simp [intOf]; omega
        · obtain rfl : k = m := by omega
          have hN := HN.out
          rw [nextR_end] at hN
          have HN2 := Lib.hid hN
          clear hN
          go_wp2_with fail
          go_roundw
          case rel => exact ⟨i + 1, gn, by omega, by go_num, rfl, hgw, HN2.out, HBk.out⟩
          case measure => simp [intOf]; omega
    · obtain rfl : i = n := by omega
      have c1 : wo.cell? ⟨gr, m, none⟩ = some (.bool (R i m)) := by rw [HR.out.cell, bA_get, rowR_get R i m m (by omega)]; rfl
      have hmm : m < m1 := by have := HM1.out; omega
      go_wp2_with fail
      go_ret
      exact ⟨rfl, HB.out⟩
end Go.Proofs.YtoikpnjnljdpaaaGreatDoor
/- Plain mathematics of patterns' signs, of sets, and of what is said of patterns. Nothing of the program. -/
set_option linter.unusedVariables false
set_option maxRecDepth 100000
namespace Go.Proofs.YtoikpnjnljdpaaaGreatDoor
open Go.RowKit
def bitsC (f : UInt8 → Bool) : List Value := (List.range 256).map fun c => .bool (f (UInt8.ofNat c))
theorem bitsC_len (f : UInt8 → Bool) : (bitsC f).length = 256 := by unfold bitsC; rw [List.length_map, List.length_range]
theorem bitsC_get (f : UInt8 → Bool) (c : UInt8) : (bitsC f)[c.toNat]? = some (.bool (f c)) := by
  unfold bitsC
  have := c.toNat_lt
  rw [List.getElem?_map, List.getElem?_range (by omega)]
  simp
theorem bitsC_at (f : UInt8 → Bool) (j : Nat) (h : j < 256) : (bitsC f)[j]? = some (.bool (f (UInt8.ofNat j))) := by
  unfold bitsC
  rw [List.getElem?_map, List.getElem?_range (by omega)]
  rfl
theorem drop_at (s : ByteArray) (k : Nat) (h : k < s.size) : s.data.toList.drop k = s[k] :: s.data.toList.drop (k + 1) := List.drop_eq_getElem_cons (by simpa using h)
theorem tokL_nil : tokL [] = some [] := by rw [tokL]
theorem tokL_other (c : UInt8) (r : List UInt8) (h : c ≠ 91) : tokL (c :: r) = (tokL r).map fun ts => (if c = 42 then (true, span 42 42) else if c = 63 then (false, fun _ => true) else (false, span c c)) :: ts := by
  rw [tokL, if_neg h]
theorem tokL_none (r : List UInt8) (h : setP r = none) : tokL (91 :: r) = none := by
  rw [tokL, if_pos rfl]
  split
  · rfl
  · rename_i f r2 e
    rw [h] at e; cases e
theorem tokL_set (r r2 : List UInt8) (f : UInt8 → Bool) (h : setP r = some (f, r2)) : tokL (91 :: r) = (tokL r2).map fun ts => (false, f) :: ts := by
  rw [tokL, if_pos rfl]
  split
  · rename_i e
    rw [h] at e; cases e
  · rename_i f' r2' e
    rw [h] at e
    injection e with e; injection e with e1 e2
    subst e1 e2; rfl
theorem setG_nil (first : Bool) (acc : UInt8 → Bool) : setG first acc [] = none := by rw [setG]
theorem setG_end (acc : UInt8 → Bool) (l : List UInt8) : setG false acc (93 :: l) = some (acc, l) := by
  match l with
  | [] => rw [setG, if_pos ⟨rfl, rfl⟩]
  | [d] => rw [setG, if_pos ⟨rfl, rfl⟩]
  | d :: h :: r => rw [setG, if_pos ⟨rfl, rfl⟩]
theorem setG_range {first : Bool} (acc : UInt8 → Bool) {c h : UInt8} (r : List UInt8) (hn : ¬(first = false ∧ c = 93)) (hh : h ≠ 93) : setG first acc (c :: 45 :: h :: r) = setG false (fun x => acc x || span c h x) r := by
  rw [setG, if_neg hn, if_pos ⟨rfl, hh⟩]
theorem setG_one {first : Bool} (acc : UInt8 → Bool) {c : UInt8} (l : List UInt8) (hn : ¬(first = false ∧ c = 93)) (hl : ∀ h r, l = 45 :: h :: r → h = 93) : setG first acc (c :: l) = setG false (fun x => acc x || span c c x) l := by
  match l with
  | [] =>
    rw [setG_nil]
    conv => lhs; rw [setG, if_neg hn]
  | [d] =>
    conv => lhs; rw [setG, if_neg hn]
  | d :: h :: r => rw [setG, if_neg hn, if_neg (by rintro ⟨rfl, h2⟩; exact h2 (hl h r rfl))]
/-- does a set begin as the others? -/
def notS (l : List UInt8) : Bool := decide (l.head? = some 33)
theorem setP_eq (l : List UInt8) : setP l = (setG true (fun _ => false) (if notS l then l.drop 1 else l)).map fun q => (fun x => notS l != q.1 x, q.2) := by
  unfold setP notS
  cases l with
  | nil => rw [if_neg (by decide), setG_nil]; rfl
  | cons c r =>
    simp only [List.head?_cons, Option.some.injEq, decide_eq_true_eq, List.drop_one, List.tail_cons]
    by_cases h : c = 33
    · rw [if_pos h, if_pos h]; congr 1; funext q; simp [h]
    · rw [if_neg h, if_neg h]
      cases setG true (fun _ => false) (c :: r) with
      | none => rfl
      | some q => simp [h]
theorem u8_num (c d : UInt8) (h : c = d) : ((c.toNat : Int) == (d.toNat : Int)) = true := by rw [byte_eq]; simpa using h
theorem u8_not (c d : UInt8) (h : c ≠ d) : ((c.toNat : Int) == (d.toNat : Int)) = false := by rw [byte_eq]; simpa using h
theorem partsE_nil : partsE [] = 0 := rfl
theorem partsE_cons (s : List UInt8) (l : List (List UInt8)) : partsE (s :: l) = if s = [] then 9 else if (tokL s).isNone then 3 else partsE l := rfl
theorem getD_drop (ls : List (List UInt8)) (k : Nat) (hk : k < ls.length) : ls.drop k = ls.getD k [] :: ls.drop (k + 1) := by
  rw [List.drop_eq_getElem_cons hk, List.getD_eq_getElem?_getD, List.getElem?_eq_getElem hk]; rfl
theorem globE_size {p : List UInt8} (h : p = [] ∨ 400 < p.length) : globE p = 1 := if_pos h
theorem globE_parts {p : List UInt8} (h : ¬ (p = [] ∨ 400 < p.length)) : globE p = partsE (partsL 47 p) := if_neg h
/-- what Fits says -/
def fitsE (p s : List UInt8) : Int := if globE p = 0 then pathE s else globE p
def fitsB (p s : List UInt8) : Bool := decide (fitsE p s = 0) && globF p s
theorem two_is (l : List UInt8) : ((⟨l.toArray⟩ : ByteArray).toList == [42, 42]) = twoStars l := by
  rw [ByteArray.toList_eq]
  unfold twoStars
  by_cases h : l = [42, 42]
  · rw [decide_eq_true h, h]; rfl
  · rw [decide_eq_false h]
    simpa using h
end Go.Proofs.YtoikpnjnljdpaaaGreatDoor
