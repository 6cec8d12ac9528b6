/- Parts of paths and of patterns, as the reference fits them. -/
import Derived.Test.YtilmfnlhpnbngaaDoorGlbC
import Derived.BigQuiet
set_option linter.unusedVariables false
set_option maxRecDepth 100000
namespace Go.Proofs.YtilmfnlhpnbngaaDoor
open Go.RowKit
open Go.OpenShut
theorem rowT_get (ts : List Tok) (j i : Nat) (hj : j < ts.length) (hi : i < 257) : (rowT ts)[j * 257 + i]? = (tokC ts[j].1 ts[j].2)[i]? := by
  induction ts generalizing j with
  | nil => simp at hj
  | cons x xs ih =>
    have e : rowT (x :: xs) = (tokC x.1 x.2).toList ++ rowT xs := rfl
    rw [e]
    cases j with
    | zero => rw [List.getElem?_append_left (by rw [Array.length_toList, tokC_size]; omega)]; simp
    | succ j =>
      rw [List.getElem?_append_right (by rw [Array.length_toList, tokC_size]; omega), Array.length_toList, tokC_size, show (j + 1) * 257 + i - 257 = j * 257 + i by omega, ih j (by simpa using hj)]; rfl
theorem Toks.any {w : World} {B : Nat} {v : Value} {ts : List Tok} (h : Toks w B v ts) : ∃ A cap, v = .slice A ts.length cap ∧ ∀ j, (hj : j < ts.length) → ∃ g, A = some ⟨g, 0, none⟩ ∧ B ≤ g ∧ g < w.heap.size ∧
    ∀ W, Below w.heap.size w W → W.cell? ⟨g, j * 257, none⟩ = some (.bool ts[j].1) ∧ ∀ c, c < 256 → W.cell? ⟨g, j * 257 + 1 + c, none⟩ = some (.bool (ts[j].2 (UInt8.ofNat c))) := by
  have h' := h
  unfold Toks World.ownsRow at h
  rcases h.2 with ⟨rfl, h0⟩ | ⟨g, cap, cur, rfl, hB, hg, hcap, hm, hs, ht⟩
  · exact ⟨none, 0, by rw [h0], fun j hj => by omega⟩
  · refine ⟨_, cap, rfl, fun j hj => ⟨g, rfl, hB, ?_, fun W hW => ?_⟩⟩
    · exact Blk.lt (w := w) (t := 55) hg
    · have h2 := Toks.below h' hW
      unfold Toks at h2
      have hc : ∀ i, i < 257 → W.cell? ⟨g, j * 257 + i, none⟩ = (tokC ts[j].1 ts[j].2)[i]? := fun i hi => by
        rw [h2.cellAt (j * 257 + i) (by omega), rowT_get ts j i hj hi]
      refine ⟨by have := hc 0 (by omega); rwa [tokC_get0] at this, fun c hc2 => ?_⟩
      rw [show j * 257 + 1 + c = j * 257 + (c + 1) by omega, hc (c + 1) (by omega)]
      unfold tokC
      rw [List.getElem?_toArray, List.getElem?_cons_succ, bitsC_at _ c hc2]
theorem pfStar_any (ts : List Tok) (i : Nat) (a g cap : Nat) (hi : i < ts.length) (hn : ts.length ≤ 100000) (W : World) (hv : W.cell? ⟨a, 0, none⟩ = some (.slice (some ⟨g, 0, none⟩) ts.length cap)) (hc : W.cell? ⟨g, i * 257, none⟩ = some (.bool ts[i].1)) :
    Calls Tryd.prog 42 #[.int .i64 (i : Nat), .pointer (some ⟨a, 0, none⟩)] W fun e w' => e = .returned (.bool ts[i].1) ∧ W = w' := by
  go_enter Tryd.func42, Tryd.ntmps42
  go_wp2_with fail
  go_ret
  exact ⟨rfl, rfl⟩
theorem pfFits_any (ts : List Tok) (s : ByteArray) (i k : Nat) (a b g cap : Nat) (hi : i < ts.length) (hk : k < s.size) (hn : ts.length ≤ 100000) (W : World) (hv : W.cell? ⟨a, 0, none⟩ = some (.slice (some ⟨g, 0, none⟩) ts.length cap)) (hs : W.cell? ⟨b, 0, none⟩ = some (.string s)) (hc : W.cell? ⟨g, i * 257 + 1 + s[k].toNat, none⟩ = some (.bool (ts[i].2 s[k]))) :
    Calls Tryd.prog 43 #[.int .i64 (i : Nat), .int .i64 (k : Nat), .pointer (some ⟨a, 0, none⟩), .pointer (some ⟨b, 0, none⟩)] W fun e w' => e = .returned (.bool (ts[i].2 s[k])) ∧ ∃ n, w' = W.drewN n := by
  have hu : s[k].toNat < 256 := s[k].toNat_lt
  go_enter Tryd.func43, Tryd.ntmps43
  go_wp2_with fail
  go_quiet (fail)
  go_wp2_with fail
  go_ret
  exact ⟨rfl, _, rfl⟩
def tok0 : Tok := (false, fun _ => false)
theorem tok_at (ts : List Tok) (i : Nat) (hi : i < ts.length) : ts.getD i tok0 = ts[i] := by rw [List.getD_eq_getElem?_getD, List.getElem?_eq_getElem hi]; rfl
theorem partF_def (p s : List UInt8) : partF p s = fitL tokStar tokFits (((tokL p).getD []).take ((tokL p).getD []).length) (s.take s.length) := by
  unfold partF; rw [List.take_length, List.take_length]
theorem toks_len (p : List UInt8) : ((tokL p).getD []).length ≤ p.length := by
  rcases h : tokL p with _ | ts
  · exact Nat.zero_le _
  · exact tokL_len _ _ _ (Nat.le_refl _) h
set_option maxHeartbeats 4000000 in
theorem PartFits_any (p s : ByteArray) (hp : p.size ≤ 1000) (hs : s.size ≤ 1000) (w : World) :
    Calls Tryd.prog 34 #[.string p, .string s] w fun e w' => e = .returned (.bool (partF p.data.toList s.data.toList)) ∧ Below w.heap.size w w' := by
  have hR := partF_def p.data.toList s.data.toList
  have hln := toks_len p.data.toList
  have htk := fun W => tokens_any p (by omega) W
  have hpl : p.data.toList.length = p.size := by simp
  have hsl : s.data.toList.length = s.size := by simp
  rw [hpl] at hln
  rw [hsl] at hR
  generalize hts : (tokL p.data.toList).getD [] = ts at hR hln htk
  have htb := fitL_table (star := tokStar) (fits := tokFits) ts s.data.toList tok0 0
  rw [hsl] at htb
  have HR := Lib.hid hR
  have HTK := Lib.hid htk
  have HTB := Lib.hid htb
  have HSL := Lib.hid hsl
  clear hR htk htb hpl hsl hts
  go_enter Tryd.func34, Tryd.ntmps34
  go_wp2_with fail
  refine (HTK.out _).mono ?_; rintro e w1 ⟨v, rfl, hT, hB⟩
  obtain ⟨A, cap, rfl, hc⟩ := hT.any
  have hb0 : Blk w1 w.heap.size 9 #[.string s] := (Blk.new w 9 #[.string s]).below hB (Blk.new w 9 #[.string s]).lt
  have HBx := Lib.hid (hb0.alloc (.cells #[.slice A ts.length cap] 42))
  have HVx := Lib.hid (Blk.new w1 42 #[.slice A ts.length cap])
  have hBw : Below w.heap.size w w1 := ((Below.refl w.heap.size w).alloc (Nat.le_refl _) _).trans (hB.mono ((Below.refl w.heap.size w).alloc (Nat.le_refl _) _).size)
  have HBa := Lib.hid (belowA hBw (.cells #[.slice A ts.length cap] 42))
  have hBb := belowA (Below.refl w1.heap.size w1) (.cells #[.slice A ts.length cap] 42)
  have HC : Hid (∀ j, (hj : j < ts.length) → ∃ g, A = some ⟨g, 0, none⟩ ∧ ∀ W, Below (w1.alloc (.cells #[.slice A ts.length cap] 42)).heap.size (w1.alloc (.cells #[.slice A ts.length cap] 42)) W →
      W.cell? ⟨g, j * 257, none⟩ = some (.bool ts[j].1) ∧ ∀ c, c < 256 → W.cell? ⟨g, j * 257 + 1 + c, none⟩ = some (.bool (ts[j].2 (UInt8.ofNat c)))) := fun j hj => by
    obtain ⟨g, hA, -, -, h⟩ := hc j hj
    exact ⟨g, hA, fun W hW => h W (hBb.trans (hW.mono hBb.size))⟩
  have hbc : (w1.alloc (.cells #[.slice A ts.length cap] 42)).cell? ⟨w.heap.size, 0, none⟩ = some (.string s) := by rw [HBx.out.cell]; rfl
  clear hT hB hc hb0 hBw hBb
  go_wp2_with fail
  generalize w1.alloc (.cells #[.slice A ts.length cap] 42) = w2 at HBx HVx HBa HC hbc ⊢
  have hf : ∀ i, i < ts.length → ∀ W, Below w2.heap.size w2 W → Calls Tryd.prog 42 #[.int .i64 (i : Nat), .pointer (some ⟨w1.heap.size, 0, none⟩)] W fun e w' => e = .returned (.bool (tokStar (ts.getD i tok0))) ∧ Below W.heap.size W w' := fun i hi W hW => by
    obtain ⟨g, hA, h⟩ := HC.out i hi
    subst hA
    refine (pfStar_any ts i w1.heap.size g cap hi (by omega) W (by rw [(HVx.out.below hW HVx.out.lt).cell]; rfl) (h W hW).1).mono ?_
    rintro e w' ⟨rfl, rfl⟩
    exact ⟨by rw [tok_at ts i hi]; rfl, Below.refl _ _⟩
  have hg : ∀ i k, i < ts.length → k < s.size → ∀ W, Below w2.heap.size w2 W → Calls Tryd.prog 43 #[.int .i64 (i : Nat), .int .i64 (k : Nat), .pointer (some ⟨w1.heap.size, 0, none⟩), .pointer (some ⟨w.heap.size, 0, none⟩)] W fun e w' => e = .returned (.bool (tokFits (ts.getD i tok0) (s.data.toList.getD k 0))) ∧ Below W.heap.size W w' := fun i k hi hk W hW => by
    obtain ⟨g, hA, h⟩ := HC.out i hi
    subst hA
    have hc := (h W hW).2 s[k].toNat s[k].toNat_lt
    rw [UInt8.ofNat_toNat] at hc
    refine (pfFits_any ts s i k w1.heap.size w.heap.size g cap hi hk (by omega) W (by rw [(HVx.out.below hW HVx.out.lt).cell]; rfl) (by rw [(HBx.out.below hW HBx.out.lt).cell]; rfl) hc).mono ?_
    rintro e w' ⟨rfl, n, rfl⟩
    exact ⟨by rw [tok_at ts i hi, show s.data.toList.getD k 0 = s[k] by
      have hk2 : k < s.data.toList.length := by rw [HSL.out]; exact hk
      rw [List.getD_eq_getElem?_getD, List.getElem?_eq_getElem hk2]; rfl]; rfl, drewN_below (Below.refl _ _) n⟩
  obtain ⟨h1, h2, h3, h4⟩ := HTB.out
  refine (table_any 42 43 (.pointer (some ⟨w1.heap.size, 0, none⟩)) (.pointer (some ⟨w1.heap.size, 0, none⟩)) (.pointer (some ⟨w.heap.size, 0, none⟩)) _ _ (fun i k => fitL tokStar tokFits (ts.take i) (s.data.toList.take k)) ts.length s.size (by omega) hs (enters_of Tryd.func42 (by kernel_rfl) rfl) (enters_of Tryd.func43 (by kernel_rfl) rfl) w2 hf hg h1 h2 h3 h4).mono ?_
  rintro e w3 ⟨rfl, hB3⟩
  clear hf hg h1 h2 h3 h4 hbc
  go_wp2_with fail
  go_ret
  exact ⟨by rw [HR.out, List.take_length]; rfl, HBa.out.trans (hB3.mono HBa.out.size)⟩
end Go.Proofs.YtilmfnlhpnbngaaDoor
