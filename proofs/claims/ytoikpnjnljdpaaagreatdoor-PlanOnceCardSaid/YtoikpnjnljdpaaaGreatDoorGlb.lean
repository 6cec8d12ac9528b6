/- Texts of one kind, in one file: GlbD, GlbE. -/
import Derived.Test.YtoikpnjnljdpaaaGreatDoorGlbC
import Derived.BigQuiet
import Derived.Test.YtoikpnjnljdpaaaGreatDoorSpl
import Derived.Deep.RegionWith
/- Parts of paths and of patterns, as the reference fits them. -/
set_option linter.unusedVariables false
set_option maxRecDepth 100000
namespace Go.Proofs.YtoikpnjnljdpaaaGreatDoor
open Go.RowKit
open Go.OpenShut
theorem rowT_get (ts : List Tok) (j i : Nat) (hj : j < ts.length) (hi : i < 257) : (rowT ts)[j * 257 + i]? = (tokC ts[j].1 ts[j].2)[i]? := by
  induction ts generalizing j with
  | nil => simp at hj
  | cons x xs ih =>
    have e : rowT (x :: xs) = (tokC x.1 x.2).toList ++ rowT xs := rfl
    rw [e]
    cases j with
    | zero => rw [List.getElem?_append_left (by rw [Array.length_toList, tokC_size]; omega)]; simp
    | succ j =>
      rw [List.getElem?_append_right (by rw [Array.length_toList, tokC_size]; omega), Array.length_toList, tokC_size, show (j + 1) * 257 + i - 257 = j * 257 + i by omega, ih j (by simpa using hj)]; rfl
theorem Toks.any {w : World} {B : Nat} {v : Value} {ts : List Tok} (h : Toks w B v ts) : ∃ A cap, v = .slice A ts.length cap ∧ ∀ j, (hj : j < ts.length) → ∃ g, A = some ⟨g, 0, none⟩ ∧ B ≤ g ∧ g < w.heap.size ∧
    ∀ W, Below w.heap.size w W → W.cell? ⟨g, j * 257, none⟩ = some (.bool ts[j].1) ∧ ∀ c, c < 256 → W.cell? ⟨g, j * 257 + 1 + c, none⟩ = some (.bool (ts[j].2 (UInt8.ofNat c))) := by
  have h' := h
  unfold Toks World.ownsRow at h
  rcases h.2 with ⟨rfl, h0⟩ | ⟨g, cap, cur, rfl, hB, hg, hcap, hm, hs, ht⟩
  · exact ⟨none, 0, by rw [h0], fun j hj => by omega⟩
  · refine ⟨_, cap, rfl, fun j hj => ⟨g, rfl, hB, ?_, fun W hW => ?_⟩⟩
    · exact Blk.lt (w := w) (t := 177) hg
    · have h2 := Toks.below h' hW
      unfold Toks at h2
      have hc : ∀ i, i < 257 → W.cell? ⟨g, j * 257 + i, none⟩ = (tokC ts[j].1 ts[j].2)[i]? := fun i hi => by
        rw [h2.cellAt (j * 257 + i) (by omega), rowT_get ts j i hj hi]
      refine ⟨by have := hc 0 (by omega); rwa [tokC_get0] at this, fun c hc2 => ?_⟩
      rw [show j * 257 + 1 + c = j * 257 + (c + 1) by omega, hc (c + 1) (by omega)]
      unfold tokC
      rw [List.getElem?_toArray, List.getElem?_cons_succ, bitsC_at _ c hc2]
theorem pfStar_any (ts : List Tok) (i : Nat) (a g cap : Nat) (hi : i < ts.length) (hn : ts.length ≤ 100000) (W : World) (hv : W.cell? ⟨a, 0, none⟩ = some (.slice (some ⟨g, 0, none⟩) ts.length cap)) (hc : W.cell? ⟨g, i * 257, none⟩ = some (.bool ts[i].1)) :
    Calls Tryz.prog 148 #[.int .i64 (i : Nat), .pointer (some ⟨a, 0, none⟩)] W fun e w' => e = .returned (.bool ts[i].1) ∧ W = w' := by
  go_enter Tryz.func148, Tryz.ntmps148
  go_wp2_with fail
  go_ret
  exact ⟨rfl, rfl⟩
theorem pfFits_any (ts : List Tok) (s : ByteArray) (i k : Nat) (a b g cap : Nat) (hi : i < ts.length) (hk : k < s.size) (hn : ts.length ≤ 100000) (W : World) (hv : W.cell? ⟨a, 0, none⟩ = some (.slice (some ⟨g, 0, none⟩) ts.length cap)) (hs : W.cell? ⟨b, 0, none⟩ = some (.string s)) (hc : W.cell? ⟨g, i * 257 + 1 + s[k].toNat, none⟩ = some (.bool (ts[i].2 s[k]))) :
    Calls Tryz.prog 149 #[.int .i64 (i : Nat), .int .i64 (k : Nat), .pointer (some ⟨a, 0, none⟩), .pointer (some ⟨b, 0, none⟩)] W fun e w' => e = .returned (.bool (ts[i].2 s[k])) ∧ ∃ n, w' = W.drewN n := by
  have hu : s[k].toNat < 256 := s[k].toNat_lt
  go_enter Tryz.func149, Tryz.ntmps149
  go_wp2_with fail
  go_quiet (fail)
  go_wp2_with fail
  go_ret
  exact ⟨rfl, _, rfl⟩
def tok0 : Tok := (false, fun _ => false)
theorem tok_at (ts : List Tok) (i : Nat) (hi : i < ts.length) : ts.getD i tok0 = ts[i] := by rw [List.getD_eq_getElem?_getD, List.getElem?_eq_getElem hi]; rfl
theorem partF_def (p s : List UInt8) : partF p s = fitL tokStar tokFits (((tokL p).getD []).take ((tokL p).getD []).length) (s.take s.length) := by
  unfold partF; rw [List.take_length, List.take_length]
theorem toks_len (p : List UInt8) : ((tokL p).getD []).length ≤ p.length := by
  rcases h : tokL p with _ | ts
  · exact Nat.zero_le _
  · exact tokL_len _ _ _ (Nat.le_refl _) h
set_option maxHeartbeats 4000000 in
theorem PartFits_any (p s : ByteArray) (hp : p.size ≤ 1000) (hs : s.size ≤ 1000) (w : World) :
    Calls Tryz.prog 126 #[.string p, .string s] w fun e w' => e = .returned (.bool (partF p.data.toList s.data.toList)) ∧ Below w.heap.size w w' := by
  have hR := partF_def p.data.toList s.data.toList
  have hln := toks_len p.data.toList
  have htk := fun W => tokens_any p (by omega) W
  have hpl : p.data.toList.length = p.size := by simp
  have hsl : s.data.toList.length = s.size := by simp
  rw [hpl] at hln
  rw [hsl] at hR
  generalize hts : (tokL p.data.toList).getD [] = ts at hR hln htk
  have htb := fitL_table (star := tokStar) (fits := tokFits) ts s.data.toList tok0 0
  rw [hsl] at htb
  have HR := Lib.hid hR
  have HTK := Lib.hid htk
  have HTB := Lib.hid htb
  have HSL := Lib.hid hsl
  clear hR htk htb hpl hsl hts
  go_enter Tryz.func126, Tryz.ntmps126
  go_wp2_with fail
  refine (HTK.out _).mono ?_; rintro e w1 ⟨v, rfl, hT, hB⟩
  obtain ⟨A, cap, rfl, hc⟩ := hT.any
  have hb0 : Blk w1 w.heap.size 9 #[.string s] := (Blk.new w 9 #[.string s]).below hB (Blk.new w 9 #[.string s]).lt
  have HBx := Lib.hid (hb0.alloc (.cells #[.slice A ts.length cap] 152))
  have HVx := Lib.hid (Blk.new w1 152 #[.slice A ts.length cap])
  have hBw : Below w.heap.size w w1 := ((Below.refl w.heap.size w).alloc (Nat.le_refl _) _).trans (hB.mono ((Below.refl w.heap.size w).alloc (Nat.le_refl _) _).size)
  have HBa := Lib.hid (belowA hBw (.cells #[.slice A ts.length cap] 152))
  have hBb := belowA (Below.refl w1.heap.size w1) (.cells #[.slice A ts.length cap] 152)
  have HC : Hid (∀ j, (hj : j < ts.length) → ∃ g, A = some ⟨g, 0, none⟩ ∧ ∀ W, Below (w1.alloc (.cells #[.slice A ts.length cap] 152)).heap.size (w1.alloc (.cells #[.slice A ts.length cap] 152)) W →
      W.cell? ⟨g, j * 257, none⟩ = some (.bool ts[j].1) ∧ ∀ c, c < 256 → W.cell? ⟨g, j * 257 + 1 + c, none⟩ = some (.bool (ts[j].2 (UInt8.ofNat c)))) := fun j hj => by
    obtain ⟨g, hA, -, -, h⟩ := hc j hj
    exact ⟨g, hA, fun W hW => h W (hBb.trans (hW.mono hBb.size))⟩
  have hbc : (w1.alloc (.cells #[.slice A ts.length cap] 152)).cell? ⟨w.heap.size, 0, none⟩ = some (.string s) := by rw [HBx.out.cell]; rfl
  clear hT hB hc hb0 hBw hBb
  go_wp2_with fail
  generalize w1.alloc (.cells #[.slice A ts.length cap] 152) = w2 at HBx HVx HBa HC hbc ⊢
  have hf : ∀ i, i < ts.length → ∀ W, Below w2.heap.size w2 W → Calls Tryz.prog 148 #[.int .i64 (i : Nat), .pointer (some ⟨w1.heap.size, 0, none⟩)] W fun e w' => e = .returned (.bool (tokStar (ts.getD i tok0))) ∧ Below W.heap.size W w' := fun i hi W hW => by
    obtain ⟨g, hA, h⟩ := HC.out i hi
    subst hA
    refine (pfStar_any ts i w1.heap.size g cap hi (by omega) W (by rw [(HVx.out.below hW HVx.out.lt).cell]; rfl) (h W hW).1).mono ?_
    rintro e w' ⟨rfl, rfl⟩
    exact ⟨by rw [tok_at ts i hi]; rfl, Below.refl _ _⟩
  have hg : ∀ i k, i < ts.length → k < s.size → ∀ W, Below w2.heap.size w2 W → Calls Tryz.prog 149 #[.int .i64 (i : Nat), .int .i64 (k : Nat), .pointer (some ⟨w1.heap.size, 0, none⟩), .pointer (some ⟨w.heap.size, 0, none⟩)] W fun e w' => e = .returned (.bool (tokFits (ts.getD i tok0) (s.data.toList.getD k 0))) ∧ Below W.heap.size W w' := fun i k hi hk W hW => by
    obtain ⟨g, hA, h⟩ := HC.out i hi
    subst hA
    have hc := (h W hW).2 s[k].toNat s[k].toNat_lt
    rw [UInt8.ofNat_toNat] at hc
    refine (pfFits_any ts s i k w1.heap.size w.heap.size g cap hi hk (by omega) W (by rw [(HVx.out.below hW HVx.out.lt).cell]; rfl) (by rw [(HBx.out.below hW HBx.out.lt).cell]; rfl) hc).mono ?_
    rintro e w' ⟨rfl, n, rfl⟩
    exact ⟨by rw [tok_at ts i hi, show s.data.toList.getD k 0 = s[k] by
      have hk2 : k < s.data.toList.length := by rw [HSL.out]; exact hk
      rw [List.getD_eq_getElem?_getD, List.getElem?_eq_getElem hk2]; rfl]; rfl, drewN_below (Below.refl _ _) n⟩
  obtain ⟨h1, h2, h3, h4⟩ := HTB.out
  refine (table_any 148 149 (.pointer (some ⟨w1.heap.size, 0, none⟩)) (.pointer (some ⟨w1.heap.size, 0, none⟩)) (.pointer (some ⟨w.heap.size, 0, none⟩)) _ _ (fun i k => fitL tokStar tokFits (ts.take i) (s.data.toList.take k)) ts.length s.size (by omega) hs (enters_of Tryz.func148 (by kernel_rfl) rfl) (enters_of Tryz.func149 (by kernel_rfl) rfl) w2 hf hg h1 h2 h3 h4).mono ?_
  rintro e w3 ⟨rfl, hB3⟩
  clear hf hg h1 h2 h3 h4 hbc
  go_wp2_with fail
  go_ret
  exact ⟨by rw [HR.out, List.take_length]; rfl, HBa.out.trans (hB3.mono HBa.out.size)⟩
end Go.Proofs.YtoikpnjnljdpaaaGreatDoor
/- The reference's GlobFault and GlobFits. -/
set_option linter.unusedVariables false
set_option maxRecDepth 100000
namespace Go.Proofs.YtoikpnjnljdpaaaGreatDoor
open Go.RowKit
open Go.OpenShut
theorem gFault_size (p : ByteArray) (w : World) (hp : p.size ≤ maxLen) (h : p.size < 1 ∨ 400 < p.size) : Calls Tryz.prog 77 #[.string p] w fun e w' => e = .returned (.int .i64 1) ∧ w = w' := by
  unfold maxLen at hp
  rcases h with h | h
  · have e0 : p.toList = [] := toList_nil (nil_of_size h)
    go_enter Tryz.func77, Tryz.ntmps77
    go_wp2_with fail
    go_ret
    exact ⟨rfl, rfl⟩
  · have e0 : p.toList.isEmpty = false := toList_ne (ne_of_size (by omega))
    go_enter Tryz.func77, Tryz.ntmps77
    go_wp2_with fail
    go_ret
    exact ⟨rfl, rfl⟩
set_option maxHeartbeats 2000000 in
theorem gFault_parts (p : ByteArray) (w : World) (h1 : 1 ≤ p.size) (h2 : p.size ≤ 400) : Calls Tryz.prog 77 #[.string p] w fun e w' => e = .returned (.int .i64 (partsE (partsL 47 p.data.toList))) ∧ Below w.heap.size w w' := by
  have e0 : p.toList.isEmpty = false := toList_ne (ne_of_size h1)
  have hpl : p.data.toList.length = p.size := by simp
  have hgl : ∀ k, ((partsL 47 p.data.toList).getD k []).length ≤ 400 := fun k => by
    have := partsL_getD 47 p.data.toList k
    omega
  obtain ⟨ls, Hls⟩ := hid_name (partsL 47 p.data.toList)
  have hll : ls.length ≤ 401 := by
    have h3 := partsL_le 47 p.data.toList
    rw [Hls.out] at h3; omega
  rw [Hls.out] at hgl
  have HGL := Lib.hid hgl
  obtain ⟨n, Hn⟩ := hid_name ls.length
  rw [Hn.out] at hll
  rw [Hls.out]
  clear hgl hpl
  go_enter Tryz.func77, Tryz.ntmps77
  go_wp2_with fail
  refine (parts_any p 47 47 _ (by omega) rfl).mono ?_; rintro e w1 ⟨v, rfl, hT, hB⟩
  rw [Hls.out] at hT
  obtain ⟨A, ca, rfl, hA⟩ := hT.any
  have HA := Lib.hid hA
  have HB1 := Lib.hid hB
  clear hA hT hB e0
  rw [Hn.out]
  go_wp2_with fail
  go_loopw [17] (fun i wr => ∃ k : Nat, i = .int .i64 k ∧ k ≤ n ∧ Hid (partsE ls = partsE (ls.drop k)) ∧ Hid (Below w1.heap.size w1 wr)) (fun i _ => n - (intOf i).toNat)
  case atStart => exact ⟨0, rfl, Nat.zero_le _, rfl, Below.refl _ _⟩
  case round =>
    obtain ⟨k, rfl, hk, HE, HW⟩ := hrel
    by_cases hlt : k < n
    · obtain ⟨g, rfl, _, hg, hc⟩ := HA.out k (by rw [Hn.out]; exact hlt)
      have hc' : wr.cell? ⟨g, k, none⟩ = some (strV (ls.getD k [])) := by rw [HW.out.cell (p := ⟨g, k, none⟩) hg]; exact hc
      have hD := getD_drop ls k (by rw [Hn.out]; exact hlt)
      have hE := HE.out
      rw [hD, partsE_cons] at hE
      have hxl := HGL.out k
      clear hc hD
      unfold strV at hc'
      generalize ls.getD k [] = x at hc' hE hxl
      have hxs : (⟨x.toArray⟩ : ByteArray).size ≤ 400 := by rw [size_mk]; exact hxl
      obtain ⟨sx, Hsx⟩ := hid_name (⟨x.toArray⟩ : ByteArray)
      rw [Hsx.out] at hc' hxs
      have hx : sx.data.toList = x := by rw [← Hsx.out]
      by_cases hn : x = []
      · rw [if_pos hn] at hE
        have HR := Lib.hid hE
        have g0 : sx.toList = [] := toList_nil (by rw [hx]; exact hn)
        clear hE hn hx
        go_wp2_with fail
        go_ret
        exact ⟨ret_int HR.out.symm, HB1.out.trans (HW.out.mono HB1.out.size)⟩
      · rw [if_neg hn] at hE
        have g0 : sx.toList.isEmpty = false := toList_ne (by rw [hx]; exact hn)
        have htk := tokens_any sx (by omega) wr
        rw [hx] at htk
        have HTK := Lib.hid htk
        rcases hs : (tokL x).isSome with _ | _
        · rw [Option.isSome_eq_false_iff.1 hs] at hE
          rw [hs] at HTK
          have HR : Hid (partsE ls = 3) := hE
          clear hE hn hx htk hs
          go_wp2_with fail
          refine HTK.out.mono ?_; rintro e w2 ⟨v, rfl, -, hB2⟩
          have HB2 := Lib.hid hB2
          clear hB2
          go_wp2_with fail
          go_ret
          exact ⟨ret_int HR.out.symm, HB1.out.trans ((HW.out.trans (HB2.out.mono HW.out.size)).mono HB1.out.size)⟩
        · rw [show (tokL x).isNone = false from by rw [← Option.not_isSome, hs]; rfl] at hE
          rw [hs] at HTK
          have HR : Hid (partsE ls = partsE (ls.drop (k + 1))) := hE
          clear hE hn hx htk hs
          go_wp2_with fail
          refine HTK.out.mono ?_; rintro e w2 ⟨v, rfl, -, hB2⟩
          have HB2 := Lib.hid (HW.out.trans (hB2.mono HW.out.size))
          clear hB2
          go_wp2_with fail
          go_roundw
          case rel => exact ⟨k + 1, by go_num, by omega, HR.out, HB2.out⟩
          case measure => simp [intOf]; omega
    · obtain rfl : k = n := by omega
      have HR : Hid (partsE ls = 0) := by
        have := HE.out
        rwa [List.drop_eq_nil_of_le (by rw [Hn.out]; exact Nat.le_refl _)] at this
      go_wp2_with fail
      go_ret
      exact ⟨ret_int HR.out.symm, HB1.out.trans (HW.out.mono HB1.out.size)⟩
theorem GlobFault_any (p : ByteArray) (w : World) (hp : p.size ≤ maxLen) : Calls Tryz.prog 77 #[.string p] w fun e w' => e = .returned (.int .i64 (globE p.data.toList)) ∧ Below w.heap.size w w' := by
  have hl : p.data.toList.length = p.size := by simp
  by_cases h : p.size < 1 ∨ 400 < p.size
  · rw [globE_size (by
      rcases h with h | h
      · exact .inl (nil_of_size h)
      · exact .inr (by omega))]
    exact (gFault_size p w hp h).mono fun e w' ⟨a, b⟩ => ⟨a, b ▸ Below.refl _ _⟩
  · rw [globE_parts (by
      rintro (h2 | h2)
      · exact ne_of_size (by omega) h2
      · omega)]
    exact gFault_parts p w (by omega) (by omega)
theorem gfStar_any (ls : List (List UInt8)) (i : Nat) (a g cap : Nat) (hi : i < ls.length) (hn : ls.length ≤ 100000) (W : World) (hv : W.cell? ⟨a, 0, none⟩ = some (.slice (some ⟨g, 0, none⟩) ls.length cap)) (hc : W.cell? ⟨g, i, none⟩ = some (strV (ls.getD i []))) :
    Calls Tryz.prog 124 #[.int .i64 (i : Nat), .pointer (some ⟨a, 0, none⟩)] W fun e w' => e = .returned (.bool (twoStars (ls.getD i []))) ∧ W = w' := by
  unfold strV at hc
  have h2 := two_is (ls.getD i [])
  obtain ⟨sx, Hsx⟩ := hid_name (⟨(ls.getD i []).toArray⟩ : ByteArray)
  rw [Hsx.out] at hc h2
  have HV := Lib.hid h2
  clear h2
  go_enter Tryz.func124, Tryz.ntmps124
  go_wp2_with fail
  go_ret
  exact ⟨by rw [← HV.out]; rfl, rfl⟩
set_option maxHeartbeats 2000000 in
theorem gfFits_any (ls ms : List (List UInt8)) (i k : Nat) (a b g h cap cap' : Nat) (hi : i < ls.length) (hk : k < ms.length) (hn : ls.length ≤ 100000) (hm : ms.length ≤ 100000) (hx : (ls.getD i []).length ≤ 1000) (hy : (ms.getD k []).length ≤ 1000) (W : World)
    (hv : W.cell? ⟨a, 0, none⟩ = some (.slice (some ⟨g, 0, none⟩) ls.length cap)) (hv' : W.cell? ⟨b, 0, none⟩ = some (.slice (some ⟨h, 0, none⟩) ms.length cap')) (hc : W.cell? ⟨g, i, none⟩ = some (strV (ls.getD i []))) (hc' : W.cell? ⟨h, k, none⟩ = some (strV (ms.getD k []))) :
    Calls Tryz.prog 125 #[.int .i64 (i : Nat), .int .i64 (k : Nat), .pointer (some ⟨a, 0, none⟩), .pointer (some ⟨b, 0, none⟩)] W fun e w' => e = .returned (.bool (partF (ls.getD i []) (ms.getD k []))) ∧ Below W.heap.size W w' := by
  unfold strV at hc hc'
  have hpf := fun V => PartFits_any ⟨(ls.getD i []).toArray⟩ ⟨(ms.getD k []).toArray⟩ (by rw [size_mk]; exact hx) (by rw [size_mk]; exact hy) V
  generalize partF _ _ = r at hpf ⊢
  obtain ⟨sx, Hsx⟩ := hid_name (⟨(ls.getD i []).toArray⟩ : ByteArray)
  obtain ⟨sy, Hsy⟩ := hid_name (⟨(ms.getD k []).toArray⟩ : ByteArray)
  rw [Hsx.out] at hc hpf
  rw [Hsy.out] at hc' hpf
  have HP := Lib.hid hpf
  clear hpf hx hy
  go_enter Tryz.func125, Tryz.ntmps125
  go_upto_region 1 with fail
  go_region_with (go_at_call 126; refine (HP.out _).mono ?_; rintro e w2 ⟨rfl, hB2⟩; have HB2 := Lib.hid hB2; clear hB2)
  all_goals (go_wp2_with fail)
  all_goals go_ret
  all_goals exact ⟨rfl, ⟨HB2.out.os, HB2.out.tape, HB2.out.output, HB2.out.size, HB2.out.block⟩⟩
set_option maxHeartbeats 4000000 in
theorem GlobFits_any (p s : ByteArray) (w : World) (hp : p.size ≤ maxLen) (hs : s.size ≤ maxLen) : Calls Tryz.prog 79 #[.string p, .string s] w fun e w' => e = .returned (.tuple #[.bool (fitsB p.data.toList s.data.toList), .int .i64 (fitsE p.data.toList s.data.toList)]) ∧ Below w.heap.size w w' := by
  have hgf := fun W => GlobFault_any p W hp
  have hpf := fun W => rFault_any s W hs
  have HG := Lib.hid hgf
  have HP := Lib.hid hpf
  clear hgf hpf
  by_cases hE : globE p.data.toList = 0
  · rw [hE] at HG
    by_cases hE2 : pathE s.data.toList = 0
    · rw [hE2] at HP
      have hfe : fitsE p.data.toList s.data.toList = 0 := by unfold fitsE; rw [if_pos hE, hE2]
      have hfb : fitsB p.data.toList s.data.toList = globF p.data.toList s.data.toList := by unfold fitsB; rw [hfe, decide_eq_true rfl, Bool.true_and]
      rw [hfe, hfb]
      have hp4 : p.size ≤ 400 := by
        have hl : p.data.toList.length = p.size := by simp
        apply Classical.byContradiction
        intro hc
        rw [globE_size (.inr (by omega))] at hE; cases hE
      have hs4 : s.size ≤ 400 := by
        have hl : s.data.toList.length = s.size := by simp
        apply Classical.byContradiction
        intro hc
        rw [pathE_size (.inr (by omega))] at hE2; cases hE2
      have hgd : globF p.data.toList s.data.toList = fitL twoStars partF (partsL 47 p.data.toList) (partsL 47 s.data.toList) := rfl
      rw [hgd]
      have hll : ∀ q : ByteArray, q.size ≤ 400 → (partsL 47 q.data.toList).length ≤ 401 ∧ ∀ k, ((partsL 47 q.data.toList).getD k []).length ≤ 1000 := fun q hq => by
        have hl : q.data.toList.length = q.size := by simp
        refine ⟨by have := partsL_le 47 q.data.toList; omega, fun k => ?_⟩
        have := partsL_getD 47 q.data.toList k
        omega
      obtain ⟨hl1, hl2⟩ := hll p hp4
      obtain ⟨hm1, hm2⟩ := hll s hs4
      obtain ⟨ls, Hls⟩ := hid_name (partsL 47 p.data.toList)
      obtain ⟨ms, Hms⟩ := hid_name (partsL 47 s.data.toList)
      rw [Hls.out] at hl1 hl2 ⊢
      rw [Hms.out] at hm1 hm2 ⊢
      have htb := fitL_table (star := twoStars) (fits := partF) ls ms [] []
      have HTB := Lib.hid htb
      have HL2 := Lib.hid hl2
      have HM2 := Lib.hid hm2
      clear hE hE2 hfe hfb hgd hll htb hl2 hm2
      go_enter Tryz.func79, Tryz.ntmps79
      go_wp2_with fail
      refine (HG.out _).mono ?_; rintro e w1 ⟨rfl, hB1⟩
      have HB1 := Lib.hid hB1
      clear hB1
      go_wp2_with fail
      refine (HP.out _).mono ?_; rintro e w2 ⟨rfl, hB2⟩
      have HB2 := Lib.hid (HB1.out.trans (hB2.mono HB1.out.size))
      clear hB2 HB1
      go_wp2_with fail
      refine (parts_any p 47 47 _ (by omega) rfl).mono ?_; rintro e w3 ⟨v, rfl, hT, hB3⟩
      rw [Hls.out] at hT
      have HB3 := Lib.hid (HB2.out.trans (hB3.mono HB2.out.size))
      have HT3 := Lib.hid hT
      obtain ⟨A, ca, rfl, -⟩ := hT.any
      clear hB3 hT HB2
      go_wp2_with fail
      have HV3 := Lib.hid (Blk.new w3 55 #[.slice A ls.length ca])
      have HT4 := Lib.hid (HT3.out.below ((Below.refl w3.heap.size w3).alloc (Nat.le_refl _) (.cells #[.slice A ls.length ca] 55)))
      have HB4 := Lib.hid (belowA HB3.out (.cells #[.slice A ls.length ca] 55))
      clear HB3 HT3
      generalize w1x : w3.heap.size = a at HV3 ⊢
      generalize w3.alloc (.cells #[.slice A ls.length ca] 55) = w4 at HV3 HT4 HB4 ⊢
      clear w1x
      refine (parts_any s 47 47 _ (by omega) rfl).mono ?_; rintro e w5 ⟨v, rfl, hT, hB5⟩
      rw [Hms.out] at hT
      have HT5 := Lib.hid hT
      obtain ⟨A', ca', rfl, -⟩ := hT.any
      have HB5 := Lib.hid (HB4.out.trans (hB5.mono HB4.out.size))
      have HV5 := Lib.hid (HV3.out.below hB5 HV3.out.lt)
      have HTl := Lib.hid (HT4.out.below hB5)
      clear hB5 hT HV3 HB4 HT4
      have hBn := (Below.refl w5.heap.size w5).alloc (Nat.le_refl _) (.cells #[.slice A' ms.length ca'] 55)
      have HV6 := Lib.hid (HV5.out.alloc (.cells #[.slice A' ms.length ca'] 55))
      have HW6 := Lib.hid (Blk.new w5 55 #[.slice A' ms.length ca'])
      have HTl6 := Lib.hid (HTl.out.below hBn)
      have HTm6 := Lib.hid (HT5.out.below hBn)
      have HB6 := Lib.hid (belowA HB5.out (.cells #[.slice A' ms.length ca'] 55))
      have hca : (w5.alloc (.cells #[.slice A' ms.length ca'] 55)).cell? ⟨a, 0, none⟩ = some (.slice A ls.length ca) := by rw [HV6.out.cell]; rfl
      clear hBn HV5 HTl HT5 HB5
      go_wp2_with fail
      generalize w5.heap.size = b at HW6 ⊢
      generalize w5.alloc (.cells #[.slice A' ms.length ca'] 55) = w6 at HV6 HW6 HTl6 HTm6 HB6 hca ⊢
      have hf : ∀ i, i < ls.length → ∀ W, Below w6.heap.size w6 W → Calls Tryz.prog 124 #[.int .i64 (i : Nat), .pointer (some ⟨a, 0, none⟩)] W fun e w' => e = .returned (.bool (twoStars (ls.getD i []))) ∧ Below W.heap.size W w' := fun i hi W hW => by
        obtain ⟨A2, c2, e2, h2⟩ := (HTl6.out.below hW).any
        injection e2 with e2 _ e3
        subst e2 e3
        obtain ⟨g, rfl, -, -, hc⟩ := h2 i hi
        refine (gfStar_any ls i a g ca hi (by omega) W (by rw [(HV6.out.below hW HV6.out.lt).cell]; rfl) hc).mono ?_
        rintro e w' ⟨rfl, rfl⟩
        exact ⟨rfl, Below.refl _ _⟩
      have hg : ∀ i k, i < ls.length → k < ms.length → ∀ W, Below w6.heap.size w6 W → Calls Tryz.prog 125 #[.int .i64 (i : Nat), .int .i64 (k : Nat), .pointer (some ⟨a, 0, none⟩), .pointer (some ⟨b, 0, none⟩)] W fun e w' => e = .returned (.bool (partF (ls.getD i []) (ms.getD k []))) ∧ Below W.heap.size W w' := fun i k hi hk W hW => by
        obtain ⟨A2, c2, e2, h2⟩ := (HTl6.out.below hW).any
        injection e2 with e2 _ e3
        subst e2 e3
        obtain ⟨A3, c3, e4, h3⟩ := (HTm6.out.below hW).any
        injection e4 with e4 _ e5
        subst e4 e5
        obtain ⟨g, rfl, -, -, hc⟩ := h2 i hi
        obtain ⟨h, rfl, -, -, hc'⟩ := h3 k hk
        exact gfFits_any ls ms i k a b g h ca ca' hi hk (by omega) (by omega) (HL2.out i) (HM2.out k) W (by rw [(HV6.out.below hW HV6.out.lt).cell]; rfl) (by rw [(HW6.out.below hW HW6.out.lt).cell]; rfl) hc hc'
      obtain ⟨h1, h2, h3, h4⟩ := HTB.out
      refine (table_any 124 125 (.pointer (some ⟨a, 0, none⟩)) (.pointer (some ⟨a, 0, none⟩)) (.pointer (some ⟨b, 0, none⟩)) _ _ (fun i k => fitL twoStars partF (ls.take i) (ms.take k)) ls.length ms.length (by omega) (by omega) (enters_of Tryz.func124 (by kernel_rfl) rfl) (enters_of Tryz.func125 (by kernel_rfl) rfl) w6 hf hg h1 h2 h3 h4).mono ?_
      rintro e w7 ⟨rfl, hB7⟩
      clear hf hg h1 h2 h3 h4 hca
      rw [List.take_length, List.take_length]
      go_wp2_with fail
      refine bodyPost_ret (v := .tuple #[.bool (fitL twoStars partF ls ms), .int .i64 0]) (by simp [results, Tryz.results79, go_sem, *]) rfl ?_
      exact ⟨rfl, HB6.out.trans (hB7.mono HB6.out.size)⟩
    · have hfe : fitsE p.data.toList s.data.toList = pathE s.data.toList := by unfold fitsE; rw [if_pos hE]
      have hfb : fitsB p.data.toList s.data.toList = false := by unfold fitsB; rw [hfe, decide_eq_false hE2, Bool.false_and]
      rw [hfe, hfb]
      obtain ⟨E, HEE⟩ := hid_name (pathE s.data.toList)
      rw [HEE.out] at HP hE2 ⊢
      have hne : (E == 0) = false := by simpa using hE2
      clear hfe hfb hE hE2
      go_enter Tryz.func79, Tryz.ntmps79
      go_wp2_with fail
      refine (HG.out _).mono ?_; rintro e w1 ⟨rfl, hB1⟩
      have HB1 := Lib.hid hB1
      clear hB1
      go_wp2_with fail
      refine (HP.out _).mono ?_; rintro e w2 ⟨rfl, hB2⟩
      have HB2 := Lib.hid (HB1.out.trans (hB2.mono HB1.out.size))
      clear hB2 HB1
      go_wp2_with fail
      refine bodyPost_ret (v := .tuple #[.bool false, .int .i64 E]) (by simp [results, Tryz.results79, go_sem, *]) rfl ?_
      exact ⟨rfl, HB2.out⟩
  · have hfe : fitsE p.data.toList s.data.toList = globE p.data.toList := by unfold fitsE; rw [if_neg hE]
    have hfb : fitsB p.data.toList s.data.toList = false := by unfold fitsB; rw [hfe, decide_eq_false hE, Bool.false_and]
    rw [hfe, hfb]
    obtain ⟨E, HEE⟩ := hid_name (globE p.data.toList)
    rw [HEE.out] at HG hE ⊢
    have hne : (E == 0) = false := by simpa using hE
    clear hfe hfb hE
    go_enter Tryz.func79, Tryz.ntmps79
    go_wp2_with fail
    refine (HG.out _).mono ?_; rintro e w1 ⟨rfl, hB1⟩
    have HB1 := Lib.hid hB1
    clear hB1
    go_wp2_with fail
    refine bodyPost_ret (v := .tuple #[.bool false, .int .i64 E]) (by simp [results, Tryz.results79, go_sem, *]) rfl ?_
    exact ⟨rfl, HB1.out⟩
end Go.Proofs.YtoikpnjnljdpaaaGreatDoor
