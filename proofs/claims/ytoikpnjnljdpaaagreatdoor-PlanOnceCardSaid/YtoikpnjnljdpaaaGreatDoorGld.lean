/- Texts of one kind, in one file: GlqC, GlqD, GlqE. -/
import Derived.Test.YtoikpnjnljdpaaaGreatDoorGlq
import Derived.Test.YtoikpnjnljdpaaaGreatDoorTxs
import Derived.Test.YtoikpnjnljdpaaaGreatDoorSpl
import Derived.Test.YtoikpnjnljdpaaaGreatDoorFld
import Derived.Lib.MinMax
import Derived.BigQuiet
import Derived.Lib.ConvBytes
import Derived.Test.YtoikpnjnljdpaaaGreatDoorMth
import Derived.Deep.RegionWith
/- The program's sets and pieces of a part of a pattern. -/
set_option linter.unusedVariables false
set_option maxRecDepth 100000
namespace Go.Proofs.YtoikpnjnljdpaaaGreatDoor
open Go.RowKit
open Go.OpenShut
theorem bang_pre (s : ByteArray) (h : s.data.toList.head? = some 91) : hasPre s ⟨#[91, 33]⟩ = notS (s.data.toList.drop 1) := by
  unfold hasPre notS
  rcases e : s.data.toList with _ | ⟨a, _ | ⟨b, r⟩⟩
  · rw [e] at h; cases h
  · rw [e] at h
    injection h with h
    subst h
    rfl
  · rw [e] at h
    injection h with h
    subst h
    show decide ([91, 33] <+: 91 :: b :: r) = decide (([b] ++ r).head? = some 33)
    congr 1
    simp [List.cons_prefix_cons, eq_comm]
theorem sub_list (s : ByteArray) (k : Nat) : (s.extract k s.size).data.toList = s.data.toList.drop k := by
  rw [ByteArray.data_extract, Array.toList_extract]
  have h : s.data.toList.length = s.size := by simp
  simp only [List.extract]
  exact List.take_of_length_le (by rw [List.length_drop, h]; omega)
theorem pre_list (s : ByteArray) (k : Nat) : (s.extract 0 k).data.toList = s.data.toList.take k := by
  rw [ByteArray.data_extract, Array.toList_extract]
  simp [List.extract]
set_option maxHeartbeats 1000000 in
theorem setSize_any (s : ByteArray) (w : World) (h : s.data.toList.head? = some 91) (hs : s.size ≤ 1000) : Calls Tryz.prog 142 #[.string s] w fun e w' => e = .returned (.int .i64 (szL s.data.toList)) ∧ w = w' := by
  have hl : s.data.toList.length = s.size := by simp
  have h1 : 1 ≤ s.size := by
    rw [← hl]
    rcases e : s.data.toList with _ | ⟨a, r⟩
    · rw [e] at h; cases h
    · simp
  have hHP := fun W => HasPrefix_any s ⟨#[91, 33]⟩ W (by unfold maxLen; omega) (by decide)
  rw [bang_pre s h] at hHP
  have hb : behL s.data.toList = min ((if notS (s.data.toList.drop 1) then 2 else 1) + 1) s.size := by unfold behL; rw [hl]
  have hz : szL s.data.toList = if hasB 93 (s.data.toList.drop (behL s.data.toList)) then behL s.data.toList + pos 93 (s.data.toList.drop (behL s.data.toList)) + 1 else 0 := rfl
  obtain ⟨b, hbb⟩ : ∃ b, b = behL s.data.toList := ⟨_, rfl⟩
  rw [← hbb] at hb hz
  have hib : Hid (∀ W, Calls Tryz.prog 100 #[.string (s.extract b s.size), .int .u8 93] W fun e w' => e = .returned (.int .i64 (if hasB 93 (s.data.toList.drop b) = true then (pos 93 (s.data.toList.drop b) : Int) else -1)) ∧ W = w') := fun W => by
    have := IndexByte_any (s.extract b s.size) 93 W
    rw [sub_list, indexByte_pos] at this
    exact this
  have hle : pos 93 (s.data.toList.drop b) ≤ s.size - b := by
    have := pos_le 93 (s.data.toList.drop b)
    rwa [List.length_drop, hl] at this
  have hbs : b ≤ s.size := by rw [hb]; omega
  rw [hz]
  generalize pos 93 (s.data.toList.drop b) = q at hib hle
  have hE : b = s.size → hasB 93 (s.data.toList.drop b) = false := fun e => by
    rw [List.drop_eq_nil_of_le (by omega)]; rfl
  generalize hasB 93 (s.data.toList.drop b) = y at hib hE
  have HE := Lib.hid hE
  have HHP := Lib.hid hHP
  generalize notS (s.data.toList.drop 1) = z at hb HHP
  have HH := Lib.hid h
  clear hHP hz hbb hE hl h
  have hmin : min (if z then 3 else 2 : Int) (s.size : Int) = (b : Int) := by
    rw [hb]
    cases z <;> simp only [if_true, Bool.false_eq_true, if_false] <;> omega
  have HB := Lib.hid hb
  clear hb
  by_cases hlt : b < s.size
  · cases z with
    | true =>
      simp only [if_true] at hmin
      cases y with
      | true =>
        simp only [if_true] at hib ⊢
        go_enter Tryz.func142, Tryz.ntmps142
        go_wp2_with fail
        refine (HHP.out _).mono ?_; rintro e w' ⟨rfl, rfl⟩
        go_wp2_with fail
        refine (hib.out _).mono ?_; rintro e w' ⟨rfl, rfl⟩
        go_wp2_with fail
        go_ret
        exact ⟨ret_int (by omega), rfl⟩
      | false =>
        simp only [Bool.false_eq_true, if_false] at hib ⊢
        go_enter Tryz.func142, Tryz.ntmps142
        go_wp2_with fail
        refine (HHP.out _).mono ?_; rintro e w' ⟨rfl, rfl⟩
        go_wp2_with fail
        refine (hib.out _).mono ?_; rintro e w' ⟨rfl, rfl⟩
        go_wp2_with fail
        go_ret
        exact ⟨rfl, rfl⟩
    | false =>
      simp only [Bool.false_eq_true, if_false] at hmin
      cases y with
      | true =>
        simp only [if_true] at hib ⊢
        go_enter Tryz.func142, Tryz.ntmps142
        go_wp2_with fail
        refine (HHP.out _).mono ?_; rintro e w' ⟨rfl, rfl⟩
        go_wp2_with fail
        refine (hib.out _).mono ?_; rintro e w' ⟨rfl, rfl⟩
        go_wp2_with fail
        go_ret
        exact ⟨ret_int (by omega), rfl⟩
      | false =>
        simp only [Bool.false_eq_true, if_false] at hib ⊢
        go_enter Tryz.func142, Tryz.ntmps142
        go_wp2_with fail
        refine (HHP.out _).mono ?_; rintro e w' ⟨rfl, rfl⟩
        go_wp2_with fail
        refine (hib.out _).mono ?_; rintro e w' ⟨rfl, rfl⟩
        go_wp2_with fail
        go_ret
        exact ⟨rfl, rfl⟩
  · have hbe : b = s.size := by omega
    have hy := HE.out hbe
    subst hy
    subst hbe
    simp only [Bool.false_eq_true, if_false] at hib ⊢
    rw [show s.extract s.size s.size = ByteArray.empty by rw [← ByteArray.size_eq_zero_iff, ByteArray.size_extract]; omega] at hib
    cases z with
    | true =>
      simp only [if_true] at hmin
      go_enter Tryz.func142, Tryz.ntmps142
      go_wp2_with fail
      refine (HHP.out _).mono ?_; rintro e w' ⟨rfl, rfl⟩
      go_wp2_with fail
      refine (hib.out _).mono ?_; rintro e w' ⟨rfl, rfl⟩
      go_wp2_with fail
      go_ret
      exact ⟨rfl, rfl⟩
    | false =>
      simp only [Bool.false_eq_true, if_false] at hmin
      go_enter Tryz.func142, Tryz.ntmps142
      go_wp2_with fail
      refine (HHP.out _).mono ?_; rintro e w' ⟨rfl, rfl⟩
      go_wp2_with fail
      refine (hib.out _).mono ?_; rintro e w' ⟨rfl, rfl⟩
      go_wp2_with fail
      go_ret
      exact ⟨rfl, rfl⟩
set_option maxHeartbeats 2000000 in
theorem pieces_any (s : ByteArray) (hs : s.size ≤ 1000) (w : World) : Calls Tryz.prog 113 #[.string s] w fun e w' => ∃ v, e = .returned (.tuple #[v, .bool (pieceF s.data.toList).isSome]) ∧ Texts w' w.heap.size v ((pieceF s.data.toList).getD []) ∧ Below w.heap.size w w' := by
  go_enter Tryz.func113, Tryz.ntmps113
  go_wp2_with fail
  go_loopw [0, 4] (fun cv lv wr => ∃ (c : ByteArray) (ps : List (List UInt8)), cv = .string c ∧ c.size ≤ s.size ∧ ps.length ≤ s.size - c.size ∧ Hid (Texts wr w.heap.size lv ps) ∧ Hid (pieceF s.data.toList = (pieceF c.data.toList).map fun qs => ps ++ qs) ∧ Hid (Below w.heap.size w wr)) (fun cv _ _ => strLen cv)
  case atStart => exact ⟨s, [], rfl, Nat.le_refl _, Nat.zero_le _, Texts.nil _ _, by unfold Hid; simp, Below.refl _ _⟩
  case round =>
    obtain ⟨c, ps, rfl, hcs, hpl, HT, HI, HB⟩ := hrel
    obtain ⟨v0, hv0⟩ : ∃ v0, v0 = u4 := ⟨_, rfl⟩
    subst hv0
    have hcl : c.data.toList.length = c.size := by simp
    by_cases hlt : 0 < c.size
    · have hne : c.data.toList ≠ [] := fun h => by rw [h] at hcl; simp at hcl; omega
      have e0 : c.toList.isEmpty = false := toList_ne hne
      have hstep := pieceF_step hne
      have hnl := pieceN_le c.data.toList hne
      rw [hcl] at hnl
      have hhd : c.data.toList.head? = some c[0] := by
        rcases e : c.data.toList with _ | ⟨a, r⟩
        · exact absurd e hne
        · have h3 : c[0] = c.data.toList[0]'(by omega) := rfl
          rw [h3]; simp [e]
      have hN : pieceN c.data.toList = if c[0] = 91 then szL c.data.toList else 1 := by
        unfold pieceN; rw [hhd]; simp
      obtain ⟨n, hn⟩ : ∃ n, n = pieceN c.data.toList := ⟨_, rfl⟩
      rw [← hn] at hstep hnl hN
      have HSt := Lib.hid hstep
      have HHd := Lib.hid hhd
      have HNn := Lib.hid hN
      have hb1 : ∀ b0 : Bool, ((c[0].toNat : Int) == 91) = b0 → (b0 = true → c[0] = 91) ∧ (b0 = false → c[0] ≠ 91) := fun b0 h => by
        have h9 : ((c[0].toNat : Int) == 91) = decide (c[0] = 91) := byte_eq c[0] 91
        rw [h9] at h
        subst h
        exact ⟨fun h => of_decide_eq_true h, fun h => of_decide_eq_false h⟩
      obtain ⟨b0, hb0⟩ : ∃ b0 : Bool, ((c[0].toNat : Int) == 91) = b0 := ⟨_, rfl⟩
      have HB1 := Lib.hid (hb1 b0 hb0)
      clear hstep hhd hN hn hne hcl hb1
      go_upto_if 10 with fail
      clear hb0
      go_cut [5] (fun nv wx => nv = .int .i64 n ∧ wr = wx)
      case first =>
        have hN := HNn.out
        cases b0 with
        | true =>
          have h91 := HB1.out.1 rfl
          rw [if_pos h91] at hN
          have HZ : Hid (Calls Tryz.prog 142 #[.string c] wr fun e w' => e = .returned (.int .i64 n) ∧ wr = w') := by
            have := setSize_any c wr (by rw [HHd.out, h91]) (by omega)
            rw [← hN] at this; exact this
          clear hN h91
          go_wp2_with fail
          refine HZ.out.mono ?_; rintro e w' ⟨rfl, rfl⟩
          go_wp2_with fail
          go_meet
          exact ⟨rfl, rfl⟩
        | false =>
          rw [if_neg (HB1.out.2 rfl)] at hN
          subst hN
          go_wp2_with fail
          go_meet
          exact ⟨rfl, rfl⟩
      case rest =>
      obtain ⟨rfl, hwx⟩ := hcut
      subst hwx
      by_cases hz : n = 0
      · have hst := HSt.out
        rw [if_pos hz] at hst
        have hI := HI.out
        rw [hst, Option.map_none] at hI
        have HI2 := Lib.hid hI
        have hz2 : ((n : Int) == 0) = true := by simpa using hz
        clear hst hI HSt HNn HHd hz
        go_wp2_with fail
        refine bodyPost_ret (v := .tuple #[.slice none 0 0, .bool false]) (by simp [results, Tryz.results113, go_sem, *]) rfl ?_
        exact ⟨_, by rw [HI2.out]; rfl, by rw [HI2.out]; exact Texts.nil _ _, HB.out⟩
      · have hst := HSt.out
        rw [if_neg hz] at hst
        have hI := HI.out
        rw [hst, Option.map_map] at hI
        have HI2 := Lib.hid hI
        have hz2 : ((n : Int) == 0) = false := by simpa using hz
        have hz3 : 0 < n := by omega
        have hpl2 : (ps.length + 1) * 16 ≤ 140737488355328 := by omega
        clear hst hI HSt HNn HHd hz
        go_wp2_with (at_builtin; refine Stay.go ?_)
        refine Stay.on ?_
        have hlit := Texts.lit (w := wr) [c.data.toList.take n] (by show 1 ≤ maxLen; decide)
        rw [show (strC [c.data.toList.take n]).toArray = #[.string (c.extract 0 n)] from by
          show #[Value.string ⟨(c.data.toList.take n).toArray⟩] = _
          exact congrArg (fun z : ByteArray => #[Value.string z]) (ByteArray.ext (Array.toList_inj.1 (by rw [pre_list])))] at hlit
        have hlit2 : Texts (wr.alloc (.cells #[.string (c.extract 0 n)] 9)) w.heap.size (.slice (some ⟨wr.heap.size, 0, none⟩) 1 1) [c.data.toList.take n] := own_mono hlit HB.out.size
        have hT2 := HT.out.below ((Below.refl wr.heap.size wr).alloc (Nat.le_refl _) (.cells #[.string (c.extract 0 n)] 9))
        have hB2 := HB.out.alloc HB.out.size (.cells #[.string (c.extract 0 n)] 9)
        refine append_texts rfl (.tmp 15) (.tmp 19) rfl w.heap.size v0 ps rfl hT2 w.heap.size _ [c.data.toList.take n] rfl hlit2 hpl2 hB2.size ?_
        intro v9 w9 ho9 hg9
        have HT9 := Lib.hid ho9
        have HB9 : Hid (Below w.heap.size w w9) := hB2.grown hg9 hB2.size fun k hk => (World.ownsRow.lt hT2 k hk).1
        have hcx : (c.extract n c.size).data.toList = c.data.toList.drop n := sub_list c n
        have hcy : (c.extract n c.size).size = c.size - n := by rw [ByteArray.size_extract]; omega
        have HCX := Lib.hid hcx
        have HCY := Lib.hid hcy
        clear hlit hlit2 hT2 hB2 ho9 hg9 hcx hcy hpl2
        go_wp2_with fail
        go_roundw
        case rel =>
          refine ⟨_, ps ++ [c.data.toList.take n], rfl, by rw [HCY.out]; omega, by rw [HCY.out, List.length_append, List.length_singleton]; omega, HT9.out, ?_, HB9.out⟩
          unfold Hid
          rw [HI2.out, HCX.out]
          congr 1; funext qs; simp
        case measure => simp only [strLen]; rw [HCY.out]; omega
    · have hnil : c.data.toList = [] := List.eq_nil_of_length_eq_zero (by omega)
      have e0 : c.toList = [] := toList_nil hnil
      have hI := HI.out
      rw [hnil, pieceF_nil, Option.map_some, List.append_nil] at hI
      have HI2 := Lib.hid hI
      clear hI HI hnil
      go_wp2_with fail
      refine bodyPost_ret (v := .tuple #[v0, .bool true]) (by simp [results, Tryz.results113, go_sem, *]) rfl ?_
      exact ⟨v0, by rw [HI2.out]; rfl, by rw [HI2.out]; exact HT.out, HB.out⟩
end Go.Proofs.YtoikpnjnljdpaaaGreatDoor
/- The program's sets of bytes. -/
set_option linter.unusedVariables false
set_option maxRecDepth 100000
namespace Go.Proofs.YtoikpnjnljdpaaaGreatDoor
open Go.RowKit
open Go.OpenShut
def setC (f : UInt8 → Bool) : Array Value := (bitsC f).toArray
theorem setC_size (f : UInt8 → Bool) : (setC f).size = 256 := by unfold setC; rw [List.size_toArray, bitsC_len]
theorem zero_set (W : World) : (zeroValue 175).run Tryz.prog W = .ok (.agg (setC fun _ => false)) W := by kernel_rfl
/-- a set's block -/
def SetB (W : World) (g : Nat) (f : UInt8 → Bool) : Prop := Blk W g 175 (setC f)
variable {W : World} {g : Nat} {f : UInt8 → Bool}
theorem SetB.at (h : SetB W g f) (j : Nat) (hj : j < 256) : W.cell? ⟨g, j, none⟩ = some (.bool (f (UInt8.ofNat j))) ∧ W.frozen? ⟨g, j, none⟩ = false := by
  refine ⟨?_, h.frozen _⟩
  rw [h.cell]
  unfold setC
  rw [List.getElem?_toArray, bitsC_at f j hj]
theorem setC_set (v : Bool) (f g : UInt8 → Bool) (q : Nat) (hg : ∀ x, g x = if x.toNat = q then v else f x) : (setC f).setIfInBounds q (.bool v) = setC g := by
  unfold setC
  rw [List.setIfInBounds_toArray]
  congr 1
  apply List.ext_getElem?
  intro j
  by_cases hj : j < 256
  · have e : (UInt8.ofNat j).toNat = j := by rw [UInt8.toNat_ofNat']; omega
    rw [bitsC_at g j hj, hg, e]
    by_cases hc : j = q
    · rw [if_pos hc, ← hc, List.getElem?_set_self (by rw [bitsC_len]; exact hj)]
    · rw [if_neg hc, List.getElem?_set_ne (fun h => hc h.symm), bitsC_at f j hj]
  · rw [List.getElem?_eq_none (by rw [List.length_set, bitsC_len]; omega), List.getElem?_eq_none (by rw [bitsC_len]; omega)]
theorem SetB.put (h : SetB W g f) (j : Nat) (v : Bool) (f' : UInt8 → Bool) (hf : ∀ x, f' x = if x.toNat = j then v else f x) : SetB (W.setCell ⟨g, j, none⟩ (.bool v)) g f' := by
  have := h.set_ j (.bool v)
  rwa [setC_set v f f' j hf] at this
theorem SetB.same (h : SetB W g f) {f' : UInt8 → Bool} (hf : ∀ x, f x = f' x) : SetB W g f' := by
  rwa [show f' = f from funext fun x => (hf x).symm]
/-- bytes in memory -/
def encB (x : UInt8) : Value := .int .u8 x.toNat
def limB (_ : UInt8) : Prop := True
theorem bang_has (l : List UInt8) : Lib.hasPrefix l [33] = notS l := by
  cases l with
  | nil => rfl
  | cons c r =>
    show (33 == c && List.isPrefixOf [] r) = decide (some c = some 33)
    by_cases h : c = 33
    · subst h; rfl
    · rw [decide_eq_false (by simpa using h)]
      simp [beq_eq_false_iff_ne.2 (Ne.symm h)]
theorem bang_trim (l : List UInt8) : Lib.trimPrefix l [33] = if notS l then l.drop 1 else l := by
  unfold Lib.trimPrefix; rw [bang_has]; rfl
set_option maxHeartbeats 1000000 in
theorem set1_any (f : UInt8 → Bool) (nt : Bool) (a b : Nat) (W : World) (h1 : SetB W a f) (h2 : W.cell? ⟨b, 0, none⟩ = some (.bool nt)) (x : UInt8) :
    Calls Tryz.prog 172 #[.int .u8 x.toNat, .pointer (some ⟨a, 0, none⟩), .pointer (some ⟨b, 0, none⟩)] W fun e w' => e = .returned (.bool (f x != nt)) ∧ ∃ n, w' = W.drewN n := by
  have hu : x.toNat < 256 := x.toNat_lt
  have hc := (h1.at x.toNat hu).1
  rw [UInt8.ofNat_toNat] at hc
  clear h1
  go_enter Tryz.func172, Tryz.ntmps172
  go_wp2_with fail
  go_quiet (fail)
  go_wp2_with fail
  go_ret
  exact ⟨rfl, _, rfl⟩
theorem setM_step (s : ByteArray) (hs : 0 < s.size) (acc : UInt8 → Bool) :
    ∃ (n : Nat) (hi : UInt8) (rg : Bool), 1 ≤ n ∧ n ≤ s.size ∧ setM acc s.data.toList = setM (fun x => acc x || span s[0] hi x) (s.data.toList.drop n) ∧
      (∀ h : 2 < s.size, ((s[1].toNat : Int) == 45) = rg) ∧ (¬ 2 < s.size → rg = false) ∧ (rg = true → ∃ h : 2 < s.size, n = 3 ∧ hi = s[2]) ∧ (rg = false → n = 1 ∧ hi = s[0]) := by
  have e0 := drop_at s 0 hs
  rw [List.drop_zero] at e0
  by_cases h2 : 2 < s.size
  · have e1 := drop_at s 1 (by omega)
    have e2 := drop_at s 2 h2
    have hb : ((s[1].toNat : Int) == 45) = decide (s[1] = 45) := byte_eq s[1] 45
    by_cases hr : s[1] = 45
    · refine ⟨3, s[2], true, by omega, h2, ?_, fun _ => by rw [hb]; exact decide_eq_true hr, fun h => absurd h2 h, fun _ => ⟨h2, rfl, rfl⟩, fun h => by cases h⟩
      conv => lhs; rw [e0, e1, e2, hr, setM_rng]
    · refine ⟨1, s[0], false, by omega, hs, ?_, fun _ => by rw [hb]; exact decide_eq_false hr, fun _ => rfl, fun h => (by cases h), fun _ => ⟨rfl, rfl⟩⟩
      conv => lhs; rw [e0, setM_one _ _ _ (by
        intro h r e
        rw [e1] at e
        injection e with ea _
        exact hr ea)]
  · refine ⟨1, s[0], false, by omega, hs, ?_, fun h => absurd h h2, fun _ => rfl, fun h => (by cases h), fun _ => ⟨rfl, rfl⟩⟩
    conv => lhs; rw [e0, setM_one _ _ _ (by
      intro h r e
      have := congrArg List.length e
      have h3 : s.data.toList.length = s.size := by simp
      rw [List.length_drop, h3, List.length_cons, List.length_cons] at this; omega)]
set_option maxHeartbeats 8000000 in
theorem set_any (Fr : World → World → Prop) (hk1 : ∀ w W b cs, Blk w b 175 cs → Fr w W → Blk W b 175 cs) (hk2 : ∀ w W b cs, Blk w b 4 cs → Fr w W → Blk W b 4 cs) (q : ByteArray) (hq : q.size ≤ 1000) (w : World) : Calls Tryz.prog 165 #[.string q] w fun e w' => ∃ v, e = .returned v ∧ FitV Fr encB limB w' v (setT q.data.toList) ∧ Below w.heap.size w w' := by
  have hCP : ∀ W, Calls Tryz.prog 171 #[.string q, .string ⟨#[33]⟩] W fun e w' => e = .returned (.tuple #[.string (bs (if notS q.data.toList then q.data.toList.drop 1 else q.data.toList)), .bool (notS q.data.toList)]) ∧ W = w' := fun W => by
    have h := Tryz.strings_CutPrefix q ⟨#[33]⟩ W
    rw [show (⟨#[33]⟩ : ByteArray).data.toList = [33] from rfl, bang_has, bang_trim] at h
    exact h.mono fun e w' ⟨a, b⟩ => ⟨a, b.symm⟩
  have hT : ∀ x, setT q.data.toList x = (setM (fun _ => false) (if notS q.data.toList then q.data.toList.drop 1 else q.data.toList) x != notS q.data.toList) := fun x => by
    unfold setT; cases notS q.data.toList <;> simp
  have hml : (if notS q.data.toList then q.data.toList.drop 1 else q.data.toList).length ≤ 1000 := by
    have hl : q.data.toList.length = q.size := by simp
    split
    · rw [List.length_drop]; omega
    · omega
  generalize setT q.data.toList = F at hT ⊢
  generalize hM : (if notS q.data.toList then q.data.toList.drop 1 else q.data.toList) = M at hCP hT hml
  clear hM
  generalize notS q.data.toList = nt at hCP hT
  have HT := Lib.hid hT
  have HCP := Lib.hid hCP
  have hms : (bs M).size ≤ 1000 := by rw [bs_size]; exact hml
  have hmb : (bs M).data.toList = M := bs_list M
  rw [← hmb] at HT
  generalize bs M = m0 at HCP hms HT
  clear hT hCP hml hmb
  have hz := zero_set
  have HZ0 : Hid (∀ W : World, SetB (W.alloc (.cells (setC fun _ => false) 175)) W.heap.size fun _ => false) := fun W => Blk.new W 175 _
  generalize (setC fun _ => false) = z at hz HZ0
  go_enter Tryz.func165, Tryz.ntmps165
  go_wp2_with fail
  refine (HCP.out _).mono ?_; rintro e w' ⟨rfl, rfl⟩
  go_upto_region 2 with fail
  have HN1 := Lib.hid (Blk.new w 4 #[.bool nt])
  have HB1 := Lib.hid (belowA (Below.refl w.heap.size w) (.cells #[.bool nt] 4))
  obtain ⟨b4, hb4⟩ : ∃ b4, b4 = w.heap.size := ⟨_, rfl⟩
  rw [← hb4] at HN1 ⊢
  have hb4w : w.heap.size ≤ b4 := by omega
  generalize w.alloc (.cells #[.bool nt] 4) = w1 at HN1 HB1 ⊢
  clear hb4
  go_upto_region 3 with fail
  have HS2 := Lib.hid (HZ0.out w1)
  have HN2 := Lib.hid (HN1.out.alloc (.cells z 175))
  have HB2 := Lib.hid (belowA HB1.out (.cells z 175))
  have hne0 : b4 ≠ w1.heap.size := by have := HN1.out.lt; omega
  obtain ⟨b5, hb5⟩ : ∃ b5, b5 = w1.heap.size := ⟨_, rfl⟩
  have hb5w : w.heap.size ≤ b5 := by have := HB1.out.size; omega
  rw [← hb5] at HS2 hne0 ⊢
  generalize w1.alloc (.cells z 175) = w2 at HS2 HN2 HB2 ⊢
  clear hb5 hz HZ0 HN1 HB1
  go_wp2_with fail
  go_loopw [3] (fun mv wr => ∃ (m : ByteArray) (acc : UInt8 → Bool), mv = .string m ∧ m.size ≤ 1000 ∧ Hid (SetB wr b5 acc) ∧ Hid (Blk wr b4 4 #[.bool nt]) ∧ Hid (setM (fun _ => false) m0.data.toList = setM acc m.data.toList) ∧ Hid (Below w.heap.size w wr)) (fun mv _ => strLen mv)
  case atStart => exact ⟨m0, _, rfl, hms, HS2.out, HN2.out, rfl, HB2.out⟩
  case round =>
    obtain ⟨m, acc, rfl, hmm, HS, HN, HI, HB⟩ := hrel
    clear HS2 HN2 HB2
    have hml : m.data.toList.length = m.size := by simp
    by_cases hlt : 0 < m.size
    · have hne : m.data.toList ≠ [] := fun h => by rw [h] at hml; simp at hml; omega
      have e0 : m.toList.isEmpty = false := toList_ne hne
      obtain ⟨n, hi, rg, hn1, hn2, hstep, hr1, hr2, hr3, hr4⟩ := setM_step m hlt acc
      have HSt := Lib.hid hstep
      have HR1 := Lib.hid hr1
      have HR2 := Lib.hid hr2
      have HR3 := Lib.hid hr3
      have HR4 := Lib.hid hr4
      have hlo : m[0].toNat < 256 := m[0].toNat_lt
      have hhi : hi.toNat < 256 := hi.toNat_lt
      clear hne hml hstep hr1 hr2 hr3 hr4
      go_upto_region 4 with fail
      go_cut [6, 7] (fun nv lv wx => nv = .int .i64 1 ∧ lv = .int .u8 m[0].toNat ∧ ∃ d, wx = wr.drewN d)
      case first =>
        go_quiet (fail)
        go_wp2_with fail
        go_meet
        exact ⟨rfl, rfl, _, rfl⟩
      case rest =>
      obtain ⟨rfl, rfl, d, hwx⟩ := hcut
      subst hwx
      have HS' : Hid (SetB (wr.drewN d) b5 acc) := HS.out
      have HN' : Hid (Blk (wr.drewN d) b4 4 #[.bool nt]) := HN.out
      have HB' : Hid (Below w.heap.size w (wr.drewN d)) := drewN_below HB.out d
      generalize wr.drewN d = wq at HS' HN' HB' ⊢
      clear HS HN HB
      go_upto_region 5 with fail
      go_cut [25] (fun bv wx => bv = .bool rg ∧ wq = wx)
      case first =>
        by_cases h2 : 2 < m.size
        · have hr := HR1.out h2
          have h2' : (2 : Int) < (m.size : Int) := by omega
          go_wp2_with fail
          go_meet
          exact ⟨rfl, rfl⟩
        · have hr := HR2.out h2
          have h2' : ¬ (2 : Int) < (m.size : Int) := by omega
          subst hr
          go_wp2_with fail
          go_meet
          exact ⟨rfl, rfl⟩
      case rest =>
      obtain ⟨rfl, hwx⟩ := hcut
      subst hwx
      go_upto_if 25 with fail
      go_cut [6, 7] (fun nv lv wx => nv = .int .i64 n ∧ lv = .int .u8 hi.toNat ∧ ∃ d, wx = wq.drewN d)
      case first =>
        cases rg with
        | true =>
          obtain ⟨h2, rfl, rfl⟩ := HR3.out rfl
          have h2' : (2 : Int) < (m.size : Int) := by omega
          go_wp2_with fail
          go_quiet (fail)
          go_wp2_with fail
          go_meet
          exact ⟨rfl, rfl, _, rfl⟩
        | false =>
          obtain ⟨rfl, rfl⟩ := HR4.out rfl
          go_wp2_with fail
          go_meet
          exact ⟨rfl, rfl, 0, rfl⟩
      case rest =>
      obtain ⟨rfl, rfl, d2, hwx⟩ := hcut
      subst hwx
      have HS : Hid (SetB (wq.drewN d2) b5 acc) := HS'.out
      have HN : Hid (Blk (wq.drewN d2) b4 4 #[.bool nt]) := HN'.out
      have HB : Hid (Below w.heap.size w (wq.drewN d2)) := drewN_below HB'.out d2
      generalize wq.drewN d2 = ws at HS HN HB ⊢
      clear HS' HN' HB' HR1 HR2 HR3 HR4
      go_wp2_with fail
      go_loopw [8] (fun jv wy => ∃ j : Nat, m[0].toNat ≤ j ∧ j ≤ 256 ∧ (j ≤ hi.toNat + 1 ∨ j = m[0].toNat) ∧ jv = .int .i64 j ∧ Hid (SetB wy b5 (fun x => acc x || decide (m[0].toNat ≤ x.toNat ∧ x.toNat < j))) ∧ Hid (Blk wy b4 4 #[.bool nt]) ∧ Hid (Below w.heap.size w wy)) (fun jv _ => 256 - (intOf jv).toNat)
      case atStart => exact ⟨m[0].toNat, Nat.le_refl _, by omega, .inr rfl, rfl, HS.out.same (fun x => by
        rw [decide_eq_false (by omega), Bool.or_false]), HN.out, HB.out⟩
      case round =>
        obtain ⟨j, hlj, hj, hjj, rfl, HTj, HNj, HBj⟩ := hrel
        rename World => wz
        clear HS HN HB
        by_cases hle : j ≤ hi.toNat
        · have hj2 : j < 256 := by omega
          have hle' : (j : Int) ≤ (hi.toNat : Int) := by omega
          obtain ⟨hcell, hfro⟩ := HTj.out.at j hj2
          have HTn : Hid (SetB (wz.setCell ⟨b5, j, none⟩ (.bool true)) b5 fun x => acc x || decide (m[0].toNat ≤ x.toNat ∧ x.toNat < j + 1)) := HTj.out.put j true _ (fun x => by
            by_cases hx : x.toNat = j
            · rw [if_pos hx, decide_eq_true (by omega), Bool.or_true]
            · rw [if_neg hx]
              congr 2
              rw [eq_iff_iff]; omega)
          have HNn := Lib.hid (HNj.out.far (p := ⟨b5, j, none⟩) hne0 (.bool true))
          have HBn : Hid (Below w.heap.size w (wz.setCell ⟨b5, j, none⟩ (.bool true))) := Below.set1 HBj.out hb5w _ _
          clear HTj HBj HNj
          go_wp2_with fail
          go_roundw
          case rel => exact ⟨j + 1, by omega, by omega, .inl (by omega), by go_num, HTn.out, HNn.out, HBn.out⟩
          case measure => simp [intOf]; omega
        · have hle' : ¬ (j : Int) ≤ (hi.toNat : Int) := by omega
          have HTf : Hid (SetB wz b5 fun x => acc x || span m[0] hi x) := HTj.out.same (fun x => by
            unfold span
            congr 2
            rw [eq_iff_iff, UInt8.le_iff_toNat_le, UInt8.le_iff_toNat_le]; omega)
          have hcx : (m.extract n m.size).data.toList = m.data.toList.drop n := sub_list m n
          have hcy : (m.extract n m.size).size = m.size - n := by rw [ByteArray.size_extract]; omega
          have HCX := Lib.hid hcx
          have HCY := Lib.hid hcy
          clear HTj hcx hcy
          go_wp2_with fail
          go_roundw
          case rel => exact ⟨_, _, rfl, by rw [HCY.out]; omega, HTf.out, HNj.out, by
            unfold Hid
            rw [HI.out, HSt.out, HCX.out], HBj.out⟩
          case measure => simp only [strLen]; rw [HCY.out]; omega
    · have hnil : m.data.toList = [] := List.eq_nil_of_length_eq_zero (by omega)
      have e0 : m.toList = [] := toList_nil hnil
      have hI := HI.out
      rw [hnil, setM_nil] at hI
      have HT2 : Hid (∀ x, F x = (acc x != nt)) := fun x => by rw [HT.out x, hI]
      clear hI HI hnil HT
      go_wp2_with fail
      go_ret
      refine ⟨_, rfl, ⟨172, #[.pointer (some ⟨b5, 0, none⟩), .pointer (some ⟨b4, 0, none⟩)], ⟨rfl, enters_of Tryz.func172 (by kernel_rfl) rfl⟩, fun W hW x _ args ha => ?_⟩, HB.out⟩
      rw [app12] at ha
      subst ha
      refine (set1_any acc nt b5 b4 W (hk1 _ _ _ _ HS.out hW) (by rw [(hk2 _ _ _ _ HN.out hW).cell]; rfl) x).mono ?_
      rintro e w' ⟨rfl, n, rfl⟩
      exact ⟨by rw [HT2.out], drewN_below (Below.refl _ _) n⟩
end Go.Proofs.YtoikpnjnljdpaaaGreatDoor
/- The program's signs of a part: byteStep, partFits. -/
set_option linter.unusedVariables false
set_option maxRecDepth 100000
namespace Go.Proofs.YtoikpnjnljdpaaaGreatDoor
open Go.RowKit
open Go.OpenShut
theorem bs1_any (v : Value) (W : World) : Calls Tryz.prog 167 #[v] W fun e w' => e = .returned (.bool true) ∧ W = w' := by
  go_enter Tryz.func167, Tryz.ntmps167
  go_wp2_with fail
  go_ret
  exact ⟨rfl, rfl⟩
theorem bs2_any (x c : UInt8) (b : Nat) (W : World) (h : W.cell? ⟨b, 0, none⟩ = some (.int .u8 c.toNat)) : Calls Tryz.prog 168 #[.int .u8 x.toNat, .pointer (some ⟨b, 0, none⟩)] W fun e w' => e = .returned (.bool (decide (x = c))) ∧ W = w' := by
  have hq := byte_eq x c
  go_enter Tryz.func168, Tryz.ntmps168
  go_wp2_with fail
  go_ret
  exact ⟨rfl, rfl⟩
/-- all stays but lists of signs -/
def frT (w W : World) : Prop := ∀ (g : Nat) (cs : Array Value) (t : TypeId) (fr : Nat × Nat), w.heap[g]? = some (.cells cs t fr) → t ≠ 181 → t ≠ 183 → t ≠ 171 → W.heap[g]? = some (.cells cs t fr)
theorem gq_lt {w : World} {g : Nat} {o : Obj} (h : w.heap[g]? = some o) : g < w.heap.size := by
  rcases Nat.lt_or_ge g w.heap.size with hlt | hge
  · exact hlt
  · rw [Array.getElem?_eq_none hge] at h; cases h
theorem frT_frame : Frame frT := ⟨fun w W h g cs t fr hg _ _ _ => (h.block g (gq_lt hg)).trans hg, fun _ _ _ h h2 g cs t fr hg a b c => h2 g cs t fr (h g cs t fr hg a b c) a b c⟩
theorem frT_blk {w W : World} {b t : Nat} {cs : Array Value} (ht : t ≠ 181 ∧ t ≠ 183 ∧ t ≠ 171) (h : Blk w b t cs) (hf : frT w W) : Blk W b t cs := hf b cs t (0, 0) h ht.1 ht.2.1 ht.2.2
/-- all stays but lists of a path's signs -/
def frP (w W : World) : Prop := ∀ (g : Nat) (cs : Array Value) (t : TypeId) (fr : Nat × Nat), w.heap[g]? = some (.cells cs t fr) → t ≠ 171 → W.heap[g]? = some (.cells cs t fr)
theorem frP_frame : Frame frP := ⟨fun w W h g cs t fr hg _ => (h.block g (gq_lt hg)).trans hg, fun _ _ _ h h2 g cs t fr hg a => h2 g cs t fr (h g cs t fr hg a) a⟩
theorem frP_blk {w W : World} {b t : Nat} {cs : Array Value} (ht : t ≠ 171) (h : Blk w b t cs) (hf : frP w W) : Blk W b t cs := hf b cs t (0, 0) h ht
theorem frP_T {w W : World} (h : frP w W) : frT w W := fun g cs t fr hg _ _ c => h g cs t fr hg c
theorem Fns.frP {w w' : World} {B t : Nat} {v : Value} {fs : List Value} (ht : t ≠ 171) (h : Fns w B t v fs) (hk : frP w w') : Fns w' B t v fs := own_heap h fun g hg => by
  obtain ⟨_, cur, hc⟩ := own_block h g hg
  rw [hk _ _ _ _ hc ht, hc]
theorem inner_list (q : ByteArray) (k : Nat) (hk : k + 1 = q.size) : (q.extract 1 k).data.toList = innL q.data.toList := by
  have hl : q.data.toList.length = q.size := by simp
  unfold innL
  rw [ByteArray.data_extract, Array.toList_extract, hl, List.extract, List.drop_take]
  congr 1; omega
theorem pieceT_set {q : List UInt8} (h : 1 < q.length) : pieceT q = (false, setT (innL q)) := if_pos h
theorem pieceT_one (c : UInt8) : pieceT [c] = if c = 42 then (true, span 42 42) else if c = 63 then (false, fun _ => true) else (false, span c c) := by
  unfold pieceT
  rw [if_neg (by simp)]
  simp only [List.head?_cons, Option.some.injEq, List.headD_cons]
set_option maxHeartbeats 2000000 in
theorem byteStep_any (q : ByteArray) (h1 : 1 ≤ q.size) (hq : q.size ≤ 1000) (w : World) : Calls Tryz.prog 158 #[.string q] w fun e w' => ∃ v, e = .returned v ∧ v.oneCell' = true ∧ v.cells = #[v] ∧ StepV frT encB limB w' v (tokStar (pieceT q.data.toList)) (tokFits (pieceT q.data.toList)) ∧ Below w.heap.size w w' := by
  have hl : q.data.toList.length = q.size := by simp
  by_cases h : 1 < q.size
  · rw [pieceT_set (by omega)]
    obtain ⟨k, hk⟩ : ∃ k, k + 1 = q.size := ⟨q.size - 1, by omega⟩
    have hS := fun W => set_any frT (fun _ _ _ _ => frT_blk (by decide)) (fun _ _ _ _ => frT_blk (by decide)) (q.extract 1 k) (by rw [ByteArray.size_extract]; omega) W
    rw [inner_list q k hk] at hS
    have HS := Lib.hid hS
    have wk : IntKind.i64.wrap ((q.size : Int) - 1) = (k : Int) := by rw [IntKind.wrap_i64]; omega
    generalize setT (innL q.data.toList) = F at HS ⊢
    have hk1 : 1 ≤ k := by omega
    have hk2 : k ≤ q.size := by omega
    clear hS hl hk
    go_enter Tryz.func158, Tryz.ntmps158
    go_wp2_with fail
    refine (HS.out _).mono ?_; rintro e w1 ⟨fv, rfl, hF, hB⟩
    have HF := Lib.hid hF
    have HB := Lib.hid hB
    clear hF hB
    go_wp2_with fail
    refine (oneB_any frT frT_frame (fun _ _ _ _ => frT_blk (by decide)) encB limB fv _ _ HF.out).mono ?_; rintro e w2 ⟨v, rfl, e1, e2, hs, hB2⟩
    have HB2 := Lib.hid (HB.out.trans (hB2.mono HB.out.size))
    have HS2 := Lib.hid hs
    have HE := Lib.hid (And.intro e1 e2)
    clear hs hB2 e1 e2
    go_wp2_with fail
    go_ret
    exact ⟨v, rfl, HE.out.1, HE.out.2, HS2.out, HB2.out⟩
  · have e1 : q.size = 1 := by omega
    have h0 : 0 < q.size := by omega
    have eq : q.data.toList = [q[0]] := by
      have e0 := drop_at q 0 h0
      rw [List.drop_zero] at e0
      rw [e0, List.drop_eq_nil_of_le (by omega)]
    rw [eq, pieceT_one]
    have hcl : q[0].toNat < 256 := q[0].toNat_lt
    have h' : ¬ (1 : Int) < (q.size : Int) := by omega
    have hnb := Blk.new w 5 #[.int .u8 q[0].toNat]
    have HB1 := Lib.hid (belowA (Below.refl w.heap.size w) (.cells #[.int .u8 q[0].toNat] 5))
    have hc1 : (w.alloc (.cells #[.int .u8 q[0].toNat] 5)).cell? ⟨w.heap.size, 0, none⟩ = some (.int .u8 q[0].toNat) := by rw [hnb.cell]; rfl
    have HN := Lib.hid hnb
    clear e1 eq hl hnb
    by_cases h42 : q[0] = 42
    · have b1 : ((q[0].toNat : Int) == 42) = true := u8_num q[0] 42 h42
      rw [if_pos h42]
      clear h42
      go_enter Tryz.func158, Tryz.ntmps158
      go_wp2_with fail
      refine (starB_any frT encB limB (tokFits (true, span 42 42)) _).mono ?_; rintro e w2 ⟨v, rfl, e1, e2, hs, rfl⟩
      have HS2 := Lib.hid hs
      have HE := Lib.hid (And.intro e1 e2)
      clear hs e1 e2
      go_wp2_with fail
      go_ret
      exact ⟨v, rfl, HE.out.1, HE.out.2, HS2.out, HB1.out⟩
    · have b1 : ((q[0].toNat : Int) == 42) = false := u8_not q[0] 42 h42
      rw [if_neg h42]
      by_cases h63 : q[0] = 63
      · have b2 : ((q[0].toNat : Int) == 63) = true := u8_num q[0] 63 h63
        rw [if_pos h63]
        clear h42 h63
        have HF : Hid (∀ W, FitV frT encB limB W (.func (.func 167) #[] #[]) fun _ => true) := fun W => ⟨167, #[], ⟨rfl, enters_of Tryz.func167 (by kernel_rfl) rfl⟩, fun W hW x _ args ha => by
          subst ha
          refine (bs1_any _ W).mono ?_; rintro e w' ⟨rfl, rfl⟩
          exact ⟨rfl, Below.refl _ _⟩⟩
        go_enter Tryz.func158, Tryz.ntmps158
        go_wp2_with fail
        refine (oneB_any frT frT_frame (fun _ _ _ _ => frT_blk (by decide)) encB limB _ _ _ (HF.out _)).mono ?_; rintro e w2 ⟨v, rfl, e1, e2, hs, hB2⟩
        have HB2 := Lib.hid (HB1.out.trans (hB2.mono HB1.out.size))
        have HS2 := Lib.hid hs
        have HE := Lib.hid (And.intro e1 e2)
        clear hs hB2 e1 e2
        go_wp2_with fail
        go_ret
        exact ⟨v, rfl, HE.out.1, HE.out.2, HS2.out, HB2.out⟩
      · have b2 : ((q[0].toNat : Int) == 63) = false := u8_not q[0] 63 h63
        rw [if_neg h63]
        clear h42 h63
        have HF : Hid (FitV frT encB limB (w.alloc (.cells #[.int .u8 q[0].toNat] 5)) (.func (.func 168) #[] #[.pointer (some ⟨w.heap.size, 0, none⟩)]) (span q[0] q[0])) := ⟨168, #[.pointer (some ⟨w.heap.size, 0, none⟩)], ⟨rfl, enters_of Tryz.func168 (by kernel_rfl) rfl⟩, fun W hW x _ args ha => by
          rw [app11] at ha
          subst ha
          refine (bs2_any x q[0] w.heap.size W (by rw [(frT_blk (by decide) HN.out hW).cell]; rfl)).mono ?_; rintro e w' ⟨rfl, rfl⟩
          exact ⟨by rw [span_self], Below.refl _ _⟩⟩
        generalize span q[0] q[0] = F at HF ⊢
        go_enter Tryz.func158, Tryz.ntmps158
        go_wp2_with fail
        refine (oneB_any frT frT_frame (fun _ _ _ _ => frT_blk (by decide)) encB limB _ _ _ HF.out).mono ?_; rintro e w2 ⟨v, rfl, e1, e2, hs, hB2⟩
        have HB2 := Lib.hid (HB1.out.trans (hB2.mono HB1.out.size))
        have HS2 := Lib.hid hs
        have HE := Lib.hid (And.intro e1 e2)
        clear hs hB2 e1 e2
        go_wp2_with fail
        go_ret
        exact ⟨v, rfl, HE.out.1, HE.out.2, HS2.out, HB2.out⟩
end Go.Proofs.YtoikpnjnljdpaaaGreatDoor
