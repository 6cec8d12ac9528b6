/- The program's sets and pieces of a part of a pattern. -/
import Derived.Test.YtilmfnlhpnbngaaDoorGlqM
import Derived.Test.YtilmfnlhpnbngaaDoorTxt
import Derived.Test.YtilmfnlhpnbngaaDoorSplA
import Derived.Test.YtilmfnlhpnbngaaDoorFldA
import Derived.Test.YtilmfnlhpnbngaaDoorStr
import Derived.Lib.MinMax
import Derived.BigQuiet
set_option linter.unusedVariables false
set_option maxRecDepth 100000
namespace Go.Proofs.YtilmfnlhpnbngaaDoor
open Go.RowKit
open Go.OpenShut
theorem bang_pre (s : ByteArray) (h : s.data.toList.head? = some 91) : hasPre s ⟨#[91, 33]⟩ = notS (s.data.toList.drop 1) := by
  unfold hasPre notS
  rcases e : s.data.toList with _ | ⟨a, _ | ⟨b, r⟩⟩
  · rw [e] at h; cases h
  · rw [e] at h
    injection h with h
    subst h
    rfl
  · rw [e] at h
    injection h with h
    subst h
    show decide ([91, 33] <+: 91 :: b :: r) = decide (([b] ++ r).head? = some 33)
    congr 1
    simp [List.cons_prefix_cons, eq_comm]
theorem sub_list (s : ByteArray) (k : Nat) : (s.extract k s.size).data.toList = s.data.toList.drop k := by
  rw [ByteArray.data_extract, Array.toList_extract]
  have h : s.data.toList.length = s.size := by simp
  simp only [List.extract]
  exact List.take_of_length_le (by rw [List.length_drop, h]; omega)
theorem pre_list (s : ByteArray) (k : Nat) : (s.extract 0 k).data.toList = s.data.toList.take k := by
  rw [ByteArray.data_extract, Array.toList_extract]
  simp [List.extract]
set_option maxHeartbeats 1000000 in
theorem setSize_any (s : ByteArray) (w : World) (h : s.data.toList.head? = some 91) (hs : s.size ≤ 1000) : Calls Tryd.prog 26 #[.string s] w fun e w' => e = .returned (.int .i64 (szL s.data.toList)) ∧ w = w' := by
  have hl : s.data.toList.length = s.size := by simp
  have h1 : 1 ≤ s.size := by
    rw [← hl]
    rcases e : s.data.toList with _ | ⟨a, r⟩
    · rw [e] at h; cases h
    · simp
  have hHP := fun W => HasPrefix_any s ⟨#[91, 33]⟩ W (by unfold maxLen; omega) (by decide)
  rw [bang_pre s h] at hHP
  have hb : behL s.data.toList = min ((if notS (s.data.toList.drop 1) then 2 else 1) + 1) s.size := by unfold behL; rw [hl]
  have hz : szL s.data.toList = if hasB 93 (s.data.toList.drop (behL s.data.toList)) then behL s.data.toList + pos 93 (s.data.toList.drop (behL s.data.toList)) + 1 else 0 := rfl
  obtain ⟨b, hbb⟩ : ∃ b, b = behL s.data.toList := ⟨_, rfl⟩
  rw [← hbb] at hb hz
  have hib : Hid (∀ W, Calls Tryd.prog 16 #[.string (s.extract b s.size), .int .u8 93] W fun e w' => e = .returned (.int .i64 (if hasB 93 (s.data.toList.drop b) = true then (pos 93 (s.data.toList.drop b) : Int) else -1)) ∧ W = w') := fun W => by
    have := IndexByte_any (s.extract b s.size) 93 W
    rw [sub_list, indexByte_pos] at this
    exact this
  have hle : pos 93 (s.data.toList.drop b) ≤ s.size - b := by
    have := pos_le 93 (s.data.toList.drop b)
    rwa [List.length_drop, hl] at this
  have hbs : b ≤ s.size := by rw [hb]; omega
  rw [hz]
  generalize pos 93 (s.data.toList.drop b) = q at hib hle
  have hE : b = s.size → hasB 93 (s.data.toList.drop b) = false := fun e => by
    rw [List.drop_eq_nil_of_le (by omega)]; rfl
  generalize hasB 93 (s.data.toList.drop b) = y at hib hE
  have HE := Lib.hid hE
  have HHP := Lib.hid hHP
  generalize notS (s.data.toList.drop 1) = z at hb HHP
  have HH := Lib.hid h
  clear hHP hz hbb hE hl h
  have hmin : min (if z then 3 else 2 : Int) (s.size : Int) = (b : Int) := by
    rw [hb]
    cases z <;> simp only [if_true, Bool.false_eq_true, if_false] <;> omega
  have HB := Lib.hid hb
  clear hb
  by_cases hlt : b < s.size
  · cases z with
    | true =>
      simp only [if_true] at hmin
      cases y with
      | true =>
        simp only [if_true] at hib ⊢
        go_enter Tryd.func26, Tryd.ntmps26
        go_wp2_with fail
        refine (HHP.out _).mono ?_; rintro e w' ⟨rfl, rfl⟩
        go_wp2_with fail
        refine (hib.out _).mono ?_; rintro e w' ⟨rfl, rfl⟩
        go_wp2_with fail
        go_ret
        exact ⟨ret_int (by omega), rfl⟩
      | false =>
        simp only [Bool.false_eq_true, if_false] at hib ⊢
        go_enter Tryd.func26, Tryd.ntmps26
        go_wp2_with fail
        refine (HHP.out _).mono ?_; rintro e w' ⟨rfl, rfl⟩
        go_wp2_with fail
        refine (hib.out _).mono ?_; rintro e w' ⟨rfl, rfl⟩
        go_wp2_with fail
        go_ret
        exact ⟨rfl, rfl⟩
    | false =>
      simp only [Bool.false_eq_true, if_false] at hmin
      cases y with
      | true =>
        simp only [if_true] at hib ⊢
        go_enter Tryd.func26, Tryd.ntmps26
        go_wp2_with fail
        refine (HHP.out _).mono ?_; rintro e w' ⟨rfl, rfl⟩
        go_wp2_with fail
        refine (hib.out _).mono ?_; rintro e w' ⟨rfl, rfl⟩
        go_wp2_with fail
        go_ret
        exact ⟨ret_int (by omega), rfl⟩
      | false =>
        simp only [Bool.false_eq_true, if_false] at hib ⊢
        go_enter Tryd.func26, Tryd.ntmps26
        go_wp2_with fail
        refine (HHP.out _).mono ?_; rintro e w' ⟨rfl, rfl⟩
        go_wp2_with fail
        refine (hib.out _).mono ?_; rintro e w' ⟨rfl, rfl⟩
        go_wp2_with fail
        go_ret
        exact ⟨rfl, rfl⟩
  · have hbe : b = s.size := by omega
    have hy := HE.out hbe
    subst hy
    subst hbe
    simp only [Bool.false_eq_true, if_false] at hib ⊢
    rw [show s.extract s.size s.size = ByteArray.empty by rw [← ByteArray.size_eq_zero_iff, ByteArray.size_extract]; omega] at hib
    cases z with
    | true =>
      simp only [if_true] at hmin
      go_enter Tryd.func26, Tryd.ntmps26
      go_wp2_with fail
      refine (HHP.out _).mono ?_; rintro e w' ⟨rfl, rfl⟩
      go_wp2_with fail
      refine (hib.out _).mono ?_; rintro e w' ⟨rfl, rfl⟩
      go_wp2_with fail
      go_ret
      exact ⟨rfl, rfl⟩
    | false =>
      simp only [Bool.false_eq_true, if_false] at hmin
      go_enter Tryd.func26, Tryd.ntmps26
      go_wp2_with fail
      refine (HHP.out _).mono ?_; rintro e w' ⟨rfl, rfl⟩
      go_wp2_with fail
      refine (hib.out _).mono ?_; rintro e w' ⟨rfl, rfl⟩
      go_wp2_with fail
      go_ret
      exact ⟨rfl, rfl⟩
set_option maxHeartbeats 2000000 in
theorem pieces_any (s : ByteArray) (hs : s.size ≤ 1000) (w : World) : Calls Tryd.prog 15 #[.string s] w fun e w' => ∃ v, e = .returned (.tuple #[v, .bool (pieceF s.data.toList).isSome]) ∧ Texts w' w.heap.size v ((pieceF s.data.toList).getD []) ∧ Below w.heap.size w w' := by
  go_enter Tryd.func15, Tryd.ntmps15
  go_wp2_with fail
  go_loopw [0, 4] (fun cv lv wr => ∃ (c : ByteArray) (ps : List (List UInt8)), cv = .string c ∧ c.size ≤ s.size ∧ ps.length ≤ s.size - c.size ∧ Hid (Texts wr w.heap.size lv ps) ∧ Hid (pieceF s.data.toList = (pieceF c.data.toList).map fun qs => ps ++ qs) ∧ Hid (Below w.heap.size w wr)) (fun cv _ _ => strLen cv)
  case atStart => exact ⟨s, [], rfl, Nat.le_refl _, Nat.zero_le _, Texts.nil _ _, by unfold Hid; simp, Below.refl _ _⟩
  case round =>
    obtain ⟨c, ps, rfl, hcs, hpl, HT, HI, HB⟩ := hrel
    obtain ⟨v0, hv0⟩ : ∃ v0, v0 = u4 := ⟨_, rfl⟩
    subst hv0
    have hcl : c.data.toList.length = c.size := by simp
    by_cases hlt : 0 < c.size
    · have hne : c.data.toList ≠ [] := fun h => by rw [h] at hcl; simp at hcl; omega
      have e0 : c.toList.isEmpty = false := toList_ne hne
      have hstep := pieceF_step hne
      have hnl := pieceN_le c.data.toList hne
      rw [hcl] at hnl
      have hhd : c.data.toList.head? = some c[0] := by
        rcases e : c.data.toList with _ | ⟨a, r⟩
        · exact absurd e hne
        · have h3 : c[0] = c.data.toList[0]'(by omega) := rfl
          rw [h3]; simp [e]
      have hN : pieceN c.data.toList = if c[0] = 91 then szL c.data.toList else 1 := by
        unfold pieceN; rw [hhd]; simp
      obtain ⟨n, hn⟩ : ∃ n, n = pieceN c.data.toList := ⟨_, rfl⟩
      rw [← hn] at hstep hnl hN
      have HSt := Lib.hid hstep
      have HHd := Lib.hid hhd
      have HNn := Lib.hid hN
      have hb1 : ∀ b0 : Bool, ((c[0].toNat : Int) == 91) = b0 → (b0 = true → c[0] = 91) ∧ (b0 = false → c[0] ≠ 91) := fun b0 h => by
        have h9 : ((c[0].toNat : Int) == 91) = decide (c[0] = 91) := byte_eq c[0] 91
        rw [h9] at h
        subst h
        exact ⟨fun h => of_decide_eq_true h, fun h => of_decide_eq_false h⟩
      obtain ⟨b0, hb0⟩ : ∃ b0 : Bool, ((c[0].toNat : Int) == 91) = b0 := ⟨_, rfl⟩
      have HB1 := Lib.hid (hb1 b0 hb0)
      clear hstep hhd hN hn hne hcl hb1
      go_upto_if 10 with fail
      clear hb0
      go_cut [5] (fun nv wx => nv = .int .i64 n ∧ wr = wx)
      case first =>
        have hN := HNn.out
        cases b0 with
        | true =>
          have h91 := HB1.out.1 rfl
          rw [if_pos h91] at hN
          have HZ : Hid (Calls Tryd.prog 26 #[.string c] wr fun e w' => e = .returned (.int .i64 n) ∧ wr = w') := by
            have := setSize_any c wr (by rw [HHd.out, h91]) (by omega)
            rw [← hN] at this; exact this
          clear hN h91
          go_wp2_with fail
          refine HZ.out.mono ?_; rintro e w' ⟨rfl, rfl⟩
          go_wp2_with fail
          go_meet
          exact ⟨rfl, rfl⟩
        | false =>
          rw [if_neg (HB1.out.2 rfl)] at hN
          subst hN
          go_wp2_with fail
          go_meet
          exact ⟨rfl, rfl⟩
      case rest =>
      obtain ⟨rfl, hwx⟩ := hcut
      subst hwx
      by_cases hz : n = 0
      · have hst := HSt.out
        rw [if_pos hz] at hst
        have hI := HI.out
        rw [hst, Option.map_none] at hI
        have HI2 := Lib.hid hI
        have hz2 : ((n : Int) == 0) = true := by simpa using hz
        clear hst hI HSt HNn HHd hz
        go_wp2_with fail
        refine bodyPost_ret (v := .tuple #[.slice none 0 0, .bool false]) (by simp [results, Tryd.results15, go_sem, *]) rfl ?_
        exact ⟨_, by rw [HI2.out]; rfl, by rw [HI2.out]; exact Texts.nil _ _, HB.out⟩
      · have hst := HSt.out
        rw [if_neg hz] at hst
        have hI := HI.out
        rw [hst, Option.map_map] at hI
        have HI2 := Lib.hid hI
        have hz2 : ((n : Int) == 0) = false := by simpa using hz
        have hz3 : 0 < n := by omega
        have hpl2 : (ps.length + 1) * 16 ≤ 140737488355328 := by omega
        clear hst hI HSt HNn HHd hz
        go_wp2_with (at_builtin; refine Stay.go ?_)
        refine Stay.on ?_
        have hlit := Texts.lit (w := wr) [c.data.toList.take n] (by show 1 ≤ maxLen; decide)
        rw [show (strC [c.data.toList.take n]).toArray = #[.string (c.extract 0 n)] from by
          show #[Value.string ⟨(c.data.toList.take n).toArray⟩] = _
          exact congrArg (fun z : ByteArray => #[Value.string z]) (ByteArray.ext (Array.toList_inj.1 (by rw [pre_list])))] at hlit
        have hlit2 : Texts (wr.alloc (.cells #[.string (c.extract 0 n)] 9)) w.heap.size (.slice (some ⟨wr.heap.size, 0, none⟩) 1 1) [c.data.toList.take n] := own_mono hlit HB.out.size
        have hT2 := HT.out.below ((Below.refl wr.heap.size wr).alloc (Nat.le_refl _) (.cells #[.string (c.extract 0 n)] 9))
        have hB2 := HB.out.alloc HB.out.size (.cells #[.string (c.extract 0 n)] 9)
        refine append_texts rfl (.tmp 15) (.tmp 19) rfl w.heap.size v0 ps rfl hT2 w.heap.size _ [c.data.toList.take n] rfl hlit2 hpl2 hB2.size ?_
        intro v9 w9 ho9 hg9
        have HT9 := Lib.hid ho9
        have HB9 : Hid (Below w.heap.size w w9) := hB2.grown hg9 hB2.size fun k hk => (World.ownsRow.lt hT2 k hk).1
        have hcx : (c.extract n c.size).data.toList = c.data.toList.drop n := sub_list c n
        have hcy : (c.extract n c.size).size = c.size - n := by rw [ByteArray.size_extract]; omega
        have HCX := Lib.hid hcx
        have HCY := Lib.hid hcy
        clear hlit hlit2 hT2 hB2 ho9 hg9 hcx hcy hpl2
        go_wp2_with fail
        go_roundw
        case rel =>
          refine ⟨_, ps ++ [c.data.toList.take n], rfl, by rw [HCY.out]; omega, by rw [HCY.out, List.length_append, List.length_singleton]; omega, HT9.out, ?_, HB9.out⟩
          unfold Hid
          rw [HI2.out, HCX.out]
          congr 1; funext qs; simp
        case measure => simp only [strLen]; rw [HCY.out]; omega
    · have hnil : c.data.toList = [] := List.eq_nil_of_length_eq_zero (by omega)
      have e0 : c.toList = [] := toList_nil hnil
      have hI := HI.out
      rw [hnil, pieceF_nil, Option.map_some, List.append_nil] at hI
      have HI2 := Lib.hid hI
      clear hI HI hnil
      go_wp2_with fail
      refine bodyPost_ret (v := .tuple #[v0, .bool true]) (by simp [results, Tryd.results15, go_sem, *]) rfl ?_
      exact ⟨v0, by rw [HI2.out]; rfl, by rw [HI2.out]; exact HT.out, HB.out⟩
end Go.Proofs.YtilmfnlhpnbngaaDoor
