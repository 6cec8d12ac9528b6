/- The program's sets of bytes. -/
import Derived.Test.YtilmfnlhpnbngaaDoorGlqA
import Derived.Test.YtilmfnlhpnbngaaDoorGlqC
import Derived.Lib.ConvBytes
set_option linter.unusedVariables false
set_option maxRecDepth 100000
namespace Go.Proofs.YtilmfnlhpnbngaaDoor
open Go.RowKit
open Go.OpenShut
def setC (f : UInt8 → Bool) : Array Value := (bitsC f).toArray
theorem setC_size (f : UInt8 → Bool) : (setC f).size = 256 := by unfold setC; rw [List.size_toArray, bitsC_len]
theorem zero_set (W : World) : (zeroValue 53).run Tryd.prog W = .ok (.agg (setC fun _ => false)) W := by kernel_rfl
/-- a set's block -/
def SetB (W : World) (g : Nat) (f : UInt8 → Bool) : Prop := Blk W g 53 (setC f)
variable {W : World} {g : Nat} {f : UInt8 → Bool}
theorem SetB.at (h : SetB W g f) (j : Nat) (hj : j < 256) : W.cell? ⟨g, j, none⟩ = some (.bool (f (UInt8.ofNat j))) ∧ W.frozen? ⟨g, j, none⟩ = false := by
  refine ⟨?_, h.frozen _⟩
  rw [h.cell]
  unfold setC
  rw [List.getElem?_toArray, bitsC_at f j hj]
theorem setC_set (v : Bool) (f g : UInt8 → Bool) (q : Nat) (hg : ∀ x, g x = if x.toNat = q then v else f x) : (setC f).setIfInBounds q (.bool v) = setC g := by
  unfold setC
  rw [List.setIfInBounds_toArray]
  congr 1
  apply List.ext_getElem?
  intro j
  by_cases hj : j < 256
  · have e : (UInt8.ofNat j).toNat = j := by rw [UInt8.toNat_ofNat']; omega
    rw [bitsC_at g j hj, hg, e]
    by_cases hc : j = q
    · rw [if_pos hc, ← hc, List.getElem?_set_self (by rw [bitsC_len]; exact hj)]
    · rw [if_neg hc, List.getElem?_set_ne (fun h => hc h.symm), bitsC_at f j hj]
  · rw [List.getElem?_eq_none (by rw [List.length_set, bitsC_len]; omega), List.getElem?_eq_none (by rw [bitsC_len]; omega)]
theorem SetB.put (h : SetB W g f) (j : Nat) (v : Bool) (f' : UInt8 → Bool) (hf : ∀ x, f' x = if x.toNat = j then v else f x) : SetB (W.setCell ⟨g, j, none⟩ (.bool v)) g f' := by
  have := h.set_ j (.bool v)
  rwa [setC_set v f f' j hf] at this
theorem SetB.same (h : SetB W g f) {f' : UInt8 → Bool} (hf : ∀ x, f x = f' x) : SetB W g f' := by
  rwa [show f' = f from funext fun x => (hf x).symm]
/-- bytes in memory -/
def encB (x : UInt8) : Value := .int .u8 x.toNat
def limB (_ : UInt8) : Prop := True
theorem bang_has (l : List UInt8) : Lib.hasPrefix l [33] = notS l := by
  cases l with
  | nil => rfl
  | cons c r =>
    show (33 == c && List.isPrefixOf [] r) = decide (some c = some 33)
    by_cases h : c = 33
    · subst h; rfl
    · rw [decide_eq_false (by simpa using h)]
      simp [beq_eq_false_iff_ne.2 (Ne.symm h)]
theorem bang_trim (l : List UInt8) : Lib.trimPrefix l [33] = if notS l then l.drop 1 else l := by
  unfold Lib.trimPrefix; rw [bang_has]; rfl
set_option maxHeartbeats 1000000 in
theorem set1_any (f : UInt8 → Bool) (nt : Bool) (a b : Nat) (W : World) (h1 : SetB W a f) (h2 : W.cell? ⟨b, 0, none⟩ = some (.bool nt)) (x : UInt8) :
    Calls Tryd.prog 68 #[.int .u8 x.toNat, .pointer (some ⟨a, 0, none⟩), .pointer (some ⟨b, 0, none⟩)] W fun e w' => e = .returned (.bool (f x != nt)) ∧ ∃ n, w' = W.drewN n := by
  have hu : x.toNat < 256 := x.toNat_lt
  have hc := (h1.at x.toNat hu).1
  rw [UInt8.ofNat_toNat] at hc
  clear h1
  go_enter Tryd.func68, Tryd.ntmps68
  go_wp2_with fail
  go_quiet (fail)
  go_wp2_with fail
  go_ret
  exact ⟨rfl, _, rfl⟩
theorem setM_step (s : ByteArray) (hs : 0 < s.size) (acc : UInt8 → Bool) :
    ∃ (n : Nat) (hi : UInt8) (rg : Bool), 1 ≤ n ∧ n ≤ s.size ∧ setM acc s.data.toList = setM (fun x => acc x || span s[0] hi x) (s.data.toList.drop n) ∧
      (∀ h : 2 < s.size, ((s[1].toNat : Int) == 45) = rg) ∧ (¬ 2 < s.size → rg = false) ∧ (rg = true → ∃ h : 2 < s.size, n = 3 ∧ hi = s[2]) ∧ (rg = false → n = 1 ∧ hi = s[0]) := by
  have e0 := drop_at s 0 hs
  rw [List.drop_zero] at e0
  by_cases h2 : 2 < s.size
  · have e1 := drop_at s 1 (by omega)
    have e2 := drop_at s 2 h2
    have hb : ((s[1].toNat : Int) == 45) = decide (s[1] = 45) := byte_eq s[1] 45
    by_cases hr : s[1] = 45
    · refine ⟨3, s[2], true, by omega, h2, ?_, fun _ => by rw [hb]; exact decide_eq_true hr, fun h => absurd h2 h, fun _ => ⟨h2, rfl, rfl⟩, fun h => by cases h⟩
      conv => lhs; rw [e0, e1, e2, hr, setM_rng]
    · refine ⟨1, s[0], false, by omega, hs, ?_, fun _ => by rw [hb]; exact decide_eq_false hr, fun _ => rfl, fun h => (by cases h), fun _ => ⟨rfl, rfl⟩⟩
      conv => lhs; rw [e0, setM_one _ _ _ (by
        intro h r e
        rw [e1] at e
        injection e with ea _
        exact hr ea)]
  · refine ⟨1, s[0], false, by omega, hs, ?_, fun h => absurd h h2, fun _ => rfl, fun h => (by cases h), fun _ => ⟨rfl, rfl⟩⟩
    conv => lhs; rw [e0, setM_one _ _ _ (by
      intro h r e
      have := congrArg List.length e
      have h3 : s.data.toList.length = s.size := by simp
      rw [List.length_drop, h3, List.length_cons, List.length_cons] at this; omega)]
set_option maxHeartbeats 8000000 in
theorem set_any (Fr : World → World → Prop) (hk1 : ∀ w W b cs, Blk w b 53 cs → Fr w W → Blk W b 53 cs) (hk2 : ∀ w W b cs, Blk w b 4 cs → Fr w W → Blk W b 4 cs) (q : ByteArray) (hq : q.size ≤ 1000) (w : World) : Calls Tryd.prog 58 #[.string q] w fun e w' => ∃ v, e = .returned v ∧ FitV Fr encB limB w' v (setT q.data.toList) ∧ Below w.heap.size w w' := by
  have hCP : ∀ W, Calls Tryd.prog 67 #[.string q, .string ⟨#[33]⟩] W fun e w' => e = .returned (.tuple #[.string (bs (if notS q.data.toList then q.data.toList.drop 1 else q.data.toList)), .bool (notS q.data.toList)]) ∧ W = w' := fun W => by
    have h := Tryd.strings_CutPrefix q ⟨#[33]⟩ W
    rw [show (⟨#[33]⟩ : ByteArray).data.toList = [33] from rfl, bang_has, bang_trim] at h
    exact h.mono fun e w' ⟨a, b⟩ => ⟨a, b.symm⟩
  have hT : ∀ x, setT q.data.toList x = (setM (fun _ => false) (if notS q.data.toList then q.data.toList.drop 1 else q.data.toList) x != notS q.data.toList) := fun x => by
    unfold setT; cases notS q.data.toList <;> simp
  have hml : (if notS q.data.toList then q.data.toList.drop 1 else q.data.toList).length ≤ 1000 := by
    have hl : q.data.toList.length = q.size := by simp
    split
    · rw [List.length_drop]; omega
    · omega
  generalize setT q.data.toList = F at hT ⊢
  generalize hM : (if notS q.data.toList then q.data.toList.drop 1 else q.data.toList) = M at hCP hT hml
  clear hM
  generalize notS q.data.toList = nt at hCP hT
  have HT := Lib.hid hT
  have HCP := Lib.hid hCP
  have hms : (bs M).size ≤ 1000 := by rw [bs_size]; exact hml
  have hmb : (bs M).data.toList = M := bs_list M
  rw [← hmb] at HT
  generalize bs M = m0 at HCP hms HT
  clear hT hCP hml hmb
  have hz := zero_set
  have HZ0 : Hid (∀ W : World, SetB (W.alloc (.cells (setC fun _ => false) 53)) W.heap.size fun _ => false) := fun W => Blk.new W 53 _
  generalize (setC fun _ => false) = z at hz HZ0
  go_enter Tryd.func58, Tryd.ntmps58
  go_wp2_with fail
  refine (HCP.out _).mono ?_; rintro e w' ⟨rfl, rfl⟩
  go_upto_region 2 with fail
  have HN1 := Lib.hid (Blk.new w 4 #[.bool nt])
  have HB1 := Lib.hid (belowA (Below.refl w.heap.size w) (.cells #[.bool nt] 4))
  obtain ⟨b4, hb4⟩ : ∃ b4, b4 = w.heap.size := ⟨_, rfl⟩
  rw [← hb4] at HN1 ⊢
  have hb4w : w.heap.size ≤ b4 := by omega
  generalize w.alloc (.cells #[.bool nt] 4) = w1 at HN1 HB1 ⊢
  clear hb4
  go_upto_region 3 with fail
  have HS2 := Lib.hid (HZ0.out w1)
  have HN2 := Lib.hid (HN1.out.alloc (.cells z 53))
  have HB2 := Lib.hid (belowA HB1.out (.cells z 53))
  have hne0 : b4 ≠ w1.heap.size := by have := HN1.out.lt; omega
  obtain ⟨b5, hb5⟩ : ∃ b5, b5 = w1.heap.size := ⟨_, rfl⟩
  have hb5w : w.heap.size ≤ b5 := by have := HB1.out.size; omega
  rw [← hb5] at HS2 hne0 ⊢
  generalize w1.alloc (.cells z 53) = w2 at HS2 HN2 HB2 ⊢
  clear hb5 hz HZ0 HN1 HB1
  go_wp2_with fail
  go_loopw [3] (fun mv wr => ∃ (m : ByteArray) (acc : UInt8 → Bool), mv = .string m ∧ m.size ≤ 1000 ∧ Hid (SetB wr b5 acc) ∧ Hid (Blk wr b4 4 #[.bool nt]) ∧ Hid (setM (fun _ => false) m0.data.toList = setM acc m.data.toList) ∧ Hid (Below w.heap.size w wr)) (fun mv _ => strLen mv)
  case atStart => exact ⟨m0, _, rfl, hms, HS2.out, HN2.out, rfl, HB2.out⟩
  case round =>
    obtain ⟨m, acc, rfl, hmm, HS, HN, HI, HB⟩ := hrel
    clear HS2 HN2 HB2
    have hml : m.data.toList.length = m.size := by simp
    by_cases hlt : 0 < m.size
    · have hne : m.data.toList ≠ [] := fun h => by rw [h] at hml; simp at hml; omega
      have e0 : m.toList.isEmpty = false := toList_ne hne
      obtain ⟨n, hi, rg, hn1, hn2, hstep, hr1, hr2, hr3, hr4⟩ := setM_step m hlt acc
      have HSt := Lib.hid hstep
      have HR1 := Lib.hid hr1
      have HR2 := Lib.hid hr2
      have HR3 := Lib.hid hr3
      have HR4 := Lib.hid hr4
      have hlo : m[0].toNat < 256 := m[0].toNat_lt
      have hhi : hi.toNat < 256 := hi.toNat_lt
      clear hne hml hstep hr1 hr2 hr3 hr4
      go_upto_region 4 with fail
      go_cut [6, 7] (fun nv lv wx => nv = .int .i64 1 ∧ lv = .int .u8 m[0].toNat ∧ ∃ d, wx = wr.drewN d)
      case first =>
        go_quiet (fail)
        go_wp2_with fail
        go_meet
        exact ⟨rfl, rfl, _, rfl⟩
      case rest =>
      obtain ⟨rfl, rfl, d, hwx⟩ := hcut
      subst hwx
      have HS' : Hid (SetB (wr.drewN d) b5 acc) := HS.out
      have HN' : Hid (Blk (wr.drewN d) b4 4 #[.bool nt]) := HN.out
      have HB' : Hid (Below w.heap.size w (wr.drewN d)) := drewN_below HB.out d
      generalize wr.drewN d = wq at HS' HN' HB' ⊢
      clear HS HN HB
      go_upto_region 5 with fail
      go_cut [25] (fun bv wx => bv = .bool rg ∧ wq = wx)
      case first =>
        by_cases h2 : 2 < m.size
        · have hr := HR1.out h2
          have h2' : (2 : Int) < (m.size : Int) := by omega
          go_wp2_with fail
          go_meet
          exact ⟨rfl, rfl⟩
        · have hr := HR2.out h2
          have h2' : ¬ (2 : Int) < (m.size : Int) := by omega
          subst hr
          go_wp2_with fail
          go_meet
          exact ⟨rfl, rfl⟩
      case rest =>
      obtain ⟨rfl, hwx⟩ := hcut
      subst hwx
      go_upto_if 25 with fail
      go_cut [6, 7] (fun nv lv wx => nv = .int .i64 n ∧ lv = .int .u8 hi.toNat ∧ ∃ d, wx = wq.drewN d)
      case first =>
        cases rg with
        | true =>
          obtain ⟨h2, rfl, rfl⟩ := HR3.out rfl
          have h2' : (2 : Int) < (m.size : Int) := by omega
          go_wp2_with fail
          go_quiet (fail)
          go_wp2_with fail
          go_meet
          exact ⟨rfl, rfl, _, rfl⟩
        | false =>
          obtain ⟨rfl, rfl⟩ := HR4.out rfl
          go_wp2_with fail
          go_meet
          exact ⟨rfl, rfl, 0, rfl⟩
      case rest =>
      obtain ⟨rfl, rfl, d2, hwx⟩ := hcut
      subst hwx
      have HS : Hid (SetB (wq.drewN d2) b5 acc) := HS'.out
      have HN : Hid (Blk (wq.drewN d2) b4 4 #[.bool nt]) := HN'.out
      have HB : Hid (Below w.heap.size w (wq.drewN d2)) := drewN_below HB'.out d2
      generalize wq.drewN d2 = ws at HS HN HB ⊢
      clear HS' HN' HB' HR1 HR2 HR3 HR4
      go_wp2_with fail
      go_loopw [8] (fun jv wy => ∃ j : Nat, m[0].toNat ≤ j ∧ j ≤ 256 ∧ (j ≤ hi.toNat + 1 ∨ j = m[0].toNat) ∧ jv = .int .i64 j ∧ Hid (SetB wy b5 (fun x => acc x || decide (m[0].toNat ≤ x.toNat ∧ x.toNat < j))) ∧ Hid (Blk wy b4 4 #[.bool nt]) ∧ Hid (Below w.heap.size w wy)) (fun jv _ => 256 - (intOf jv).toNat)
      case atStart => exact ⟨m[0].toNat, Nat.le_refl _, by omega, .inr rfl, rfl, HS.out.same (fun x => by
        rw [decide_eq_false (by omega), Bool.or_false]), HN.out, HB.out⟩
      case round =>
        obtain ⟨j, hlj, hj, hjj, rfl, HTj, HNj, HBj⟩ := hrel
        rename World => wz
        clear HS HN HB
        by_cases hle : j ≤ hi.toNat
        · have hj2 : j < 256 := by omega
          have hle' : (j : Int) ≤ (hi.toNat : Int) := by omega
          obtain ⟨hcell, hfro⟩ := HTj.out.at j hj2
          have HTn : Hid (SetB (wz.setCell ⟨b5, j, none⟩ (.bool true)) b5 fun x => acc x || decide (m[0].toNat ≤ x.toNat ∧ x.toNat < j + 1)) := HTj.out.put j true _ (fun x => by
            by_cases hx : x.toNat = j
            · rw [if_pos hx, decide_eq_true (by omega), Bool.or_true]
            · rw [if_neg hx]
              congr 2
              rw [eq_iff_iff]; omega)
          have HNn := Lib.hid (HNj.out.far (p := ⟨b5, j, none⟩) hne0 (.bool true))
          have HBn : Hid (Below w.heap.size w (wz.setCell ⟨b5, j, none⟩ (.bool true))) := Below.set1 HBj.out hb5w _ _
          clear HTj HBj HNj
          go_wp2_with fail
          go_roundw
          case rel => exact ⟨j + 1, by omega, by omega, .inl (by omega), by go_num, HTn.out, HNn.out, HBn.out⟩
          case measure => simp [intOf]; omega
        · have hle' : ¬ (j : Int) ≤ (hi.toNat : Int) := by omega
          have HTf : Hid (SetB wz b5 fun x => acc x || span m[0] hi x) := HTj.out.same (fun x => by
            unfold span
            congr 2
            rw [eq_iff_iff, UInt8.le_iff_toNat_le, UInt8.le_iff_toNat_le]; omega)
          have hcx : (m.extract n m.size).data.toList = m.data.toList.drop n := sub_list m n
          have hcy : (m.extract n m.size).size = m.size - n := by rw [ByteArray.size_extract]; omega
          have HCX := Lib.hid hcx
          have HCY := Lib.hid hcy
          clear HTj hcx hcy
          go_wp2_with fail
          go_roundw
          case rel => exact ⟨_, _, rfl, by rw [HCY.out]; omega, HTf.out, HNj.out, by
            unfold Hid
            rw [HI.out, HSt.out, HCX.out], HBj.out⟩
          case measure => simp only [strLen]; rw [HCY.out]; omega
    · have hnil : m.data.toList = [] := List.eq_nil_of_length_eq_zero (by omega)
      have e0 : m.toList = [] := toList_nil hnil
      have hI := HI.out
      rw [hnil, setM_nil] at hI
      have HT2 : Hid (∀ x, F x = (acc x != nt)) := fun x => by rw [HT.out x, hI]
      clear hI HI hnil HT
      go_wp2_with fail
      go_ret
      refine ⟨_, rfl, ⟨68, #[.pointer (some ⟨b5, 0, none⟩), .pointer (some ⟨b4, 0, none⟩)], ⟨rfl, enters_of Tryd.func68 (by kernel_rfl) rfl⟩, fun W hW x _ args ha => ?_⟩, HB.out⟩
      rw [app12] at ha
      subst ha
      refine (set1_any acc nt b5 b4 W (hk1 _ _ _ _ HS.out hW) (by rw [(hk2 _ _ _ _ HN.out hW).cell]; rfl) x).mono ?_
      rintro e w' ⟨rfl, n, rfl⟩
      exact ⟨by rw [HT2.out], drewN_below (Below.refl _ _) n⟩
end Go.Proofs.YtilmfnlhpnbngaaDoor
