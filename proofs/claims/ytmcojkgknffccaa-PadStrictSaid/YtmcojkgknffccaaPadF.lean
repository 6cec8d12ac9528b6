/- Package pad: the property PadStrict. -/
import Derived.Test.YtmcojkgknffccaaPadE
import Derived.Lib.MinMax
set_option linter.unusedVariables false
set_option maxRecDepth 100000
namespace Go.Proofs.Ytmcojkgknffccaa
open Go.RowKit
open Go.OpenShut
theorem OwnB.form1 {w : World} {B : Nat} {v : Value} {l : List UInt8} (h : OwnB w B v l) (h0 : 0 < l.length) : ∃ g c, v = .slice (some ⟨g, 0, none⟩) l.length c ∧ l.length ≤ c ∧ c ≤ maxLen := by
  unfold OwnB World.ownsRow at h
  rcases h.2 with ⟨_, e⟩ | ⟨g, cap, cur, e, _, _, h1, h2, _⟩
  · omega
  · exact ⟨g, cap, e, h1, h2⟩
theorem by_one {b : Int} (hb : (Lit.int .u8 b).wf = true) : ∃ c : UInt8, max b 1 = (c.toNat : Int) ∧ c ≠ 0 ∧ 0 ≤ b ∧ b ≤ 255 := by
  have hbb : IntKind.u8.min ≤ b ∧ b ≤ IntKind.u8.max := by simpa [Lit.wf] using hb
  rw [show IntKind.u8.min = 0 from rfl, show IntKind.u8.max = 255 from rfl] at hbb
  refine ⟨UInt8.ofNat (max b 1).toNat, by rw [UInt8.toNat_ofNat']; omega, ?_, hbb.1, hbb.2⟩
  intro e
  have h := congrArg UInt8.toNat e
  rw [UInt8.toNat_ofNat', show (0 : UInt8).toNat = 0 from rfl] at h
  omega
set_option maxHeartbeats 2000000 in
theorem PadStrict_walk (A0 : Option Addr) (n0 c0 : Nat) (l0 : List UInt8) (a1 a2 : Int) (hn0 : l0.length = n0) (hm0 : n0 ≤ 140737488351232) (hc0 : n0 ≤ c0 ∧ c0 ≤ maxLen ∧ (A0 = none → c0 = 0)) (w1 : (Lit.int .i64 a1).wf = true) (w2 : (Lit.int .u8 a2).wf = true) (w : World) (hr0 : BytsAt w A0 l0) :
    Calls Try.prog 7 #[.slice A0 n0 c0, .int .i64 a1, .int .u8 a2] w fun e w' => e = .returned (.bool true) ∧ Below w.heap.size w w' := by
  obtain ⟨y, hy, hy0, hy1, hy2⟩ := by_one w2
  -- the bytes cut to 400, and one more
  obtain ⟨m, hm⟩ : ∃ m : Nat, m = min n0 400 := ⟨_, rfl⟩
  have hm4 : m ≤ 400 := by omega
  have hmn : m ≤ n0 := by omega
  have hmin : min (n0 : Int) 400 = (m : Int) := by omega
  have hlm : (l0.take m).length = m := by rw [List.length_take]; omega
  obtain ⟨l, hl⟩ := hid_name (l0.take m)
  rw [hl.out] at hlm
  have hat : BytsAt w A0 l := by rw [← hl.out]; exact hr0.take m
  have s1 := fun W => slice_to W A0 n0 c0 m (by omega)
  have HC := Lib.hid (sClone_any A0 m c0 l hlm (by omega) w hat)
  have hL : (l ++ [120]).length = m + 1 := by rw [List.length_append, hlm]; rfl
  have hpad : padN (m + 1) = 1 := by unfold padN; omega
  have hfl : (padF (l ++ [120])).length = 512 := by rw [padF_length, hL, hpad]
  obtain ⟨p1, p2⟩ := pick_bd a1 (512 - (m + 1 : Nat)) (by omega)
  have HP := Lib.hid fun W => picked_any a1 (512 - (m + 1 : Nat)) W w1 (by omega)
  obtain ⟨k, hk⟩ : ∃ k : Nat, pick a1 (512 - (m + 1 : Nat)) = k := ⟨(pick a1 (512 - (m + 1 : Nat))).toNat, by omega⟩
  rw [hk] at HP p1 p2
  have hturn := padC_turned (l ++ [120]) (by omega) (m + 1 + k) (by omega) (by rw [hL, hpad]; omega) y hy0
  have hshort : padC (((padF (l ++ [120])).set (m + 1 + k) y).take 511) ((l ++ [120]).length : Int) = (([], []), 7) := padC_short ⟨by omega, by omega⟩ (by
    rw [Int.toNat_natCast, List.length_take, List.length_set, hfl, hL, hpad]; omega)
  have hFl := fun W A c (h : BytsAt W A (l ++ [120])) => Fill_any A (m + 1) c (l ++ [120]) hL (by omega) W h
  have hC1 := fun W A c (hs : SlOk A 512 c) (h : BytsAt W A ((padF (l ++ [120])).set (m + 1 + k) y)) => Cut_any A 512 c ((padF (l ++ [120])).set (m + 1 + k) y) ((l ++ [120]).length : Int) (by rw [List.length_set, hfl]) (by omega) hs W h
  have hC2 := fun W A c (hs : SlOk A 511 c) (h : BytsAt W A (((padF (l ++ [120])).set (m + 1 + k) y).take 511)) => Cut_any A 511 c (((padF (l ++ [120])).set (m + 1 + k) y).take 511) ((l ++ [120]).length : Int) (by rw [List.length_take, List.length_set, hfl]; rfl) (by omega) hs W h
  simp only [hturn] at hC1
  simp only [hshort] at hC2
  simp only [hL] at hC1 hC2
  have HFl := Lib.hid hFl
  have HC1 := Lib.hid hC1
  have HC2 := Lib.hid hC2
  have HFL := Lib.hid hfl
  have HLM := Lib.hid hlm
  have HLL := Lib.hid hL
  obtain ⟨F, hF⟩ := hid_name (padF (l ++ [120]))
  rw [hF.out] at HFl HC1 HC2 HFL
  obtain ⟨X, hX⟩ := hid_name (l ++ [120])
  rw [hX.out] at HFl HLL
  obtain ⟨q, hq⟩ : ∃ q : Nat, q = m + 1 := ⟨_, rfl⟩
  rw [← hq] at HFl HC1 HC2 HP HLL p2
  have hadd : IntKind.i64.wrap ((q : Int) + (k : Int)) = ((q + k : Nat) : Int) := by rw [IntKind.wrap_i64]; omega
  have hsub : IntKind.i64.wrap (512 - (q : Int)) = 512 - (q : Int) := by rw [IntKind.wrap_i64]; omega
  obtain ⟨z, hz⟩ : ∃ z : Nat, z = q + k := ⟨_, rfl⟩
  have hzl : z < 512 := by omega
  have hqm : q + k = z := hz.symm
  rw [hqm] at HC1 HC2
  rw [← hz] at hadd
  have hmx : max a2 1 = (y.toNat : Int) := hy
  clear hq hFl hC1 hC2 hturn hshort hpad hfl hl hat hr0 hm hk p1 p2 hz hqm hL hlm hc0 hn0 w1 w2
  go_enter Try.func7, Try.ntmps7
  go_wp2_with fail
  refine HC.out.mono ?_; rintro e w1 ⟨v1, rfl, ho1, hb1⟩
  have HB1 := Lib.hid (belowA hb1 (.cells #[.int .u8 120] 5))
  have HO1 := Lib.hid (ho1.alloc (.cells #[.int .u8 120] 5))
  have HNw : Hid (BytsAt (w1.alloc (.cells #[.int .u8 120] 5)) (some ⟨w1.heap.size, 0, none⟩) [120]) := fun j hj => by
    obtain rfl : j = 0 := by simpa using hj
    exact ⟨_, _, rfl, cell_of_row _ w1.heap.size 0 #[.int .u8 120] 5 (0, 0) (heap_alloc_new w1 _)⟩
  clear ho1 hb1
  go_wp2_with (at_builtin; refine Stay.go ?_)
  refine Stay.on ?_
  refine append_byts rfl (.tmp 19) (.tmp 20) rfl w.heap.size _ _ rfl HO1.out (some ⟨w1.heap.size, 0, none⟩) 1 1 [120] rfl rfl HNw.out (fun e => by cases e) (by rw [HLM.out]; omega) HB1.out.size ?_
  intro v2 w2 ho2 hb2
  rw [hX.out] at ho2
  have HB2 := Lib.hid (hb2 w HB1.out)
  obtain ⟨A2, c2, rfl, -, hat2⟩ := ho2.form
  have HF2 := Lib.hid (HFl.out w2 A2 c2 hat2)
  rw [HLL.out]
  clear ho2 hb2 hat2
  go_wp2_with fail
  refine HF2.out.mono ?_; rintro e w3 ⟨v3, rfl, ho3, hb3⟩
  have HB3 := Lib.hid (HB2.out.trans (hb3.mono HB2.out.size))
  obtain ⟨g, c3, rfl, k1, k2⟩ : ∃ g c, v3 = .slice (some ⟨g, 0, none⟩) 512 c ∧ 512 ≤ c ∧ c ≤ maxLen := by
    have h := ho3.form1 (by rw [HFL.out]; decide)
    rw [HFL.out] at h; exact h
  have ho3' : w3.ownsRow w2.heap.size 5 1 (.slice (some ⟨g, 0, none⟩) 512 c3) 512 (bCells F) := by
    unfold OwnB at ho3; rw [HFL.out] at ho3; exact ho3
  have HO4 : Hid (OwnB (w3.setCell ⟨g, z, none⟩ (.int .u8 (y.toNat : Int))) w2.heap.size (.slice (some ⟨g, 0, none⟩) 512 c3) (F.set z y)) := by
    have h := (ho3'.stored z (.int .u8 (y.toNat : Int))).1
    rw [bCells_set] at h
    unfold Hid OwnB; rw [List.length_set, HFL.out]; exact h
  have hgl := ho3'.lt g rfl
  have HB4 : Hid (Below w.heap.size w (w3.setCell ⟨g, z, none⟩ (.int .u8 (y.toNat : Int)))) := HB3.out.setCell (p := ⟨g, z, none⟩) (by have := HB2.out.size; show w.heap.size ≤ g; omega) _
  have hcell : w3.cell? ⟨g, z, none⟩ = some (.int .u8 ((bInts F).getD z 0)) := by
    rw [ho3'.cellAt z (by omega), bCells_get _ _ (by rw [HFL.out]; exact hzl)]
  have hfr := ho3'.frozenAt z
  obtain ⟨x0, hx0⟩ := hid_name ((bInts F).getD z 0)
  rw [hx0.out] at hcell
  clear ho3 ho3' hb3
  go_wp2_with fail
  refine (HP.out _).mono ?_; rintro e w' ⟨rfl, rfl⟩
  go_wp2_with fail
  obtain ⟨w5, Hw5⟩ := hid_name (w3.setCell ⟨g, z, none⟩ (.int .u8 (y.toNat : Int)))
  rw [Hw5.out] at HO4 HB4 ⊢
  have hat4 : BytsAt w5 (some ⟨g, 0, none⟩) (F.set z y) := by
    obtain ⟨A, c, e, -, h⟩ := HO4.out.form
    injection e with e
    subst e; exact h
  have HA4 := Lib.hid hat4
  have HK1 := Lib.hid (HC1.out w5 _ c3 ⟨k1, k2, fun e => by cases e⟩ hat4)
  have s5 := fun W => slice_to W (some ⟨g, 0, none⟩) 512 c3 511 (by omega)
  simp only [show ((511 : Nat) : Int) = 511 from rfl] at s5
  have HK2 := Lib.hid fun W h => HC2.out W (some ⟨g, 0, none⟩) c3 ⟨by omega, k2, fun e => by cases e⟩ h
  clear hcell hfr hat4 k1 k2
  refine HK1.out.mono ?_; rintro e w6 ⟨v4, v5, rfl, -, -, hb5⟩
  have HB5 := Lib.hid (HB4.out.trans (hb5.mono HB4.out.size))
  have HK3 := Lib.hid (HK2.out w6 ((HA4.out.below hb5).take 511))
  clear hb5
  go_wp2_with fail
  refine HK3.out.mono ?_; rintro e w7 ⟨v6, v7, rfl, -, -, hb6⟩
  have HB6 := Lib.hid (HB5.out.trans (hb6.mono HB5.out.size))
  clear hb6 HK1 HK2 HK3 HC1 HC2 HA4 HO4
  go_wp2_with fail
  go_ret
  exact ⟨rfl, HB6.out⟩
end Go.Proofs.Ytmcojkgknffccaa
