/- Paths of drawn trees; what is near a directory. -/
import Derived.Test.YtcljfokcomclgaaDoorTreE
import Derived.Test.YtcljfokcomclgaaDoorPthA
import Derived.Test.YtcljfokcomclgaaDoorMth
set_option linter.unusedVariables false
set_option maxRecDepth 100000
namespace Go.Proofs.YtcljfokcomclgaaDoor
open Go.RowKit
open Go.OpenShut
set_option maxHeartbeats 4000000 in
theorem pathsN_any (m : Nat) (hm20 : m ≤ 1000) (A : Option Addr) (n c : Nat) (rs : List RawV) (hn : rs.length = n) (hn2 : n ≤ 140737488355328) (hwf : ∀ r ∈ rs, r.wf) (w : World) (hA : RawsAt w A rs) :
    Calls Tryd.prog 13 #[.slice A n c, .int .i64 (m : Nat)] w fun e w' => ∃ (v : Value) (L : List (List UInt8)), e = .returned v ∧ Texts w' w.heap.size v L ∧ 1 ≤ L.length ∧ L.length ≤ m + 1 ∧ (∀ d ∈ L, d.length ≤ 400 ∧ (d = [97] ∨ ∃ n ∈ (treeS m rs).1, n.path = d)) ∧ Below w.heap.size w w' := by
  have HCT : Hid (∀ W, RawsAt W A rs → Calls Tryd.prog 30 #[.slice A n c, .int .i64 (m : Nat)] W fun e w' => ∃ v ys, e = .returned v ∧ TreeOut W m rs v ys w') := fun W h => Tree_any A n c rs hn hn2 hwf m hm20 W h
  have hA2 : RawsAt (w.alloc (.cells #[.string ⟨#[97]⟩] 9)) A rs := fun j hj => by
    obtain ⟨b, o, e, hc⟩ := hA j hj
    refine ⟨b, o, e, fun i hi => ?_⟩
    have h0 := hc i hi
    have hlt : b < w.heap.size := by
      have h3 : i < (rawC rs[j]).length := by rw [show (rawC rs[j]).length = 4 from rfl]; exact hi
      rw [List.getElem?_eq_getElem h3] at h0
      exact World.block_lt_of_cell? w _ h0
    rw [World.cell?_alloc_old _ _ _ (by show b ≠ _; omega)]
    exact h0
  have HA2 := Lib.hid hA2
  have HA := Lib.hid hA
  have HWF := Lib.hid hwf
  clear hA hA2 hwf
  have hT0 : Hid (Texts (w.alloc (.cells #[.string ⟨#[97]⟩] 9)) w.heap.size (.slice (some ⟨w.heap.size, 0, none⟩) 1 1) [[97]]) := Texts.lit (w := w) [[97]] (by decide)
  have hB0 : Hid (Below w.heap.size w (w.alloc (.cells #[.string ⟨#[97]⟩] 9))) := al (Below.refl _ _) _
  obtain ⟨i0, hi, hz0, hz1, hz2⟩ := info_parts info_str
  go_enter Tryd.func13, Tryd.ntmps13
  go_wp2_with fail
  refine (HCT.out _ HA2.out).mono ?_; rintro e w1 ⟨tv, ys, rfl, hO⟩
  have HO := Lib.hid hO
  clear hO
  obtain ⟨G, cap, rfl⟩ := HO.out.1.form
  have hyl : ys.length ≤ m := by
    have h1 := HO.out.2.1.length_eq
    have h2 := treeS_le m rs
    rw [List.length_map] at h1
    omega
  obtain ⟨ny, Hny⟩ := hid_name ys.length
  rw [Hny.out] at hyl ⊢
  have hT1 : Hid (Texts w1 w.heap.size (.slice (some ⟨w.heap.size, 0, none⟩) 1 1) [[97]]) := hT0.out.below HO.out.2.2.2.2
  have hB1 : Hid (Below w.heap.size w w1) := hB0.out.trans (HO.out.2.2.2.2.mono hB0.out.size)
  go_wp2_with fail
  go_loopw [5, 13] (fun v i wr => ∃ (k : Nat) (L : List (List UInt8)), i = .int .i64 k ∧ k ≤ ny ∧ L.length = k + 1 ∧ Hid (Texts wr w.heap.size v L) ∧ Hid (∀ d ∈ L, d.length ≤ 400 ∧ (d = [97] ∨ ∃ n ∈ (treeS m rs).1, n.path = d)) ∧ Hid (KeepT 9 w1 wr) ∧ Hid (Below w.heap.size w wr)) (fun _ i _ => ny - (intOf i).toNat)
  case atStart => exact ⟨0, [[97]], rfl, Nat.zero_le _, rfl, hT1.out, (fun d hd => by simp at hd; simp [hd]), KeepT.rfl' _ _, hB1.out⟩
  case round =>
    obtain ⟨k, L, rfl, hk, hL, HT, HL, HK, HB⟩ := hrel
    by_cases hlt : k < ny
    · have hkx : k < ys.length := by rw [Hny.out]; exact hlt
      obtain ⟨y, Hy⟩ := hid_name (ys[k]'hkx)
      have hNy : Nodes wr w.heap.size (.slice (adr G) ny cap) ys := by
        have h1 := HO.out.1
        rw [Hny.out] at h1
        exact own_mono (own_keepT h1 HK.out (by decide)) (by simp)
      obtain ⟨G0, rfl⟩ : ∃ G0, G = some G0 := by
        rcases hNy.any with ⟨e, _⟩ | ⟨g5, cap5, e, _⟩
        · have : ny = 0 := by simp only [Value.slice.injEq] at e; exact e.2.1
          omega
        · cases G with
          | none => simp [adr] at e
          | some G0 => exact ⟨G0, rfl⟩
      obtain ⟨⟨s0, s1, s2, s3, s4, s5, s6, s7, s8, s9, s10, s11⟩, sf⟩ := node_cells hNy Hny.out k hkx y Hy.out
      obtain ⟨gs, cs, rfl, hgs, _⟩ := HT.out.form (by omega)
      have HO2 : Hid (wr.ownsRow w.heap.size 9 1 (.slice (some ⟨gs, 0, none⟩) L.length cs) L.length (strC L)) := HT.out
      rw [hL] at HO2 ⊢
      rw [show adr (some G0) = some (⟨G0, 0, none⟩ : Addr) from rfl]
      have hk0 : (0 : Int) ≤ (k : Int) := by omega
      have hk1 : (k : Int) < (ny : Int) := by omega
      go_wp2_with (at_builtin; refine Stay.go ?_)
      refine Stay.on ?_
      have HO3 : Hid (((wr.alloc (.cells (encN y).toArray 60)).alloc (.cells #[.string ⟨(keyL y).toArray⟩] 9)).ownsRow w.heap.size 9 1 (.slice (some ⟨gs, 0, none⟩) (k + 1) cs) (k + 1) (strC L)) := (HO2.out.alloc _).alloc _
      have hsz : w.heap.size ≤ wr.heap.size := HB.out.size
      have hnb : ((wr.alloc (.cells (encN y).toArray 60)).alloc (.cells #[.string ⟨(keyL y).toArray⟩] 9)).heap[wr.heap.size + 1]? = some (.cells #[.string ⟨(keyL y).toArray⟩] 9 (0, 0)) := by
        have h9 := heap_alloc_new (wr.alloc (.cells (encN y).toArray 60)) (.cells #[.string ⟨(keyL y).toArray⟩] 9)
        simpa using h9
      refine wpList_append_lies _ rfl (.tmp 17) (.tmp 20) 29 rfl w.heap.size 9 i0 _ 1 16 Tryd.underlying29 hi hz0 hz1 hz2 rfl (by decide) (.slice (some ⟨gs, 0, none⟩) (k + 1) cs) (k + 1) _ rfl HO3.out ⟨wr.heap.size + 1, 0, none⟩ 1 1 [.string ⟨(keyL y).toArray⟩] rfl rfl (World.news_of_block (cs := #[.string ⟨(keyL y).toArray⟩]) (t := 9) (fr := (0, 0)) hnb) (by simp [Value.oneCell']) (by omega) (by unfold maxLen; omega) (by omega) (by simp; omega) _ rfl ?_
      intro g' cap' w6 hown1 hgrow1 hat1 hlt1
      have HL1 : Hid ((L ++ [keyL y]).length = k + 1 + 1) := by unfold Hid; rw [List.length_append, hL]; rfl
      have HT1 : Hid (Texts w6 w.heap.size (.slice (some ⟨g', 0, none⟩) (k + 1 + 1) cap') (L ++ [keyL y])) := by
        unfold Hid Texts; rw [HL1.out, strC_app]; exact hown1
      have HK1 : Hid (KeepT 9 w1 w6) := by
        refine HK.out.trans ((KeepT.below (al (al (Below.refl wr.heap.size wr) _) _)).trans (KeepT.grown hgrow1 fun g0 e => ?_))
        obtain ⟨_, cur, hc⟩ := own_block HO3.out g0 e
        exact ⟨cur, (0, 0), hc⟩
      have HB2 : Hid (Below w.heap.size w w6) := ((HB.out.alloc hsz _).alloc (by simp; omega) _).grown hgrow1 (by simp; omega) fun k' hk' => (own_block HO3.out k' hk').1
      have HLL : Hid (∀ d ∈ L ++ [keyL y], d.length ≤ 400 ∧ (d = [97] ∨ ∃ n ∈ (treeS m rs).1, n.path = d)) := fun d hd => by
        rcases List.mem_append.1 hd with a | a
        · exact HL.out d a
        · obtain rfl : d = keyL y := by simpa using a
          have hy : y ∈ ys := by rw [← Hy.out]; exact List.getElem_mem _
          have hk : keyL y = y.1.path := by
            rw [keyL, List.take_of_length_le]
            exact (HO.out.2.2.2.1 y hy).2.1
          refine ⟨by rw [keyL, List.length_take]; omega, .inr ⟨y.1, HO.out.2.1.mem_iff.1 (List.mem_map.2 ⟨y, hy, rfl⟩), hk.symm⟩⟩
      clear hown1 hgrow1 hat1 hlt1 hnb
      go_wp2_with fail
      go_roundw
      case rel => exact ⟨k + 1, L ++ [keyL y], by go_num, by omega, HL1.out, HT1.out, HLL.out, HK1.out, HB2.out⟩
      case measure => simp [intOf]; omega
    · obtain rfl : k = ny := by omega
      go_wp2_with fail
      go_ret
      exact ⟨_, L, rfl, HT.out, by omega, by omega, HL.out, HB.out⟩
theorem paths_any (A : Option Addr) (n c : Nat) (rs : List RawV) (hn : rs.length = n) (hn2 : n ≤ 140737488355328) (hwf : ∀ r ∈ rs, r.wf) (w : World) (hA : RawsAt w A rs) :
    Calls Tryd.prog 13 #[.slice A n c, .int .i64 20] w fun e w' => ∃ (v : Value) (L : List (List UInt8)), e = .returned v ∧ Texts w' w.heap.size v L ∧ 1 ≤ L.length ∧ L.length ≤ 21 ∧ (∀ d ∈ L, d.length ≤ 400) ∧ Below w.heap.size w w' :=
  (pathsN_any 20 (by omega) A n c rs hn hn2 hwf w hA).mono fun e w' ⟨v, L, h1, h2, h3, h4, h5, h6⟩ => ⟨v, L, h1, h2, h3, h4, fun d hd => (h5 d hd).1, h6⟩
end Go.Proofs.YtcljfokcomclgaaDoor
