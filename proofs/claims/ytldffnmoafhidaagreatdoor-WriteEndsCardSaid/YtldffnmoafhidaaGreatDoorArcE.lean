/- WriteEnds: an archive consists of whole blocks, and ends with two of zeros. -/
import Derived.Test.YtldffnmoafhidaaGreatDoorShelfB
import Derived.Test.YtldffnmoafhidaaGreatDoorArx
import Derived.Test.YtldffnmoafhidaaGreatDoorEofA
import Derived.Test.YtldffnmoafhidaaGreatDoorSrtI
import Derived.Test.YtldffnmoafhidaaGreatDoorPda
import Derived.Test.YtldffnmoafhidaaGreatDoorLaid
import Derived.Test.YtldffnmoafhidaaGreatDoorShelf
set_option linter.unusedVariables false
set_option maxRecDepth 100000
namespace Go.Proofs.YtldffnmoafhidaaGreatDoor
open Go.RowKit
open Go.OpenShut
theorem trim_zeros (n : Nat) : Lib.trimB (List.replicate n (0 : UInt8)) 0 = [] := by
  have h : ∀ m : Nat, List.dropWhile (fun x : UInt8 => x == 0) (List.replicate m (0 : UInt8)) = [] := fun m => by
    induction m with
    | zero => rfl
    | succ m ih => rw [List.replicate_succ, List.dropWhile_cons_of_pos (by rfl)]; exact ih
  unfold Lib.trimB Lib.trimLeftB Lib.trimRightB
  rw [List.reverse_replicate, h]; rfl
set_option maxHeartbeats 4000000 in
theorem WriteEnds_walk (A0 : Option Addr) (n0 c0 : Nat) (rs0 : List RawV) (hn0 : rs0.length = n0) (hm0 : n0 ≤ 140737488355328) (hf0 : ∀ r ∈ rs0, r.wf) (w : World) (hr0 : RawsAt w A0 rs0) (hL : laidMetH Tryz.prog Rows.writeEndsRow.laid w) :
    Calls Tryz.prog 6 #[.slice A0 n0 c0] w fun e w' => e = .returned (.bool true) ∧ Below w.heap.size w w' := by
  have T : Tab w := tab_of_laid hL (by kernel_rfl) (by simp [Rows.writeEndsRow])
  have HD := Lib.hid (entsOf_any A0 n0 c0 rs0 hn0 hm0 hf0 20 (by omega) w hr0)
  simp only [show ((20 : Nat) : Int) = 20 from rfl] at HD
  clear hn0 hm0 hf0 hr0 hL
  go_enter Tryz.func6, Tryz.ntmps6
  go_wp2_with fail
  refine HD.out.mono ?_; rintro e w1 ⟨l, T1, k, d, rfl, hk, hS, hN, hkm, hE, hsz, hB⟩
  have HB1 := Lib.hid hB
  have H2 := Lib.hid (wArch_any T1 k d l hk hS hsz w1 (T.below hB) hN)
  have H3 := Lib.hid fun W (h : Below w1.heap.size w1 W) => wPlac_any T1 k d l hk hS hsz W (T.below (hB.trans (h.mono hB.size))) (hN.below h)
  rw [hE] at H2 H3
  have hlen := arcE_len hE
  obtain ⟨-, hlim, hmod⟩ := arcB_lim l (ents_each hE)
  have hpl := plcA_len l hE
  have hend := arc_end hE
  have hpk : ∀ (h : k < (plcA l).length), (plcA l)[k]'h = ((arcB l).length : Int) := fun h => by
    simp only [plcA_ok hE]
    rw [plcN_at l _ k (by omega), List.take_of_length_le (by omega)]
  have hmono : ∀ j (hj : j + 1 < (plcA l).length), (plcA l)[j]'(Nat.lt_of_succ_lt hj) ≤ (plcA l)[j + 1]'hj := fun j hj => by
    have h1 : j + 1 < l.length + 1 := by rw [← hpl]; exact hj
    simp only [plcA_ok hE]
    rw [plcN_at l _ j (by omega), plcN_at l _ (j + 1) h1]
    exact Int.ofNat_le.2 (arcB_mono l (by omega))
  rw [hk] at hpl hlim
  have HMono := Lib.hid hmono
  have HPk := Lib.hid hpk
  have HEnd := Lib.hid hend
  obtain ⟨p, hp⟩ : ∃ p, (arcB l).length = p := ⟨_, rfl⟩
  rw [hp] at hlen hlim hmod HEnd
  simp only [hp] at HPk
  generalize arcE l = AL at H2 hlen HEnd
  generalize plcA l = PL at H3 hpl HPk HMono
  have hk20 : k ≤ 20 := hkm
  clear hk hS hN hE hsz hB HD hend hpk hmono hp hkm
  go_wp2_with fail
  refine H2.out.mono ?_; rintro e w2 ⟨v2, rfl, ho, hb⟩
  obtain ⟨D2, d2, rfl, hs2, hd2⟩ := ho.form
  rw [hlen] at hs2 ⊢
  have HA2 := Lib.hid hd2
  have HS2 := Lib.hid hs2
  have HX2 := Lib.hid hb
  clear ho hb hd2 hs2 H2
  go_wp2_with fail
  refine (H3.out _ HX2.out).mono ?_; rintro e w3 ⟨v3, rfl, ho, hb⟩
  obtain ⟨D3, d3, rfl, hd3⟩ := ho.at
  rw [hpl]
  have HA3 := Lib.hid (HA2.out.below hb)
  have HP3 := Lib.hid hd3
  have HX3 := Lib.hid (HX2.out.trans (hb.mono HX2.out.size))
  have hcut := HA3.out.cut (c := d2) (by rw [hlen]; exact HS2.out.1) p (by omega)
  rw [HEnd.out] at hcut
  have hsl := fun W => slice_from W D2 (p + 1024) d2 p (by omega)
  have hcv := hcut.conv (d2 - p) (fun e => by
    have h := HS2.out.1
    exfalso
    unfold cutA at e
    rw [if_neg (by omega)] at e
    cases hD : D2 with
    | none => have := HS2.out.2.2 hD; omega
    | some a => rw [hD] at e; cases e)
  rw [List.length_replicate] at hcv
  have hpn : p + 1024 - p = 1024 := by omega
  simp only [hpn] at hsl
  obtain ⟨D4, HD4⟩ := hid_name (cutA D2 d2 p)
  obtain ⟨d4, Hd4⟩ := hid_name (d2 - p)
  simp only [HD4.out, Hd4.out] at hsl hcv
  have HT := Lib.hid fun W => Tryz.strings_Trim_one (bs (List.replicate 1024 0)) 0 (by decide) W (by rw [bs_size, List.length_replicate]; decide)
  rw [bs_list, trim_zeros] at HT
  obtain ⟨Z, HZ⟩ := hid_name (bs (List.replicate 1024 0))
  rw [HZ.out] at HT hcv
  obtain ⟨b, o, hD3, c3⟩ := HP3.out k (by omega)
  rw [HPk.out (by omega)] at c3
  have hrow := IsSortedI_any D3 (k + 1) d3 PL HMono.out hpl (by omega)
  have HSr := Lib.hid fun W h => hrow W h
  subst hD3
  have hqm : ((p : Int) + 1024) % 512 = 0 := by omega
  have t1 : (1024 : Int) ≤ (p : Int) + 1024 := by omega
  clear ho hb hd3 hcut H3 HA2 HMono HPk HEnd HS2 HX2 hpn hrow
  have fin : ∀ w4 : World, (w4 = w3 ∨ w4 = w3.drew) → w4.cell? ⟨b, o + k, none⟩ = some (.int .i64 (p : Int)) ∧ NumsAt w4 (some ⟨b, o, none⟩) PL ∧ Below w.heap.size w w4 := fun w4 h => by
    have hb3 := HB1.out.trans (HX3.out.mono HB1.out.size)
    rcases h with rfl | rfl
    · exact ⟨c3, HP3.out, hb3⟩
    · exact ⟨c3, HP3.out, hb3.drew⟩
  have FIN := Lib.hid fin
  clear fin c3 HA3 HP3
  go_wp2_with fail
  refine (HT.out _).mono ?_; rintro e w4 ⟨rfl, hw⟩
  obtain ⟨c4, hP4, hB4⟩ := FIN.out w4 hw
  have HP4 := Lib.hid (HSr.out w4 hP4)
  have HB4 := Lib.hid hB4
  clear hw hP4 hB4 FIN HSr HT hsl hcv
  go_wp2_with fail
  refine HP4.out.mono ?_; rintro e w5 ⟨rfl, hb⟩
  have HB5 := Lib.hid (HB4.out.trans (hb.mono HB4.out.size))
  clear hb c4
  go_wp2_with fail
  go_ret
  exact ⟨rfl, HB5.out⟩
end Go.Proofs.YtldffnmoafhidaaGreatDoor
