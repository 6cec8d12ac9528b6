/- Texts of one kind, in one file: OwnM, EofA. -/
import Derived.Test.YtmejnabngfpbeaaGreatDoorMth
import Derived.Test.YtmejnabngfpbeaaGreatDoorEng
import Derived.Test.YtmejnabngfpbeaaGreatDoorEnk
import Derived.Test.YtmejnabngfpbeaaGreatDoorFlq
import Derived.Test.YtmejnabngfpbeaaGreatDoorTrg
import Derived.Test.YtmejnabngfpbeaaGreatDoorArx
set_option linter.unusedVariables false
set_option maxRecDepth 100000
namespace Go.Proofs.YtmejnabngfpbeaaGreatDoor
open Go.RowKit
def endOk (p : List UInt8) : Bool := p.getLast? != some 122 && p.getLast? != some 101 && !p.isEmpty
theorem names_end : ∀ i, i < 11 → endOk (namesL.getD i []) = true := by
 intro i hi
 have : ∀ j : Fin 11, endOk (namesL.getD j.val []) = true := by decide +kernel
 exact this ⟨i, hi⟩
theorem endOk_app (a b : List UInt8) (h : endOk b = true) : endOk (a ++ b) = true := by
 unfold endOk at *
 simp only [Bool.and_eq_true] at h
 obtain ⟨⟨h1, h2⟩, h3⟩ := h
 cases b with
 | nil => cases h3
 | cons x b =>
  have e : (a ++ x :: b).getLast? = (x :: b).getLast? := by
   rw [List.getLast?_append]
   cases hq : (x :: b).getLast? with
   | none => simp at hq
   | some q => rfl
  rw [e, h1, h2]
  cases a <;> rfl
theorem path_end (ds : List (List UInt8)) (r : RawV) : endOk (pathT ds r) = true := by
 unfold pathT
 exact endOk_app _ _ (names_end _ (by have := pick_bd r.a 11 (by omega); omega))
theorem step_path (m : Nat) (st : List NodeV × List (List UInt8)) (r : RawV) (h : ∀ x ∈ st.1, endOk x.path = true) : ∀ x ∈ (stepT m st r).1, endOk x.path = true := by
 intro x hx
 have hp := path_end st.2 r
 have key : ∀ (l : List NodeV) (y : NodeV), (∀ z ∈ l, endOk z.path = true) → y.path = pathT st.2 r → x ∈ l ++ [y] → endOk x.path = true := fun l y hl hy hx' => by
  rcases List.mem_append.1 hx' with a | a
  ·exact hl x a
  ·obtain rfl : x = y := by simpa using a
   rw [hy]; exact hp
 unfold stepT at hx
 split at hx
 ·exact h x hx
 ·simp only at hx
  split at hx
  ·exact h x hx
  ·split at hx
   ·exact key _ _ h rfl hx
   ·split at hx
    ·exact key _ _ h rfl hx
    ·split at hx
     ·split at hx
      ·exact key _ _ h rfl hx
      ·rename_i y hy
       split at hx
       ·refine key _ _ (fun z hz => ?_) rfl hx
        rcases List.mem_or_eq_of_mem_set hz with a | a
        ·exact h z a
        ·have hm : y ∈ st.1 := List.mem_of_getElem? hy
         rw [a]
         split
         ·exact h y hm
         ·exact h y hm
       ·exact key _ _ h rfl hx
     ·exact key _ _ h rfl hx
theorem drawn_end (m : Nat) (rs : List RawV) : ∀ x ∈ (treeS m rs).1, endOk x.path = true := by
 unfold treeS
 suffices key : ∀ (st : List NodeV × List (List UInt8)), (∀ x ∈ st.1, endOk x.path = true) → ∀ x ∈ (rs.foldl (stepT m) st).1, endOk x.path = true from key _ (fun x hx => by cases hx)
 induction rs with
 | nil => intro st h; exact h
 | cons r rs ih => intro st h; rw [List.foldl_cons]; exact ih _ (step_path m st r h)
def zzN : NodeV := ⟨[122, 122], 1, 0, [], ⟨0, 0, 0, [], [], 0, 0⟩, [100, 97, 116, 97]⟩
theorem end_none {p : List UInt8} (h : endOk p = true) : p ≠ [110, 111, 110, 101] := by
 rintro rfl; revert h; decide
end Go.Proofs.YtmejnabngfpbeaaGreatDoor
namespace Go.Proofs.YtmejnabngfpbeaaGreatDoor
open Go.RowKit
open Go.OpenShut
theorem plan_ends {t : List NodeV} (h : ∀ x ∈ t, endOk x.path = true) : ∀ x ∈ planL t, endOk x.path = true := by
 intro x hx
 obtain ⟨i, hi, rfl⟩ := List.getElem_of_mem hx
 have hit : i < t.length := by rwa [planL_len] at hi
 rw [planL_at t i hit, planE_path]
 exact h _ (List.getElem_mem hit)
theorem eof_sz {x : EntV} (h : entE x = 0) : x.sz := by
 obtain ⟨h1, h2, h3⟩ := entE_parts h
 have hp := pathE_len h1
 have hm : x.md.user.length ≤ 60 ∧ x.md.group.length ≤ 60 := by
  unfold metE at h2
  split at h2
  ·split at h2
   ·cases h2
   ·omega
  ·cases h2
 have hk : x.data.length ≤ 2000 ∧ x.target.length ≤ 400 := by
  unfold entK at h3
  split at h3
  ·cases h3
  ·split at h3
   ·cases h3
   ·split at h3
    ·cases h3
    ·omega
 exact ⟨⟨by omega, by omega, by omega⟩, by unfold MetaV.sz; omega⟩
theorem eof_tree : treeE [smA, smB, smC] = 0 := by decide +kernel
theorem eof_smz : ∀ x ∈ [smA, smB, smC], x.sz := fun x hx => nodE_sz (((treeE_zero _).1 eof_tree).2.node x hx)
theorem eof_nil {l : List NodeV} (h : treeE l = 0) : runE l [] = 0 ∧ runL l [] = l := by
 have e : runE l [] = 0 := by unfold runE; rw [if_pos h]; rfl
 refine ⟨e, ?_⟩
 rw [show runL l [] = selF l [] from if_pos e]
 exact sel_all [] (fun x hx => (((treeE_zero l).1 h).2.node x hx)) fun s _ => rfl
set_option maxHeartbeats 4000000 in
theorem entsOf_end (A0 : Option Addr) (n0 c0 : Nat) (rs0 : List RawV) (hn0 : rs0.length = n0) (hm0 : n0 ≤ 140737488355328) (hf0 : ∀ r ∈ rs0, r.wf) (m : Nat) (hm : m ≤ 40) (w : World) (hr0 : RawsAt w A0 rs0) :
  Calls Tryz.prog 18 #[.slice A0 n0 c0, .int .i64 m] w fun e w' => ∃ (l : List EntV) (T : Option Addr) (k d : Nat), e = .returned (.tuple #[.slice T k d, .bool true]) ∧ l.length = k ∧ SlOk T k d ∧ EntsAt w' T l ∧ k ≤ m ∧ entsE l = 0 ∧ (∀ x ∈ l, x.sz) ∧ (∀ x ∈ l, endOk x.path = true) ∧ Below w.heap.size w w' := by
 have HD := Lib.hid (drawn_any A0 n0 c0 rs0 hn0 hm0 hf0 m (by omega) w hr0)
 have HM := Lib.hid hm
 clear hn0 hf0 hr0 hm0 hm
 go_enter Tryz.func18, Tryz.ntmps18
 go_wp2_with fail
 refine HD.out.mono ?_; rintro e w1 ⟨l, T, k, d, rfl, hk, hperm, hS, hN, hkm, hSo, hsz, hB⟩
 have HEnd := Lib.hid (plan_ends fun x hx => drawn_end m rs0 x (hperm.mem_iff.1 hx))
 clear hperm
 have hm := HM.out
 have ht := sound_tree hSo (by omega)
 obtain ⟨e1, e2⟩ := eof_nil ht
 have hgood : entsE (planL l) = 0 := plan_good hSo (by omega)
 have hentz : ∀ x ∈ planL l, x.sz := fun x hx => eof_sz (ents_each hgood x hx)
 have hpl : (planL l).length = k := by rw [planL_len]; exact hk
 have HMk := Lib.hid (by
  have h := pMake_of T k d l hk hS hsz none 0 0 [] rfl (by omega) (fun q hq => by cases hq) (fun h => absurd rfl h) w1 hN (fun j hj => by cases hj)
  rw [e1, e2] at h
  exact h)
 have HSm := Lib.hid fun (g : Nat) (W : World) (hNs : NodesAt W (some ⟨g, 0, none⟩) [smA, smB, smC]) => by
  have h := pMake_of (some ⟨g, 0, none⟩) 3 3 [smA, smB, smC] rfl ⟨Nat.le_refl _, by decide, fun e => by cases e⟩ eof_smz none 0 0 [] rfl (by omega) (fun q hq => by cases hq) (fun h => absurd rfl h) W hNs (fun j hj => by cases hj)
  rw [(eof_nil eof_tree).1, (eof_nil eof_tree).2] at h
  exact h
 have HB1 := Lib.hid hB
 have HPL := Lib.hid hpl
 have HGd := Lib.hid hgood
 have HEz := Lib.hid hentz
 have HKM := Lib.hid hkm
 generalize planL l = P at *
 clear hB hN hk hS hSo hsz ht e1 e2 HD hgood hentz hpl hkm hm
 go_wp2_with fail
 refine HMk.out.mono ?_; rintro e w2 ⟨v, xs, rfl, hm, ho, hb⟩
 obtain ⟨Ax, cx, rfl, hsx, hNx⟩ := ho.at
 rw [hm] at hNx
 have hxl : xs.length = k := by rw [← HPL.out, ← hm, List.length_map]
 rw [hxl] at hsx ⊢
 have HN2 := Lib.hid hNx
 have HS2 := Lib.hid hsx
 have HX2 := Lib.hid hb
 clear hm ho hb hsx hNx hxl HMk
 go_wp2_with fail
 refine (small_any _).mono ?_; rintro e w4 ⟨g, rfl, hNs, hb⟩
 have H4 := Lib.hid (HSm.out g w4 hNs)
 have HX4 := Lib.hid (HX2.out.trans (hb.mono HX2.out.size))
 have HY4 := Lib.hid hb
 clear hNs hb HSm
 go_wp2_with fail
 refine H4.out.mono ?_; rintro e w5 ⟨v, zs, rfl, hm, ho, hb⟩
 obtain ⟨Az, cz, rfl, -, -⟩ := ho.at
 have hzl : zs.length = 3 := by
  have := congrArg List.length hm
  rw [List.length_map, planL_len] at this
  exact this
 rw [hzl]
 have HX5 := Lib.hid (HX4.out.trans (hb.mono HX4.out.size))
 have HY5 := Lib.hid (HY4.out.trans (hb.mono HY4.out.size))
 clear hm ho hb hzl H4 HY4
 go_wp2_with fail
 go_ret2
 exact ⟨P, Ax, k, cx, rfl, HPL.out, HS2.out, HN2.out.below HY5.out, HKM.out, HGd.out, HEz.out, HEnd.out, HB1.out.trans (HX5.out.mono HB1.out.size)⟩
theorem entsOf_any (A0 : Option Addr) (n0 c0 : Nat) (rs0 : List RawV) (hn0 : rs0.length = n0) (hm0 : n0 ≤ 140737488355328) (hf0 : ∀ r ∈ rs0, r.wf) (m : Nat) (hm : m ≤ 40) (w : World) (hr0 : RawsAt w A0 rs0) :
  Calls Tryz.prog 18 #[.slice A0 n0 c0, .int .i64 m] w fun e w' => ∃ (l : List EntV) (T : Option Addr) (k d : Nat), e = .returned (.tuple #[.slice T k d, .bool true]) ∧ l.length = k ∧ SlOk T k d ∧ EntsAt w' T l ∧ k ≤ m ∧ entsE l = 0 ∧ (∀ x ∈ l, x.sz) ∧ Below w.heap.size w w' :=
 (entsOf_end A0 n0 c0 rs0 hn0 hm0 hf0 m hm w hr0).mono fun e w' ⟨l, T, k, d, a1, a2, a3, a4, a5, a6, a7, _, a8⟩ => ⟨l, T, k, d, a1, a2, a3, a4, a5, a6, a7, a8⟩
end Go.Proofs.YtmejnabngfpbeaaGreatDoor
