/- Texts of one kind, in one file: PatL, Pat, GlqN, RulA. -/
import Derived.Test.YtoikpnjnljdpaaaGreatDoorFlb
import Derived.Test.YtoikpnjnljdpaaaGreatDoorArb
import Derived.Test.YtoikpnjnljdpaaaGreatDoorGlq
import Derived.Test.YtoikpnjnljdpaaaGreatDoorMth
import Derived.Test.YtoikpnjnljdpaaaGreatDoorGla
import Derived.Test.YtoikpnjnljdpaaaGreatDoorTrm
import Derived.Test.YtoikpnjnljdpaaaGreatDoorBas
import Derived.Deep.RegionHeld3
import Derived.BigQuiet
import Derived.Deep.DeepCutAuto
/- The patterns that are drawn. Nothing of the program. -/
set_option linter.unusedVariables false
namespace Go.Proofs.YtoikpnjnljdpaaaGreatDoor
open Go.RowKit
/-- the patterns that are drawn -/
def patsL : List (List UInt8) := [[97], [42, 42], [42], [97, 47, 42, 42], [42, 42, 47, 98], [63], [91, 97, 45, 98, 93], [91, 33, 97, 93, 42], [42, 42, 47, 42, 46, 116, 120, 116], [120, 42], [97, 98, 47, 42], [42, 42, 47, 110, 42]]
def ruleT (r : RawV) : RuleV := (decide (pick r.kind 2 = 0), patsL.getD (pick r.a 12).toNat [])
theorem ruleT_mem (r : RawV) : (ruleT r).2 ∈ patsL := by
  obtain ⟨h1, h2⟩ := pick_bd r.a 12 (by omega)
  have hl : patsL.length = 12 := rfl
  show patsL.getD (pick r.a 12).toNat [] ∈ patsL
  rw [List.getD_eq_getElem?_getD, List.getElem?_eq_getElem (by omega)]
  exact List.getElem_mem _
end Go.Proofs.YtoikpnjnljdpaaaGreatDoor
/- Plain mathematics of the patterns that are drawn, and of valid paths put together. Nothing of the program. -/
set_option linter.unusedVariables false
namespace Go.Proofs.YtoikpnjnljdpaaaGreatDoor
open Go.RowKit
/-- what is said of parts, by their pieces -/
def partsP : List (List UInt8) → Int
  | [] => 0
  | s :: l => if s = [] then 9 else if (pieceF s).isNone then 3 else partsP l
theorem partsP_eq (l : List (List UInt8)) : partsE l = partsP l := by
  induction l with
  | nil => rfl
  | cons s l ih =>
    rw [partsE_cons, partsP, ih, ← Option.not_isSome, pieceF_none, Option.not_isSome]
theorem pats_ok : ∀ p ∈ patsL, partsP (partsL 47 p) = 0 ∧ p ≠ [] ∧ p.length ≤ 9 := by decide +kernel
theorem partsE_app (a b : List (List UInt8)) (h : partsE a = 0) : partsE (a ++ b) = partsE b := by
  induction a with
  | nil => rfl
  | cons s a ih =>
    rw [partsE_cons] at h
    rw [List.cons_append, partsE_cons]
    by_cases h1 : s = []
    · rw [if_pos h1] at h; cases h
    · rw [if_neg h1] at h ⊢
      by_cases h2 : (tokL s).isNone = true
      · rw [if_pos h2] at h; cases h
      · rw [if_neg h2] at h ⊢; exact ih h
theorem globE_pat {p : List UInt8} (h : p ∈ patsL) : globE p = 0 := by
  obtain ⟨h1, h2, h3⟩ := pats_ok p h
  rw [globE_parts (by rintro (h4 | h4); exact h2 h4; omega), partsP_eq, h1]
theorem globE_pats {p q : List UInt8} (h : p ∈ patsL) (h' : q ∈ patsL) : globE (p ++ 47 :: q) = 0 := by
  obtain ⟨h1, h2, h3⟩ := pats_ok p h
  obtain ⟨k1, k2, k3⟩ := pats_ok q h'
  rw [globE_parts (by
    rintro (h4 | h4)
    · simp at h4
    · rw [List.length_append, List.length_cons] at h4; omega), partsL_app, partsE_app _ _ (by rw [partsP_eq, h1]), partsP_eq, k1]
theorem pathE_split {s : List UInt8} (h : pathE s = 0) : (1 ≤ s.length ∧ s.length ≤ 400) ∧ hasB 0 s = false ∧ (partsL 47 s).all nameB = true := by
  refine ⟨?_, ?_⟩
  · apply Classical.byContradiction
    intro hc
    rw [pathE_size (by omega)] at h; cases h
  · unfold pathE at h
    split at h
    · exact absurd h (by decide)
    · split at h
      · exact absurd h (by decide)
      · rename_i hh
        split at h
        · rename_i ha; exact ⟨by simpa using hh, ha⟩
        · exact absurd h (by decide)
theorem pathE_join {s t : List UInt8} (h : pathE s = 0) (h' : pathE t = 0) (hl : s.length + t.length < 400) : pathE (s ++ 47 :: t) = 0 := by
  obtain ⟨h1, h2, h3⟩ := pathE_split h
  obtain ⟨k1, k2, k3⟩ := pathE_split h'
  refine pathE_ok (by rw [List.length_append, List.length_cons]; omega) ?_ ?_
  · rw [hasB_append, h2, hasB_cons, k2]; rfl
  · rw [partsL_app, List.all_append, h3, k3]; rfl
end Go.Proofs.YtoikpnjnljdpaaaGreatDoor
/- Plain mathematics of drawn paths: each is a valid path of bytes that stand for themselves. Nothing of the program. -/
set_option linter.unusedVariables false
namespace Go.Proofs.YtoikpnjnljdpaaaGreatDoor
open Go.RowKit
def plainB (d : List UInt8) : Bool := d.all fun c => decide (c ≠ 42) && decide (c ≠ 63) && decide (c ≠ 91)
theorem plainB_iff (d : List UInt8) : plainB d = true ↔ ∀ c ∈ d, plainC c := by
  unfold plainB plainC
  rw [List.all_eq_true]
  constructor
  · intro h c hc
    have := h c hc
    simp only [Bool.and_eq_true, decide_eq_true_eq] at this
    exact ⟨this.1.1, this.1.2, this.2⟩
  · intro h c hc
    obtain ⟨h1, h2, h3⟩ := h c hc
    simp [h1, h2, h3]
theorem names_plain : ∀ x ∈ namesL, plainB x = true := by decide +kernel
theorem plainB_app (a b : List UInt8) : plainB (a ++ b) = (plainB a && plainB b) := by unfold plainB; rw [List.all_append]
theorem pathT_plain {ds : List (List UInt8)} (h : ∀ d ∈ ds, plainB d = true) (r : RawV) : plainB (pathT ds r) = true := by
  unfold pathT
  simp only
  have h1 : plainB (namesL.getD (pick r.a 11).toNat []) = true := names_plain _ (name_at r.a)
  have h2 : plainB (ds.getD (pick r.b ds.length).toNat []) = true := by
    rw [List.getD_eq_getElem?_getD]
    rcases e : ds[(pick r.b ds.length).toNat]? with _ | d
    · rfl
    · obtain ⟨hj, rfl⟩ := List.getElem?_eq_some_iff.1 e
      exact h _ (List.getElem_mem _)
  generalize ds.getD (pick r.b ds.length).toNat [] = d at h2
  rw [plainB_app, h1, Bool.and_true]
  split
  · rfl
  · rw [plainB_app, h2]; rfl
theorem stepT_plain {ns : List NodeV} {ds : List (List UInt8)} (h1 : ∀ n ∈ ns, plainB n.path = true) (h2 : ∀ d ∈ ds, plainB d = true) (m : Nat) (r : RawV) :
    (∀ n ∈ (stepT m (ns, ds) r).1, plainB n.path = true) ∧ ∀ d ∈ (stepT m (ns, ds) r).2, plainB d = true := by
  have hp := pathT_plain h2 r
  unfold stepT
  by_cases hm : m ≤ ns.length
  · rw [if_pos hm]; exact ⟨h1, h2⟩
  rw [if_neg hm]
  simp only
  by_cases hq : 400 < (pathT ds r).length ∨ (ns.any fun n => decide (n.path = pathT ds r)) = true
  · rw [if_pos hq]; exact ⟨h1, h2⟩
  rw [if_neg hq]
  have push : ∀ n : NodeV, n.path = pathT ds r → ∀ x ∈ ns ++ [n], plainB x.path = true := fun n hn x hx => by
    rcases List.mem_append.1 hx with a | a
    · exact h1 x a
    · obtain rfl : x = n := by simpa using a
      rw [hn]; exact hp
  split
  · refine ⟨push _ rfl, fun d hd => ?_⟩
    rcases List.mem_append.1 hd with a | a
    · exact h2 d a
    · obtain rfl : d = pathT ds r := by simpa using a
      exact hp
  · split
    · exact ⟨push _ rfl, h2⟩
    · split
      · cases hx : ns[(pick r.a (ns.length + 1)).toNat]? with
        | none => exact ⟨push _ rfl, h2⟩
        | some x =>
          obtain ⟨hj, rfl⟩ := List.getElem?_eq_some_iff.1 hx
          simp only
          split
          · refine ⟨fun y hy => ?_, h2⟩
            rcases List.mem_append.1 hy with a | a
            · rcases List.mem_or_eq_of_mem_set a with b | b
              · exact h1 y b
              · rw [b]
                have hh := h1 _ (List.getElem_mem hj)
                split <;> exact hh
            · obtain rfl : y = _ := by simpa using a
              exact hp
          · exact ⟨push _ rfl, h2⟩
      · exact ⟨push _ rfl, h2⟩
theorem treeS_plain (m : Nat) (rs : List RawV) : ∀ n ∈ (treeS m rs).1, plainB n.path = true := by
  unfold treeS
  suffices key : ∀ (st : List NodeV × List (List UInt8)), (∀ n ∈ st.1, plainB n.path = true) → (∀ d ∈ st.2, plainB d = true) → ∀ n ∈ (rs.foldl (stepT m) st).1, plainB n.path = true from key _ (fun n hn => by cases hn) (fun d hd => by simp at hd; subst hd; rfl)
  induction rs with
  | nil => intro st h _; exact h
  | cons r rs ih =>
    intro st h h2
    rw [List.foldl_cons]
    obtain ⟨a, b⟩ := stepT_plain h h2 m r
    exact ih _ a b
/-- what holds of every drawn path -/
theorem drawn_path {m : Nat} {rs : List RawV} {d : List UInt8} (h : d = [97] ∨ ∃ n ∈ (treeS m rs).1, n.path = d) : pathE d = 0 ∧ plainB d = true := by
  rcases h with rfl | ⟨n, hn, rfl⟩
  · exact ⟨by decide +kernel, rfl⟩
  · have h1 := (drawn_all m rs).node n hn
    refine ⟨?_, treeS_plain m rs n hn⟩
    apply Classical.byContradiction
    intro hc
    unfold nodE at h1
    first | (rw [if_neg hc] at h1; exact hc h1) | (rw [if_pos hc] at h1; exact hc h1) | (split at h1; exact hc h1; exact hc ‹_›)
/-- a path of bytes that stand for themselves is a valid pattern -/
theorem globE_path {d : List UInt8} (h : pathE d = 0) (hp : plainB d = true) : globE d = 0 := by
  have hl : 1 ≤ d.length ∧ d.length ≤ 400 := by
    apply Classical.byContradiction
    intro hc
    rw [pathE_size (by omega)] at h; cases h
  rw [globE_parts (by
    rintro (h2 | h2)
    · rw [h2] at hl; simp at hl
    · omega)]
  have hall : ∀ l ∈ partsL 47 d, nameB l = true := by
    unfold pathE at h
    split at h
    · exact absurd h (by decide)
    · split at h
      · exact absurd h (by decide)
      · split at h
        · rename_i ha; exact List.all_eq_true.1 ha
        · exact absurd h (by decide)
  have hpl : ∀ l ∈ partsL 47 d, ∀ c ∈ l, plainC c := fun l hl c hc => (plainB_iff d).1 hp c (partsL_bytes 47 d l hl c hc)
  generalize partsL 47 d = ls at hall hpl
  induction ls with
  | nil => rfl
  | cons s ls ih =>
    rw [partsE_cons, if_neg, if_neg]
    · exact ih (fun l hl => hall l (List.mem_cons_of_mem _ hl)) fun l hl => hpl l (List.mem_cons_of_mem _ hl)
    · rw [tokL_plain s (hpl s (List.mem_cons_self ..))]; simp
    · rintro rfl
      exact absurd (hall [] (List.mem_cons_self ..)) (by decide)
/-- a drawn path fits itself alone -/
theorem fits_drawn {m : Nat} {rs : List RawV} {d e : List UInt8} (hd : d = [97] ∨ ∃ n ∈ (treeS m rs).1, n.path = d) (he : e = [97] ∨ ∃ n ∈ (treeS m rs).1, n.path = e) : fitsE d e = 0 ∧ fitsB d e = decide (d = e) := by
  obtain ⟨h1, h2⟩ := drawn_path hd
  obtain ⟨h3, -⟩ := drawn_path he
  have h4 : fitsE d e = 0 := by unfold fitsE; rw [if_pos (globE_path h1 h2), h3]
  refine ⟨h4, ?_⟩
  unfold fitsB
  rw [h4, globF_plain d e ((plainB_iff d).1 h2)]; rfl
end Go.Proofs.YtoikpnjnljdpaaaGreatDoor
/- Drawn rules: creelkeep.Rules. -/
set_option linter.unusedVariables false
set_option maxRecDepth 100000
namespace Go.Proofs.YtoikpnjnljdpaaaGreatDoor
open Go.RowKit
open Go.OpenShut
/-- the raw thing's own block, nothing elder turned -/
def RuS (w : World) (gr : Nat) (cs : Array Value) (W : World) : Prop := Blk W gr 60 cs ∧ Below w.heap.size w W
theorem RuS.drew_ {w W : World} {gr : Nat} {cs : Array Value} (h : RuS w gr cs W) : RuS w gr cs W.drew := ⟨h.1.drew_, h.2.drew⟩
theorem RuS.alloc {w W : World} {gr : Nat} {cs : Array Value} (h : RuS w gr cs W) (o : Obj) : RuS w gr cs (W.alloc o) := ⟨h.1.alloc o, h.2.alloc h.2.size o⟩
theorem RuS.grown {w W W' : World} {gr : Nat} {cs : Array Value} {v : Value} {qs : List RuleV} (h : RuS w gr cs W) (ho : Rls W w.heap.size v qs) (hg : W.grownBy W' v.ownBlock) : RuS w gr cs W' := by
  refine ⟨h.1.grown hg ?_, h.2.grown hg h.2.size fun g0 e => (own_block ho g0 e).1⟩
  intro e
  obtain ⟨-, cur, hc⟩ := own_block ho gr e.symm
  have h1 := h.1
  unfold Blk at h1
  rw [hc] at h1
  injection h1 with h1
  injection h1 with _ ht
  exact absurd ht (by decide)
set_option maxHeartbeats 4000000 in
theorem Rules_any (m : Nat) (hm20 : m ≤ 1000) (A : Option Addr) (n c : Nat) (rs : List RawV) (hn : rs.length = n) (hn2 : n ≤ 140737488355328) (hwf : ∀ r ∈ rs, r.wf) (w : World) (hA : RawsAt w A rs) :
    Calls Tryz.prog 14 #[.slice A n c, .int .i64 (m : Nat)] w fun e w' => ∃ v, e = .returned v ∧ Rls w' w.heap.size v ((rs.take m).map ruleT) ∧ Below w.heap.size w w' := by
  have HN := Lib.hid hn
  have HWf := Lib.hid hwf
  obtain ⟨pc, hpc⟩ : ∃ pc : Array Value, pc = (strC patsL).toArray := ⟨_, rfl⟩
  have hpe : pc = #[.string ⟨#[97]⟩, .string ⟨#[42, 42]⟩, .string ⟨#[42]⟩, .string ⟨#[97, 47, 42, 42]⟩, .string ⟨#[42, 42, 47, 98]⟩, .string ⟨#[63]⟩, .string ⟨#[91, 97, 45, 98, 93]⟩, .string ⟨#[91, 33, 97, 93, 42]⟩, .string ⟨#[42, 42, 47, 42, 46, 116, 120, 116]⟩, .string ⟨#[120, 42]⟩, .string ⟨#[97, 98, 47, 42]⟩, .string ⟨#[42, 42, 47, 110, 42]⟩] := by rw [hpc]; rfl
  have HA := Lib.hid (hA.below ((Below.refl w.heap.size w).alloc (Nat.le_refl _) (.cells pc 9)))
  have HPB := Lib.hid (Blk.new w 9 pc)
  have HB0 := Lib.hid (belowA (Below.refl w.heap.size w) (.cells pc 9))
  have HPC := Lib.hid hpc
  have HPE := Lib.hid hpe
  clear hn hwf hA hpc hpe
  go_enter Tryz.func14, Tryz.ntmps14
  go_wp2_with fail
  rw [← HPE.out]
  obtain ⟨gp, hgp⟩ : ∃ gp, gp = w.heap.size := ⟨_, rfl⟩
  rw [← hgp] at HPB ⊢
  generalize w.alloc (.cells pc 9) = w1 at HA HPB HB0 ⊢
  clear hgp HPE
  go_loopw [5, 12] (fun ov i wr => ∃ (k : Nat), i = .int .i64 k ∧ k ≤ n ∧ Hid (Rls wr w1.heap.size ov (((rs.take k).take m).map ruleT)) ∧ Hid (Below w1.heap.size w1 wr)) (fun _ i _ => n - (intOf i).toNat)
  case atStart => exact ⟨0, rfl, Nat.zero_le _, (by unfold Hid; rw [List.take_zero, List.take_nil]; exact Rls.nil _ _), Below.refl _ _⟩
  case round =>
    obtain ⟨k, rfl, hk, HO, HB⟩ := hrel
    obtain ⟨v0, hv0⟩ : ∃ v0, v0 = u5 := ⟨_, rfl⟩
    subst hv0
    by_cases hlt : k < n
    · have hkr : k < rs.length := by rw [HN.out]; exact hlt
      obtain ⟨b, o, rfl, hraw⟩ := HA.out.below HB.out k hkr
      obtain ⟨r, Hr⟩ := hid_name rs[k]
      rw [Hr.out] at hraw
      obtain ⟨e0, e1, e2, e3⟩ := raw_four hraw
      have hrwf := HWf.out r (by rw [← Hr.out]; exact List.getElem_mem _)
      have htk : rs.take (k + 1) = rs.take k ++ [r] := by rw [List.take_succ_eq_append_getElem hkr, Hr.out]
      clear hraw
      by_cases h6 : k < m
      · have hsn : ((rs.take (k + 1)).take m).map ruleT = ((rs.take k).take m).map ruleT ++ [ruleT r] := by
          rw [List.take_take, List.take_take, Nat.min_eq_right (by omega), Nat.min_eq_right (by omega), htk, List.map_append]; rfl
        have hln : (((rs.take k).take m).map ruleT).length = k := by
          rw [List.length_map, List.length_take, List.length_take]; omega
        have HSN := Lib.hid hsn
        have HLn := Lib.hid hln
        obtain ⟨kind, ra, rb, text⟩ := r
        obtain ⟨hkd, hra, hrb, ht⟩ := hrwf
        simp only at hkd hra hrb ht e0 e1 e2 e3
        obtain ⟨q1, q2⟩ := pick_bd ra 12 (by omega)
        obtain ⟨x, hx⟩ : ∃ x : Nat, pick ra 12 = x := ⟨(pick ra 12).toNat, by omega⟩
        have HPa : Hid (∀ W, Calls Tryz.prog 24 #[.int .i64 ra, .int .i64 12] W fun e w' => e = .returned (.int .i64 (x : Int)) ∧ w' = W) := fun W => by
          have := picked_any ra 12 W hra (by omega)
          rw [hx] at this
          exact flip_same this
        have HPk : Hid (∀ W, Calls Tryz.prog 24 #[.int .i64 kind, .int .i64 2] W fun e w' => e = .returned (.int .i64 (pick kind 2)) ∧ w' = W) := fun W => flip_same (picked_any kind 2 W hkd (by omega))
        have hrt : ruleT ⟨kind, ra, rb, text⟩ = ((pick kind 2 == 0), patsL.getD x []) := by
          unfold ruleT
          simp only
          rw [hx, Int.toNat_natCast]; rfl
        obtain ⟨y0, hy0⟩ : ∃ y0, pick kind 2 = y0 := ⟨_, rfl⟩
        rw [hy0] at HPk hrt
        obtain ⟨b0, hb0⟩ : ∃ b0 : Bool, (y0 == 0) = b0 := ⟨_, rfl⟩
        rw [hb0] at hrt
        clear hy0
        have hx12 : x < 12 := by omega
        have hpx : (strC patsL)[x]? = some (strV (patsL.getD x [])) := strC_get _ _ (by show x < 12; omega)
        obtain ⟨P, HP⟩ := hid_name (⟨(patsL.getD x []).toArray⟩ : ByteArray)
        have hpx2 : pc[x]? = some (.string P) := by
          rw [HPC.out, List.getElem?_toArray, hpx]
          unfold strV; rw [HP.out]
        have hgpl : gp < w1.heap.size := HPB.out.lt
        have HBX := Lib.hid (Blk.new wr 60 #[.int .i64 kind, .int .i64 ra, .int .i64 rb, .string text])
        have HO1 := Lib.hid (HO.out.below ((Below.refl wr.heap.size wr).alloc (Nat.le_refl _) (.cells #[.int .i64 kind, .int .i64 ra, .int .i64 rb, .string text] 60)))
        have HB1 := Lib.hid (HB.out.alloc HB.out.size (.cells #[.int .i64 kind, .int .i64 ra, .int .i64 rb, .string text] 60))
        have HRt := Lib.hid hrt
        have h12 : (x : Int) < 12 := by omega
        have h10 : (0 : Int) ≤ (x : Int) := by omega
        clear hkd hra hrb ht q1 q2 hx hrt hpx hsn hln htk
        go_upto_region 7 with fail
        obtain ⟨gr, Hgr⟩ := hid_name wr.heap.size
        obtain ⟨wr1, Hw1⟩ := hid_name (wr.alloc (.cells #[.int .i64 kind, .int .i64 ra, .int .i64 rb, .string text] 60))
        rw [Hgr.out, Hw1.out] at HBX
        rw [Hw1.out] at HO1 HB1
        rw [Hgr.out, Hw1.out]
        clear e0 e1 e2 e3
        have hS0 : RuS w1 gr #[.int .i64 kind, .int .i64 ra, .int .i64 rb, .string text] wr1 := ⟨HBX.out, HB1.out⟩
        have r0 : ∀ W : World, RuS w1 gr #[.int .i64 kind, .int .i64 ra, .int .i64 rb, .string text] W → W.cell? ⟨gr, 0, none⟩ = some (.int .i64 kind) := fun W h => (blk4 h.1).1
        have r1 : ∀ W : World, RuS w1 gr #[.int .i64 kind, .int .i64 ra, .int .i64 rb, .string text] W → W.cell? ⟨gr, 1, none⟩ = some (.int .i64 ra) := fun W h => (blk4 h.1).2.1
        have r2 : ∀ W : World, RuS w1 gr #[.int .i64 kind, .int .i64 ra, .int .i64 rb, .string text] W → W.cell? ⟨gp, x, none⟩ = some (.string P) := fun W h => by rw [(HPB.out.below h.2 hgpl).cell, hpx2]
        have hS1 : RuS w1 gr #[.int .i64 kind, .int .i64 ra, .int .i64 rb, .string text] (wr1.alloc (.cells #[.bool b0, .string P] 39)).drew := RuS.drew_ (hS0.alloc _)
        have hOV : Rls (wr1.alloc (.cells #[.bool b0, .string P] 39)).drew w1.heap.size v0 (((rs.take k).take m).map ruleT) := Rls.alloc (w := wr1) HO1.out _
        have hsV : w1.heap.size ≤ (wr1.alloc (.cells #[.bool b0, .string P] 39)).drew.heap.size := hS1.2.size
        have hcl : (wr1.alloc (.cells #[.bool b0, .string P] 39)).drew.cell? ⟨wr1.heap.size, 0, none⟩ = some (.bool b0) ∧ (wr1.alloc (.cells #[.bool b0, .string P] 39)).drew.cell? ⟨wr1.heap.size, 1, none⟩ = some (strV (patsL.getD x [])) := by
          have hbk := Blk.new wr1 39 #[.bool b0, .string P]
          refine ⟨hbk.cell 0, ?_⟩
          unfold strV
          rw [HP.out]; exact hbk.cell 1
        have hbig : (((rs.take k).take m).map ruleT).length ≤ 1000000 := by rw [HLn.out]; omega
        clear hpx2
        go_region_held3 (fun W => RuS w1 gr #[.int .i64 kind, .int .i64 ra, .int .i64 rb, .string text] W)
          (first
            | (with_reducible assumption)
            | (with_reducible refine RuS.drew_ ?_; with_reducible assumption)
            | (with_reducible refine RuS.alloc ?_ _; with_reducible assumption)
            | (with_reducible exact hS1))
          (first
            | (refine step_append_rule rfl (.tmp 20) (.tmp 34) rfl w1.heap.size v0 _ rfl hOV wr1.heap.size 1 (b0, patsL.getD x []) rfl hcl hbig hsV ?_;
               intro v6 w6 hown1 hgrow1; have hS6 := RuS.grown hS1 hOV hgrow1)
            | (go_at_call 24; with_reducible refine (HPk.out _).mono ?_; rintro e w' ⟨rfl, rfl⟩)
            | (go_at_call 24; with_reducible refine (HPa.out _).mono ?_; rintro e w' ⟨rfl, rfl⟩))
        have HO6 : Hid (Rls w6 w1.heap.size v6 (((rs.take (k + 1)).take m).map ruleT)) := by
          unfold Hid
          rw [HSN.out, HRt.out]; exact hown1
        have HB6 := Lib.hid hS6.2
        clear hown1 hgrow1 hS6 hS1 hOV hsV hcl hbig r0 r1 r2 hS0
        go_wp2_with fail
        go_roundw
        case rel => exact ⟨k + 1, by go_num, by omega, HO6.out, HB6.out⟩
        case measure => simp [intOf]; omega
      · have hsn : ((rs.take (k + 1)).take m).map ruleT = ((rs.take k).take m).map ruleT := by
          rw [List.take_take, List.take_take, Nat.min_eq_left (by omega), Nat.min_eq_left (by omega)]
        have HO1 : Hid (Rls (wr.alloc (.cells (rawC r).toArray 60)) w1.heap.size v0 (((rs.take (k + 1)).take m).map ruleT)) := by
          unfold Hid; rw [hsn]; exact HO.out.below ((Below.refl wr.heap.size wr).alloc (Nat.le_refl _) _)
        have HB1 := Lib.hid (HB.out.alloc HB.out.size (.cells (rawC r).toArray 60))
        unfold rawC at HO1 HB1
        clear hrwf hsn htk
        go_wp2_with fail
        go_roundw
        case rel => exact ⟨k + 1, by go_num, by omega, HO1.out, HB1.out⟩
        case measure => simp [intOf]; omega
    · obtain rfl : k = n := by omega
      have hX : rs.take k = rs := List.take_of_length_le (by rw [HN.out]; omega)
      rw [hX] at HO
      clear hX
      have HOw := Lib.hid (own_mono HO.out HB0.out.size)
      go_wp2_with fail
      go_ret
      exact ⟨v0, rfl, HOw.out, HB0.out.trans (HB.out.mono HB0.out.size)⟩
end Go.Proofs.YtoikpnjnljdpaaaGreatDoor
