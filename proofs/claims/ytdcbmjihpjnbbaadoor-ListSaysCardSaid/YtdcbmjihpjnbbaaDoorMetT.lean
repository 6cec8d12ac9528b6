/- Package meta: the text of a mode. -/
import Derived.Test.YtdcbmjihpjnbbaaDoorMth
import Derived.Test.YtdcbmjihpjnbbaaDoorMet
import Derived.Test.YtdcbmjihpjnbbaaDoorBas
import Derived.Test.YtdcbmjihpjnbbaaDoorVar
import Derived.Lib.LaidTab
import Derived.StillTailTactics
import Derived.Deep.RegionHeld3
import Derived.Deep.DrawnRows
import Derived.Deep.DeepCutAuto
import Derived.Deep.QuietTactic
import Derived.BigQuiet
import Derived.MakeChecks
set_option linter.unusedVariables false
set_option maxRecDepth 100000
namespace Go.Proofs.YtdcbmjihpjnbbaaDoor
open Go.RowKit
open Go.OpenShut
def thirdL : List (List UInt8) := [[45, 120, 83, 115], [45, 120, 83, 115], [45, 120, 84, 116]]
/-- the table of third signs -/
def Thirds (w : World) : Prop := w.var? Tryd.prog "creel/meta.thirds" = some #[.string (bs [45, 120, 83, 115]), .string (bs [45, 120, 83, 115]), .string (bs [45, 120, 84, 116])]
theorem strs_of_tab {H : Type} {enc : TypeId × Value → H} {P : Program} {w : World} {base : Nat} {sp : Nat → Bool} {held : Bool} {fuel : Nat} {t e : TypeId} {n : Nat} {cs : List Value} {zs : List (List UInt8)} {p : List MemPlace}
    (ht : P.underlying t = some (.array n e)) (he : P.underlying e = some .string) (hce : P.cellsOf e = 1) (hct : P.cellsOf t = n)
    (h : DataW.trod enc P w base sp held fuel t cs = some (.agg (zs.map fun z => .lit (.string z)), p)) : cs = zs.map fun z => Value.string (bs z) := by
  cases fuel with
  | zero => simp [DataW.trod] at h
  | succ fuel =>
    simp only [DataW.trod, ht, hce, hct, Nat.mul_one] at h
    split at h
    · rename_i hl
      obtain ⟨xs, hm, hx⟩ := Option.map_eq_some_iff.1 h
      have hxs : xs.map (·.1) = zs.map fun z => (DataW.lit (.string z) : DataW H) := by
        have := congrArg Prod.fst hx
        simpa using this
      have hxl : xs.length = n := by simpa using Lib.mapM_length hm
      have hzl : zs.length = n := by
        have := congrArg List.length hxs
        simp at this
        omega
      apply List.ext_getElem?
      intro i
      by_cases hi : i < n
      · obtain ⟨b, hb, hf⟩ := Lib.mapM_at hm i i (by simp [hi])
        obtain ⟨z, hc, hbz, _⟩ := DataW.trod_string he hf
        have h1 : cs[i]? = some (.string z) := by
          have := congrArg (·[0]?) hc
          simpa [List.getElem?_take, List.getElem?_drop] using this
        have h2 : (xs.map (·.1))[i]? = some (DataW.lit (.string z.data.toList) : DataW H) := by simp [hb, hbz]
        rw [hxs] at h2
        simp only [List.getElem?_map, Option.map_eq_some_iff, DataW.lit.injEq, Lit.string.injEq] at h2
        obtain ⟨z', hz', he'⟩ := h2
        rw [h1, List.getElem?_map, hz', Option.map_some, he', bs_of]
      · rw [List.getElem?_eq_none (by omega), List.getElem?_eq_none (by simp; omega)]
    · cases h
theorem gThirds_is : Tryd.prog.globalNamed "creel/meta.thirds" = some 0 := by kernel_rfl
theorem Thirds.below {w w' : World} (h : Thirds w) (hb : Below w.heap.size w w') : Thirds w' := var_below gThirds_is h hb
theorem Thirds.cells {w : World} (h : Thirds w) : w.cell? ⟨0, 0, none⟩ = some (.string (bs [45, 120, 83, 115])) ∧ w.cell? ⟨0, 1, none⟩ = some (.string (bs [45, 120, 83, 115])) ∧ w.cell? ⟨0, 2, none⟩ = some (.string (bs [45, 120, 84, 116])) :=
  ⟨by simpa using World.var?_cell gThirds_is h 0, by simpa using World.var?_cell gThirds_is h 1, by simpa using World.var?_cell gThirds_is h 2⟩
theorem third_0 (W : World) (a b c : ByteArray) : (Instr.index 60 (.agg #[.string a, .string b, .string c]) (.int .i64 0)).run Tryd.prog W = .ok (.string a) W := by kernel_rfl
theorem third_1 (W : World) (a b c : ByteArray) : (Instr.index 60 (.agg #[.string a, .string b, .string c]) (.int .i64 1)).run Tryd.prog W = .ok (.string b) W := by kernel_rfl
theorem third_2 (W : World) (a b c : ByteArray) : (Instr.index 60 (.agg #[.string a, .string b, .string c]) (.int .i64 2)).run Tryd.prog W = .ok (.string c) W := by kernel_rfl
theorem bits_one (x : Int) : bits .and .i64 x 1 = x % 2 := by
  have h127 : (BitVec.ofInt 64 1).toNat = 2 ^ 1 - 1 := by decide
  have key : (BitVec.ofInt 64 x &&& BitVec.ofInt 64 1).toNat = (x % ((2 ^ 64 : Nat) : Int)).toNat % 2 ^ 1 := by
    rw [BitVec.toNat_and, BitVec.toNat_ofInt, h127, Nat.and_two_pow_sub_one_eq_mod]
  show IntKind.i64.wrap ((BitVec.ofInt 64 x &&& BitVec.ofInt 64 1).toNat : Nat) = x % 2
  rw [key, IntKind.wrap_i64]
  omega
/-- an empty row of bytes with room for n -/
theorem made_room (w : World) (n : Nat) (hn : n ≤ 140737488355328) (i0 : TypeInfo) (hi : Tryd.prog.info? 5 = some i0) (hz0 : i0.zero = some (.int .u8 0)) (hz1 : i0.size = 1) (hz2 : i0.bytes = 1) :
    ∃ M : Array Value, (∀ W : World, (Instr.makeSlice 28 (.int .i64 0) (.int .i64 (n : Int))).run Tryd.prog W = .ok (.slice (some ⟨W.heap.size, 0, none⟩) 0 n) (W.alloc (.cells M 5))) ∧
      ∀ (W : World) (B : Nat), B ≤ W.heap.size → OwnB (W.alloc (.cells M 5)) B (.slice (some ⟨W.heap.size, 0, none⟩) 0 n) [] := by
  obtain ⟨M, hM⟩ : ∃ M, M = madeCells (Value.int .u8 0).cells (((n : Nat) : Int).toNat * i0.size) := ⟨_, rfl⟩
  have hMl : M.toList = bCells (List.replicate n 0) := by rw [hM, hz1, Nat.mul_one, Int.toNat_natCast, ← made_zeros]; rfl
  have hMs : M.size = n := by rw [← Array.length_toList, hMl]; simp
  refine ⟨M, fun W => ?_, fun W B hB => ?_⟩
  · have h := run_make (P := Tryd.prog) W 28 5 i0 (.int .u8 0) Tryd.underlying28 hi hz0 .i64 .i64 0 (n : Int) (by omega) (by omega) (by rw [hz2]; omega) (by omega)
    rw [← hM] at h
    simpa using h
  · exact ⟨rfl, .inr ⟨W.heap.size, n, M, rfl, hB, heap_alloc_new W _, Nat.zero_le _, by unfold maxLen; omega, by rw [hMs, Nat.mul_one], rfl⟩⟩
def mdA (n : Nat) : List UInt8 := md3 (n / 64 % 8) (n / 2048 % 2) false
def mdBb (n : Nat) : List UInt8 := md3 (n / 8 % 8) (n / 1024 % 2) false
def mdC (n : Nat) : List UInt8 := md3 (n % 8) (n / 512 % 2) true
theorem mdL_eq' (n : Nat) : mdL n = mdA n ++ mdBb n ++ md3 (n % 8) (n / 512 % 2) true := rfl
theorem byts_new3 (W : World) (g : Nat) (hg : g = W.heap.size) (c1 c2 c3 : UInt8) : BytsAt (W.alloc (.cells #[.int .u8 (c1.toNat : Int), .int .u8 (c2.toNat : Int), .int .u8 (c3.toNat : Int)] 5)) (some ⟨g, 0, none⟩) [c1, c2, c3] := by
  subst hg
  intro j hj
  refine ⟨W.heap.size, 0, rfl, ?_⟩
  have hb := Blk.new W 5 #[.int .u8 (c1.toNat : Int), .int .u8 (c2.toNat : Int), .int .u8 (c3.toNat : Int)]
  rw [Nat.zero_add, hb.cell j]
  match j, hj with
  | 0, _ => rfl
  | 1, _ => rfl
  | 2, _ => rfl
/-- append of bytes to a row of the call's own, at a step of a region that draws its order -/
theorem step_append_byts {w : World} {ops : Array Oper} {o : Oper} {a : Act} {K : Act → World → Prop} {Q : Exit → Act → World → Prop} {E : Prop} (hgd : o.guard = none) (s x : Operand)
    (ho : o.op = .call { callee := .builtin .append, args := #[s, x], argTypes := #[28, 28] }) (B : Nat) (v : Value) (l0 : List UInt8) (hs : a.eval s = v) (hown : OwnB w B v l0)
    (ad : Addr) (m c : Nat) (l : List UInt8) (hx : a.eval x = .slice (some ad) m c) (hl : l.length = m) (hA : BytsAt w (some ad) l) (hbig : l0.length + m ≤ 140737488355328) (hB : B ≤ w.heap.size)
    (h : ∀ v' w', OwnB w' B v' (l0 ++ l) → (∀ w0, Below B w0 w → Below B w0 w') → K (a.put o.dst v') w') :
    if Region.wanted o (yielded ops a.tmps) = true then Oper.wp Tryd.prog o a w K Q else E := by
  have hw : Region.wanted o (yielded ops a.tmps) = true := by simp [Region.wanted, hgd]
  rw [if_pos hw]
  obtain ⟨i0, hi, hz0, hz1, hz2⟩ := info_parts oinfo_u8
  unfold OwnB at hown
  obtain ⟨v6, w6, hrun, hown6, hgrow, _, h5⟩ := run_append_own_at (P := Tryd.prog) w B 28 o.type 5 i0 _ 1 1 Tryd.underlying28 hi hz0 hz1 hz2 rfl (by decide) _ _ _ hown ad m c (bCells l) (by rw [bCells_length, hl, Nat.mul_one]) hA.news (bCells_one _) (by unfold maxLen; omega) (by omega) hB
  unfold Oper.wp execOp
  simp only [ho, resolve, invoke, builtin, Sem.run_bind, Sem.run_pure, Result.andThen_ok, List.map_toArray, List.map_cons, List.map_nil, hs, hx, hrun]
  exact h v6 w6 (by unfold OwnB; rw [bCells_append, List.length_append, hl]; exact hown6) (fun w0 hb => hb.grown hgrow hB (fun g e => (World.ownsRow.lt hown g e).1))
theorem round_gen (r w x u : Int) (t : Bool) (hr : r = 0 ∨ r = 1) (hw : w = 0 ∨ w = 1) (hx : x = 0 ∨ x = 1) (hu : u = 0 ∨ u = 1) :
    ∃ (U Q : Int) (c1 c2 c3 : UInt8), IntKind.i64.wrap (2 * u) = U ∧ IntKind.i64.wrap (U + x) = Q ∧
      (∀ W : World, (Instr.index 9 (.string ⟨#[45, 114]⟩) (.int .i64 r)).run Tryd.prog W = .ok (.int .u8 (c1.toNat : Int)) W) ∧
      (∀ W : World, (Instr.index 9 (.string ⟨#[45, 119]⟩) (.int .i64 w)).run Tryd.prog W = .ok (.int .u8 (c2.toNat : Int)) W) ∧
      (∀ W : World, (Instr.index 9 (.string (bs [45, 120, if t = true then 84 else 83, if t = true then 116 else 115])) (.int .i64 Q)).run Tryd.prog W = .ok (.int .u8 (c3.toNat : Int)) W) ∧
      [c1, c2, c3] = md3 (4 * r + 2 * w + x).toNat u.toNat t := by
  refine ⟨2 * u, 2 * u + x, if r = 1 then 114 else 45, if w = 1 then 119 else 45, if u = 1 then (if t = true then (if x = 1 then 116 else 84) else (if x = 1 then 115 else 83)) else (if x = 1 then 120 else 45), ?_, ?_, ?_, ?_, ?_, ?_⟩
  · rw [IntKind.wrap_i64]; omega
  · rw [IntKind.wrap_i64]; omega
  · rcases hr with rfl | rfl <;> (intro W; kernel_rfl)
  · rcases hw with rfl | rfl <;> (intro W; kernel_rfl)
  · rcases hx with rfl | rfl <;> rcases hu with rfl | rfl <;> cases t <;> (intro W; kernel_rfl)
  · rcases hr with rfl | rfl <;> rcases hw with rfl | rfl <;> rcases hx with rfl | rfl <;> rcases hu with rfl | rfl <;> cases t <;> decide
theorem round_at (n a b c d : Nat) (s : Nat) (t : Bool) (ha : n / a % 2 = n / s % 8 / 4) (hb : n / b % 2 = n / s % 8 / 2 % 2) (hc : n / c % 2 = n / s % 8 % 2) :
    ∃ (r w x u U Q : Int) (c1 c2 c3 : UInt8), bits .and .i64 ((n : Int) / (a : Int)) 1 = r ∧ bits .and .i64 ((n : Int) / (b : Int)) 1 = w ∧ bits .and .i64 ((n : Int) / (c : Int)) 1 = x ∧ bits .and .i64 ((n : Int) / (d : Int)) 1 = u ∧ IntKind.i64.wrap (2 * u) = U ∧ IntKind.i64.wrap (U + x) = Q ∧
      (∀ W : World, (Instr.index 9 (.string ⟨#[45, 114]⟩) (.int .i64 r)).run Tryd.prog W = .ok (.int .u8 (c1.toNat : Int)) W) ∧
      (∀ W : World, (Instr.index 9 (.string ⟨#[45, 119]⟩) (.int .i64 w)).run Tryd.prog W = .ok (.int .u8 (c2.toNat : Int)) W) ∧
      (∀ W : World, (Instr.index 9 (.string (bs [45, 120, if t = true then 84 else 83, if t = true then 116 else 115])) (.int .i64 Q)).run Tryd.prog W = .ok (.int .u8 (c3.toNat : Int)) W) ∧
      [c1, c2, c3] = md3 (n / s % 8) (n / d % 2) t := by
  have bb : ∀ k : Nat, bits .and .i64 ((n : Int) / (k : Int)) 1 = ((n / k % 2 : Nat) : Int) := fun k => by rw [bits_one]; rfl
  have two : ∀ k : Nat, ((n / k % 2 : Nat) : Int) = 0 ∨ ((n / k % 2 : Nat) : Int) = 1 := fun k => by omega
  obtain ⟨U, Q, c1, c2, c3, h1, h2, h3, h4, h5, h6⟩ := round_gen _ _ _ _ t (two a) (two b) (two c) (two d)
  refine ⟨_, _, _, _, U, Q, c1, c2, c3, bb a, bb b, bb c, bb d, h1, h2, h3, h4, h5, ?_⟩
  rw [h6]
  congr 1
  omega
theorem Text_no (n : Int) (w : World) (h : mdB n = false) : Calls Tryd.prog 17 #[.int .i64 n] w fun e w' => e = .returned (.tuple #[.string ⟨#[]⟩, .int .i64 4]) ∧ w = w' := by
  have HI := Lib.hid (isMode_any n w)
  rw [h] at HI
  clear h
  go_enter Tryd.func17, Tryd.ntmps17
  go_wp2_with fail
  refine HI.out.mono ?_; rintro e w' ⟨rfl, rfl⟩
  go_wp2_with fail
  go_ret2
  exact ⟨rfl, rfl⟩
set_option maxHeartbeats 2000000 in
theorem Text_yes (n : Nat) (w : World) (T : Thirds w) (h : n < 4096) : Calls Tryd.prog 17 #[.int .i64 (n : Int)] w fun e w' => e = .returned (.tuple #[.string (bs (mdL n)), .int .i64 0]) ∧ Below w.heap.size w w' := by
  obtain ⟨i0, hi, hz0, hz1, hz2⟩ := info_parts oinfo_u8
  have HI := Lib.hid (isMode_any (n : Int) w)
  rw [mdB_yes ⟨by omega, by omega⟩] at HI
  obtain ⟨M, hmk, hown⟩ := made_room w 9 (by decide) i0 hi hz0 hz1 hz2
  simp only [show ((9 : Nat) : Int) = 9 from rfl] at hmk
  have HO := Lib.hid (hown w w.heap.size (Nat.le_refl _))
  have HB : Hid (Below w.heap.size w (w.alloc (.cells M 5))) := (Below.refl _ _).alloc (Nat.le_refl _) _
  obtain ⟨c0, c1, c2⟩ := (Thirds.below T HB.out).cells
  clear hown
  go_enter Tryd.func17, Tryd.ntmps17
  go_wp2_with fail
  refine HI.out.mono ?_; rintro e w' ⟨rfl, rfl⟩
  go_wp2_with fail
  go_loopw [4, 16] (fun ov i wr => Hid (Below w.heap.size w wr) ∧ (i = .int .i64 0 ∧ Hid (OwnB wr w.heap.size ov []) ∨ i = .int .i64 1 ∧ Hid (OwnB wr w.heap.size ov (mdA n)) ∨ i = .int .i64 2 ∧ Hid (OwnB wr w.heap.size ov (mdA n ++ mdBb n)) ∨ i = .int .i64 3 ∧ Hid (OwnB wr w.heap.size ov (mdL n)))) (fun _ i _ => 3 - (intOf i).toNat)
  case atStart => exact ⟨HB, .inl ⟨rfl, HO⟩⟩
  case round =>
    obtain ⟨HB2, hd⟩ := hrel
    rcases hd with ⟨rfl, HO2⟩ | ⟨rfl, HO2⟩ | ⟨rfl, HO2⟩ | ⟨rfl, HO2⟩
    · obtain ⟨r, x, y, u, U, Q, d1, d2, d3, f1, f2, f3, f4, f5, f6, x1, x2, x3, he⟩ := round_at n 256 128 64 2048 64 false (by omega) (by omega) (by omega)
      simp only [show ((256 : Nat) : Int) = 256 from rfl, show ((128 : Nat) : Int) = 128 from rfl, show ((64 : Nat) : Int) = 64 from rfl, show ((2048 : Nat) : Int) = 2048 from rfl] at f1 f2 f3 f4
      have X3 : ∀ W : World, (Instr.index 9 (.string (bs [45, 120, 83, 115])) (.int .i64 Q)).run Tryd.prog W = .ok (.int .u8 (d3.toNat : Int)) W := x3
      have HE : Hid ([d1, d2, d3] = mdA n) := Lib.hid he
      clear x3 he
      have t0 := fun W => third_0 W (bs [45, 120, 83, 115]) (bs [45, 120, 83, 115]) (bs [45, 120, 84, 116])
      go_upto_region 7 with fail
      go_quiet (fail)
      go_upto_region 9 with fail
      obtain ⟨W0, HW0⟩ := hid_name (wr.drewN nq)
      have HO3 := Lib.hid (HO2.out.drewN (n := nq))
      have hS0 : Below w.heap.size w (wr.drewN nq) := below_drewN HB2.out _
      rw [HW0.out] at HO3 hS0
      rw [HW0.out]
      have HO4 := Lib.hid (HO3.out.drew.alloc (.cells #[.int .u8 (d1.toNat : Int), .int .u8 (d2.toNat : Int), .int .u8 (d3.toNat : Int)] 5))
      have HB4 := Lib.hid (belowA hS0.drew (.cells #[.int .u8 (d1.toNat : Int), .int .u8 (d2.toNat : Int), .int .u8 (d3.toNat : Int)] 5))
      have HN4 := Lib.hid (byts_new3 W0.drew W0.drew.heap.size rfl d1 d2 d3)
      have hS1 := hS0.drew
      clear f1 f2 f3 f4 t0 hS0 HB2 HO2 HW0
      refine wp_region_noPanic ?_
      refine wp_region_held_drew (S := fun W => Below w.heap.size w W) (by kernel_rfl) hS1 (fun hHeld => ?_)
      refine wpAnyH_take (i := 0) (v := ?_) rfl (by kernel_rfl) (by kernel_rfl) (by kernel_rfl) (fun _ _ _ h => h) (Or.inl ⟨by rfl, ?_⟩) hS1 ?_
      rotate_left
      · intro W hSw; (try dsimp only at hSw); go_simp; try with_reducible rfl
      try simp only [Act.put]
      refine wpAnyH_take (i := 1) (v := ?_) rfl (by kernel_rfl) (by kernel_rfl) (by kernel_rfl) (fun _ _ _ h => h) (Or.inl ⟨by rfl, ?_⟩) hS1 ?_
      rotate_left
      · intro W hSw; (try dsimp only at hSw); go_simp; try with_reducible rfl
      try simp only [Act.put]
      refine wpAnyH_take (i := 2) (v := ?_) rfl (by kernel_rfl) (by kernel_rfl) (by kernel_rfl) (fun _ _ _ h => h) (Or.inl ⟨by rfl, ?_⟩) hS1 ?_
      rotate_left
      · intro W hSw; (try dsimp only at hSw); go_simp; try with_reducible rfl
      try simp only [Act.put]
      refine wpAnyH_take (i := 3) (v := ?_) rfl (by kernel_rfl) (by kernel_rfl) (by kernel_rfl) (fun _ _ _ h => h) (Or.inl ⟨by rfl, ?_⟩) hS1 ?_
      rotate_left
      · intro W hSw; (try dsimp only at hSw); go_simp; try with_reducible rfl
      try simp only [Act.put]
      refine wpAnyH_take (i := 4) (v := ?_) rfl (by kernel_rfl) (by kernel_rfl) (by kernel_rfl) (fun _ _ _ h => h) (Or.inl ⟨by rfl, ?_⟩) hS1 ?_
      rotate_left
      · intro W hSw; (try dsimp only at hSw); go_simp; try with_reducible rfl
      try simp only [Act.put]
      refine wpAnyH_take (i := 5) (v := ?_) rfl (by kernel_rfl) (by kernel_rfl) (by kernel_rfl) (fun _ _ _ h => h) (Or.inl ⟨by rfl, ?_⟩) hS1 ?_
      rotate_left
      · intro W hSw; (try dsimp only at hSw); go_simp; try with_reducible rfl
      try simp only [Act.put]
      refine wpAnyH_take (i := 6) (v := ?_) rfl (by kernel_rfl) (by kernel_rfl) (by kernel_rfl) (fun _ _ _ h => h) (Or.inl ⟨by rfl, ?_⟩) hS1 ?_
      rotate_left
      · intro W hSw; (try dsimp only at hSw); go_simp; try with_reducible rfl
      try simp only [Act.put]
      refine wpAnyH_take (i := 7) (v := ?_) rfl (by kernel_rfl) (by kernel_rfl) (by kernel_rfl) (fun _ _ _ h => h) (Or.inl ⟨by rfl, ?_⟩) hS1 ?_
      rotate_left
      · intro W hSw; (try dsimp only at hSw); go_simp; try with_reducible rfl
      try simp only [Act.put]
      refine wpAnyH_take (i := 8) (v := ?_) rfl (by kernel_rfl) (by kernel_rfl) (by kernel_rfl) (fun _ _ _ h => h) (Or.inl ⟨by rfl, ?_⟩) hS1 ?_
      rotate_left
      · intro W hSw; (try dsimp only at hSw); go_simp; try with_reducible rfl
      try simp only [Act.put]
      refine wpAnyH_take (i := 9) (v := ?_) rfl (by kernel_rfl) (by kernel_rfl) (by kernel_rfl) (fun _ _ _ h => h) (Or.inl ⟨by rfl, ?_⟩) hS1 ?_
      rotate_left
      · intro W hSw; (try dsimp only at hSw); go_simp; try with_reducible rfl
      try simp only [Act.put]
      refine wpAnyH_take (i := 10) (v := ?_) rfl (by kernel_rfl) (by kernel_rfl) (by kernel_rfl) (fun _ _ _ h => h) (Or.inl ⟨by rfl, ?_⟩) hS1 ?_
      rotate_left
      · intro W hSw; (try dsimp only at hSw); go_simp; try with_reducible rfl
      try simp only [Act.put]
      refine wpAnyH_ready (rs := [11]) (by kernel_rfl) (by simp) ?_
      refine AllReadyH.cons rfl (fun K hK => ?_) AllReadyH.nil
      go_simp
      refine hK.out _ _ HB4.out (fun hHeld2 => ?_)
      clear hK K
      try simp only [Act.put]
      refine wpAnyH_ready (rs := [12]) (by kernel_rfl) (by simp) ?_
      refine AllReadyH.cons rfl (fun K hK => ?_) AllReadyH.nil
      refine step_append_byts rfl (.tmp 43) (.tmp 54) rfl w.heap.size _ _ rfl HO4.out ⟨W0.drew.heap.size, 0, none⟩ 3 3 [d1, d2, d3] rfl rfl HN4.out (by simp) HB4.out.size ?_
      intro v7 w7 ho7 hb7
      rw [HE.out] at ho7
      have HO7 := Lib.hid ho7
      have HB7 := Lib.hid (hb7 w HB4.out)
      clear ho7 hb7
      refine hK.out _ _ HB7.out (fun hHeld3 => ?_)
      clear hK K
      try simp only [Act.put]
      refine wpAnyH_take (i := 13) (v := ?_) rfl (by kernel_rfl) (by kernel_rfl) (by kernel_rfl) (fun _ _ _ h => h) (Or.inl ⟨by rfl, ?_⟩) hHeld3 ?_
      rotate_left
      · intro W hSw; (try dsimp only at hSw); go_simp; try with_reducible rfl
      try simp only [Act.put]
      refine wpAnyH_done (by kernel_rfl) ?_ _
      refine NoPanic.normal ?_
      go_wp2_with fail
      go_roundw
      case rel => exact ⟨HB7, .inr (.inl ⟨rfl, HO7⟩)⟩
      case measure => simp [intOf]
    · obtain ⟨r, x, y, u, U, Q, d1, d2, d3, f1, f2, f3, f4, f5, f6, x1, x2, x3, he⟩ := round_at n 32 16 8 1024 8 false (by omega) (by omega) (by omega)
      simp only [show ((32 : Nat) : Int) = 32 from rfl, show ((16 : Nat) : Int) = 16 from rfl, show ((8 : Nat) : Int) = 8 from rfl, show ((1024 : Nat) : Int) = 1024 from rfl] at f1 f2 f3 f4
      have X3 : ∀ W : World, (Instr.index 9 (.string (bs [45, 120, 83, 115])) (.int .i64 Q)).run Tryd.prog W = .ok (.int .u8 (d3.toNat : Int)) W := x3
      have HE : Hid ([d1, d2, d3] = mdBb n) := Lib.hid he
      clear x3 he
      have t0 := fun W => third_1 W (bs [45, 120, 83, 115]) (bs [45, 120, 83, 115]) (bs [45, 120, 84, 116])
      go_upto_region 7 with fail
      go_quiet (fail)
      go_upto_region 9 with fail
      obtain ⟨W0, HW0⟩ := hid_name (wr.drewN nq)
      have HO3 := Lib.hid (HO2.out.drewN (n := nq))
      have hS0 : Below w.heap.size w (wr.drewN nq) := below_drewN HB2.out _
      rw [HW0.out] at HO3 hS0
      rw [HW0.out]
      have HO4 := Lib.hid (HO3.out.drew.alloc (.cells #[.int .u8 (d1.toNat : Int), .int .u8 (d2.toNat : Int), .int .u8 (d3.toNat : Int)] 5))
      have HB4 := Lib.hid (belowA hS0.drew (.cells #[.int .u8 (d1.toNat : Int), .int .u8 (d2.toNat : Int), .int .u8 (d3.toNat : Int)] 5))
      have HN4 := Lib.hid (byts_new3 W0.drew W0.drew.heap.size rfl d1 d2 d3)
      have hS1 := hS0.drew
      clear f1 f2 f3 f4 t0 hS0 HB2 HO2 HW0
      refine wp_region_noPanic ?_
      refine wp_region_held_drew (S := fun W => Below w.heap.size w W) (by kernel_rfl) hS1 (fun hHeld => ?_)
      refine wpAnyH_take (i := 0) (v := ?_) rfl (by kernel_rfl) (by kernel_rfl) (by kernel_rfl) (fun _ _ _ h => h) (Or.inl ⟨by rfl, ?_⟩) hS1 ?_
      rotate_left
      · intro W hSw; (try dsimp only at hSw); go_simp; try with_reducible rfl
      try simp only [Act.put]
      refine wpAnyH_take (i := 1) (v := ?_) rfl (by kernel_rfl) (by kernel_rfl) (by kernel_rfl) (fun _ _ _ h => h) (Or.inl ⟨by rfl, ?_⟩) hS1 ?_
      rotate_left
      · intro W hSw; (try dsimp only at hSw); go_simp; try with_reducible rfl
      try simp only [Act.put]
      refine wpAnyH_take (i := 2) (v := ?_) rfl (by kernel_rfl) (by kernel_rfl) (by kernel_rfl) (fun _ _ _ h => h) (Or.inl ⟨by rfl, ?_⟩) hS1 ?_
      rotate_left
      · intro W hSw; (try dsimp only at hSw); go_simp; try with_reducible rfl
      try simp only [Act.put]
      refine wpAnyH_take (i := 3) (v := ?_) rfl (by kernel_rfl) (by kernel_rfl) (by kernel_rfl) (fun _ _ _ h => h) (Or.inl ⟨by rfl, ?_⟩) hS1 ?_
      rotate_left
      · intro W hSw; (try dsimp only at hSw); go_simp; try with_reducible rfl
      try simp only [Act.put]
      refine wpAnyH_take (i := 4) (v := ?_) rfl (by kernel_rfl) (by kernel_rfl) (by kernel_rfl) (fun _ _ _ h => h) (Or.inl ⟨by rfl, ?_⟩) hS1 ?_
      rotate_left
      · intro W hSw; (try dsimp only at hSw); go_simp; try with_reducible rfl
      try simp only [Act.put]
      refine wpAnyH_take (i := 5) (v := ?_) rfl (by kernel_rfl) (by kernel_rfl) (by kernel_rfl) (fun _ _ _ h => h) (Or.inl ⟨by rfl, ?_⟩) hS1 ?_
      rotate_left
      · intro W hSw; (try dsimp only at hSw); go_simp; try with_reducible rfl
      try simp only [Act.put]
      refine wpAnyH_take (i := 6) (v := ?_) rfl (by kernel_rfl) (by kernel_rfl) (by kernel_rfl) (fun _ _ _ h => h) (Or.inl ⟨by rfl, ?_⟩) hS1 ?_
      rotate_left
      · intro W hSw; (try dsimp only at hSw); go_simp; try with_reducible rfl
      try simp only [Act.put]
      refine wpAnyH_take (i := 7) (v := ?_) rfl (by kernel_rfl) (by kernel_rfl) (by kernel_rfl) (fun _ _ _ h => h) (Or.inl ⟨by rfl, ?_⟩) hS1 ?_
      rotate_left
      · intro W hSw; (try dsimp only at hSw); go_simp; try with_reducible rfl
      try simp only [Act.put]
      refine wpAnyH_take (i := 8) (v := ?_) rfl (by kernel_rfl) (by kernel_rfl) (by kernel_rfl) (fun _ _ _ h => h) (Or.inl ⟨by rfl, ?_⟩) hS1 ?_
      rotate_left
      · intro W hSw; (try dsimp only at hSw); go_simp; try with_reducible rfl
      try simp only [Act.put]
      refine wpAnyH_take (i := 9) (v := ?_) rfl (by kernel_rfl) (by kernel_rfl) (by kernel_rfl) (fun _ _ _ h => h) (Or.inl ⟨by rfl, ?_⟩) hS1 ?_
      rotate_left
      · intro W hSw; (try dsimp only at hSw); go_simp; try with_reducible rfl
      try simp only [Act.put]
      refine wpAnyH_take (i := 10) (v := ?_) rfl (by kernel_rfl) (by kernel_rfl) (by kernel_rfl) (fun _ _ _ h => h) (Or.inl ⟨by rfl, ?_⟩) hS1 ?_
      rotate_left
      · intro W hSw; (try dsimp only at hSw); go_simp; try with_reducible rfl
      try simp only [Act.put]
      refine wpAnyH_ready (rs := [11]) (by kernel_rfl) (by simp) ?_
      refine AllReadyH.cons rfl (fun K hK => ?_) AllReadyH.nil
      go_simp
      refine hK.out _ _ HB4.out (fun hHeld2 => ?_)
      clear hK K
      try simp only [Act.put]
      refine wpAnyH_ready (rs := [12]) (by kernel_rfl) (by simp) ?_
      refine AllReadyH.cons rfl (fun K hK => ?_) AllReadyH.nil
      refine step_append_byts rfl (.tmp 43) (.tmp 54) rfl w.heap.size _ _ rfl HO4.out ⟨W0.drew.heap.size, 0, none⟩ 3 3 [d1, d2, d3] rfl rfl HN4.out (by simp [mdA, md3_length]) HB4.out.size ?_
      intro v7 w7 ho7 hb7
      rw [HE.out] at ho7
      have HO7 := Lib.hid ho7
      have HB7 := Lib.hid (hb7 w HB4.out)
      clear ho7 hb7
      refine hK.out _ _ HB7.out (fun hHeld3 => ?_)
      clear hK K
      try simp only [Act.put]
      refine wpAnyH_take (i := 13) (v := ?_) rfl (by kernel_rfl) (by kernel_rfl) (by kernel_rfl) (fun _ _ _ h => h) (Or.inl ⟨by rfl, ?_⟩) hHeld3 ?_
      rotate_left
      · intro W hSw; (try dsimp only at hSw); go_simp; try with_reducible rfl
      try simp only [Act.put]
      refine wpAnyH_done (by kernel_rfl) ?_ _
      refine NoPanic.normal ?_
      go_wp2_with fail
      go_roundw
      case rel => exact ⟨HB7, .inr (.inr (.inl ⟨rfl, HO7⟩))⟩
      case measure => simp [intOf]
    · obtain ⟨r, x, y, u, U, Q, d1, d2, d3, f1, f2, f3, f4, f5, f6, x1, x2, x3, he⟩ := round_at n 4 2 1 512 1 true (by omega) (by omega) (by omega)
      simp only [show ((4 : Nat) : Int) = 4 from rfl, show ((2 : Nat) : Int) = 2 from rfl, show ((1 : Nat) : Int) = 1 from rfl, show ((512 : Nat) : Int) = 512 from rfl, Int.ediv_one] at f1 f2 f3 f4
      have X3 : ∀ W : World, (Instr.index 9 (.string (bs [45, 120, 84, 116])) (.int .i64 Q)).run Tryd.prog W = .ok (.int .u8 (d3.toNat : Int)) W := x3
      have HE : Hid ([d1, d2, d3] = md3 (n / 1 % 8) (n / 512 % 2) true) := Lib.hid he
      clear x3 he
      have t0 := fun W => third_2 W (bs [45, 120, 83, 115]) (bs [45, 120, 83, 115]) (bs [45, 120, 84, 116])
      go_upto_region 7 with fail
      go_quiet (fail)
      go_upto_region 9 with fail
      obtain ⟨W0, HW0⟩ := hid_name (wr.drewN nq)
      have HO3 := Lib.hid (HO2.out.drewN (n := nq))
      have hS0 : Below w.heap.size w (wr.drewN nq) := below_drewN HB2.out _
      rw [HW0.out] at HO3 hS0
      rw [HW0.out]
      have HO4 := Lib.hid (HO3.out.drew.alloc (.cells #[.int .u8 (d1.toNat : Int), .int .u8 (d2.toNat : Int), .int .u8 (d3.toNat : Int)] 5))
      have HB4 := Lib.hid (belowA hS0.drew (.cells #[.int .u8 (d1.toNat : Int), .int .u8 (d2.toNat : Int), .int .u8 (d3.toNat : Int)] 5))
      have HN4 := Lib.hid (byts_new3 W0.drew W0.drew.heap.size rfl d1 d2 d3)
      have hS1 := hS0.drew
      clear f1 f2 f3 f4 t0 hS0 HB2 HO2 HW0
      refine wp_region_noPanic ?_
      refine wp_region_held_drew (S := fun W => Below w.heap.size w W) (by kernel_rfl) hS1 (fun hHeld => ?_)
      refine wpAnyH_take (i := 0) (v := ?_) rfl (by kernel_rfl) (by kernel_rfl) (by kernel_rfl) (fun _ _ _ h => h) (Or.inl ⟨by rfl, ?_⟩) hS1 ?_
      rotate_left
      · intro W hSw; (try dsimp only at hSw); go_simp; try with_reducible rfl
      try simp only [Act.put]
      refine wpAnyH_take (i := 1) (v := ?_) rfl (by kernel_rfl) (by kernel_rfl) (by kernel_rfl) (fun _ _ _ h => h) (Or.inl ⟨by rfl, ?_⟩) hS1 ?_
      rotate_left
      · intro W hSw; (try dsimp only at hSw); go_simp; try with_reducible rfl
      try simp only [Act.put]
      refine wpAnyH_take (i := 2) (v := ?_) rfl (by kernel_rfl) (by kernel_rfl) (by kernel_rfl) (fun _ _ _ h => h) (Or.inl ⟨by rfl, ?_⟩) hS1 ?_
      rotate_left
      · intro W hSw; (try dsimp only at hSw); go_simp; try with_reducible rfl
      try simp only [Act.put]
      refine wpAnyH_take (i := 3) (v := ?_) rfl (by kernel_rfl) (by kernel_rfl) (by kernel_rfl) (fun _ _ _ h => h) (Or.inl ⟨by rfl, ?_⟩) hS1 ?_
      rotate_left
      · intro W hSw; (try dsimp only at hSw); go_simp; try with_reducible rfl
      try simp only [Act.put]
      refine wpAnyH_take (i := 4) (v := ?_) rfl (by kernel_rfl) (by kernel_rfl) (by kernel_rfl) (fun _ _ _ h => h) (Or.inl ⟨by rfl, ?_⟩) hS1 ?_
      rotate_left
      · intro W hSw; (try dsimp only at hSw); go_simp; try with_reducible rfl
      try simp only [Act.put]
      refine wpAnyH_take (i := 5) (v := ?_) rfl (by kernel_rfl) (by kernel_rfl) (by kernel_rfl) (fun _ _ _ h => h) (Or.inl ⟨by rfl, ?_⟩) hS1 ?_
      rotate_left
      · intro W hSw; (try dsimp only at hSw); go_simp; try with_reducible rfl
      try simp only [Act.put]
      refine wpAnyH_take (i := 6) (v := ?_) rfl (by kernel_rfl) (by kernel_rfl) (by kernel_rfl) (fun _ _ _ h => h) (Or.inl ⟨by rfl, ?_⟩) hS1 ?_
      rotate_left
      · intro W hSw; (try dsimp only at hSw); go_simp; try with_reducible rfl
      try simp only [Act.put]
      refine wpAnyH_take (i := 7) (v := ?_) rfl (by kernel_rfl) (by kernel_rfl) (by kernel_rfl) (fun _ _ _ h => h) (Or.inl ⟨by rfl, ?_⟩) hS1 ?_
      rotate_left
      · intro W hSw; (try dsimp only at hSw); go_simp; try with_reducible rfl
      try simp only [Act.put]
      refine wpAnyH_take (i := 8) (v := ?_) rfl (by kernel_rfl) (by kernel_rfl) (by kernel_rfl) (fun _ _ _ h => h) (Or.inl ⟨by rfl, ?_⟩) hS1 ?_
      rotate_left
      · intro W hSw; (try dsimp only at hSw); go_simp; try with_reducible rfl
      try simp only [Act.put]
      refine wpAnyH_take (i := 9) (v := ?_) rfl (by kernel_rfl) (by kernel_rfl) (by kernel_rfl) (fun _ _ _ h => h) (Or.inl ⟨by rfl, ?_⟩) hS1 ?_
      rotate_left
      · intro W hSw; (try dsimp only at hSw); go_simp; try with_reducible rfl
      try simp only [Act.put]
      refine wpAnyH_take (i := 10) (v := ?_) rfl (by kernel_rfl) (by kernel_rfl) (by kernel_rfl) (fun _ _ _ h => h) (Or.inl ⟨by rfl, ?_⟩) hS1 ?_
      rotate_left
      · intro W hSw; (try dsimp only at hSw); go_simp; try with_reducible rfl
      try simp only [Act.put]
      refine wpAnyH_ready (rs := [11]) (by kernel_rfl) (by simp) ?_
      refine AllReadyH.cons rfl (fun K hK => ?_) AllReadyH.nil
      go_simp
      refine hK.out _ _ HB4.out (fun hHeld2 => ?_)
      clear hK K
      try simp only [Act.put]
      refine wpAnyH_ready (rs := [12]) (by kernel_rfl) (by simp) ?_
      refine AllReadyH.cons rfl (fun K hK => ?_) AllReadyH.nil
      refine step_append_byts rfl (.tmp 43) (.tmp 54) rfl w.heap.size _ _ rfl HO4.out ⟨W0.drew.heap.size, 0, none⟩ 3 3 [d1, d2, d3] rfl rfl HN4.out (by simp [mdA, mdBb, md3_length]) HB4.out.size ?_
      intro v7 w7 ho7 hb7
      rw [HE.out, Nat.div_one, ← mdL_eq'] at ho7
      have HO7 := Lib.hid ho7
      have HB7 := Lib.hid (hb7 w HB4.out)
      clear ho7 hb7
      refine hK.out _ _ HB7.out (fun hHeld3 => ?_)
      clear hK K
      try simp only [Act.put]
      refine wpAnyH_take (i := 13) (v := ?_) rfl (by kernel_rfl) (by kernel_rfl) (by kernel_rfl) (fun _ _ _ h => h) (Or.inl ⟨by rfl, ?_⟩) hHeld3 ?_
      rotate_left
      · intro W hSw; (try dsimp only at hSw); go_simp; try with_reducible rfl
      try simp only [Act.put]
      refine wpAnyH_done (by kernel_rfl) ?_ _
      refine NoPanic.normal ?_
      go_wp2_with fail
      go_roundw
      case rel => exact ⟨HB7, .inr (.inr (.inr ⟨rfl, HO7⟩))⟩
      case measure => simp [intOf]
    · obtain ⟨A', c', rfl, -, hby⟩ := HO2.out.form
      have hcv := hby.conv c' (fun e => by subst e; exact hby.none_nil)
      clear hby
      go_wp2_with fail
      go_ret2
      exact ⟨rfl, HB2.out⟩
end Go.Proofs.YtdcbmjihpjnbbaaDoor
