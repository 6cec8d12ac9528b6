/- The properties of headers. -/
import Derived.Test.YtjklgadigcobcaaDoorHedH
import Derived.Test.YtjklgadigcobcaaDoorHedG
import Derived.Laws.StructEq
import Derived.Lib.ConvBytes
set_option linter.unusedVariables false
set_option maxRecDepth 100000
namespace Go.Proofs.YtjklgadigcobcaaDoor
open Go.RowKit
open Go.OpenShut
/-- the block of a header -/
def blkL (h : HeadV) : List UInt8 := frontH h ++ (ckL (sumB (frontH h) + 256 + sumB (backH h)) ++ backH h)
theorem rawH_len (a : RawV) : (rawH a).name.length ≤ 140737488351232 ∧ (rawH a).pre.length ≤ 140737488351232 ∧ (rawH a).link.length ≤ 140737488351232 ∧ (rawH a).user.length ≤ 140737488351232 ∧ (rawH a).group.length ≤ 140737488351232 := by
  have l1 := cleanL_le a.text.data.toList 90
  have l2 := cleanL_le a.text.data.toList 150
  have l3 := cleanL_le a.text.data.toList 100
  have l4 := cleanL_le a.text.data.toList 31
  have l5 := cleanL_le a.text.data.toList 20
  unfold rawH
  simp only [List.length_cons]
  omega
/-- a raw thing's header is written -/
theorem rawWrite (a : RawV) (W : World) : Calls Tryd.prog 7 #[.agg (headC (rawH a))] W fun e w' => e = .returned (.tuple #[.string (bs (blkL (rawH a))), .int .i64 0]) ∧ Below W.heap.size W w' := by
  obtain ⟨h1, h2, h3, h4, h5⟩ := rawH_len a
  have h := hWrite_any (rawH a) W h1 h2 h3 h4 h5
  rw [headW_ok (rawH_ok a)] at h
  exact h
theorem headC_eq (H : HeadV) : headC H = #[.string (bs H.name), .string (bs H.pre), .string (bs H.link), .int .i64 H.mode, .int .i64 H.uid, .int .i64 H.gid, .int .i64 H.size, .int .i64 H.time, .int .u8 (H.typ.toNat : Int), .string (bs H.user), .string (bs H.group)] := rfl
theorem head_cells {w : World} {g : Nat} {h : HeadV} (H : w.heap[g]? = some (.cells (headC h) 25 (0, 0))) (o : Obj) :
    (w.alloc o).cell? ⟨g, 0, none⟩ = some (.string (bs h.name)) ∧ (w.alloc o).cell? ⟨g, 1, none⟩ = some (.string (bs h.pre)) ∧ (w.alloc o).cell? ⟨g, 2, none⟩ = some (.string (bs h.link)) ∧ (w.alloc o).cell? ⟨g, 3, none⟩ = some (.int .i64 h.mode) ∧ (w.alloc o).cell? ⟨g, 4, none⟩ = some (.int .i64 h.uid) ∧ (w.alloc o).cell? ⟨g, 5, none⟩ = some (.int .i64 h.gid) ∧
    (w.alloc o).cell? ⟨g, 6, none⟩ = some (.int .i64 h.size) ∧ (w.alloc o).cell? ⟨g, 7, none⟩ = some (.int .i64 h.time) ∧ (w.alloc o).cell? ⟨g, 8, none⟩ = some (.int .u8 (h.typ.toNat : Int)) ∧ (w.alloc o).cell? ⟨g, 9, none⟩ = some (.string (bs h.user)) ∧ (w.alloc o).cell? ⟨g, 10, none⟩ = some (.string (bs h.group)) :=
  headQ_cells ((Lib.alloc_old w o g (rd_lt H)).trans H)
set_option maxHeartbeats 4000000 in
theorem HeadBack_walk (a0 : RawV) (w0 : a0.wf) (w : World) :
    Calls Tryd.prog 3 #[.agg (rawC a0).toArray] w fun e w' => e = .returned (.bool true) ∧ Below w.heap.size w w' := by
  have hok := rawH_ok a0
  have H1 := Lib.hid fun W => headOf_any a0 w0 W
  have h2 := fun W => rawWrite a0 W
  obtain ⟨hlen, hck⟩ := headW_block hok
  have hsz : (bs (blkL (rawH a0))).size = 512 := by rw [bs_size]; exact hlen
  have h3 := fun W => hRead_any (bs (blkL (rawH a0))) W (by rw [hsz]; decide)
  rw [show (bs (blkL (rawH a0))).data.toList = blkL (rawH a0) from rfl, show headR (blkL (rawH a0)) = (rawH a0, 0) from headR_headW hok] at h3
  simp only at h3
  obtain ⟨S, HS⟩ := hid_name (bs (blkL (rawH a0)))
  rw [HS.out] at h2 h3 hsz
  obtain ⟨H, HH⟩ := hid_name (rawH a0)
  rw [HH.out] at H1 h2 h3
  rw [headC_eq] at H1 h2 h3
  have H2 := Lib.hid h2
  have H3 := Lib.hid h3
  obtain ⟨kind, a, b, text⟩ := a0
  unfold rawC at H1 ⊢
  simp only at H1 ⊢
  have HB := Lib.hid ((Below.refl w.heap.size w).alloc (Nat.le_refl _) (.cells #[.int .i64 kind, .int .i64 a, .int .i64 b, .string text] 23))
  clear hok h2 h3 hlen hck w0
  go_enter Tryd.func3, Tryd.ntmps3
  go_wp2_with fail
  refine (H1.out _).mono ?_; rintro e w1 ⟨rfl, hb1⟩
  have hB1 := HB.out.trans (hb1.mono HB.out.size)
  have e1 := heap_alloc_new w1 (.cells (headC H) 25)
  have hz : w1.heap.size < (w1.alloc (.cells (headC H) 25)).heap.size := by simp
  have hB2 : Below w.heap.size w (w1.alloc (.cells (headC H) 25)) := hB1.alloc hB1.size _
  rw [headC_eq] at e1 hz hB2
  have E1 := Lib.hid e1
  have HZ := Lib.hid hz
  have HB2 := Lib.hid hB2
  clear hb1 hB1 e1 hz hB2
  go_wp2_with fail
  refine (H2.out _).mono ?_; rintro e w2 ⟨rfl, hb2⟩
  have E2 := Lib.hid ((hb2.block w1.heap.size HZ.out).trans E1.out)
  have HB3 := Lib.hid (HB2.out.trans (hb2.mono HB2.out.size))
  have HZ2 : Hid (w1.heap.size < w2.heap.size) := Nat.lt_of_lt_of_le HZ.out hb2.size
  clear hb2
  go_wp2_with fail
  refine (H3.out _).mono ?_; rintro e w3 ⟨rfl, hb3⟩
  have e3 := (hb3.block w1.heap.size HZ2.out).trans E2.out
  rw [← headC_eq] at e3
  have kk := head_cells e3
  have k0 := fun o => (kk o).1
  have k1 := fun o => (kk o).2.1
  have k2 := fun o => (kk o).2.2.1
  have k3 := fun o => (kk o).2.2.2.1
  have k4 := fun o => (kk o).2.2.2.2.1
  have k5 := fun o => (kk o).2.2.2.2.2.1
  have k6 := fun o => (kk o).2.2.2.2.2.2.1
  have k7 := fun o => (kk o).2.2.2.2.2.2.2.1
  have k8 := fun o => (kk o).2.2.2.2.2.2.2.2.1
  have k9 := fun o => (kk o).2.2.2.2.2.2.2.2.2.1
  have kA := fun o => (kk o).2.2.2.2.2.2.2.2.2.2
  have HB4 := Lib.hid (HB3.out.trans (hb3.mono HB3.out.size))
  have HB5 : Hid (∀ o, Below w.heap.size w (w3.alloc o)) := fun o => HB4.out.alloc HB4.out.size o
  have hsz2 : (S.size : Int) = 512 := by omega
  clear hb3 e3 kk
  go_wp2_with fail
  go_ret
  exact ⟨rfl, HB5.out _⟩
end Go.Proofs.YtjklgadigcobcaaDoor
