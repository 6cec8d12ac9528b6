/- The law of reading headers. -/
import Derived.Test.YtjklgadigcobcaaHedZ
import Derived.Laws.StructEq
set_option linter.unusedVariables false
set_option maxRecDepth 100000
namespace Go.Proofs.Ytjklgadigcobcaa
open Go.RowKit
open Go.OpenShut
set_option maxHeartbeats 2000000 in
theorem HeadReads_walk (a0 : ByteArray) (w0 : a0.size ≤ maxLen) (r0 : a0.size ≤ 140737488351232) (w : World) :
    Calls Try.prog 5 #[.string a0] w fun e w' => e = .returned (.bool true) ∧ Below w.heap.size w w' := by
  have hR := fun W => hRead_any a0 W w0
  have hO := fun W => rHOf_any a0 W w0
  obtain ⟨H, HH⟩ := hid_name (headR a0.data.toList).1
  obtain ⟨E, HE⟩ := hid_name (headR a0.data.toList).2
  rw [HH.out, HE.out] at hR hO
  have hC : headC H = #[.string (bs H.name), .string (bs H.pre), .string (bs H.link), .int .i64 H.mode, .int .i64 H.uid, .int .i64 H.gid, .int .i64 H.size, .int .i64 H.time, .int .u8 (H.typ.toNat : Int), .string (bs H.user), .string (bs H.group)] := rfl
  rw [hC] at hR hO
  have HR := Lib.hid hR
  have HO := Lib.hid hO
  have HC := Lib.hid hC
  clear hR hO hC HH HE
  go_enter Try.func5, Try.ntmps5
  go_wp2_with fail
  refine (HR.out _).mono ?_; rintro e w1 ⟨rfl, hb1⟩
  have e1 := heap_alloc_new w1 (.cells (headC H) 27)
  have hB1 : Below w.heap.size w (w1.alloc (.cells (headC H) 27)) := hb1.alloc hb1.size _
  have hz : w1.heap.size < (w1.alloc (.cells (headC H) 27)).heap.size := by simp
  rw [HC.out] at e1 hB1 hz
  have E1 := Lib.hid e1
  have HB1 := Lib.hid hB1
  have HZ := Lib.hid hz
  clear e1 hB1 hz hb1
  go_wp2_with fail
  refine (HO.out _).mono ?_; rintro e w2 ⟨rfl, hb2⟩
  have e2 := (hb2.block w1.heap.size HZ.out).trans E1.out
  rw [← HC.out] at e2
  obtain ⟨c0, c1, c2, c3, c4, c5, c6, c7, c8, c9, cA⟩ := headQ_cells e2
  have hne := rd_lt e2
  have HB2 := Lib.hid (HB1.out.trans (hb2.mono HB1.out.size))
  clear e2 hb2
  have k0 : ∀ o, (w2.alloc o).cell? ⟨w1.heap.size, 0, none⟩ = some (.string (bs H.name)) := fun o => by rw [World.cell?_alloc_old _ _ _ (by show w1.heap.size ≠ _; omega)]; exact c0
  have k1 : ∀ o, (w2.alloc o).cell? ⟨w1.heap.size, 1, none⟩ = some (.string (bs H.pre)) := fun o => by rw [World.cell?_alloc_old _ _ _ (by show w1.heap.size ≠ _; omega)]; exact c1
  have k2 : ∀ o, (w2.alloc o).cell? ⟨w1.heap.size, 2, none⟩ = some (.string (bs H.link)) := fun o => by rw [World.cell?_alloc_old _ _ _ (by show w1.heap.size ≠ _; omega)]; exact c2
  have k3 : ∀ o, (w2.alloc o).cell? ⟨w1.heap.size, 3, none⟩ = some (.int .i64 H.mode) := fun o => by rw [World.cell?_alloc_old _ _ _ (by show w1.heap.size ≠ _; omega)]; exact c3
  have k4 : ∀ o, (w2.alloc o).cell? ⟨w1.heap.size, 4, none⟩ = some (.int .i64 H.uid) := fun o => by rw [World.cell?_alloc_old _ _ _ (by show w1.heap.size ≠ _; omega)]; exact c4
  have k5 : ∀ o, (w2.alloc o).cell? ⟨w1.heap.size, 5, none⟩ = some (.int .i64 H.gid) := fun o => by rw [World.cell?_alloc_old _ _ _ (by show w1.heap.size ≠ _; omega)]; exact c5
  have k6 : ∀ o, (w2.alloc o).cell? ⟨w1.heap.size, 6, none⟩ = some (.int .i64 H.size) := fun o => by rw [World.cell?_alloc_old _ _ _ (by show w1.heap.size ≠ _; omega)]; exact c6
  have k7 : ∀ o, (w2.alloc o).cell? ⟨w1.heap.size, 7, none⟩ = some (.int .i64 H.time) := fun o => by rw [World.cell?_alloc_old _ _ _ (by show w1.heap.size ≠ _; omega)]; exact c7
  have k8 : ∀ o, (w2.alloc o).cell? ⟨w1.heap.size, 8, none⟩ = some (.int .u8 (H.typ.toNat : Int)) := fun o => by rw [World.cell?_alloc_old _ _ _ (by show w1.heap.size ≠ _; omega)]; exact c8
  have k9 : ∀ o, (w2.alloc o).cell? ⟨w1.heap.size, 9, none⟩ = some (.string (bs H.user)) := fun o => by rw [World.cell?_alloc_old _ _ _ (by show w1.heap.size ≠ _; omega)]; exact c9
  have kA : ∀ o, (w2.alloc o).cell? ⟨w1.heap.size, 10, none⟩ = some (.string (bs H.group)) := fun o => by rw [World.cell?_alloc_old _ _ _ (by show w1.heap.size ≠ _; omega)]; exact cA
  have HB3 : Hid (∀ o, Below w.heap.size w (w2.alloc o)) := fun o => HB2.out.alloc HB2.out.size o
  clear c0 c1 c2 c3 c4 c5 c6 c7 c8 c9 cA hne
  go_wp2_with fail
  go_ret
  exact ⟨rfl, HB3.out _⟩
end Go.Proofs.Ytjklgadigcobcaa
