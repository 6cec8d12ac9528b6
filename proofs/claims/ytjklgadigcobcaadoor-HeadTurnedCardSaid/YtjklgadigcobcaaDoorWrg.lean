/- The writer of package head: its text, its room. -/
import Derived.Test.YtjklgadigcobcaaDoorWrs
import Derived.Test.YtjklgadigcobcaaDoorFldD
import Derived.Test.YtjklgadigcobcaaDoorOctA
import Derived.Lib.Builder
import Derived.Lib.AppendStr
import Derived.Lib.UnsafeStr
import Derived.Lib.MakeNoZero
import Derived.Lib.Walk
import Derived.Laws.Externs
import Derived.Laws.IdiomCopy
import Derived.Shelf.RegionOpenPlain
import Derived.BigQuiet
import Derived.Deep.QuietTactic
set_option linter.unusedVariables false
set_option maxRecDepth 100000
namespace Go.Proofs.YtjklgadigcobcaaDoor
open Go.RowKit
open Go.OpenShut
set_option maxHeartbeats 2000000 in
theorem wGrow (B b n : Nat) (er : Int) (w : World) (hB : B ≤ b) (hbk : w.heap[b]? = some (.cells #[.pointer none, .slice none 0 0, .int .i64 er] 45 (0, 0))) (hBw : B ≤ w.heap.size) (hn : n ≤ 281474976710656) :
    Calls Tryd.prog 22 #[.pointer (some ⟨b, 0, none⟩), .int .i64 n] w fun e w' => e = .returned (.tuple #[]) ∧ (WrAt B b (.pointer (some ⟨b, 0, none⟩)) er [] w' ∧ Bel B w w') := by
  have hbk1 : (w.setCell ⟨b, 0, none⟩ (.pointer (some ⟨b, 0, none⟩))).heap[b]? = some (.cells #[.pointer (some ⟨b, 0, none⟩), .slice none 0 0, .int .i64 er] 45 (0, 0)) := by
    simp [World.setCell, Array.getElem?_modify, hbk]
  have c1 : (w.setCell ⟨b, 0, none⟩ (.pointer (some ⟨b, 0, none⟩))).cell? ⟨b, 1, none⟩ = some (.slice none 0 0) := by rw [Lib.cell_of_heap hbk1]; rfl
  have hb1 : Below B w (w.setCell ⟨b, 0, none⟩ (.pointer (some ⟨b, 0, none⟩))) := (Below.refl B w).setCell (p := ⟨b, 0, none⟩) hB _
  have ho1 : Oth w (w.setCell ⟨b, 0, none⟩ (.pointer (some ⟨b, 0, none⟩))) := Oth.setCell hbk
  have hU : WrAt B b (.pointer (some ⟨b, 0, none⟩)) er [] (w.setCell ⟨b, 0, none⟩ (.pointer (some ⟨b, 0, none⟩))) := ⟨hB, .slice none 0 0, hbk1, World.ownsRow_nil _ _ _ _, by simp [Value.ownBlock]⟩
  have c1' : (w.setCell ⟨b, 0, none⟩ (.pointer (some ⟨b, 0, none⟩))).drew.cell? ⟨b, 1, none⟩ = some (.slice none 0 0) := c1
  have HG := Lib.hid (fun k : Nat => wgrow_fresh B b n er ((w.setCell ⟨b, 0, none⟩ (.pointer (some ⟨b, 0, none⟩))).drewN k) hB hbk1 (by simpa [World.setCell, World.drewN] using hBw) hn)
  go_enter Tryd.func22, Tryd.ntmps22
  go_wp2_with fail
  refine (wCheck_fresh b w (by rw [Lib.cell_of_heap hbk]; rfl) (by simp [World.shape?, hbk]) (Lib.frozen_of_heap hbk 0)).mono ?_; rintro e w' ⟨rfl, rfl⟩
  go_wp2_with fail
  go_quiet (fail)
  go_wp2_with fail
  all_goals first
    | (go_end0; exact ⟨rfl, hU.drewN _, below_drewN hb1 _, ho1⟩)
    | (refine (HG.out _).mono ?_
       rintro e w' ⟨rfl, h1, h2⟩
       go_wp2_with fail
       go_end0
       exact ⟨rfl, h1, (below_drewN hb1 _).trans h2.1, fun k cs fr e => h2.2 k cs fr (ho1 k cs fr e)⟩)
end Go.Proofs.YtjklgadigcobcaaDoor
