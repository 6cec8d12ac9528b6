/- qaV of one kind, in one file: Rwn. -/
import Derived.Test.YtapgoifimhnbdaaGreatDoorEnf
set_option linter.unusedVariables false
set_option maxRecDepth 100000
namespace Go.Proofs.YtapgoifimhnbdaaGreatDoor
open Go.RowKit
open Go.OpenShut
theorem q0T (xs:List NodP) (j:Nat) (z:Int) (hj:j<xs.length):(rowN xs).set (j*12+2) (.int .i64 z)=rowN (xs.set j ({xs[j].1 with same:=z},xs[j].2)):=by
 induction xs generalizing j with
 |nil=>simp at hj
 |cons x xs ih=>
  have e: ∀(y:NodP) (ys:List NodP),rowN (y::ys)=nodV y.1 y.2++rowN ys:=fun _ _=>rfl;rw [e];cases j with
  |zero=>
   rw [Nat.zero_mul,Nat.zero_add,List.set_append_left _ _ (by rw [qbG];omega)];simp only [List.getElem_cons_zero,List.set_cons_zero];rw [e];rfl
  |succ j=>
   rw [List.set_append_right _ _ (by rw [qbG];omega),qbG,show (j+1)*12+2-12=j*12+2 by omega];simp only [List.getElem_cons_succ,List.set_cons_succ];rw [ih j (by simpa using hj),e]
theorem RowN.setSame {w:World} {B g cap n:Nat} {xs:List NodP} (h:RowN w B (.slice (some ⟨g,0,none⟩) n cap) xs) (hn:n=xs.length) (j:Nat) (hj:j<xs.length) (z:Int):
  RowN (w.setCell ⟨g,j*12+2,none⟩ (.int .i64 z)) B (.slice (some ⟨g,0,none⟩) n cap) (xs.set j ({xs[j].1 with same:=z},xs[j].2)):=by
 subst hn;have hr:=h;unfold RowN at hr;obtain ⟨h1,h2⟩:=World.ownsRow.stored hr (j*12+2) (.int .i64 z);rw [q0T xs j z hj]at h1;unfold RowN;rw [List.length_set];exact h1
theorem RowN.same_cell {w:World} {B g cap n:Nat} {xs:List NodP} (h:RowN w B (.slice (some ⟨g,0,none⟩) n cap) xs) (hn:n=xs.length) (j:Nat) (hj:j<xs.length):
  w.cell? ⟨g,j*12+2,none⟩=some (.int .i64 xs[j].1.same)∧w.frozen? ⟨g,j*12+2,none⟩=false:=by
 subst hn;have hr:=h;unfold RowN at hr;refine ⟨?_,World.ownsRow.frozenAt hr _⟩;rw [World.ownsRow.cellAt hr (j*12+2) (by omega),qfO xs j 2 hj (by omega)];rfl
theorem RowN.dat_cell {w:World} {B g cap n:Nat} {xs:List NodP} (h:RowN w B (.slice (some ⟨g,0,none⟩) n cap) xs) (hn:n=xs.length) (j:Nat) (hj:j<xs.length):
  w.cell? ⟨g,j*12+11,none⟩=some xs[j].2:=by
 subst hn;have hr:=h;unfold RowN at hr;rw [World.ownsRow.cellAt hr (j*12+11) (by omega),qfO xs j 11 hj (by omega)];rfl
end Go.Proofs.YtapgoifimhnbdaaGreatDoor
