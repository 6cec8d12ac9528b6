/- qaV of one kind, in one file: EntA, EntB. -/
import Derived.Test.YtapgoifimhnbdaaGreatDoorNoa
import Derived.Test.YtapgoifimhnbdaaGreatDoorMth
set_option linter.unusedVariables false
set_option maxRecDepth 100000
namespace Go.Proofs.YtapgoifimhnbdaaGreatDoor
open Go.RowKit
open Go.OpenShut
open Go.ChangeShapes Go.WideShapes Go.Deep
def entC (x:EntV) (D:Option Addr) (c:Nat):List Value:=
 [.string (bs x.path),.int .i64 x.kind,.string (bs x.target),.int .i64 x.md.mode,.int .i64 x.md.uid,.int .i64 x.md.gid,.string (bs x.md.user),.string (bs x.md.group),.int .i64 x.md.second,.int .i64 x.md.nano,.slice D x.data.length c]
def qcO (w:World) (A:Option Addr) (l:List EntV):Prop:=
 ∀j (hj:j<l.length),∃(b o:Nat) (D:Option Addr) (c:Nat),A=some ⟨b,o,none⟩∧(∀i,i<11→w.cell? ⟨b,o+j*11+i,none⟩=(entC l[j] D c)[i]?)∧SlOk D l[j].data.length c∧qaE w D l[j].data
theorem qcO.nil (w:World) (A:Option Addr):qcO w A []:=fun j hj=>by simp at hj
theorem qcO.below {w w':World} {A:Option Addr} {l:List EntV} (h:qcO w A l) (hb:Below w.heap.size w w'):qcO w' A l:=fun j hj=>by
 obtain ⟨b,o,D,c,e,h11,hs,hd⟩:=h j hj;have hlt:b<w.heap.size:=World.block_lt_of_cell? w _ (h11 0 (by omega));exact ⟨b,o,D,c,e,fun i hi=>(hb.cell (p:=⟨b,o+j*11+i,none⟩) hlt).trans (h11 i hi),hs,hd.below hb⟩
def EntV.wf (x:EntV):Prop:=(x.path.length≤140737488351232∧x.target.length≤140737488351232∧x.data.length≤140737488351232)∧x.md.wf∧(Lit.int .i64 x.kind).wf=true
section
variable {H:Type} {enc:TypeId×Value→H} {w:World} {base:Nat} {spare:Nat→Bool} {held:Bool}
end
end Go.Proofs.YtapgoifimhnbdaaGreatDoor
namespace Go.Proofs.YtapgoifimhnbdaaGreatDoor
open Go.RowKit
open Go.OpenShut
def entV (x:EntV) (v:Value):List Value:=
 [.string (bs x.path),.int .i64 x.kind,.string (bs x.target),.int .i64 x.md.mode,.int .i64 x.md.uid,.int .i64 x.md.gid,.string (bs x.md.user),.string (bs x.md.group),.int .i64 x.md.second,.int .i64 x.md.nano,v]
theorem qf8 (x:EntV) (v:Value):(entV x v).length=11:=rfl
abbrev EntP:=EntV×Value
def rowE (xs:List EntP):List Value:=xs.flatMap fun x=>entV x.1 x.2
theorem q44 (xs ys:List EntP):rowE (xs++ys)=rowE xs++rowE ys:=by simp [rowE]
theorem q42 (x:EntP):rowE [x]=entV x.1 x.2:=by simp [rowE]
theorem quE (xs:List EntP):(rowE xs).length=xs.length*11:=by
 induction xs with
 |nil=>rfl
 |cons x xs ih=>
  have e:rowE (x::xs)=entV x.1 x.2++rowE xs:=rfl;rw [e,List.length_append,qf8,ih,List.length_cons];omega
theorem q43 (xs:List EntP) (j i:Nat) (hj:j<xs.length) (hi:i<11):(rowE xs)[j*11+i]?=(entV xs[j].1 xs[j].2)[i]?:=by
 induction xs generalizing j with
 |nil=>simp at hj
 |cons x xs ih=>
  have e:rowE (x::xs)=entV x.1 x.2++rowE xs:=rfl;rw [e];cases j with
  |zero=>rw [List.getElem?_append_left (by rw [qf8];omega)];simp
  |succ j=>
   rw [List.getElem?_append_right (by rw [qf8];omega),qf8,show (j+1)*11+i-11=j*11+i by omega,ih j (by simpa using hj)];rfl
def RowE (w:World) (B:Nat) (v:Value) (xs:List EntP):Prop:=w.ownsRow B 73 11 v xs.length (rowE xs)
theorem RowE.nil (w:World) (B:Nat):RowE w B (.slice none 0 0) []:=World.ownsRow_nil _ _ _ _
theorem RowE.below {w w':World} {B:Nat} {v:Value} {xs:List EntP} (h:RowE w B v xs) (hb:Below w.heap.size w w'):RowE w' B v xs:=
 qc7 h fun g hg=>hb.block g (World.ownsRow.lt h g hg).2
theorem RowE.alloc {w:World} {B:Nat} {v:Value} {xs:List EntP} (h:RowE w B v xs) (o:Obj):RowE (w.alloc o) B v xs:=World.ownsRow.alloc h o
theorem RowE.at {w:World} {B:Nat} {v:Value} {xs:List EntP} (h:RowE w B v xs) (hd: ∀x∈xs,qd1 w x.2 x.1.data): ∃A c,v= .slice A xs.length c∧SlOk A xs.length c∧qcO w A (xs.map (·.1)):=by
 have h':=h;unfold RowE World.ownsRow at h;rcases h.2 with ⟨rfl,h0⟩|⟨g,cap,cur,rfl,hB,hg,hcap,hm,hs,ht⟩
 ·have e:=List.eq_nil_of_length_eq_zero h0;subst e;exact ⟨none,0,rfl,⟨Nat.le_refl _,by decide,fun _=>rfl⟩,qcO.nil _ _⟩
 ·refine ⟨some ⟨g,0,none⟩,cap,rfl,⟨hcap,hm,fun e=>by cases e⟩,fun j hj=> ?_⟩;have hj':j<xs.length:=by simpa using hj
  obtain ⟨D,c,e,h1,h2⟩:=hd _ (List.getElem_mem hj');rw [List.getElem_map];refine ⟨g,0,D,c,rfl,fun i hi=> ?_,h1,h2⟩;rw [Nat.zero_add,World.ownsRow.cellAt h' (j*11+i) (by omega),q43 xs j i hj' hi,e];rfl
def OwnE (w:World) (B:Nat) (v:Value) (xs:List EntP):Prop:=RowE w B v xs∧ ∀x∈xs,OwnB w B x.2 x.1.data
theorem OwnE.nil (w:World) (B:Nat):OwnE w B (.slice none 0 0) []:=⟨RowE.nil _ _,fun x hx=>by simp at hx⟩
theorem OwnE.below {w w':World} {B:Nat} {v:Value} {xs:List EntP} (h:OwnE w B v xs) (hb:Below w.heap.size w w'):OwnE w' B v xs:=⟨h.1.below hb,fun x hx=>(h.2 x hx).below hb⟩
theorem OwnE.at {w:World} {B:Nat} {v:Value} {xs:List EntP} (h:OwnE w B v xs): ∃A c,v= .slice A xs.length c∧SlOk A xs.length c∧qcO w A (xs.map (·.1)):=h.1.at fun x hx=>(h.2 x hx).dat
theorem qoT {w:World} {B B':Nat} {v u:Value} {l:List UInt8} {xs:List EntP} (h:OwnB w B v l) (h':RowE w B' u xs): ∀g,v.ownBlock=some g→u.ownBlock≠some g:=by
 intro g hg hu;obtain ⟨-,c1,e1⟩:=qcS h g hg;obtain ⟨-,c2,e2⟩:=qcS h' g hu;rw [e1]at e2;simp only [Option.some.injEq,Obj.cells.injEq]at e2;exact absurd e2.2.1 (by decide)
end Go.Proofs.YtapgoifimhnbdaaGreatDoor
