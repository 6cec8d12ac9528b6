/- qaX of one kind, in one file: NodA, NodB. -/
import Derived.Test.YtapgoifimhnbdaaGreatDoorMet
import Derived.Test.YtapgoifimhnbdaaGreatDoorBas
set_option linter.unusedVariables false
set_option maxRecDepth 100000
namespace Go.Proofs.YtapgoifimhnbdaaGreatDoor
open Go.RowKit
open Go.OpenShut
open Go.ChangeShapes Go.WideShapes Go.Deep
def nodC (x:NodeV) (D:Option Addr) (c:Nat):List Value:=
 [.string (bs x.path),.int .i64 x.kind,.int .i64 x.same,.string (bs x.target),.int .i64 x.md.mode,.int .i64 x.md.uid,.int .i64 x.md.gid,.string (bs x.md.user),.string (bs x.md.group),.int .i64 x.md.second,.int .i64 x.md.nano,.slice D x.data.length c]
def qaJ (w:World) (A:Option Addr) (l:List NodeV):Prop:=
 ∀j (hj:j<l.length),∃(b o:Nat) (D:Option Addr) (c:Nat),A=some ⟨b,o,none⟩∧(∀i,i<12→w.cell? ⟨b,o+j*12+i,none⟩=(nodC l[j] D c)[i]?)∧SlOk D l[j].data.length c∧qaE w D l[j].data
theorem qaJ.nil (w:World) (A:Option Addr):qaJ w A []:=fun j hj=>by simp at hj
theorem qaJ.below {w w':World} {A:Option Addr} {l:List NodeV} (h:qaJ w A l) (hb:Below w.heap.size w w'):qaJ w' A l:=fun j hj=>by
 obtain ⟨b,o,D,c,e,h12,hs,hd⟩:=h j hj;have hlt:b<w.heap.size:=World.block_lt_of_cell? w _ (h12 0 (by omega));exact ⟨b,o,D,c,e,fun i hi=>(hb.cell (p:=⟨b,o+j*12+i,none⟩) hlt).trans (h12 i hi),hs,hd.below hb⟩
def NodeV.wf (x:NodeV):Prop:=(x.path.length≤140737488351232∧x.target.length≤140737488351232∧x.data.length≤140737488351232)∧x.md.wf∧(Lit.int .i64 x.kind).wf=true∧(Lit.int .i64 x.same).wf=true
section
variable {H:Type} {enc:TypeId×Value→H} {w:World} {base:Nat} {spare:Nat→Bool} {held:Bool}
end
end Go.Proofs.YtapgoifimhnbdaaGreatDoor
namespace Go.Proofs.YtapgoifimhnbdaaGreatDoor
open Go.RowKit
open Go.OpenShut
def nodV (x:NodeV) (v:Value):List Value:=
 [.string (bs x.path),.int .i64 x.kind,.int .i64 x.same,.string (bs x.target),.int .i64 x.md.mode,.int .i64 x.md.uid,.int .i64 x.md.gid,.string (bs x.md.user),.string (bs x.md.group),.int .i64 x.md.second,.int .i64 x.md.nano,v]
theorem nodC_eq (x:NodeV) (D:Option Addr) (c:Nat):nodC x D c=nodV x (.slice D x.data.length c):=rfl
theorem qb6 (x:NodeV) (v:Value):(nodV x v).length=12:=rfl
abbrev NodP:=NodeV×Value
def rowN (xs:List NodP):List Value:=xs.flatMap fun x=>nodV x.1 x.2
theorem qlW (xs ys:List NodP):rowN (xs++ys)=rowN xs++rowN ys:=by simp [rowN]
theorem qyJ (x:NodP):rowN [x]=nodV x.1 x.2:=by simp [rowN]
theorem qbT (xs:List NodP):(rowN xs).length=xs.length*12:=by
 induction xs with
 |nil=>rfl
 |cons x xs ih=>
  have e:rowN (x::xs)=nodV x.1 x.2++rowN xs:=rfl;rw [e,List.length_append,qb6,ih,List.length_cons];omega
theorem qeX (xs:List NodP) (j i:Nat) (hj:j<xs.length) (hi:i<12):(rowN xs)[j*12+i]?=(nodV xs[j].1 xs[j].2)[i]?:=by
 induction xs generalizing j with
 |nil=>simp at hj
 |cons x xs ih=>
  have e:rowN (x::xs)=nodV x.1 x.2++rowN xs:=rfl;rw [e];cases j with
  |zero=>rw [List.getElem?_append_left (by rw [qb6];omega)];simp
  |succ j=>
   rw [List.getElem?_append_right (by rw [qb6];omega),qb6,show (j+1)*12+i-12=j*12+i by omega,ih j (by simpa using hj)];rfl
def qcZ (w:World) (v:Value) (l:List UInt8):Prop:= ∃D c,v= .slice D l.length c∧SlOk D l.length c∧qaE w D l
theorem qcZ.below {w w':World} {v:Value} {l:List UInt8} (h:qcZ w v l) (hb:Below w.heap.size w w'):qcZ w' v l:=by
 obtain ⟨D,c,e,h1,h2⟩:=h;exact ⟨D,c,e,h1,h2.below hb⟩
theorem OwnB.dat {w:World} {B:Nat} {v:Value} {l:List UInt8} (h:OwnB w B v l):qcZ w v l:=h.form
theorem qcZ.nil (w:World):qcZ w (.slice none 0 0) []:=⟨none,0,rfl,⟨Nat.le_refl _,by decide,fun _=>rfl⟩,qaE.nil _ _⟩
def RowN (w:World) (B:Nat) (v:Value) (xs:List NodP):Prop:=w.ownsRow B 49 12 v xs.length (rowN xs)
theorem RowN.nil (w:World) (B:Nat):RowN w B (.slice none 0 0) []:=World.ownsRow_nil _ _ _ _
theorem RowN.below {w w':World} {B:Nat} {v:Value} {xs:List NodP} (h:RowN w B v xs) (hb:Below w.heap.size w w'):RowN w' B v xs:=
 qcB h fun g hg=>hb.block g (World.ownsRow.lt h g hg).2
theorem RowN.alloc {w:World} {B:Nat} {v:Value} {xs:List NodP} (h:RowN w B v xs) (o:Obj):RowN (w.alloc o) B v xs:=World.ownsRow.alloc h o
theorem RowN.form {w:World} {B:Nat} {v:Value} {xs:List NodP} (h:RowN w B v xs): ∃A c,v= .slice A xs.length c∧SlOk A xs.length c:=by
 unfold RowN World.ownsRow at h;rcases h.2 with ⟨rfl,h0⟩|⟨g,cap,cur,rfl,hB,hg,hcap,hm,hs,ht⟩
 ·rw [h0];exact ⟨none,0,rfl,⟨Nat.le_refl _,by decide,fun _=>rfl⟩⟩
 ·exact ⟨some ⟨g,0,none⟩,cap,rfl,⟨hcap,hm,fun e=>by cases e⟩⟩
theorem RowN.at {w:World} {B:Nat} {v:Value} {xs:List NodP} (h:RowN w B v xs) (hd: ∀x∈xs,qcZ w x.2 x.1.data): ∃A c,v= .slice A xs.length c∧SlOk A xs.length c∧qaJ w A (xs.map (·.1)):=by
 have h':=h;unfold RowN World.ownsRow at h;rcases h.2 with ⟨rfl,h0⟩|⟨g,cap,cur,rfl,hB,hg,hcap,hm,hs,ht⟩
 ·have e:=List.eq_nil_of_length_eq_zero h0;subst e;exact ⟨none,0,rfl,⟨Nat.le_refl _,by decide,fun _=>rfl⟩,qaJ.nil _ _⟩
 ·refine ⟨some ⟨g,0,none⟩,cap,rfl,⟨hcap,hm,fun e=>by cases e⟩,fun j hj=> ?_⟩;have hj':j<xs.length:=by simpa using hj
  obtain ⟨D,c,e,h1,h2⟩:=hd _ (List.getElem_mem hj');rw [List.getElem_map];refine ⟨g,0,D,c,rfl,fun i hi=> ?_,h1,h2⟩;rw [Nat.zero_add,World.ownsRow.cellAt h' (j*12+i) (by omega),qeX xs j i hj' hi,e];rfl
def OwnN (w:World) (B:Nat) (v:Value) (xs:List NodP):Prop:=RowN w B v xs∧ ∀x∈xs,OwnB w B x.2 x.1.data
theorem OwnN.nil (w:World) (B:Nat):OwnN w B (.slice none 0 0) []:=⟨RowN.nil _ _,fun x hx=>by simp at hx⟩
theorem OwnN.below {w w':World} {B:Nat} {v:Value} {xs:List NodP} (h:OwnN w B v xs) (hb:Below w.heap.size w w'):OwnN w' B v xs:=⟨h.1.below hb,fun x hx=>(h.2 x hx).below hb⟩
theorem OwnN.at {w:World} {B:Nat} {v:Value} {xs:List NodP} (h:OwnN w B v xs): ∃A c,v= .slice A xs.length c∧SlOk A xs.length c∧qaJ w A (xs.map (·.1)):=h.1.at fun x hx=>(h.2 x hx).dat
theorem RowN.mono {w:World} {B B':Nat} {v:Value} {xs:List NodP} (h:RowN w B v xs) (hB:B'≤B):RowN w B' v xs:=qhN h hB
theorem OwnN.mono {w:World} {B B':Nat} {v:Value} {xs:List NodP} (h:OwnN w B v xs) (hB:B'≤B):OwnN w B' v xs:=⟨h.1.mono hB,fun x hx=>(h.2 x hx).mono hB⟩
theorem qgU {w:World} {B B':Nat} {v u:Value} {l:List UInt8} {xs:List NodP} (h:OwnB w B v l) (h':RowN w B' u xs): ∀g,v.ownBlock=some g→u.ownBlock≠some g:=by
 intro g hg hu;obtain ⟨-,c1,e1⟩:=qa2 h g hg;obtain ⟨-,c2,e2⟩:=qa2 h' g hu;rw [e1]at e2;simp only [Option.some.injEq,Obj.cells.injEq]at e2;exact absurd e2.2.1 (by decide)
theorem OwnB.grown {w w':World} {B:Nat} {v:Value} {l:List UInt8} {row:Option Nat} (h:OwnB w B v l) (hg:w.grownBy w' row) (hr: ∀g,v.ownBlock=some g→row≠some g):OwnB w' B v l:=
 qcB h fun g e=>hg.block g (World.ownsRow.lt h g e).2 (fun e2=>hr g e e2.symm)
end Go.Proofs.YtapgoifimhnbdaaGreatDoor
