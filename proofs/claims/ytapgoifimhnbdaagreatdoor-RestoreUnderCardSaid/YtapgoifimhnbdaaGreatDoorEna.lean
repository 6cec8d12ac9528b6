/- qaX of one kind, in one file: EntA, EntB, EntD, EntE, EntF, EntT, EntC. -/
import Derived.Test.YtapgoifimhnbdaaGreatDoorNoa
import Derived.Test.YtapgoifimhnbdaaGreatDoorMth
import Derived.Test.YtapgoifimhnbdaaGreatDoorNod
import Derived.Deep.DeepCutAuto
import Derived.Test.YtapgoifimhnbdaaGreatDoorTra
set_option linter.unusedVariables false
set_option maxRecDepth 100000
namespace Go.Proofs.YtapgoifimhnbdaaGreatDoor
open Go.RowKit
open Go.OpenShut
open Go.ChangeShapes Go.WideShapes Go.Deep
def entC (x:EntV) (D:Option Addr) (c:Nat):List Value:=
 [.string (bs x.path),.int .i64 x.kind,.string (bs x.target),.int .i64 x.md.mode,.int .i64 x.md.uid,.int .i64 x.md.gid,.string (bs x.md.user),.string (bs x.md.group),.int .i64 x.md.second,.int .i64 x.md.nano,.slice D x.data.length c]
def qdJ (w:World) (A:Option Addr) (l:List EntV):Prop:=
 ∀j (hj:j<l.length),∃(b o:Nat) (D:Option Addr) (c:Nat),A=some ⟨b,o,none⟩∧(∀i,i<11→w.cell? ⟨b,o+j*11+i,none⟩=(entC l[j] D c)[i]?)∧SlOk D l[j].data.length c∧qaE w D l[j].data
theorem qdJ.nil (w:World) (A:Option Addr):qdJ w A []:=fun j hj=>by simp at hj
theorem qdJ.below {w w':World} {A:Option Addr} {l:List EntV} (h:qdJ w A l) (hb:Below w.heap.size w w'):qdJ w' A l:=fun j hj=>by
 obtain ⟨b,o,D,c,e,h11,hs,hd⟩:=h j hj;have hlt:b<w.heap.size:=World.block_lt_of_cell? w _ (h11 0 (by omega));exact ⟨b,o,D,c,e,fun i hi=>(hb.cell (p:=⟨b,o+j*11+i,none⟩) hlt).trans (h11 i hi),hs,hd.below hb⟩
def EntV.wf (x:EntV):Prop:=(x.path.length≤140737488351232∧x.target.length≤140737488351232∧x.data.length≤140737488351232)∧x.md.wf∧(Lit.int .i64 x.kind).wf=true
section
variable {H:Type} {enc:TypeId×Value→H} {w:World} {base:Nat} {spare:Nat→Bool} {held:Bool}
end
end Go.Proofs.YtapgoifimhnbdaaGreatDoor
namespace Go.Proofs.YtapgoifimhnbdaaGreatDoor
open Go.RowKit
open Go.OpenShut
def entV (x:EntV) (v:Value):List Value:=
 [.string (bs x.path),.int .i64 x.kind,.string (bs x.target),.int .i64 x.md.mode,.int .i64 x.md.uid,.int .i64 x.md.gid,.string (bs x.md.user),.string (bs x.md.group),.int .i64 x.md.second,.int .i64 x.md.nano,v]
theorem qf8 (x:EntV) (v:Value):(entV x v).length=11:=rfl
abbrev EntP:=EntV×Value
def rowE (xs:List EntP):List Value:=xs.flatMap fun x=>entV x.1 x.2
theorem q9U (xs ys:List EntP):rowE (xs++ys)=rowE xs++rowE ys:=by simp [rowE]
theorem q9S (x:EntP):rowE [x]=entV x.1 x.2:=by simp [rowE]
theorem qwK (xs:List EntP):(rowE xs).length=xs.length*11:=by
 induction xs with
 |nil=>rfl
 |cons x xs ih=>
  have e:rowE (x::xs)=entV x.1 x.2++rowE xs:=rfl;rw [e,List.length_append,qf8,ih,List.length_cons];omega
theorem q9T (xs:List EntP) (j i:Nat) (hj:j<xs.length) (hi:i<11):(rowE xs)[j*11+i]?=(entV xs[j].1 xs[j].2)[i]?:=by
 induction xs generalizing j with
 |nil=>simp at hj
 |cons x xs ih=>
  have e:rowE (x::xs)=entV x.1 x.2++rowE xs:=rfl;rw [e];cases j with
  |zero=>rw [List.getElem?_append_left (by rw [qf8];omega)];simp
  |succ j=>
   rw [List.getElem?_append_right (by rw [qf8];omega),qf8,show (j+1)*11+i-11=j*11+i by omega,ih j (by simpa using hj)];rfl
def RowE (w:World) (B:Nat) (v:Value) (xs:List EntP):Prop:=w.ownsRow B 73 11 v xs.length (rowE xs)
theorem RowE.nil (w:World) (B:Nat):RowE w B (.slice none 0 0) []:=World.ownsRow_nil _ _ _ _
theorem RowE.below {w w':World} {B:Nat} {v:Value} {xs:List EntP} (h:RowE w B v xs) (hb:Below w.heap.size w w'):RowE w' B v xs:=
 qcB h fun g hg=>hb.block g (World.ownsRow.lt h g hg).2
theorem RowE.alloc {w:World} {B:Nat} {v:Value} {xs:List EntP} (h:RowE w B v xs) (o:Obj):RowE (w.alloc o) B v xs:=World.ownsRow.alloc h o
theorem RowE.at {w:World} {B:Nat} {v:Value} {xs:List EntP} (h:RowE w B v xs) (hd: ∀x∈xs,qcZ w x.2 x.1.data): ∃A c,v= .slice A xs.length c∧SlOk A xs.length c∧qdJ w A (xs.map (·.1)):=by
 have h':=h;unfold RowE World.ownsRow at h;rcases h.2 with ⟨rfl,h0⟩|⟨g,cap,cur,rfl,hB,hg,hcap,hm,hs,ht⟩
 ·have e:=List.eq_nil_of_length_eq_zero h0;subst e;exact ⟨none,0,rfl,⟨Nat.le_refl _,by decide,fun _=>rfl⟩,qdJ.nil _ _⟩
 ·refine ⟨some ⟨g,0,none⟩,cap,rfl,⟨hcap,hm,fun e=>by cases e⟩,fun j hj=> ?_⟩;have hj':j<xs.length:=by simpa using hj
  obtain ⟨D,c,e,h1,h2⟩:=hd _ (List.getElem_mem hj');rw [List.getElem_map];refine ⟨g,0,D,c,rfl,fun i hi=> ?_,h1,h2⟩;rw [Nat.zero_add,World.ownsRow.cellAt h' (j*11+i) (by omega),q9T xs j i hj' hi,e];rfl
def OwnE (w:World) (B:Nat) (v:Value) (xs:List EntP):Prop:=RowE w B v xs∧ ∀x∈xs,OwnB w B x.2 x.1.data
theorem OwnE.nil (w:World) (B:Nat):OwnE w B (.slice none 0 0) []:=⟨RowE.nil _ _,fun x hx=>by simp at hx⟩
theorem OwnE.below {w w':World} {B:Nat} {v:Value} {xs:List EntP} (h:OwnE w B v xs) (hb:Below w.heap.size w w'):OwnE w' B v xs:=⟨h.1.below hb,fun x hx=>(h.2 x hx).below hb⟩
theorem OwnE.at {w:World} {B:Nat} {v:Value} {xs:List EntP} (h:OwnE w B v xs): ∃A c,v= .slice A xs.length c∧SlOk A xs.length c∧qdJ w A (xs.map (·.1)):=h.1.at fun x hx=>(h.2 x hx).dat
theorem RowE.mono {w:World} {B B':Nat} {v:Value} {xs:List EntP} (h:RowE w B v xs) (hB:B'≤B):RowE w B' v xs:=qhN h hB
theorem qpS {w:World} {B B':Nat} {v u:Value} {l:List UInt8} {xs:List EntP} (h:OwnB w B v l) (h':RowE w B' u xs): ∀g,v.ownBlock=some g→u.ownBlock≠some g:=by
 intro g hg hu;obtain ⟨-,c1,e1⟩:=qa2 h g hg;obtain ⟨-,c2,e2⟩:=qa2 h' g hu;rw [e1]at e2;simp only [Option.some.injEq,Obj.cells.injEq]at e2;exact absurd e2.2.1 (by decide)
theorem qaP {w:World} {g t:Nat} {a0 a1 a2 a3 a4 a5 a6 a7 a8 a9 a10:Value} (h:Blk w g t #[a0,a1,a2,a3,a4,a5,a6,a7,a8,a9,a10]):
  (w.cell? ⟨g,0,none⟩=some a0∧w.cell? ⟨g,1,none⟩=some a1∧w.cell? ⟨g,2,none⟩=some a2∧w.cell? ⟨g,3,none⟩=some a3∧w.cell? ⟨g,4,none⟩=some a4∧w.cell? ⟨g,5,none⟩=some a5∧w.cell? ⟨g,6,none⟩=some a6∧w.cell? ⟨g,7,none⟩=some a7∧w.cell? ⟨g,8,none⟩=some a8∧w.cell? ⟨g,9,none⟩=some a9∧w.cell? ⟨g,10,none⟩=some a10)∧
  (w.frozen? ⟨g,0,none⟩=false∧w.frozen? ⟨g,1,none⟩=false∧w.frozen? ⟨g,2,none⟩=false∧w.frozen? ⟨g,3,none⟩=false∧w.frozen? ⟨g,4,none⟩=false∧w.frozen? ⟨g,5,none⟩=false∧w.frozen? ⟨g,6,none⟩=false∧w.frozen? ⟨g,7,none⟩=false∧w.frozen? ⟨g,8,none⟩=false∧w.frozen? ⟨g,9,none⟩=false∧w.frozen? ⟨g,10,none⟩=false):=
 ⟨⟨h.cell 0,h.cell 1,h.cell 2,h.cell 3,h.cell 4,h.cell 5,h.cell 6,h.cell 7,h.cell 8,h.cell 9,h.cell 10⟩,h.frozen 0,h.frozen 1,h.frozen 2,h.frozen 3,h.frozen 4,h.frozen 5,h.frozen 6,h.frozen 7,h.frozen 8,h.frozen 9,h.frozen 10⟩
theorem qdJ.cells {w:World} {A:Option Addr} {l:List EntV} (h:qdJ w A l) (j:Nat) (hj:j<l.length): ∃(b o:Nat) (D:Option Addr) (c:Nat),A=some ⟨b,o,none⟩∧
  w.cell? ⟨b,o+j*11,none⟩=some (.string (bs l[j].path))∧w.cell? ⟨b,o+j*11+1,none⟩=some (.int .i64 l[j].kind)∧w.cell? ⟨b,o+j*11+2,none⟩=some (.string (bs l[j].target))∧
  (w.cell? ⟨b,o+j*11+3,none⟩=some (.int .i64 l[j].md.mode)∧w.cell? ⟨b,o+j*11+4,none⟩=some (.int .i64 l[j].md.uid)∧w.cell? ⟨b,o+j*11+5,none⟩=some (.int .i64 l[j].md.gid)∧w.cell? ⟨b,o+j*11+6,none⟩=some (.string (bs l[j].md.user))∧w.cell? ⟨b,o+j*11+7,none⟩=some (.string (bs l[j].md.group))∧w.cell? ⟨b,o+j*11+8,none⟩=some (.int .i64 l[j].md.second)∧w.cell? ⟨b,o+j*11+9,none⟩=some (.int .i64 l[j].md.nano))∧
  w.cell? ⟨b,o+j*11+10,none⟩=some (.slice D l[j].data.length c)∧SlOk D l[j].data.length c∧qaE w D l[j].data:=by
 obtain ⟨b,o,D,c,e,h12,hs,hd⟩:=h j hj;exact ⟨b,o,D,c,e,h12 0 (by omega),h12 1 (by omega),h12 2 (by omega),⟨h12 3 (by omega),h12 4 (by omega),h12 5 (by omega),h12 6 (by omega),h12 7 (by omega),h12 8 (by omega),h12 9 (by omega)⟩,h12 10 (by omega),hs,hd⟩
end Go.Proofs.YtapgoifimhnbdaaGreatDoor
namespace Go.Proofs.YtapgoifimhnbdaaGreatDoor
open Go.RowKit
open Go.OpenShut
open Go.Deep
def q82:Array Value:= #[.string ⟨#[]⟩,.int .i64 0,.string ⟨#[]⟩,.int .i64 0,.int .i64 0,.int .i64 0,.string ⟨#[]⟩,.string ⟨#[]⟩,.int .i64 0,.int .i64 0,.slice none 0 0]
theorem zdM:(Tryz.prog.info? 73).map (fun i=>(i.zero,i.size,i.bytes))=some (some (.agg q82),11,136):=by kernel_rfl
theorem q7G (x:EntV) (v:Value) (hv:v.oneCell'=true): ∀u∈entV x v,u.oneCell'=true:=by
 intro u hu;unfold entV at hu;simp only [List.mem_cons,List.not_mem_nil,or_false]at hu;rcases hu with rfl|rfl|rfl|rfl|rfl|rfl|rfl|rfl|rfl|rfl|rfl
 all_goals first|rfl|exact hv
theorem q4G (ys:List EntP) (h: ∀y∈ys,y.2.oneCell'=true): ∀u∈rowE ys,u.oneCell'=true:=by
 intro u hu;unfold rowE at hu;obtain ⟨y,hy,hu⟩:=List.mem_flatMap.1 hu;exact q7G y.1 y.2 (h y hy) u hu
def qvX (w:World) (A:Option Addr) (ys:List EntP):Prop:= ∀ad,A=some ad→ ∀j u,(rowE ys)[j]?=some u→w.cell? (ad.add j)=some u
theorem qdJ.cells2 {w:World} {A:Option Addr} {l:List EntV} (h:qdJ w A l) (j:Nat) (hj:j<l.length): ∃(b o:Nat) (D:Option Addr) (c:Nat),A=some ⟨b,o,none⟩∧b<w.heap.size∧SlOk D l[j].data.length c∧qaE w D l[j].data∧ ∀W:World,Below w.heap.size w W→
  W.cell? ⟨b,o+j*11,none⟩=some (.string (bs l[j].path))∧W.cell? ⟨b,o+j*11+1,none⟩=some (.int .i64 l[j].kind)∧W.cell? ⟨b,o+j*11+2,none⟩=some (.string (bs l[j].target))∧
  (W.cell? ⟨b,o+j*11+3,none⟩=some (.int .i64 l[j].md.mode)∧W.cell? ⟨b,o+j*11+4,none⟩=some (.int .i64 l[j].md.uid)∧W.cell? ⟨b,o+j*11+5,none⟩=some (.int .i64 l[j].md.gid)∧W.cell? ⟨b,o+j*11+6,none⟩=some (.string (bs l[j].md.user))∧W.cell? ⟨b,o+j*11+7,none⟩=some (.string (bs l[j].md.group))∧W.cell? ⟨b,o+j*11+8,none⟩=some (.int .i64 l[j].md.second)∧W.cell? ⟨b,o+j*11+9,none⟩=some (.int .i64 l[j].md.nano))∧
  W.cell? ⟨b,o+j*11+10,none⟩=some (.slice D l[j].data.length c):=by
 obtain ⟨b,o,D,c,e,c0,c1,c3,⟨c4,c5,c6,c7,c8,c9,cA⟩,cB,hs,hd⟩:=h.cells j hj;have hlt:b<w.heap.size:=World.block_lt_of_cell? w _ c0;refine ⟨b,o,D,c,e,hlt,hs,hd,fun W hb=> ?_⟩;have hc: ∀i,W.cell? ⟨b,i,none⟩=w.cell? ⟨b,i,none⟩:=fun i=>hb.cell (p:=⟨b,i,none⟩) hlt;simp only [hc];exact ⟨c0,c1,c3,⟨c4,c5,c6,c7,c8,c9,cA⟩,cB⟩
theorem qiO {w:World} {ops:Array Oper} {rest:List Oper} {o:Oper} {a:Act} {Q:Exit→Act→World→Prop} (hgd:o.guard=none) (s x:Operand)
  (ho:o.op= .call {callee:= .builtin .append,args:= #[s,x],argTypes:= #[34,34] }) (B:Nat) (v:Value) (xs:List EntP) (hs:a.eval s=v) (hown:RowE w B v xs)
  (A:Option Addr) (m c:Nat) (ys:List EntP) (hx:a.eval x= .slice A m c) (hl:ys.length=m) (hA:qvX w A ys) (hy1: ∀y∈ys,y.2.oneCell'=true) (hc:A=none→c=0∧m=0) (hbig:(xs.length+m)*136≤140737488355328) (hB:B≤w.heap.size)
  (h: ∀v' w',RowE w' B v' (xs++ys)→w.grownBy w' v.ownBlock→wpList Tryz.prog ops Q rest (a.put o.dst v') w'):wpList Tryz.prog ops Q (o::rest) a w:=by
 obtain ⟨i0,hi,hz0,hz1,hz2⟩:=info_parts zdM;cases A with
 |none=>
  obtain ⟨rfl,rfl⟩:=hc rfl;obtain rfl:=List.eq_nil_of_length_eq_zero hl;refine wpList_append_own_none hgd s x 34 ho B 73 i0 11 Tryz.underlying34 hi v _ _ hs hown hx ?_;exact h v w (by rw [List.append_nil];exact hown) ⟨rfl,rfl,rfl,Nat.le_refl _,fun _ _ _=>rfl⟩
 |some ad=>
  refine wpList_append_own _ hgd s x 34 ho B 73 i0 _ 11 136 Tryz.underlying34 hi hz0 hz1 hz2 rfl (by decide) v _ _ hs hown ad m c (rowE ys) hx (by rw [qwK,hl]) (hA ad rfl) (q4G ys hy1) (by unfold maxLen;omega) hbig hB ?_;intro v6 w6 hown6 hgrow _;exact h v6 w6 (by unfold RowE;rw [List.length_append,q9U,hl];exact hown6) hgrow
theorem qkU (w:World) (y:EntP):qvX (w.alloc (.cells (entV y.1 y.2).toArray 73)) (some ⟨w.heap.size,0,none⟩) [y]:=fun ad ha j u hu=>by
 injection ha with ha
 subst ha;rw [q9S]at hu;rw [Addr.add_lit,Nat.zero_add];have:=(Blk.new w 73 (entV y.1 y.2).toArray).cell j;rw [this,List.getElem?_toArray];exact hu
theorem OwnE.push {w w':World} {B:Nat} {v v':Value} {xs:List EntP} {y:EntP} (h:OwnE w B v xs) (hy:OwnB w B y.2 y.1.data) (hr:RowE w' B v' (xs++ [y])) (hg:w.grownBy w' v.ownBlock):OwnE w' B v' (xs++ [y]):=by
 refine ⟨hr,fun x hx=> ?_⟩;rcases List.mem_append.1 hx with a|a
 ·exact (h.2 x a).grown hg fun g e e2=>qpS (h.2 x a) h.1 g e e2
 ·obtain rfl:x=y:=by simpa using a
  exact hy.grown hg fun g e e2=>qpS hy h.1 g e e2
theorem OwnE.alloc {w:World} {B:Nat} {v:Value} {xs:List EntP} (h:OwnE w B v xs) (o:Obj):OwnE (w.alloc o) B v xs:=⟨h.1.alloc o,fun x hx=>(h.2 x hx).alloc o⟩
theorem RowE.above {w:World} {B:Nat} {v:Value} {xs:List EntP} (h:RowE w B v xs): ∀g,v.ownBlock=some g→B≤g:=fun g e=>(World.ownsRow.lt h g e).1
theorem q1H (w:World) (n:Nat) (hn:n*136≤140737488355328) (i0:TypeInfo) (hi:Tryz.prog.info? 73=some i0) (hz0:i0.zero=some (.agg q82)) (hz1:i0.size=11) (hz2:i0.bytes=136):
  ∃M:Array Value,(∀W:World,(Instr.makeSlice 34 (.int .i64 0) (.int .i64 (n:Int))).run Tryz.prog W= .ok (.slice (some ⟨W.heap.size,0,none⟩) 0 n) (W.alloc (.cells M 73)))∧
   ∀(W:World) (B:Nat),B≤W.heap.size→OwnE (W.alloc (.cells M 73)) B (.slice (some ⟨W.heap.size,0,none⟩) 0 n) []:=by
 obtain ⟨M,hM⟩: ∃M,M=madeCells (Value.agg q82).cells (((n:Nat):Int).toNat*i0.size):=⟨_,rfl⟩;have hMs:M.size=n*11:=by rw [hM,hz1,Int.toNat_natCast];simp [madeCells]
 refine ⟨M,fun W=> ?_,fun W B hB=>⟨?_,fun x hx=>by simp at hx⟩⟩
 ·have h:=run_make (P:=Tryz.prog) W 34 73 i0 (.agg q82) Tryz.underlying34 hi hz0 .i64 .i64 0 (n:Int) (by omega) (by omega) (by rw [hz2];omega) (by omega);rw [←hM]at h;simpa using h
 ·exact ⟨rfl,.inr ⟨W.heap.size,n,M,rfl,hB,heap_alloc_new W _,Nat.zero_le _,by unfold maxLen;omega,hMs,rfl⟩⟩
end Go.Proofs.YtapgoifimhnbdaaGreatDoor
namespace Go.Proofs.YtapgoifimhnbdaaGreatDoor
open Go.RowKit
open Go.OpenShut
def EntV.sz (x:EntV):Prop:=(x.path.length≤140737488351232∧x.target.length≤140737488351232∧x.data.length≤140737488351232)∧x.md.sz
theorem q7H {n:EntV} (h:qa6 n.path≠0):entE n=qa6 n.path:=if_pos h
theorem q7I {n:EntV} (h:qa6 n.path=0) (h2:metE n.md≠0):entE n=metE n.md:=by unfold entE;rw [if_neg (by simp [h]),if_pos h2]
theorem qn3 {n:EntV} (h:qa6 n.path=0) (h2:metE n.md=0):entE n=entK n:=by unfold entE;rw [if_neg (by simp [h]),if_neg (by simp [h2])]
end Go.Proofs.YtapgoifimhnbdaaGreatDoor
