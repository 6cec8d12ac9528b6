/- qaX of one kind, in one file: Slc, Byt, Owb, Byc. -/
import Derived.Test.YtapgoifimhnbdaaGreatDoorMth
import Derived.Laws.OwnMore
import Derived.Deep.Slices
import Derived.Deep.Fields
import Derived.ChangeSame
import Derived.SizedLaws
import Derived.ChangeSlices
import Derived.Below
import Derived.Laws.AppendOwnNone
import Derived.Laws.MakeOwn
import Derived.Laws.CopyOwn
import Derived.Laws.IdiomStrings
import Derived.Laws.BytesArg
import Derived.ArgAppend
import Derived.Lib.ConvBytes
set_option linter.unusedVariables false
set_option maxRecDepth 100000
namespace Go.Proofs.YtapgoifimhnbdaaGreatDoor
open Go.RowKit
open Go.OpenShut
open Go.ChangeShapes Go.WideShapes Go.Deep
instance:Inhabited RawV:=⟨⟨0,0,0,ByteArray.empty⟩⟩
def Stay (p:Prop):Prop:=p
theorem Stay.go {p:Prop} (h:Stay p):p:=h
theorem Stay.on {p:Prop} (h:p):Stay p:=h
theorem qcB {w w':World} {B e size:Nat} {v:Value} {n:Nat} {xs:List Value} (h:w.ownsRow B e size v n xs) (hk: ∀g,v.ownBlock=some g→w'.heap[g]?=w.heap[g]?):w'.ownsRow B e size v n xs:=by
 unfold World.ownsRow at h⊢;refine ⟨h.1,?_⟩;rcases h.2 with ⟨rfl,h0⟩|⟨g,cap,cur,rfl,hB,hg,hcap,hm,hs,ht⟩
 ·exact .inl ⟨rfl,h0⟩
 ·exact .inr ⟨g,cap,cur,rfl,hB,(hk g rfl).trans hg,hcap,hm,hs,ht⟩
theorem qa2 {w:World} {B e size:Nat} {v:Value} {n:Nat} {xs:List Value} (h:w.ownsRow B e size v n xs): ∀g0,v.ownBlock=some g0→B≤g0∧ ∃cur,w.heap[g0]?=some (.cells cur e (0,0)):=by
 intro g0 hg0;unfold World.ownsRow at h;rcases h.2 with ⟨rfl,h0⟩|⟨g,cap,cur,rfl,hB,hg,hcap,hm,hs,ht⟩
 ·cases hg0
 ·have e1:g=g0:=by simpa [Value.ownBlock]using hg0
  subst e1;exact ⟨hB,cur,hg⟩
theorem qhN {w:World} {B B' e size:Nat} {v:Value} {n:Nat} {xs:List Value} (h:w.ownsRow B e size v n xs) (hB:B'≤B):w.ownsRow B' e size v n xs:=by
 unfold World.ownsRow at h⊢;refine ⟨h.1,?_⟩;rcases h.2 with ⟨rfl,h0⟩|⟨g,cap,cur,rfl,hB',hg,hcap,hm,hs,ht⟩
 ·exact .inl ⟨rfl,h0⟩
 ·exact .inr ⟨g,cap,cur,rfl,by omega,hg,hcap,hm,hs,ht⟩
def qd6 (w:World) (A:Option Addr) (rs:List RawV):Prop:=
 ∀j (hj:j<rs.length),∃b o,A=some ⟨b,o,none⟩∧ ∀i,i<4→w.cell? ⟨b,o+j*4+i,none⟩=(rawC rs[j])[i]?
theorem zaG {w:World} {b o:Nat} {r:RawV} (h: ∀i,i<4→w.cell? ⟨b,o+i,none⟩=(rawC r)[i]?):
  w.cell? ⟨b,o,none⟩=some (.int .i64 r.kind)∧w.cell? ⟨b,o+1,none⟩=some (.int .i64 r.a)∧w.cell? ⟨b,o+2,none⟩=some (.int .i64 r.b)∧w.cell? ⟨b,o+3,none⟩=some (.string r.text):=
 ⟨h 0 (by omega),h 1 (by omega),h 2 (by omega),h 3 (by omega)⟩
def RecsB (w:World) (A:Option Addr) (l:List (ByteArray×ByteArray)):Prop:=
 ∀(j:Nat) (h:j<l.length),∃b o,A=some ⟨b,o,none⟩∧w.cell? ⟨b,o+j*2,none⟩=some (.string l[j].1)∧w.cell? ⟨b,o+j*2+1,none⟩=some (.string l[j].2)
theorem qd6.below {w w':World} {A:Option Addr} {l:List RawV} (h:qd6 w A l) (hb:Below w.heap.size w w'):qd6 w' A l:=fun j hj=>by
 obtain ⟨b,o,e,h4⟩:=h j hj;have hlt:b<w.heap.size:=World.block_lt_of_cell? w _ (h4 0 (by omega));exact ⟨b,o,e,fun i hi=>(hb.cell (p:=⟨b,o+j*4+i,none⟩) hlt).trans (h4 i hi)⟩
section
variable {H:Type} {enc:TypeId×Value→H} {w:World} {base:Nat} {spare:Nat→Bool} {held:Bool}
theorem qm6 {P:Program} {t e:TypeId} {fs:Array Field} {fuel:Nat} {cs:List Value} {x:DataW H×List MemPlace} (ht:P.underlying t=some (.slice e)) (he:P.underlying e=some (.struct fs))
  (hone:oneCellFields P fs=true) (hC:P.cellsOf e=fs.size) (h:DataW.trod enc P w base spare held fuel t cs=some x):
  (cs= [.slice none 0 0]∧x.1= .nil)∨
  ∃(a:Addr) (len cap m:Nat) (D:Nat→DataW H),cs= [.slice (some a) len cap]∧len≤m∧
   x.1= .slice ((List.range len).map D) ((List.range (m-len)).map fun j=>D (len+j))∧
   ∀i,i<m→ ∃(ys:List (DataW H×List MemPlace)) (n:Nat),D i= .agg (ys.map (·.1))∧ys.length=fs.size∧
    ∀(j:Nat) (f:Field),fs[j]?=some f→ ∃(v:Value) (y:DataW H×List MemPlace),w.cell? (a.add (i*fs.size+j))=some v∧ys[j]?=some y∧DataW.trod enc P w base spare held n f.type [v]=some y:=by
 rcases open_slice ht h with h0|⟨a,len,cap,m,n,D,Pl,hcs,hb,hl,hm,hmm,hx,hi⟩
 ·exact .inl ⟨h0.1,by rw [h0.2]⟩
 ·refine .inr ⟨a,len,cap,m,D,hcs,by rw [hmm];split<;>omega,by rw [hx],fun i him=> ?_⟩;obtain ⟨cs',hc,ht'⟩:=hi i him;rw [hC]at hc;obtain ⟨ys,n',hn',hy,hlen,hyl,hf⟩:=DataW.trod_struct he ht';obtain ⟨_,hcl,hat⟩:=World.cells?_some hc;simp only [Prod.mk.injEq]at hy;refine ⟨ys,n',hy.1,hyl,fun j f hj=> ?_⟩;obtain ⟨ho,hk⟩:=hone_of hone j f hj;have hjl:j<fs.size:=(Array.getElem?_eq_some_iff.1 hj).1;have hcell:=hat j hjl;have hv:cs'[j]?=some (cs'[j]'(by omega)):=List.getElem?_eq_getElem (by omega);have h1:=hf j f hj;rw [ho,hk]at h1
  have hone':(cs'.drop j).take 1= [cs'[j]'(by omega)]:=by
   rw [List.drop_eq_getElem_cons (by omega)]
   rfl
  rw [hone']at h1;have hys:ys[j]?=some (ys[j]'(by omega)):=List.getElem?_eq_getElem (by omega);refine ⟨_,_,?_,hys,h1.trans hys⟩;rw [←Go.Deep.add_add,hcell,hv]
theorem qv1 {P:Program} {e:TypeId} {l:List (DataW H)} {d:DataW H} (hd:d∈l): ∀x∈d.weights P e,x∈DataW.weightsAll P e l:=by
 induction l with
 |nil=>simp at hd
 |cons y l ih=>
  intro x hx;unfold DataW.weightsAll;rcases List.mem_cons.1 hd with rfl|a
  ·exact List.mem_append.2 (.inl hx)
  ·exact List.mem_append.2 (.inr (ih a x hx))
theorem qqU {P:Program} {e:TypeId} {fs:Array Field} (he:P.underlying e=some (.struct fs)) {parts:List (DataW H)} {j:Nat} {f:Field} {d:DataW H} (hf:fs[j]?=some f) (hd:parts[j]?=some d): ∀x∈d.weights P f.type,x∈(DataW.agg parts).weights P e:=by
 intro x hx;unfold DataW.weights;rw [he];exact DataW.weights_mem_each (j:=j) (t:=f.type) (by simp [hf]) hd x hx
theorem qqT {P:Program} {t e:TypeId} (ht:P.underlying t=some (.slice e)) {elems sp:List (DataW H)} {d:DataW H} (hd:d∈elems): ∀x∈d.weights P e,x∈(DataW.slice elems sp).weights P t:=by
 intro x hx;unfold DataW.weights;rw [ht];exact List.mem_cons.2 (.inr (List.mem_append.2 (.inl (qv1 hd x hx))))
theorem qv0 {P:Program} {t e:TypeId} (ht:P.underlying t=some (.slice e)) {elems sp:List (DataW H)} :(elems.length+sp.length)*P.bytesOf e∈(DataW.slice elems sp).weights P t:=by
 unfold DataW.weights;rw [ht];exact List.mem_cons.2 (.inl rfl)
theorem q00: ∃f0 f1 f2 f3:Field,Tryz.prog.underlying 43=some (.struct #[f0,f1,f2,f3])∧f0.type=3∧f1.type=3∧f2.type=3∧f3.type=9∧oneCellFields Tryz.prog #[f0,f1,f2,f3]=true:=
 ⟨_,_,_,_,Tryz.underlying43,rfl,rfl,rfl,rfl,by kernel_rfl⟩
theorem qi7 {v:Value} {d:DataW H} {p:List MemPlace} (hv: ∃a len cap,v= .slice a len cap) (h:DataW.Trod enc Tryz.prog w base spare held 33 v d p) (hwt: ∀x∈d.weights Tryz.prog 33,x≤reachBytes):
  ∃(A:Option Addr) (n c:Nat) (rs:List RawV),v= .slice A n c∧rs.length=n∧n*40≤140737488351232∧(∀r∈rs,r.wf)∧qd6 w A rs:=by
 obtain ⟨a0,len0,cap0,rfl⟩:=hv;obtain ⟨fuel,hf⟩:=h;obtain ⟨f0,f1,f2,f3,he,t0,t1,t2,t3,hone⟩:=q00;rcases qm6 Tryz.underlying33 he hone (by kernel_rfl) hf with ⟨hcs,hx⟩|⟨a,len,cap,m,D,hcs,hl,hx,hi⟩
 ·simp only [Value.cells,List.cons.injEq,Value.slice.injEq,and_true]at hcs;obtain ⟨rfl,rfl,rfl⟩:=hcs;exact ⟨none,0,0, [],rfl,rfl,by omega,(fun r hr=>by simp at hr),fun j hj=>by simp at hj⟩
 ·simp only [Value.cells,List.cons.injEq,Value.slice.injEq,and_true]at hcs;obtain ⟨rfl,rfl,rfl⟩:=hcs;simp only at hx;subst hx;have hr4:reachBytes=140737488351232:=rfl
  have hn:len0*40≤140737488351232:=by
   have h1:=hwt _ (qv0 Tryz.underlying33);rw [hr4]at h1;have h2:Tryz.prog.bytesOf 43=40:=by kernel_rfl
   rw [h2]at h1;simp only [List.length_map,List.length_range]at h1;omega
  have key: ∀i,i<len0→ ∃r:RawV,r.wf∧ ∀j,j<4→w.cell? (a.add (i*4+j))=(rawC r)[j]?:=fun i hil=>by
   obtain ⟨ys,k,hD,hyl,hfld⟩:=hi i (by omega);obtain ⟨v0,y0,c0,e0,h0⟩:=hfld 0 f0 rfl;obtain ⟨v1,y1,c1,e1,h1⟩:=hfld 1 f1 rfl;obtain ⟨v2,y2,c2,e2,h2⟩:=hfld 2 f2 rfl;obtain ⟨v3,y3,c3,e3,h3⟩:=hfld 3 f3 rfl;rw [t0]at h0;rw [t1]at h1;rw [t2]at h2;rw [t3]at h3;obtain ⟨n0,q0,x0,w0⟩:=DataW.trod_int Tryz.underlying3 h0;obtain ⟨n1,q1,x1,w1⟩:=DataW.trod_int Tryz.underlying3 h1;obtain ⟨n2,q2,x2,w2⟩:=DataW.trod_int Tryz.underlying3 h2;obtain ⟨s,q3,x3,w3⟩:=DataW.trod_string Tryz.underlying9 h3;simp only [List.cons.injEq,and_true]at q0 q1 q2 q3;subst q0 q1 q2 q3
   have hsz:s.size≤140737488351232:=by
    have hm:s.data.toList.length∈(D i).weights Tryz.prog 43:=by
     rw [hD];refine qqU he (j:=3) (f:=f3) (d:=y3.1) rfl (by rw [List.getElem?_map,e3];rfl) _ ?_;rw [x3,t3];unfold DataW.weights;simp
    have h9:=hwt _ (qqT Tryz.underlying33 (d:=D i) (List.mem_map.2 ⟨i,List.mem_range.2 hil,rfl⟩) _ hm);rw [hr4]at h9;simpa using h9
   refine ⟨⟨n0,n1,n2,s⟩,⟨w0,w1,w2,hsz⟩,fun j hj=> ?_⟩
   match j,hj with
   |0,_=>exact c0
   |1,_=>exact c1
   |2,_=>exact c2
   |3,_=>exact c3
  obtain ⟨f,hfx⟩:=choose_lt key;refine ⟨some a,len0,cap0,(List.range len0).map f,rfl,by simp,by omega,fun r hr=> ?_,fun j hj=> ?_⟩
  ·obtain ⟨i,hi1,rfl⟩:=List.mem_map.1 hr;exact (hfx i (List.mem_range.1 hi1)).1
  ·have hj':j<len0:=by simpa using hj
   obtain ⟨b,o,sp⟩:=a
   have hsp:sp=none:=by
    have h0:=(hfx 0 (by omega)).2 0 (by omega);have h1:w.cell? (Addr.mk b o sp)=some (.int .i64 (f 0).kind):=by simpa [Addr.add,rawC]using h0
    simpa using World.cell?_spot h1
   subst hsp;refine ⟨b,o,rfl,fun i hi4=> ?_⟩;have h0:=(hfx j hj').2 i hi4;rw [List.getElem_map,List.getElem_range,←h0];unfold Addr.add
   split
   ·rename_i h;congr 1;first|(simp;done)|(simp;omega)
   ·congr 1;first|(simp;done)|(simp;omega)
end
end Go.Proofs.YtapgoifimhnbdaaGreatDoor
namespace Go.Proofs.YtapgoifimhnbdaaGreatDoor
open Go.RowKit
open Go.OpenShut
open Go.ChangeShapes Go.WideShapes Go.Deep
def qaE (w:World) (A:Option Addr) (l:List UInt8):Prop:=
 ∀j (hj:j<l.length),∃b o,A=some ⟨b,o,none⟩∧w.cell? ⟨b,o+j,none⟩=some (.int .u8 (l[j].toNat:Int))
theorem qaE.nil (w:World) (A:Option Addr):qaE w A []:=fun j hj=>by simp at hj
theorem qaE.below {w w':World} {A:Option Addr} {l:List UInt8} (h:qaE w A l) (hb:Below w.heap.size w w'):qaE w' A l:=by
 intro j hj;obtain ⟨b,o,e,hc⟩:=h j hj;refine ⟨b,o,e,?_⟩;have hlt:b<w.heap.size:=World.block_lt_of_cell? w _ hc;rw [←hc];unfold World.cell?;simp only [hb.block b hlt]
theorem qaE.cells {w:World} {b o:Nat} {l:List UInt8} (h:qaE w (some ⟨b,o,none⟩) l): ∀j u,(qaU l)[j]?=some u→w.cell? ⟨b,o+j,none⟩=some u:=by
 intro j u hu
 have hj:j<l.length:=by
  have:=(List.getElem?_eq_some_iff.1 hu).1
  rwa [bCells_length]at this
 obtain ⟨b',o',e,hc⟩:=h j hj;simp only [Option.some.injEq,Addr.mk.injEq,and_true]at e;obtain ⟨rfl,rfl⟩:=e;rw [hc,←hu,qeJ l j hj];simp [qeS,hj]
theorem qaE.take {w:World} {A:Option Addr} {l:List UInt8} (h:qaE w A l) (k:Nat):qaE w A (l.take k):=by
 intro j hj;rw [List.length_take]at hj;obtain ⟨b,o,e,hc⟩:=h j (by omega);exact ⟨b,o,e,by rw [hc,List.getElem_take]⟩
section
variable {H:Type} {enc:TypeId×Value→H} {w:World} {base:Nat} {spare:Nat→Bool} {held:Bool}
end
end Go.Proofs.YtapgoifimhnbdaaGreatDoor
namespace Go.Proofs.YtapgoifimhnbdaaGreatDoor
open Go.RowKit
open Go.OpenShut
theorem qfW:(Tryz.prog.info? 5).map (fun i=>(i.zero,i.size,i.bytes))=some (some (.int .u8 0),1,1):=by kernel_rfl
theorem qhV (l:List UInt8): ∀u∈qaU l,u.oneCell'=true:=by
 intro u hu;simp only [qaU,qeS,List.mem_map]at hu;obtain ⟨a,_,rfl⟩:=hu;rfl
def OwnB (w:World) (B:Nat) (v:Value) (l:List UInt8):Prop:=w.ownsRow B 5 1 v l.length (qaU l)
theorem OwnB.nil (w:World) (B:Nat):OwnB w B (.slice none 0 0) []:=World.ownsRow_nil _ _ _ _
def SlOk (A:Option Addr) (n c:Nat):Prop:=n≤c∧c≤maxLen∧(A=none→c=0)
theorem OwnB.form {w:World} {B:Nat} {v:Value} {l:List UInt8} (h:OwnB w B v l): ∃A c,v= .slice A l.length c∧SlOk A l.length c∧qaE w A l:=by
 have h':=h;unfold OwnB World.ownsRow at h;rcases h.2 with ⟨rfl,h0⟩|⟨g,cap,cur,rfl,hB,hg,hcap,hm,hs,ht⟩
 ·have e:l= []:=List.eq_nil_of_length_eq_zero h0;subst e;exact ⟨none,0,rfl,⟨by simp,by decide,fun _=>rfl⟩,qaE.nil _ _⟩
 ·refine ⟨some ⟨g,0,none⟩,cap,rfl,⟨hcap,hm,fun e=>by cases e⟩,fun j hj=>⟨g,0,rfl,?_⟩⟩;unfold OwnB at h';rw [Nat.zero_add,h'.cellAt j (by omega),qeJ l j hj];simp [qeS,hj]
theorem OwnB.below {w w':World} {B:Nat} {v:Value} {l:List UInt8} (h:OwnB w B v l) (hb:Below w.heap.size w w'):OwnB w' B v l:=
 qcB h fun g hg=>hb.block g (World.ownsRow.lt h g hg).2
theorem OwnB.mono {w:World} {B B':Nat} {v:Value} {l:List UInt8} (h:OwnB w B v l) (hB:B'≤B):OwnB w B' v l:=qhN h hB
theorem OwnB.alloc {w:World} {B:Nat} {v:Value} {l:List UInt8} (h:OwnB w B v l) (o:Obj):OwnB (w.alloc o) B v l:=World.ownsRow.alloc h o
theorem qaL {w W:World} (h:Below w.heap.size w W) (o:Obj):Below w.heap.size w (W.alloc o):=h.alloc h.size o
theorem hszA (W:World) (o:Obj):(W.alloc o).heap.size=W.heap.size+1:=by
 show (W.heap.push o).size=_;exact Array.size_push ..
def cutA (A:Option Addr) (c k:Nat):Option Addr:=if c=k then A else A.map (·.add k)
theorem q7X (A:Option Addr) (c:Nat):cutA A c 0=A:=by
 unfold cutA
 split
 ·rfl
 ·cases A with
  |none=>rfl
  |some a=>simp [Addr.add]
theorem qaE.cut {w:World} {A:Option Addr} {l:List UInt8} (h:qaE w A l) {c:Nat} (hc:l.length≤c) (k:Nat) (hk:k≤l.length):qaE w (cutA A c k) (l.drop k):=by
 intro j hj;rw [List.length_drop]at hj;have hne:c≠k:=by omega
 obtain ⟨b,o,rfl,hc0⟩:=h (k+j) (by omega);refine ⟨b,o+k,?_,?_⟩
 ·unfold cutA;rw [if_neg hne];simp only [Option.map_some];congr 1;exact Addr.add_lit _ _ _
 ·rw [Nat.add_assoc,hc0,List.getElem_drop]
theorem SlOk.cut {A:Option Addr} {n c:Nat} (h:SlOk A n c) (k:Nat) (hk:k≤n) (m:Nat) (hm:m+k≤c):SlOk (cutA A c k) m (c-k):=by
 obtain ⟨h1,h2,h3⟩:=h;refine ⟨by omega,by omega,fun e=> ?_⟩
 have:A=none:=by
  unfold cutA at e
  split at e
  ·exact e
  ·cases A with
   |none=>rfl
   |some a=>cases e
 have:=h3 this;omega
theorem qaE.news {w:World} {a:Addr} {l:List UInt8} (h:qaE w (some a) l): ∀j u,(qaU l)[j]?=some u→w.cell? (a.add j)=some u:=by
 intro j u hu
 have hj:j<l.length:=by
  have:=(List.getElem?_eq_some_iff.1 hu).1
  rwa [bCells_length]at this
 obtain ⟨b,o,e,hc⟩:=h j hj;injection e with e
 subst e;rw [Addr.add_lit,hc,←hu,qeJ l j hj];simp [qeS,hj]
theorem qaE.conv {w:World} {A:Option Addr} {l:List UInt8} (h:qaE w A l) (c:Nat) (hn:A=none→l= []):(convert 22 9 (.slice A l.length c)).run Tryz.prog w= .ok (.string (bs l)) w:=by
 cases A with
 |none=>
  have:=hn rfl;subst this;exact run_convert_bytes_nil w 22 5 Tryz.underlying22 Tryz.underlying5 _ _ 9 Tryz.underlying9
 |some a=>
  exact run_convert_bytes_back w 22 9 5 a c l Tryz.underlying22 Tryz.underlying5 Tryz.underlying9 fun j hj=>by
   obtain ⟨b,o,e,hc⟩:=h j hj;injection e with e
   subst e;rw [Addr.add_lit];exact hc
theorem qaE.none_nil {w:World} {l:List UInt8} (h:qaE w none l):l= []:=by
 cases l with
 |nil=>rfl
 |cons r l=>obtain ⟨b,o,e,-⟩:=h 0 (by simp);cases e
theorem copied {W:World} {B g q cap:Nat} {L:List UInt8} (ho:OwnB W B (.slice (some ⟨g,0,none⟩) q cap) L) (hq:L.length=q) (A:Option Addr) (n c:Nat) (l:List UInt8) (hn:l.length=n) (hnq:n≤q) (hA:qaE W A l) (ty:TypeId):
  ∃W2,(Builtin.copy_ #[22,22] ty #[.slice (some ⟨g,0,none⟩) q cap,.slice A n c]).run Tryz.prog W= .ok (goInt n) W2∧OwnB W2 B (.slice (some ⟨g,0,none⟩) q cap) (l++L.drop n)∧ ∀w0 B',B'≤B→Below B' w0 W→Below B' w0 W2:=by
 obtain ⟨i0,hi,hz0,hz1,hz2⟩:=info_parts qfW;have hinfo:(Tryz.prog.info? 5).map (·.size)=some 1:=by rw [hi];simp [hz1]
 cases A with
 |none=>
  obtain rfl:=hA.none_nil;obtain rfl:n=0:=by rw [←hn];rfl
  exact ⟨W,run_copy_none W 22 22 ty 5 _ _ q cap 0 c Tryz.underlying22 hinfo (by simp),by simpa using ho,fun _ _ _ h=>h⟩
 |some ad=>
  unfold OwnB World.ownsRow at ho;rcases ho.2 with ⟨e,h0⟩|⟨g',cap',cur,e,hB,hg,hcap,hm,hs,ht⟩
  ·cases e
  ·injection e with e1 e2 e3
   injection e1 with e1
   injection e1 with e1
   subst e1 e2 e3;have hcp:=run_copy_row (P:=Tryz.prog) W 22 22 ty 5 g 0 L.length cap ad n c cur 5 (qaU l) Tryz.underlying22 hinfo hg (by rw [bCells_length,hn];exact (Nat.min_eq_left hnq).symm) hA.news (by rw [bCells_length];omega) (qhV _);rw [bCells_length,hn]at hcp;refine ⟨_,hcp,?_,fun w0 B' hB' h=>below_setRow h (by omega) _⟩;have hll:(l++L.drop n).length=L.length:=by rw [List.length_append,List.length_drop];omega
   unfold OwnB World.ownsRow;rw [hll];refine ⟨by rw [bCells_length,hll,Nat.mul_one],.inr ⟨g,cap,_,rfl,hB,setRow_heap _ _ cur _ 5 (0,0) hg,hcap,hm,?_,?_⟩⟩
   ·simp;omega
   ·rw [List.toList_toArray,List.take_zero,List.nil_append,Nat.zero_add,List.take_append];rw [Nat.mul_one]at ht⊢;rw [bCells_length,List.take_of_length_le (by rw [bCells_length];omega),qeE]
    congr 1
    rw [show L.length-l.length=L.length-n by omega,←List.drop_take];rw [ht];simp [qaU,qeS]
theorem qiP {w:World} {ops:Array Oper} {rest:List Oper} {o:Oper} {a:Act} {Q:Exit→Act→World→Prop} (hgd:o.guard=none) (s x:Operand)
  (ho:o.op= .call {callee:= .builtin .append,args:= #[s,x],argTypes:= #[22,22] }) (B:Nat) (v:Value) (l0:List UInt8) (hs:a.eval s=v) (hown:OwnB w B v l0)
  (A:Option Addr) (m c:Nat) (l:List UInt8) (hx:a.eval x= .slice A m c) (hl:l.length=m) (hA:qaE w A l) (hc:A=none→c=0) (hbig:l0.length+m≤140737488355328) (hB:B≤w.heap.size)
  (h: ∀v' w',OwnB w' B v' (l0++l)→(∀w0,Below B w0 w→Below B w0 w')→wpList Tryz.prog ops Q rest (a.put o.dst v') w'):wpList Tryz.prog ops Q (o::rest) a w:=by
 obtain ⟨i0,hi,hz0,hz1,hz2⟩:=info_parts qfW;cases A with
 |none=>
  obtain rfl:=hA.none_nil;obtain rfl:m=0:=by rw [←hl];rfl
  obtain rfl:=hc rfl;refine wpList_append_own_none hgd s x 22 ho B 5 i0 1 Tryz.underlying22 hi v _ _ hs hown hx ?_;exact h v w (by rw [List.append_nil];exact hown) fun _ h=>h
 |some ad=>
  refine wpList_append_own _ hgd s x 22 ho B 5 i0 _ 1 1 Tryz.underlying22 hi hz0 hz1 hz2 rfl (by decide) v _ _ hs hown ad m c (qaU l) hx (by rw [bCells_length,hl,Nat.mul_one]) hA.news (qhV _) (by unfold maxLen;omega) (by omega) hB ?_;intro v6 w6 hown6 hgrow _;refine h v6 w6 (by unfold OwnB;rw [List.length_append,qeE,hl];exact hown6) fun w0 hb=>hb.grown hgrow hB (fun g e=>(World.ownsRow.lt hown g e).1)
theorem qhA (A:Option Addr) (n c:Nat) (l:List UInt8) (hn:l.length=n) (hn2:n≤140737488351232) (w:World) (hA:qaE w A l):
  Calls Tryz.prog 169 #[.slice A n c] w fun e w'=> ∃v,e= .returned v∧OwnB w' w.heap.size v l∧Below w.heap.size w w':=by
 obtain ⟨i0,hi,hz0,hz1,hz2⟩:=info_parts qfW;have q22: ∀(w:World) (a:Option Addr) (n c n' c':Nat),(binOp .eql 22 (.slice a n c) (.slice none n' c')).run Tryz.prog w= .ok (.bool a.isNone) w:=fun w a n c n' c'=>Lib.run_eql_slice_nil w _ _ a n c n' c' Tryz.underlying22;cases A with
 |none=>
  obtain rfl:=hA.none_nil;obtain rfl:n=0:=by rw [←hn];rfl
  go_enter Tryz.func169,Tryz.ntmps169;go_wp2_with fail;go_ret;exact ⟨_,rfl,OwnB.nil _ _,Below.refl _ _⟩
 |some ad=>
  have HN:=Lib.hid hn;have HA:=Lib.hid hA;have HO:Hid ((w.alloc (.cells #[] 5)).ownsRow w.heap.size 5 1 (.slice (some ⟨w.heap.size,0,none⟩) 0 0) 0 []):=World.ownsRow_lit (e:=5) (size:=1) w #[] 0 (Nat.le_refl _) (by decide) rfl;have HB:Hid (Below w.heap.size w (w.alloc (.cells #[] 5))):=(Below.refl _ _).alloc (Nat.le_refl _) _;have HA1:=Lib.hid (HA.out.below HB.out);clear hn hA;go_enter Tryz.func169,Tryz.ntmps169;go_wp2_with (at_builtin;refine Stay.go ?_);refine Stay.on ?_;refine wpList_append_own _ rfl (.tmp 5) (.tmp 6) 22 rfl w.heap.size 5 i0 _ 1 1 Tryz.underlying22 hi hz0 hz1 hz2 rfl (by decide) (.slice (some ⟨w.heap.size,0,none⟩) 0 0) 0 [] rfl HO.out ad n c (qaU l) rfl (by rw [bCells_length,HN.out,Nat.mul_one]) HA1.out.news (qhV _) (by unfold maxLen;omega) (by omega) (by simp) ?_;intro v6 w6 hown hgrow _;have HO6:Hid (OwnB w6 w.heap.size v6 l):=by unfold Hid OwnB;rw [HN.out];simpa using hown
  have HB6:Hid (Below w.heap.size w w6):=HB.out.grown hgrow (by simp) (fun g0 e=>by simp [Value.ownBlock]at e;omega);clear hown hgrow;go_wp2_with fail;go_ret;exact ⟨v6,rfl,HO6.out,HB6.out⟩
def OwnC (w:World) (B:Nat) (v:Value) (l:List UInt8):Prop:=
 ∃g cap,v= .slice (some ⟨g,0,none⟩) l.length cap∧B≤g∧g<w.heap.size∧l.length≤cap∧cap≤maxLen∧(∀j,j<cap→(w.cell? ⟨g,j,none⟩).isSome=true∧w.frozen? ⟨g,j,none⟩=false)∧qaE w (some ⟨g,0,none⟩) l
theorem OwnC.form {w:World} {B:Nat} {v:Value} {l:List UInt8} (h:OwnC w B v l): ∃A c,v= .slice A l.length c∧SlOk A l.length c∧qaE w A l:=by
 obtain ⟨g,cap,rfl,h1,h2,h3,h4,h5,h6⟩:=h;exact ⟨_,_,rfl,⟨h3,h4,fun e=>by cases e⟩,h6⟩
theorem OwnC.below {w w':World} {B:Nat} {v:Value} {l:List UInt8} (h:OwnC w B v l) (hb:Below w.heap.size w w'):OwnC w' B v l:=by
 obtain ⟨g,cap,rfl,h1,h2,h3,h4,h5,h6⟩:=h;refine ⟨g,cap,rfl,h1,Nat.lt_of_lt_of_le h2 hb.size,h3,h4,fun j hj=> ?_,h6.below hb⟩;rw [hb.cell (p:=⟨g,j,none⟩) h2,hb.frozen (p:=⟨g,j,none⟩) h2];exact h5 j hj
theorem OwnC.mono {w:World} {B B':Nat} {v:Value} {l:List UInt8} (h:OwnC w B v l) (hB:B'≤B):OwnC w B' v l:=by
 obtain ⟨g,cap,rfl,h1,h2,h3⟩:=h;exact ⟨g,cap,rfl,Nat.le_trans hB h1,h2,h3⟩
theorem OwnC.alloc {w:World} {B:Nat} {v:Value} {l:List UInt8} (h:OwnC w B v l) (o:Obj):OwnC (w.alloc o) B v l:=h.below ((Below.refl _ _).alloc (Nat.le_refl _) o)
theorem OwnC.of_row {w:World} {B n:Nat} {v:Value} {l:List UInt8} (h:w.ownsRow B 5 1 v n (qaU l)) (hn:1≤n):OwnC w B v l:=by
 have h':=h;have hl:l.length=n:=by have:=h.1;rw [bCells_length]at this;omega
 rcases h.2 with ⟨rfl,h0⟩|⟨g,cap,cur,rfl,hB,hg,h1,h2,h3,h4⟩
 ·omega
 ·have hlt:g<w.heap.size:=(Array.getElem?_eq_some_iff.1 hg).1;refine ⟨g,cap,by rw [hl],hB,hlt,by omega,h2,fun j hj=>⟨?_,Lib.frozen_of_heap hg j⟩,fun j hj=>⟨g,0,rfl,?_⟩⟩
  ·rw [cell_of_row w g j cur 5 (0,0) hg,Array.getElem?_eq_getElem (by omega)];rfl
  ·rw [Nat.zero_add,h'.cellAt j (by omega),qeJ l j hj];simp [qeS,hj]
theorem q79 (W:World) (s:ByteArray):(convert 9 22 (.string s)).run Tryz.prog W= .ok (.slice (some ⟨W.heap.size,0,none⟩) s.size (grownCap W s.size 0 5)) (Lib.bytesWorld W 5 s):=
 Lib.run_convert_string_bytes W 9 22 5 s Tryz.underlying9 Tryz.underlying22 Tryz.underlying5
theorem qvI (w:World) (s:ByteArray):Below w.heap.size w (Lib.bytesWorld w 5 s):=
 ⟨rfl,rfl,rfl,by rw [Lib.bytesWorld_size];omega,fun k hk=>Lib.bytesWorld_at_old w 5 s k hk⟩
theorem OwnC.conv (w:World) (s:ByteArray) (hs:s.size≤maxLen):OwnC (Lib.bytesWorld w 5 s) w.heap.size (.slice (some ⟨w.heap.size,0,none⟩) s.size (grownCap w s.size 0 5)) s.data.toList:=by
 have hcs:(Lib.bytesCells w 5 s).size=grownCap w s.size 0 5:=by
  have:=grownCap_ge w s.size 0 5;unfold Lib.bytesCells;simp only [Array.size_append,Array.size_map,ByteArray.size_data,Array.size_replicate];omega
 have hnew:=Lib.bytesWorld_at_new w 5 s;refine ⟨w.heap.size,_,by simp,Nat.le_refl _,by rw [Lib.bytesWorld_size];omega,by simpa using grownCap_ge w s.size 0 5,grownCap_le_maxLen w s.size 0 5 hs,fun j hj=>⟨?_,?_⟩,fun j hj=>⟨w.heap.size,0,rfl,?_⟩⟩
 ·rw [cell_of_row _ _ j _ _ _ hnew,Array.getElem?_eq_getElem (by omega)];rfl
 ·unfold World.frozen?;simp only [hnew,hcs];have: ¬(grownCap w s.size 0 5≤j∧j<grownCap w s.size 0 5+1):=by omega
  simp;omega
 ·have hj':j<s.size:=by simpa using hj
  rw [Nat.zero_add,Lib.bytesWorld_cell w 5 s j hj',List.getD_eq_getElem?_getD,List.getElem?_eq_getElem hj];rfl
theorem qh5 {B b:Nat} (hB:B≤b): ∀(vs:List Value) (o:Nat) {w0 w:World},Below B w0 w→Below B w0 (w.setCells b o vs)
 | [],o,w0,w,h=>h
 |v::r,o,w0,w,h=>by
  rw [World.setCells];exact qh5 hB r (o+1) (h.setCell (p:=⟨b,o,none⟩) hB v)
theorem qiY (b:Nat): ∀(vs:List Value) (o:Nat) (w:World),(w.setCells b o vs).heap.size=w.heap.size
 | [],o,w=>rfl
 |v::r,o,w=>by
  rw [World.setCells,qiY b r (o+1)];simp [World.setCell]
theorem qoM {w:World} {ops:Array Oper} {rest:List Oper} {o:Oper} {a:Act} {Q:Exit→Act→World→Prop} (hgd:o.guard=none) (s x:Operand)
  (ho:o.op= .call {callee:= .builtin .append,args:= #[s,x],argTypes:= #[22,22] }) (B:Nat) (v:Value) (l0:List UInt8) (hs:a.eval s=v) (hown:OwnC w B v l0)
  (A:Option Addr) (m c:Nat) (l:List UInt8) (hx:a.eval x= .slice A m c) (hl:l.length=m) (hA:qaE w A l) (hc:A=none→c=0) (hbig:l0.length+m≤140737488355328) (hB:B≤w.heap.size)
  (h: ∀v' w',OwnC w' B v' (l0++l)→(∀w0,Below B w0 w→Below B w0 w')→wpList Tryz.prog ops Q rest (a.put o.dst v') w'):wpList Tryz.prog ops Q (o::rest) a w:=by
 obtain ⟨i0,hi,hz0,hz1,hz2⟩:=info_parts qfW;have hown':=hown;obtain ⟨g,cap,rfl,h1,h2,h3,h4,h5,h6⟩:=hown;cases A with
 |none=>
  obtain rfl:=hA.none_nil;obtain rfl:m=0:=by rw [←hl];rfl
  obtain rfl:=hc rfl;refine wpList_plain hgd fun K hK=> ?_
  have hrun:(Builtin.append_ #[22,22] o.type #[.slice (some ⟨g,0,none⟩) l0.length cap,.slice none 0 0]).run Tryz.prog w= .ok (.slice (some ⟨g,0,none⟩) l0.length cap) w:=by
   simp [Builtin.append_,run_underlying (P:=Tryz.prog) Tryz.underlying22,sizeOf,typeInfo,hi,Builtin.lenOf,Builtin.firstCells,h3,storeCells]
  unfold Oper.wp;simp [execOp,ho,resolve,invoke,builtin,hs,hx,hrun,Result.andThen];exact hK _ _ (h _ w (by rw [List.append_nil];exact hown') fun _ h=>h)
 |some ad=>
  refine wpList_append_arg w hgd s x 22 ho 5 i0 (.int .u8 0) 1 1 Tryz.underlying22 hi hz0 hz1 hz2 rfl (by decide) g 0 l0.length cap (qaU l0) hs (by rw [bCells_length];omega) (fun j u hu=>h6.cells j u hu) ad m c (qaU l) hx (by rw [bCells_length];omega) hA.news (qhV _)
   (fun hr j hj=> ?_) (by unfold maxLen;omega) (by omega) (fun hr=> ?_) (fun hr v' w' hw hg=> ?_)
  ·rw [bCells_length]at hj;rw [Nat.zero_add,Nat.mul_one];exact h5 _ (by omega)
  ·have hin:=World.cell?_setCells_in g (qaU l) (0+l0.length*1) w (fun j hj=>by rw [bCells_length]at hj;rw [Nat.zero_add,Nat.mul_one];exact (h5 _ (by omega)).1);rw [Nat.zero_add,Nat.mul_one]at hin⊢
   have hcell: ∀j,j<cap→((w.setCells g l0.length (qaU l)).cell? ⟨g,j,none⟩).isSome=true∧(w.setCells g l0.length (qaU l)).frozen? ⟨g,j,none⟩=false:=fun j hj=>by
    refine ⟨?_,by rw [World.frozen?_setCells];exact (h5 j hj).2⟩
    by_cases hj2:l0.length≤j∧j<l0.length+l.length
    ·have:=hin (j-l0.length) (by rw [bCells_length];omega);rw [show l0.length+(j-l0.length)=j by omega]at this;rw [this];rfl
    ·rw [World.cell?_setCells_out g (qaU l) l0.length w ⟨g,j,none⟩ (fun _ _=>by rw [bCells_length];show j<_∨_≤j;omega)];exact (h5 j hj).1
   refine h _ _ ⟨g,cap,by rw [List.length_append,hl],h1,by rw [qiY];exact h2,by rw [List.length_append];omega,h4,hcell,fun j hj=>⟨g,0,rfl,?_⟩⟩ (fun w0 hb=>qh5 h1 _ _ hb);rw [Nat.zero_add];rw [List.length_append]at hj
   by_cases hj2:j<l0.length
   ·rw [World.cell?_setCells_out g (qaU l) l0.length w ⟨g,j,none⟩ (fun _ _=> .inl hj2),List.getElem_append_left hj2];obtain ⟨b',o',e,hc'⟩:=h6 j hj2;injection e with e
    injection e with e1 e2
    subst e1 e2;rw [Nat.zero_add]at hc';exact hc'
   ·have:=hin (j-l0.length) (by rw [bCells_length];omega);rw [show l0.length+(j-l0.length)=j by omega]at this;rw [this,List.getElem_append_right (by omega)];simp [qaU,qeS]
  ·have e:qaU l0++qaU l=qaU (l0++l):=by rw [qeE]
   rw [e]at hw
   by_cases hn:1≤l0.length+m
   ·exact h _ _ ((OwnC.of_row hw hn).mono hB) fun w0 hb=>hb.grown hg hB (fun g e=>by cases e)
   ·omega
end Go.Proofs.YtapgoifimhnbdaaGreatDoor
