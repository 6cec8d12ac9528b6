/- qaX of one kind, in one file: EntG, EntI, EntN. -/
import Derived.Test.YtapgoifimhnbdaaGreatDoorEna
import Derived.Test.YtapgoifimhnbdaaGreatDoorNod
import Derived.Test.YtapgoifimhnbdaaGreatDoorTra
set_option linter.unusedVariables false
set_option maxRecDepth 100000
namespace Go.Proofs.YtapgoifimhnbdaaGreatDoor
open Go.RowKit
open Go.OpenShut
def entA (x:EntV) (D:Option Addr) (c:Nat):Array Value:= #[.string (bs x.path),.int .i64 x.kind,.string (bs x.target),.int .i64 x.md.mode,.int .i64 x.md.uid,.int .i64 x.md.gid,.string (bs x.md.user),.string (bs x.md.group),.int .i64 x.md.second,.int .i64 x.md.nano,.slice D x.data.length c]
def RdE (wr:World) (g:Nat) (x:EntV) (D:Option Addr) (c:Nat) (W:World):Prop:=Blk W g 73 (entA x D c)∧Below wr.heap.size wr W
theorem RdE.below {wr W W':World} {g:Nat} {x:EntV} {D:Option Addr} {c:Nat} (h:RdE wr g x D c W) (hb:Below W.heap.size W W'):RdE wr g x D c W':=⟨h.1.below hb h.1.lt,h.2.trans (hb.mono h.2.size)⟩
theorem RdE.drew {wr W:World} {g:Nat} {x:EntV} {D:Option Addr} {c:Nat} (h:RdE wr g x D c W):RdE wr g x D c W.drew:=⟨h.1.drew_,h.2.drew⟩
theorem RdE.drewN {wr W:World} {g:Nat} {x:EntV} {D:Option Addr} {c:Nat} (h:RdE wr g x D c W) (q:Nat):RdE wr g x D c (W.drewN q):=⟨h.1.drewN q,below_drewN h.2 q⟩
def RdF (wr:World) (g:Nat) (x:EntV) (D:Option Addr) (c b q:Nat) (P:ByteArray) (W:World):Prop:=RdE wr g x D c W∧W.cell? ⟨b,q,none⟩=some (.string P)
theorem RdF.below {wr W W':World} {g:Nat} {x:EntV} {D:Option Addr} {c b q:Nat} {P:ByteArray} (h:RdF wr g x D c b q P W) (hb:Below W.heap.size W W'):RdF wr g x D c b q P W':=
 ⟨h.1.below hb,(hb.cell (p:=⟨b,q,none⟩) (World.block_lt_of_cell? W _ h.2)).trans h.2⟩
theorem RdF.drew {wr W:World} {g:Nat} {x:EntV} {D:Option Addr} {c b q:Nat} {P:ByteArray} (h:RdF wr g x D c b q P W):RdF wr g x D c b q P W.drew:=⟨h.1.drew,h.2⟩
theorem q7E {t:List EntV} (h:qb3 [] t=0): ∀x∈t,entE x=0:=fun x hx=>by
 obtain ⟨j,hj,rfl⟩:=List.getElem_of_mem hx;exact ((qfL _ _).1 ((qfI t []).1 h j hj)).1
theorem qgT {p:List UInt8} (h:qa6 p=0):p.length≤400:=by
 unfold qa6 at h
 split at h
 ·exact absurd h (by decide)
 ·omega
theorem q7J {t:List EntV} {n:EntV} (h:entE n≠0):eatE t n=entE n:=if_pos h
theorem q2G {t:List EntV} {n:EntV} (h:entE n=0) (x:EntV) (hl:t.getLast?=some x) (h2:pcmp x.path n.path≠ -1):eatE t n=6:=by
 unfold eatE;rw [if_neg (by simp [h]),hl];simp only;rw [if_pos (by simp [h2])]
theorem eatE_up {t:List EntV} {n:EntV} (h:entE n=0) (hl: ∀x,t.getLast?=some x→pcmp x.path n.path= -1) (hu:upE t n.path=false):eatE t n=10:=by
 unfold eatE;rw [if_neg (by simp [h]),if_neg,if_pos hu];cases e:t.getLast? with
 |none=>simp
 |some x=>simp [hl x e]
theorem q7K {t:List EntV} {n:EntV} (h:entE n=0) (hl: ∀x,t.getLast?=some x→pcmp x.path n.path= -1) (hu:upE t n.path=true) (hk:aimE t n=false):eatE t n=11:=by
 unfold eatE;rw [if_neg (by simp [h]),if_neg,if_neg (by simp [hu]),if_pos hk];cases e:t.getLast? with
 |none=>simp
 |some x=>simp [hl x e]
theorem qqD (l:List EntV) (k:Nat) (hk:k<l.length) (x:EntV):(l.take k).getLast?=some x↔ ∃h:0<k,l[k-1]=x:=by
 cases k with
 |zero=>simp
 |succ k=>
  rw [List.take_succ_eq_append_getElem (by omega),List.getLast?_append];simp
theorem qkR (l:List EntV):qbJ l=0↔l.length≤40∧ ∀k (hk:k<l.length),eatE (l.take k) l[k]=0:=by
 unfold qbJ
 by_cases h:40<l.length
 ·rw [if_pos h];exact ⟨fun e=>absurd e (by decide),fun e=>by omega⟩
 ·rw [if_neg h,qfI];simp only [List.nil_append];exact ⟨fun e=>⟨by omega,e⟩,fun e=>e.2⟩
theorem q2A {l:List EntV} {s:List UInt8} {k:Nat} (h:qaS (l.take k) s<(l.take k).length):qaS l s=qaS (l.take k) s:=by
 have h1:qaS (l.take k) s<l.length:=by rw [List.length_take]at h;omega
 have h2:=qdC (l.take k) s h;rw [List.getElem_take]at h2;refine qeI l s _ h1 ?_ h2;apply Classical.byContradiction;intro hc;have h3:qaS l s<qaS (l.take k) s:=by omega
 have h4:qaS l s<l.length:=by omega
 have h5:=qdC l s h4;refine qjO (l.take k) s (qaS l s) h3 (by omega) ?_;rw [List.getElem_take];exact h5
theorem q8M {l:List EntV} (h:qbJ l=0) {i:Nat} (hi:i<l.length) (hk:l[i].kind=4): ∃hf:qaS l l[i].target<l.length,qaS l l[i].target<i∧(l[qaS l l[i].target]'hf).kind=1∧(l[qaS l l[i].target]'hf).md=l[i].md:=by
 have h1:=((qfL _ _).1 (((qkR l).1 h).2 i hi)).2.2.2;unfold aimE at h1;rw [decide_eq_false (by simp [hk]),Bool.false_or]at h1
 split at h1
 ·rename_i hf;have e:=q2A hf;rw [List.length_take]at hf;rw [Bool.and_eq_true,decide_eq_true_eq,decide_eq_true_eq,List.getElem_take]at h1;refine ⟨by omega,by omega,?_,?_⟩
  ·simp only [e];exact h1.1
  ·simp only [e];exact h1.2
 ·cases h1
def anyE (l:List EntV) (p:List UInt8):Bool:=l.any fun y=>decide (y.kind=4) &&decide (y.target=p)
def smE (l:List EntV) (i:Nat) (x:EntV):Int:=if x.kind=1∧anyE l x.path=true then (i:Int)+1 else 0
theorem qyH (l:List EntV) (i:Nat) (x:EntV) (k:Nat) (hk:k<l.length) (q:Bool) (hq:q=(decide (l[k].kind=4) &&decide (l[k].target=x.path) &&decide (x.kind=1))):
  smE (l.take (k+1)) i x=if q=true then (i:Int)+1 else smE (l.take k) i x:=by
 have e:anyE (l.take (k+1)) x.path=(anyE (l.take k) x.path||(decide (l[k].kind=4) &&decide (l[k].target=x.path))):=by
  unfold anyE;rw [List.take_succ_eq_append_getElem hk,List.any_append,List.any_cons,List.any_nil,Bool.or_false]
 unfold smE;rw [e,hq];generalize (decide (l[k].kind=4) &&decide (l[k].target=x.path))=r
 by_cases h:x.kind=1
 ·rw [decide_eq_true h];cases r
  ·simp [h]
  ·simp [h]
 ·rw [decide_eq_false h];simp [h]
theorem EntV.sz.grow {l:List EntV} (h: ∀x∈l,x.sz) {i:Nat} (hi:i<l.length):(qd2 l i l[i]).sz:=by
 have hx:=h _ (List.getElem_mem hi);unfold qd2
 by_cases hk:l[i].kind=4
 ·rw [if_pos hk];refine ⟨⟨hx.1.1,Nat.zero_le _,?_⟩,hx.2⟩;simp only;cases hd:l[qaS l l[i].target]? with
  |none=>exact Nat.zero_le _
  |some y=>exact (h y (List.mem_of_getElem? hd)).1.2.2
 ·rw [if_neg hk];exact ⟨⟨hx.1.1,hx.1.2.1,hx.1.2.2⟩,hx.2⟩
def zb4 (l:List EntV):List NodeV:=if qbJ l=0 then qa9 l else []
end Go.Proofs.YtapgoifimhnbdaaGreatDoor
namespace Go.Proofs.YtapgoifimhnbdaaGreatDoor
open Go.RowKit
theorem qc5 (t:List NodeV) (i:Nat) (x:NodeV):(qcW t i x).path=x.path:=by unfold qcW;split<;>rfl
def qvN (l:List EntV):Prop:= ∀i j (hi:i<l.length) (hj:j<l.length),i<j→pcmp l[i].path l[j].path= -1
theorem qkQ {l:List EntV} (h:qvN l) {s:List UInt8} (k:Nat) (hk:k<l.length) (e:l[k].path=s):qaS l s=k:=by
 refine qeI l s k hk ?_ e;apply Classical.byContradiction;intro hc;have h1:qaS l s<l.length:=by omega
 have h2:=qdC l s h1;have h3:=h (qaS l s) k h1 hk (by omega);rw [h2,e]at h3;exact qgQ _ h3
theorem qvN.take {l:List EntV} (h:qvN l) (k:Nat):qvN (l.take k):=fun i j hi hj hij=>by
 rw [List.length_take]at hi hj;rw [List.getElem_take,List.getElem_take];exact h i j (by omega) (by omega) hij
theorem qpN {t:List NodeV} (h:Sound t):qvN (qaM t):=fun i j hi hj hij=>by
 rw [qaQ]at hi hj;rw [qcV t i hi,qcV t j hj,qc5,qc5];exact qbW h.rises i j hi hj hij
theorem zaW {p:List UInt8} (h:qa6 p=0):p≠ []:=fun e=>by
 rw [e]at h;exact absurd h (by decide+kernel)
theorem qeH {x:NodeV} (h:nodE x=0):(x.kind=1∧x.target= []∧x.data.length≤2000)∨(x.kind=2∧x.target= []∧x.data= []∧x.same=0)∨(x.kind=3∧x.target≠ []∧x.data= []∧x.same=0∧hasB 0 x.target=false∧x.target.length≤400):=by
 have hk:=qi8 h;unfold nodK at hk
 by_cases k1:x.kind=1
 ·rw [if_pos k1]at hk
  by_cases c1:x.target≠ []∨x.same<0
  ·rw [if_pos c1]at hk;cases hk
  ·rw [if_neg c1]at hk
   by_cases c2:2000<x.data.length
   ·rw [if_pos c2]at hk;cases hk
   ·refine .inl ⟨k1,?_,by omega⟩;apply Classical.byContradiction;intro hc;exact c1 (.inl hc)
 ·rw [if_neg k1]at hk
  by_cases k2:x.kind=2∨x.kind=3
  ·rw [if_pos k2]at hk
   by_cases c1:x.data≠ []∨x.same≠0∨(x.kind=2∧x.target≠ [])∨(x.kind=3∧x.target= [])∨hasB 0 x.target=true
   ·rw [if_pos c1]at hk;cases hk
   ·rw [if_neg c1]at hk
    by_cases c2:400<x.target.length
    ·rw [if_pos c2]at hk;cases hk
    ·have d1:x.data= []:=Classical.byContradiction fun hc=>c1 (.inl hc);have d2:x.same=0:=Classical.byContradiction fun hc=>c1 (.inr (.inl hc))
     have d3:hasB 0 x.target=false:=by
      cases hb:hasB 0 x.target with
      |false=>rfl
      |true=>exact absurd (.inr (.inr (.inr (.inr hb)))) c1
     rcases k2 with k2|k3
     ·exact .inr (.inl ⟨k2,Classical.byContradiction fun hc=>c1 (.inr (.inr (.inl ⟨k2,hc⟩))),d1,d2⟩)
     ·exact .inr (.inr ⟨k3,fun hc=>c1 (.inr (.inr (.inr (.inl ⟨k3,hc⟩)))),d1,d2,d3,by omega⟩)
  ·rw [if_neg k2]at hk;cases hk
theorem qdO {x:NodeV} (h:nodE x=0):qa6 x.path=0∧metE x.md=0:=by
 unfold nodE at h
 by_cases hp:qa6 x.path≠0
 ·rw [if_pos hp]at h;exact absurd h hp
 ·rw [if_neg hp]at h
  by_cases hm:metE x.md≠0
  ·rw [if_pos hm]at h;exact absurd h hm
  ·exact ⟨by simpa using hp,by simpa using hm⟩
theorem za7 {x:NodeV} (h:nodE x=0):entE x.ent=0:=by
 have hp:=qdO h;have hk:=qeH h;have e:entE x.ent=entK x.ent:=qn3 hp.1 hp.2;rw [e];unfold entK NodeV.ent;simp only;rcases hk with ⟨k,t,d⟩|⟨k,t,d,-⟩|⟨k,t,d,-,b,l⟩
 ·rw [k,t];rw [if_neg (by omega),if_neg (by simp),if_neg (by simp;omega),if_neg (by omega),if_neg (by decide)]
 ·rw [k,t,d];rw [if_neg (by omega),if_neg (by simp),if_neg (by simp),if_neg (by omega),if_neg (by decide)]
 ·rw [k,d];rw [if_neg (by omega),if_neg (by simp [t]),if_neg (by simp;omega),if_neg (by omega),if_neg (by rw [b];decide)]
theorem qw8 {t:List NodeV} (h:Sound t) {i:Nat} (hi:i<t.length) (hl:0<t[i].same∧qaB t i<i):
  ∃hf:qaB t i<t.length,(t[qaB t i]'hf).kind=1∧(t[qaB t i]'hf).md=t[i].md∧(t[qaB t i]'hf).data=t[i].data∧(t[qaB t i]'hf).same=t[i].same∧qaB t (qaB t i)=qaB t i∧t[i].kind=1∧t[i].target= []:=by
 have hf:qaB t i<t.length:=by omega
 have he:=(qbU t i).2.1 hl.2;obtain ⟨h1,h2⟩:=qzH h hf hi he;have he2:qaG t i≠0∧qaG t (qaB t i)=qaG t i:=of_decide_eq_true he;rw [qbL hi,qbL hf]at he2;have hk:=(qfD (h.node _ (List.getElem_mem hf))).2 (by rw [he2.2];exact he2.1);have hk2:=(qfD (h.node _ (List.getElem_mem hi))).2 he2.1;refine ⟨hf,hk,h1,h2,he2.2,qlG t i,hk2,?_⟩;rcases qeH (h.node _ (List.getElem_mem hi))with ⟨-,a,-⟩|⟨a,-⟩|⟨a,-⟩
 ·exact a
 ·rw [hk2]at a;cases a
 ·rw [hk2]at a;cases a
theorem qfA {t:List NodeV} {i:Nat} (hi:i<t.length) (hl:0<t[i].same∧qaB t i<i):qcW t i t[i]=⟨t[i].path,4,(t[qaB t i]'(by omega)).path,t[i].md, []⟩:=by
 unfold qcW;rw [if_pos hl,List.getElem?_eq_getElem (by omega)];rfl
theorem qdL {t:List NodeV} {i:Nat} (hi:i<t.length) (hl: ¬(0<t[i].same∧qaB t i<i)):qcW t i t[i]=t[i].ent:=by
 unfold qcW;rw [if_neg hl]
theorem zaQ {t:List NodeV} (h:Sound t) {i:Nat} (hi:i<t.length):entE (qcW t i t[i])=0:=by
 by_cases hl:0<t[i].same∧qaB t i<i
 ·rw [qfA hi hl];obtain ⟨hf,-⟩:=qw8 h hi hl;have hn:=h.node _ (List.getElem_mem hi);have hp:=(qdO (h.node _ (List.getElem_mem hf))).1;rw [qn3 (n:=⟨_,_,_,_,_⟩) (qdO hn).1 (qdO hn).2];unfold entK;simp only;have h1:=zaW hp;have h2:=qgT hp;rw [if_neg (by omega),if_neg (by simp [h1]),if_neg (by simp;omega),if_pos trivial,hp]
 ·rw [qdL hi hl];exact za7 (h.node _ (List.getElem_mem hi))
theorem qgR {t:List NodeV} (h:Sound t) (h40:t.length≤40):qbJ (qaM t)=0:=by
 rw [qkR];refine ⟨by rw [qaQ];exact h40,fun k hk=> ?_⟩;have hkt:k<t.length:=by rwa [qaQ]at hk
 have hr:=qpN h;rw [qcV t k hkt,qfL];refine ⟨zaQ h hkt,fun y hy=> ?_,?_,?_⟩
 ·obtain ⟨h0,e⟩:=(qqD (qaM t) k hk y).1 hy;subst e;rw [qc5,qcV t (k-1) (by omega),qc5];exact qbW h.rises (k-1) k (by omega) hkt (by omega)
 ·rw [qc5];unfold upE
  by_cases hu:upL t[k].path= []
  ·rw [decide_eq_true hu,Bool.true_or]
  ·rw [decide_eq_false hu,Bool.false_or];rcases h.up _ (List.getElem_mem hkt)with e|⟨d,hd,e1,e2⟩
   ·exact absurd e hu
   ·have hd2:=qfT h.rises k hkt d hd (by rw [e1];exact qiS hu);obtain ⟨j,hj,hjd⟩:=List.mem_take_iff_getElem.1 hd2;have hjt:j<t.length:=by omega
    have hj2:j<((qaM t).take k).length:=by rw [List.length_take,qaQ];omega
    have hg:((qaM t).take k)[j]=qcW t j t[j]:=by rw [List.getElem_take,qcV t j hjt]
    have hf:=qkQ (hr.take k) j hj2 (s:=upL t[k].path) (by rw [hg,qc5,hjd,e1])
    have hs:t[j].same=0:=by
     rcases qeH (h.node _ (List.getElem_mem hjt))with ⟨a,-⟩|⟨-,-,-,a⟩|⟨a,-⟩
     ·rw [hjd,e2]at a;cases a
     ·exact a
     ·rw [hjd,e2]at a;cases a
    rw [dif_pos (by rw [hf];exact hj2)];simp only [hf,hg];rw [qdL hjt (by rw [hs];omega)];show decide (t[j].kind=2)=true;rw [hjd];exact decide_eq_true e2
 ·unfold aimE
  by_cases hl:0<t[k].same∧qaB t k<k
  ·obtain ⟨hf,b1,b2,b3,b4,b5,-,-⟩:=qw8 h hkt hl;rw [qfA hkt hl];simp only;rw [decide_eq_false (by simp),Bool.false_or];have hj2:qaB t k<((qaM t).take k).length:=by rw [List.length_take,qaQ];omega
   have hg:((qaM t).take k)[qaB t k]=qcW t (qaB t k) t[qaB t k]:=by rw [List.getElem_take,qcV t _ hf]
   have hfd:=qkQ (hr.take k) (qaB t k) hj2 (s:=t[qaB t k].path) (by rw [hg,qc5]);have hself:qcW t (qaB t k) t[qaB t k]=t[qaB t k].ent:=qdL hf (by rw [b5];omega);rw [dif_pos (by rw [hfd];exact hj2)];simp only [hfd,hg,hself];show (decide (t[qaB t k].kind=1) &&decide (t[qaB t k].md=t[k].md))=true;rw [decide_eq_true b1,decide_eq_true b2];rfl
  ·rw [qdL hkt hl]
   have:t[k].ent.kind≠4:=by
    show t[k].kind≠4;rcases qeH (h.node _ (List.getElem_mem hkt))with ⟨a,-⟩|⟨a,-⟩|⟨a,-⟩<;>rw [a]<;>decide
   rw [decide_eq_true this,Bool.true_or]
def isL (t:List NodeV) (i:Nat):Prop:= ∃hi:i<t.length,0<t[i].same∧qaB t i<i
theorem qjI {t:List NodeV} (h:Sound t) {i:Nat} (hi:i<t.length) (hl:0<t[i].same∧qaB t i<i):
  (qa9 (qaM t))[i]'(by rw [qa7,qaQ];exact hi)= {t[i]with same:=(qaB t i:Int)+1} :=by
 obtain ⟨hf,b1,b2,b3,b4,b5,b6,b7⟩:=qw8 h hi hl;have hpi:i<(qaM t).length:=by rw [qaQ];exact hi
 have hpf:qaB t i<(qaM t).length:=by rw [qaQ];exact hf
 rw [qeA (qaM t) i hpi,qcV t i hi,qfA hi hl];have hg:(qaM t)[qaB t i]=t[qaB t i].ent:=by rw [qcV t _ hf];exact qdL hf (by rw [b5];omega)
 have hfd:=qkQ (qpN h) (qaB t i) hpf (s:=t[qaB t i].path) (by rw [hg];rfl);unfold qd2;rw [if_pos rfl];simp only;rw [hfd,List.getElem?_eq_getElem hpf,hg];generalize t[qaB t i]=y at b1 b2 b3;generalize t[i]=x at*;obtain ⟨xp,xk,xs,xt,xm,xd⟩:=x;simp only at b3 b6 b7;subst b6 b7;show (⟨xp,1,_, [],xm,y.data⟩:NodeV)=⟨xp,1,_, [],xm,xd⟩;rw [b3]
theorem zc1 {t:List NodeV} (h:Sound t) {i:Nat} (hi:i<t.length):
  ((qaM t).any fun y=>decide (y.kind=4) &&decide (y.target=t[i].path))=true↔ ∃j,isL t j∧qaB t j=i:=by
 rw [List.any_eq_true];constructor
 ·rintro ⟨y,hy,e⟩;rw [Bool.and_eq_true,decide_eq_true_eq,decide_eq_true_eq]at e;obtain ⟨j,hj,rfl⟩:=List.getElem_of_mem hy;have hjt:j<t.length:=by rwa [qaQ]at hj
  rw [qcV t j hjt]at e
  by_cases hl:0<t[j].same∧qaB t j<j
  ·rw [qfA hjt hl]at e;refine ⟨j,⟨hjt,hl⟩,?_⟩;have hf:qaB t j<t.length:=by omega
   have e2:t[qaB t j].path=t[i].path:=e.2;rcases Nat.lt_trichotomy (qaB t j) i with a|a|a
   ·have:=qbW h.rises _ _ hf hi a;rw [e2]at this;exact absurd this (qgQ _)
   ·exact a
   ·have:=qbW h.rises _ _ hi hf a;rw [e2]at this;exact absurd this (qgQ _)
  ·rw [qdL hjt hl]at e;exfalso;have e1:t[j].kind=4:=e.1;rcases qeH (h.node _ (List.getElem_mem hjt))with ⟨a,-⟩|⟨a,-⟩|⟨a,-⟩<;>(rw [e1]at a;cases a)
 ·rintro ⟨j,⟨hjt,hl⟩,rfl⟩;refine ⟨(qaM t)[j]'(by rw [qaQ];exact hjt),List.getElem_mem _,?_⟩;rw [qcV t j hjt,qfA hjt hl];simp
theorem qnP {t:List NodeV} (h:Sound t) {i:Nat} (hi:i<t.length) (hl: ¬(0<t[i].same∧qaB t i<i)):
  ∃z:Int,(qa9 (qaM t))[i]'(by rw [qa7,qaQ];exact hi)= {t[i]with same:=z} ∧((z=(i:Int)+1∧ ∃j,isL t j∧qaB t j=i)∨(z=0∧ ¬(t[i].kind=1∧ ∃j,isL t j∧qaB t j=i))):=by
 have hpi:i<(qaM t).length:=by rw [qaQ];exact hi
 have hk4:t[i].kind≠4:=by
  rcases qeH (h.node _ (List.getElem_mem hi))with ⟨a,-⟩|⟨a,-⟩|⟨a,-⟩<;>rw [a]<;>decide
 have hany:=zc1 h hi;rw [qeA (qaM t) i hpi,qcV t i hi,qdL hi hl];unfold qd2;rw [if_neg (show¬t[i].ent.kind=4 from hk4)];refine ⟨_,rfl,?_⟩
 by_cases hc:t[i].ent.kind=1∧((qaM t).any fun y=>decide (y.kind=4) &&decide (y.target=t[i].ent.path))=true
 ·rw [if_pos hc];exact .inl ⟨rfl,hany.1 hc.2⟩
 ·rw [if_neg hc];refine .inr ⟨rfl,fun hx=>hc ⟨hx.1,hany.2 hx.2⟩⟩
theorem qe9 {t:List NodeV} {i:Nat} (hi:i<t.length) {z:Int} (e:(qa9 (qaM t))[i]'(by rw [qa7,qaQ];exact hi)= {t[i]with same:=z}):qaG (qa9 (qaM t)) i=z:=by
 rw [qbL (by rw [qa7,qaQ];exact hi),e]
theorem qkP {t:List NodeV} (h:Sound t):q8L (qa9 (qaM t)) t:=by
 have h0:=fun i=>h.pos i;refine ⟨by rw [qa7,qaQ],fun i h1 h2=> ?_,fun i k hk hi=> ?_⟩
 ·by_cases hl:0<t[i].same∧qaB t i<i
  ·rw [qjI h h2 hl]
  ·obtain ⟨z,e,-⟩:=qnP h h2 hl;rw [e]
 ·rw [qa7,qaQ]at hi;have hkt:k<t.length:=by omega
  have hL: ∀j (hj:j<t.length),qaG (qa9 (qaM t)) j=(qaB t j:Int)+1∨qaG (qa9 (qaM t)) j=0:=fun j hj=>by
   by_cases hl:0<t[j].same∧qaB t j<j
   ·exact .inl (qe9 hj (qjI h hj hl))
   ·obtain ⟨z,e,d⟩:=qnP h hj hl;rcases d with ⟨d,m,-,hm⟩|⟨d,-⟩
    ·left;rw [qe9 hj e,d];have:qaB t j=j:=by rw [←hm,qlG]
     rw [this]
    ·right;rw [qe9 hj e,d]
  constructor
  ·rintro ⟨a,b⟩;rcases hL i hi with c|c
   ·rcases hL k hkt with d|d
    ·have hf:qaB t k=qaB t i:=by omega
     have hI:=(qjM h0 i k).1 hf;unfold isF at hI;rw [Bool.or_eq_true,decide_eq_true_eq,Bool.and_eq_true,decide_eq_true_eq,decide_eq_true_eq]at hI;rcases hI with e|⟨e1,e2⟩
     ·omega
     ·exact ⟨e1,e2.symm⟩
    ·omega
   ·omega
  ·rintro ⟨a,b⟩
   have hI:isF t i k=true:=by
    unfold isF;rw [Bool.or_eq_true,Bool.and_eq_true];exact .inr ⟨decide_eq_true a,decide_eq_true b.symm⟩
   have hf:=(qjM h0 i k).2 hI;have hfk:=(qbU t k).1;have ha:=a;rw [qbL hi]at ha;have hli:0<t[i].same∧qaB t i<i:=⟨ha,by omega⟩;have e1:=qe9 hi (qjI h hi hli);have hka:0<t[k].same:=by rw [qbL hi,qbL hkt]at b;omega
   have e2:qaG (qa9 (qaM t)) k=(qaB t i:Int)+1:=by
    by_cases hl:0<t[k].same∧qaB t k<k
    ·rw [qe9 hkt (qjI h hkt hl),hf]
    ·obtain ⟨z,e,d⟩:=qnP h hkt hl
     have hkk:qaB t k=k:=by
      rcases Nat.lt_or_eq_of_le hfk with q|q
      ·exact absurd ⟨hka,q⟩ hl
      ·exact q
     rcases d with ⟨d,-⟩|⟨-,d⟩
     ·rw [qe9 hkt e,d,←hf,hkk]
     ·exact absurd ⟨(qfD (h.node _ (List.getElem_mem hkt))).2 (by omega),i,⟨hi,hli⟩,by rw [←hf,hkk]⟩ d
   exact ⟨by omega,by omega⟩
end Go.Proofs.YtapgoifimhnbdaaGreatDoor
