/- qaX of one kind, in one file: ResM, EntO, EntS, ResP, ResS. -/
import Derived.Test.YtapgoifimhnbdaaGreatDoorEng
import Derived.Test.YtapgoifimhnbdaaGreatDoorMth
import Derived.Test.YtapgoifimhnbdaaGreatDoorRea
import Derived.Test.YtapgoifimhnbdaaGreatDoorEnt
import Derived.Test.YtapgoifimhnbdaaGreatDoorLnp
import Derived.Deep.DeepCutAuto
import Derived.BigRegion
set_option linter.unusedVariables false
namespace Go.Proofs.YtapgoifimhnbdaaGreatDoor
open Go.RowKit
noncomputable def qcQ (b:List UInt8):List NodeV×Int:=if (arcR b).2=0 then (qa9 (arcR b).1,0)else ([],(arcR b).2)
theorem qmL {b:List UInt8} (h:(arcR b).2=0):qcQ b=(qa9 (arcR b).1,0):=if_pos h
theorem qq6 {b:List UInt8} (h:(arcR b).2≠0):qcQ b=([],(arcR b).2):=if_neg h
theorem qmM {l:List EntV} (h:qbJ l=0):qcQ (arcE l)=(qa9 l,0):=by
 unfold qcQ;rw [arcR_of h]
 rfl
def hitP (s p:List UInt8):Bool:=decide (p=s)||inB p s||inB s p
def qmI (t:List NodeV) (s:List UInt8):List NodeV:=t.filter fun x=>hitP s x.path
noncomputable def q34 (b s:List UInt8):List NodeV×Int:=
 if (qcQ b).2≠0 then ([],(qcQ b).2)else if qaR (qcQ b).1 s=(qcQ b).1.length then ([],5)else (qmI (qcQ b).1 s,0)
theorem q6E {a b c:List UInt8} (hb:b≠ []) (hc:c≠ []) (h1:inB a b=true) (h2:inB b c=true):inB a c=true:=by
 obtain ⟨r,rfl⟩:=(qp2 hb).1 h1;obtain ⟨q,rfl⟩:=(qp2 hc).1 h2;exact (qp2 hc).2 ⟨q++47::r,by simp⟩
theorem in_up {p:List UInt8} (h:upL p≠ []):inB p (upL p)=true:=(qp2 h).2 ⟨_,qqV h⟩
theorem hit_up {s p:List UInt8} (hs:s≠ []) (hu:upL p≠ []) (h:hitP s p=true):hitP s (upL p)=true:=by
 unfold hitP at h⊢;rw [Bool.or_eq_true,Bool.or_eq_true,decide_eq_true_eq]at h⊢;rcases h with (rfl|h)|h
 ·exact .inr (in_up hu)
 ·rcases up_in hs h with e|e
  ·exact .inl (.inl e)
  ·exact .inl (.inr e)
 ·have hp:p≠ []:=fun e=>hu (by rw [e];rfl);exact .inr (q6E hp hu h (in_up hu))
theorem q2C {l:List NodeV} (h:Sound l) (f:List UInt8→Bool) (hf: ∀p,upL p≠ []→f p=true→f (upL p)=true):Sound (l.filter fun x=>f x.path):=by
 refine ⟨List.Pairwise.sublist List.filter_sublist h.rises,fun n hn=>h.node n (List.mem_filter.1 hn).1,fun n hn=> ?_,fun x hx y hy=>h.link x (List.mem_filter.1 hx).1 y (List.mem_filter.1 hy).1⟩;obtain ⟨hn1,hn2⟩:=List.mem_filter.1 hn
 by_cases hu:upL n.path= []
 ·exact .inl hu
 ·rcases h.up n hn1 with e|⟨d,hd,e1,e2⟩
  ·exact .inl e
  ·exact .inr ⟨d,List.mem_filter.2 ⟨hd,by rw [e1];exact hf _ hu hn2⟩,e1,e2⟩
theorem q2D {l:List NodeV} (h:qeW l) (f:List UInt8→Bool) {n:NodeV} (hn:n∈l):decide (qaR (l.filter fun x=>f x.path) n.path<(l.filter fun x=>f x.path).length)=f n.path:=by
 cases hb:f n.path with
 |true=>
  have hm:n∈l.filter fun x=>f x.path:=List.mem_filter.2 ⟨hn,hb⟩;obtain ⟨hk,-⟩:=q66 (List.Pairwise.sublist List.filter_sublist h) hm;exact decide_eq_true hk
 |false=>
  apply decide_eq_false;intro hk;have he:=qf6 _ _ hk;have:=(List.mem_filter.1 (List.getElem_mem hk)).2;rw [he,hb]at this;cases this
theorem q0K {t:List NodeV} (h:Sound t) {s:List UInt8} (hs:s≠ []):Sound (qmI t s):=q2C h (hitP s) fun _ hu hf=>hit_up hs hu hf
theorem qwE {a t:List NodeV} (h:Sound t) (hal:q8L a t) (hs: ∀x∈a,0≤x.same∧(x.same≠0→x.kind=1)):Sound a:=by
 obtain ⟨hl,he,hk⟩:=hal
 have hf: ∀i (h1:i<a.length) (h2:i<t.length),a[i]= {t[i]with same:=a[i].same} :=fun i h1 h2=>by
  have:=congrArg (fun z:NodeV=>({z with same:=a[i].same} :NodeV)) (he i h1 h2);exact this
 have hp: ∀i (h1:i<a.length) (h2:i<t.length),a[i].path=t[i].path:=fun i h1 h2=>by rw [hf i h1 h2]
 refine ⟨?_,fun x hx=> ?_,fun x hx=> ?_,fun x hx y hy hxy hne=> ?_⟩
 ·unfold qeW;rw [List.pairwise_iff_getElem];intro i j hi hj hij;rw [hp i hi (by omega),hp j hj (by omega)];exact qbW h.rises i j _ _ hij
 ·obtain ⟨i,hi,rfl⟩:=List.getElem_of_mem hx;have h1:=hs _ hx;have h2:=hf i hi (by omega);have hk1:a[i].kind=(t[i]'(by omega)).kind:=by rw [h2]
  rw [h2];exact qnC (h.node _ (List.getElem_mem _)) h1.1 fun hz=>by rw [←hk1];exact h1.2 hz
 ·obtain ⟨i,hi,rfl⟩:=List.getElem_of_mem hx;rw [hp i hi (by omega)];rcases h.up _ (List.getElem_mem (show i<t.length by omega))with e|⟨d,hd,e1,e2⟩
  ·exact .inl e
  ·obtain ⟨j,hj,rfl⟩:=List.getElem_of_mem hd;exact .inr ⟨a[j]'(by omega),List.getElem_mem _,by rw [hp j (by omega) hj,e1],by rw [hf j (by omega) hj];exact e2⟩
 ·obtain ⟨i,hi,rfl⟩:=List.getElem_of_mem hx;obtain ⟨j,hj,rfl⟩:=List.getElem_of_mem hy
  have key: ∀i j (hi:i<a.length) (hj:j<a.length),j<i→a[i].same=a[j].same→a[i].same≠0→(t[i]'(by omega)).md=(t[j]'(by omega)).md∧(t[i]'(by omega)).data=(t[j]'(by omega)).data:=fun i j hi hj hij e hne=>by
   have h1:=(hk i j hij hi).1;rw [qbL hi,qbL hj,qbL (show i<t.length by omega),qbL (show j<t.length by omega)]at h1;have h2:=h1 ⟨by have:=(hs _ (List.getElem_mem hi)).1;omega,e⟩;exact h.link _ (List.getElem_mem _) _ (List.getElem_mem _) h2.2 (by omega)
  have hmd: ∀i (hi:i<a.length),a[i].md=(t[i]'(by omega)).md∧a[i].data=(t[i]'(by omega)).data:=fun i hi=>by
   constructor
   ·rw [hf i hi (by omega)]
   ·rw [hf i hi (by omega)]
  rw [(hmd i hi).1,(hmd i hi).2,(hmd j hj).1,(hmd j hj).2];rcases Nat.lt_trichotomy i j with h'|h'|h'
  ·have:=key j i hj hi h' hxy.symm (by rw [←hxy];exact hne);exact ⟨this.1.symm,this.2.symm⟩
  ·subst h';exact ⟨rfl,rfl⟩
  ·exact key i j hi hj h' hxy hne
theorem quS (l:List EntV): ∀x∈qa9 l,0≤x.same∧(x.same≠0→x.kind=1):=fun x hx=>by
 obtain ⟨i,hi,rfl⟩:=List.getElem_of_mem hx;rw [qa7]at hi;rw [qeA l i hi];unfold qd2
 by_cases hk:l[i].kind=4
 ·rw [if_pos hk];exact ⟨by show (0:Int)≤((qaS l l[i].target:Nat):Int)+1;omega,fun _=>rfl⟩
 ·rw [if_neg hk]
  by_cases hc:l[i].kind=1∧(l.any fun y=>decide (y.kind=4) &&decide (y.target=l[i].path))=true
  ·rw [if_pos hc];exact ⟨by show (0:Int)≤(i:Int)+1;omega,fun _=>hc.1⟩
  ·rw [if_neg hc];exact ⟨Int.le_refl _,fun h=>absurd rfl h⟩
theorem qoO {t:List NodeV} (h:Sound t):Sound (qa9 (qaM t)):=qwE h (qkP h) (quS _)
theorem qhX {t:List NodeV} (i:Nat) (hi:i<t.length):((qa9 (qaM t))[i]'(by rw [qa7,qaQ];exact hi)).path=t[i].path:=by
 rw [qeA _ i (by rw [qaQ];exact hi),qcV t i hi];have:(qd2 (qaM t) i (qcW t i t[i])).path=(qcW t i t[i]).path:=by unfold qd2;split<;>rfl
 rw [this,qc5]
theorem q6Q {l:List EntV} {x:NodeV} (hx:x∈qa9 l): ∃y∈l,x.path=y.path:=by
 obtain ⟨i,hi,rfl⟩:=List.getElem_of_mem hx;rw [qa7]at hi;rw [qeA l i hi];exact ⟨l[i],List.getElem_mem hi,by unfold qd2;split<;>rfl⟩
def shN (dir:List UInt8) (x:NodeV):NodeV:= {x with path:=dir++47::x.path,same:=if 0<x.same then x.same+1000 else x.same}
def gapU (out:List NodeV) (n:NodeV):Bool:=match out[qaR out n.path]? with
 |some y=> !(decide (y.kind=2) &&decide (n.kind=2))
 |none=>false
def qdD (out:List NodeV) (n:NodeV):List NodeV×Int:=putT (if gapU out n=true then (remT out n.path).1 else out) n
def undL (dir:List UInt8) (out:List NodeV):List NodeV→List NodeV×Int
 | []=>(out,0)
 |x::l=>if (qdD out (shN dir x)).2≠0 then ([],(qdD out (shN dir x)).2)else undL dir (qdD out (shN dir x)).1 l
noncomputable def undR (t:List NodeV) (dir b:List UInt8):List NodeV×Int:=
 if qaO t≠0 then ([],qaO t)
 else if qaR t dir=t.length then ([],5)
 else if ((t[qaR t dir]?).map NodeV.kind).getD 0≠2 then ([],10)
 else if (qcQ b).2≠0 then ([],(qcQ b).2)
 else if (undL dir (qa8 t) (qcQ b).1).2≠0 then ([],(undL dir (qa8 t) (qcQ b).1).2)
 else (qa8 (undL dir (qa8 t) (qcQ b).1).1,0)
theorem zaJ {l:List NodeV} {x:NodeV} (h:(putT l x).2=0):qaO (putT l x).1=0∧(putT l x).1=putL l x:=by
 unfold putT at h⊢
 by_cases h1:qaO l≠0
 ·rw [if_pos h1]at h;exact absurd h h1
 ·rw [if_neg h1]at h⊢
  by_cases h2:qaO (putL l x)≠0
  ·rw [if_pos h2]at h;exact absurd h h2
  ·rw [if_neg h2];exact ⟨by simpa using h2,rfl⟩
theorem q0G {out:List NodeV} {n:NodeV} (h:(qdD out n).2=0):qaO (qdD out n).1=0:=(zaJ h).1
end Go.Proofs.YtapgoifimhnbdaaGreatDoor
set_option maxRecDepth 100000
namespace Go.Proofs.YtapgoifimhnbdaaGreatDoor
open Go.RowKit
open Go.OpenShut
def qnQ (l:List EntV) (i j:Nat) (x:EntV):NodeV:=
 if x.kind=4 then qd2 l j x else ⟨x.path,x.kind,smE (l.take i) j x,x.target,x.md,x.data⟩
def qf5 (l:List EntV) (i:Nat):List NodeV:=(l.take i).mapIdx fun j x=>qnQ l i j x
theorem qbQ (l:List EntV) (i:Nat) (h:i≤l.length):(qf5 l i).length=i:=by unfold qf5;rw [List.length_mapIdx,List.length_take];omega
theorem qf4 (l:List EntV) (i j:Nat) (h:i≤l.length) (hj:j<i):(qf5 l i)[j]'(by rw [qbQ l i h];exact hj)=qnQ l i j (l[j]'(by omega)):=by
 unfold qf5;rw [List.getElem_mapIdx,List.getElem_take]
theorem q6R (l:List EntV):qf5 l l.length=qa9 l:=by
 apply List.ext_getElem
 ·rw [qbQ l _ (Nat.le_refl _),qa7]
 ·intro j h1 h2;rw [qa7]at h2;rw [qf4 l _ j (Nat.le_refl _) h2,qeA l j h2];unfold qnQ qd2 smE anyE;rw [List.take_length]
  split
  ·rfl
  ·rfl
theorem qu5 {l:List EntV} (h:qb3 [] l=0) {k:Nat} (hk:k<l.length):qaS l l[k].path=k:=by
 refine qeI l _ k hk ?_ rfl;have h1:=qsA h hk;apply Classical.byContradiction;intro hc;have h2:qaS l l[k].path<k:=by omega
 have h3:=qdC l l[k].path (by omega);refine qjO (l.take k) l[k].path (qaS l l[k].path) (by rw [h1];exact h2) (by rw [List.length_take];omega) ?_;rw [List.getElem_take];exact h3
theorem q15 {l:List EntV} (h:qbJ l=0) {i:Nat} (hi:i<l.length) (hk:l[i].kind=4) (hf:qaS l l[i].target<i) (hg:qaS l l[i].target<(qf5 l i).length):
  qf5 l (i+1)=((qf5 l i).set (qaS l l[i].target) {(qf5 l i)[qaS l l[i].target]with same:=((qaS l l[i].target:Nat):Int)+1})++ [qd2 l i l[i]]:=by
 have hw:qb3 [] l=0:=by
  unfold qbJ at h
  split at h
  ·cases h
  ·exact h
 obtain ⟨hfl,-,hf1,hfm⟩:=q8M h hi hk;have hft:=qdC l l[i].target hfl;apply List.ext_getElem
 ·rw [qbQ l _ (by omega),List.length_append,List.length_set,qbQ l _ (by omega)];rfl
 ·intro j h1 h2;rw [qbQ l _ (by omega)]at h1;rw [qf4 l (i+1) j (by omega) h1]
  by_cases hji:j=i
  ·subst hji;rw [List.getElem_append_right (by rw [List.length_set,qbQ l _ (by omega)];exact Nat.le_refl _)];simp only [List.length_set,qbQ l j (by omega),Nat.sub_self,List.getElem_cons_zero];unfold qnQ;rw [if_pos hk]
  ·have hlt:j<i:=by omega
   rw [List.getElem_append_left (by rw [List.length_set,qbQ l _ (by omega)];exact hlt),List.getElem_set];have hsm:=qyH l j l[j] i hi _ rfl;rw [decide_eq_true hk,Bool.true_and]at hsm
   by_cases hjf:qaS l l[i].target=j
   ·rw [if_pos hjf];subst hjf;simp only [qf4 l i _ (by omega) hlt];unfold qnQ;rw [if_neg (by rw [hf1];decide),if_neg (by rw [hf1];decide)];rw [hsm,decide_eq_true hft.symm,decide_eq_true hf1]
    rfl
   ·rw [if_neg hjf,qf4 l i j (by omega) hlt];unfold qnQ;have hne:l[i].target≠l[j].path:=fun e=>hjf (by rw [e];exact qu5 hw (by omega));rw [hsm,decide_eq_false hne]
    rfl
theorem qxI {l:List EntV} (h:qbJ l=0) {i:Nat} (hi:i<l.length) (hk:l[i].kind≠4):
  qf5 l (i+1)=qf5 l i++ [⟨l[i].path,l[i].kind,0,l[i].target,l[i].md,l[i].data⟩]:=by
 have hw:qb3 [] l=0:=by
  unfold qbJ at h
  split at h
  ·cases h
  ·exact h
 apply List.ext_getElem
 ·rw [qbQ l _ (by omega),List.length_append,qbQ l _ (by omega)];rfl
 ·intro j h1 h2;rw [qbQ l _ (by omega)]at h1;rw [qf4 l (i+1) j (by omega) h1]
  by_cases hji:j=i
  ·subst hji;rw [List.getElem_append_right (by rw [qbQ l _ (by omega)];exact Nat.le_refl _)];simp only [qbQ l j (by omega),Nat.sub_self,List.getElem_cons_zero];unfold qnQ;rw [if_neg hk]
   have h0:smE (l.take (j+1)) j l[j]=0:=by
    unfold smE;rw [if_neg];rintro ⟨-,ha⟩;unfold anyE at ha;obtain ⟨y,hy,hy2⟩:=List.any_eq_true.1 ha;rw [Bool.and_eq_true,decide_eq_true_eq,decide_eq_true_eq]at hy2;obtain ⟨k,hkl,rfl⟩:=List.getElem_of_mem hy;rw [List.length_take]at hkl;rw [List.getElem_take]at hy2;have hkj:k≠j:=fun e=>by subst e;exact hk hy2.1
    obtain ⟨-,a2,-⟩:=q8M h (i:=k) (by omega) hy2.1;rw [hy2.2,qu5 hw hi]at a2;omega
   rw [h0]
  ·have hlt:j<i:=by omega
   rw [List.getElem_append_left (by rw [qbQ l _ (by omega)];exact hlt),qf4 l i j (by omega) hlt];unfold qnQ;have hsm:=qyH l j l[j] i hi _ rfl;rw [decide_eq_false hk,Bool.false_and]at hsm;rw [hsm]
   rfl
theorem MapS.far {w:World} {r:Nat} {f:ByteArray→Option Value} (h:MapS w r f) {p:Addr} (hp:r≠p.block) (u:Value):MapS (w.setCell p u) r f:=h.stays (Below.heap_setCell w p u r hp)
theorem qpI {w:World} {B e size n r:Nat} {v:Value} {xs:List Value} {f:ByteArray→Option Value} (h:w.ownsRow B e size v n xs) (hm:MapS w r f): ∀g,v.ownBlock=some g→g≠r:=by
 intro g hg e;subst e;obtain ⟨es,clock,hr,-⟩:=hm;obtain ⟨-,cur,hc⟩:=qa2 h g hg;rw [hc]at hr;cases hr
theorem MapS.grown {w w':World} {B e size n r:Nat} {v:Value} {xs:List Value} {f:ByteArray→Option Value} (hm:MapS w r f) (h:w.ownsRow B e size v n xs) (hg:w.grownBy w' v.ownBlock):MapS w' r f:=
 hm.stays (hg.block r hm.lt fun e=>qpI h hm r e.symm rfl)
def PlcE (w:World) (r:Nat) (t:List EntV):Prop:=
 ∃f,MapS w r f∧ ∀s:List UInt8,f (bs s)=if qaS t s<t.length then some (.int .i64 ((qaS t s:Nat):Int))else none
theorem PlcE.below {w w':World} {r:Nat} {t:List EntV} (h:PlcE w r t) (hb:Below w.heap.size w w'):PlcE w' r t:=by
 obtain ⟨f,h1,h2⟩:=h;exact ⟨f,h1.below hb,h2⟩
theorem PlcE.far {w:World} {r:Nat} {t:List EntV} (h:PlcE w r t) {p:Addr} (hp:r≠p.block) (u:Value):PlcE (w.setCell p u) r t:=by
 obtain ⟨f,h1,h2⟩:=h;exact ⟨f,h1.far hp u,h2⟩
theorem PlcE.row_ne {w:World} {r:Nat} {t:List EntV} (h:PlcE w r t) {B e size n:Nat} {v:Value} {xs:List Value} (h':w.ownsRow B e size v n xs): ∀g,v.ownBlock=some g→g≠r:=by
 obtain ⟨f,h1,h2⟩:=h;exact qpI h' h1
theorem PlcE.grown {w w':World} {r:Nat} {t:List EntV} (h:PlcE w r t) {B e size n:Nat} {v:Value} {xs:List Value} (h':w.ownsRow B e size v n xs) (hg:w.grownBy w' v.ownBlock):PlcE w' r t:=by
 obtain ⟨f,h1,h2⟩:=h;exact ⟨f,h1.grown h' hg,h2⟩
theorem PlcE.lt {w:World} {r:Nat} {t:List EntV} (h:PlcE w r t):r<w.heap.size:=by
 obtain ⟨f,h1,h2⟩:=h;exact h1.lt
theorem PlcE.new (w:World):PlcE (w.alloc (.map #[] 0)) w.heap.size []:=⟨_,MapS.new w,fun s=>by rw [if_neg (by simp)]⟩
theorem PlcE.look {w:World} {r:Nat} {t:List EntV} (h:PlcE w r t) (s:List UInt8) (hf:qaS t s<t.length):
  (Instr.lookup 99 (.map (some r)) (.string (bs s)) false).run Tryz.prog w= .ok (.int .i64 ((qaS t s:Nat):Int)) w:=by
 obtain ⟨f,h1,h2⟩:=h;have hl:=MapS.look (P:=Tryz.prog) (et:=3) Tryz.underlying99 Tryz.underlying9 h1 (bs s) (z:= .int .i64 0) (fun W=>by kernel_rfl) false;rw [if_neg (by decide),h2 s,if_pos hf]at hl;exact hl
theorem PlcE.put {w:World} {r:Nat} {t:List EntV} (h:PlcE w r t) (x:EntV) (hx:qaS t x.path=t.length):
  ∃w',(Instr.mapUpdate 99 (.map (some r)) (.string (bs x.path)) (.int .i64 (t.length:Int))).run Tryz.prog w= .ok () w'∧(∀w0 B,B≤r→Below B w0 w→Below B w0 w')∧
   (∀(g:Nat),g≠r→w'.heap[g]?=w.heap[g]?)∧PlcE w' r (t++ [x]):=by
 obtain ⟨f,h1,h2⟩:=h
 have hn:f (bs x.path)=none:=by
  rw [h2 x.path,if_neg (by omega)]
 obtain ⟨w',a1,a2,a3,-,a5⟩:=MapS.put (P:=Tryz.prog) (et:=3) Tryz.underlying99 Tryz.underlying9 h1 (bs x.path) (.int .i64 (t.length:Int)) (fun v' e=>by rw [hn]at e;cases e);refine ⟨w',a1,a2,a3,_,a5,fun s=> ?_⟩;have h3:=h2 s;have hll:(t++ [x]).length=t.length+1:=by simp
 by_cases hf:qaS t s<t.length
 ·rw [if_pos hf]at h3;have hs:=qjN x hf
  have hne: ¬bs s=bs x.path:=fun e=>by
   rw [qzO e]at hf;omega
  show (if bs s=bs x.path then some (Value.int .i64 (t.length:Int))else f (bs s))=_;rw [if_neg hne,h3,if_pos (by rw [hs,hll];omega),hs]
 ·rw [if_neg hf]at h3;have hs:=qlJ x hf
  by_cases e:x.path=s
  ·rw [if_pos e]at hs;show (if bs s=bs x.path then some (Value.int .i64 (t.length:Int))else f (bs s))=_;rw [if_pos (by rw [e]),if_pos (by rw [hs,hll];omega),hs]
  ·rw [if_neg e]at hs;have hne: ¬bs s=bs x.path:=fun e'=>e (qzO e').symm;show (if bs s=bs x.path then some (Value.int .i64 (t.length:Int))else f (bs s))=_;rw [if_neg hne,h3,if_neg (by rw [hs,hll];omega)]
theorem qlI {l:List EntV} {s:List UInt8} {i:Nat} (hi:i≤l.length) (h:qaS l s<i):qaS (l.take i) s=qaS l s:=by
 have h0:qaS l s<l.length:=by omega
 refine qeI (l.take i) s _ (by rw [List.length_take];omega) ?_ (by rw [List.getElem_take];exact qdC l s h0);apply Classical.byContradiction;intro hc;have h1:qaS (l.take i) s<qaS l s:=by omega
 have h2:=qdC (l.take i) s (by rw [List.length_take];omega);rw [List.getElem_take]at h2;exact qjO l s _ h1 (by omega) h2
set_option maxHeartbeats 8000000 in
theorem za0 (A:Option Addr) (n c:Nat) (l:List EntV) (hn:l.length=n) (hc:SlOk A n c) (hsz: ∀x∈l,x.sz) (w:World) (hA:qdJ w A l) (hE:qbJ l=0):
  Calls Tryz.prog 27 #[.slice A n c] w fun e w'=> ∃v xs,e= .returned (.tuple #[v,.int .i64 0])∧xs.map (·.1)=qa9 l∧OwnN w' w.heap.size v xs∧Below w.heap.size w w':=by
 have H1:=Lib.hid (qdX A n c l hn hc hsz w hA);rw [hE]at H1;have h40:n≤40:=by have:=((qkR l).1 hE).1;omega
 have hwk:qb3 [] l=0:=by
  have:=hE;unfold qbJ at this
  split at this
  ·cases this
  ·exact this
 have HAim:=Lib.hid fun i (hi:i<l.length) (hk:l[i].kind=4)=>q8M hE hi hk
 have HFin:Hid (∀(v:Value) (xs:List NodP) (W:World),RowN W w.heap.size v xs→xs.map (·.1)=qa9 l→(∀y∈xs,qcZ w y.2 y.1.data)→Below w.heap.size w W→Calls Tryz.prog 73 #[v] W fun e w'=> ∃v xs,e= .returned v∧xs.map (·.1)=qa9 l∧OwnN w' w.heap.size v xs∧Below w.heap.size w w'):=fun v xs W hR hmap hdy hB=>by
  obtain ⟨A9,c9,rfl,hs9,hN9⟩:=hR.at fun y hy=>(hdy y hy).below hB
  have hxl:xs.length≤40:=by
   have h1:=congrArg List.length hmap;rw [List.length_map,qa7]at h1;omega
  refine (qjX A9 xs.length c9 (xs.map (·.1)) (by rw [List.length_map]) (by omega) (fun x hx9=>by
   rw [hmap]at hx9;obtain ⟨i,hi,rfl⟩:=List.getElem_of_mem hx9;rw [qa7]at hi;rw [qeA l i hi]
   exact EntV.sz.grow hsz hi) W hN9).mono ?_
  rintro e w' ⟨v,zs,rfl,h1,h2,h3⟩;exact ⟨v,zs,rfl,by rw [h1,hmap],h2.mono hB.size,hB.trans (h3.mono hB.size)⟩
 have HN:=Lib.hid hn;have HA:=Lib.hid hA;have HKL:=Lib.hid fun i (hi:i<l.length) (hk:l[i].kind=4) hf hg=>q15 hE hi hk hf hg;have HKP:=Lib.hid fun i (hi:i<l.length) (hk:l[i].kind≠4)=>qxI hE hi hk;have HFN:=Lib.hid fun i (hi:i<l.length)=>qsA hwk hi;have hcap:=hc.1;have hmx:=hc.2.1;unfold maxLen at hmx;obtain ⟨i0,hi,hz0,hz1,hz2⟩:=info_parts q80;obtain ⟨M,hmk,hown⟩:=qpX w n (by omega) i0 hi hz0 hz1 hz2;have HK:=Lib.hid hmk;have HO:=Lib.hid hown;clear hn hc hsz hA hE hwk hmk hown hi hz0 hz1 hz2;go_enter Tryz.func27,Tryz.ntmps27;go_wp2_with fail;refine H1.out.mono ?_;rintro e w1 ⟨rfl,hB⟩;have hkm:(Instr.makeMap 99 none).run Tryz.prog w1= .ok (.map (some w1.heap.size)) (w1.alloc (.map #[] 0)):=rfl;have hp1:=PlcE.new w1;have hb2:=hB.alloc hB.size (.map #[] 0);have hr2:w.heap.size≤w1.heap.size:=hB.size;generalize w1.heap.size=r at hkm hp1 hr2;generalize w1.alloc (.map #[] 0)=x2 at hkm hp1 hb2;have hk2:=HK.out x2;have ho2:=(HO.out x2 w.heap.size hb2.size).1;have hb3:=hb2.alloc hb2.size (.cells M 49);have hp2:=hp1.below ((Below.refl x2.heap.size x2).alloc (Nat.le_refl _) (.cells M 49));generalize hv1:Value.slice (some ⟨x2.heap.size,0,none⟩) 0 n=v1 at hk2 ho2;generalize x2.alloc (.cells M 49)=x3 at hk2 ho2 hb3 hp2;have HO3:=Lib.hid ho2;have HP3:=Lib.hid hp2;have HB3:=Lib.hid hb3;have HRr:=Lib.hid hr2;clear hB hp1 hb2 hr2 ho2 hb3 hp2 hv1 H1 HK HO;go_wp2_with fail
 go_loopw [6,22] (fun ov iv wr=> ∃(i:Nat) (xs:List NodP),i≤n∧iv= .int .i64 i∧xs.length=i∧Hid (RowN wr w.heap.size ov xs)∧Hid (xs.map (·.1)=qf5 l i)∧Hid (∀y∈xs,qcZ w y.2 y.1.data)∧Hid (PlcE wr r (l.take i))∧Hid (Below w.heap.size w wr)) (fun _ iv _=>n-(intOf iv).toNat)
 case atStart=>exact ⟨0, [],Nat.zero_le _,rfl,rfl,HO3.out,rfl,(fun y hy=>by cases hy),(by unfold Hid;rw [List.take_zero];exact HP3.out),HB3.out⟩
 case round=>
  obtain ⟨i,xs,hi,rfl,hxl,HR,HM,HDT,HP,HB⟩:=hrel
  by_cases hlt:i<n
  ·have hi1:i<l.length:=by rw [HN.out];exact hlt
   obtain ⟨b,o,E,cc,hbo,hb1,hSl,hE,hcl⟩:=HA.out.cells2 i hi1;subst hbo;obtain ⟨c0,c1,c3,⟨c4,c5,c6,c7,c8,c9x,cA⟩,cB⟩:=hcl wr HB.out;have hai:=HAim.out i hi1;have hkl:=HKL.out i hi1;have hkp:=HKP.out i hi1;have hfn:=HFN.out i hi1;have HTK:Hid (l.take (i+1)=l.take i++ [l[i]]):=List.take_succ_eq_append_getElem hi1;generalize hx:l[i]=x at*;have HYD:Hid (qcZ w (.slice E x.data.length cc) x.data):=⟨E,cc,rfl,hSl,hE⟩;have HAi:=Lib.hid hai;have HKl:=Lib.hid hkl;have HKp:=Lib.hid hkp;have HFn:Hid (qaS (l.take i) x.path=(l.take i).length):=by unfold Hid;rw [hfn,List.length_take];omega
   have HTL:Hid ((l.take i).length=i):=by unfold Hid;rw [List.length_take];omega
   clear hx hcl hSl hE hb1 hai hkl hkp hfn;go_upto_region 9 with fail
   have HBl:=Lib.hid (Blk.new wr 73 #[.string (bs x.path),.int .i64 x.kind,.string (bs x.target),.int .i64 x.md.mode,.int .i64 x.md.uid,.int .i64 x.md.gid,.string (bs x.md.user),.string (bs x.md.group),.int .i64 x.md.second,.int .i64 x.md.nano,.slice E x.data.length cc]);have HBa:=Lib.hid (qaL (Below.refl _ wr) (.cells #[.string (bs x.path),.int .i64 x.kind,.string (bs x.target),.int .i64 x.md.mode,.int .i64 x.md.uid,.int .i64 x.md.gid,.string (bs x.md.user),.string (bs x.md.group),.int .i64 x.md.second,.int .i64 x.md.nano,.slice E x.data.length cc] 73));generalize hwa:wr.alloc _=wa at HBl HBa⊢;obtain ⟨g,hg⟩: ∃g,g=wr.heap.size:=⟨_,rfl⟩;have hga:g<wa.heap.size:=by rw [hg];exact HBl.out.lt
   have hgw:wr.heap.size≤g:=by omega
   rw [←hg]at HBl⊢;clear hg;obtain ⟨⟨e0,e1,e3,e4,e5,e6,e7,e8,e9,eA,eB⟩,-⟩:=qaP HBl.out;clear hwa c0 c1 c3 c4 c5 c6 c7 c8 c9x cA cB;go_upto_region 10 with fail
   have HBx:=Lib.hid (Blk.new wa 49 #[.string (bs x.path),.int .i64 x.kind,.int .i64 0,.string (bs x.target),.int .i64 x.md.mode,.int .i64 x.md.uid,.int .i64 x.md.gid,.string (bs x.md.user),.string (bs x.md.group),.int .i64 x.md.second,.int .i64 x.md.nano,.slice E x.data.length cc]);have HBl2:=Lib.hid (HBl.out.alloc (.cells #[.string (bs x.path),.int .i64 x.kind,.int .i64 0,.string (bs x.target),.int .i64 x.md.mode,.int .i64 x.md.uid,.int .i64 x.md.gid,.string (bs x.md.user),.string (bs x.md.group),.int .i64 x.md.second,.int .i64 x.md.nano,.slice E x.data.length cc] 49));have HBb:=Lib.hid (qaL HBa.out (.cells #[.string (bs x.path),.int .i64 x.kind,.int .i64 0,.string (bs x.target),.int .i64 x.md.mode,.int .i64 x.md.uid,.int .i64 x.md.gid,.string (bs x.md.user),.string (bs x.md.group),.int .i64 x.md.second,.int .i64 x.md.nano,.slice E x.data.length cc] 49));generalize hwb:wa.alloc _=wb at HBx HBl2 HBb⊢;obtain ⟨gx,hgx⟩: ∃gx,gx=wa.heap.size:=⟨_,rfl⟩;rw [←hgx]at HBx⊢;have hgx1:wr.heap.size≤gx:=by omega
   have hgg:g≠gx:=by omega
   have HRb:=Lib.hid (HR.out.below HBb.out);have HPb:=Lib.hid (HP.out.below HBb.out);have HB6:=Lib.hid (HB.out.trans (HBb.out.mono HB.out.size));have HGN:Hid (∀q,u6.ownBlock=some q→q<wr.heap.size):=fun q e=>(World.ownsRow.lt HR.out q e).2;clear hwb hgx HBl HBa hga e0 e1 e3 e4 e5 e6 e7 e8 e9 eA eB;have hi9:i≤40:=by omega
   by_cases hk4:x.kind=4
   ·obtain ⟨hfl,hf2,hf3,-⟩:=HAi.out hk4;have HKf:=Lib.hid (HKl.out hk4 hf2);have hlk:=HPb.out.look x.target (by rw [qlI (by omega) hf2,HTL.out];exact hf2);rw [qlI (by omega) hf2]at hlk
    have hyg:qd2 l i x=⟨x.path,1,((qaS l x.target:Nat):Int)+1, [],x.md,(l[qaS l x.target]'hfl).data⟩:=by
     unfold qd2;rw [if_pos hk4,List.getElem?_eq_getElem hfl];rfl
    have hgp: ∀h,(qf5 l i)[qaS l x.target]'h=qnQ l i (qaS l x.target) (l[qaS l x.target]'hfl):=fun h=>qf4 l i _ (by omega) hf2
    have hgd:(qnQ l i (qaS l x.target) (l[qaS l x.target]'hfl)).data=(l[qaS l x.target]'hfl).data:=by
     unfold qnQ;rw [if_neg (by rw [hf3];decide)]
    generalize hfe:qaS l x.target=f at*;have hk4b:(x.kind==4)=true:=by simp [hk4]
    have hfx:f<xs.length:=by omega
    have hmf:xs[f].1=(qf5 l i)[f]'(by rw [qbQ l i (by omega)];omega):=by
     have:=HM.out;have h2:(xs.map (·.1))[f]?=(qf5 l i)[f]?:=by rw [this]
     rw [List.getElem?_map,List.getElem?_eq_getElem hfx,List.getElem?_eq_getElem (by rw [qbQ l i (by omega)];omega)]at h2;exact Option.some.inj h2
    obtain ⟨gr,cap,hv,hgB,hgl,hcap1,hcap2⟩:=HRb.out.row (by omega);subst hv;have hgr:gr<wr.heap.size:=HGN.out gr rfl;rw [hxl]at hcap1⊢;obtain ⟨e2,f2⟩:=HRb.out.same_cell rfl f hfx;have hdt:=HDT.out xs[f] (List.getElem_mem hfx);have hdl:xs[f].1.data=(l[f]'hfl).data:=by rw [hmf,hgp,hgd]
    obtain ⟨E',cc',hE',hSl',hBy'⟩:=hdt
    have HZD:Hid (qcZ w xs[f].2 (qd2 l i x).data):=by
     unfold Hid;rw [hyg,←hdl];exact ⟨E',cc',hE',hSl',hBy'⟩
    have hrg:r≠gr:=fun e=>HPb.out.row_ne HRb.out gr rfl e.symm;have hw:IntKind.i64.wrap ((f:Int)+1)=((f:Int)+1):=by rw [IntKind.wrap_i64];omega
    have hf8:(f:Int)<(i:Int):=by omega
    have hf7:(0:Int)≤(f:Int):=by omega
    have hRc:=HRb.out.setSame rfl f hfx ((f:Int)+1);have hXc:=HBl2.out.far (p:=⟨gr,f*12+2,none⟩) (show g≠gr by omega) (.int .i64 ((f:Int)+1));have hNc:=HBx.out.far (p:=⟨gr,f*12+2,none⟩) (show gx≠gr by omega) (.int .i64 ((f:Int)+1));have hPc:=HPb.out.far (p:=⟨gr,f*12+2,none⟩) hrg (.int .i64 ((f:Int)+1));have hBc:=Below.set1 HB6.out hgB (f*12+2) (.int .i64 ((f:Int)+1));have hbc:(wb.setCell ⟨gr,f*12+2,none⟩ (.int .i64 ((f:Int)+1))).heap.size=wb.heap.size:=by simp
    rw [hxl]at hRc;generalize xs[f].1.same=s0 at e2;obtain ⟨⟨-,x1,x2,-⟩,-⟩:=qaP HBl2.out;have HRc:=Lib.hid hRc;have HXc:=Lib.hid hXc;have HNc:=Lib.hid hNc;have HPc:=Lib.hid hPc;have HBc:=Lib.hid hBc;have HSc:=Lib.hid hbc;obtain ⟨dd,hdd⟩: ∃dd,dd=(l[f]'hfl).data:=⟨_,rfl⟩;rw [←hdd]at hyg;have HYG:=Lib.hid hyg;clear hdd;clear hRc hXc hNc hPc hBc hbc hyg hfe hgp hgd hf3 hdl;go_upto_region 13 with fail
    generalize hwc:wb.setCell ⟨gr,f*12+2,none⟩ (.int .i64 ((f:Int)+1))=wk at HRc HXc HNc HPc HBc HSc⊢;have hd11:=HRc.out.dat_cell (by rw [List.length_set];exact hxl.symm) f (by rw [List.length_set];exact hfx);simp only [List.getElem_set_self]at hd11;rw [hE']at hd11;rw [hE']at HZD;generalize xs[f].1.data.length=dl at hd11 HZD;generalize hxs':xs.set f ({xs[f].1 with same:=(f:Int)+1},xs[f].2)=xs' at HRc
    have HMx:Hid (xs'.map (·.1)++ [qd2 l i x]=qf5 l (i+1)):=by
     unfold Hid;rw [HKf.out (by rw [qbQ l i (by omega)];omega),←hxs',List.map_set,HM.out];simp only [hmf]
    have HDX:Hid (∀y∈xs',qcZ w y.2 y.1.data):=by
     unfold Hid;rw [←hxs'];intro y hy;rcases List.mem_or_eq_of_mem_set hy with hy|rfl
     ·exact HDT.out y hy
     ·exact HDT.out xs[f] (List.getElem_mem hfx)
    have HXL:Hid (xs'.length=i):=by unfold Hid;rw [←hxs',List.length_set];exact hxl
    obtain ⟨⟨y0,y1,y2,y3,y4,y5,y6,y7,y8,y9,yA,yB⟩,⟨-,r1,r2,r3,-,-,-,-,-,-,-,rB⟩⟩:=qbC HNc.out;have hgw2:w.heap.size≤gx:=by have:=HB.out.size;omega
    have HN3:Hid (Blk ((((wk.setCell ⟨gx,1,none⟩ (.int .i64 1)).setCell ⟨gx,2,none⟩ (.int .i64 ((f:Int)+1))).setCell ⟨gx,3,none⟩ (.string ⟨#[]⟩)).setCell ⟨gx,11,none⟩ (.slice E' dl cc')) gx 49 #[.string (bs x.path),.int .i64 1,.int .i64 ((f:Int)+1),.string ⟨#[]⟩,.int .i64 x.md.mode,.int .i64 x.md.uid,.int .i64 x.md.gid,.string (bs x.md.user),.string (bs x.md.group),.int .i64 x.md.second,.int .i64 x.md.nano,.slice E' dl cc']):=(((HNc.out.set_ 1 (.int .i64 1)).set_ 2 (.int .i64 ((f:Int)+1))).set_ 3 (.string ⟨#[]⟩)).set_ 11 (.slice E' dl cc');have HX3:Hid (Blk ((((wk.setCell ⟨gx,1,none⟩ (.int .i64 1)).setCell ⟨gx,2,none⟩ (.int .i64 ((f:Int)+1))).setCell ⟨gx,3,none⟩ (.string ⟨#[]⟩)).setCell ⟨gx,11,none⟩ (.slice E' dl cc')) g 73 #[.string (bs x.path),.int .i64 x.kind,.string (bs x.target),.int .i64 x.md.mode,.int .i64 x.md.uid,.int .i64 x.md.gid,.string (bs x.md.user),.string (bs x.md.group),.int .i64 x.md.second,.int .i64 x.md.nano,.slice E x.data.length cc]):=(((HXc.out.far (p:=⟨gx,1,none⟩) hgg _).far (p:=⟨gx,2,none⟩) hgg _).far (p:=⟨gx,3,none⟩) hgg _).far (p:=⟨gx,11,none⟩) hgg _;have hrx:r≠gx:=by have:=HP.out.lt;omega
    have HP3:Hid (PlcE ((((wk.setCell ⟨gx,1,none⟩ (.int .i64 1)).setCell ⟨gx,2,none⟩ (.int .i64 ((f:Int)+1))).setCell ⟨gx,3,none⟩ (.string ⟨#[]⟩)).setCell ⟨gx,11,none⟩ (.slice E' dl cc')) r (l.take i)):=(((HPc.out.far (p:=⟨gx,1,none⟩) hrx _).far (p:=⟨gx,2,none⟩) hrx _).far (p:=⟨gx,3,none⟩) hrx _).far (p:=⟨gx,11,none⟩) hrx _;have hgx8:gr≠gx:=by omega
    have HR3:Hid (RowN ((((wk.setCell ⟨gx,1,none⟩ (.int .i64 1)).setCell ⟨gx,2,none⟩ (.int .i64 ((f:Int)+1))).setCell ⟨gx,3,none⟩ (.string ⟨#[]⟩)).setCell ⟨gx,11,none⟩ (.slice E' dl cc')) w.heap.size (.slice (some ⟨gr,0,none⟩) i cap) xs'):=
     qcB HRc.out fun q e=>by
      obtain rfl:gr=q:=by simpa [Value.ownBlock]using e
      exact (Below.heap_setCell _ ⟨gx,11,none⟩ _ _ hgx8).trans ((Below.heap_setCell _ ⟨gx,3,none⟩ _ _ hgx8).trans ((Below.heap_setCell _ ⟨gx,2,none⟩ _ _ hgx8).trans (Below.heap_setCell _ ⟨gx,1,none⟩ _ _ hgx8)))
    have HB3:Hid (Below w.heap.size w ((((wk.setCell ⟨gx,1,none⟩ (.int .i64 1)).setCell ⟨gx,2,none⟩ (.int .i64 ((f:Int)+1))).setCell ⟨gx,3,none⟩ (.string ⟨#[]⟩)).setCell ⟨gx,11,none⟩ (.slice E' dl cc'))):=Below.set1 (Below.set1 (Below.set1 (Below.set1 HBc.out hgw2 1 _) hgw2 2 _) hgw2 3 _) hgw2 11 _;clear hxs' hmf hwc hE' hSl' hBy' hgl hcap2 hgB hfl
    go_cut [6] (fun s6 wx=>s6= .slice (some ⟨gr,0,none⟩) i cap∧wx=((((wk.setCell ⟨gx,1,none⟩ (.int .i64 1)).setCell ⟨gx,2,none⟩ (.int .i64 ((f:Int)+1))).setCell ⟨gx,3,none⟩ (.string ⟨#[]⟩)).setCell ⟨gx,11,none⟩ (.slice E' dl cc')).drew)
    case first=>
     go_big_region
     all_goals
      go_wp2_with fail;go_meet;exact ⟨rfl,rfl⟩
    case rest=>
     obtain ⟨rfl,rfl⟩:=hcut;generalize hwm:((((wk.setCell ⟨gx,1,none⟩ (.int .i64 1)).setCell ⟨gx,2,none⟩ (.int .i64 ((f:Int)+1))).setCell ⟨gx,3,none⟩ (.string ⟨#[]⟩)).setCell ⟨gx,11,none⟩ (.slice E' dl cc'))=wm at HN3 HX3 HP3 HR3 HB3⊢;have HNd:=Lib.hid HN3.out.drew_;have HXd:=Lib.hid HX3.out.drew_;have HPd:Hid (PlcE wm.drew r (l.take i)):=HP3.out.below (Below.refl wm.heap.size wm).drew;have HRd:Hid (RowN wm.drew w.heap.size (.slice (some ⟨gr,0,none⟩) i cap) xs'):=HR3.out;have HBd:=Lib.hid HB3.out.drew;generalize wm.drew=wd at HNd HXd HPd HRd HBd⊢
     have HCN:Hid (∀W:World,qdK (W.alloc (.cells #[.string (bs x.path),.int .i64 1,.int .i64 ((f:Int)+1),.string ⟨#[]⟩,.int .i64 x.md.mode,.int .i64 x.md.uid,.int .i64 x.md.gid,.string (bs x.md.user),.string (bs x.md.group),.int .i64 x.md.second,.int .i64 x.md.nano,.slice E' dl cc'] 49)) (some ⟨W.heap.size,0,none⟩) [(qd2 l i x,.slice E' dl cc')]):=fun W=>by
      have h1:=qg9 W (qd2 l i x,.slice E' dl cc');rw [HYG.out]at h1⊢;exact h1
     clear hwm HN3 HX3 HP3 HR3 HB3 y0 y1 y2 y3 y4 y5 y6 y7 y8 y9 yA yB r1 r2 r3 rB hd11 x1 x2 e2 f2 hlk;obtain ⟨⟨e0,e1,e2,e3,e4,e5,e6,e7,e8,e9,eA,eB⟩,-⟩:=qbC HNd.out;go_wp2_with (at_builtin;refine Stay.go ?_);refine Stay.on ?_;refine qcH rfl (.tmp 62) (.tmp 64) rfl w.heap.size _ xs' rfl (HRd.out.alloc _) (some ⟨wd.heap.size,0,none⟩) 1 1 [(qd2 l i x,.slice E' dl cc')] rfl rfl (HCN.out wd) (by simp [Value.oneCell']) (fun e=>by cases e) (by rw [HXL.out];omega) (by rw [hszA];have:=HBd.out.size;omega) ?_;intro v7 w7 ho7 hg7;have HR7:=Lib.hid ho7;have HB7:Hid (Below w.heap.size w w7):=(HBd.out.alloc HBd.out.size _).grown hg7 (by rw [hszA];have:=HBd.out.size;omega) HRd.out.above;have HX7:Hid (Blk w7 g 73 #[.string (bs x.path),.int .i64 x.kind,.string (bs x.target),.int .i64 x.md.mode,.int .i64 x.md.uid,.int .i64 x.md.gid,.string (bs x.md.user),.string (bs x.md.group),.int .i64 x.md.second,.int .i64 x.md.nano,.slice E x.data.length cc]):=(HXd.out.alloc _).grown hg7 (fun e=>by have e2:some g=some gr:=e;injection e2 with e2;omega);have HP7:Hid (PlcE w7 r (l.take i)):=(HPd.out.below ((Below.refl _ _).alloc (Nat.le_refl _) _)).grown (HRd.out.alloc _) hg7;obtain ⟨w8,hput,hbel,hkeep,hp8⟩:=HP7.out.put x HFn.out;rw [HTL.out]at hput;rw [←HTK.out]at hp8;have HR8:Hid (RowN w8 w.heap.size v7 (xs'++ [(qd2 l i x,.slice E' dl cc')])):=qcB HR7.out fun q e=>hkeep q (HP7.out.row_ne HR7.out q e);have HB8:=Lib.hid (hbel w _ HRr.out HB7.out);have HP8:=Lib.hid hp8
     have HM8:Hid ((xs'++ [((qd2 l i x,.slice E' dl cc'):NodP)]).map (·.1)=qf5 l (i+1)):=by
      unfold Hid;rw [List.map_append];exact HMx.out
     have HD8:Hid (∀z∈xs'++ [((qd2 l i x,.slice E' dl cc'):NodP)],qcZ w z.2 z.1.data):=fun z hz=>by
      rcases List.mem_append.1 hz with a|a
      ·exact HDX.out z a
      ·obtain rfl:z=(qd2 l i x,.slice E' dl cc'):=by simpa using a
       exact HZD.out
     have hl8:(xs'++ [((qd2 l i x,.slice E' dl cc'):NodP)]).length=i+1:=by rw [List.length_append,List.length_singleton,HXL.out]
     obtain ⟨⟨g0,-⟩,-⟩:=qaP HX7.out;clear ho7 hg7 hbel hkeep hp8 e0 e1 e2 e3 e4 e5 e6 e7 e8 e9 eA eB;go_wp2_with fail;go_roundw
     case rel=>exact ⟨i+1,_,by omega,by go_num,hl8,HR8.out,HM8.out,HD8.out,HP8.out,HB8.out⟩
     case measure=>simp [intOf];omega
   ·have hk4b:(x.kind==4)=false:=by simpa using hk4
    have HKf:=Lib.hid (HKp.out hk4)
    have HCN:Hid (∀W:World,qdK (W.alloc (.cells #[.string (bs x.path),.int .i64 x.kind,.int .i64 0,.string (bs x.target),.int .i64 x.md.mode,.int .i64 x.md.uid,.int .i64 x.md.gid,.string (bs x.md.user),.string (bs x.md.group),.int .i64 x.md.second,.int .i64 x.md.nano,.slice E x.data.length cc] 49)) (some ⟨W.heap.size,0,none⟩) [(⟨x.path,x.kind,0,x.target,x.md,x.data⟩,.slice E x.data.length cc)]):=fun W=>
     qg9 W (⟨x.path,x.kind,0,x.target,x.md,x.data⟩,.slice E x.data.length cc)
    have HXL:=Lib.hid hxl
    have HMx:Hid (xs.map (·.1)++ [(⟨x.path,x.kind,0,x.target,x.md,x.data⟩:NodeV)]=qf5 l (i+1)):=by
     unfold Hid;rw [HKf.out,HM.out]
    obtain ⟨⟨e0,e1,e2,e3,e4,e5,e6,e7,e8,e9,eA,eB⟩,-⟩:=qbC HBx.out;obtain ⟨⟨-,x1,-⟩,-⟩:=qaP HBl2.out;clear hk4;go_wp2_with (at_builtin;refine Stay.go ?_);refine Stay.on ?_;refine qcH rfl (.tmp 62) (.tmp 64) rfl w.heap.size _ xs rfl (HRb.out.alloc _) (some ⟨wb.heap.size,0,none⟩) 1 1 [((⟨x.path,x.kind,0,x.target,x.md,x.data⟩:NodeV),.slice E x.data.length cc)] rfl rfl (HCN.out wb) (by simp [Value.oneCell']) (fun e=>by cases e) (by rw [HXL.out];omega) (by rw [hszA];have:=HB6.out.size;omega) ?_;intro v7 w7 ho7 hg7;have HR7:=Lib.hid ho7;have HB7:Hid (Below w.heap.size w w7):=(HB6.out.alloc HB6.out.size _).grown hg7 (by rw [hszA];have:=HB6.out.size;omega) HRb.out.above;have HX7:Hid (Blk w7 g 73 #[.string (bs x.path),.int .i64 x.kind,.string (bs x.target),.int .i64 x.md.mode,.int .i64 x.md.uid,.int .i64 x.md.gid,.string (bs x.md.user),.string (bs x.md.group),.int .i64 x.md.second,.int .i64 x.md.nano,.slice E x.data.length cc]):=(HBl2.out.alloc _).grown hg7 (fun e=>by have:=HGN.out g e.symm;omega);have HP7:Hid (PlcE w7 r (l.take i)):=(HPb.out.below ((Below.refl _ _).alloc (Nat.le_refl _) _)).grown (HRb.out.alloc _) hg7;obtain ⟨w8,hput,hbel,hkeep,hp8⟩:=HP7.out.put x HFn.out;rw [HTL.out]at hput;rw [←HTK.out]at hp8;have HR8:Hid (RowN w8 w.heap.size v7 (xs++ [((⟨x.path,x.kind,0,x.target,x.md,x.data⟩:NodeV),.slice E x.data.length cc)])):=qcB HR7.out fun q e=>hkeep q (HP7.out.row_ne HR7.out q e);have HB8:=Lib.hid (hbel w _ HRr.out HB7.out);have HP8:=Lib.hid hp8
    have HM8:Hid ((xs++ [(((⟨x.path,x.kind,0,x.target,x.md,x.data⟩:NodeV),.slice E x.data.length cc):NodP)]).map (·.1)=qf5 l (i+1)):=by
     unfold Hid;rw [List.map_append];exact HMx.out
    have HD8:Hid (∀z∈xs++ [(((⟨x.path,x.kind,0,x.target,x.md,x.data⟩:NodeV),.slice E x.data.length cc):NodP)],qcZ w z.2 z.1.data):=fun z hz=>by
     rcases List.mem_append.1 hz with a|a
     ·exact HDT.out z a
     ·obtain rfl:z=((⟨x.path,x.kind,0,x.target,x.md,x.data⟩:NodeV),.slice E x.data.length cc):=by simpa using a
      exact HYD.out
    have hl8:(xs++ [(((⟨x.path,x.kind,0,x.target,x.md,x.data⟩:NodeV),.slice E x.data.length cc):NodP)]).length=i+1:=by rw [List.length_append,List.length_singleton,HXL.out]
    obtain ⟨⟨g0,-⟩,-⟩:=qaP HX7.out;clear ho7 hg7 hbel hkeep hp8 e0 e1 e2 e3 e4 e5 e6 e7 e8 e9 eA eB;go_wp2_with fail;go_roundw
    case rel=>exact ⟨i+1,_,by omega,by go_num,hl8,HR8.out,HM8.out,HD8.out,HP8.out,HB8.out⟩
    case measure=>simp [intOf];omega
  ·obtain rfl:i=n:=by omega
   have hm9:=HM.out;rw [←HN.out,q6R]at hm9;have HC:=Lib.hid (HFin.out _ xs _ HR.out hm9 HDT.out HB.out);clear hm9;go_wp2_with fail;refine HC.out.mono ?_;rintro e w9 ⟨v,xs,rfl,h1,h2,h3⟩;have HV:=Lib.hid (And.intro h1 (And.intro h2 h3));clear h1 h2 h3;go_wp2_with fail;refine bodyPost_ret (v:= .tuple #[v,.int .i64 0]) (by simp [results,Tryz.results27,go_sem, *]) rfl ?_;exact ⟨v,xs,rfl,HV.out.1,HV.out.2.1,HV.out.2.2⟩
theorem q5A (A:Option Addr) (n c:Nat) (l:List EntV) (hn:l.length=n) (hc:SlOk A n c) (hsz: ∀x∈l,x.sz) (w:World) (hA:qdJ w A l):
  Calls Tryz.prog 27 #[.slice A n c] w fun e w'=> ∃v xs,e= .returned (.tuple #[v,.int .i64 (qbJ l)])∧xs.map (·.1)=zb4 l∧OwnN w' w.heap.size v xs∧Below w.heap.size w w':=by
 by_cases hE:qbJ l=0
 ·have:=za0 A n c l hn hc hsz w hA hE;unfold zb4;rw [if_pos hE,hE];exact this
 ·have H1:=Lib.hid (qdX A n c l hn hc hsz w hA);unfold zb4;rw [if_neg hE];obtain ⟨E,HEE⟩:=qaA (qbJ l);rw [HEE.out]at H1 hE⊢;have hne:(E==0)=false:=by simpa using hE
  clear hn hc hsz hA hE;go_enter Tryz.func27,Tryz.ntmps27;go_wp2_with fail;refine H1.out.mono ?_;rintro e w1 ⟨rfl,hB⟩;have HB1:=Lib.hid hB;clear hB H1;go_wp2_with fail;refine bodyPost_ret (v:= .tuple #[.slice none 0 0,.int .i64 E]) (by simp [results,Tryz.results27,go_sem, *]) rfl ?_;exact ⟨_, [],rfl,rfl,OwnN.nil _ _,HB1.out⟩
set_option maxHeartbeats 2000000 in
theorem qiA (A:Option Addr) (n c:Nat) (l:List UInt8) (hn:l.length=n) (hn2:n≤140737488351232) (hc:SlOk A n c) (w:World) (S:Std w) (hA:qaE w A l):
  Calls Tryz.prog 9 #[.slice A n c] w fun e w'=> ∃v xs,e= .returned (.tuple #[v,.int .i64 (qcQ l).2])∧xs.map (·.1)=(qcQ l).1∧OwnN w' w.heap.size v xs∧Below w.heap.size w w':=by
 have H1:=Lib.hid (q4U A n c l hn (by omega) hc w S hA);clear hn hn2 hc S hA
 by_cases h:(arcR l).2=0
 ·rw [qmL h];have hE:=(qjV h).1;rw [h]at H1;have hz: ∀x∈(arcR l).1,x.sz:=fun x hx=>qpK (qc1 hE x hx);have hg:zb4 (arcR l).1=qa9 (arcR l).1:=if_pos hE;generalize (arcR l).1=p at*;clear h;go_enter Tryz.func9,Tryz.ntmps9;go_wp2_with fail;refine H1.out.mono ?_;rintro e x1 ⟨v,xs,rfl,hm,ho,hb⟩;obtain ⟨A1,c1,rfl,hs,hN⟩:=ho.at;rw [hm]at hN;have hl:p.length=xs.length:=by rw [←hm,List.length_map]
  have H2:=Lib.hid (q5A A1 xs.length c1 p hl hs hz x1 hN);rw [hE,hg]at H2;have HB1:=Lib.hid hb;clear hm ho hb hs hN hl hz hE hg H1;obtain ⟨m,HM⟩:=qaA xs.length;rw [HM.out]at H2⊢;go_wp2_with fail;refine H2.out.mono ?_;rintro e x2 ⟨v2,ys,rfl,hm,ho,hb⟩;have HO2:=Lib.hid (ho.mono HB1.out.size);have HB2:=Lib.hid (HB1.out.trans (hb.mono HB1.out.size));have HM2:=Lib.hid hm;clear hm ho hb H2;go_wp2_with fail;go_ret2;exact ⟨_,ys,rfl,HM2.out,HO2.out,HB2.out⟩
 ·rw [qq6 h];obtain ⟨E,HE⟩:=qaA (arcR l).2;rw [HE.out]at H1 h⊢;have hne:(E !=0)=true:=by simpa using h
  clear h;go_enter Tryz.func9,Tryz.ntmps9;go_wp2_with fail;refine H1.out.mono ?_;rintro e x1 ⟨v,xs,rfl,hm,ho,hb⟩;obtain ⟨A1,c1,rfl,-,-⟩:=ho.at;have HB1:=Lib.hid hb;clear hm ho hb H1;obtain ⟨m,HM⟩:=qaA xs.length;rw [HM.out];go_wp2_with fail;go_ret2;exact ⟨_, [],rfl,rfl,OwnN.nil _ _,HB1.out⟩
theorem qyM {b:List UInt8} :(qcQ b).1.length≤40:=by
 by_cases h:(arcR b).2=0
 ·rw [qmL h];show (qa9 (arcR b).1).length≤40;rw [qa7];exact qf7 (qjV h).1
 ·rw [qq6 h];exact Nat.zero_le _
theorem q4H {b:List UInt8} : ∀x∈(qcQ b).1,x.sz∧x.path.length≤400∧0≤x.same∧x.same≤1000:=fun x hx=>by
 by_cases h:(arcR b).2=0
 ·rw [qmL h]at hx;have hg:=qc1 (qjV h).1;obtain ⟨y,hy,e⟩:=q6Q hx;have h40:=qf7 (qjV h).1;have hs:=(quS _ x hx).1;refine ⟨?_,by rw [e];exact (qcP (hg y hy)).path.2.1,hs,?_⟩
  ·obtain ⟨i,hi,rfl⟩:=List.getElem_of_mem hx;rw [qa7]at hi;rw [qeA _ i hi];exact EntV.sz.grow (fun z hz=>qpK (hg z hz)) hi
  ·obtain ⟨i,hi,rfl⟩:=List.getElem_of_mem hx;rw [qa7]at hi;rw [qeA _ i hi];generalize (arcR b).1=p at*;have hf:=ql3 p p[i].target;unfold qd2
   by_cases hk:p[i].kind=4
   ·rw [if_pos hk];show ((qaS p p[i].target:Nat):Int)+1≤1000;omega
   ·rw [if_neg hk]
    by_cases hc:p[i].kind=1∧(p.any fun y=>decide (y.kind=4) &&decide (y.target=p[i].path))=true
    ·rw [if_pos hc];show (i:Int)+1≤1000;omega
    ·rw [if_neg hc];show (0:Int)≤1000;omega
 ·rw [qq6 h]at hx;cases hx
theorem und_add (s:ByteArray) (p:List UInt8):s++⟨#[47]⟩++bs p=bs (s.data.toList++47::p):=by
 apply ByteArray.ext;simp [bs,ByteArray.data_append]
theorem qv5 {a b A:ByteArray} (h:a++b=A) (hs:a.size+b.size≤9223372036854775807): ∀W:World,(Op.stringOp .add a b).run Tryz.prog W= .ok (.string A) W:=fun W=>by
 rw [←h];exact run_string_add_sum (P:=Tryz.prog) (w:=W) a b hs
theorem q87 {t:List NodeV} {dir b:List UInt8} (h:qaO t≠0):undR t dir b=([],qaO t):=if_pos h
theorem q3H {t:List NodeV} {dir b:List UInt8} (h:qaO t=0) (h2:qaR t dir=t.length):undR t dir b=([],5):=by
 unfold undR;rw [if_neg (fun e=>e h),if_pos h2]
theorem q3I {t:List NodeV} {dir b:List UInt8} (h:qaO t=0) (h2:qaR t dir<t.length) (h3:t[qaR t dir].kind≠2):undR t dir b=([],10):=by
 unfold undR;rw [if_neg (fun e=>e h),if_neg (by omega),List.getElem?_eq_getElem h2];exact if_pos h3
theorem undR_at {t:List NodeV} {dir b:List UInt8} (h:qaO t=0) (h2:qaR t dir<t.length) (h3:t[qaR t dir].kind=2):undR t dir b=if (qcQ b).2≠0 then ([],(qcQ b).2)
  else if (undL dir (qa8 t) (qcQ b).1).2≠0 then ([],(undL dir (qa8 t) (qcQ b).1).2)else (qa8 (undL dir (qa8 t) (qcQ b).1).1,0):=by
 unfold undR;rw [if_neg (fun e=>e h),if_neg (by omega),List.getElem?_eq_getElem h2];exact if_neg (fun e=>e h3)
theorem gap_in {out:List NodeV} {n:NodeV} (h:qaR out n.path<out.length):gapU out n= !(decide (out[qaR out n.path].kind=2) &&decide (n.kind=2)):=by
 unfold gapU;rw [List.getElem?_eq_getElem h]
theorem gap_out {out:List NodeV} {n:NodeV} (h: ¬qaR out n.path<out.length):gapU out n=false:=by
 unfold gapU;rw [List.getElem?_eq_none (by omega)]
end Go.Proofs.YtapgoifimhnbdaaGreatDoor
