/- qaX of one kind, in one file: ResU, ResD, ResE, ResQ, ResY. -/
import Derived.Test.YtapgoifimhnbdaaGreatDoorRsp
import Derived.Test.YtapgoifimhnbdaaGreatDoorMth
import Derived.Test.YtapgoifimhnbdaaGreatDoorNod
import Derived.Test.YtapgoifimhnbdaaGreatDoorTrb
import Derived.Test.YtapgoifimhnbdaaGreatDoorTra
import Derived.Deep.DeepCutAuto
import Derived.Test.YtapgoifimhnbdaaGreatDoorTrg
import Derived.Test.YtapgoifimhnbdaaGreatDoorLnp
import Derived.Test.YtapgoifimhnbdaaGreatDoorRso
import Derived.BigQuiet
set_option linter.unusedVariables false
namespace Go.Proofs.YtapgoifimhnbdaaGreatDoor
open Go.RowKit
def renI (s:Int):Int:=if s≤40 then s else s+960
def renN (x:NodeV):NodeV:= {x with same:=renI x.same}
def renL (l:List NodeV):List NodeV:=l.map renN
theorem qq8 (a b:Int):renI a=renI b↔a=b:=by
 unfold renI;constructor
 ·intro h
  split at h<;>split at h<;>omega
 ·rintro rfl;rfl
theorem qmQ (s:Int):renI s=0↔s=0:=by
 unfold renI
 split<;>omega
theorem q95 (s:Int):renI s<0↔s<0:=by
 unfold renI
 split<;>omega
theorem q94 (s:Int):0<renI s↔0<s:=by
 unfold renI
 split<;>omega
theorem qmP (x:NodeV):(renN x).path=x.path:=rfl
theorem q90 (x:NodeV):nodK (renN x)=nodK x:=by
 have h1:=q95 x.same;have h2:=qmQ x.same;unfold nodK renN;simp only [h1,h2,Ne]
theorem q91 (x:NodeV):nodE (renN x)=nodE x:=by
 unfold nodE;rw [q90]
 rfl
theorem qiB (l:List NodeV):(renL l).length=l.length:=List.length_map ..
theorem q9V (t:List NodeV) (p:List UInt8):upOk (renL t) p=upOk t p:=by
 unfold upOk renL;rw [List.any_map]
 rfl
theorem q0R (t:List NodeV) (n:NodeV):qdG (renL t) (renN n)=qdG t n:=by
 unfold qdG renL;rw [List.any_map];have h1:decide ((renN n).same≠0)=decide (n.same≠0):=decide_eq_decide.2 (not_congr (qmQ n.same));rw [h1]
 congr 1
 congr 1
 funext x
 have h2:decide ((renN x).same=(renN n).same)=decide (x.same=n.same):=decide_eq_decide.2 (qq8 x.same n.same);show (decide ((renN x).same=(renN n).same) &&_)=_;rw [h2]
 rfl
theorem q92 (t:List NodeV):(renL t).getLast?=t.getLast?.map renN:=List.getLast?_map ..
theorem ren_atE (t:List NodeV) (n:NodeV):atE (renL t) (renN n)=atE t n:=by
 unfold atE;rw [q91,q0R,q92,qmP,q9V];cases t.getLast?<;>rfl
theorem q4J (l:List NodeV): ∀t,qc4 (renL t) (renL l)=qc4 t l:=by
 induction l with
 |nil=>intro t;rfl
 |cons n l ih=>
  intro t;show qc4 (renL t) (renN n::renL l)=_;rw [qc4,qc4,ren_atE];have h:renL t++ [renN n]=renL (t++ [n]):=by unfold renL;rw [List.map_append];rfl
  rw [h,ih]
theorem qmO (t:List NodeV):qaO (renL t)=qaO t:=by
 unfold qaO;rw [qiB];have:=q4J t [];rw [show renL []= []from rfl]at this;rw [this]
theorem qtQ (t:List NodeV) (s:List UInt8):qaR (renL t) s=qaR t s:=by
 unfold qaR renL;rw [List.takeWhile_map,List.length_map]
 rfl
theorem q9Z (t:List NodeV) (n:NodeV):putL (renL t) (renN n)=renL (putL t n):=by
 unfold putL renL;rw [List.map_append,List.map_cons,List.filter_map,List.filter_map]
 rfl
theorem q9Y (t:List NodeV) (s:List UInt8):remL (renL t) s=renL (remL t s):=by
 unfold remL renL;rw [List.filter_map]
 rfl
theorem qyN (t:List NodeV) (n:NodeV):putT (renL t) (renN n)=(renL (putT t n).1,(putT t n).2):=by
 unfold putT;rw [qmO,q9Z,qmO]
 split
 ·rfl
 ·split<;>rfl
theorem q9X (t:List NodeV) (s:List UInt8):(remT (renL t) s).1=renL (remT t s).1:=by
 unfold remT;rw [qmO,qtQ,qiB,q9Y]
 split
 ·rfl
 ·split<;>rfl
theorem q93 (out:List NodeV) (n:NodeV):gapU (renL out) (renN n)=gapU out n:=by
 unfold gapU;rw [qmP,qtQ];unfold renL;rw [List.getElem?_map];cases out[qaR out n.path]?<;>rfl
theorem q4K (out:List NodeV) (n:NodeV):qdD (renL out) (renN n)=(renL (qdD out n).1,(qdD out n).2):=by
 unfold qdD;rw [q93,qmP]
 split
 ·rw [q9X,qyN]
 ·rw [qyN]
def shM (dir:List UInt8) (x:NodeV):NodeV:= {x with path:=dir++47::x.path,same:=if 0<x.same then x.same+40 else x.same}
theorem ren_shM (dir:List UInt8) (x:NodeV):renN (shM dir x)=shN dir x:=by
 have h:renI (if 0<x.same then x.same+40 else x.same)=if 0<x.same then x.same+1000 else x.same:=by
  unfold renI
  split
  ·rw [if_neg (by omega)];omega
  ·rw [if_pos (by omega)]
 unfold renN shM shN;simp only [h]
def undM (dir:List UInt8) (out:List NodeV):List NodeV→List NodeV×Int
 | []=>(out,0)
 |x::l=>if (qdD out (shM dir x)).2≠0 then ([],(qdD out (shM dir x)).2)else undM dir (qdD out (shM dir x)).1 l
theorem q9W (dir:List UInt8) (l:List NodeV): ∀out,undL dir (renL out) l=(renL (undM dir out l).1,(undM dir out l).2):=by
 induction l with
 |nil=>intro out;rfl
 |cons x l ih=>
  intro out;unfold undL undM;rw [←ren_shM,q4K];simp only
  by_cases h:(qdD out (shM dir x)).2≠0
  ·rw [if_pos h,if_pos h];rfl
  ·rw [if_neg h,if_neg h,ih]
theorem qhE (t:List NodeV) (i:Nat):qaG (renL t) i=renI (qaG t i):=by
 unfold qaG renL;rw [List.getElem?_map];cases t[i]?<;>rfl
theorem ren_eqF (t:List NodeV) (k i:Nat):eqF (renL t) k i=eqF t k i:=by
 unfold eqF;rw [qhE,qhE];exact decide_eq_decide.2 (and_congr (not_congr (qmQ _)) (qq8 _ _))
theorem q0S (t:List NodeV) (i:Nat):qaB (renL t) i=qaB t i:=by
 unfold qaB
 congr 1
 congr 1
 funext k
 exact ren_eqF t k i
theorem q0Q (t:List NodeV) (i:Nat):qcN (renL t) i=qcN t i:=by
 unfold qcN;rw [qiB]
 congr 1
 funext k
 unfold isF;rw [qhE,qhE];have h1:decide (0<renI (qaG t i))=decide (0<qaG t i):=decide_eq_decide.2 (q94 _);have h2:decide (renI (qaG t k)=renI (qaG t i))=decide (qaG t k=qaG t i):=decide_eq_decide.2 (qq8 _ _);rw [h1,h2]
theorem q4L (t:List NodeV):qa8 (renL t)=qa8 t:=by
 apply List.ext_getElem
 ·rw [qbA,qbA,qiB]
 ·intro i h1 h2;rw [qbA,qiB]at h1;rw [qcY _ i (by rw [qiB];exact h1),qcY t i h1];unfold qeT;rw [q0Q,q0S];have:(renL t)[i]'(by rw [qiB];exact h1)=renN t[i]:=List.getElem_map ..;rw [this]
  rfl
theorem zc3 {t:List NodeV} (h:t.length≤40) {x:NodeV} (hx:x∈qa8 t):0≤x.same∧x.same≤40:=by
 obtain ⟨i,hi,rfl⟩:=List.getElem_of_mem hx;rw [qbA]at hi;rw [qcY t i hi];have h1:=(qbU t i).1;unfold qeT;simp only
 split
 ·have h2:qaB t i<t.length:=by omega
  omega
 ·omega
theorem ren_low {l:List NodeV} (h: ∀x∈l,x.same≤40):renL l=l:=by
 unfold renL
 conv=>rhs;rw [←List.map_id l]
 apply List.map_congr_left;intro x hx;unfold renN renI;rw [if_pos (h x hx)]
 rfl
theorem q3F {t:List NodeV} (h:t.length≤40) (dir:List UInt8) (l:List NodeV):
  (undL dir (qa8 t) l).2=(undM dir (qa8 t) l).2∧qa8 (undL dir (qa8 t) l).1=qa8 (undM dir (qa8 t) l).1:=by
 have h1:=q9W dir l (qa8 t);rw [ren_low fun x hx=>(zc3 h hx).2]at h1;rw [h1];exact ⟨rfl,q4L _⟩
def dirU (t:List NodeV) (s:List UInt8):Int:=match t[qaR t s]? with
 |some y=>if y.kind=2 then 0 else 10
 |none=>5
theorem dirU_at {t:List NodeV} {s:List UInt8} (h:qaR t s<t.length):dirU t s=if t[qaR t s].kind=2 then 0 else 10:=by
 unfold dirU;rw [List.getElem?_eq_getElem h]
theorem q7Q {t:List NodeV} {s:List UInt8} (h: ¬qaR t s<t.length):dirU t s=5:=by
 unfold dirU;rw [List.getElem?_eq_none (by omega)]
theorem zcF {t:List NodeV} {s:List UInt8} (ht:qaO t=0) (h:dirU t s=0):s.length≤400:=by
 by_cases h2:qaR t s<t.length
 ·have h3:=qe1 (((qaT t).1 ht).2.node _ (List.getElem_mem h2));rw [qf6 t s h2]at h3;exact h3
 ·rw [q7Q h2]at h;cases h
theorem qxN {a b:List NodeV} (h:a.map (·.path)=b.map (·.path)) (s:List UInt8):qaR a s=qaR b s:=by
 have key: ∀t:List NodeV,qaR t s=((t.map (·.path)).takeWhile fun p=> !decide (p=s)).length:=fun t=>by
  unfold qaR;rw [List.takeWhile_map,List.length_map]
  rfl
 rw [key,key,h]
theorem q86 {t:List NodeV} {dir b:List UInt8} (h:qaO t=0):undR t dir b=if dirU (qa8 t) dir≠0 then ([],dirU (qa8 t) dir)else if (qcQ b).2≠0 then ([],(qcQ b).2)
  else if (undM dir (qa8 t) (qcQ b).1).2≠0 then ([],(undM dir (qa8 t) (qcQ b).1).2)else (qa8 (undM dir (qa8 t) (qcQ b).1).1,0):=by
 have h40:t.length≤40:=((qaT t).1 h).1;have hf:qaR (qa8 t) dir=qaR t dir:=qxN (qvJ t) dir;obtain ⟨u1,u2⟩:=q3F h40 dir (qcQ b).1
 by_cases h2:qaR t dir<t.length
 ·have hd:dirU (qa8 t) dir=if t[qaR t dir].kind=2 then 0 else 10:=by
   unfold dirU;rw [hf,List.getElem?_eq_getElem (by rw [qbA];exact h2),qcY t _ h2]
   rfl
  rw [hd]
  by_cases h3:t[qaR t dir].kind=2
  ·rw [undR_at h h2 h3,if_pos h3,u1,u2,if_neg (show¬((0:Int)≠0)from fun e=>e rfl)]
  ·rw [q3I h h2 h3,if_neg h3,if_pos (by decide)]
 ·have h4:qaR t dir=t.length:=by have:=qeB t dir;omega
  have hd:dirU (qa8 t) dir=5:=by
   unfold dirU;rw [hf,List.getElem?_eq_none (by rw [qbA];omega)]
  rw [q3H h h4,hd,if_pos (by decide)]
end Go.Proofs.YtapgoifimhnbdaaGreatDoor
set_option maxRecDepth 100000
namespace Go.Proofs.YtapgoifimhnbdaaGreatDoor
open Go.RowKit
open Go.OpenShut
set_option maxHeartbeats 2000000 in
theorem q4E (A:Option Addr) (n c:Nat) (l:List NodeV) (s:ByteArray) (hn:l.length=n) (hm:n≤1000) (hsz: ∀x∈l,x.sz) (w:World) (hA:qaJ w A l):
  Calls Tryz.prog 33 #[.slice A n c,.string s] w fun e w'=>e= .returned (.int .i64 (dirU l s.data.toList))∧Below w.heap.size w w':=by
 have H1:=Lib.hid (qgD A n c l s hn (by omega) hsz w hA)
 by_cases hlt:qaR l s.data.toList<n
 ·have hfl:qaR l s.data.toList<l.length:=by rw [hn];exact hlt
  have HV:=Lib.hid (dirU_at hfl);rw [if_pos hlt]at H1;obtain ⟨b0,o0,D0,cc0,rfl,hb0,-,-,hcl0⟩:=hA.cells2 _ hfl;have HCl:=Lib.hid fun W h=>(hcl0 W h).2.1;rw [HV.out];obtain ⟨K,hK⟩: ∃K,l[qaR l s.data.toList].kind=K:=⟨_,rfl⟩;rw [hK]at HCl⊢;generalize qaR l s.data.toList=fi at*;have hfi0:(0:Int)≤(fi:Int)∧(fi:Int)<(n:Int):=by omega
  clear hcl0 hA hn hsz HV hK
  by_cases hk:K=2
  ·subst hk;rw [if_pos rfl];go_enter Tryz.func33,Tryz.ntmps33;go_wp2_with fail;refine H1.out.mono ?_;rintro e w1 ⟨rfl,hb⟩;have hcell:=HCl.out w1 hb;have HB1:=Lib.hid hb;clear hb;go_wp2_with fail;go_ret;exact ⟨rfl,HB1.out⟩
  ·rw [if_neg hk];have hne:(K !=2)=true:=by simpa using hk
   go_enter Tryz.func33,Tryz.ntmps33;go_wp2_with fail;refine H1.out.mono ?_;rintro e w1 ⟨rfl,hb⟩;have hcell:=HCl.out w1 hb;have HB1:=Lib.hid hb;clear hb;go_wp2_with fail;go_ret;exact ⟨rfl,HB1.out⟩
 ·rw [if_neg hlt]at H1;rw [q7Q (by rw [hn];exact hlt)];clear hlt hA hn hsz;go_enter Tryz.func33,Tryz.ntmps33;go_wp2_with fail;refine H1.out.mono ?_;rintro e w1 ⟨rfl,hb⟩;have HB1:=Lib.hid hb;clear hb;go_wp2_with fail;go_ret;exact ⟨rfl,HB1.out⟩
set_option maxHeartbeats 4000000 in
theorem qwI (y:NodeV) (D:Option Addr) (c:Nat) (s:ByteArray) (hs:s.size≤400) (hy:y.path.length≤400∧0≤y.same∧y.same≤1000) (w:World):
  Calls Tryz.prog 35 #[.agg (nodC y D c).toArray,.string s] w fun e w'=>e= .returned (.agg (nodC (shM s.data.toList y) D c).toArray)∧Below w.heap.size w w':=by
 obtain ⟨Q,hQ⟩:=qaA (bs y.path);have hQs:Q.size≤400:=by rw [←hQ.out,qaC];exact hy.1
 obtain ⟨P1,e1⟩: ∃A,s++⟨#[47]⟩=A:=⟨_,rfl⟩;obtain ⟨P,e2⟩: ∃A,P1++Q=A:=⟨_,rfl⟩;have z1:P1.size≤401:=by rw [←e1,ByteArray.size_append];show _+1≤_;omega
 have p1:=qv5 e1 (by show _+1≤_;omega);have p2:=qv5 e2 (by omega);have HP:Hid (bs (s.data.toList++47::y.path)=P):=by unfold Hid;rw [←und_add,e1,hQ.out,e2]
 have HR:Hid (nodC (shM s.data.toList y) D c= [.string P,.int .i64 y.kind,.int .i64 (if 0<y.same then y.same+40 else y.same),.string (bs y.target),.int .i64 y.md.mode,.int .i64 y.md.uid,.int .i64 y.md.gid,.string (bs y.md.user),.string (bs y.md.group),.int .i64 y.md.second,.int .i64 y.md.nano,.slice D y.data.length c]):=by
  unfold Hid;rw [←HP.out];rfl
 rw [HR.out];clear HR HP e1 e2 z1;have hy2:=hy.2;obtain ⟨path,kind,same,target,⟨m0,m1,m2,m3,m4,m5,m6⟩,data⟩:=y;unfold nodC;simp only at hQ hy2⊢;rw [hQ.out];generalize data.length=dl;generalize bs target=tg;generalize bs m3=us;generalize bs m4=gs;clear hQ hy
 by_cases hpos:0<same
 ·rw [if_pos hpos];have hpb:decide (0<same)=true:=decide_eq_true hpos;have wz:IntKind.i64.wrap (same+40)=same+40:=by rw [IntKind.wrap_i64];omega
  go_enter Tryz.func35,Tryz.ntmps35;go_upto_region 1 with fail
  have HBl:=Lib.hid ((Blk.new w 49 #[.string Q,.int .i64 kind,.int .i64 same,.string tg,.int .i64 m0,.int .i64 m1,.int .i64 m2,.string us,.string gs,.int .i64 m5,.int .i64 m6,.slice D dl c]).alloc (.cells #[.string ⟨#[]⟩,.int .i64 0,.int .i64 0,.string ⟨#[]⟩,.int .i64 0,.int .i64 0,.int .i64 0,.string ⟨#[]⟩,.string ⟨#[]⟩,.int .i64 0,.int .i64 0,.slice none 0 0] 49));have HBz:=Lib.hid (Blk.new (w.alloc (.cells #[.string Q,.int .i64 kind,.int .i64 same,.string tg,.int .i64 m0,.int .i64 m1,.int .i64 m2,.string us,.string gs,.int .i64 m5,.int .i64 m6,.slice D dl c] 49)) 49 #[.string ⟨#[]⟩,.int .i64 0,.int .i64 0,.string ⟨#[]⟩,.int .i64 0,.int .i64 0,.int .i64 0,.string ⟨#[]⟩,.string ⟨#[]⟩,.int .i64 0,.int .i64 0,.slice none 0 0]);have HBa:=Lib.hid (qaL (qaL (Below.refl w.heap.size w) (.cells #[.string Q,.int .i64 kind,.int .i64 same,.string tg,.int .i64 m0,.int .i64 m1,.int .i64 m2,.string us,.string gs,.int .i64 m5,.int .i64 m6,.slice D dl c] 49)) (.cells #[.string ⟨#[]⟩,.int .i64 0,.int .i64 0,.string ⟨#[]⟩,.int .i64 0,.int .i64 0,.int .i64 0,.string ⟨#[]⟩,.string ⟨#[]⟩,.int .i64 0,.int .i64 0,.slice none 0 0] 49));rw [hszA]at HBz;generalize hwa:(w.alloc _).alloc _=wa at HBl HBz HBa⊢;obtain ⟨gE,hgE⟩:=qaA w.heap.size;rw [hgE.out]at HBl HBz HBa⊢;have HGE:Hid (w.heap.size=gE):=hgE.out;have hne:gE+1≠gE:=by omega
  clear hwa hgE;obtain ⟨⟨e0,e1,e2,e3,e4,e5,e6,e7,e8,e9,eA,eB⟩,f0,f1,f2,f3,f4,f5,f6,f7,f8,f9,fA,fB⟩:=qbC HBl.out;go_upto_region 4 with fail
  have HB4:Hid (Blk ((wa.setCell ⟨gE,0,none⟩ (.string P)).setCell ⟨gE,2,none⟩ (.int .i64 (same+40))) gE 49 #[.string P,.int .i64 kind,.int .i64 (same+40),.string tg,.int .i64 m0,.int .i64 m1,.int .i64 m2,.string us,.string gs,.int .i64 m5,.int .i64 m6,.slice D dl c]):=Blk.set_ (Blk.set_ HBl.out 0 (.string P)) 2 (.int .i64 (same+40));have HZ4:Hid (Blk ((wa.setCell ⟨gE,0,none⟩ (.string P)).setCell ⟨gE,2,none⟩ (.int .i64 (same+40))) (gE+1) 49 #[.string ⟨#[]⟩,.int .i64 0,.int .i64 0,.string ⟨#[]⟩,.int .i64 0,.int .i64 0,.int .i64 0,.string ⟨#[]⟩,.string ⟨#[]⟩,.int .i64 0,.int .i64 0,.slice none 0 0]):=((HBz.out.far (p:=⟨gE,0,none⟩) hne (.string P)).far (p:=⟨gE,2,none⟩) hne (.int .i64 (same+40)));have HW4:Hid (Below gE w ((wa.setCell ⟨gE,0,none⟩ (.string P)).setCell ⟨gE,2,none⟩ (.int .i64 (same+40)))):=Below.set1 (Below.set1 HBa.out (Nat.le_refl _) 0 _) (Nat.le_refl _) 2 _;generalize (wa.setCell ⟨gE,0,none⟩ (.string P)).setCell ⟨gE,2,none⟩ (.int .i64 (same+40))=w4 at HB4 HZ4 HW4⊢;clear e0 e1 e2 e3 e4 e5 e6 e7 e8 e9 eA eB f0 f1 f2 f3 f4 f5 f6 f7 f8 f9 fA fB HBl HBz HBa;obtain ⟨⟨e0,e1,e2,e3,e4,e5,e6,e7,e8,e9,eA,eB⟩,f0,f1,f2,f3,f4,f5,f6,f7,f8,f9,fA,fB⟩:=qbC HB4.out;obtain ⟨⟨k0,k1,k2,k3,k4,k5,k6,k7,k8,k9,kA,kB⟩,l0,l1,l2,l3,l4,l5,l6,l7,l8,l9,lA,lB⟩:=qbC HZ4.out;go_wp2_with fail
  refine bodyPost_ret (v:= .agg #[.string P,.int .i64 kind,.int .i64 (same+40),.string tg,.int .i64 m0,.int .i64 m1,.int .i64 m2,.string us,.string gs,.int .i64 m5,.int .i64 m6,.slice D dl c]) (by simp [results,Tryz.results35,go_sem, *]) rfl ⟨rfl,?_⟩;rw [HGE.out];exact Below.set12 HW4.out (Nat.le_succ _) _ _ _ _ _ _ _ _ _ _ _ _
 ·rw [if_neg hpos];have hpb:decide (0<same)=false:=decide_eq_false hpos;go_enter Tryz.func35,Tryz.ntmps35;go_upto_region 1 with fail
  have HBl:=Lib.hid ((Blk.new w 49 #[.string Q,.int .i64 kind,.int .i64 same,.string tg,.int .i64 m0,.int .i64 m1,.int .i64 m2,.string us,.string gs,.int .i64 m5,.int .i64 m6,.slice D dl c]).alloc (.cells #[.string ⟨#[]⟩,.int .i64 0,.int .i64 0,.string ⟨#[]⟩,.int .i64 0,.int .i64 0,.int .i64 0,.string ⟨#[]⟩,.string ⟨#[]⟩,.int .i64 0,.int .i64 0,.slice none 0 0] 49));have HBz:=Lib.hid (Blk.new (w.alloc (.cells #[.string Q,.int .i64 kind,.int .i64 same,.string tg,.int .i64 m0,.int .i64 m1,.int .i64 m2,.string us,.string gs,.int .i64 m5,.int .i64 m6,.slice D dl c] 49)) 49 #[.string ⟨#[]⟩,.int .i64 0,.int .i64 0,.string ⟨#[]⟩,.int .i64 0,.int .i64 0,.int .i64 0,.string ⟨#[]⟩,.string ⟨#[]⟩,.int .i64 0,.int .i64 0,.slice none 0 0]);have HBa:=Lib.hid (qaL (qaL (Below.refl w.heap.size w) (.cells #[.string Q,.int .i64 kind,.int .i64 same,.string tg,.int .i64 m0,.int .i64 m1,.int .i64 m2,.string us,.string gs,.int .i64 m5,.int .i64 m6,.slice D dl c] 49)) (.cells #[.string ⟨#[]⟩,.int .i64 0,.int .i64 0,.string ⟨#[]⟩,.int .i64 0,.int .i64 0,.int .i64 0,.string ⟨#[]⟩,.string ⟨#[]⟩,.int .i64 0,.int .i64 0,.slice none 0 0] 49));rw [hszA]at HBz;generalize hwa:(w.alloc _).alloc _=wa at HBl HBz HBa⊢;obtain ⟨gE,hgE⟩:=qaA w.heap.size;rw [hgE.out]at HBl HBz HBa⊢;have HGE:Hid (w.heap.size=gE):=hgE.out;have hne:gE+1≠gE:=by omega
  clear hwa hgE;obtain ⟨⟨e0,e1,e2,e3,e4,e5,e6,e7,e8,e9,eA,eB⟩,f0,f1,f2,f3,f4,f5,f6,f7,f8,f9,fA,fB⟩:=qbC HBl.out;go_upto_region 4 with fail
  have HB4:Hid (Blk (wa.setCell ⟨gE,0,none⟩ (.string P)) gE 49 #[.string P,.int .i64 kind,.int .i64 same,.string tg,.int .i64 m0,.int .i64 m1,.int .i64 m2,.string us,.string gs,.int .i64 m5,.int .i64 m6,.slice D dl c]):=Blk.set_ HBl.out 0 (.string P);have HZ4:Hid (Blk (wa.setCell ⟨gE,0,none⟩ (.string P)) (gE+1) 49 #[.string ⟨#[]⟩,.int .i64 0,.int .i64 0,.string ⟨#[]⟩,.int .i64 0,.int .i64 0,.int .i64 0,.string ⟨#[]⟩,.string ⟨#[]⟩,.int .i64 0,.int .i64 0,.slice none 0 0]):=(HBz.out.far (p:=⟨gE,0,none⟩) hne (.string P));have HW4:Hid (Below gE w (wa.setCell ⟨gE,0,none⟩ (.string P))):=Below.set1 HBa.out (Nat.le_refl _) 0 _;generalize wa.setCell ⟨gE,0,none⟩ (.string P)=w4 at HB4 HZ4 HW4⊢;clear e0 e1 e2 e3 e4 e5 e6 e7 e8 e9 eA eB f0 f1 f2 f3 f4 f5 f6 f7 f8 f9 fA fB HBl HBz HBa;obtain ⟨⟨e0,e1,e2,e3,e4,e5,e6,e7,e8,e9,eA,eB⟩,f0,f1,f2,f3,f4,f5,f6,f7,f8,f9,fA,fB⟩:=qbC HB4.out;obtain ⟨⟨k0,k1,k2,k3,k4,k5,k6,k7,k8,k9,kA,kB⟩,l0,l1,l2,l3,l4,l5,l6,l7,l8,l9,lA,lB⟩:=qbC HZ4.out;go_wp2_with fail;refine bodyPost_ret (v:= .agg #[.string P,.int .i64 kind,.int .i64 same,.string tg,.int .i64 m0,.int .i64 m1,.int .i64 m2,.string us,.string gs,.int .i64 m5,.int .i64 m6,.slice D dl c]) (by simp [results,Tryz.results35,go_sem, *]) rfl ⟨rfl,?_⟩;rw [HGE.out];exact Below.set12 HW4.out (Nat.le_succ _) _ _ _ _ _ _ _ _ _ _ _ _
set_option maxHeartbeats 4000000 in
theorem qwH (A:Option Addr) (q c:Nat) (ou:List NodeV) (hol:ou.length=q) (hso:SlOk A q c) (hG:qaO ou=0) (x:NodeV) (D:Option Addr) (cx:Nat) (hx:x.sz) (hp:x.path.length≤801) (hs:SlOk D x.data.length cx) (w:World) (hA:qaJ w A ou) (hD:qaE w D x.data):
  Calls Tryz.prog 34 #[.slice A q c,.agg (nodC x D cx).toArray] w fun e w'=> ∃v xs,e= .returned (.tuple #[v,.int .i64 (qdD ou x).2])∧xs.map (·.1)=(qdD ou x).1∧OwnN w' w.heap.size v xs∧Below w.heap.size w w':=by
 have h40:q≤40:=by have:=((qaT ou).1 hG).1;omega
 have hoz: ∀z∈ou,z.sz:=fun z hz=>qiF (((qaT ou).1 hG).2.node z hz);obtain ⟨P,hP⟩:=qaA (bs x.path);have hPs:P.size≤maxLen:=by rw [←hP.out,qaC];unfold maxLen;omega
 have hPl:P.data.toList=x.path:=by rw [←hP.out,qaF]
 have HF:=Lib.hid fun W (h:qaJ W A ou)=>qgD A q c ou P hol (by omega) hoz W h;have HR:=Lib.hid fun W (h:qaJ W A ou)=>q2W A q c ou P hol (by omega) hso hoz hPs W h;rw [hPl]at HF HR;have HPt:=Lib.hid fun (A2:Option Addr) (n2 c2:Nat) (o2:List NodeV) (h1:o2.length=n2) (h2:SlOk A2 n2 c2) (h3: ∀z∈o2,z.sz) W (h4:Below w.heap.size w W) (h5:qaJ W A2 o2)=>Put_any A2 n2 c2 o2 h1 h2 h3 x D cx hx hs W h5 (hD.below h4);have HXc:Hid (nodC x D cx= [.string P,.int .i64 x.kind,.int .i64 x.same,.string (bs x.target),.int .i64 x.md.mode,.int .i64 x.md.uid,.int .i64 x.md.gid,.string (bs x.md.user),.string (bs x.md.group),.int .i64 x.md.second,.int .i64 x.md.nano,.slice D x.data.length cx]):=by unfold Hid;rw [←hP.out];rfl
 rw [HXc.out]at HPt⊢;have HA:=Lib.hid hA;have HOl:=Lib.hid hol;have HSo:=Lib.hid hso;have HOZ:=Lib.hid hoz;have HS:Hid (qdD ou x=putT (if gapU ou x=true then (remT ou x.path).1 else ou) x):=rfl;rw [HS.out];have HRZ:Hid (∀z∈remL ou x.path,z.sz):=fun z hz=>hoz z (List.mem_filter.1 hz).1
 by_cases hlt:qaR ou x.path<q
 ·have hgv:=gap_in (out:=ou) (n:=x) (by rw [hol];exact hlt);have hrm:remT ou x.path=(remL ou x.path,0):=q4M hG (by rw [hol];omega);obtain ⟨b0,o0,D0,cc0,rfl,-,-,-,hcl⟩:=hA.cells2 (qaR ou x.path) (by rw [hol];exact hlt);have HCl:=Lib.hid fun W h=>(hcl W h).2.1;obtain ⟨K,hK⟩: ∃K,(ou[qaR ou x.path]'(by rw [hol];exact hlt)).kind=K:=⟨_,rfl⟩;rw [hK]at HCl hgv;simp only [if_pos hlt]at HF;rw [hrm]at HR⊢;simp only at HR⊢;generalize qaR ou x.path=fi at HF HCl hlt;have hfi1:(fi:Int)<(q:Int):=by omega
  have hfi2:(0:Int)≤(fi:Int):=by omega
  clear hcl hK hrm hlt hol hso hG hs hA hD hoz hx hp hPs hPl HXc HS hP
  by_cases hK2:K=2
  ·subst hK2
   by_cases hy2:x.kind=2
   ·rw [decide_eq_true rfl,decide_eq_true hy2]at hgv;rw [hgv,if_neg (by simp)];have hy3:(x.kind !=2)=false:=by simpa using hy2
    clear HR HRZ hgv hy2;go_enter Tryz.func34,Tryz.ntmps34;go_upto_region 1 with fail
    have HBl:=Lib.hid (Blk.new w 49 #[.string P,.int .i64 x.kind,.int .i64 x.same,.string (bs x.target),.int .i64 x.md.mode,.int .i64 x.md.uid,.int .i64 x.md.gid,.string (bs x.md.user),.string (bs x.md.group),.int .i64 x.md.second,.int .i64 x.md.nano,.slice D x.data.length cx]);have HBa:=Lib.hid (qaL (Below.refl w.heap.size w) (.cells #[.string P,.int .i64 x.kind,.int .i64 x.same,.string (bs x.target),.int .i64 x.md.mode,.int .i64 x.md.uid,.int .i64 x.md.gid,.string (bs x.md.user),.string (bs x.md.group),.int .i64 x.md.second,.int .i64 x.md.nano,.slice D x.data.length cx] 49));generalize hwa:w.alloc _=wa at HBl HBa⊢;obtain ⟨gE,hgE⟩:=qaA w.heap.size;have HGE:Hid (w.heap.size=gE):=hgE.out;rw [hgE.out]at HBl⊢;clear hwa hgE;obtain ⟨⟨e0,e1,e2,e3,e4,e5,e6,e7,e8,e9,eA,eB⟩,-⟩:=qbC HBl.out;go_wp2_with fail;refine (HF.out wa (HA.out.below HBa.out)).mono ?_;rintro e w2 ⟨rfl,hb⟩;have HB2:=Lib.hid (HBa.out.trans (hb.mono HBa.out.size));have HL2:=Lib.hid (HBl.out.below hb HBl.out.lt);clear hb HBl HBa HF e0 e1 e2 e3 e4 e5 e6 e7 e8 e9 eA eB;obtain ⟨⟨e0,e1,e2,e3,e4,e5,e6,e7,e8,e9,eA,eB⟩,-⟩:=qbC HL2.out;have hcell:=HCl.out w2 HB2.out;have HP2:=Lib.hid (HPt.out (some ⟨b0,o0,none⟩) q c ou HOl.out HSo.out HOZ.out w2 HB2.out (HA.out.below HB2.out));clear HPt;go_wp2_with fail;refine HP2.out.mono ?_;rintro e w3 ⟨v3,ys,rfl,hm,ho,hb⟩;have HM3:=Lib.hid hm;have HO3:=Lib.hid (ho.mono HB2.out.size);have HB3:=Lib.hid (HB2.out.trans (hb.mono HB2.out.size));clear hm ho hb HP2;go_wp2_with fail;go_ret2
    exact ⟨_,ys,rfl,HM3.out,HO3.out,HB3.out⟩
   ·rw [decide_eq_true rfl,decide_eq_false hy2]at hgv;rw [hgv,if_pos (by rfl)];have hy3:(x.kind !=2)=true:=by simpa using hy2
    clear hgv hy2;go_enter Tryz.func34,Tryz.ntmps34;go_upto_region 1 with fail
    have HBl:=Lib.hid (Blk.new w 49 #[.string P,.int .i64 x.kind,.int .i64 x.same,.string (bs x.target),.int .i64 x.md.mode,.int .i64 x.md.uid,.int .i64 x.md.gid,.string (bs x.md.user),.string (bs x.md.group),.int .i64 x.md.second,.int .i64 x.md.nano,.slice D x.data.length cx]);have HBa:=Lib.hid (qaL (Below.refl w.heap.size w) (.cells #[.string P,.int .i64 x.kind,.int .i64 x.same,.string (bs x.target),.int .i64 x.md.mode,.int .i64 x.md.uid,.int .i64 x.md.gid,.string (bs x.md.user),.string (bs x.md.group),.int .i64 x.md.second,.int .i64 x.md.nano,.slice D x.data.length cx] 49));generalize hwa:w.alloc _=wa at HBl HBa⊢;obtain ⟨gE,hgE⟩:=qaA w.heap.size;have HGE:Hid (w.heap.size=gE):=hgE.out;rw [hgE.out]at HBl⊢;clear hwa hgE;obtain ⟨⟨e0,e1,e2,e3,e4,e5,e6,e7,e8,e9,eA,eB⟩,-⟩:=qbC HBl.out;go_wp2_with fail;refine (HF.out wa (HA.out.below HBa.out)).mono ?_;rintro e w2 ⟨rfl,hb⟩;have HB2:=Lib.hid (HBa.out.trans (hb.mono HBa.out.size));have HL2:=Lib.hid (HBl.out.below hb HBl.out.lt);clear hb HBl HBa HF e0 e1 e2 e3 e4 e5 e6 e7 e8 e9 eA eB;obtain ⟨⟨e0,e1,e2,e3,e4,e5,e6,e7,e8,e9,eA,eB⟩,-⟩:=qbC HL2.out;have hcell:=HCl.out w2 HB2.out;have HR2:=Lib.hid (HR.out w2 (HA.out.below HB2.out));clear HR;go_wp2_with fail;refine HR2.out.mono ?_;rintro e w3 ⟨v3,ys,rfl,hm,ho,hb⟩;have HB3:=Lib.hid (HB2.out.trans (hb.mono HB2.out.size));have HL3:=Lib.hid (HL2.out.below hb HL2.out.lt);obtain ⟨A3,c3,rfl,hs3,hN3⟩:=ho.at;rw [hm]at hN3;have hl3:(remL ou x.path).length=ys.length:=by rw [←hm,List.length_map]
    have HP3:=Lib.hid (HPt.out A3 ys.length c3 (remL ou x.path) hl3 hs3 HRZ.out w3 HB3.out hN3);clear hm ho hb hs3 hN3 hl3 HR2 HPt e0 e1 e2 e3 e4 e5 e6 e7 e8 e9 eA eB;obtain ⟨⟨e0,e1,e2,e3,e4,e5,e6,e7,e8,e9,eA,eB⟩,-⟩:=qbC HL3.out;obtain ⟨q3,hq3⟩:=qaA ys.length;rw [hq3.out]at HP3⊢;go_wp2_with fail;refine HP3.out.mono ?_;rintro e w4 ⟨v4,zs,rfl,hm,ho,hb⟩;have HM4:=Lib.hid hm;have HO4:=Lib.hid (ho.mono HB3.out.size);have HB4:=Lib.hid (HB3.out.trans (hb.mono HB3.out.size));clear hm ho hb HP3;go_wp2_with fail;go_ret2;exact ⟨_,zs,rfl,HM4.out,HO4.out,HB4.out⟩
  ·rw [decide_eq_false hK2]at hgv;rw [hgv,if_pos (by rfl)];have hK3:(K !=2)=true:=by simpa using hK2
   clear hgv hK2;go_enter Tryz.func34,Tryz.ntmps34;go_upto_region 1 with fail
   have HBl:=Lib.hid (Blk.new w 49 #[.string P,.int .i64 x.kind,.int .i64 x.same,.string (bs x.target),.int .i64 x.md.mode,.int .i64 x.md.uid,.int .i64 x.md.gid,.string (bs x.md.user),.string (bs x.md.group),.int .i64 x.md.second,.int .i64 x.md.nano,.slice D x.data.length cx]);have HBa:=Lib.hid (qaL (Below.refl w.heap.size w) (.cells #[.string P,.int .i64 x.kind,.int .i64 x.same,.string (bs x.target),.int .i64 x.md.mode,.int .i64 x.md.uid,.int .i64 x.md.gid,.string (bs x.md.user),.string (bs x.md.group),.int .i64 x.md.second,.int .i64 x.md.nano,.slice D x.data.length cx] 49));generalize hwa:w.alloc _=wa at HBl HBa⊢;obtain ⟨gE,hgE⟩:=qaA w.heap.size;have HGE:Hid (w.heap.size=gE):=hgE.out;rw [hgE.out]at HBl⊢;clear hwa hgE;obtain ⟨⟨e0,e1,e2,e3,e4,e5,e6,e7,e8,e9,eA,eB⟩,-⟩:=qbC HBl.out;go_wp2_with fail;refine (HF.out wa (HA.out.below HBa.out)).mono ?_;rintro e w2 ⟨rfl,hb⟩;have HB2:=Lib.hid (HBa.out.trans (hb.mono HBa.out.size));have HL2:=Lib.hid (HBl.out.below hb HBl.out.lt);clear hb HBl HBa HF e0 e1 e2 e3 e4 e5 e6 e7 e8 e9 eA eB;obtain ⟨⟨e0,e1,e2,e3,e4,e5,e6,e7,e8,e9,eA,eB⟩,-⟩:=qbC HL2.out;have hcell:=HCl.out w2 HB2.out;have HR2:=Lib.hid (HR.out w2 (HA.out.below HB2.out));clear HR;go_wp2_with fail;refine HR2.out.mono ?_;rintro e w3 ⟨v3,ys,rfl,hm,ho,hb⟩;have HB3:=Lib.hid (HB2.out.trans (hb.mono HB2.out.size));have HL3:=Lib.hid (HL2.out.below hb HL2.out.lt);obtain ⟨A3,c3,rfl,hs3,hN3⟩:=ho.at;rw [hm]at hN3;have hl3:(remL ou x.path).length=ys.length:=by rw [←hm,List.length_map]
   have HP3:=Lib.hid (HPt.out A3 ys.length c3 (remL ou x.path) hl3 hs3 HRZ.out w3 HB3.out hN3);clear hm ho hb hs3 hN3 hl3 HR2 HPt e0 e1 e2 e3 e4 e5 e6 e7 e8 e9 eA eB;obtain ⟨⟨e0,e1,e2,e3,e4,e5,e6,e7,e8,e9,eA,eB⟩,-⟩:=qbC HL3.out;obtain ⟨q3,hq3⟩:=qaA ys.length;rw [hq3.out]at HP3⊢;go_wp2_with fail;refine HP3.out.mono ?_;rintro e w4 ⟨v4,zs,rfl,hm,ho,hb⟩;have HM4:=Lib.hid hm;have HO4:=Lib.hid (ho.mono HB3.out.size);have HB4:=Lib.hid (HB3.out.trans (hb.mono HB3.out.size));clear hm ho hb HP3;go_wp2_with fail;go_ret2;exact ⟨_,zs,rfl,HM4.out,HO4.out,HB4.out⟩
 ·have hgv:=gap_out (out:=ou) (n:=x) (by rw [hol];exact hlt);rw [hgv,if_neg (by simp)];simp only [if_neg hlt]at HF;clear hgv hlt hol hso hG hs hA hD hoz hx hp hPs hPl HXc HS hP HR HRZ;go_enter Tryz.func34,Tryz.ntmps34;go_upto_region 1 with fail
  have HBl:=Lib.hid (Blk.new w 49 #[.string P,.int .i64 x.kind,.int .i64 x.same,.string (bs x.target),.int .i64 x.md.mode,.int .i64 x.md.uid,.int .i64 x.md.gid,.string (bs x.md.user),.string (bs x.md.group),.int .i64 x.md.second,.int .i64 x.md.nano,.slice D x.data.length cx]);have HBa:=Lib.hid (qaL (Below.refl w.heap.size w) (.cells #[.string P,.int .i64 x.kind,.int .i64 x.same,.string (bs x.target),.int .i64 x.md.mode,.int .i64 x.md.uid,.int .i64 x.md.gid,.string (bs x.md.user),.string (bs x.md.group),.int .i64 x.md.second,.int .i64 x.md.nano,.slice D x.data.length cx] 49));generalize hwa:w.alloc _=wa at HBl HBa⊢;obtain ⟨gE,hgE⟩:=qaA w.heap.size;have HGE:Hid (w.heap.size=gE):=hgE.out;rw [hgE.out]at HBl⊢;clear hwa hgE;obtain ⟨⟨e0,e1,e2,e3,e4,e5,e6,e7,e8,e9,eA,eB⟩,-⟩:=qbC HBl.out;go_wp2_with fail;refine (HF.out wa (HA.out.below HBa.out)).mono ?_;rintro e w2 ⟨rfl,hb⟩;have HB2:=Lib.hid (HBa.out.trans (hb.mono HBa.out.size));have HL2:=Lib.hid (HBl.out.below hb HBl.out.lt);clear hb HBl HBa HF e0 e1 e2 e3 e4 e5 e6 e7 e8 e9 eA eB;obtain ⟨⟨e0,e1,e2,e3,e4,e5,e6,e7,e8,e9,eA,eB⟩,-⟩:=qbC HL2.out;have HP2:=Lib.hid (HPt.out A q c ou HOl.out HSo.out HOZ.out w2 HB2.out (HA.out.below HB2.out));clear HPt;go_wp2_with fail;refine HP2.out.mono ?_;rintro e w3 ⟨v3,ys,rfl,hm,ho,hb⟩;have HM3:=Lib.hid hm;have HO3:=Lib.hid (ho.mono HB2.out.size);have HB3:=Lib.hid (HB2.out.trans (hb.mono HB2.out.size));clear hm ho hb HP2;go_wp2_with fail;go_ret2;exact ⟨_,ys,rfl,HM3.out,HO3.out,HB3.out⟩
set_option maxHeartbeats 8000000 in
theorem qtP (A:Option Addr) (n c:Nat) (l:List NodeV) (hn:l.length=n) (hc:SlOk A n c) (hsz: ∀x∈l,x.sz) (s:ByteArray) (hs:s.size≤maxLen) (B:Option Addr) (nb cb:Nat) (b0v:List UInt8) (hnb:b0v.length=nb) (hnb2:nb≤140737488351232) (hcb:SlOk B nb cb) (w:World) (S:Std w) (hA:qaJ w A l) (hB:qaE w B b0v):
  Calls Tryz.prog 12 #[.slice A n c,.string s,.slice B nb cb] w fun e w'=> ∃v xs,e= .returned (.tuple #[v,.int .i64 (undR l s.data.toList b0v).2])∧xs.map (·.1)=(undR l s.data.toList b0v).1∧OwnN w' w.heap.size v xs∧Below w.heap.size w w':=by
 have H1:=Lib.hid (quI A n c l hn hc hsz w hA)
 by_cases h0:qaO l=0
 ·have hV:=q86 (dir:=s.data.toList) (b:=b0v) h0;have h40:n≤40:=by have:=((qaT l).1 h0).1;omega
  have hgo:qaO (qa8 l)=0:=by
   obtain ⟨q1,q2⟩:=(qaT l).1 h0;exact (qaT _).2 ⟨by rw [qbA];exact q1,qpA q2⟩
  have hlen:(qa8 l).length=n:=by rw [qbA,hn]
  have hzo: ∀x∈qa8 l,x.sz:=fun z hz=>qiF (((qaT _).1 hgo).2.node z hz);have HR:=Lib.hid fun W h=>qiA B nb cb b0v hnb hnb2 hcb W (S.below h) (hB.below h);have hc40:=qyM (b:=b0v);have hcz:=q4H (b:=b0v);rw [h0,if_pos rfl]at H1;have hdl:=fun h=>zcF (s:=s.data.toList) hgo h;generalize qa8 l=out0 at*;have HDr:=Lib.hid fun (A1:Option Addr) (c1:Nat) W h=>q4E A1 n c1 out0 s hlen (by omega) hzo W h;generalize dirU out0 s.data.toList=dv at HDr hV hdl;generalize qcQ b0v=R at HR hc40 hcz hV;obtain ⟨come,E⟩:=R;simp only at HR hc40 hcz hV;have HLn:=Lib.hid hlen;clear h0 hn hc hsz hA hB hs hnb hnb2 hcb S hzo hlen h40
  by_cases hd:dv=0
  ·subst hd;rw [if_neg (fun h=>h rfl)]at hV;have hs4:s.size≤400:=by rw [←qaH];exact hdl rfl
   clear hdl;go_enter Tryz.func12,Tryz.ntmps12;go_wp2_with fail;refine H1.out.mono ?_;rintro e w1 ⟨v1,xs1,rfl,hm,ho,hb⟩;have HO1:=Lib.hid ho;have HM1:=Lib.hid hm;have HB1:=Lib.hid hb;obtain ⟨A1,c1,rfl,-,hN1⟩:=ho.at;rw [hm]at hN1;have hxl:xs1.length=n:=by rw [←HLn.out,←hm,List.length_map]
   have HD1:=Lib.hid (HDr.out A1 c1 w1 hN1);rw [hxl]at HO1⊢;clear hm ho hb hN1 hxl H1 HDr;go_wp2_with fail;refine HD1.out.mono ?_;rintro e w2 ⟨rfl,hb⟩;have HB2:=Lib.hid (HB1.out.trans (hb.mono HB1.out.size));have HO2:=Lib.hid (HO1.out.below hb);clear hb HD1 HO1 HB1;go_wp2_with fail;refine (HR.out w2 HB2.out).mono ?_;rintro e w3 ⟨v3,zs,rfl,hm,ho,hb⟩;obtain ⟨A3,c3,rfl,hs3,hN3⟩:=ho.at;rw [hm]at hN3;have hzl:zs.length=come.length:=by rw [←hm,List.length_map]
   rw [hzl]at hs3⊢;have HN3:=Lib.hid hN3;have HB3:=Lib.hid (HB2.out.trans (hb.mono HB2.out.size));have HO3:=Lib.hid (HO2.out.below hb);clear hm ho hb hN3 hzl HR hs3 HO2 HB2;obtain ⟨m,HMl⟩:=qaA come.length;have HCL:Hid (come.length=m):=HMl.out;rw [HMl.out]at hc40⊢
   by_cases hE:E=0
   ·subst hE;rw [if_neg (fun h=>h rfl)]at hV;have HV:=Lib.hid hV;have HCZ:=Lib.hid hcz;clear hV hcz HMl;go_wp2_with fail
    go_loopw [8,9,38] (fun ov ev iv wr=> ∃(k:Nat) (xs:List NodP) (ou:List NodeV),k≤m∧iv= .int .i64 k∧ev= .int .i64 0∧Hid (OwnN wr w.heap.size ov xs)∧Hid (xs.map (·.1)=ou)∧Hid (qaO ou=0)∧Hid (undM s.data.toList out0 come=undM s.data.toList ou (come.drop k))∧Hid (Below w.heap.size w wr)∧Hid (Below w3.heap.size w3 wr)) (fun _ _ iv _=>m-(intOf iv).toNat)
    case atStart=>exact ⟨0,xs1,out0,Nat.zero_le _,rfl,rfl,HO3.out,HM1.out,hgo,rfl,HB3.out,Below.refl _ _⟩
    case round=>
     obtain ⟨k,xs,ou,hk,rfl,rfl,HO,HM,HG,HU,HB,HW⟩:=hrel
     by_cases hkm:k<m
     ·have hk1:k<come.length:=by rw [HCL.out];exact hkm
      obtain ⟨b,o,E,cc,rfl,hb1,hSl,hEb,hcl⟩:=HN3.out.cells2 k hk1;obtain ⟨c0,c1',c2',c3',⟨c4,c5,c6,c7,c8,c9,cA⟩,cB⟩:=hcl wr HW.out;have HYZ:=Lib.hid (HCZ.out _ (List.getElem_mem hk1))
      have hUs:undM s.data.toList ou (come.drop k)=if (qdD ou (shM s.data.toList come[k])).2≠0 then ([],(qdD ou (shM s.data.toList come[k])).2)else undM s.data.toList (qdD ou (shM s.data.toList come[k])).1 (come.drop (k+1)):=by
       rw [List.drop_eq_getElem_cons hk1];rfl
      have HUs:=Lib.hid (HU.out.trans hUs);have HEb:=Lib.hid (hEb.below HW.out);generalize hy:come[k]=y at*;have HMv:=Lib.hid fun W=>qwI y E cc s hs4 HYZ.out.2 W;have HYc:Hid (nodC y E cc= [.string (bs y.path),.int .i64 y.kind,.int .i64 y.same,.string (bs y.target),.int .i64 y.md.mode,.int .i64 y.md.uid,.int .i64 y.md.gid,.string (bs y.md.user),.string (bs y.md.group),.int .i64 y.md.second,.int .i64 y.md.nano,.slice E y.data.length cc]):=rfl;rw [HYc.out]at HMv;obtain ⟨x,hx⟩: ∃x,shM s.data.toList y=x:=⟨_,rfl⟩;rw [hx]at HUs HMv;have HXD:Hid (x.data=y.data):=by unfold Hid;rw [←hx];rfl
      have HXZ:Hid (x.sz∧x.path.length≤801):=by
       have q:=HYZ.out
       have e:x.path.length=s.size+1+y.path.length:=by
        rw [←hx];show (s.data.toList++47::y.path).length=_;rw [List.length_append,List.length_cons,qaH];omega
       refine ⟨⟨⟨by omega,?_,?_⟩,?_⟩,by omega⟩
       ·rw [←hx];exact q.1.1.2.1
       ·rw [←hx];exact q.1.1.2.2
       ·rw [←hx];exact q.1.2
      obtain ⟨Ao,co,rfl,hso,hNo⟩:=HO.out.at;rw [HM.out]at hNo;have hol:ou.length=xs.length:=by rw [←HM.out,List.length_map]
      obtain ⟨q,hq⟩:=qaA xs.length;rw [hq.out]at hso hol⊢;have HPl:=Lib.hid fun W (h:Below wr.heap.size wr W)=>qwH Ao q co ou hol hso HG.out x E cc HXZ.out.1 HXZ.out.2 (by rw [HXD.out];exact hSl) W (hNo.below h) (by rw [HXD.out];exact HEb.out.below h);have hU2:(qdD ou x).2=0→qaO (qdD ou x).1=0:=q0G;generalize qdD ou x=U at HPl HUs hU2;obtain ⟨u1,u2⟩:=U;simp only at HPl HUs hU2;clear hy hx hcl hSl hEb hb1 hUs HU HXD HXZ hso hNo hol HYZ HEb HO HM;go_upto_region 13 with fail
      have HBl:=Lib.hid (Blk.new wr 49 #[.string (bs y.path),.int .i64 y.kind,.int .i64 y.same,.string (bs y.target),.int .i64 y.md.mode,.int .i64 y.md.uid,.int .i64 y.md.gid,.string (bs y.md.user),.string (bs y.md.group),.int .i64 y.md.second,.int .i64 y.md.nano,.slice E y.data.length cc]);have HBa:=Lib.hid (qaL (Below.refl wr.heap.size wr) (.cells #[.string (bs y.path),.int .i64 y.kind,.int .i64 y.same,.string (bs y.target),.int .i64 y.md.mode,.int .i64 y.md.uid,.int .i64 y.md.gid,.string (bs y.md.user),.string (bs y.md.group),.int .i64 y.md.second,.int .i64 y.md.nano,.slice E y.data.length cc] 49));generalize hwa:wr.alloc _=wa at HBl HBa⊢;clear hwa c0 c1' c2' c3' c4 c5 c6 c7 c8 c9 cA cB;obtain ⟨⟨e0,e1,e2,e3,e4,e5,e6,e7,e8,e9,eA,eB⟩,-⟩:=qbC HBl.out;go_wp2_with fail;refine (HMv.out wa).mono ?_;rintro e w4 ⟨rfl,hb⟩;have HB4:=Lib.hid (HBa.out.trans (hb.mono HBa.out.size));clear hb e0 e1 e2 e3 e4 e5 e6 e7 e8 e9 eA eB HBl HMv HBa;go_wp2_with fail;refine (HPl.out w4 HB4.out).mono ?_;rintro e w5 ⟨v5,ys,rfl,hm,ho,hb⟩;have HB5:=Lib.hid (HB4.out.trans (hb.mono HB4.out.size));have HW5:=Lib.hid (HW.out.trans (HB5.out.mono HW.out.size));have HBB5:=Lib.hid (HB.out.trans (HB5.out.mono HB.out.size));have HO5:=Lib.hid (ho.mono (Nat.le_trans HB.out.size HB4.out.size));have HM5:=Lib.hid hm;clear hm ho hb HPl HB4 HB5
      by_cases hu:u2=0
      ·subst hu;rw [if_neg (fun h=>h rfl)]at HUs;have HT5:=Lib.hid (hU2 rfl);clear hU2;go_wp2_with fail;go_roundw
       case rel=>exact ⟨k+1,ys,u1,by omega,by go_num,rfl,HO5.out,HM5.out,HT5.out,HUs.out,HBB5.out,HW5.out⟩
       case measure=>simp [intOf];omega
      ·rw [if_pos hu]at HUs;have hne:(u2 !=0)=true:=by simpa using hu
       have HVe:Hid (undR l s.data.toList b0v=([],u2)):=by
        unfold Hid;rw [HV.out,HUs.out,if_pos hu]
       clear hU2 hu;go_wp2_with fail;go_ret2;exact ⟨_, [],by rw [HVe.out];rfl,by rw [HVe.out];rfl,OwnN.nil _ _,HBB5.out⟩
     ·obtain rfl:k=m:=by omega
      have hUe:undM s.data.toList out0 come=(ou,0):=by
       have h:=HU.out;rw [List.drop_eq_nil_of_le (by rw [HCL.out];exact Nat.le_refl _)]at h;exact h
      have HVe:Hid (undR l s.data.toList b0v=(qa8 ou,0)):=by
       unfold Hid;rw [HV.out,hUe,if_neg (fun h=>h rfl)]
      obtain ⟨Ao,co,rfl,hso,hNo⟩:=HO.out.at;rw [HM.out]at hNo;have hol:ou.length=xs.length:=by rw [←HM.out,List.length_map]
      have hoz: ∀z∈ou,z.sz:=fun z hz=>qiF (((qaT ou).1 HG.out).2.node z hz);have HL:=Lib.hid (quI Ao xs.length co ou hol hso hoz wr hNo);rw [HG.out,if_pos rfl]at HL;obtain ⟨q,hq⟩:=qaA xs.length;rw [hq.out]at HL⊢;clear hUe hso hNo hol hoz;go_wp2_with fail;refine HL.out.mono ?_;rintro e w6 ⟨v6,zs6,rfl,hm6,ho6,hb6⟩;have HO6:=Lib.hid (ho6.mono HB.out.size);have HM6:=Lib.hid hm6;have HB6:=Lib.hid (HB.out.trans (hb6.mono HB.out.size));clear ho6 hm6 hb6 HL;go_wp2_with fail;go_ret2;exact ⟨_,zs6,by rw [HVe.out];rfl,by rw [HVe.out];exact HM6.out,HO6.out,HB6.out⟩
   ·rw [if_pos hE]at hV;have HV:=Lib.hid hV;have hne:(E !=0)=true:=by simpa using hE
    clear hV hE hcz;go_wp2_with fail;go_ret2;exact ⟨_, [],by rw [HV.out];rfl,by rw [HV.out];rfl,OwnN.nil _ _,HB3.out⟩
  ·rw [if_pos hd]at hV;have HV:=Lib.hid hV;have hne:(dv !=0)=true:=by simpa using hd
   clear hV hd hdl hcz hc40 HR;go_enter Tryz.func12,Tryz.ntmps12;go_wp2_with fail;refine H1.out.mono ?_;rintro e w1 ⟨v1,xs1,rfl,hm,ho,hb⟩;have HB1:=Lib.hid hb;obtain ⟨A1,c1,rfl,-,hN1⟩:=ho.at;rw [hm]at hN1;have hxl:xs1.length=n:=by rw [←HLn.out,←hm,List.length_map]
   have HD1:=Lib.hid (HDr.out A1 c1 w1 hN1);rw [hxl];clear hm ho hb hN1 hxl H1 HDr;go_wp2_with fail;refine HD1.out.mono ?_;rintro e w2 ⟨rfl,hb⟩;have HB2:=Lib.hid (HB1.out.trans (hb.mono HB1.out.size));clear hb HD1 HB1;go_wp2_with fail;go_ret2;exact ⟨_, [],by rw [HV.out];rfl,by rw [HV.out];rfl,OwnN.nil _ _,HB2.out⟩
 ·have HV:=Lib.hid (q87 (dir:=s.data.toList) (b:=b0v) h0);have h1:(qaO l !=0)=true:=by simpa using h0
  rw [if_neg h0]at H1;generalize qaO l=t at*;clear h0 hA hn hc hsz hB hs hnb hnb2 hcb S;go_enter Tryz.func12,Tryz.ntmps12;go_wp2_with fail;refine H1.out.mono ?_;rintro e w1 ⟨v1,xs1,rfl,hm,ho,hb⟩;obtain ⟨A1,c1,rfl,-,-⟩:=ho.at;have HB1:=Lib.hid hb;obtain ⟨q,hq⟩:=qaA xs1.length;rw [hq.out];clear hm ho hb H1;go_wp2_with fail;go_ret2;exact ⟨_, [],by rw [HV.out];rfl,by rw [HV.out];rfl,OwnN.nil _ _,HB1.out⟩
theorem qwJ {w:World} {B:Nat} {ys:List qa3} (h: ∀y∈ys,Dat w B y.2 y.1.data∧Fits y.1):encC ys=rowN (ys.map fun y=>((y.1,.slice (adr y.2.1) y.2.2.1 y.2.2.2):NodP)):=by
 induction ys with
 |nil=>rfl
 |cons y ys ih=>
  have hy:=h y List.mem_cons_self;have hk:keyL y=y.1.path:=List.take_of_length_le hy.2.1
  have e:encN y=nodV y.1 (.slice (adr y.2.1) y.2.2.1 y.2.2.2):=by
   unfold encN nodV;rw [hk];rfl
  show encN y++encC ys=_;rw [e,ih fun z hz=>h z (List.mem_cons_of_mem _ hz)]
  rfl
theorem q7M (A:Option Addr) (n c:Nat) (rs:List RawV) (hn:rs.length=n) (hn2:n≤140737488355328) (hwf: ∀r∈rs,r.wf) (m:Nat) (hm:m≤1000) (w:World) (hA:qd6 w A rs):
  Calls Tryz.prog 19 #[.slice A n c,.int .i64 m] w fun e w'=> ∃(v:Value) (xs:List NodP),e= .returned v∧(xs.map (·.1)).Perm (qcI m rs).1∧RowN w' w.heap.size v xs∧(∀x∈xs,∃d:Option Nat×Nat×Nat,x.2= .slice (adr d.1) d.2.1 d.2.2∧Dat w' w.heap.size d x.1.data)∧xs.length≤m∧Sound (xs.map (·.1))∧Below w.heap.size w w':=
 (qzX A n c rs hn hn2 hwf m hm w hA).mono fun e w' ⟨v,ys,he,ho⟩=>by
  obtain ⟨h1,h2,h3,h4,h5⟩:=ho;have hmp:((ys.map fun y=>((y.1,.slice (adr y.2.1) y.2.2.1 y.2.2.2):NodP)).map fun x=>x.1)=ys.map fun y=>y.1:=by rw [List.map_map];rfl
  obtain ⟨g1,g2⟩:=qn7 h2 (fun i j hi hj=>by
   rw [List.getElem_map,List.getElem_map]
   exact h3 i j hi (by simpa using hj))
  refine ⟨v,ys.map fun y=>((y.1,.slice (adr y.2.1) y.2.2.1 y.2.2.2):NodP),he,by rw [hmp];exact h2,?_,fun x hx=> ?_,?_,by rw [hmp];exact g2,h5⟩
  ·unfold RowN;rw [←qwJ h4,List.length_map];exact h1
  ·obtain ⟨y,hy,rfl⟩:=List.mem_map.1 hx;exact ⟨y.2,rfl,(h4 y hy).1⟩
  ·rw [List.length_map];rw [List.length_map]at g1;exact g1
theorem Dat.push {w w3:World} {B B':Nat} {v:Value} {xs:List NodP} {d:Option Nat×Nat×Nat} {l:List UInt8} {o:Obj} (h:Dat w B d l) (hR:RowN (w.alloc o) B' v xs) (hg:(w.alloc o).grownBy w3 v.ownBlock):Dat w3 B d l:=
 h.keep fun g cur fr hq=>by
  have hlt:g<w.heap.size:=by
   rcases Nat.lt_or_ge g w.heap.size with h1|h1
   ·exact h1
   ·rw [Array.getElem?_eq_none h1]at hq;cases hq
  have h1:(w.alloc o).heap[g]?=some (.cells cur 5 fr):=(Below.heap_alloc w o g hlt).trans hq
  have h2:some g≠v.ownBlock:=fun e=>by
   obtain ⟨-,cur',hc⟩:=qa2 hR g e.symm;rw [h1]at hc;injection hc with hc
   injection hc with _ hc _
   exact absurd hc (by decide)
  exact (hg.block g (by rw [hszA];omega) h2).trans h1
theorem Dat.dok {w:World} {B:Nat} {d:Option Nat×Nat×Nat} {l:List UInt8} (h:Dat w B d l):qcZ w (.slice (adr d.1) d.2.1 d.2.2) l:=⟨adr d.1,d.2.2,by rw [h.1],h.byts.1,h.byts.2⟩
theorem zcQ (a b:List UInt8):bs a++bs b=bs (a++b):=by
 apply ByteArray.ext;simp [bs,ByteArray.data_append]
theorem q5O (x:MetaV):metB x x=true:=by
 unfold metB;simp
set_option maxHeartbeats 16000000 in
theorem qkZ (A0:Option Addr) (n0 c0:Nat) (rs0:List RawV) (A1:Option Addr) (n1 c1:Nat) (rs1:List RawV) (hn0:rs0.length=n0) (hm0:n0≤140737488355328) (hf0: ∀r∈rs0,r.wf) (hn1:rs1.length=n1) (hm1:n1≤140737488355328) (hf1: ∀r∈rs1,r.wf) (w:World) (hr0:qd6 w A0 rs0) (hr1:qd6 w A1 rs1) (hL:laidMetH Tryz.prog Rows.restoreUnderRow.laid w):
  Calls Tryz.prog 8 #[.slice A0 n0 c0,.slice A1 n1 c1] w fun e w'=>e= .returned (.bool true)∧Below w.heap.size w w':=by
 have S:Std w:=qh9 hL (by kernel_rfl) (by simp [Rows.restoreUnderRow]) (by simp [Rows.restoreUnderRow]) (by simp [Rows.restoreUnderRow]);have HD0:=Lib.hid (q7M A0 n0 c0 rs0 hn0 hm0 hf0 12 (by omega) w hr0);have HE1:=Lib.hid fun W (h:Below w.heap.size w W)=>qn2 A1 n1 c1 rs1 hn1 hm1 hf1 12 (by omega) W (hr1.below h);have HD1:=Lib.hid fun W (h:Below w.heap.size w W)=>qjP A1 n1 c1 rs1 hn1 hm1 hf1 12 (by omega) W (hr1.below h);simp only [show ((12:Nat):Int)=12 from rfl]at HD0 HE1 HD1;clear hn0 hm0 hf0 hn1 hm1 hf1 hr0 hr1 hL;go_enter Tryz.func8,Tryz.ntmps8;go_wp2_with fail;refine HD0.out.mono ?_;rintro e w1 ⟨v1,xs1,rfl,hp1,hR1,hD1,hl1,hS1,hb⟩;have hh1: ∀x∈xs1.map (·.1),qcS x.path=true:=fun x hx=>q2H 12 rs0 x (hp1.mem_iff.1 hx);have HB1:=Lib.hid hb;have HR1:=Lib.hid hR1;have HDa:=Lib.hid hD1;clear hb hR1 hD1 hp1 HD0;go_wp2_with (at_builtin;refine Stay.go ?_);refine Stay.on ?_;refine qcH rfl (.tmp 20) (.tmp 22) rfl w.heap.size _ xs1 rfl (HR1.out.alloc _) (some ⟨w1.heap.size,0,none⟩) 1 1 [(qbI,.slice none 0 0)] rfl rfl (qg9 w1 (qbI,.slice none 0 0)) (by simp [Value.oneCell']) (fun e=>by cases e) (by omega) (by simp;have:=HB1.out.size;omega) ?_;intro v3 w3 ho3 hg3;have hB3:Below w.heap.size w w3:=(HB1.out.alloc HB1.out.size _).grown hg3 (by rw [hszA];have:=HB1.out.size;omega) HR1.out.above
 have hD3: ∀y∈xs1++ [((qbI,.slice none 0 0):NodP)],qcZ w3 y.2 y.1.data:=fun y hy=>by
  rcases List.mem_append.1 hy with a|a
  ·obtain ⟨d,e,hd⟩:=HDa.out y a;rw [e];exact (hd.push (HR1.out.alloc _) hg3).dok
  ·obtain rfl:y=(qbI,.slice none 0 0):=by simpa using a
   exact ⟨none,0,rfl,⟨Nat.le_refl _,by decide,fun _=>rfl⟩,qaE.nil _ _⟩
 obtain ⟨A3,c3,rfl,hs3,hN3⟩:=ho3.at hD3;have hmp:(xs1++ [((qbI,.slice none 0 0):NodP)]).map (·.1)=xs1.map (·.1)++ [qbI]:=by rw [List.map_append];rfl
 rw [hmp]at hN3;have hll:(xs1.map (·.1)).length=xs1.length:=List.length_map ..;generalize xs1.map (·.1)=l at hS1 hh1 hN3 hll;obtain ⟨p,hp⟩:=qaA xs1.length;rw [hp.out]at hll hl1;have hpl:(xs1++ [((qbI,.slice none 0 0):NodP)]).length=p+1:=by rw [List.length_append,hp.out];rfl
 rw [hpl]at hs3⊢;have htl:(l++ [qbI]).length=p+1:=by rw [List.length_append,hll];rfl
 have HB3:=Lib.hid hB3;have HN3:=Lib.hid hN3;have HS3:=Lib.hid hs3;have HSl:=Lib.hid hS1;have HHl:=Lib.hid hh1;have HLl:=Lib.hid hll;have HTl:=Lib.hid htl;have H4:=Lib.hid (HE1.out w3 hB3);clear hB3 hN3 hs3 hS1 hh1 hll htl hpl ho3 hg3 hD3 hmp HR1 HDa HB1 HE1;go_wp2_with fail;refine H4.out.mono ?_;rintro e x1 ⟨lm,T1,k,d,rfl,hk,hS,hN,hkm,hperm,hSo,hB⟩;have hE:qbJ (qaM lm)=0:=qgR hSo (by omega);have hplm:(qaM lm).length=k:=by rw [qaQ];exact hk
 have H5:=Lib.hid (qmA T1 k d (qaM lm) hplm hS (fun x hx=>qpK (qc1 hE x hx)) x1 (S.tab.below (HB3.out.trans (hB.mono HB3.out.size))) hN);rw [hE]at H5;have hlim:=qsU hE;obtain ⟨hval1,hval2⟩:=q3B HSl.out HHl.out (by rw [HLl.out];omega) hSo (by omega);obtain ⟨nb,hnb⟩: ∃nb,(arcE (qaM lm)).length=nb:=⟨_,rfl⟩;have htz: ∀x∈l++ [qbI],x.sz:=fun x hx=>qiF ((qkJ HSl.out HHl.out).node x hx);have HU:=Lib.hid fun (A:Option Addr) (c:Nat) (W:World) hc SW hA hB=>qtP A3 (p+1) c3 (l++ [qbI]) HTl.out HS3.out htz (bs [255]) (by decide) A nb c (arcE (qaM lm)) hnb (by omega) hc W SW hA hB;rw [qaF]at HU;have HNB:=Lib.hid hnb;have HB4:=Lib.hid (HB3.out.trans (hB.mono HB3.out.size));have HX4:=Lib.hid hB;have HSo:=Lib.hid hSo;have HPl:Hid (∀j (hj:j<lm.length),lm[j].path.length≤400):=fun j hj=>qe1 (hSo.node _ (List.getElem_mem hj));have HPm:=Lib.hid hperm;have HK:=Lib.hid hk;generalize arcE (qaM lm)=AB at*;clear hk hS hN hkm hE hB hnb hlim hSo hperm hplm htz H4;go_wp2_with fail;refine H5.out.mono ?_;rintro e x2 ⟨v2,rfl,ho,hb⟩;obtain ⟨A2,c2,rfl,hs2,ha2⟩:=ho.form;rw [HNB.out]at hs2⊢;have HB5:=Lib.hid (HB4.out.trans (hb.mono HB4.out.size));have HX5:=Lib.hid (HX4.out.trans (hb.mono HX4.out.size));have H6:=Lib.hid (HU.out A2 c2 x2 hs2 (S.below HB5.out) (HN3.out.below HX5.out) ha2);clear ho hb hs2 ha2 H5 HU HB4 HX4
 by_cases hlong: ∃x∈lm,398<x.path.length
 ·have hv:=hval2 hlong;rw [hv]at H6;have HLg:=Lib.hid hlong;clear hval1 hval2 hv hlong;go_wp2_with fail;refine H6.out.mono ?_;rintro e x3 ⟨v5,zs,rfl,hm,ho,hb⟩;obtain ⟨A5,c5,rfl,-,-⟩:=ho.at;have HB6:=Lib.hid (HB5.out.trans (hb.mono HB5.out.size));obtain ⟨nz,hnz⟩:=qaA zs.length;rw [hnz.out];have H7:=Lib.hid (HD1.out x3 HB6.out);clear hm ho hb H6 HB5 HX5 HD1;go_wp2_with fail;refine H7.out.mono ?_;rintro e x4 ⟨l2,T4,k4,d4,rfl,hk4,hp4,hS4,hN4,hkm4,hSo4,hsz4,hb⟩;obtain rfl:l2=lm:=qhI hSo4.rises HSo.out.rises (hp4.trans HPm.out.symm);obtain rfl:k4=k:=by rw [←hk4,HK.out]
  have HB7:=Lib.hid (HB6.out.trans (hb.mono HB6.out.size));have HN7:=Lib.hid hN4;clear hk4 hp4 hS4 hN4 hSo4 hsz4 hb H7 HB6;go_wp2_with fail
  go_loopw [49] (fun iv wr=> ∃i:Nat,iv= .int .i64 (i:Int)∧i≤k4∧Hid (∀j (hj:j<l2.length),j<i→ ¬398<l2[j].path.length)∧Hid (Below x4.heap.size x4 wr)) (fun iv _=>k4-(intOf iv).toNat)
  case atStart=>exact ⟨0,rfl,Nat.zero_le _,fun j hj h=>absurd h (Nat.not_lt_zero j),Below.refl _ _⟩
  case round=>
   obtain ⟨i,rfl,hi,HI,HW⟩:=hrel
   by_cases hik:i<k4
   ·have hil:i<l2.length:=by rw [HK.out];exact hik
    obtain ⟨b,o,E,cc,rfl,-,-,-,hcl⟩:=HN7.out.cells2 i hil;obtain ⟨q0,q1,q2,q3,⟨q4,q5,q6,q7,q8,q9,qA⟩,qB⟩:=hcl wr HW.out;have hsz:(bs l2[i].path).size=l2[i].path.length:=qaC _
    have HIx:Hid (¬398<l2[i].path.length→ ∀j (hj:j<l2.length),j<i+1→ ¬398<l2[j].path.length):=fun h j hj hji=>by
     rcases Nat.lt_or_eq_of_le (Nat.le_of_lt_succ hji)with h'|h'
     ·exact HI.out j hj h'
     ·subst h';exact h
    have HBa:=Lib.hid fun o=>HW.out.alloc HW.out.size o;generalize hy:l2[i]=y at*;obtain ⟨Q,hQ⟩:=qaA (bs y.path);rw [hQ.out]at q0 hsz;clear hy hcl
    by_cases hlg:398<y.path.length
    ·have hg1:(398:Int)<(Q.size:Int):=by omega
     clear HIx;go_wp2_with fail;go_ret;exact ⟨rfl,HB7.out.trans ((HBa.out _).mono HB7.out.size)⟩
    ·have hg1: ¬(398:Int)<(Q.size:Int):=by omega
     have HI2:=Lib.hid (HIx.out hlg);clear HIx;go_wp2_with fail;go_roundw
     case rel=>exact ⟨i+1,by go_num,by omega,HI2.out,HBa.out _⟩
     case measure=>simp [intOf];omega
   ·exfalso;obtain ⟨x,hx,hx2⟩:=HLg.out;obtain ⟨j,hj,rfl⟩:=List.getElem_of_mem hx;exact HI.out j hj (by have:=HK.out;omega) hx2
 ·have hsh: ∀x∈lm,x.path.length≤398:=fun x hx=>by
   apply Classical.byContradiction;intro h;exact hlong ⟨x,hx,by omega⟩
  have hv:=hval1 hsh;rw [hv]at H6;have hgl:(qa9 (qaM lm)).length=k:=by rw [qa7,qaQ];exact HK.out
  have hFl:=qqW l (qa9 (qaM lm));rw [HLl.out,hgl]at hFl;have HAt:=Lib.hid fun i hi=>q84 l (qa9 (qaM lm)) i hi;have HMo:=Lib.hid fun i hi=>qz4 l HSo.out i hi;rw [HLl.out]at HMo;generalize undF l (qa9 (qaM lm))=F at H6 hFl HAt HMo;have HFl:=Lib.hid hFl;have HSh:=Lib.hid hsh;clear hval1 hval2 hv hlong hsh hgl;go_wp2_with fail;refine H6.out.mono ?_;rintro e x3 ⟨v5,zs,rfl,hm,ho,hb⟩;obtain ⟨A5,c5,rfl,hs5,hN5⟩:=qwN ho hm;rw [hFl]at hs5⊢;have HB6:=Lib.hid (HB5.out.trans (hb.mono HB5.out.size));have HX6:=Lib.hid (HX5.out.trans (hb.mono HX5.out.size));have HN5:=Lib.hid hN5;have H7:=Lib.hid (HD1.out x3 HB6.out);have HDa:=Lib.hid fun W (h:Below w.heap.size w W)=>HD1.out W h;clear hm ho hb hN5 hs5 hFl H6 HB5 HX5;go_wp2_with fail;refine H7.out.mono ?_;rintro e x4 ⟨l2,T4,k4,d4,rfl,hk4,hp4,hS4,hN4,hkm4,hSo4,hsz4,hb⟩;obtain rfl:l2=lm:=qhI hSo4.rises HSo.out.rises (hp4.trans HPm.out.symm);obtain rfl:k4=k:=by rw [←hk4,HK.out]
  have HB7:=Lib.hid (HB6.out.trans (hb.mono HB6.out.size));have HX7:=Lib.hid (HX6.out.trans (hb.mono HX6.out.size));have HN6:=Lib.hid (HN5.out.below hb);have HN7:=Lib.hid hN4;clear hk4 hp4 hS4 hN4 hSo4 hsz4 hb H7 HB6 HX6 HN5;go_wp2_with fail
  go_loopw [49] (fun iv wr=> ∃i:Nat,iv= .int .i64 (i:Int)∧i≤k4∧Hid (Below x4.heap.size x4 wr)) (fun iv _=>k4-(intOf iv).toNat)
  case atStart=>exact ⟨0,rfl,Nat.zero_le _,Below.refl _ _⟩
  case round=>
   obtain ⟨i,rfl,hi,HW⟩:=hrel
   by_cases hik:i<k4
   ·have hil:i<l2.length:=by rw [HK.out];exact hik
    obtain ⟨b,o,E,cc,rfl,-,-,-,hcl⟩:=HN7.out.cells2 i hil;obtain ⟨q0,q1,q2,q3,⟨q4,q5,q6,q7,q8,q9,qA⟩,qB⟩:=hcl wr HW.out;have hsz:(bs l2[i].path).size=l2[i].path.length:=qaC _;have hshy:=HSh.out _ (List.getElem_mem hil);have HBa:=Lib.hid fun o=>HW.out.alloc HW.out.size o;generalize hy:l2[i]=y at*;obtain ⟨Q,hQ⟩:=qaA (bs y.path);rw [hQ.out]at q0 hsz;clear hy hcl;have hg1: ¬(398:Int)<(Q.size:Int):=by omega
    go_wp2_with fail;go_roundw
    case rel=>exact ⟨i+1,by go_num,by omega,HBa.out _⟩
    case measure=>simp [intOf];omega
   ·obtain rfl:i=k4:=by omega
    have HBr:=Lib.hid (HB7.out.trans (HW.out.mono HB7.out.size));have HXr:=Lib.hid (HX7.out.trans (HW.out.mono HX7.out.size));have HNr:=Lib.hid (HN6.out.below HW.out);have wl:IntKind.i64.wrap (((p+1:Nat):Int)+(i:Int))=((p+1+i:Nat):Int):=by rw [IntKind.wrap_i64];omega
    clear HN6 HN7 HX7;go_wp2_with fail;rename World=>x5
    go_loopw [74] (fun iv wz=> ∃j:Nat,iv= .int .i64 (j:Int)∧j≤p+1∧Hid (Below x5.heap.size x5 wz)) (fun iv _=>p+1-(intOf iv).toNat)
    case atStart=>exact ⟨0,rfl,Nat.zero_le _,Below.refl _ _⟩
    case round=>
     obtain ⟨j,rfl,hj,HV⟩:=hrel
     by_cases hjp:j<p+1
     ·have hjt:j<(l++ [qbI]).length:=by rw [HTl.out];exact hjp
      obtain ⟨hjF,hA1,hA2,hA3⟩:=HAt.out j hjt;obtain ⟨b,o,E,cc,rfl,-,hSl,hE,hcl⟩:=HN3.out.cells2 j hjt;obtain ⟨q0,q1,q2,q3,⟨q4,q5,q6,q7,q8,q9,qA⟩,qB⟩:=hcl wr (HXr.out.trans (HV.out.mono HXr.out.size));obtain ⟨b5,o5,D5,cc5,rfl,-,hS5,hE5,hc5⟩:=HNr.out.cells2 j hjF;rw [hA1,hA2,hA3]at hc5;rw [hA3]at hS5 hE5;have hE2:=hE.below (HXr.out.trans (HV.out.mono HXr.out.size));have hE6:=hE5.below HV.out;have HC5:=Lib.hid hc5;generalize (l++ [qbI])[j]=y at*;obtain ⟨Q,hQ⟩:=qaA (bs y.path);obtain ⟨DD,hDD⟩:=qaA (bs y.data);obtain ⟨tg,hT⟩:=qaA (bs y.target);obtain ⟨us,hUs⟩:=qaA (bs y.md.user);obtain ⟨gs,hGs⟩:=qaA (bs y.md.group);rw [hQ.out]at q0 HC5;rw [hT.out]at q3;rw [hUs.out]at q7;rw [hGs.out]at q8;have HE2:=Lib.hid hE2;have HE6:=Lib.hid hE6;have hn1:E=none→y.data= []:=fun e=>by subst e;exact hE2.none_nil
      have hn2:D5=none→y.data= []:=fun e=>by subst e;exact hE6.none_nil
      have HK1:=Lib.hid fun W (h:Below wr.heap.size wr W)=>(HE2.out.below h).convD cc hn1;have HK2:=Lib.hid fun W (h:Below wr.heap.size wr W)=>(HE6.out.below h).convD cc5 hn2;rw [hDD.out]at HK1 HK2;obtain ⟨dl,hdl⟩:=qaA y.data.length;rw [hdl.out]at qB HC5 HK1 HK2;clear hcl hSl hE hS5 hE5 hc5 hE2 hE6 hn1 hn2 hA1 hA2 hA3 HE2 HE6;go_upto_region 18 with fail
      have HBl:=Lib.hid (Blk.new wr 49 #[.string Q,.int .i64 y.kind,.int .i64 y.same,.string tg,.int .i64 y.md.mode,.int .i64 y.md.uid,.int .i64 y.md.gid,.string us,.string gs,.int .i64 y.md.second,.int .i64 y.md.nano,.slice E dl cc]);have HBa:=Lib.hid ((Below.refl wr.heap.size wr).alloc (Nat.le_refl _) (.cells #[.string Q,.int .i64 y.kind,.int .i64 y.same,.string tg,.int .i64 y.md.mode,.int .i64 y.md.uid,.int .i64 y.md.gid,.string us,.string gs,.int .i64 y.md.second,.int .i64 y.md.nano,.slice E dl cc] 49));generalize hwa:wr.alloc _=wa at HBl HBa⊢;have HVa:=Lib.hid (HV.out.trans (HBa.out.mono HV.out.size));clear hwa q0 q1 q2 q3 q4 q5 q6 q7 q8 q9 qA qB
      go_cut [108] (fun v wx=>v= .bool false∧Below wa.heap.size wa wx)
      case first=>
       obtain ⟨⟨e0,e1,e2,e3,e4,e5,e6,e7,e8,e9,eA,eB⟩,-⟩:=qbC HBl.out;obtain ⟨u0,u1,u2,u3,⟨u4,u5,u6,u7,u8,u9,uA⟩,uB⟩:=HC5.out wa HVa.out;have k1:=HK1.out wa HBa.out;have k2:=HK2.out wa HBa.out;have hqn:(Q.toList !=Q.toList)=false:=by simp
       have hdn:(DD.toList !=DD.toList)=false:=by simp
       have hkn:(y.kind !=y.kind)=false:=by simp
       have hj0:(0:Int)≤(j:Int):=by omega
       have hjk:(j:Int)<((p+1+i:Nat):Int):=by omega
       clear HK1 HK2 HC5;go_quiet (fail);go_wp2_with fail;go_meet;exact ⟨rfl,below_drewN (Below.refl _ _) _⟩
      case rest=>
       obtain ⟨rfl,hb⟩:=hcut;have HVx:=Lib.hid (HVa.out.trans (hb.mono HVa.out.size));clear hb HK1 HK2 HC5;go_wp2_with fail;go_roundw
       case rel=>exact ⟨j+1,by go_num,by omega,HVx.out⟩
       case measure=>simp [intOf];omega
     ·obtain rfl:j=p+1:=by omega
      have HBs:=Lib.hid (HBr.out.trans (HV.out.mono HBr.out.size));have HNs:=Lib.hid (HNr.out.below HV.out);have H8:=Lib.hid (HDa.out _ HBs.out);clear HNr HXr HBr HV;go_wp2_with fail;refine H8.out.mono ?_;rintro e x6 ⟨l6,T6,k6,d6,rfl,hk6,hp6,hS6,hN6,hkm6,hSo6,hsz6,hb⟩;obtain rfl:l6=l2:=qhI hSo6.rises HSo.out.rises (hp6.trans HPm.out.symm);obtain rfl:k6=i:=by rw [←hk6,HK.out]
      have HB9:=Lib.hid (HBs.out.trans (hb.mono HBs.out.size));have HN9:=Lib.hid hN6;have HF9:=Lib.hid (HNs.out.below hb);clear hk6 hp6 hS6 hN6 hSo6 hsz6 hb H8 HBs HNs;go_wp2_with fail;rename World=>x7
      go_loopw [113] (fun iv wz=> ∃j:Nat,iv= .int .i64 (j:Int)∧j≤k6∧Hid (Below x7.heap.size x7 wz)) (fun iv _=>k6-(intOf iv).toNat)
      case atStart=>exact ⟨0,rfl,Nat.zero_le _,Below.refl _ _⟩
      case round=>
       obtain ⟨j,rfl,hj,HV⟩:=hrel
       by_cases hjp:j<k6
       ·have hjl:j<l6.length:=by rw [HK.out];exact hjp
        obtain ⟨hjF,hA1,hA2,hA3,hA4⟩:=HMo.out j hjl;obtain ⟨b,o,E,cc,rfl,-,hSl,hE,hcl⟩:=HN9.out.cells2 j hjl;obtain ⟨q0,q1,q2,q3,⟨q4,q5,q6,q7,q8,q9,qA⟩,qB⟩:=hcl wr HV.out;obtain ⟨b5,o5,D5,cc5,rfl,-,hS5,hE5,hc5⟩:=HF9.out.cells2 (p+1+j) hjF;rw [hA1,hA2,hA3,hA4]at hc5;rw [hA4]at hS5 hE5;have hE2:=hE.below HV.out;have hE6:=hE5.below HV.out;have HC5:=Lib.hid hc5;obtain ⟨tz,htz⟩:=qaA (bs (F[p+1+j]'hjF).target);obtain ⟨sz,hsz⟩:=qaA (F[p+1+j]'hjF).same;rw [htz.out,hsz.out]at HC5;have hPy:=HPl.out j hjl;generalize l6[j]=y at*;have hmn:=qy0 y.md y.md;rw [q5O]at hmn;unfold metA at hmn;obtain ⟨Q,hQ⟩:=qaA (bs y.path);obtain ⟨DD,hDD⟩:=qaA (bs y.data);obtain ⟨tg,hT⟩:=qaA (bs y.target);obtain ⟨us,hUs⟩:=qaA (bs y.md.user);obtain ⟨gs,hGs⟩:=qaA (bs y.md.group);obtain ⟨PP,hPP⟩:=qaA (bs ([255,47]++y.path));have hadd:(⟨#[255,47]⟩:ByteArray)++Q=PP:=by rw [←hQ.out,←hPP.out];exact zcQ [255,47] y.path
        have hQl:Q.size≤400:=by rw [←hQ.out,qaC];exact hPy
        have p1:=qv5 hadd (by show 2+_≤_;omega);rw [hQ.out]at q0;rw [hPP.out,hUs.out,hGs.out]at HC5;rw [hT.out]at q3;rw [hUs.out]at q7 hmn;rw [hGs.out]at q8 hmn;have HE2:=Lib.hid hE2;have HE6:=Lib.hid hE6;have hn1:E=none→y.data= []:=fun e=>by subst e;exact hE2.none_nil
        have hn2:D5=none→y.data= []:=fun e=>by subst e;exact hE6.none_nil
        have HK1:=Lib.hid fun W (h:Below wr.heap.size wr W)=>(HE2.out.below h).conv cc hn1;have HK2:=Lib.hid fun W (h:Below wr.heap.size wr W)=>(HE6.out.below h).conv cc5 hn2;rw [hDD.out]at HK1 HK2;obtain ⟨dl,hdl⟩:=qaA y.data.length;rw [hdl.out]at qB HC5 HK1 HK2;have wj:IntKind.i64.wrap (((p+1:Nat):Int)+(j:Int))=((p+1+j:Nat):Int):=by rw [IntKind.wrap_i64];omega
        have hj0:(0:Int)≤((p+1+j:Nat):Int):=by omega
        have hjk:((p+1+j:Nat):Int)<((p+1+k6:Nat):Int):=by omega
        clear hcl hSl hE hS5 hE5 hc5 hE2 hE6 hn1 hn2 hA1 hA2 hA3 hA4 HE2 HE6 hadd hQl;go_upto_region 24 with fail
        have HBl:=Lib.hid (Blk.new wr 49 #[.string Q,.int .i64 y.kind,.int .i64 y.same,.string tg,.int .i64 y.md.mode,.int .i64 y.md.uid,.int .i64 y.md.gid,.string us,.string gs,.int .i64 y.md.second,.int .i64 y.md.nano,.slice E dl cc]);have HBa:=Lib.hid ((Below.refl wr.heap.size wr).alloc (Nat.le_refl _) (.cells #[.string Q,.int .i64 y.kind,.int .i64 y.same,.string tg,.int .i64 y.md.mode,.int .i64 y.md.uid,.int .i64 y.md.gid,.string us,.string gs,.int .i64 y.md.second,.int .i64 y.md.nano,.slice E dl cc] 49));generalize hwa:wr.alloc _=wa at HBl HBa⊢;have HVa:=Lib.hid (HV.out.trans (HBa.out.mono HV.out.size));clear hwa q0 q1 q2 q3 q4 q5 q6 q7 q8 q9 qA qB;obtain ⟨u0,u1,u2,u3,⟨u4,u5,u6,u7,u8,u9,uA⟩,uB⟩:=HC5.out wa HVa.out;go_upto_region 25 with fail
        clear u0 u1 u2 u3 u4 u5 u6 u7 u8 u9 uA uB;have HYl:=Lib.hid (Blk.new wa 49 #[.string PP,.int .i64 y.kind,.int .i64 sz,.string tz,.int .i64 y.md.mode,.int .i64 y.md.uid,.int .i64 y.md.gid,.string us,.string gs,.int .i64 y.md.second,.int .i64 y.md.nano,.slice D5 dl cc5]);have HBb:=Lib.hid ((Below.refl wa.heap.size wa).alloc (Nat.le_refl _) (.cells #[.string PP,.int .i64 y.kind,.int .i64 sz,.string tz,.int .i64 y.md.mode,.int .i64 y.md.uid,.int .i64 y.md.gid,.string us,.string gs,.int .i64 y.md.second,.int .i64 y.md.nano,.slice D5 dl cc5] 49));generalize hwb:wa.alloc _=wb at HYl HBb⊢;have HBl2:=Lib.hid (HBl.out.below HBb.out HBl.out.lt);have HVb:=Lib.hid (HVa.out.trans (HBb.out.mono HVa.out.size));have HB2:=Lib.hid (HBa.out.trans (HBb.out.mono HBa.out.size));obtain ⟨⟨e0,e1,e2,e3,e4,e5,e6,e7,e8,e9,eA,eB⟩,-⟩:=qbC HBl2.out;obtain ⟨⟨f0,f1,f2,f3,f4,f5,f6,f7,f8,f9,fA,fB⟩,-⟩:=qbC HYl.out;have k1:=HK1.out wb HB2.out;have k2:=HK2.out wb HB2.out;have hqn:(PP.toList !=PP.toList)=false:=by simp
        have hdn:(DD.toList !=DD.toList)=false:=by simp
        have hkn:(y.kind !=y.kind)=false:=by simp
        clear hwb HK1 HK2 HC5;go_wp2_with fail;go_roundw
        case rel=>exact ⟨j+1,by go_num,by omega,HVb.out⟩
        case measure=>simp [intOf];omega
       ·obtain rfl:j=k6:=by omega
        have HBe:=Lib.hid (HB9.out.trans (HV.out.mono HB9.out.size));go_wp2_with fail;go_ret;exact ⟨rfl,HBe.out⟩
end Go.Proofs.YtapgoifimhnbdaaGreatDoor
