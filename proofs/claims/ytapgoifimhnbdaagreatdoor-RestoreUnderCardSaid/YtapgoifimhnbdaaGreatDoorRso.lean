/- qaX of one kind, in one file: ResN, ResO, LnkK, ResV, ResX. -/
import Derived.Test.YtapgoifimhnbdaaGreatDoorRsp
import Derived.Test.YtapgoifimhnbdaaGreatDoorMth
import Derived.Test.YtapgoifimhnbdaaGreatDoorLnp
import Derived.Test.YtapgoifimhnbdaaGreatDoorTrg
import Derived.Test.YtapgoifimhnbdaaGreatDoorArx
import Derived.Test.YtapgoifimhnbdaaGreatDoorEof
import Derived.Test.YtapgoifimhnbdaaGreatDoorMemJ
import Derived.Test.YtapgoifimhnbdaaGreatDoorTul
set_option linter.unusedVariables false
namespace Go.Proofs.YtapgoifimhnbdaaGreatDoor
open Go.RowKit
theorem node_to {y:NodeV} (h:nodE y=0) {q:List UInt8} (hq:qa6 q=0):nodE {y with path:=q} =0:=by
 obtain ⟨h1,h2⟩:=qdO h;have h3:=qi8 h;exact (qeP (n:= {y with path:=q}) hq h2).trans h3
theorem q83 {dir p:List UInt8} (hp:qa6 p=0):(upL p= []∧upL (dir++47::p)=dir)∨(upL p≠ []∧upL (dir++47::p)=dir++47::upL p):=by
 have e:upL (dir++47::p)=qjG (qaI 47 dir++(qaI 47 p).dropLast):=by
  unfold upL;rw [qdN,List.dropLast_append_of_ne_nil (qbH 47 p)]
 by_cases hd:(qaI 47 p).dropLast= []
 ·rw [hd,List.append_nil,qdP]at e;exact .inl ⟨by unfold upL;rw [hd];rfl,e⟩
 ·rw [quK _ _ (qbH 47 dir) hd,qdP]at e;refine .inr ⟨fun h=> ?_,e⟩;have hn:=(qeN hp).2.2;unfold upL at h;cases hq:(qaI 47 p).dropLast with
  |nil=>exact hd hq
  |cons a l=>
   have ha:a∈qaI 47 p:=List.dropLast_subset _ (by rw [hq];exact List.mem_cons_self);have hna:=List.all_eq_true.1 hn a ha;have hne:a≠ []:=fun e0=>by rw [e0]at hna;cases hna
   rw [hq]at h;cases l with
   |nil=>exact hne h
   |cons b l=>
    rw [qdQ a (b::l) (by simp)]at h;cases a with
    |nil=>exact hne rfl
    |cons c a=>cases h
structure UndOk (dir:List UInt8) (A:List NodeV):Prop where
 path:qa6 dir=0
 top:upL dir= []
 good:Sound A
 here: ∃d∈A,d.path=dir∧d.kind=2
 last: ∀x∈A,x.path=dir∨pcmp x.path dir= -1
 low: ∀x∈A,x.same≤1000
theorem qk2 (dir p:List UInt8):pcmp dir (dir++47::p)= -1:=by
 have:=qi1 dir [] (47::p);rw [List.append_nil]at this;rw [this,qd7]
theorem q3C (dir p q:List UInt8):pcmp (dir++47::p) (dir++47::q)=pcmp p q:=by
 have:=qi1 (dir++ [47]) p q;simpa using this
theorem q3D {dir:List UInt8} {A P:List NodeV} {x:NodeV} (h:UndOk dir A) (hP: ∀z∈P,pcmp z.path x.path= -1): ∀y∈A++P.map (shN dir),pcmp y.path (shN dir x).path= -1:=fun y hy=>by
 rcases List.mem_append.1 hy with hy|hy
 ·rcases h.last y hy with e|e
  ·rw [e];exact qk2 _ _
  ·exact qmW e (qk2 _ _)
 ·obtain ⟨z,hz,rfl⟩:=List.mem_map.1 hy;exact (q3C dir z.path x.path).trans (hP z hz)
theorem q3E {out:List NodeV} {n:NodeV} (h: ∀y∈out,pcmp y.path n.path= -1):gapU out n=false∧putL out n=out++ [n]:=by
 constructor
 ·unfold gapU;rw [qhQ.2 fun y hy e=>qgQ n.path (by have:=h y hy;rwa [e]at this),List.getElem?_eq_none (Nat.le_refl _)]
 ·exact putL_lt fun y hy=>by rw [h y hy];decide
theorem q3G {dir:List UInt8} {A P M:List NodeV} {x:NodeV} (h:UndOk dir A) (hM:Sound M) (hk: ∃k,∃hk:k<M.length,P=M.take k∧x=M[k]) (hx:x.path.length+dir.length<400)
  (hS:Sound (A++P.map (shN dir))):atE (A++P.map (shN dir)) (shN dir x)=0:=by
 obtain ⟨k,hk,rfl,rfl⟩:=hk;have hxm:=List.getElem_mem hk;have hn:=hM.node _ hxm;have hs:=qfD hn
 have hlt:=q3D (P:=M.take k) (x:=M[k]) h fun z hz=>by
  obtain ⟨i,hi,rfl⟩:=List.mem_take_iff_getElem.1 hz;exact qbW hM.rises i k _ hk (by omega)
 rw [qgB];refine ⟨?_,fun y hy=>hlt y (List.mem_of_getLast? hy),?_,?_⟩
 ·have h1:nodE ({M[k]with same:=if 0<M[k].same then M[k].same+1000 else M[k].same} :NodeV)=0:=qnC hn (by split<;>omega) fun hz=>hs.2 (by
   intro e0;rw [e0]at hz;exact hz rfl)
  exact node_to h1 (q03 h.path (qdO hn).1 (by omega))
 ·unfold upOk;rw [Bool.or_eq_true];right;rw [List.any_eq_true];have hp:=(qdO hn).1;rcases q83 (dir:=dir) hp with ⟨e1,e2⟩|⟨e1,e2⟩
  ·obtain ⟨d,hd,d1,d2⟩:=h.here;exact ⟨d,List.mem_append_left _ hd,by rw [d1,d2];show (decide (dir=upL (dir++47::M[k].path)) &&_)=true;rw [e2];simp⟩
  ·rcases hM.up _ hxm with e|⟨d,hd,d1,d2⟩
   ·exact absurd e e1
   ·have hdk:d∈M.take k:=qfT hM.rises k hk d hd (by rw [d1];exact qiS e1);refine ⟨shN dir d,List.mem_append_right _ (List.mem_map_of_mem hdk),?_⟩;show (decide (dir++47::d.path=upL (dir++47::M[k].path)) &&decide (d.kind=2))=true;rw [e2,d1,d2];simp
 ·by_cases h0:(shN dir M[k]).same=0
  ·exact qiH h0
  ·have hpos:0<M[k].same:=by
    apply Classical.byContradiction;intro hc;exact h0 (show (if 0<M[k].same then M[k].same+1000 else M[k].same)=0 by rw [if_neg hc];omega)
   have hv:(shN dir M[k]).same=M[k].same+1000:=if_pos hpos;unfold qdG;rw [Bool.and_eq_false_iff];right;rw [Bool.eq_false_iff];intro e;obtain ⟨y,hy,hy2⟩:=List.any_eq_true.1 e;rw [Bool.and_eq_true,decide_eq_true_eq]at hy2;obtain ⟨hy2,hy3⟩:=hy2;rcases List.mem_append.1 hy with hy|hy
   ·have:=h.low y hy;omega
   ·obtain ⟨z,hz,rfl⟩:=List.mem_map.1 hy;have hzm:z∈M:=List.mem_of_mem_take hz;have hzs:(shN dir z).same=if 0<z.same then z.same+1000 else z.same:=rfl
    have hze:z.same=M[k].same:=by
     rw [hzs,hv]at hy2
     split at hy2<;>omega
    obtain ⟨l1,l2⟩:=hM.link z hzm _ hxm hze (by omega);have e1:(shN dir z).md=(shN dir M[k]).md:=l1;have e2:(shN dir z).data=(shN dir M[k]).data:=l2;rw [e1,e2]at hy3;simp at hy3
theorem qyU {out:List NodeV} {n:NodeV} (hS:Sound out) (h40:out.length<40) (hp:putL out n=out++ [n]):putT out n=if atE out n≠0 then ([],atE out n)else (out++ [n],0):=by
 have h1:qaO out=0:=(qaT _).2 ⟨by omega,hS⟩;have hw:qc4 [] out=0:=(qhC out).2 hS
 have h2:qaO (out++ [n])=atE out n:=by
  unfold qaO;rw [if_neg (by rw [List.length_append];simp;omega),ql9 [] out [n] hw,List.nil_append,qc4]
  by_cases e:atE out n≠0
  ·rw [if_pos e]
  ·rw [if_neg e,qc4];have:atE out n=0:=by simpa using e
   exact this.symm
 unfold putT;rw [if_neg (by simp [h1]),hp,h2]
theorem und_all {dir:List UInt8} {A M:List NodeV} (h:UndOk dir A) (hM:Sound M) (hl:A.length+M.length≤40) (hf: ∀x∈M,x.path.length+dir.length<400):
  ∀(j k:Nat),k+j=M.length→Sound (A++(M.take k).map (shN dir))→undL dir (A++(M.take k).map (shN dir)) (M.drop k)=(A++M.map (shN dir),0)∧Sound (A++M.map (shN dir)):=by
 intro j
 induction j with
 |zero=>
  intro k hk hS;have e1:M.drop k= []:=List.drop_eq_nil_of_le (by omega);have e2:M.take k=M:=List.take_of_length_le (by omega);rw [e2]at hS;rw [e1,e2];exact ⟨rfl,hS⟩
 |succ j ih=>
  intro k hk hS;have hkl:k<M.length:=by omega
  have ha:=q3G h hM ⟨k,hkl,rfl,rfl⟩ (hf _ (List.getElem_mem hkl)) hS
  have hlt:=q3D (P:=M.take k) (x:=M[k]) h fun z hz=>by
   obtain ⟨i,hi,rfl⟩:=List.mem_take_iff_getElem.1 hz;exact qbW hM.rises i k _ hkl (by omega)
  obtain ⟨g1,g2⟩:=q3E hlt;have hp:=qyU hS (by rw [List.length_append,List.length_map,List.length_take];omega) g2;rw [if_neg (fun h=>h ha)]at hp
  have hst:qdD (A++(M.take k).map (shN dir)) (shN dir M[k])=(A++(M.take (k+1)).map (shN dir),0):=by
   unfold qdD;rw [g1,if_neg (by simp),hp,List.take_succ_eq_append_getElem hkl,List.map_append,List.append_assoc]
   rfl
  have hS':Sound (A++(M.take (k+1)).map (shN dir)):=by
   have:=qhD hS ha;rw [List.take_succ_eq_append_getElem hkl,List.map_append,←List.append_assoc];exact this
  rw [List.drop_eq_getElem_cons hkl,undL,hst,if_neg (by simp)];exact ih (k+1) (by omega) hS'
theorem q85 {dir:List UInt8} {A M:List NodeV} (h:UndOk dir A) (hM:Sound M) (hl:A.length+M.length≤40):
  ∀(j k:Nat),k+j=M.length→Sound (A++(M.take k).map (shN dir))→(∃x∈M.drop k,400≤x.path.length+dir.length)→undL dir (A++(M.take k).map (shN dir)) (M.drop k)=([],1):=by
 intro j
 induction j with
 |zero=>
  intro k hk hS hx;rw [List.drop_eq_nil_of_le (by omega)]at hx;obtain ⟨x,hx,-⟩:=hx;cases hx
 |succ j ih=>
  intro k hk hS hx;have hkl:k<M.length:=by omega
  have hlt:=q3D (P:=M.take k) (x:=M[k]) h fun z hz=>by
   obtain ⟨i,hi,rfl⟩:=List.mem_take_iff_getElem.1 hz;exact qbW hM.rises i k _ hkl (by omega)
  obtain ⟨g1,g2⟩:=q3E hlt;have hp:=qyU hS (by rw [List.length_append,List.length_map,List.length_take];omega) g2
  by_cases hc:400≤M[k].path.length+dir.length
  ·have ha:atE (A++(M.take k).map (shN dir)) (shN dir M[k])=1:=by
    have hn:nodE (shN dir M[k])=1:=by
     have hq:qa6 (shN dir M[k]).path=1:=qhK (.inr (by show 400<(dir++47::M[k].path).length;rw [List.length_append,List.length_cons];omega));rw [qgV (by rw [hq];decide),hq]
    unfold atE;rw [hn,if_pos (by decide)]
   rw [ha,if_pos (by decide)]at hp
   have hst:qdD (A++(M.take k).map (shN dir)) (shN dir M[k])=([],1):=by
    unfold qdD;rw [g1,if_neg (by simp),hp]
   rw [List.drop_eq_getElem_cons hkl,undL,hst,if_pos (by decide)]
  ·have ha:=q3G h hM ⟨k,hkl,rfl,rfl⟩ (by omega) hS;rw [if_neg (fun h=>h ha)]at hp
   have hst:qdD (A++(M.take k).map (shN dir)) (shN dir M[k])=(A++(M.take (k+1)).map (shN dir),0):=by
    unfold qdD;rw [g1,if_neg (by simp),hp,List.take_succ_eq_append_getElem hkl,List.map_append,List.append_assoc]
    rfl
   have hS':Sound (A++(M.take (k+1)).map (shN dir)):=by
    have:=qhD hS ha;rw [List.take_succ_eq_append_getElem hkl,List.map_append,←List.append_assoc];exact this
   rw [List.drop_eq_getElem_cons hkl,undL,hst,if_neg (by simp)];refine ih (k+1) (by omega) hS' ?_;obtain ⟨x,hx,hx2⟩:=hx;rw [List.drop_eq_getElem_cons hkl]at hx;rcases List.mem_cons.1 hx with e|e
   ·subst e;exact absurd hx2 hc
   ·exact ⟨x,e,hx2⟩
set_option maxRecDepth 100000
def qcS (p:List UInt8):Bool:=match p with
 | []=>false
 |c::_=>decide (c<255)
theorem q1F: ∀i,i<11→qcS (qd5.getD i [])=true:=by
 decide+kernel
theorem qp3 (a b:List UInt8) (h:qcS a=true):qcS (a++b)=true:=by
 cases a with
 |nil=>cases h
 |cons c a=>exact h
theorem q44 (ds:List (List UInt8)) (r:RawV) (hd: ∀d∈ds,d= []∨qcS d=true):qcS (qbO ds r)=true:=by
 show qcS ((if ds.getD (pick r.b ds.length).toNat []= []then []else ds.getD (pick r.b ds.length).toNat []++ [47])++qd5.getD (pick r.a 11).toNat [])=true;have hn:=q1F (pick r.a 11).toNat (by have:=qbG r.a 11 (by omega);omega)
 by_cases h0:ds.getD (pick r.b ds.length).toNat []= []
 ·rw [if_pos h0];exact hn
 ·rw [if_neg h0]
  have hk:ds.getD (pick r.b ds.length).toNat []∈ds:=by
   rw [List.getD_eq_getElem?_getD]at h0⊢;cases hq:ds[(pick r.b ds.length).toNat]? with
   |none=>rw [hq]at h0;exact absurd rfl h0
   |some d=>exact List.mem_of_getElem? hq
  rcases hd _ hk with e|e
  ·exact absurd e h0
  ·exact qp3 _ _ (qp3 _ _ e)
theorem q3Z (m:Nat) (st:List NodeV×List (List UInt8)) (r:RawV) (h:(∀x∈st.1,qcS x.path=true)∧ ∀d∈st.2,d= []∨qcS d=true):(∀x∈(qbV m st r).1,qcS x.path=true)∧ ∀d∈(qbV m st r).2,d= []∨qcS d=true:=by
 have hp:=q44 st.2 r h.2
 have key: ∀(l:List NodeV) (y:NodeV),(∀z∈l,qcS z.path=true)→y.path=qbO st.2 r→ ∀x∈l++ [y],qcS x.path=true:=fun l y hl hy x hx'=>by
  rcases List.mem_append.1 hx' with a|a
  ·exact hl x a
  ·obtain rfl:x=y:=by simpa using a
   rw [hy];exact hp
 unfold qbV
 split
 ·exact h
 ·simp only
  split
  ·exact h
  ·split
   ·refine ⟨key _ _ h.1 rfl,fun d hd=> ?_⟩;rcases List.mem_append.1 hd with a|a
    ·exact h.2 d a
    ·obtain rfl:d=qbO st.2 r:=by simpa using a
     exact .inr hp
   ·split
    ·exact ⟨key _ _ h.1 rfl,h.2⟩
    ·split
     ·split
      ·exact ⟨key _ _ h.1 rfl,h.2⟩
      ·rename_i y hy
       split
       ·refine ⟨key _ _ (fun z hz=> ?_) rfl,h.2⟩;rcases List.mem_or_eq_of_mem_set hz with a|a
        ·exact h.1 z a
        ·have hm:y∈st.1:=List.mem_of_getElem? hy;rw [a]
         split
         ·exact h.1 y hm
         ·exact h.1 y hm
       ·exact ⟨key _ _ h.1 rfl,h.2⟩
     ·exact ⟨key _ _ h.1 rfl,h.2⟩
theorem q2H (m:Nat) (rs:List RawV): ∀x∈(qcI m rs).1,qcS x.path=true:=by
 unfold qcI
 suffices key: ∀(st:List NodeV×List (List UInt8)),((∀x∈st.1,qcS x.path=true)∧ ∀d∈st.2,d= []∨qcS d=true)→ ∀x∈(rs.foldl (qbV m) st).1,qcS x.path=true from
  key _ ⟨fun x hx=>(by cases hx),fun d hd=> .inl (by simpa using hd)⟩
 induction rs with
 |nil=>intro st h;exact h.1
 |cons r rs ih=>intro st h;rw [List.foldl_cons];exact ih _ (q3Z m st r h)
theorem qxD {p:List UInt8} (h:qcS p=true):pcmp p [255]= -1:=by
 cases p with
 |nil=>cases h
 |cons c p=>
  have hc:c<255:=of_decide_eq_true h;have hn: ¬c=255:=fun e=>by subst e;exact absurd hc (by decide)
  have h1:rk c≠rk 255:=fun e=>hn (qyL e);have h2:=rk_hi c;have h3:rk 255=255:=rfl;rw [qc9,if_neg hn];exact qk7 (by omega)
def qbI:NodeV:=⟨[255],2,0, [],⟨0,0,0, [], [],0,0⟩, []⟩
theorem zbH:nodE qbI=0:=by decide+kernel
theorem q55:qa6 [255]=0:=by decide+kernel
theorem q53:upL [255]= []:=by decide+kernel
theorem qkJ {l:List NodeV} (h:Sound l) (hh: ∀x∈l,qcS x.path=true):Sound (l++ [qbI]):=by
 refine qhD h ((qgB _ _).2 ⟨zbH,fun x hx=>qxD (hh x (List.mem_of_getLast? hx)),?_,qiH rfl⟩);unfold upOk;rw [show upL qbI.path= []from q53]
 rfl
theorem q56 {l:List NodeV} (hh: ∀x∈l,qcS x.path=true):qaR (l++ [qbI]) [255]=l.length:=by
 have hle:=qeB (l++ [qbI]) [255];rw [List.length_append,List.length_singleton]at hle
 have h1: ∀k,k≤l.length→k≤qaR (l++ [qbI]) [255]:=by
  intro k
  induction k with
  |zero=>intro _;exact Nat.zero_le _
  |succ k ih=>
   intro hk;refine qp8 _ _ k (by rw [List.length_append];simp;omega) (ih (by omega)) ?_;rw [List.getElem_append_left (by omega)];intro e;have:=qxD (hh _ (List.getElem_mem (show k<l.length by omega)));rw [e]at this;exact qgQ _ this
 exact qp7 _ _ l.length (by rw [List.length_append];simp) (h1 _ (Nat.le_refl _)) (by rw [List.getElem_append_right (Nat.le_refl _)];simp;rfl)
theorem last_ok {l:List NodeV} (h:Sound l) (hh: ∀x∈l,qcS x.path=true) (hl:l.length≤900):UndOk [255] (qa8 (l++ [qbI])):=by
 have hS:=qkJ h hh;have hlen:(l++ [qbI]).length=l.length+1:=by rw [List.length_append];rfl
 have hat: ∀x∈qa8 (l++ [qbI]),∃i,∃hi:i<(l++ [qbI]).length,x=qeT (l++ [qbI]) i (l++ [qbI])[i]:=fun x hx=>qjC hx;refine ⟨q55,q53,qpA hS,?_,fun x hx=> ?_,fun x hx=> ?_⟩
 ·refine ⟨(qa8 (l++ [qbI]))[l.length]'(by rw [qbA,hlen];omega),List.getElem_mem _,?_,?_⟩
  ·rw [qcY _ l.length (by rw [hlen];omega)];show ((l++ [qbI])[l.length]'_).path= [255];rw [List.getElem_append_right (Nat.le_refl _)];simp;rfl
  ·rw [qcY _ l.length (by rw [hlen];omega)];show ((l++ [qbI])[l.length]'_).kind=2;rw [List.getElem_append_right (Nat.le_refl _)];simp;rfl
 ·obtain ⟨i,hi,rfl⟩:=hat x hx;show (l++ [qbI])[i].path= [255]∨pcmp (l++ [qbI])[i].path [255]= -1;rcases List.mem_append.1 (List.getElem_mem hi)with a|a
  ·exact .inr (qxD (hh _ a))
  ·have:(l++ [qbI])[i]=qbI:=by simpa using a
   rw [this];exact .inl rfl
 ·obtain ⟨i,hi,rfl⟩:=hat x hx;show (if 1<qcN (l++ [qbI]) i then (qaB (l++ [qbI]) i:Int)+1 else 0)≤1000;have:=(qbU (l++ [qbI]) i).1;rw [hlen]at hi
  split<;>omega
theorem qhI: ∀ {a b:List NodeV},qeW a→qeW b→a.Perm b→a=b:=by
 intro a
 induction a with
 |nil=>intro b _ _ hp;exact (List.Perm.nil_eq hp)
 |cons x a ih=>
  intro b ha hb hp;cases b with
  |nil=>exact absurd hp.length_eq (by simp)
  |cons y b=>
   have ha':=List.pairwise_cons.1 ha;have hb':=List.pairwise_cons.1 hb
   have hxy:x=y:=by
    rcases List.mem_cons.1 (hp.mem_iff.1 (List.mem_cons_self (a:=x)))with e|e
    ·exact e
    ·rcases List.mem_cons.1 (hp.mem_iff.2 (List.mem_cons_self (a:=y)))with e2|e2
     ·exact e2.symm
     ·exact absurd (ha'.1 y e2) (qyV (hb'.1 x e))
   subst hxy;rw [ih ha'.2 hb'.2 ((List.perm_cons x).1 hp)]
end Go.Proofs.YtapgoifimhnbdaaGreatDoor
set_option maxRecDepth 100000
namespace Go.Proofs.YtapgoifimhnbdaaGreatDoor
open Go.RowKit
open Go.OpenShut
set_option maxHeartbeats 4000000 in
theorem q8Z (A A2:Option Addr) (n c c2:Nat) (l l2:List NodeV) (hn:l.length=n) (hn2:l2.length=n) (hm:n≤1000) (hal:q8L l l2) (w:World) (hA:qaJ w A l) (hA2:qaJ w A2 l2):
  Calls Tryz.prog 18 #[.slice A n c,.slice A2 n c2] w fun e w'=>e= .returned (.bool true)∧Below w.heap.size w w':=by
 have HN:=Lib.hid hn;have HN2:=Lib.hid hn2;have HA:=Lib.hid hA;have HA2:=Lib.hid hA2;have HL1:=Lib.hid hal.2.1;have HL2:=Lib.hid hal.2.2;clear hn hn2 hA hA2 hal;go_enter Tryz.func18,Tryz.ntmps18;go_wp2_with fail
 go_loopw [16] (fun iv wr=> ∃i:Nat,i≤n∧iv= .int .i64 i∧Hid (Below w.heap.size w wr)) (fun iv _=>n-(intOf iv).toNat)
 case atStart=>exact ⟨0,Nat.zero_le _,rfl,Below.refl _ _⟩
 case round=>
  obtain ⟨i,hi,rfl,HB⟩:=hrel
  by_cases hlt:i<n
  ·have i1:i<l.length:=by rw [HN.out];exact hlt
   have i2:i<l2.length:=by rw [HN2.out];exact hlt
   obtain ⟨b,o,D,cc,hbo,hb1,hSl,hD,hcl⟩:=HA.out.cells2 i i1;obtain ⟨b',o',E,cd,hbo',hb1',hSl',hE,hcl'⟩:=HA2.out.cells2 i i2;subst hbo hbo';have HE1:=Lib.hid (HL1.out i i1 i2);obtain ⟨c0,c1,c2',c3,⟨c4,c5,c6,c7,c8,c9,cA⟩,cB⟩:=hcl wr HB.out;obtain ⟨d0,d1,d2',d3,⟨d4,d5,d6,d7,d8,d9,dA⟩,dB⟩:=hcl' wr HB.out;have P1:=fun o1=>hcl _ (qaL HB.out o1);have Q1:=fun o1=>hcl' _ (qaL HB.out o1);have P2:=fun o1 o2=>hcl _ (qaL (qaL HB.out o1) o2);have Q2:=fun o1 o2=>hcl' _ (qaL (qaL HB.out o1) o2);simp only [forall_and]at P1 Q1 P2 Q2;obtain ⟨p0,p1,p2',p3,⟨p4,p5,p6,p7,p8,p9,pA⟩,pB⟩:=P1;obtain ⟨q0,q1,q2',q3,⟨q4,q5,q6,q7,q8,q9,qA⟩,qB⟩:=Q1;obtain ⟨r0,r1,r2',r3,⟨r4,r5,r6,r7,r8,r9,rA⟩,rB⟩:=P2;obtain ⟨s0,s1,s2',s3,⟨s4,s5,s6,s7,s8,s9,sA⟩,sB⟩:=Q2;have HD:=Lib.hid hD;have HE:=Lib.hid hE;generalize l[i]=x at*;generalize l2[i]=y at*;clear hcl hcl' hSl hSl' hb1 hb1' hD hE;have h3:(i:Int)<(n:Int):=by omega
   have h4:(0:Int)≤(i:Int):=by omega
   go_upto_region 6 with fail
   go_region
   all_goals
    clear c0 c1 c2' c3 c4 c5 c6 c7 c8 c9 cA cB d0 d1 d2' d3 d4 d5 d6 d7 d8 d9 dA dB p0 p1 p2' p3 p4 p5 p6 p7 p8 p9 pA pB q0 q1 q2' q3 q4 q5 q6 q7 q8 q9 qA qB r0 r1 r2' r3 r4 r5 r6 r7 r8 r9 rA rB s0 s1 s2' s3 s4 s5 s6 s7 s8 s9 sA sB;go_wp2_with fail;refine (quJ {x with same:=0} {y with same:=0} D E cc cd _ (HD.out.below (Below.drew (qaL (qaL HB.out _) _))) (HE.out.below (Below.drew (qaL (qaL HB.out _) _)))).mono ?_;rintro e w5 ⟨rfl,hb⟩;rw [decide_eq_true HE1.out];have HB5:=Lib.hid ((Below.drew (qaL (qaL HB.out _) _)).trans (hb.mono (Below.drew (qaL (qaL HB.out _) _)).size));clear hb HD HE HE1;go_wp2_with fail
    go_loopw [34] (fun kv wy=> ∃k:Nat,k≤i∧kv= .int .i64 k∧Hid (Below w.heap.size w wy)) (fun kv _=>i-(intOf kv).toNat)
    case atStart=>exact ⟨0,Nat.zero_le _,rfl,HB5.out⟩
    case round=>
     obtain ⟨k,hk,rfl,HY⟩:=hrel;rename World=>wy
     by_cases hlt2:k<i
     ·have k1:k<l.length:=by omega
      have k2:k<l2.length:=by omega
      obtain ⟨b3,o3,hb3,e1,e2⟩:=(HA.out.below HY.out).same2 i k i1 k1;obtain ⟨b4,o4,hb4,f1,f2⟩:=(HA2.out.below HY.out).same2 i k i2 k2;injection hb3 with hb3
      injection hb3 with hb3 ho3
      injection hb4 with hb4
      injection hb4 with hb4 ho4
      subst hb3 ho3 hb4 ho4;have hiff:=HL2.out i k hlt2 i1;have h5:(k:Int)<(n:Int):=by omega
      have h6:(0:Int)≤(k:Int):=by omega
      have HYc:=Lib.hid HY.out;generalize qaG l i=si at e1 hiff;generalize qaG l k=sk at e2 hiff;generalize qaG l2 i=ti at f1 hiff;generalize qaG l2 k=tk at f2 hiff
      by_cases z1:0<si
      ·have z1':decide (0<si)=true:=decide_eq_true z1
       by_cases z2:si=sk
       ·subst z2;obtain ⟨z3,z4⟩:=hiff.1 ⟨z1,rfl⟩;subst z4;have z3':decide (0<ti)=true:=decide_eq_true z3;clear hiff;go_upto_region 13 with fail
        go_quiet (fail);go_wp2_with fail;go_roundw
        case rel=>exact ⟨k+1,by omega,by go_num,below_drewN HYc.out _⟩
        case measure=>simp [intOf];omega
       ·have z2':(si==sk)=false:=by simpa using z2
        by_cases z3:0<ti
        ·have z3':decide (0<ti)=true:=decide_eq_true z3
         have z4:(ti==tk)=false:=by
          apply Classical.byContradiction;intro hc;rw [Bool.not_eq_false,beq_iff_eq]at hc;exact z2 (hiff.2 ⟨z3,hc⟩).2
         clear hiff z2;go_upto_region 13 with fail
         go_quiet (fail);go_wp2_with fail;go_roundw
         case rel=>exact ⟨k+1,by omega,by go_num,below_drewN HYc.out _⟩
         case measure=>simp [intOf];omega
        ·have z3':decide (0<ti)=false:=decide_eq_false z3;clear hiff z2;go_upto_region 13 with fail
         go_quiet (fail);go_wp2_with fail;go_roundw
         case rel=>exact ⟨k+1,by omega,by go_num,below_drewN HYc.out _⟩
         case measure=>simp [intOf];omega
      ·have z1':decide (0<si)=false:=decide_eq_false z1
       by_cases z3:0<ti
       ·have z3':decide (0<ti)=true:=decide_eq_true z3
        have z4:(ti==tk)=false:=by
         apply Classical.byContradiction;intro hc;rw [Bool.not_eq_false,beq_iff_eq]at hc;exact z1 (hiff.2 ⟨z3,hc⟩).1
        clear hiff;go_upto_region 13 with fail
        go_quiet (fail);go_wp2_with fail;go_roundw
        case rel=>exact ⟨k+1,by omega,by go_num,below_drewN HYc.out _⟩
        case measure=>simp [intOf];omega
       ·have z3':decide (0<ti)=false:=decide_eq_false z3;clear hiff;go_upto_region 13 with fail
        go_quiet (fail);go_wp2_with fail;go_roundw
        case rel=>exact ⟨k+1,by omega,by go_num,below_drewN HYc.out _⟩
        case measure=>simp [intOf];omega
     ·obtain rfl:k=i:=by omega
      have HYc:=Lib.hid HY.out;go_wp2_with fail;go_roundw
      case rel=>exact ⟨k+1,by omega,by go_num,HYc.out⟩
      case measure=>simp [intOf];omega
  ·obtain rfl:i=n:=by omega
   go_wp2_with fail;go_ret;exact ⟨rfl,HB.out⟩
theorem qwN {w:World} {B:Nat} {v:Value} {xs:List NodP} {l:List NodeV} (h:OwnN w B v xs) (hm:xs.map (·.1)=l): ∃A c,v= .slice A l.length c∧SlOk A l.length c∧qaJ w A l:=by
 obtain ⟨A,c,e,h1,h2⟩:=h.at;have hl:xs.length=l.length:=by rw [←hm,List.length_map]
 rw [hm]at h2;rw [hl]at e h1;exact ⟨A,c,e,h1,h2⟩
set_option maxHeartbeats 2000000 in
theorem qlT (A0:Option Addr) (n0 c0:Nat) (rs0:List RawV) (hn0:rs0.length=n0) (hm0:n0≤140737488355328) (hf0: ∀r∈rs0,r.wf) (w:World) (hr0:qd6 w A0 rs0) (hL:laidMetH Tryz.prog Rows.restoreBackRow.laid w):
  Calls Tryz.prog 6 #[.slice A0 n0 c0] w fun e w'=>e= .returned (.bool true)∧Below w.heap.size w w':=by
 have S:Std w:=qh9 hL (by kernel_rfl) (by simp [Rows.restoreBackRow]) (by simp [Rows.restoreBackRow]) (by simp [Rows.restoreBackRow]);have HD:=Lib.hid (qn2 A0 n0 c0 rs0 hn0 hm0 hf0 20 (by omega) w hr0);have HD2:=Lib.hid fun W (h:Below w.heap.size w W)=>qjP A0 n0 c0 rs0 hn0 hm0 hf0 20 (by omega) W (hr0.below h);simp only [show ((20:Nat):Int)=20 from rfl]at HD HD2;clear hn0 hm0 hf0 hr0 hL;go_enter Tryz.func6,Tryz.ntmps6;go_wp2_with fail;refine HD.out.mono ?_;rintro e x1 ⟨l,T1,k,d,rfl,hk,hS,hN,hkm,hperm,hSo,hB⟩;have hE:qbJ (qaM l)=0:=qgR hSo (by omega);have hpl:(qaM l).length=k:=by rw [qaQ];exact hk
 have hgl:(qa9 (qaM l)).length=k:=by rw [qa7];exact hpl
 have H2:=Lib.hid (qmA T1 k d (qaM l) hpl hS (fun x hx=>qpK (qc1 hE x hx)) x1 (S.tab.below hB) hN);rw [hE]at H2;have hlim:=qsU hE;have hres:=qmM hE;have HAl:=Lib.hid fun (A A2:Option Addr) (c c2:Nat) (W:World) (h1:qaJ W A (qa9 (qaM l))) (h2:qaJ W A2 l)=>q8Z A A2 k c c2 (qa9 (qaM l)) l hgl hk (by omega) (qkP hSo) W h1 h2;have HB1:=Lib.hid hB;have HSo:=Lib.hid hSo;have HPm:=Lib.hid hperm;have HK:=Lib.hid hk;obtain ⟨nb,hnb⟩: ∃nb,(arcE (qaM l)).length=nb:=⟨_,rfl⟩;have HRd:=Lib.hid fun (A:Option Addr) (c:Nat) (W:World) hc SW hA=>qiA A nb c (arcE (qaM l)) hnb (by omega) hc W SW hA;rw [hres]at HRd;simp only at HRd;have HNB:=Lib.hid hnb;have HGL:=Lib.hid hgl;generalize arcE (qaM l)=AB at*;clear hk hS hN hkm hE hB HD hnb hlim hres hSo hperm hpl hgl;go_wp2_with fail;refine H2.out.mono ?_;rintro e x2 ⟨v2,rfl,ho,hb⟩;obtain ⟨A2,c2,rfl,hs2,ha2⟩:=ho.form;rw [HNB.out]at hs2⊢;have HB2:=Lib.hid (HB1.out.trans (hb.mono HB1.out.size));have HR2:=Lib.hid (HRd.out A2 c2 x2 hs2 (S.below HB2.out) ha2);clear ho hb hs2 ha2 H2 HB1 HRd;go_wp2_with fail;refine HR2.out.mono ?_;rintro e x3 ⟨v3,ys,rfl,hm,ho,hb⟩;obtain ⟨A3,c3,rfl,-,hN3⟩:=qwN ho hm;rw [HGL.out];have HN3:=Lib.hid hN3;have HB3:=Lib.hid (HB2.out.trans (hb.mono HB2.out.size));clear hm ho hb hN3 HR2 HB2;go_wp2_with fail;refine (HD2.out _ HB3.out).mono ?_;rintro e x4 ⟨l2,T4,k4,d4,rfl,hk4,hp4,hS4,hN4,hkm4,hSo4,hsz4,hb⟩;obtain rfl:l2=l:=qhI hSo4.rises HSo.out.rises (hp4.trans HPm.out.symm);obtain rfl:k4=k:=by rw [←hk4,HK.out]
 have HB4:=Lib.hid (HB3.out.trans (hb.mono HB3.out.size));have H4:=Lib.hid (HAl.out A3 T4 c3 d4 x4 (HN3.out.below hb) hN4);clear hk4 hp4 hS4 hN4 hkm4 hSo4 hsz4 hb HD2 HAl HN3 HB3;go_wp2_with fail;refine H4.out.mono ?_;rintro e x5 ⟨rfl,hb⟩;have HB5:=Lib.hid (HB4.out.trans (hb.mono HB4.out.size));clear hb H4 HB4;go_wp2_with fail;go_ret;exact ⟨rfl,HB5.out⟩
end Go.Proofs.YtapgoifimhnbdaaGreatDoor
namespace Go.Proofs.YtapgoifimhnbdaaGreatDoor
open Go.RowKit
def undF (l M:List NodeV):List NodeV:=qa8 (qa8 (l++ [qbI])++M.map (shN [255]))
theorem qqW (l M:List NodeV):(undF l M).length=l.length+1+M.length:=by
 unfold undF;rw [qbA,List.length_append,qbA,List.length_map,List.length_append];rfl
theorem q3B {l lm:List NodeV} (hl:Sound l) (hh: ∀x∈l,qcS x.path=true) (h12:l.length≤12) (hm:Sound lm) (hm12:lm.length≤12):
  ((∀x∈lm,x.path.length≤398)→undR (l++ [qbI]) [255] (arcE (qaM lm))=(undF l (qa9 (qaM lm)),0))∧
  ((∃x∈lm,398<x.path.length)→undR (l++ [qbI]) [255] (arcE (qaM lm))=([],1)):=by
 have hS:=qkJ hl hh;have hlen:(l++ [qbI]).length=l.length+1:=by rw [List.length_append];rfl
 have ht:qaO (l++ [qbI])=0:=(qaT _).2 ⟨by omega,hS⟩;have hf:=q56 hh;have hE:qbJ (qaM lm)=0:=qgR hm (by omega);have hok:=last_ok hl hh (by omega);have hM:=qoO hm;have hgl:(qa9 (qaM lm)).length=lm.length:=by rw [qa7,qaQ]
 have hAl:(qa8 (l++ [qbI])).length=l.length+1:=by rw [qbA,hlen]
 have hv:undR (l++ [qbI]) [255] (arcE (qaM lm))=if (undL [255] (qa8 (l++ [qbI])) (qa9 (qaM lm))).2≠0 then ([],(undL [255] (qa8 (l++ [qbI])) (qa9 (qaM lm))).2)else (qa8 (undL [255] (qa8 (l++ [qbI])) (qa9 (qaM lm))).1,0):=by
  unfold undR;rw [qmM hE,if_neg (fun e=>e ht),if_neg (by rw [hf,hlen];omega),hf,List.getElem?_eq_getElem (by rw [hlen];omega),List.getElem_append_right (Nat.le_refl _)];simp only [Nat.sub_self,List.getElem_cons_zero,Option.map_some,Option.getD_some];rw [if_neg (by decide)]
  rfl
 have e0:qa8 (l++ [qbI])++((qa9 (qaM lm)).take 0).map (shN [255])=qa8 (l++ [qbI]):=by simp
 constructor
 ·intro hs
  have h:=(und_all hok hM (by rw [hAl,hgl];omega) (fun x hx=>by
   obtain ⟨i,hi,rfl⟩:=List.getElem_of_mem hx;rw [hgl]at hi;have:=hs _ (List.getElem_mem hi);rw [qhX i hi];show _+1<400
   omega) (qa9 (qaM lm)).length 0 (by omega) (by rw [e0];exact hok.good)).1
  rw [e0,List.drop_zero]at h;rw [hv,h,if_neg (fun e=>e rfl)]
  rfl
 ·rintro ⟨x,hx,hxl⟩;obtain ⟨i,hi,rfl⟩:=List.getElem_of_mem hx;have h:=q85 hok hM (by rw [hAl,hgl];omega) (qa9 (qaM lm)).length 0 (by omega) (by rw [e0];exact hok.good) ⟨(qa9 (qaM lm))[i]'(by rw [hgl];exact hi),by rw [List.drop_zero];exact List.getElem_mem _,by rw [qhX i hi];show 400≤_+1;omega⟩;rw [e0,List.drop_zero]at h;rw [hv,h,if_pos (by decide)]
theorem q84 (l M:List NodeV) (i:Nat) (hi:i<(l++ [qbI]).length): ∃h:i<(undF l M).length,((undF l M)[i]'h).path=(l++ [qbI])[i].path∧((undF l M)[i]'h).kind=(l++ [qbI])[i].kind∧((undF l M)[i]'h).data=(l++ [qbI])[i].data:=by
 have h1:i<(qa8 (l++ [qbI])).length:=by rw [qbA];exact hi
 have h2:i<(qa8 (l++ [qbI])++M.map (shN [255])).length:=by rw [List.length_append];omega
 have h3:i<(undF l M).length:=by unfold undF;rw [qbA];exact h2
 have e:(undF l M)[i]'h3=qeT (qa8 (l++ [qbI])++M.map (shN [255])) i (qeT (l++ [qbI]) i (l++ [qbI])[i]):=
  (qcY (qa8 (l++ [qbI])++M.map (shN [255])) i h2).trans (by rw [List.getElem_append_left h1,qcY _ i hi])
 refine ⟨h3,?_⟩;rw [e];exact ⟨rfl,rfl,rfl⟩
theorem qz4 (l:List NodeV) {lm:List NodeV} (hm:Sound lm) (i:Nat) (hi:i<lm.length): ∃h:l.length+1+i<(undF l (qa9 (qaM lm))).length,
  ((undF l (qa9 (qaM lm)))[l.length+1+i]'h).path= [255,47]++lm[i].path∧((undF l (qa9 (qaM lm)))[l.length+1+i]'h).kind=lm[i].kind∧((undF l (qa9 (qaM lm)))[l.length+1+i]'h).md=lm[i].md∧((undF l (qa9 (qaM lm)))[l.length+1+i]'h).data=lm[i].data:=by
 have hgl:(qa9 (qaM lm)).length=lm.length:=by rw [qa7,qaQ]
 have hAl:(qa8 (l++ [qbI])).length=l.length+1:=by rw [qbA,List.length_append];rfl
 refine ⟨by rw [qqW,hgl];omega,?_⟩;have h2:l.length+1+i<(qa8 (l++ [qbI])++(qa9 (qaM lm)).map (shN [255])).length:=by rw [List.length_append,hAl,List.length_map,hgl];omega
 have e:(undF l (qa9 (qaM lm)))[l.length+1+i]'(by rw [qqW,hgl];omega)=qeT (qa8 (l++ [qbI])++(qa9 (qaM lm)).map (shN [255])) (l.length+1+i) (shN [255] ((qa9 (qaM lm))[i]'(by rw [hgl];exact hi))):=by
  unfold undF;rw [qcY _ _ h2,List.getElem_append_right (by rw [hAl];omega),List.getElem_map]
  congr 2
  simp only [hAl]
  congr 1
  omega
 rw [e];have ha:=(qkP hm).2.1 i (by rw [hgl];exact hi) hi;have hp:=qhX (t:=lm) i hi;have hk:((qa9 (qaM lm))[i]'(by rw [hgl];exact hi)).kind=lm[i].kind:=by have h:=congrArg NodeV.kind ha;exact h
 have hd:((qa9 (qaM lm))[i]'(by rw [hgl];exact hi)).md=lm[i].md:=by have h:=congrArg NodeV.md ha;exact h
 have hb:((qa9 (qaM lm))[i]'(by rw [hgl];exact hi)).data=lm[i].data:=by have h:=congrArg NodeV.data ha;exact h
 refine ⟨?_,hk,hd,hb⟩;show [255]++47::_=_;rw [hp];rfl
end Go.Proofs.YtapgoifimhnbdaaGreatDoor
