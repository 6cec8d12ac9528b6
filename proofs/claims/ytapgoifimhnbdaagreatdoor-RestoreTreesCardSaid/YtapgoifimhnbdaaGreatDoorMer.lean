/- qaV of one kind, in one file: MemR, MemS. -/
import Derived.Test.YtapgoifimhnbdaaGreatDoorMth
import Derived.Lib.AtoiAllCases
set_option linter.unusedVariables false
namespace Go.Proofs.YtapgoifimhnbdaaGreatDoor
open Go.RowKit
def hdB (h:HeadV):List UInt8:=(qf2 h).1.data.toList
theorem qg1 {h:HeadV} (e:qc9 h=0):(hdB h).length=512:=qqW e
theorem q6N {h:HeadV} (e:qc9 h=0):qbW (hdB h)=(h,0):=by
 unfold hdB;rw [qdW e,qaH];exact qu4 e
def qaC (b:List UInt8):(HeadV×List UInt8×Nat) ×Int:=
 if b.length<512 then ((qaT, [],0),7)
 else if (qbW (b.take 512)).2≠0 then ((qaT, [],0),(qbW (b.take 512)).2)
 else if (padC (b.drop 512) (qbW (b.take 512)).1.size).2≠0 then ((qaT, [],0),(padC (b.drop 512) (qbW (b.take 512)).1.size).2)
 else (((qbW (b.take 512)).1,(padC (b.drop 512) (qbW (b.take 512)).1.size).1.1,512+512*padN (padC (b.drop 512) (qbW (b.take 512)).1.size).1.1.length),0)
theorem qg5 {b:List UInt8} (h:b.length<512):qaC b=((qaT, [],0),7):=if_pos h
theorem qiJ {b:List UInt8} (h: ¬b.length<512) (h2:(qbW (b.take 512)).2≠0):qaC b=((qaT, [],0),(qbW (b.take 512)).2):=by rw [qaC,if_neg h,if_pos h2]
theorem qkL {b:List UInt8} (h: ¬b.length<512) (h2:(qbW (b.take 512)).2=0) (h3:(padC (b.drop 512) (qbW (b.take 512)).1.size).2≠0):qaC b=((qaT, [],0),(padC (b.drop 512) (qbW (b.take 512)).1.size).2):=by
 rw [qaC,if_neg h,if_neg (by simpa using h2),if_pos h3]
theorem qjF {b:List UInt8} (h: ¬b.length<512) (h2:(qbW (b.take 512)).2=0) (h3:(padC (b.drop 512) (qbW (b.take 512)).1.size).2=0):
  qaC b=(((qbW (b.take 512)).1,(padC (b.drop 512) (qbW (b.take 512)).1.size).1.1,512+512*padN (padC (b.drop 512) (qbW (b.take 512)).1.size).1.1.length),0):=by
 rw [qaC,if_neg h,if_neg (by simpa using h2),if_neg (by simpa using h3)]
theorem qm9 {h:HeadV} {d:List UInt8} (more:List UInt8) (e:qc9 h=0) (hs:h.size=(d.length:Int)) (hd:d.length<8589934592):
  qaC (hdB h++(padF d++more))=((h,d,512+512*padN d.length),0):=by
 have hl:=qg1 e
 have h1:(hdB h++(padF d++more)).take 512=hdB h:=by
  rw [List.take_append_of_le_length (by omega),List.take_of_length_le (by omega)]
 have h2:(hdB h++(padF d++more)).drop 512=padF d++more:=by
  rw [List.drop_append_of_le_length (by omega),List.drop_of_length_le (by omega),List.nil_append]
 have h3:=q6N e;have h4:=q1V d more hd;rw [qjF (by rw [List.length_append,hl];omega) (by rw [h1,h3]) (by rw [h1,h2,h3];simp only [hs,h4]),h1,h2,h3];simp only [hs,h4]
def qbS (b:List UInt8):(HeadV×List Rc×List UInt8×Nat) ×Int:=
 if (qaC b).2≠0 then ((qaT, [], [],0),(qaC b).2)
 else if (qaC b).1.1.typ=120 then
  if (paxR (qaC b).1.2.1).2≠0 then ((qaT, [], [],0),(paxR (qaC b).1.2.1).2)
  else if (qaC (b.drop (qaC b).1.2.2)).2≠0 then ((qaT, [], [],0),(qaC (b.drop (qaC b).1.2.2)).2)
  else (((qaC (b.drop (qaC b).1.2.2)).1.1,(paxR (qaC b).1.2.1).1,(qaC (b.drop (qaC b).1.2.2)).1.2.1,(qaC b).1.2.2+(qaC (b.drop (qaC b).1.2.2)).1.2.2),0)
 else (((qaC b).1.1, [],(qaC b).1.2.1,(qaC b).1.2.2),0)
theorem qfT {b:List UInt8} (h:(qaC b).2≠0):qbS b=((qaT, [], [],0),(qaC b).2):=if_pos h
theorem qgS {b:List UInt8} (h:(qaC b).2=0) (h2:(qaC b).1.1.typ=120) (h3:(paxR (qaC b).1.2.1).2≠0):qbS b=((qaT, [], [],0),(paxR (qaC b).1.2.1).2):=by
 rw [qbS,if_neg (by simpa using h),if_pos h2,if_pos h3]
theorem qe3 {b:List UInt8} (h:(qaC b).2=0) (h2:(qaC b).1.1.typ=120) (h3:(paxR (qaC b).1.2.1).2=0) (h4:(qaC (b.drop (qaC b).1.2.2)).2≠0):qbS b=((qaT, [], [],0),(qaC (b.drop (qaC b).1.2.2)).2):=by
 rw [qbS,if_neg (by simpa using h),if_pos h2,if_neg (by simpa using h3),if_pos h4]
theorem qi3 {b:List UInt8} (h:(qaC b).2=0) (h2:(qaC b).1.1.typ=120) (h3:(paxR (qaC b).1.2.1).2=0) (h4:(qaC (b.drop (qaC b).1.2.2)).2=0):
  qbS b=(((qaC (b.drop (qaC b).1.2.2)).1.1,(paxR (qaC b).1.2.1).1,(qaC (b.drop (qaC b).1.2.2)).1.2.1,(qaC b).1.2.2+(qaC (b.drop (qaC b).1.2.2)).1.2.2),0):=by
 rw [qbS,if_neg (by simpa using h),if_pos h2,if_neg (by simpa using h3),if_neg (by simpa using h4)]
theorem qi4 {b:List UInt8} (h:(qaC b).2=0) (h2:(qaC b).1.1.typ≠120):qbS b=(((qaC b).1.1, [],(qaC b).1.2.1,(qaC b).1.2.2),0):=by
 rw [qbS,if_neg (by simpa using h),if_neg h2]
theorem typM_ne (k:Int):typM k≠120:=by
 unfold typM
 split
 ·decide
 ·split
  ·decide
  ·split<;>decide
theorem q1Q {x:EntV} (h:entE x=0):paxR (qbC (qaN x))=(qaN x,0):=qj1 (qx8 _ (qdY (qiU h)).2.2) (qiU h)
theorem qnM {x:EntV} (h:entE x=0):qa5 x=(if qaN x= []then []else hdB (paxH (qbC (qaN x)).length)++padF (qbC (qaN x)))++(hdB (qbN x)++padF x.data):=by
 unfold qa5 hdB;rw [qi0 h]
theorem qlI {x:EntV} (h:entE x=0) (more:List UInt8):qbS (qa5 x++more)=((qbN x,qaN x,x.data,(qa5 x).length),0):=by
 have g:=qbU h;have hd:x.data.length<8589934592:=by have:=g.data;omega
 have hlen:=qpM h;have h2:=qiT h;have hb:=qnM h
 by_cases hr:qaN x= []
 ·rw [if_pos hr,List.nil_append]at hb;rw [if_pos hr]at hlen;have h1:=qm9 more (qjB h) rfl hd;have e:qa5 x++more=hdB (qbN x)++(padF x.data++more):=by rw [hb,List.append_assoc]
  rw [e,qi4 (by rw [h1]) (by rw [h1];exact typM_ne _),h1,hlen,hr];simp only [Prod.mk.injEq,true_and,and_true];omega
 ·rw [if_neg hr]at hb hlen;have h3:=qm9 more (qjB h) rfl hd;have h1:=qm9 (d:=qbC (qaN x)) (hdB (qbN x)++(padF x.data++more)) (qj2 h2) rfl (by omega)
  have e:qa5 x++more=hdB (paxH (qbC (qaN x)).length)++(padF (qbC (qaN x))++(hdB (qbN x)++(padF x.data++more))):=by
   rw [hb];simp only [List.append_assoc]
  have e2:(qa5 x++more).drop (512+512*padN (qbC (qaN x)).length)=hdB (qbN x)++(padF x.data++more):=by
   rw [e,←List.append_assoc,List.drop_append_of_le_length (by rw [List.length_append,qg1 (qj2 h2),qbM];omega),List.drop_of_length_le (by rw [List.length_append,qg1 (qj2 h2),qbM];omega),List.nil_append]
  rw [←e]at h1;have hp:=q1Q h;rw [qi3 (by rw [h1]) (by rw [h1];rfl) (by rw [h1];simp only [hp]) (by rw [h1];simp only [e2,h3]),h1];simp only [e2,h3,hp,Prod.mk.injEq,true_and,and_true];omega
theorem qzQ {x y:EntV} (hx:entE x=0) (hy:entE y=0) (h:qa5 x=qa5 y):x=y:=by
 have h1:=qlI hx [];rw [h,qlI hy []]at h1;simp only [Prod.mk.injEq,and_true]at h1;obtain ⟨a,b,c⟩:=h1;have h2:=(EntV.ext_iff' _ _).2 (quZ hx hy a.symm b.symm).1;exact (EntV.ext_iff' _ _).1 ⟨h2.1,h2.2.1,h2.2.2.1,h2.2.2.2.1,c.symm⟩
def entZ:EntV:=⟨[],0, [],⟨0,0,0, [], [],0,0⟩, []⟩
open Classical in
noncomputable def qaI (b:List UInt8):(EntV×Nat) ×Int:=
 if (qbS b).2≠0 then ((entZ,0),(qbS b).2)
 else if h: ∃x,entE x=0∧qa5 x=b.take (qbS b).1.2.2.2 then ((h.choose,(qbS b).1.2.2.2),0)else ((entZ,0),3)
theorem qfR {b:List UInt8} (h:(qbS b).2≠0):qaI b=((entZ,0),(qbS b).2):=by rw [qaI,if_pos h]
theorem qwH {b:List UInt8} {x:EntV} (h:(qbS b).2=0) (hx:entE x=0) (he:qa5 x=b.take (qbS b).1.2.2.2):qaI b=((x,(qbS b).1.2.2.2),0):=by
 have hex: ∃x,entE x=0∧qa5 x=b.take (qbS b).1.2.2.2:=⟨x,hx,he⟩;rw [qaI,if_neg (by simpa using h),dif_pos hex];have h1:=hex.choose_spec;rw [qzQ h1.1 hx (h1.2.trans he.symm)]
theorem q04 {b:List UInt8} (h:(qbS b).2=0) (hn: ¬ ∃x,entE x=0∧qa5 x=b.take (qbS b).1.2.2.2):qaI b=((entZ,0),3):=by
 rw [qaI,if_neg (by simpa using h),dif_neg hn]
theorem q05 (b:List UInt8):((qaI b).2≠0∧(qaI b).1=(entZ,0))∨((qaI b).2=0∧entE (qaI b).1.1=0∧qa5 (qaI b).1.1=b.take (qaI b).1.2∧(qaI b).1.2=(qa5 (qaI b).1.1).length):=by
 by_cases h:(qbS b).2=0
 ·by_cases hex: ∃x,entE x=0∧qa5 x=b.take (qbS b).1.2.2.2
  ·obtain ⟨x,hx,he⟩:=hex;rw [qwH h hx he];refine .inr ⟨rfl,hx,he,?_⟩;have h1:=qlI hx (b.drop (qbS b).1.2.2.2);rw [he,List.take_append_drop,←he]at h1;show (qbS b).1.2.2.2=_
   conv=>lhs;rw [h1]
  ·rw [q04 h hex];exact .inl ⟨by decide,rfl⟩
 ·rw [qfR h];exact .inl ⟨h,rfl⟩
def Told (h:HeadV) (rs:List Rc) (d:List UInt8) (y:EntV):Prop:= ∀x,entE x=0→qbN x=h→qaN x=rs→x.data=d→y=x
theorem ql8 {b:List UInt8} {h:HeadV} {rs:List Rc} {d:List UInt8} {n:Nat} {y:EntV} (hp:qbS b=((h,rs,d,n),0)) (ht:Told h rs d y):
  qaI b=if entE y=0∧qa5 y=b.take n then ((y,n),0)else ((entZ,0),3):=by
 by_cases hy:entE y=0∧qa5 y=b.take n
 ·rw [if_pos hy,qwH (x:=y) (by rw [hp]) hy.1 (by rw [hp];exact hy.2),hp]
 ·rw [if_neg hy,q04 (by rw [hp])];rw [hp];rintro ⟨x,hx,he⟩;have h1:=qlI hx (b.drop n);rw [he,List.take_append_drop,hp]at h1;simp only [Prod.mk.injEq,and_true]at h1;obtain ⟨a,b',c,-⟩:=h1;have e:=ht x hx a.symm b'.symm c.symm;subst e;exact hy ⟨hx,he⟩
def qkF (c:UInt8):Int:=if c=48 then 1 else if c=53 then 2 else if c=50 then 3 else if c=49 then 4 else 0
theorem qy6 {k:Int} (h:1≤k∧k≤4):qkF (typM k)=k:=by
 have:k=1∨k=2∨k=3∨k=4:=by omega
 rcases this with rfl|rfl|rfl|rfl<;>rfl
theorem qt9 {h:HeadV} {rs:List Rc} {d:List UInt8} {y:EntV}
  (h1:y.path=(look qaZ rs).getD (oneV h.pre h.name).1) (h2:y.kind=qkF h.typ) (h3:y.target=(look qa6 rs).getD h.link) (h4:y.data=d) (h5:y.md.mode=h.mode)
  (h6:(look kUid rs=none→y.md.uid=h.uid)∧ ∀m,0≤m→m≤1125899906842624→look kUid rs=some (Lib.itoa m)→y.md.uid=m)
  (h7:(look kGid rs=none→y.md.gid=h.gid)∧ ∀m,0≤m→m≤1125899906842624→look kGid rs=some (Lib.itoa m)→y.md.gid=m)
  (h8:y.md.user=(look qaS rs).getD h.user) (h9:y.md.group=(look qaO rs).getD h.group)
  (hA:(look qaM rs=none→y.md.second=h.time∧y.md.nano=0)∧ ∀v,look qaM rs=some v→y.md.second=(qa8 v).1∧y.md.nano=(qa8 v).2.1):Told h rs d y:=by
 rintro x hx rfl rfl rfl;have g:=qbU hx;rw [qmP]at h1;rw [qmQ]at h3;rw [qqM]at h6;rw [qqN]at h7;rw [qkB]at h8;rw [qkD]at h9;rw [qkC]at hA
 have e1:y.path=x.path:=by
  rw [h1]
  by_cases hc:(cutV x.path).2.2≠0
  ·rw [if_pos hc];rfl
  ·rw [if_neg hc];have hc0:(cutV x.path).2.2=0:=by simpa using hc
   have:=(qrD (l:=x.path) (p:=(cutV x.path).1) (n:=(cutV x.path).2.1) (by rw [←hc0])).1;show (oneV (qbN x).pre (qbN x).name).1=x.path;unfold qbN;simp only;rw [if_neg hc,this]
 have e2:y.kind=x.kind:=by rw [h2];exact qy6 g.kind
 have e3:y.target=x.target:=by
  rw [h3]
  by_cases hc:100<x.target.length
  ·rw [if_pos hc];rfl
  ·rw [if_neg hc];show (qbN x).link=_;unfold qbN;simp only;rw [if_neg hc]
 have e5:y.md.user=x.md.user:=by
  rw [h8]
  by_cases hc:31<x.md.user.length
  ·rw [if_pos hc];rfl
  ·rw [if_neg hc];show (qbN x).user=_;unfold qbN;simp only;rw [if_neg hc]
 have e6:y.md.group=x.md.group:=by
  rw [h9]
  by_cases hc:31<x.md.group.length
  ·rw [if_pos hc];rfl
  ·rw [if_neg hc];show (qbN x).group=_;unfold qbN;simp only;rw [if_neg hc]
 have e7:y.md.uid=x.md.uid:=by
  by_cases hc:2097152≤x.md.uid
  ·rw [if_pos hc]at h6;exact h6.2 _ g.uid.1 g.uid.2 rfl
  ·rw [if_neg hc]at h6;rw [h6.1 rfl];unfold qbN;simp only;rw [if_neg hc]
 have e8:y.md.gid=x.md.gid:=by
  by_cases hc:2097152≤x.md.gid
  ·rw [if_pos hc]at h7;exact h7.2 _ g.gid.1 g.gid.2 rfl
  ·rw [if_neg hc]at h7;rw [h7.1 rfl];unfold qbN;simp only;rw [if_neg hc]
 have e9:y.md.second=x.md.second∧y.md.nano=x.md.nano:=by
  by_cases hc:qkE x=true
  ·rw [if_pos hc]at hA;have h:=hA.2 _ rfl;rw [qlB g.time,qh9 _ _ g.time]at h;exact h
  ·rw [if_neg hc]at hA;obtain ⟨a,b⟩:=hA.1 rfl;rw [a,b]
   have hl2: ¬(x.md.nano≠0∨x.md.second<0∨8589934592≤x.md.second):=by
    unfold qkE at hc;simpa using hc
   refine ⟨?_,by omega⟩;unfold qbN;simp only;rw [if_neg hc]
 have e4:y.md.mode=x.md.mode:=h5
 have ext: ∀a b:MetaV,a.mode=b.mode→a.uid=b.uid→a.gid=b.gid→a.user=b.user→a.group=b.group→a.second=b.second→a.nano=b.nano→a=b:=by
  rintro ⟨a1,a2,a3,a4,a5,a6,a7⟩ ⟨b1,b2,b3,b4,b5,b6,b7⟩ g1 g2 g3 g4 g5 g6 g7;simp only at g1 g2 g3 g4 g5 g6 g7;subst g1 g2 g3 g4 g5 g6 g7
  rfl
 exact (EntV.ext_iff' _ _).1 ⟨e1,e2,e3,ext _ _ e4 e7 e8 e5 e6 e9.1 e9.2,h4⟩
def numV (l:List UInt8):Int:=match Lib.atoiAll l with
 | .ok v=>v
 | .range=>Lib.atoiSat l
 |_=>0
theorem qsY {m:Int} (h0:0≤m) (h1:m≤1125899906842624):numV (Lib.itoa m)=m:=by
 have e:Lib.itoa m=Lib.decDigits m.toNat:=by unfold Lib.itoa;rw [if_neg (by omega)]
 have ha:Lib.atoiAll (Lib.decDigits m.toNat)= .ok (m.toNat:Int):=by
  rw [Lib.atoiAll_short _ (Nat.le_trans (qcA m.toNat 15 (by omega)) (by decide))];obtain ⟨c,r,e,h1,h2,-⟩:=qdM m.toNat;have hv:=qbR m.toNat;rw [e]at hv⊢;have c1:(c==45)=false:=by rw [beq_eq_false_iff_ne];rintro rfl;exact absurd h1 (by decide)
  have c2:(c==43)=false:=by rw [beq_eq_false_iff_ne];rintro rfl;exact absurd h1 (by decide)
  simp only [Lib.atoi,c1,c2];simp [Lib.decNat,hv,Lib.NumEnd.ofOption]
 unfold numV;rw [e,ha];show (m.toNat:Int)=m;omega
def qb6 (l:List Rc):List (List UInt8):=l.map (·.1)
theorem q34 {last:List UInt8} {l:List Rc} (h:chkG last l=0):(∀r∈l,Op.bytesLess last r.1=true)∧(qb6 l).Nodup:=by
 induction l generalizing last with
 |nil=>exact ⟨fun r hr=>(by cases hr),List.nodup_nil⟩
 |cons x l ih=>
  by_cases h1:chkR x.1 x.2=0
  ·cases h2:Op.bytesLess last x.1 with
   |false=>rw [qkQ h1 h2]at h;cases h
   |true=>
    rw [qnL h1 h2]at h;obtain ⟨a,b⟩:=ih h;refine ⟨fun r hr=> ?_,?_⟩
    ·rcases List.mem_cons.1 hr with rfl|hr
     ·exact h2
     ·exact qyY _ _ _ h2 (a r hr)
    ·unfold qb6;rw [List.map_cons,List.nodup_cons];refine ⟨fun hm=> ?_,b⟩;obtain ⟨r,hr,e⟩:=List.mem_map.1 hm;have:=a r hr;rw [e,qs1]at this;cases this
  ·rw [qrF h1]at h;exact absurd h h1
theorem qi1 (b:List UInt8):(qb6 (paxR b).1).Nodup:=by
 by_cases h1:(qbV b).2=0
 ·by_cases h2:chkP (qbV b).1=0
  ·rw [qj1 (x:=(qbV b).1) (by rw [←h1]) h2];exact (q34 (qdY h2).2.1).2
  ·rw [qi2 (x:=(qbV b).1) (by rw [←h1]) h2];exact List.nodup_nil
 ·have:paxR b=([],(qbV b).2):=by unfold paxR;rw [if_pos h1]
  rw [this];exact List.nodup_nil
theorem q2I {K:List UInt8} {l:List Rc} (h:K∉qb6 l):look K l=none:=by
 unfold look;rw [Option.map_eq_none_iff,List.find?_eq_none];intro r hr e;exact h (List.mem_map.2 ⟨r,hr,of_decide_eq_true e⟩)
theorem qeP {K v:List UInt8} {l:List Rc} (hn:(qb6 l).Nodup):look K l=some v↔(K,v)∈l:=by
 induction l with
 |nil=>simp [look]
 |cons x l ih=>
  unfold qb6 at hn;rw [List.map_cons,List.nodup_cons]at hn;obtain ⟨k,u⟩:=x
  by_cases hk:k=K
  ·have e:look K ((k,u)::l)=some u:=by unfold look;rw [List.find?_cons];simp [hk]
   rw [e];constructor
   ·intro h;injection h with h;subst h hk;exact List.mem_cons_self ..
   ·intro h;rcases List.mem_cons.1 h with h|h
    ·injection h with _ h;rw [h]
    ·exact absurd (List.mem_map.2 ⟨_,h,hk.symm⟩) hn.1
  ·have e:look K ((k,u)::l)=look K l:=by unfold look;rw [List.find?_cons];simp [hk]
   rw [e,ih hn.2,List.mem_cons];constructor
   ·exact .inr
   ·rintro (h|h)
    ·injection h with h _;exact absurd h.symm hk
    ·exact h
theorem q2H {p rs:List Rc} (hp:(qb6 p).Nodup) (hr:(qb6 rs).Nodup) (h: ∀r,r∈p↔r∈rs) (K:List UInt8):look K p=look K rs:=by
 cases h1:look K rs with
 |some v=>rw [qeP hp,h,←qeP hr,h1]
 |none=>
  cases h2:look K p with
  |none=>rfl
  |some v=>
   rw [qeP hp,h,←qeP hr,h1]at h2;cases h2
theorem q2G {K k v:List UInt8} {p:List Rc} (hk:k∉qb6 p):look K (p++ [(k,v)])=if k=K then some v else look K p:=by
 by_cases h:k=K
 ·rw [if_pos h];have:look K p=none:=q2I (h▸hk);unfold look at this⊢;rw [Option.map_eq_none_iff]at this;rw [List.find?_append,this];simp [h]
 ·rw [if_neg h];unfold look;rw [List.find?_append];simp [h]
def takF (y:EntV) (r:Rc):EntV:=
 if r.1=kGid then {y with md:= {y.md with gid:=numV r.2} }
 else if r.1=qaO then {y with md:= {y.md with group:=r.2} }
 else if r.1=qa6 then {y with target:=r.2}
 else if r.1=qaM then {y with md:= {y.md with second:=(qa8 r.2).1,nano:=(qa8 r.2).2.1} }
 else if r.1=qaZ then {y with path:=r.2}
 else if r.1=kUid then {y with md:= {y.md with uid:=numV r.2} }
 else if r.1=qaS then {y with md:= {y.md with user:=r.2} }
 else y
def qeY (h:HeadV) (d:List UInt8):EntV:=⟨(oneV h.pre h.name).1,qkF h.typ,h.link,⟨h.mode,h.uid,h.gid,h.user,h.group,h.time,0⟩,d⟩
structure Took (x0:EntV) (p:List Rc) (y:EntV):Prop where
 path:y.path=(look qaZ p).getD x0.path
 kind:y.kind=x0.kind
 target:y.target=(look qa6 p).getD x0.target
 data:y.data=x0.data
 mode:y.md.mode=x0.md.mode
 uid:y.md.uid=((look kUid p).map numV).getD x0.md.uid
 gid:y.md.gid=((look kGid p).map numV).getD x0.md.gid
 user:y.md.user=(look qaS p).getD x0.md.user
 group:y.md.group=(look qaO p).getD x0.md.group
 second:y.md.second=((look qaM p).map fun v=>(qa8 v).1).getD x0.md.second
 nano:y.md.nano=((look qaM p).map fun v=>(qa8 v).2.1).getD x0.md.nano
theorem Took.start (x0:EntV):Took x0 [] x0:=⟨rfl,rfl,rfl,rfl,rfl,rfl,rfl,rfl,rfl,rfl,rfl⟩
theorem Took.step {x0 y:EntV} {p:List Rc} (h:Took x0 p y) {r:Rc} (hk:r.1∉qb6 p):Took x0 (p++ [r]) (takF y r):=by
 obtain ⟨k,v⟩:=r;replace hk:k∉qb6 p:=hk;have L:=fun K=>q2G (K:=K) (v:=v) hk;have hne: ∀K,k≠K→look K (p++ [(k,v)])=look K p:=fun K h=>by rw [L,if_neg h]
 unfold takF;simp only
 by_cases h1:k=kGid
 ·subst h1;rw [if_pos rfl];constructor
  case gid=>show numV v=_;rw [L,if_pos rfl];rfl
  all_goals ((try simp only [hne qaZ (by decide),hne qa6 (by decide),hne kUid (by decide),hne qaS (by decide),hne qaO (by decide),hne qaM (by decide)]);first|exact h.path|exact h.kind|exact h.target|exact h.data|exact h.mode|exact h.uid|exact h.user|exact h.group|exact h.second|exact h.nano)
 rw [if_neg h1]
 by_cases h2:k=qaO
 ·subst h2;rw [if_pos rfl];constructor
  case group=>show v=_;rw [L,if_pos rfl];rfl
  all_goals ((try simp only [hne qaZ (by decide),hne qa6 (by decide),hne kUid (by decide),hne qaS (by decide),hne kGid (by decide),hne qaM (by decide)]);first|exact h.path|exact h.kind|exact h.target|exact h.data|exact h.mode|exact h.uid|exact h.user|exact h.gid|exact h.second|exact h.nano)
 rw [if_neg h2]
 by_cases h3:k=qa6
 ·subst h3;rw [if_pos rfl];constructor
  case target=>show v=_;rw [L,if_pos rfl];rfl
  all_goals ((try simp only [hne qaZ (by decide),hne qaO (by decide),hne kUid (by decide),hne qaS (by decide),hne kGid (by decide),hne qaM (by decide)]);first|exact h.path|exact h.kind|exact h.data|exact h.mode|exact h.uid|exact h.user|exact h.gid|exact h.group|exact h.second|exact h.nano)
 rw [if_neg h3]
 by_cases h4:k=qaM
 ·subst h4;rw [if_pos rfl];constructor
  case second=>show (qa8 v).1=_;rw [L,if_pos rfl];rfl
  case nano=>show (qa8 v).2.1=_;rw [L,if_pos rfl];rfl
  all_goals ((try simp only [hne qaZ (by decide),hne qaO (by decide),hne kUid (by decide),hne qaS (by decide),hne kGid (by decide),hne qa6 (by decide)]);first|exact h.path|exact h.kind|exact h.target|exact h.data|exact h.mode|exact h.uid|exact h.user|exact h.gid|exact h.group)
 rw [if_neg h4]
 by_cases h5:k=qaZ
 ·subst h5;rw [if_pos rfl];constructor
  case path=>show v=_;rw [L,if_pos rfl];rfl
  all_goals ((try simp only [hne qaM (by decide),hne qaO (by decide),hne kUid (by decide),hne qaS (by decide),hne kGid (by decide),hne qa6 (by decide)]);first|exact h.kind|exact h.target|exact h.data|exact h.mode|exact h.uid|exact h.user|exact h.gid|exact h.group|exact h.second|exact h.nano)
 rw [if_neg h5]
 by_cases h6:k=kUid
 ·subst h6;rw [if_pos rfl];constructor
  case uid=>show numV v=_;rw [L,if_pos rfl];rfl
  all_goals ((try simp only [hne qaM (by decide),hne qaO (by decide),hne qaZ (by decide),hne qaS (by decide),hne kGid (by decide),hne qa6 (by decide)]);first|exact h.path|exact h.kind|exact h.target|exact h.data|exact h.mode|exact h.user|exact h.gid|exact h.group|exact h.second|exact h.nano)
 rw [if_neg h6]
 by_cases h7:k=qaS
 ·subst h7;rw [if_pos rfl];constructor
  case user=>show v=_;rw [L,if_pos rfl];rfl
  all_goals ((try simp only [hne qaM (by decide),hne qaO (by decide),hne qaZ (by decide),hne kUid (by decide),hne kGid (by decide),hne qa6 (by decide)]);first|exact h.path|exact h.kind|exact h.target|exact h.data|exact h.mode|exact h.uid|exact h.gid|exact h.group|exact h.second|exact h.nano)
 rw [if_neg h7];constructor
 all_goals ((try simp only [hne qaM h4,hne qaO h2,hne qaZ h5,hne kUid h6,hne kGid h1,hne qa6 h3,hne qaS h7]);first|exact h.path|exact h.kind|exact h.target|exact h.data|exact h.mode|exact h.uid|exact h.gid|exact h.user|exact h.group|exact h.second|exact h.nano)
theorem qrV (x0:EntV): ∀(q p:List Rc) (y:EntV),Took x0 p y→(qb6 (p++q)).Nodup→Took x0 (p++q) (q.foldl takF y)
 | [],p,y,h,hn=>by rw [List.append_nil];exact h
 |r::q,p,y,h,hn=>by
  have e:p++r::q=(p++ [r])++q:=by simp
  rw [e]at hn⊢;refine qrV x0 q (p++ [r]) (takF y r) (h.step ?_) hn;have:=(List.nodup_append.1 (show (qb6 (p++ [r])++qb6 q).Nodup by unfold qb6 at hn⊢;rw [←List.map_append];exact hn)).1;unfold qb6 at this⊢;rw [List.map_append,List.nodup_append]at this;intro hm;exact this.2.2 _ hm _ (by simp) rfl
theorem qvZ (x0:EntV) (p:List Rc) (hn:(qb6 p).Nodup):Took x0 p (p.foldl takF x0):=by
 have:=qrV x0 p [] x0 (Took.start x0) (by simpa using hn);simpa using this
theorem qrU {h:HeadV} {rs p:List Rc} {d:List UInt8} {y:EntV} (hp:(qb6 p).Nodup) (hr:(qb6 rs).Nodup) (hs: ∀r,r∈p↔r∈rs) (H:Took (qeY h d) p y):Told h rs d y:=by
 have L:=q2H hp hr hs;obtain ⟨g1,g2,g3,g4,g5,g6,g7,g8,g9,gA,gB⟩:=H;simp only [L]at g1 g3 g6 g7 g8 g9 gA gB
 refine qt9 g1 g2 g3 g4 g5 ⟨fun e=>by rw [g6,e];rfl,fun m a b e=>by rw [g6,e];exact qsY a b⟩ ⟨fun e=>by rw [g7,e];rfl,fun m a b e=>by rw [g7,e];exact qsY a b⟩ g8 g9
  ⟨fun e=>⟨by rw [gA,e];rfl,by rw [gB,e];rfl⟩,fun v e=>⟨by rw [gA,e];rfl,by rw [gB,e];rfl⟩⟩
theorem qrW {h:HeadV} {rs:List Rc} {d:List UInt8} (hr:(qb6 rs).Nodup):Told h rs d (rs.foldl takF (qeY h d)):=
 qrU hr hr (fun _=>Iff.rfl) (qvZ _ _ hr)
theorem q1T {l:List UInt8} {n:Int} (h:(padC l n).2=0):(0≤n∧n<8589934592)∧512*padN n.toNat≤l.length∧(padC l n).1.1.length=n.toNat:=by
 by_cases hr:0≤n∧n<8589934592
 ·by_cases h2:l.length<512*padN n.toNat
  ·rw [qj4 hr h2]at h;cases h
  ·cases h3:allZ ((l.take (512*padN n.toNat)).drop n.toNat)with
   |false=>rw [qgU hr (by omega) h3]at h;cases h
   |true=>
    rw [qj5 hr (by omega) h3];have:=qgT n.toNat;exact ⟨hr,by omega,by show (l.take n.toNat).length=_;rw [List.length_take];omega⟩
 ·rw [qe5 hr]at h;cases h
theorem q1U (l:List UInt8) (n:Int):(padC (l.take (512*(padB n).1.toNat)) n).1.1=(padC l n).1.1∧(padC (l.take (512*(padB n).1.toNat)) n).2=(padC l n).2:=by
 by_cases hr:0≤n∧n<8589934592
 ·rw [qiG hr];show (padC (l.take (512*((padN n.toNat:Nat):Int).toNat)) n).1.1=_∧_;rw [Int.toNat_natCast];have hg:=qgT n.toNat
  by_cases h2:l.length<512*padN n.toNat
  ·rw [List.take_of_length_le (by omega)];exact ⟨rfl,rfl⟩
  ·have hl:(l.take (512*padN n.toNat)).length=512*padN n.toNat:=by rw [List.length_take];omega
   have ht:(l.take (512*padN n.toNat)).take (512*padN n.toNat)=l.take (512*padN n.toNat):=by rw [List.take_take,Nat.min_self]
   have hn:(l.take (512*padN n.toNat)).take n.toNat=l.take n.toNat:=by rw [List.take_take,Nat.min_eq_left hg]
   cases h3:allZ ((l.take (512*padN n.toNat)).drop n.toNat)with
   |false=>rw [qgU hr (by omega) h3,qgU hr (by omega) (by rw [ht];exact h3)];exact ⟨rfl,rfl⟩
   |true=>rw [qj5 hr (by omega) h3,qj5 hr (by omega) (by rw [ht];exact h3),hn];exact ⟨rfl,rfl⟩
 ·rw [qe5 hr,qe5 hr];exact ⟨rfl,rfl⟩
theorem q50 (n:Int): ∃k:Nat,(padB n).1=(k:Int)∧k≤16777216:=by
 by_cases hr:0≤n∧n<8589934592
 ·rw [qiG hr];exact ⟨_,rfl,by unfold padN;omega⟩
 ·rw [qmI hr];exact ⟨0,rfl,by decide⟩
theorem qtI {b:List UInt8} (h:(qaC b).2=0): ¬b.length<512∧(qbW (b.take 512)).2=0∧(padC (b.drop 512) (qbW (b.take 512)).1.size).2=0:=by
 by_cases h1:b.length<512
 ·rw [qg5 h1]at h;cases h
 ·by_cases h2:(qbW (b.take 512)).2=0
  ·by_cases h3:(padC (b.drop 512) (qbW (b.take 512)).1.size).2=0
   ·exact ⟨h1,h2,h3⟩
   ·rw [qkL h1 h2 h3]at h;exact absurd h h3
  ·rw [qiJ h1 h2]at h;exact absurd h h2
theorem qa1 {b:List UInt8} (h:(qaC b).2=0):(qaC b).1.2.2=512+512*(padB (qbW (b.take 512)).1.size).1.toNat∧(qaC b).1.2.2≤b.length∧(qaC b).1.2.1.length<8589934592:=by
 obtain ⟨h1,h2,h3⟩:=qtI h;obtain ⟨hr,hl,hs⟩:=q1T h3;rw [qjF h1 h2 h3,qiG hr];rw [List.length_drop]at hl;refine ⟨?_,?_,?_⟩
 ·show 512+512*padN _=512+512*((padN _:Nat):Int).toNat;rw [hs,Int.toNat_natCast]
 ·show 512+512*padN _≤_;rw [hs];omega
 ·show (padC _ _).1.1.length<_;rw [hs];omega
end Go.Proofs.YtapgoifimhnbdaaGreatDoor
