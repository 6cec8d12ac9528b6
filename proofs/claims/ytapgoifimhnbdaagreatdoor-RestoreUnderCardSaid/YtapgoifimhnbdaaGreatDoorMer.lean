/- qaX of one kind, in one file: MemR, MemS. -/
import Derived.Test.YtapgoifimhnbdaaGreatDoorMth
import Derived.Lib.AtoiAllCases
set_option linter.unusedVariables false
namespace Go.Proofs.YtapgoifimhnbdaaGreatDoor
open Go.RowKit
def hdB (h:HeadV):List UInt8:=(qjH h).1.data.toList
theorem qf2 {h:HeadV} (e:qdB h=0):(hdB h).length=512:=qr2 e
theorem qzE {h:HeadV} (e:qdB h=0):qcM (hdB h)=(h,0):=by
 unfold hdB;rw [ql0 e,qaF];exact qxF e
def qaD (b:List UInt8):(HeadV×List UInt8×Nat) ×Int:=
 if b.length<512 then ((qbE, [],0),7)
 else if (qcM (b.take 512)).2≠0 then ((qbE, [],0),(qcM (b.take 512)).2)
 else if (padC (b.drop 512) (qcM (b.take 512)).1.size).2≠0 then ((qbE, [],0),(padC (b.drop 512) (qcM (b.take 512)).1.size).2)
 else (((qcM (b.take 512)).1,(padC (b.drop 512) (qcM (b.take 512)).1.size).1.1,512+512*padN (padC (b.drop 512) (qcM (b.take 512)).1.size).1.1.length),0)
theorem qlF {b:List UInt8} (h:b.length<512):qaD b=((qbE, [],0),7):=if_pos h
theorem qnW {b:List UInt8} (h: ¬b.length<512) (h2:(qcM (b.take 512)).2≠0):qaD b=((qbE, [],0),(qcM (b.take 512)).2):=by rw [qaD,if_neg h,if_pos h2]
theorem qp6 {b:List UInt8} (h: ¬b.length<512) (h2:(qcM (b.take 512)).2=0) (h3:(padC (b.drop 512) (qcM (b.take 512)).1.size).2≠0):qaD b=((qbE, [],0),(padC (b.drop 512) (qcM (b.take 512)).1.size).2):=by
 rw [qaD,if_neg h,if_neg (by simpa using h2),if_pos h3]
theorem qnU {b:List UInt8} (h: ¬b.length<512) (h2:(qcM (b.take 512)).2=0) (h3:(padC (b.drop 512) (qcM (b.take 512)).1.size).2=0):
  qaD b=(((qcM (b.take 512)).1,(padC (b.drop 512) (qcM (b.take 512)).1.size).1.1,512+512*padN (padC (b.drop 512) (qcM (b.take 512)).1.size).1.1.length),0):=by
 rw [qaD,if_neg h,if_neg (by simpa using h2),if_neg (by simpa using h3)]
theorem qnV {h:HeadV} {d:List UInt8} (more:List UInt8) (e:qdB h=0) (hs:h.size=(d.length:Int)) (hd:d.length<8589934592):
  qaD (hdB h++(padF d++more))=((h,d,512+512*padN d.length),0):=by
 have hl:=qf2 e
 have h1:(hdB h++(padF d++more)).take 512=hdB h:=by
  rw [List.take_append_of_le_length (by omega),List.take_of_length_le (by omega)]
 have h2:(hdB h++(padF d++more)).drop 512=padF d++more:=by
  rw [List.drop_append_of_le_length (by omega),List.drop_of_length_le (by omega),List.nil_append]
 have h3:=qzE e;have h4:=q49 d more hd;rw [qnU (by rw [List.length_append,hl];omega) (by rw [h1,h3]) (by rw [h1,h2,h3];simp only [hs,h4]),h1,h2,h3];simp only [hs,h4]
def qcE (b:List UInt8):(HeadV×List Rc×List UInt8×Nat) ×Int:=
 if (qaD b).2≠0 then ((qbE, [], [],0),(qaD b).2)
 else if (qaD b).1.1.typ=120 then
  if (paxR (qaD b).1.2.1).2≠0 then ((qbE, [], [],0),(paxR (qaD b).1.2.1).2)
  else if (qaD (b.drop (qaD b).1.2.2)).2≠0 then ((qbE, [], [],0),(qaD (b.drop (qaD b).1.2.2)).2)
  else (((qaD (b.drop (qaD b).1.2.2)).1.1,(paxR (qaD b).1.2.1).1,(qaD (b.drop (qaD b).1.2.2)).1.2.1,(qaD b).1.2.2+(qaD (b.drop (qaD b).1.2.2)).1.2.2),0)
 else (((qaD b).1.1, [],(qaD b).1.2.1,(qaD b).1.2.2),0)
theorem qm1 {b:List UInt8} (h:(qaD b).2≠0):qcE b=((qbE, [], [],0),(qaD b).2):=if_pos h
theorem qt3 {b:List UInt8} (h:(qaD b).2=0) (h2:(qaD b).1.1.typ=120) (h3:(paxR (qaD b).1.2.1).2≠0):qcE b=((qbE, [], [],0),(paxR (qaD b).1.2.1).2):=by
 rw [qcE,if_neg (by simpa using h),if_pos h2,if_pos h3]
theorem qpO {b:List UInt8} (h:(qaD b).2=0) (h2:(qaD b).1.1.typ=120) (h3:(paxR (qaD b).1.2.1).2=0) (h4:(qaD (b.drop (qaD b).1.2.2)).2≠0):qcE b=((qbE, [], [],0),(qaD (b.drop (qaD b).1.2.2)).2):=by
 rw [qcE,if_neg (by simpa using h),if_pos h2,if_neg (by simpa using h3),if_pos h4]
theorem qt2 {b:List UInt8} (h:(qaD b).2=0) (h2:(qaD b).1.1.typ=120) (h3:(paxR (qaD b).1.2.1).2=0) (h4:(qaD (b.drop (qaD b).1.2.2)).2=0):
  qcE b=(((qaD (b.drop (qaD b).1.2.2)).1.1,(paxR (qaD b).1.2.1).1,(qaD (b.drop (qaD b).1.2.2)).1.2.1,(qaD b).1.2.2+(qaD (b.drop (qaD b).1.2.2)).1.2.2),0):=by
 rw [qcE,if_neg (by simpa using h),if_pos h2,if_neg (by simpa using h3),if_neg (by simpa using h4)]
theorem qt4 {b:List UInt8} (h:(qaD b).2=0) (h2:(qaD b).1.1.typ≠120):qcE b=(((qaD b).1.1, [],(qaD b).1.2.1,(qaD b).1.2.2),0):=by
 rw [qcE,if_neg (by simpa using h),if_neg h2]
theorem typM_ne (k:Int):typM k≠120:=by
 unfold typM
 split
 ·decide
 ·split
  ·decide
  ·split<;>decide
theorem q43 {x:EntV} (h:entE x=0):paxR (qcD (qa1 x))=(qa1 x,0):=qrH (q0Y _ (qf9 (qi0 h)).2.2) (qi0 h)
theorem qoE {x:EntV} (h:entE x=0):qa4 x=(if qa1 x= []then []else hdB (paxH (qcD (qa1 x)).length)++padF (qcD (qa1 x)))++(hdB (qb9 x)++padF x.data):=by
 unfold qa4 hdB;rw [qmY h]
theorem qi3 {x:EntV} (h:entE x=0) (more:List UInt8):qcE (qa4 x++more)=((qb9 x,qa1 x,x.data,(qa4 x).length),0):=by
 have g:=qcP h;have hd:x.data.length<8589934592:=by have:=g.data;omega
 have hlen:=qqJ h;have h2:=qhF h;have hb:=qoE h
 by_cases hr:qa1 x= []
 ·rw [if_pos hr,List.nil_append]at hb;rw [if_pos hr]at hlen;have h1:=qnV more (qhP h) rfl hd;have e:qa4 x++more=hdB (qb9 x)++(padF x.data++more):=by rw [hb,List.append_assoc]
  rw [e,qt4 (by rw [h1]) (by rw [h1];exact typM_ne _),h1,hlen,hr];simp only [Prod.mk.injEq,true_and,and_true];omega
 ·rw [if_neg hr]at hb hlen;have h3:=qnV more (qhP h) rfl hd;have h1:=qnV (d:=qcD (qa1 x)) (hdB (qb9 x)++(padF x.data++more)) (qiD h2) rfl (by omega)
  have e:qa4 x++more=hdB (paxH (qcD (qa1 x)).length)++(padF (qcD (qa1 x))++(hdB (qb9 x)++(padF x.data++more))):=by
   rw [hb];simp only [List.append_assoc]
  have e2:(qa4 x++more).drop (512+512*padN (qcD (qa1 x)).length)=hdB (qb9 x)++(padF x.data++more):=by
   rw [e,←List.append_assoc,List.drop_append_of_le_length (by rw [List.length_append,qf2 (qiD h2),qcL];omega),List.drop_of_length_le (by rw [List.length_append,qf2 (qiD h2),qcL];omega),List.nil_append]
  rw [←e]at h1;have hp:=q43 h;rw [qt2 (by rw [h1]) (by rw [h1];rfl) (by rw [h1];simp only [hp]) (by rw [h1];simp only [e2,h3]),h1];simp only [e2,h3,hp,Prod.mk.injEq,true_and,and_true];omega
theorem q2Q {x y:EntV} (hx:entE x=0) (hy:entE y=0) (h:qa4 x=qa4 y):x=y:=by
 have h1:=qi3 hx [];rw [h,qi3 hy []]at h1;simp only [Prod.mk.injEq,and_true]at h1;obtain ⟨a,b,c⟩:=h1;have h2:=(EntV.ext_iff' _ _).2 (qw6 hx hy a.symm b.symm).1;exact (EntV.ext_iff' _ _).1 ⟨h2.1,h2.2.1,h2.2.2.1,h2.2.2.2.1,c.symm⟩
def entZ:EntV:=⟨[],0, [],⟨0,0,0, [], [],0,0⟩, []⟩
open Classical in
noncomputable def qaK (b:List UInt8):(EntV×Nat) ×Int:=
 if (qcE b).2≠0 then ((entZ,0),(qcE b).2)
 else if h: ∃x,entE x=0∧qa4 x=b.take (qcE b).1.2.2.2 then ((h.choose,(qcE b).1.2.2.2),0)else ((entZ,0),3)
theorem qlY {b:List UInt8} (h:(qcE b).2≠0):qaK b=((entZ,0),(qcE b).2):=by rw [qaK,if_pos h]
theorem qrE {b:List UInt8} {x:EntV} (h:(qcE b).2=0) (hx:entE x=0) (he:qa4 x=b.take (qcE b).1.2.2.2):qaK b=((x,(qcE b).1.2.2.2),0):=by
 have hex: ∃x,entE x=0∧qa4 x=b.take (qcE b).1.2.2.2:=⟨x,hx,he⟩;rw [qaK,if_neg (by simpa using h),dif_pos hex];have h1:=hex.choose_spec;rw [q2Q h1.1 hx (h1.2.trans he.symm)]
theorem q4S {b:List UInt8} (h:(qcE b).2=0) (hn: ¬ ∃x,entE x=0∧qa4 x=b.take (qcE b).1.2.2.2):qaK b=((entZ,0),3):=by
 rw [qaK,if_neg (by simpa using h),dif_neg hn]
theorem read_of {x:EntV} (h:entE x=0) (more:List UInt8):qaK (qa4 x++more)=((x,(qa4 x).length),0):=by
 have h1:=qi3 h more;rw [qrE (x:=x) (by rw [h1]) h (by rw [h1];simp only [List.take_left']),h1]
theorem q4T (b:List UInt8):((qaK b).2≠0∧(qaK b).1=(entZ,0))∨((qaK b).2=0∧entE (qaK b).1.1=0∧qa4 (qaK b).1.1=b.take (qaK b).1.2∧(qaK b).1.2=(qa4 (qaK b).1.1).length):=by
 by_cases h:(qcE b).2=0
 ·by_cases hex: ∃x,entE x=0∧qa4 x=b.take (qcE b).1.2.2.2
  ·obtain ⟨x,hx,he⟩:=hex;rw [qrE h hx he];refine .inr ⟨rfl,hx,he,?_⟩;have h1:=qi3 hx (b.drop (qcE b).1.2.2.2);rw [he,List.take_append_drop,←he]at h1;show (qcE b).1.2.2.2=_
   conv=>lhs;rw [h1]
  ·rw [q4S h hex];exact .inl ⟨by decide,rfl⟩
 ·rw [qlY h];exact .inl ⟨h,rfl⟩
def Told (h:HeadV) (rs:List Rc) (d:List UInt8) (y:EntV):Prop:= ∀x,entE x=0→qb9 x=h→qa1 x=rs→x.data=d→y=x
theorem qtT {b:List UInt8} {h:HeadV} {rs:List Rc} {d:List UInt8} {n:Nat} {y:EntV} (hp:qcE b=((h,rs,d,n),0)) (ht:Told h rs d y):
  qaK b=if entE y=0∧qa4 y=b.take n then ((y,n),0)else ((entZ,0),3):=by
 by_cases hy:entE y=0∧qa4 y=b.take n
 ·rw [if_pos hy,qrE (x:=y) (by rw [hp]) hy.1 (by rw [hp];exact hy.2),hp]
 ·rw [if_neg hy,q4S (by rw [hp])];rw [hp];rintro ⟨x,hx,he⟩;have h1:=qi3 hx (b.drop n);rw [he,List.take_append_drop,hp]at h1;simp only [Prod.mk.injEq,and_true]at h1;obtain ⟨a,b',c,-⟩:=h1;have e:=ht x hx a.symm b'.symm c.symm;subst e;exact hy ⟨hx,he⟩
def qoW (c:UInt8):Int:=if c=48 then 1 else if c=53 then 2 else if c=50 then 3 else if c=49 then 4 else 0
theorem q1Q {k:Int} (h:1≤k∧k≤4):qoW (typM k)=k:=by
 have:k=1∨k=2∨k=3∨k=4:=by omega
 rcases this with rfl|rfl|rfl|rfl<;>rfl
theorem qv7 {h:HeadV} {rs:List Rc} {d:List UInt8} {y:EntV}
  (h1:y.path=(look qbF rs).getD (oneV h.pre h.name).1) (h2:y.kind=qoW h.typ) (h3:y.target=(look qbM rs).getD h.link) (h4:y.data=d) (h5:y.md.mode=h.mode)
  (h6:(look kUid rs=none→y.md.uid=h.uid)∧ ∀m,0≤m→m≤1125899906842624→look kUid rs=some (Lib.itoa m)→y.md.uid=m)
  (h7:(look kGid rs=none→y.md.gid=h.gid)∧ ∀m,0≤m→m≤1125899906842624→look kGid rs=some (Lib.itoa m)→y.md.gid=m)
  (h8:y.md.user=(look qaZ rs).getD h.user) (h9:y.md.group=(look qaY rs).getD h.group)
  (hA:(look qaW rs=none→y.md.second=h.time∧y.md.nano=0)∧ ∀v,look qaW rs=some v→y.md.second=(qcC v).1∧y.md.nano=(qcC v).2.1):Told h rs d y:=by
 rintro x hx rfl rfl rfl;have g:=qcP hx;rw [qnF]at h1;rw [qnG]at h3;rw [qrU]at h6;rw [qrV]at h7;rw [qkG]at h8;rw [qkI]at h9;rw [qkH]at hA
 have e1:y.path=x.path:=by
  rw [h1]
  by_cases hc:(cutV x.path).2.2≠0
  ·rw [if_pos hc];rfl
  ·rw [if_neg hc];have hc0:(cutV x.path).2.2=0:=by simpa using hc
   have:=(qsN (l:=x.path) (p:=(cutV x.path).1) (n:=(cutV x.path).2.1) (by rw [←hc0])).1;show (oneV (qb9 x).pre (qb9 x).name).1=x.path;unfold qb9;simp only;rw [if_neg hc,this]
 have e2:y.kind=x.kind:=by rw [h2];exact q1Q g.kind
 have e3:y.target=x.target:=by
  rw [h3]
  by_cases hc:100<x.target.length
  ·rw [if_pos hc];rfl
  ·rw [if_neg hc];show (qb9 x).link=_;unfold qb9;simp only;rw [if_neg hc]
 have e5:y.md.user=x.md.user:=by
  rw [h8]
  by_cases hc:31<x.md.user.length
  ·rw [if_pos hc];rfl
  ·rw [if_neg hc];show (qb9 x).user=_;unfold qb9;simp only;rw [if_neg hc]
 have e6:y.md.group=x.md.group:=by
  rw [h9]
  by_cases hc:31<x.md.group.length
  ·rw [if_pos hc];rfl
  ·rw [if_neg hc];show (qb9 x).group=_;unfold qb9;simp only;rw [if_neg hc]
 have e7:y.md.uid=x.md.uid:=by
  by_cases hc:2097152≤x.md.uid
  ·rw [if_pos hc]at h6;exact h6.2 _ g.uid.1 g.uid.2 rfl
  ·rw [if_neg hc]at h6;rw [h6.1 rfl];unfold qb9;simp only;rw [if_neg hc]
 have e8:y.md.gid=x.md.gid:=by
  by_cases hc:2097152≤x.md.gid
  ·rw [if_pos hc]at h7;exact h7.2 _ g.gid.1 g.gid.2 rfl
  ·rw [if_neg hc]at h7;rw [h7.1 rfl];unfold qb9;simp only;rw [if_neg hc]
 have e9:y.md.second=x.md.second∧y.md.nano=x.md.nano:=by
  by_cases hc:qnH x=true
  ·rw [if_pos hc]at hA;have h:=hA.2 _ rfl;rw [qlU g.time,qh6 _ _ g.time]at h;exact h
  ·rw [if_neg hc]at hA;obtain ⟨a,b⟩:=hA.1 rfl;rw [a,b]
   have hl2: ¬(x.md.nano≠0∨x.md.second<0∨8589934592≤x.md.second):=by
    unfold qnH at hc;simpa using hc
   refine ⟨?_,by omega⟩;unfold qb9;simp only;rw [if_neg hc]
 have e4:y.md.mode=x.md.mode:=h5
 have ext: ∀a b:MetaV,a.mode=b.mode→a.uid=b.uid→a.gid=b.gid→a.user=b.user→a.group=b.group→a.second=b.second→a.nano=b.nano→a=b:=by
  rintro ⟨a1,a2,a3,a4,a5,a6,a7⟩ ⟨b1,b2,b3,b4,b5,b6,b7⟩ g1 g2 g3 g4 g5 g6 g7;simp only at g1 g2 g3 g4 g5 g6 g7;subst g1 g2 g3 g4 g5 g6 g7
  rfl
 exact (EntV.ext_iff' _ _).1 ⟨e1,e2,e3,ext _ _ e4 e7 e8 e5 e6 e9.1 e9.2,h4⟩
def numV (l:List UInt8):Int:=match Lib.atoiAll l with
 | .ok v=>v
 | .range=>Lib.atoiSat l
 |_=>0
theorem qt7 {m:Int} (h0:0≤m) (h1:m≤1125899906842624):numV (Lib.itoa m)=m:=by
 have e:Lib.itoa m=Lib.decDigits m.toNat:=by unfold Lib.itoa;rw [if_neg (by omega)]
 have ha:Lib.atoiAll (Lib.decDigits m.toNat)= .ok (m.toNat:Int):=by
  rw [Lib.atoiAll_short _ (Nat.le_trans (qcX m.toNat 15 (by omega)) (by decide))];obtain ⟨c,r,e,h1,h2,-⟩:=qdY m.toNat;have hv:=qcG m.toNat;rw [e]at hv⊢;have c1:(c==45)=false:=by rw [beq_eq_false_iff_ne];rintro rfl;exact absurd h1 (by decide)
  have c2:(c==43)=false:=by rw [beq_eq_false_iff_ne];rintro rfl;exact absurd h1 (by decide)
  simp only [Lib.atoi,c1,c2];simp [Lib.decNat,hv,Lib.NumEnd.ofOption]
 unfold numV;rw [e,ha];show (m.toNat:Int)=m;omega
def qeV (l:List Rc):List (List UInt8):=l.map (·.1)
theorem q76 {last:List UInt8} {l:List Rc} (h:chkG last l=0):(∀r∈l,Op.bytesLess last r.1=true)∧(qeV l).Nodup:=by
 induction l generalizing last with
 |nil=>exact ⟨fun r hr=>(by cases hr),List.nodup_nil⟩
 |cons x l ih=>
  by_cases h1:chkR x.1 x.2=0
  ·cases h2:Op.bytesLess last x.1 with
   |false=>rw [qqH h1 h2]at h;cases h
   |true=>
    rw [qsS h1 h2]at h;obtain ⟨a,b⟩:=ih h;refine ⟨fun r hr=> ?_,?_⟩
    ·rcases List.mem_cons.1 hr with rfl|hr
     ·exact h2
     ·exact q1J _ _ _ h2 (a r hr)
    ·unfold qeV;rw [List.map_cons,List.nodup_cons];refine ⟨fun hm=> ?_,b⟩;obtain ⟨r,hr,e⟩:=List.mem_map.1 hm;have:=a r hr;rw [e,quH]at this;cases this
  ·rw [qzM h1]at h;exact absurd h h1
theorem qtZ (b:List UInt8):(qeV (paxR b).1).Nodup:=by
 by_cases h1:(qcK b).2=0
 ·by_cases h2:chkP (qcK b).1=0
  ·rw [qrH (x:=(qcK b).1) (by rw [←h1]) h2];exact (q76 (qf9 h2).2.1).2
  ·rw [qrI (x:=(qcK b).1) (by rw [←h1]) h2];exact List.nodup_nil
 ·have:paxR b=([],(qcK b).2):=by unfold paxR;rw [if_pos h1]
  rw [this];exact List.nodup_nil
theorem q5X {K:List UInt8} {l:List Rc} (h:K∉qeV l):look K l=none:=by
 unfold look;rw [Option.map_eq_none_iff,List.find?_eq_none];intro r hr e;exact h (List.mem_map.2 ⟨r,hr,of_decide_eq_true e⟩)
theorem qjD {K v:List UInt8} {l:List Rc} (hn:(qeV l).Nodup):look K l=some v↔(K,v)∈l:=by
 induction l with
 |nil=>simp [look]
 |cons x l ih=>
  unfold qeV at hn;rw [List.map_cons,List.nodup_cons]at hn;obtain ⟨k,u⟩:=x
  by_cases hk:k=K
  ·have e:look K ((k,u)::l)=some u:=by unfold look;rw [List.find?_cons];simp [hk]
   rw [e];constructor
   ·intro h;injection h with h;subst h hk;exact List.mem_cons_self ..
   ·intro h;rcases List.mem_cons.1 h with h|h
    ·injection h with _ h;rw [h]
    ·exact absurd (List.mem_map.2 ⟨_,h,hk.symm⟩) hn.1
  ·have e:look K ((k,u)::l)=look K l:=by unfold look;rw [List.find?_cons];simp [hk]
   rw [e,ih hn.2,List.mem_cons];constructor
   ·exact .inr
   ·rintro (h|h)
    ·injection h with h _;exact absurd h.symm hk
    ·exact h
theorem q5W {p rs:List Rc} (hp:(qeV p).Nodup) (hr:(qeV rs).Nodup) (h: ∀r,r∈p↔r∈rs) (K:List UInt8):look K p=look K rs:=by
 cases h1:look K rs with
 |some v=>rw [qjD hp,h,←qjD hr,h1]
 |none=>
  cases h2:look K p with
  |none=>rfl
  |some v=>
   rw [qjD hp,h,←qjD hr,h1]at h2;cases h2
theorem q5V {K k v:List UInt8} {p:List Rc} (hk:k∉qeV p):look K (p++ [(k,v)])=if k=K then some v else look K p:=by
 by_cases h:k=K
 ·rw [if_pos h];have:look K p=none:=q5X (h▸hk);unfold look at this⊢;rw [Option.map_eq_none_iff]at this;rw [List.find?_append,this];simp [h]
 ·rw [if_neg h];unfold look;rw [List.find?_append];simp [h]
def takF (y:EntV) (r:Rc):EntV:=
 if r.1=kGid then {y with md:= {y.md with gid:=numV r.2} }
 else if r.1=qaY then {y with md:= {y.md with group:=r.2} }
 else if r.1=qbM then {y with target:=r.2}
 else if r.1=qaW then {y with md:= {y.md with second:=(qcC r.2).1,nano:=(qcC r.2).2.1} }
 else if r.1=qbF then {y with path:=r.2}
 else if r.1=kUid then {y with md:= {y.md with uid:=numV r.2} }
 else if r.1=qaZ then {y with md:= {y.md with user:=r.2} }
 else y
def qoK (h:HeadV) (d:List UInt8):EntV:=⟨(oneV h.pre h.name).1,qoW h.typ,h.link,⟨h.mode,h.uid,h.gid,h.user,h.group,h.time,0⟩,d⟩
structure Took (x0:EntV) (p:List Rc) (y:EntV):Prop where
 path:y.path=(look qbF p).getD x0.path
 kind:y.kind=x0.kind
 target:y.target=(look qbM p).getD x0.target
 data:y.data=x0.data
 mode:y.md.mode=x0.md.mode
 uid:y.md.uid=((look kUid p).map numV).getD x0.md.uid
 gid:y.md.gid=((look kGid p).map numV).getD x0.md.gid
 user:y.md.user=(look qaZ p).getD x0.md.user
 group:y.md.group=(look qaY p).getD x0.md.group
 second:y.md.second=((look qaW p).map fun v=>(qcC v).1).getD x0.md.second
 nano:y.md.nano=((look qaW p).map fun v=>(qcC v).2.1).getD x0.md.nano
theorem Took.start (x0:EntV):Took x0 [] x0:=⟨rfl,rfl,rfl,rfl,rfl,rfl,rfl,rfl,rfl,rfl,rfl⟩
theorem Took.step {x0 y:EntV} {p:List Rc} (h:Took x0 p y) {r:Rc} (hk:r.1∉qeV p):Took x0 (p++ [r]) (takF y r):=by
 obtain ⟨k,v⟩:=r;replace hk:k∉qeV p:=hk;have L:=fun K=>q5V (K:=K) (v:=v) hk;have hne: ∀K,k≠K→look K (p++ [(k,v)])=look K p:=fun K h=>by rw [L,if_neg h]
 unfold takF;simp only
 by_cases h1:k=kGid
 ·subst h1;rw [if_pos rfl];constructor
  case gid=>show numV v=_;rw [L,if_pos rfl];rfl
  all_goals ((try simp only [hne qbF (by decide),hne qbM (by decide),hne kUid (by decide),hne qaZ (by decide),hne qaY (by decide),hne qaW (by decide)]);first|exact h.path|exact h.kind|exact h.target|exact h.data|exact h.mode|exact h.uid|exact h.user|exact h.group|exact h.second|exact h.nano)
 rw [if_neg h1]
 by_cases h2:k=qaY
 ·subst h2;rw [if_pos rfl];constructor
  case group=>show v=_;rw [L,if_pos rfl];rfl
  all_goals ((try simp only [hne qbF (by decide),hne qbM (by decide),hne kUid (by decide),hne qaZ (by decide),hne kGid (by decide),hne qaW (by decide)]);first|exact h.path|exact h.kind|exact h.target|exact h.data|exact h.mode|exact h.uid|exact h.user|exact h.gid|exact h.second|exact h.nano)
 rw [if_neg h2]
 by_cases h3:k=qbM
 ·subst h3;rw [if_pos rfl];constructor
  case target=>show v=_;rw [L,if_pos rfl];rfl
  all_goals ((try simp only [hne qbF (by decide),hne qaY (by decide),hne kUid (by decide),hne qaZ (by decide),hne kGid (by decide),hne qaW (by decide)]);first|exact h.path|exact h.kind|exact h.data|exact h.mode|exact h.uid|exact h.user|exact h.gid|exact h.group|exact h.second|exact h.nano)
 rw [if_neg h3]
 by_cases h4:k=qaW
 ·subst h4;rw [if_pos rfl];constructor
  case second=>show (qcC v).1=_;rw [L,if_pos rfl];rfl
  case nano=>show (qcC v).2.1=_;rw [L,if_pos rfl];rfl
  all_goals ((try simp only [hne qbF (by decide),hne qaY (by decide),hne kUid (by decide),hne qaZ (by decide),hne kGid (by decide),hne qbM (by decide)]);first|exact h.path|exact h.kind|exact h.target|exact h.data|exact h.mode|exact h.uid|exact h.user|exact h.gid|exact h.group)
 rw [if_neg h4]
 by_cases h5:k=qbF
 ·subst h5;rw [if_pos rfl];constructor
  case path=>show v=_;rw [L,if_pos rfl];rfl
  all_goals ((try simp only [hne qaW (by decide),hne qaY (by decide),hne kUid (by decide),hne qaZ (by decide),hne kGid (by decide),hne qbM (by decide)]);first|exact h.kind|exact h.target|exact h.data|exact h.mode|exact h.uid|exact h.user|exact h.gid|exact h.group|exact h.second|exact h.nano)
 rw [if_neg h5]
 by_cases h6:k=kUid
 ·subst h6;rw [if_pos rfl];constructor
  case uid=>show numV v=_;rw [L,if_pos rfl];rfl
  all_goals ((try simp only [hne qaW (by decide),hne qaY (by decide),hne qbF (by decide),hne qaZ (by decide),hne kGid (by decide),hne qbM (by decide)]);first|exact h.path|exact h.kind|exact h.target|exact h.data|exact h.mode|exact h.user|exact h.gid|exact h.group|exact h.second|exact h.nano)
 rw [if_neg h6]
 by_cases h7:k=qaZ
 ·subst h7;rw [if_pos rfl];constructor
  case user=>show v=_;rw [L,if_pos rfl];rfl
  all_goals ((try simp only [hne qaW (by decide),hne qaY (by decide),hne qbF (by decide),hne kUid (by decide),hne kGid (by decide),hne qbM (by decide)]);first|exact h.path|exact h.kind|exact h.target|exact h.data|exact h.mode|exact h.uid|exact h.gid|exact h.group|exact h.second|exact h.nano)
 rw [if_neg h7];constructor
 all_goals ((try simp only [hne qaW h4,hne qaY h2,hne qbF h5,hne kUid h6,hne kGid h1,hne qbM h3,hne qaZ h7]);first|exact h.path|exact h.kind|exact h.target|exact h.data|exact h.mode|exact h.uid|exact h.gid|exact h.user|exact h.group|exact h.second|exact h.nano)
theorem qs7 (x0:EntV): ∀(q p:List Rc) (y:EntV),Took x0 p y→(qeV (p++q)).Nodup→Took x0 (p++q) (q.foldl takF y)
 | [],p,y,h,hn=>by rw [List.append_nil];exact h
 |r::q,p,y,h,hn=>by
  have e:p++r::q=(p++ [r])++q:=by simp
  rw [e]at hn⊢;refine qs7 x0 q (p++ [r]) (takF y r) (h.step ?_) hn;have:=(List.nodup_append.1 (show (qeV (p++ [r])++qeV q).Nodup by unfold qeV at hn⊢;rw [←List.map_append];exact hn)).1;unfold qeV at this⊢;rw [List.map_append,List.nodup_append]at this;intro hm;exact this.2.2 _ hm _ (by simp) rfl
theorem qyA (x0:EntV) (p:List Rc) (hn:(qeV p).Nodup):Took x0 p (p.foldl takF x0):=by
 have:=qs7 x0 p [] x0 (Took.start x0) (by simpa using hn);simpa using this
theorem q3M {h:HeadV} {rs p:List Rc} {d:List UInt8} {y:EntV} (hp:(qeV p).Nodup) (hr:(qeV rs).Nodup) (hs: ∀r,r∈p↔r∈rs) (H:Took (qoK h d) p y):Told h rs d y:=by
 have L:=q5W hp hr hs;obtain ⟨g1,g2,g3,g4,g5,g6,g7,g8,g9,gA,gB⟩:=H;simp only [L]at g1 g3 g6 g7 g8 g9 gA gB
 refine qv7 g1 g2 g3 g4 g5 ⟨fun e=>by rw [g6,e];rfl,fun m a b e=>by rw [g6,e];exact qt7 a b⟩ ⟨fun e=>by rw [g7,e];rfl,fun m a b e=>by rw [g7,e];exact qt7 a b⟩ g8 g9
  ⟨fun e=>⟨by rw [gA,e];rfl,by rw [gB,e];rfl⟩,fun v e=>⟨by rw [gA,e];rfl,by rw [gB,e];rfl⟩⟩
theorem qs8 {h:HeadV} {rs:List Rc} {d:List UInt8} (hr:(qeV rs).Nodup):Told h rs d (rs.foldl takF (qoK h d)):=
 q3M hr hr (fun _=>Iff.rfl) (qyA _ _ hr)
theorem q47 {l:List UInt8} {n:Int} (h:(padC l n).2=0):(0≤n∧n<8589934592)∧512*padN n.toNat≤l.length∧(padC l n).1.1.length=n.toNat:=by
 by_cases hr:0≤n∧n<8589934592
 ·by_cases h2:l.length<512*padN n.toNat
  ·rw [qpQ hr h2]at h;cases h
  ·cases h3:allZ ((l.take (512*padN n.toNat)).drop n.toNat)with
   |false=>rw [qi5 hr (by omega) h3]at h;cases h
   |true=>
    rw [qm3 hr (by omega) h3];have:=qm2 n.toNat;exact ⟨hr,by omega,by show (l.take n.toNat).length=_;rw [List.length_take];omega⟩
 ·rw [qhM hr]at h;cases h
theorem q48 (l:List UInt8) (n:Int):(padC (l.take (512*(padB n).1.toNat)) n).1.1=(padC l n).1.1∧(padC (l.take (512*(padB n).1.toNat)) n).2=(padC l n).2:=by
 by_cases hr:0≤n∧n<8589934592
 ·rw [qm4 hr];show (padC (l.take (512*((padN n.toNat:Nat):Int).toNat)) n).1.1=_∧_;rw [Int.toNat_natCast];have hg:=qm2 n.toNat
  by_cases h2:l.length<512*padN n.toNat
  ·rw [List.take_of_length_le (by omega)];exact ⟨rfl,rfl⟩
  ·have hl:(l.take (512*padN n.toNat)).length=512*padN n.toNat:=by rw [List.length_take];omega
   have ht:(l.take (512*padN n.toNat)).take (512*padN n.toNat)=l.take (512*padN n.toNat):=by rw [List.take_take,Nat.min_self]
   have hn:(l.take (512*padN n.toNat)).take n.toNat=l.take n.toNat:=by rw [List.take_take,Nat.min_eq_left hg]
   cases h3:allZ ((l.take (512*padN n.toNat)).drop n.toNat)with
   |false=>rw [qi5 hr (by omega) h3,qi5 hr (by omega) (by rw [ht];exact h3)];exact ⟨rfl,rfl⟩
   |true=>rw [qm3 hr (by omega) h3,qm3 hr (by omega) (by rw [ht];exact h3),hn];exact ⟨rfl,rfl⟩
 ·rw [qhM hr,qhM hr];exact ⟨rfl,rfl⟩
theorem zaZ (n:Int): ∃k:Nat,(padB n).1=(k:Int)∧k≤16777216:=by
 by_cases hr:0≤n∧n<8589934592
 ·rw [qm4 hr];exact ⟨_,rfl,by unfold padN;omega⟩
 ·rw [qwZ hr];exact ⟨0,rfl,by decide⟩
theorem qu3 {b:List UInt8} (h:(qaD b).2=0): ¬b.length<512∧(qcM (b.take 512)).2=0∧(padC (b.drop 512) (qcM (b.take 512)).1.size).2=0:=by
 by_cases h1:b.length<512
 ·rw [qlF h1]at h;cases h
 ·by_cases h2:(qcM (b.take 512)).2=0
  ·by_cases h3:(padC (b.drop 512) (qcM (b.take 512)).1.size).2=0
   ·exact ⟨h1,h2,h3⟩
   ·rw [qp6 h1 h2 h3]at h;exact absurd h h3
  ·rw [qnW h1 h2]at h;exact absurd h h2
theorem qb7 {b:List UInt8} (h:(qaD b).2=0):(qaD b).1.2.2=512+512*(padB (qcM (b.take 512)).1.size).1.toNat∧(qaD b).1.2.2≤b.length∧(qaD b).1.2.1.length<8589934592:=by
 obtain ⟨h1,h2,h3⟩:=qu3 h;obtain ⟨hr,hl,hs⟩:=q47 h3;rw [qnU h1 h2 h3,qm4 hr];rw [List.length_drop]at hl;refine ⟨?_,?_,?_⟩
 ·show 512+512*padN _=512+512*((padN _:Nat):Int).toNat;rw [hs,Int.toNat_natCast]
 ·show 512+512*padN _≤_;rw [hs];omega
 ·show (padC _ _).1.1.length<_;rw [hs];omega
end Go.Proofs.YtapgoifimhnbdaaGreatDoor
