/- qaX of one kind, in one file: ReaM, ReaP, ReaN, ReaQ. -/
import Derived.Test.YtapgoifimhnbdaaGreatDoorArx
import Derived.Test.YtapgoifimhnbdaaGreatDoorEna
import Derived.Test.YtapgoifimhnbdaaGreatDoorNod
import Derived.Test.YtapgoifimhnbdaaGreatDoorPda
import Derived.Test.YtapgoifimhnbdaaGreatDoorFld
import Derived.Test.YtapgoifimhnbdaaGreatDoorRca
import Derived.Deep.DeepCutAuto
import Derived.BigQuiet
import Derived.Test.YtapgoifimhnbdaaGreatDoorMya
import Derived.Test.YtapgoifimhnbdaaGreatDoorEnt
set_option linter.unusedVariables false
namespace Go.Proofs.YtapgoifimhnbdaaGreatDoor
open Go.RowKit
noncomputable def qlN:Nat→List UInt8→(List EntV×Nat) ×Int
 |0,_=>(([],0),7)
 |f+1,b=>
  if b.length<512 then (([],0),7)
  else if allZ (b.take 512)=true then (([],0),0)
  else if (qaK b).2≠0 then (([],0),(qaK b).2)
  else (((qaK b).1.1::(qlN f (b.drop (qaK b).1.2)).1.1,(qaK b).1.2+(qlN f (b.drop (qaK b).1.2)).1.2),(qlN f (b.drop (qaK b).1.2)).2)
theorem qgP {b:List UInt8} (h:(qaK b).2=0):entE (qaK b).1.1=0∧qa4 (qaK b).1.1=b.take (qaK b).1.2∧(qaK b).1.2=(qa4 (qaK b).1.1).length∧512≤(qaK b).1.2∧(qaK b).1.2≤b.length:=by
 rcases q4T b with ⟨h1,-⟩|⟨-,h2,h3,h4⟩
 ·exact absurd h h1
 ·have h5:=qkV h2;have h6:=congrArg List.length h3;rw [List.length_take]at h6;exact ⟨h2,h3,h4,by omega,by omega⟩
theorem qpB: ∀(f g:Nat) (b:List UInt8),b.length<f→b.length<g→qlN f b=qlN g b
 |0,_,_,h,_=>by omega
 |_,0,_,_,h=>by omega
 |f+1,g+1,b,hf,hg=>by
  unfold qlN
  by_cases h1:b.length<512
  ·rw [if_pos h1,if_pos h1]
  ·rw [if_neg h1,if_neg h1]
   by_cases h2:allZ (b.take 512)=true
   ·rw [if_pos h2,if_pos h2]
   ·rw [if_neg h2,if_neg h2]
    by_cases h3:(qaK b).2≠0
    ·rw [if_pos h3,if_pos h3]
    ·rw [if_neg h3,if_neg h3];have h4:=qgP (by simpa using h3);rw [qpB f g (b.drop (qaK b).1.2) (by rw [List.length_drop];omega) (by rw [List.length_drop];omega)]
noncomputable def qbN (b:List UInt8):(List EntV×Nat) ×Int:=qlN (b.length+1) b
theorem qj2 {b:List UInt8} (h:b.length<512):qbN b=(([],0),7):=by unfold qbN qlN;rw [if_pos h]
theorem qmG {b:List UInt8} (h: ¬b.length<512) (h2:allZ (b.take 512)=true):qbN b=(([],0),0):=by unfold qbN qlN;rw [if_neg h,if_pos h2]
theorem qyE {b:List UInt8} (h: ¬b.length<512) (h2: ¬allZ (b.take 512)=true) (h3:(qaK b).2≠0):qbN b=(([],0),(qaK b).2):=by unfold qbN qlN;rw [if_neg h,if_neg h2,if_pos h3]
theorem qmH {b:List UInt8} (h: ¬b.length<512) (h2: ¬allZ (b.take 512)=true) (h3:(qaK b).2=0):
  qbN b=(((qaK b).1.1::(qbN (b.drop (qaK b).1.2)).1.1,(qaK b).1.2+(qbN (b.drop (qaK b).1.2)).1.2),(qbN (b.drop (qaK b).1.2)).2):=by
 have h4:=qgP h3;have h5:qlN b.length (b.drop (qaK b).1.2)=qbN (b.drop (qaK b).1.2):=qpB _ _ _ (by rw [List.length_drop];omega) (by omega)
 conv=>lhs;unfold qbN qlN
 rw [if_neg h,if_neg h2,if_neg (by simpa using h3),h5]
def qdI (b:List UInt8) (p:List EntV) (at':Nat):Prop:=
 at'≤b.length∧(∀x∈p,entE x=0)∧arcB p=b.take at'∧qbN b=((p++(qbN (b.drop at')).1.1,at'+(qbN (b.drop at')).1.2),(qbN (b.drop at')).2)
theorem qdI.start (b:List UInt8):qdI b [] 0:=⟨Nat.zero_le _,fun x hx=>(by cases hx),by rw [List.take_zero];rfl,by rw [List.drop_zero,Nat.zero_add,List.nil_append]⟩
theorem qdI.next {b:List UInt8} {p:List EntV} {at':Nat} (h:qdI b p at') (h1: ¬(b.drop at').length<512) (h2: ¬allZ ((b.drop at').take 512)=true) (h3:(qaK (b.drop at')).2=0):
  qdI b (p++ [(qaK (b.drop at')).1.1]) (at'+(qaK (b.drop at')).1.2):=by
 obtain ⟨g1,g2,g3,g4⟩:=h;obtain ⟨k1,k2,k3,k4,k5⟩:=qgP h3;rw [List.length_drop]at k5;refine ⟨by omega,fun x hx=> ?_,?_,?_⟩
 ·rcases List.mem_append.1 hx with hx|hx
  ·exact g2 x hx
  ·obtain rfl:=List.mem_singleton.1 hx;exact k1
 ·rw [qzT,qzS,g3,k2,List.take_add]
 ·rw [g4,qmH h1 h2 h3,List.drop_drop];simp only [List.append_assoc,List.singleton_append,Prod.mk.injEq,and_true,true_and];omega
theorem qdI.done {b:List UInt8} {p:List EntV} {at':Nat} (h:qdI b p at') {E:Int} (h1:qbN (b.drop at')=(([],0),E)):qbN b=((p,at'),E):=by
 rw [h.2.2.2,h1,List.append_nil,Nat.add_zero]
theorem qyG (b:List UInt8): ∃E,qdI b (qbN b).1.1 (qbN b).1.2∧qbN (b.drop (qbN b).1.2)=(([],0),E)∧(qbN b).2=E:=by
 have key: ∀(n:Nat) (c:List UInt8),c.length≤n→ ∃E,qdI c (qbN c).1.1 (qbN c).1.2∧qbN (c.drop (qbN c).1.2)=(([],0),E)∧(qbN c).2=E:=by
  intro n
  induction n with
  |zero=>
   intro c hc;have h:=qj2 (b:=c) (by omega);rw [h];exact ⟨7,qdI.start c,by rw [List.drop_zero];exact h,rfl⟩
  |succ n ih=>
   intro c hc
   by_cases h1:c.length<512
   ·have h:=qj2 h1;rw [h];exact ⟨7,qdI.start c,by rw [List.drop_zero];exact h,rfl⟩
   ·by_cases h2:allZ (c.take 512)=true
    ·have h:=qmG h1 h2;rw [h];exact ⟨0,qdI.start c,by rw [List.drop_zero];exact h,rfl⟩
    ·by_cases h3:(qaK c).2=0
     ·obtain ⟨k1,k2,k3,k4,k5⟩:=qgP h3;obtain ⟨E,e1,e2,e3⟩:=ih (c.drop (qaK c).1.2) (by rw [List.length_drop];omega);have h:=qmH h1 h2 h3;obtain ⟨g1,g2,g3,g4⟩:=e1;rw [List.length_drop]at g1;refine ⟨E,?_,?_,by rw [h];exact e3⟩
      ·rw [h];refine ⟨by simp only;omega,fun x hx=> ?_,?_,?_⟩
       ·rcases List.mem_cons.1 hx with rfl|hx
        ·exact k1
        ·exact g2 x hx
       ·simp only;rw [qjW,k2,g3,List.take_add]
       ·simp only;rw [←List.drop_drop,e2,List.append_nil,Nat.add_zero];exact h.trans (by rw [e3])
      ·rw [h];simp only;rw [←List.drop_drop];exact e2
     ·have h:=qyE h1 h2 h3;rw [h];exact ⟨_,qdI.start c,by rw [List.drop_zero];exact h,rfl⟩
 exact key _ b (Nat.le_refl _)
theorem qz0:(qcM (List.replicate 512 0)).2≠0:=by decide+kernel
theorem qzD {h:HeadV} (e:qdB h=0):allZ (hdB h)=false:=by
 cases hz:allZ (hdB h)with
 |false=>rfl
 |true=>
  exfalso
  have h1:hdB h=List.replicate 512 0:=by
   rw [←qf2 e];refine List.eq_replicate_iff.2 ⟨rfl,fun c hc=> ?_⟩;unfold allZ at hz;simpa using List.all_eq_true.1 hz c hc
  have h2:=qzE e;rw [h1]at h2;exact qz0 (by rw [h2])
theorem qxY {x:EntV} (h:entE x=0) (more:List UInt8): ¬allZ ((qa4 x++more).take 512)=true:=by
 have hb:=qoE h
 by_cases hr:qa1 x= []
 ·rw [if_pos hr,List.nil_append]at hb
  have e:(qa4 x++more).take 512=hdB (qb9 x):=by
   rw [hb,List.append_assoc];exact List.take_left' (qf2 (qhP h))
  rw [e,qzD (qhP h)];simp
 ·rw [if_neg hr]at hb
  have e:(qa4 x++more).take 512=hdB (paxH (qcD (qa1 x)).length):=by
   rw [hb];simp only [List.append_assoc];exact List.take_left' (qf2 (qiD (qhF h)))
  rw [e,qzD (qiD (qhF h))];simp
theorem qyF: ∀(l:List EntV) (more:List UInt8),(∀x∈l,entE x=0)→qbN (arcB l++more)=((l++(qbN more).1.1,(arcB l).length+(qbN more).1.2),(qbN more).2)
 | [],more,_=>by rw [zc0,List.nil_append,List.nil_append];simp
 |x::l,more,h=>by
  have hx:=h x List.mem_cons_self;have h1:=read_of hx (arcB l++more);have h2:=qkV hx;have h3:=qyF l more fun y hy=>h y (List.mem_cons_of_mem _ hy);have e:arcB (x::l)++more=qa4 x++(arcB l++more):=by rw [qjW,List.append_assoc]
  rw [e,qmH (by rw [List.length_append];omega) (qxY hx _) (by rw [h1]),h1];simp only;rw [List.drop_left' rfl,h3,qjW,List.length_append];simp only [List.cons_append,Prod.mk.injEq,and_true,true_and];omega
theorem zc5 (n:Nat):allZ (List.replicate n 0)=true:=by
 unfold allZ;exact List.all_eq_true.2 fun c hc=>by rw [List.eq_of_mem_replicate hc];rfl
theorem q0J {n:Nat} (h:512≤n) (more:List UInt8):qbN (List.replicate n 0++more)=(([],0),0):=
 qmG (by rw [List.length_append,List.length_replicate];omega) (by
  rw [List.take_append_of_le_length (by rw [List.length_replicate];exact h),List.take_replicate];exact zc5 _)
noncomputable def arcR (b:List UInt8):List EntV×Int:=
 if (qbN b).2≠0 then ([],(qbN b).2)
 else if b.drop (qbN b).1.2≠List.replicate 1024 0 then ([],3)
 else if qbJ (qbN b).1.1≠0 then ([],qbJ (qbN b).1.1)
 else ((qbN b).1.1,0)
theorem arcR_of {l:List EntV} (h:qbJ l=0):arcR (arcE l)=(l,0):=by
 have h1:=qyF l (List.replicate 1024 0) (qc1 h);have h2:=q0J (n:=1024) (by decide) [];rw [List.append_nil]at h2;rw [h2,List.append_nil,Nat.add_zero,←qoL h]at h1;unfold arcR;rw [h1];simp only;rw [if_neg (fun e=>e rfl),if_neg (not_not_intro (arc_end h)),if_neg (not_not_intro h)]
theorem qjV {b:List UInt8} (h:(arcR b).2=0):qbJ (arcR b).1=0∧arcE (arcR b).1=b:=by
 unfold arcR at h⊢
 by_cases h1:(qbN b).2≠0
 ·rw [if_pos h1]at h;exact absurd h h1
 ·rw [if_neg h1]at h⊢
  by_cases h2:b.drop (qbN b).1.2≠List.replicate 1024 0
  ·rw [if_pos h2]at h;exact absurd h (by decide)
  ·rw [if_neg h2]at h⊢
   by_cases h3:qbJ (qbN b).1.1≠0
   ·rw [if_pos h3]at h;exact absurd h h3
   ·rw [if_neg h3];have h3':qbJ (qbN b).1.1=0:=by simpa using h3
    obtain ⟨E,⟨g1,g2,g3,-⟩,-,-⟩:=qyG b;refine ⟨h3',?_⟩;rw [qoL h3',g3];have h2':b.drop (qbN b).1.2=List.replicate 1024 0:=Classical.byContradiction fun hc=>h2 hc;rw [←h2',List.take_append_drop]
theorem qdI.count {b:List UInt8} {p:List EntV} {a:Nat} (h:qdI b p a):512*p.length≤a:=by
 obtain ⟨h1,h2,h3,-⟩:=h;have h4:=(ql4 p h2).1;rw [h3,List.length_take]at h4;omega
end Go.Proofs.YtapgoifimhnbdaaGreatDoor
set_option maxRecDepth 100000
namespace Go.Proofs.YtapgoifimhnbdaaGreatDoor
open Go.RowKit
open Go.OpenShut
theorem qwS (A:Option Addr) (c:Nat) (l:List UInt8) (hn:l.length=512) (w:World) (hA:qaE w A l):
  Calls Tryz.prog 115 #[.slice A 512 c] w fun e w'=>e= .returned (.bool (allZ l))∧Below w.heap.size w w':=by
 obtain ⟨i0,hi,hz0,hz1,hz2⟩:=info_parts qfW;obtain ⟨M,hMl,hmk,hown⟩:=qrR w 512 (by decide) i0 hi hz0 hz1 hz2;have HB:Hid (Below w.heap.size w (w.alloc (.cells M 5))):=(Below.refl _ _).alloc (Nat.le_refl _) _;have HE:=Lib.hid (qkY A (some ⟨w.heap.size,0,none⟩) 512 c 512 512 l (List.replicate 512 0) hn (by rw [List.length_replicate]) (w.alloc (.cells M 5)) (hA.below HB.out) (qyX (hown w w.heap.size (Nat.le_refl _))))
 have hv:(l==List.replicate 512 0)=allZ l:=by
  rw [ql5,hn,Bool.eq_iff_iff];simp
 rw [hv]at HE;simp only [show ((512:Nat):Int)=512 from rfl]at hmk;clear hMl hown hA hv;go_enter Tryz.func115,Tryz.ntmps115;go_wp2_with fail;refine HE.out.mono ?_;rintro e w1 ⟨rfl,rfl⟩;go_wp2_with fail;go_ret;exact ⟨rfl,HB.out⟩
set_option maxHeartbeats 8000000 in
theorem q0X (A:Option Addr) (n c:Nat) (l:List UInt8) (hn:l.length=n) (hn2:n≤281474976000000) (hc:SlOk A n c) (w:World) (S:Std w) (hA:qaE w A l):
  Calls Tryz.prog 71 #[.slice A n c] w fun e w'=> ∃v xs,e= .returned (.tuple #[v,.int .i64 ((qbN l).1.2:Nat),.int .i64 (qbN l).2])∧xs.map (·.1)=(qbN l).1.1∧OwnE w' w.heap.size v xs∧Below w.heap.size w w':=by
 have HC:=Lib.hid hc;have HA:=Lib.hid hA;have HN:=Lib.hid hn;have hcap:=hc.1;have hmx:=hc.2.1;unfold maxLen at hmx;clear hc hA hn;go_enter Tryz.func71,Tryz.ntmps71;go_wp2_with fail
 go_loopw [5,6] (fun ov av wr=> ∃(a:Nat) (xs:List EntP),av= .int .i64 a∧Hid (qdI l (xs.map (·.1)) a)∧Hid (OwnE wr w.heap.size ov xs)∧Hid (Below w.heap.size w wr)) (fun _ av _=>n-(intOf av).toNat)
 case atStart=>exact ⟨0, [],rfl,qdI.start l,OwnE.nil _ _,Below.refl _ _⟩
 case round=>
  obtain ⟨a,xs,rfl,HS,HF,HB⟩:=hrel;have ha:a≤n:=by have:=HS.out.1;have:=HN.out;omega
  have s2:=fun W=>qeG W A n c a ha;have hna:((n-a:Nat):Int)=(n:Int) -(a:Int):=by omega
  have hcut:=(HA.out.below HB.out).cut (c:=c) (by have:=HN.out;omega) a (by have:=HN.out;omega);have hsl:=HC.out.cut a ha (n-a) (by omega);have hld:(l.drop a).length=n-a:=by rw [List.length_drop,HN.out]
  obtain ⟨m,Hm⟩:=qaA (n-a);have hmn:m≤281474976000000:=by rw [←Hm.out];omega
  by_cases h5:a+512≤n
  ·have h5': ¬(m:Int)<512:=by rw [←Hm.out];omega
   have hl5:((l.drop a).take 512).length=512:=by rw [List.length_take,hld];omega
   have HEm:=Lib.hid fun W (h:Below wr.heap.size wr W)=>qwS (cutA A c a) (c-a) ((l.drop a).take 512) hl5 W ((hcut.below h).take 512);have s1: ∀W:World,(Instr.slice 22 (.slice (cutA A c a) m (c-a)) none (some (.int .i64 512)) none).run Tryz.prog W= .ok (.slice (cutA A c a) 512 (c-a)) W:=fun W=>qiU W (cutA A c a) m (c-a) 512 (by omega);rw [Hm.out]at hsl hld;simp only [Hm.out]at s2;have HM:=Lib.hid (fun W (h:Below wr.heap.size wr W)=>q5T (cutA A c a) m (c-a) (l.drop a) hld hmn hsl W (S.below (HB.out.trans (h.mono HB.out.size))) (hcut.below h));generalize cutA A c a=C at*;obtain ⟨c',Hc'⟩:=qaA (c-a);simp only [Hc'.out]at s1 s2 HM HEm;have hnz: ¬(l.drop a).length<512:=by rw [hld];omega
   have HCt:=Lib.hid HS.out.count;rw [List.length_map]at HCt
   by_cases h2:allZ ((l.drop a).take 512)=true
   ·have hsm:=Lib.hid (HS.out.done (qmG hnz h2));rw [h2]at HEm;clear HM h2 hnz hl5 hld hsl hcut hna HCt;go_wp2_with fail;refine (HEm.out _ (Below.refl _ _)).mono ?_;rintro e x1 ⟨rfl,hb⟩;have HF1:=Lib.hid (HF.out.below hb);have HB1:=Lib.hid (HB.out.trans (hb.mono HB.out.size));clear hb HEm HF HB;go_wp2_with fail;refine bodyPost_ret (v:= .tuple #[u5,.int .i64 (a:Int),.int .i64 0]) (by simp [results,Tryz.results71,go_sem, *]) rfl ?_;rw [hsm.out];exact ⟨_,xs,rfl,rfl,HF1.out,HB1.out⟩
   ·have HErr:=Lib.hid (fun h3=>HS.out.done (qyE hnz h2 h3));have HNext:=Lib.hid (fun h3=>HS.out.next hnz h2 h3);have HStep:=Lib.hid (fun h3=>qgP (b:=l.drop a) h3);rw [Bool.not_eq_true]at h2;rw [h2]at HEm;generalize qaK (l.drop a)=R at HM HErr HNext HStep;obtain ⟨⟨y,N⟩,E2⟩:=R;simp only at HM HErr HNext HStep;have HY:Hid (∀D1 c1,(entC y D1 c1).toArray= #[.string (bs y.path),.int .i64 y.kind,.string (bs y.target),.int .i64 y.md.mode,.int .i64 y.md.uid,.int .i64 y.md.gid,.string (bs y.md.user),.string (bs y.md.group),.int .i64 y.md.second,.int .i64 y.md.nano,.slice D1 y.data.length c1]):=fun _ _=>rfl;simp only [HY.out]at HM;obtain ⟨dl,HDL⟩:=qaA y.data.length;simp only [HDL.out]at HM
    have hNn:E2=0→a+N≤n∧512≤N:=fun h3=>by
     have h4:=(HNext.out h3).1;have h5:=(HStep.out h3).2.2.2.1;have:=HN.out;omega
    clear h2 hnz hl5 hld hsl hcut HY hna;go_wp2_with fail;refine (HEm.out _ (Below.refl _ _)).mono ?_;rintro e x0 ⟨rfl,hb0⟩;have HM0:=Lib.hid (HM.out x0 hb0);have HB0:=Lib.hid hb0;clear HEm HM hb0;go_wp2_with fail;refine HM0.out.mono ?_;rintro e x1 ⟨D1,c1,rfl,-,-,hd1,hb⟩;have hbw:=HB0.out.trans (hb.mono HB0.out.size);have HBa:=Lib.hid ((HB.out.trans (hbw.mono HB.out.size)).alloc (HB.out.trans (hbw.mono HB.out.size)).size (.cells #[.string (bs y.path),.int .i64 y.kind,.string (bs y.target),.int .i64 y.md.mode,.int .i64 y.md.uid,.int .i64 y.md.gid,.string (bs y.md.user),.string (bs y.md.group),.int .i64 y.md.second,.int .i64 y.md.nano,.slice D1 dl c1] 73));have HEa:=Lib.hid (Blk.new x1 73 #[.string (bs y.path),.int .i64 y.kind,.string (bs y.target),.int .i64 y.md.mode,.int .i64 y.md.uid,.int .i64 y.md.gid,.string (bs y.md.user),.string (bs y.md.group),.int .i64 y.md.second,.int .i64 y.md.nano,.slice D1 dl c1]);have HFa:=Lib.hid ((HF.out.below hbw).alloc (.cells #[.string (bs y.path),.int .i64 y.kind,.string (bs y.target),.int .i64 y.md.mode,.int .i64 y.md.uid,.int .i64 y.md.gid,.string (bs y.md.user),.string (bs y.md.group),.int .i64 y.md.second,.int .i64 y.md.nano,.slice D1 dl c1] 73))
    have HDa:=Lib.hid ((hd1.mono (B':=w.heap.size) (Nat.le_trans HB.out.size HB0.out.size)).alloc (.cells #[.string (bs y.path),.int .i64 y.kind,.string (bs y.target),.int .i64 y.md.mode,.int .i64 y.md.uid,.int .i64 y.md.gid,.string (bs y.md.user),.string (bs y.md.group),.int .i64 y.md.second,.int .i64 y.md.nano,.slice D1 dl c1] 73));clear hb hbw hd1 HM0 HF HB HB0
    by_cases h3:E2=0
    ·obtain ⟨hN1,hN2⟩:=hNn h3;have HSn:=Lib.hid (HNext.out h3);subst h3;clear hNn HNext HErr HStep;go_upto_region 11 with fail
     generalize x1.alloc (.cells #[.string (bs y.path),.int .i64 y.kind,.string (bs y.target),.int .i64 y.md.mode,.int .i64 y.md.uid,.int .i64 y.md.gid,.string (bs y.md.user),.string (bs y.md.group),.int .i64 y.md.second,.int .i64 y.md.nano,.slice D1 dl c1] 73)=x2 at HBa HEa HFa HDa⊢;generalize x1.heap.size=g1 at HEa⊢;obtain ⟨⟨p0,p1,p2,p3,p4,p5,p6,p7,p8,p9,pA⟩,-⟩:=qaP HEa.out;have HCN:Hid (∀W:World,qvX (W.alloc (.cells #[.string (bs y.path),.int .i64 y.kind,.string (bs y.target),.int .i64 y.md.mode,.int .i64 y.md.uid,.int .i64 y.md.gid,.string (bs y.md.user),.string (bs y.md.group),.int .i64 y.md.second,.int .i64 y.md.nano,.slice D1 dl c1] 73)) (some ⟨W.heap.size,0,none⟩) [(y,.slice D1 dl c1)]):=fun W=>qkU W (y,.slice D1 dl c1);have hxl:xs.length*512≤n:=by have:=HCt.out;omega
     go_wp2_with (at_builtin;refine Stay.go ?_);refine Stay.on ?_;refine qiO rfl (.tmp 35) (.tmp 37) rfl w.heap.size _ xs rfl (HFa.out.1.alloc _) (some ⟨x2.heap.size,0,none⟩) 1 1 [(y,.slice D1 dl c1)] rfl rfl (HCN.out x2) (by simp [Value.oneCell']) (fun e=>by cases e) (by omega) (by first|(rw [hszA];have:=HBa.out.size;omega)|(simp;have:=HBa.out.size;omega)) ?_;intro v7 w7 ho7 hg7;have HO7:Hid (OwnE w7 w.heap.size v7 (xs++ [(y,.slice D1 dl c1)])):=(HFa.out.alloc _).push (y:=(y,.slice D1 dl c1)) (HDa.out.alloc _) ho7 hg7;have HB7:Hid (Below w.heap.size w w7):=(HBa.out.alloc HBa.out.size _).grown hg7 (by rw [hszA];have:=HBa.out.size;omega) HFa.out.1.above;have HS7:Hid (qdI l ((xs++ [((y,.slice D1 dl c1):EntP)]).map (·.1)) (a+N)):=by unfold Hid;rw [List.map_append];exact HSn.out
     clear ho7 hg7 p0 p1 p2 p3 p4 p5 p6 p7 p8 p9 pA HCN HBa HEa HFa HDa HSn;go_wp2_with fail;go_roundw
     case rel=>exact ⟨a+N,_,by go_num,HS7.out,HO7.out,HB7.out⟩
     case measure=>simp [intOf];omega
    ·have hne:(E2 !=0)=true:=by simpa using h3
     have hsm:=Lib.hid (HErr.out h3);clear hNn HNext HErr HStep;go_wp2_with fail;refine bodyPost_ret (v:= .tuple #[u5,.int .i64 (a:Int),.int .i64 E2]) (by simp [results,Tryz.results71,go_sem, *]) rfl ?_;rw [hsm.out];exact ⟨_,xs,rfl,rfl,HFa.out,HBa.out⟩
  ·have h5':(m:Int)<512:=by rw [←Hm.out];omega
   have hsm:=Lib.hid (HS.out.done (qj2 (b:=l.drop a) (by rw [List.length_drop,HN.out];omega)));simp only [Hm.out]at s2;generalize cutA A c a=C at s2;clear hna hcut hsl hld;go_wp2_with fail;refine bodyPost_ret (v:= .tuple #[u5,.int .i64 (a:Int),.int .i64 7]) (by simp [results,Tryz.results71,go_sem, *]) rfl ?_;rw [hsm.out];exact ⟨_,xs,rfl,rfl,HF.out,HB.out⟩
end Go.Proofs.YtapgoifimhnbdaaGreatDoor
namespace Go.Proofs.YtapgoifimhnbdaaGreatDoor
open Go.RowKit
noncomputable def findR (b:List UInt8) (s:List UInt8):EntV×Int:=
 if (arcR b).2≠0 then (entZ,(arcR b).2)
 else if h:qaS (arcR b).1 s<(arcR b).1.length then ((arcR b).1[qaS (arcR b).1 s],0)
 else (entZ,5)
theorem qpK {x:EntV} (h:entE x=0):x.sz:=by
 obtain ⟨h1,h2,h3⟩:=qfK h;have hp:=qgT h1
 have hm:x.md.user.length≤60∧x.md.group.length≤60:=by
  unfold metE at h2
  split at h2
  ·split at h2
   ·cases h2
   ·omega
  ·cases h2
 have hk:x.data.length≤2000∧x.target.length≤400:=by
  unfold entK at h3
  split at h3
  ·cases h3
  ·split at h3
   ·cases h3
   ·split at h3
    ·cases h3
    ·omega
 exact ⟨⟨by omega,by omega,by omega⟩,by unfold MetaV.sz;omega⟩
end Go.Proofs.YtapgoifimhnbdaaGreatDoor
namespace Go.Proofs.YtapgoifimhnbdaaGreatDoor
open Go.RowKit
open Go.OpenShut
set_option maxHeartbeats 8000000 in
theorem q4U (A:Option Addr) (n c:Nat) (l:List UInt8) (hn:l.length=n) (hn2:n≤281474976000000) (hc:SlOk A n c) (w:World) (S:Std w) (hA:qaE w A l):
  Calls Tryz.prog 26 #[.slice A n c] w fun e w'=> ∃v xs,e= .returned (.tuple #[v,.int .i64 (arcR l).2])∧xs.map (·.1)=(arcR l).1∧OwnE w' w.heap.size v xs∧Below w.heap.size w w':=by
 have HSo:=Lib.hid (q0X A n c l hn hn2 hc w S hA);obtain ⟨E0,⟨ha,hgood,-,-⟩,-,-⟩:=qyG l;rw [hn]at ha;have hHR:arcR l=if (qbN l).2≠0 then ([],(qbN l).2)else if l.drop (qbN l).1.2≠List.replicate 1024 0 then ([],3)else if qbJ (qbN l).1.1≠0 then ([],qbJ (qbN l).1.1)else ((qbN l).1.1,0):=rfl
 generalize qbN l=R at HSo ha hHR hgood;obtain ⟨⟨p,a⟩,E⟩:=R;simp only at HSo ha hHR hgood;have HG:=Lib.hid hgood;have HC:=Lib.hid hc;have HA:=Lib.hid hA;have HN:=Lib.hid hn;have hcap:=hc.1;have hmx:=hc.2.1;unfold maxLen at hmx;clear hc hA hn hgood;go_enter Tryz.func26,Tryz.ntmps26;go_wp2_with fail;refine HSo.out.mono ?_;rintro e x1 ⟨v,xs,rfl,hm,ho,hb⟩;have HM:=Lib.hid hm;have HO:=Lib.hid ho;have HB:=Lib.hid hb;clear hm ho hb HSo
 by_cases hE:E=0
 ·subst hE;rw [if_neg (fun h=>h rfl)]at hHR;have hcut:=(HA.out.below HB.out).cut (c:=c) (by have:=HN.out;omega) a (by have:=HN.out;omega);have s2:=fun W=>qeG W A n c a ha;have hld:(l.drop a).length=n-a:=by rw [List.length_drop,HN.out]
  have HEn:=Lib.hid (zdK (cutA A c a) (n-a) (c-a) (l.drop a) hld (by omega) x1 hcut);generalize cutA A c a=C at s2 HEn
  have hdz:(decide (n-a=1024) &&allZ (l.drop a))=decide (l.drop a=List.replicate 1024 0):=by
   rw [Bool.eq_iff_iff,Bool.and_eq_true,decide_eq_true_eq,decide_eq_true_eq,ql5,decide_eq_true_eq,hld];constructor
   ·rintro ⟨h1,h2⟩;rw [h1]at h2;exact h2
   ·intro h;have h1:=congrArg List.length h;rw [List.length_replicate,hld]at h1;exact ⟨h1,by rw [h1];exact h⟩
  rw [hdz]at HEn;obtain ⟨m,Hm⟩:=qaA (n-a);simp only [Hm.out]at s2 HEn
  by_cases hz:l.drop a=List.replicate 1024 0
  ·rw [decide_eq_true hz]at HEn;rw [if_neg (fun h=>h hz)]at hHR;obtain ⟨A9,c9,rfl,hs9,hN9⟩:=HO.out.at;have hxl:xs.length=p.length:=by rw [←HM.out,List.length_map]
   rw [HM.out]at hN9;have HCk:=Lib.hid (qdX A9 xs.length c9 p hxl.symm hs9 (fun x hx=>qpK (HG.out x hx)) x1 hN9);have HR:=Lib.hid hHR;clear hs9 hN9 hxl hz hcut hld hHR hdz;go_wp2_with fail;refine HEn.out.mono ?_;rintro e x2 ⟨rfl,rfl⟩;go_wp2_with fail;refine HCk.out.mono ?_;rintro e x2 ⟨rfl,hb⟩;have HO2:=Lib.hid (HO.out.below hb);have HB2:=Lib.hid (HB.out.trans (hb.mono HB.out.size));clear hb HEn HCk HO HB;obtain ⟨F,HF⟩:=qaA (qbJ p);simp only [HF.out]at HR⊢
   by_cases h0:F=0
   ·subst h0;rw [if_neg (fun h=>h rfl)]at HR;go_wp2_with fail;refine bodyPost_ret (v:= .tuple #[.slice A9 xs.length c9,.int .i64 0]) (by simp [results,Tryz.results26,go_sem, *]) rfl ?_;rw [HR.out];exact ⟨_,xs,rfl,HM.out,HO2.out,HB2.out⟩
   ·have hne:(F !=0)=true:=by simpa using h0
    rw [if_pos h0]at HR;go_wp2_with fail;refine bodyPost_ret (v:= .tuple #[.slice none 0 0,.int .i64 F]) (by simp [results,Tryz.results26,go_sem, *]) rfl ?_;rw [HR.out];exact ⟨_, [],rfl,rfl,OwnE.nil _ _,HB2.out⟩
  ·rw [decide_eq_false hz]at HEn;rw [if_pos hz]at hHR;have HR:=Lib.hid hHR;clear hz hcut hld hHR hdz;go_wp2_with fail;refine HEn.out.mono ?_;rintro e x2 ⟨rfl,rfl⟩;go_wp2_with fail;refine bodyPost_ret (v:= .tuple #[.slice none 0 0,.int .i64 3]) (by simp [results,Tryz.results26,go_sem, *]) rfl ?_;rw [HR.out];exact ⟨_, [],rfl,rfl,OwnE.nil _ _,HB.out⟩
 ·have hne:(E !=0)=true:=by simpa using hE
  rw [if_pos hE]at hHR;have HR:=Lib.hid hHR;clear hHR;go_wp2_with fail;refine bodyPost_ret (v:= .tuple #[.slice none 0 0,.int .i64 E]) (by simp [results,Tryz.results26,go_sem, *]) rfl ?_;rw [HR.out];exact ⟨_, [],rfl,rfl,OwnE.nil _ _,HB.out⟩
end Go.Proofs.YtapgoifimhnbdaaGreatDoor
