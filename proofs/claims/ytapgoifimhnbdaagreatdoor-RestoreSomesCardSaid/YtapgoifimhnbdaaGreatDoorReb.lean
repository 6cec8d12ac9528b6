/- qaV of one kind, in one file: ReaA, ReaB, ReaD. -/
import Derived.Test.YtapgoifimhnbdaaGreatDoorRea
import Derived.Test.YtapgoifimhnbdaaGreatDoorEnf
import Derived.Test.YtapgoifimhnbdaaGreatDoorPdc
import Derived.Test.YtapgoifimhnbdaaGreatDoorFld
import Derived.Test.YtapgoifimhnbdaaGreatDoorStp
import Derived.Deep.DeepCutAuto
import Derived.BigQuiet
import Derived.Test.YtapgoifimhnbdaaGreatDoorMrf
set_option linter.unusedVariables false
set_option maxRecDepth 100000
namespace Go.Proofs.YtapgoifimhnbdaaGreatDoor
open Go.RowKit
open Go.OpenShut
theorem q74 (B:List UInt8) (n:Nat):((bs B).toList==(zer n).toList)=decide (B=List.replicate n 0):=by
 rw [qcQ,decide_eq_decide];constructor
 ·intro e;have:=congrArg (fun s=>s.data.toList) e;simpa [bs,zer]using this
 ·rintro rfl;rfl
def qvT:Prop:= ∀(A:Option Addr) (n c:Nat) (l:List UInt8),l.length=n→n≤140737488351232→SlOk A n c→ ∀w:World,Std w→qaE w A l→
  Calls Tryz.prog 119 #[.slice A n c] w fun e w'=> ∃D cc,e= .returned (.tuple #[.agg (entC (qaI l).1.1 D cc).toArray,.int .i64 ((qaI l).1.2:Nat),.int .i64 (qaI l).2])∧OwnB w' w.heap.size (.slice D (qaI l).1.1.data.length cc) (qaI l).1.1.data∧Below w.heap.size w w'
set_option maxHeartbeats 8000000 in
theorem q5F (MO:qvT) (A:Option Addr) (n c:Nat) (l:List UInt8) (hn:l.length=n) (hn2:n≤140737488351232) (hc:SlOk A n c) (w:World) (S:Std w) (hA:qaE w A l):
  Calls Tryz.prog 74 #[.slice A n c] w fun e w'=> ∃v xs,e= .returned (.tuple #[v,.int .i64 ((qa9 l).1.2:Nat),.int .i64 (qa9 l).2])∧xs.map (·.1)=(qa9 l).1.1∧OwnE w' w.heap.size v xs∧Below w.heap.size w w':=by
 have HC:=Lib.hid hc;have HA:=Lib.hid hA;have HN:=Lib.hid hn;have hcap:=hc.1;have hmx:=hc.2.1;unfold maxLen at hmx;clear hc hA hn;go_enter Tryz.func74,Tryz.ntmps74;go_wp2_with fail
 go_loopw [5,6] (fun ov av wr=> ∃(a:Nat) (xs:List EntP),av= .int .i64 a∧Hid (qcU l (xs.map (·.1)) a)∧Hid (OwnE wr w.heap.size ov xs)∧Hid (Below w.heap.size w wr)) (fun _ av _=>n-(intOf av).toNat)
 case atStart=>exact ⟨0, [],rfl,qcU.start l,OwnE.nil _ _,Below.refl _ _⟩
 case round=>
  obtain ⟨a,xs,rfl,HS,HF,HB⟩:=hrel;have ha:a≤n:=by have:=HS.out.1;have:=HN.out;omega
  by_cases h5:a+512≤n
  ·have h5':(a:Int)+512≤(n:Int):=by omega
   have hcut:=(HA.out.below HB.out).cut (c:=c) (by have:=HN.out;omega) a (by have:=HN.out;omega);have hsl:=HC.out.cut a ha (n-a) (by omega);have hsl5:=HC.out.cut a ha 512 (by omega)
   have s1: ∀W:World,(Instr.slice 22 (.slice A n c) (some (.int .i64 (a:Int))) (some (.int .i64 ((a:Int)+512))) none).run Tryz.prog W= .ok (.slice (cutA A c a) 512 (c-a)) W:=fun W=>by
    have h:=ql1 W A n c a (a+512) (by omega) (by omega);rw [show a+512-a=512 by omega]at h;exact h
   have s2:=fun W=>qbX W A n c a ha;have hld:(l.drop a).length=n-a:=by rw [List.length_drop,HN.out]
   have hl5:((l.drop a).take 512).length=512:=by rw [List.length_take,hld];omega
   have s3:=fun q=>qaE.conv (w:=wr.drewN q) (hcut.take 512) (c-a) (fun e=>by have h1:=hsl5.2.2 e;have h2:=hsl5.1;omega);simp only [hl5]at s3;have HM:=Lib.hid (fun q=>MO (cutA A c a) (n-a) (c-a) (l.drop a) hld (by omega) hsl (wr.drewN q) (S.below (below_drewN HB.out _)) (hcut.below (below_drewN (Below.refl _ _) _)));generalize cutA A c a=C at*;have hnz: ¬(l.drop a).length<512:=by omega
   have hcz:=q74 ((l.drop a).take 512) 512;have HAZ:=Lib.hid (qhZ ((l.drop a).take 512));rw [hl5]at HAZ;rw [←HAZ.out]at hcz;have HCt:=Lib.hid HS.out.count;rw [List.length_map]at HCt
   by_cases h2:allZ ((l.drop a).take 512)=true
   ·have hsm:=HS.out.done (ql0 hnz h2);rw [h2]at hcz;generalize bs ((l.drop a).take 512)=LB at hcz s3;clear HM HAZ h2 hnz hl5 hld hsl hsl5 hcut s2;go_upto_region 4 with fail
    go_quiet ((go_at_call 75;exact Calls.quiet_of_same (qbO (qcC 512 512 _ rfl (by omega)))));go_wp2_with fail;refine bodyPost_ret (v:= .tuple #[u5,.int .i64 (a:Int),.int .i64 0]) (by simp [results,Tryz.results74,go_sem, *]) rfl ?_;rw [hsm];exact ⟨_,xs,rfl,rfl,HF.out.below (below_drewN (Below.refl _ _) _),below_drewN HB.out _⟩
   ·have HErr:=Lib.hid (fun h3=>HS.out.done (qpZ hnz h2 h3));have HNext:=Lib.hid (fun h3=>HS.out.next hnz h2 h3);have HStep:=Lib.hid (fun h3=>qe1 (b:=l.drop a) h3);rw [Bool.not_eq_true]at h2;rw [h2]at hcz;generalize bs ((l.drop a).take 512)=LB at hcz s3;generalize qaI (l.drop a)=R at HM HErr HNext HStep;obtain ⟨⟨y,N⟩,E2⟩:=R;simp only at HM HErr HNext HStep;have HY:Hid (∀D1 c1,(entC y D1 c1).toArray= #[.string (bs y.path),.int .i64 y.kind,.string (bs y.target),.int .i64 y.md.mode,.int .i64 y.md.uid,.int .i64 y.md.gid,.string (bs y.md.user),.string (bs y.md.group),.int .i64 y.md.second,.int .i64 y.md.nano,.slice D1 y.data.length c1]):=fun _ _=>rfl;simp only [HY.out]at HM;obtain ⟨dl,HDL⟩:=qaA y.data.length;simp only [HDL.out]at HM
    have hNn:E2=0→a+N≤n∧512≤N:=fun h3=>by
     have h4:=(HNext.out h3).1;have h5:=(HStep.out h3).2.2.2.1;have:=HN.out;omega
    clear HAZ h2 hnz hl5 hld hsl hsl5 hcut HY;go_upto_region 4 with fail
    go_quiet ((go_at_call 75;exact Calls.quiet_of_same (qbO (qcC 512 512 _ rfl (by omega)))));go_wp2_with fail;refine (HM.out _).mono ?_;rintro e x1 ⟨D1,c1,rfl,hd1,hb⟩;have hbw:=(below_drewN (Below.refl wr.heap.size wr) _).trans hb;have HBa:=Lib.hid ((HB.out.trans (hbw.mono HB.out.size)).alloc (HB.out.trans (hbw.mono HB.out.size)).size (.cells #[.string (bs y.path),.int .i64 y.kind,.string (bs y.target),.int .i64 y.md.mode,.int .i64 y.md.uid,.int .i64 y.md.gid,.string (bs y.md.user),.string (bs y.md.group),.int .i64 y.md.second,.int .i64 y.md.nano,.slice D1 dl c1] 73));have HEa:=Lib.hid (Blk.new x1 73 #[.string (bs y.path),.int .i64 y.kind,.string (bs y.target),.int .i64 y.md.mode,.int .i64 y.md.uid,.int .i64 y.md.gid,.string (bs y.md.user),.string (bs y.md.group),.int .i64 y.md.second,.int .i64 y.md.nano,.slice D1 dl c1]);have HFa:=Lib.hid ((HF.out.below hbw).alloc (.cells #[.string (bs y.path),.int .i64 y.kind,.string (bs y.target),.int .i64 y.md.mode,.int .i64 y.md.uid,.int .i64 y.md.gid,.string (bs y.md.user),.string (bs y.md.group),.int .i64 y.md.second,.int .i64 y.md.nano,.slice D1 dl c1] 73));have HDa:=Lib.hid ((hd1.mono (B':=w.heap.size) (HB.out.size)).alloc (.cells #[.string (bs y.path),.int .i64 y.kind,.string (bs y.target),.int .i64 y.md.mode,.int .i64 y.md.uid,.int .i64 y.md.gid,.string (bs y.md.user),.string (bs y.md.group),.int .i64 y.md.second,.int .i64 y.md.nano,.slice D1 dl c1] 73));clear hb hbw hd1 HM HF HB
    by_cases h3:E2=0
    ·obtain ⟨hN1,hN2⟩:=hNn h3;have HSn:=Lib.hid (HNext.out h3);subst h3;clear hNn HNext HErr HStep;go_upto_region 7 with fail
     generalize x1.alloc (.cells #[.string (bs y.path),.int .i64 y.kind,.string (bs y.target),.int .i64 y.md.mode,.int .i64 y.md.uid,.int .i64 y.md.gid,.string (bs y.md.user),.string (bs y.md.group),.int .i64 y.md.second,.int .i64 y.md.nano,.slice D1 dl c1] 73)=x2 at HBa HEa HFa HDa⊢;generalize x1.heap.size=g1 at HEa⊢;obtain ⟨⟨p0,p1,p2,p3,p4,p5,p6,p7,p8,p9,pA⟩,-⟩:=qaF HEa.out;have HCN:Hid (∀W:World,qxQ (W.alloc (.cells #[.string (bs y.path),.int .i64 y.kind,.string (bs y.target),.int .i64 y.md.mode,.int .i64 y.md.uid,.int .i64 y.md.gid,.string (bs y.md.user),.string (bs y.md.group),.int .i64 y.md.second,.int .i64 y.md.nano,.slice D1 dl c1] 73)) (some ⟨W.heap.size,0,none⟩) [(y,.slice D1 dl c1)]):=fun W=>qpI W (y,.slice D1 dl c1);have hxl:xs.length*512≤n:=by have:=HCt.out;omega
     go_wp2_with (at_builtin;refine Stay.go ?_);refine Stay.on ?_;refine qnP rfl (.tmp 38) (.tmp 40) rfl w.heap.size _ xs rfl (HFa.out.1.alloc _) (some ⟨x2.heap.size,0,none⟩) 1 1 [(y,.slice D1 dl c1)] rfl rfl (HCN.out x2) (by simp [Value.oneCell']) (fun e=>by cases e) (by omega) (by first|(rw [hszA];have:=HBa.out.size;omega)|(simp;have:=HBa.out.size;omega)) ?_;intro v7 w7 ho7 hg7;have HO7:Hid (OwnE w7 w.heap.size v7 (xs++ [(y,.slice D1 dl c1)])):=(HFa.out.alloc _).push (y:=(y,.slice D1 dl c1)) (HDa.out.alloc _) ho7 hg7;have HB7:Hid (Below w.heap.size w w7):=(HBa.out.alloc HBa.out.size _).grown hg7 (by rw [hszA];have:=HBa.out.size;omega) HFa.out.1.above;have HS7:Hid (qcU l ((xs++ [((y,.slice D1 dl c1):EntP)]).map (·.1)) (a+N)):=by unfold Hid;rw [List.map_append];exact HSn.out
     clear ho7 hg7 p0 p1 p2 p3 p4 p5 p6 p7 p8 p9 pA HCN HBa HEa HFa HDa HSn;go_wp2_with fail;go_roundw
     case rel=>exact ⟨a+N,_,by go_num,HS7.out,HO7.out,HB7.out⟩
     case measure=>simp [intOf];omega
    ·have hne:(E2 !=0)=true:=by simpa using h3
     have hsm:=HErr.out h3;clear hNn HNext HErr HStep;go_wp2_with fail;refine bodyPost_ret (v:= .tuple #[u5,.int .i64 (a:Int),.int .i64 E2]) (by simp [results,Tryz.results74,go_sem, *]) rfl ?_;rw [hsm];exact ⟨_,xs,rfl,rfl,HFa.out,HBa.out⟩
  ·have h5': ¬(a:Int)+512≤(n:Int):=by omega
   have hsm:=Lib.hid (HS.out.done (qhJ (b:=l.drop a) (by rw [List.length_drop,HN.out];omega)));go_wp2_with fail;refine bodyPost_ret (v:= .tuple #[u5,.int .i64 (a:Int),.int .i64 7]) (by simp [results,Tryz.results74,go_sem, *]) rfl ?_;rw [hsm.out]
   first|exact ⟨_,xs,rfl,rfl,HF.out,HB.out⟩|exact ⟨_,rfl,xs,rfl,HF.out,HB.out⟩
set_option maxHeartbeats 8000000 in
theorem q1J (MO:qvT) (A:Option Addr) (n c:Nat) (l:List UInt8) (hn:l.length=n) (hn2:n≤140737488351232) (hc:SlOk A n c) (w:World) (S:Std w) (hA:qaE w A l):
  Calls Tryz.prog 28 #[.slice A n c] w fun e w'=> ∃v xs,e= .returned (.tuple #[v,.int .i64 (arcR l).2])∧xs.map (·.1)=(arcR l).1∧OwnE w' w.heap.size v xs∧Below w.heap.size w w':=by
 have HSo:=Lib.hid (q5F MO A n c l hn hn2 hc w S hA);obtain ⟨E0,⟨ha,hgood,-,-⟩,-,-⟩:=qp0 l;rw [hn]at ha;have HR:Hid (arcR l=if (qa9 l).2≠0 then ([],(qa9 l).2)else if l.drop (qa9 l).1.2≠List.replicate 1024 0 then ([],3)else if qbE (qa9 l).1.1≠0 then ([],qbE (qa9 l).1.1)else ((qa9 l).1.1,0)):=rfl;have HG:=Lib.hid hgood;clear hgood;generalize qa9 l=R at HSo ha HR HG;obtain ⟨⟨p,a⟩,E⟩:=R;simp only at HSo ha HR HG;have HC:=Lib.hid hc;have HA:=Lib.hid hA;have HN:=Lib.hid hn;have hcap:=hc.1;have hmx:=hc.2.1;unfold maxLen at hmx;clear hc hA hn;go_enter Tryz.func28,Tryz.ntmps28;go_wp2_with fail;refine HSo.out.mono ?_;rintro e x1 ⟨v,xs,rfl,hm,ho,hb⟩;have HM:=Lib.hid hm;have HO:=Lib.hid ho;have HB:=Lib.hid hb;clear hm ho hb HSo
 by_cases hE:E=0
 ·subst hE;rw [if_neg (by simp)]at HR;have hcut:=(HA.out.below HB.out).cut (c:=c) (by have:=HN.out;omega) a (by have:=HN.out;omega);have hsl:=HC.out.cut a ha (n-a) (by omega);have s2:=fun W=>qbX W A n c a ha;have hld:(l.drop a).length=n-a:=by rw [List.length_drop,HN.out]
  have s3:=fun q=>qaE.conv (w:=x1.drewN q) hcut (c-a) (fun e=>by have h1:=hsl.2.2 e;have h2:=hsl.1;exact List.eq_nil_of_length_eq_zero (by omega));simp only [hld]at s3;generalize cutA A c a=C at s2 s3;have hcz:=q74 (l.drop a) 1024
  by_cases hz:l.drop a=List.replicate 1024 0
  ·rw [decide_eq_true hz]at hcz;have hcn:((bs (l.drop a)).toList !=(zer 1024).toList)=false:=by rw [bne,hcz];rfl
   rw [if_neg (by simpa using hz)]at HR;generalize bs (l.drop a)=LB at hcz hcn s3;obtain ⟨A9,c9,rfl,hs9,hN9⟩:=HO.out.at;have hxl:xs.length=p.length:=by rw [←HM.out,List.length_map]
   rw [HM.out]at hN9;have HEn:=Lib.hid (fun W (h:Below x1.heap.size x1 W)=>qmB A9 xs.length c9 p hxl.symm hs9 (fun x hx=>qsC (HG.out x hx)) W (hN9.below h));clear hs9 hN9 hxl hz hcut hsl hld;go_upto_region 4 with fail
   go_quiet ((go_at_call 75;exact Calls.quiet_of_same (qbO (qcC 1024 1024 _ rfl (by omega)))));go_wp2_with fail;refine (HEn.out _ (below_drewN (Below.refl _ _) _)).mono ?_;rintro e x2 ⟨rfl,hb⟩;have hb2:=(below_drewN (Below.refl x1.heap.size x1) _).trans hb;have HO2:=Lib.hid (HO.out.below hb2);have HB2:=Lib.hid (HB.out.trans (hb2.mono HB.out.size));clear hb hb2 HEn HO HB;obtain ⟨F,HF⟩:=qaA (qbE p);simp only [HF.out]at HR⊢
   by_cases h0:F=0
   ·subst h0;rw [if_neg (by simp)]at HR;go_wp2_with fail;refine bodyPost_ret (v:= .tuple #[.slice A9 xs.length c9,.int .i64 0]) (by simp [results,Tryz.results28,go_sem, *]) rfl ?_;rw [HR.out];exact ⟨_,xs,rfl,HM.out,HO2.out,HB2.out⟩
   ·have hne:(F !=0)=true:=by simpa using h0
    rw [if_pos h0]at HR;go_wp2_with fail;refine bodyPost_ret (v:= .tuple #[.slice none 0 0,.int .i64 F]) (by simp [results,Tryz.results28,go_sem, *]) rfl ?_;rw [HR.out];exact ⟨_, [],rfl,rfl,OwnE.nil _ _,HB2.out⟩
  ·rw [decide_eq_false hz]at hcz;have hcn:((bs (l.drop a)).toList !=(zer 1024).toList)=true:=by rw [bne,hcz];rfl
   rw [if_pos hz]at HR;generalize bs (l.drop a)=LB at hcz hcn s3;clear hz hcut hsl hld;go_upto_region 4 with fail
   go_quiet ((go_at_call 75;exact Calls.quiet_of_same (qbO (qcC 1024 1024 _ rfl (by omega)))));go_wp2_with fail;refine bodyPost_ret (v:= .tuple #[.slice none 0 0,.int .i64 3]) (by simp [results,Tryz.results28,go_sem, *]) rfl ?_;rw [HR.out];exact ⟨_, [],rfl,rfl,OwnE.nil _ _,below_drewN HB.out _⟩
 ·have hne:(E !=0)=true:=by simpa using hE
  rw [if_pos hE]at HR;go_wp2_with fail;refine bodyPost_ret (v:= .tuple #[.slice none 0 0,.int .i64 E]) (by simp [results,Tryz.results28,go_sem, *]) rfl ?_;rw [HR.out];exact ⟨_, [],rfl,rfl,OwnE.nil _ _,HB.out⟩
theorem q56:qvT:=fun A n c l hn hn2 hc w S hA=>by
 refine (q5J A n c l hn hn2 hc w S hA).mono ?_;rintro e w' ⟨D,cc,he,-,-,ho,hb⟩;exact ⟨D,cc,he,ho,hb⟩
theorem qyI (A:Option Addr) (n c:Nat) (l:List UInt8) (hn:l.length=n) (hn2:n≤140737488351232) (hc:SlOk A n c) (w:World) (S:Std w) (hA:qaE w A l):
  Calls Tryz.prog 28 #[.slice A n c] w fun e w'=> ∃v xs,e= .returned (.tuple #[v,.int .i64 (arcR l).2])∧xs.map (·.1)=(arcR l).1∧OwnE w' w.heap.size v xs∧Below w.heap.size w w':=
 q1J q56 A n c l hn hn2 hc w S hA
end Go.Proofs.YtapgoifimhnbdaaGreatDoor
