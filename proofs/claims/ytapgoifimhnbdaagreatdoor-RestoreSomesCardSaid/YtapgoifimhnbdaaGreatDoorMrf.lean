/- qaV of one kind, in one file: MrF, MrG. -/
import Derived.Test.YtapgoifimhnbdaaGreatDoorMya
import Derived.Test.YtapgoifimhnbdaaGreatDoorMra
import Derived.OwnWalk
import Derived.Maps.RangeWalk
import Derived.BigQuiet
import Derived.Test.YtapgoifimhnbdaaGreatDoorMyg
import Derived.Test.YtapgoifimhnbdaaGreatDoorEne
import Derived.Test.YtapgoifimhnbdaaGreatDoorStp
set_option linter.unusedVariables false
set_option maxRecDepth 100000
namespace Go.Proofs.YtapgoifimhnbdaaGreatDoor
open Go.RowKit
open Go.OpenShut
open Go.Maps Go.WideMaps
theorem quS {b:List UInt8} (h1:(qaC b).2=0) (hp:(qbS b).2=0):(qaC b).1.1.typ≠120∨((qaC b).1.1.typ=120∧(paxR (qaC b).1.2.1).2=0∧(qaC (b.drop (qaC b).1.2.2)).2=0):=by
 by_cases h2:(qaC b).1.1.typ=120
 ·by_cases h3:(paxR (qaC b).1.2.1).2=0
  ·by_cases h4:(qaC (b.drop (qaC b).1.2.2)).2=0
   ·exact .inr ⟨h2,h3,h4⟩
   ·rw [qe3 h1 h2 h3 h4]at hp;exact absurd hp h4
  ·rw [qgS h1 h2 h3]at hp;exact absurd hp h3
 ·exact .inl h2
def tblK:List UInt8:= [63,48,53,50,49]
theorem qy5 (c:UInt8) (i:Nat) (h:i<5):qiH c (i+1)=if tblK.getD i 0=c then (i:Int)else qiH c i:=by
 have:i=0∨i=1∨i=2∨i=3∨i=4:=by omega
 rcases this with rfl|rfl|rfl|rfl|rfl
 ·by_cases h0:(63:UInt8)=c
  ·subst h0;rfl
  ·simp [qiH,tblK]
 ·by_cases h0:(48:UInt8)=c
  ·subst h0;rfl
  ·have h1: ¬c=48:=fun e=>h0 e.symm;simp [qiH,tblK,h0,h1]
 ·by_cases h0:(53:UInt8)=c
  ·subst h0;rfl
  ·have h1: ¬c=53:=fun e=>h0 e.symm;simp [qiH,tblK,h0,h1]
 ·by_cases h0:(50:UInt8)=c
  ·subst h0;rfl
  ·have h1: ¬c=50:=fun e=>h0 e.symm;simp [qiH,tblK,h0,h1]
 ·by_cases h0:(49:UInt8)=c
  ·subst h0;rfl
  ·have h1: ¬c=49:=fun e=>h0 e.symm;simp [qiH,tblK,h0,h1]
theorem took_sz {h:HeadV} {rs p:List Rc} {d:List UInt8} {y:EntV} (hs:qnT h) (hn:(qb6 p).Nodup) (hm: ∀r∈p,r∈rs) (hv: ∀r∈rs,r.1.length≤60∧r.2.length≤500) (hd:d.length<8589934592) (H:Took (qeY h d) p y):y.sz:=by
 have hk: ∀K v,look K p=some v→v.length≤140737488351232:=fun K v e=>Nat.le_trans (hv _ (hm _ ((qeP hn).1 e))).2 (by decide);obtain ⟨s1,s2,s3,s4,s5⟩:=hs;have h1:=q1Z h.pre h.name;refine ⟨⟨?_,?_,?_⟩,?_,?_⟩
 ·rw [H.path];exact qg2 (hk _) (by show (oneV h.pre h.name).1.length≤_;omega)
 ·rw [H.target];exact qg2 (hk _) (by show h.link.length≤_;omega)
 ·rw [H.data];show d.length≤_;omega
 ·rw [H.user];exact qg2 (hk _) (by show h.user.length≤_;omega)
 ·rw [H.group];exact qg2 (hk _) (by show h.group.length≤_;omega)
structure HalfR (w:World) (l:List UInt8) (n gH gm:Nat) (H:HeadV) (D2:List UInt8) (RS:List Rc) (N cm:Nat) (A4:Option Addr) (c4:Nat) (wx:World):Prop where
 le:N≤n
 parts:qbS l=((H,RS,D2,N),0)
 nodup:(qb6 RS).Nodup
 small:qnT H
 short: ∀r∈RS,r.1.length≤60∧r.2.length≤500
 data:D2.length<8589934592
 own:OwnB wx (w.heap.size+1) (.slice A4 D2.length c4) D2
 head:Blk wx gH 152 (qaG H)
 maps:wx.ownsMap Tryz.prog 9 (plainElem Tryz.prog 9) gm cm (qeT RS)
 zero:Blk wx w.heap.size 73 #[.string ⟨#[]⟩,.int .i64 0,.string ⟨#[]⟩,.int .i64 0,.int .i64 0,.int .i64 0,.string ⟨#[]⟩,.string ⟨#[]⟩,.int .i64 0,.int .i64 0,.slice none 0 0]
 below:Below w.heap.size w wx
theorem set_gid {W:World} {g c:Nat} {D:Option Addr} {y:EntV} {V:List UInt8} (h:Blk W g 73 (entC y D c).toArray):Blk (W.setCell ⟨g,5,none⟩ (.int .i64 (numV V))) g 73 (entC (takF y (kGid,V)) D c).toArray:=by rw [qv1];exact h.set_ 5 _
theorem q0Q {W:World} {g c:Nat} {D:Option Addr} {y:EntV} {V:List UInt8} (h:Blk W g 73 (entC y D c).toArray):Blk (W.setCell ⟨g,7,none⟩ (.string (bs V))) g 73 (entC (takF y (qaO,V)) D c).toArray:=by rw [qoA];exact h.set_ 7 _
theorem q4W {W:World} {g c:Nat} {D:Option Addr} {y:EntV} {V:List UInt8} (h:Blk W g 73 (entC y D c).toArray):Blk (W.setCell ⟨g,2,none⟩ (.string (bs V))) g 73 (entC (takF y (qa6,V)) D c).toArray:=by rw [qrZ];exact h.set_ 2 _
theorem q0P {W:World} {g c:Nat} {D:Option Addr} {y:EntV} {V:List UInt8} (h:Blk W g 73 (entC y D c).toArray):Blk ((W.setCell ⟨g,8,none⟩ (.int .i64 (qa8 V).1)).setCell ⟨g,9,none⟩ (.int .i64 (qa8 V).2.1)) g 73 (entC (takF y (qaM,V)) D c).toArray:=by rw [qn9];exact (h.set_ 8 _).set_ 9 _
theorem q4V {W:World} {g c:Nat} {D:Option Addr} {y:EntV} {V:List UInt8} (h:Blk W g 73 (entC y D c).toArray):Blk (W.setCell ⟨g,0,none⟩ (.string (bs V))) g 73 (entC (takF y (qaZ,V)) D c).toArray:=by rw [qrY];exact h.set_ 0 _
theorem set_uid {W:World} {g c:Nat} {D:Option Addr} {y:EntV} {V:List UInt8} (h:Blk W g 73 (entC y D c).toArray):Blk (W.setCell ⟨g,4,none⟩ (.int .i64 (numV V))) g 73 (entC (takF y (kUid,V)) D c).toArray:=by rw [qv0];exact h.set_ 4 _
theorem q0N {W:World} {g c:Nat} {D:Option Addr} {y:EntV} {V:List UInt8} (h:Blk W g 73 (entC y D c).toArray):Blk (W.setCell ⟨g,6,none⟩ (.string (bs V))) g 73 (entC (takF y (qaS,V)) D c).toArray:=by rw [qn7];exact h.set_ 6 _
set_option maxHeartbeats 16000000 in
theorem rMOf_4 (A:Option Addr) (n c:Nat) (l:List UInt8) (hn:l.length=n) (hn2:n≤140737488351232) (hc:SlOk A n c) (w:World) (S:Std w) (hA:qaE w A l) (h1:(qaC l).2=0) (hp:(qbS l).2=0):
  Calls Tryz.prog 119 #[.slice A n c] w fun e w'=> ∃D cc,e= .returned (.tuple #[.agg (entC (qaI l).1.1 D cc).toArray,.int .i64 ((qaI l).1.2:Nat),.int .i64 (qaI l).2])∧SlOk D (qaI l).1.1.data.length cc∧qaE w' D (qaI l).1.1.data∧OwnB w' w.heap.size (.slice D (qaI l).1.1.data.length cc) (qaI l).1.1.data∧Below w.heap.size w w':=by
 have hN1:=(qa1 h1).2.1;have hDn:=(qa1 h1).2.2;have hRv:=(qc0 (qaC l).1.2.1).1;have hRl:=(qc0 (qaC l).1.2.1).2;have hRk:=qmD (qaC l).1.2.1;have hNK:=qi1 (qaC l).1.2.1;have hCase:=quS h1 hp;have hP4:=fun h2 h3 h4=>qi3 (b:=l) h1 h2 h3 h4;have hP5:=fun h2=>qi4 (b:=l) h1 h2;have hS2:=fun h4=>qa1 (b:=l.drop (qaC l).1.2.2) h4;have hSm2:=qbI (l.drop (qaC l).1.2.2);have HD1:=Lib.hid fun W h=>qd2 A n c l hn hn2 hc W h;have hD2:=fun (N1:Nat) (h:N1≤n) W hA=>qd2 (cutA A c N1) (n-N1) (c-N1) (l.drop N1) (by rw [List.length_drop,hn]) (by omega) (hc.cut N1 (by omega) (n-N1) (by have:=hc.1;omega)) W hA;have hsf:=fun (N1:Nat) (h:N1≤n) W=>qbX W A n c N1 h;have HSm:=Lib.hid (qbI l);generalize hFM:qaC l=FM at*;obtain ⟨⟨⟨n0,n1,n2,n3,n4,n5,n6,n7,n8,n9,nA⟩,D1,N1⟩,E1⟩:=FM;simp only at HD1 HSm;unfold qaG at HD1;simp only at HD1;simp only at h1 hDn hN1 hRv hRl hRk hNK hCase hP4 hP5 hS2 hSm2;subst h1;have HPx:=Lib.hid fun W TW=>qjY (bs D1) W TW (by rw [qaB];omega);rw [qaH]at HPx;have HD2:=Lib.hid fun W hA=>hD2 N1 (by omega) W hA;have hsf2:=hsf N1 (by omega);have hN1n:N1≤n:=by omega
 have HC:=Lib.hid hc;generalize qaC (l.drop N1)=FM2 at*;obtain ⟨⟨⟨m0,m1,m2,m3,m4,m5,m6,m7,m8,m9,mA⟩,D2,N2⟩,E2⟩:=FM2;simp only at HD2 hCase hP4 hS2 hSm2;unfold qaG at HD2;simp only at HD2;have hRT: ∀r∈(paxR D1).1,r.1.length≤60∧r.2.length≤500:=fun r hr=>⟨hRk r hr,hRv r hr⟩;have HCase:=Lib.hid hCase;have HP4:=Lib.hid hP4;have HP5:=Lib.hid hP5
 have HS2:Hid (E2=0→N2≤n-N1∧D2.length<8589934592):=fun h=>by
  obtain ⟨-,a,b⟩:=hS2 h;rw [List.length_drop]at a;exact ⟨by omega,b⟩
 have HSm2:=Lib.hid hSm2;have HNK:=Lib.hid hNK;have HRl:=Lib.hid hRl;have HRT0:=Lib.hid hRT;have HDn:=Lib.hid hDn;have HNl:=Lib.hid hn;have HBase:Hid ((w.alloc (.cells #[.string ⟨#[]⟩,.int .i64 0,.string ⟨#[]⟩,.int .i64 0,.int .i64 0,.int .i64 0,.string ⟨#[]⟩,.string ⟨#[]⟩,.int .i64 0,.int .i64 0,.slice none 0 0] 73)).heap.size=w.heap.size+1):=hszA _ _;clear hCase hP4 hP5 hS2 hSm2 hNK hRl hRT hRk hRv hFM hD2 hsf hDn hp;have hZ0:=Blk.new w 73 #[.string ⟨#[]⟩,.int .i64 0,.string ⟨#[]⟩,.int .i64 0,.int .i64 0,.int .i64 0,.string ⟨#[]⟩,.string ⟨#[]⟩,.int .i64 0,.int .i64 0,.slice none 0 0];have hB0:=(Below.refl w.heap.size w).alloc (Nat.le_refl _) (.cells #[.string ⟨#[]⟩,.int .i64 0,.string ⟨#[]⟩,.int .i64 0,.int .i64 0,.int .i64 0,.string ⟨#[]⟩,.string ⟨#[]⟩,.int .i64 0,.int .i64 0,.slice none 0 0] 73);have HZ0:=Lib.hid hZ0;have HB0:=Lib.hid hB0;have HA:=Lib.hid hA;clear hZ0 hB0 hA;go_enter Tryz.func119,Tryz.ntmps119;go_wp2_with fail;refine (HD1.out _ (HA.out.below HB0.out)).mono ?_;rintro e x1 ⟨v1,rfl,ho1,hb1⟩;obtain ⟨A1,c1,rfl,hs1,ha1⟩:=ho1.form;have hB1:=HB0.out.trans (hb1.mono HB0.out.size);have hB2:=hB1.alloc hB1.size (.cells #[.string (bs n0),.string (bs n1),.string (bs n2),.int .i64 n3,.int .i64 n4,.int .i64 n5,.int .i64 n6,.int .i64 n7,.int .u8 (n8.toNat:Int),.string (bs n9),.string (bs nA)] 152)
 have hZ2:=(HZ0.out.below hb1 HZ0.out.lt).alloc (.cells #[.string (bs n0),.string (bs n1),.string (bs n2),.int .i64 n3,.int .i64 n4,.int .i64 n5,.int .i64 n6,.int .i64 n7,.int .u8 (n8.toNat:Int),.string (bs n9),.string (bs nA)] 152);have hH2:=Blk.new x1 152 #[.string (bs n0),.string (bs n1),.string (bs n2),.int .i64 n3,.int .i64 n4,.int .i64 n5,.int .i64 n6,.int .i64 n7,.int .u8 (n8.toNat:Int),.string (bs n9),.string (bs nA)];have hO2:=ho1.alloc (.cells #[.string (bs n0),.string (bs n1),.string (bs n2),.int .i64 n3,.int .i64 n4,.int .i64 n5,.int .i64 n6,.int .i64 n7,.int .u8 (n8.toNat:Int),.string (bs n9),.string (bs nA)] 152);have hA2:=ha1.below ((Below.refl x1.heap.size x1).alloc (Nat.le_refl _) (.cells #[.string (bs n0),.string (bs n1),.string (bs n2),.int .i64 n3,.int .i64 n4,.int .i64 n5,.int .i64 n6,.int .i64 n7,.int .u8 (n8.toNat:Int),.string (bs n9),.string (bs nA)] 152));have hne2:w.heap.size<x1.heap.size:=(HZ0.out.below hb1 HZ0.out.lt).lt;go_upto_region 3 with fail
 generalize x1.alloc (.cells #[.string (bs n0),.string (bs n1),.string (bs n2),.int .i64 n3,.int .i64 n4,.int .i64 n5,.int .i64 n6,.int .i64 n7,.int .u8 (n8.toNat:Int),.string (bs n9),.string (bs nA)] 152)=x2 at hB2 hZ2 hH2 hO2 hA2⊢;generalize x1.heap.size=gH at hH2 hne2⊢;have HB2:=Lib.hid hB2;have HZ2:=Lib.hid hZ2;have HH2:=Lib.hid hH2;have HO2:=Lib.hid hO2;have HA2:=Lib.hid hA2;have HSO:=Lib.hid hs1;clear hA2 hs1 hb1 ho1 ha1 hB1 hB2 hZ2 hH2 hO2 HD1;have hmk:(Instr.makeMap 188 none).run Tryz.prog x2= .ok (.map (some x2.heap.size)) (x2.alloc (.map #[] 0)):=rfl;have hM3:=World.ownsMap_made (H:=Unit) x2 Tryz.prog 9 (plainElem Tryz.prog 9);have hB3:=HB2.out.alloc HB2.out.size (.map #[] 0);have hb23:=(Below.refl x2.heap.size x2).alloc (Nat.le_refl _) (.map #[] 0);have hZ3:=HZ2.out.below hb23 HZ2.out.lt;have hH3:=HH2.out.below hb23 HH2.out.lt;have hO3:=HO2.out.below hb23;have hA3:=HA2.out.below hb23;have hgm:w.heap.size≤x2.heap.size∧gH<x2.heap.size:=⟨HB2.out.size,HH2.out.lt⟩;go_upto_region 6 with fail
 generalize x2.alloc (.map #[] 0)=x3 at hM3 hB3 hZ3 hH3 hO3 hA3⊢;generalize x2.heap.size=gm at hM3 hgm⊢;have HM3:=Lib.hid hM3;have HB3:=Lib.hid hB3;have HZ3:=Lib.hid hZ3;have HH3:=Lib.hid hH3;have HO3:=Lib.hid hO3;have HA3:=Lib.hid hA3;have HGM:=Lib.hid hgm;have HWG:Hid (w.heap.size<gm):=Nat.lt_of_lt_of_le hne2 (Nat.le_of_lt hgm.2);clear hM3 hB3 hb23 hZ3 hH3 hO3 hA3 HB2 HZ2 HH2 HO2 HA2 hmk hgm;have q8:=HH3.out.cell 8;simp only [List.getElem?_toArray,List.getElem?_cons_succ,List.getElem?_cons_zero]at q8;obtain ⟨tb,htb⟩: ∃tb:Bool,((n8.toNat:Int)==120)=tb:=⟨_,rfl⟩
 go_cut [43] (fun sv wx=>sv= .bool tb∧x3=wx)
 case first=>
  go_wp2_with fail;go_meet;exact ⟨rfl,rfl⟩
 case rest=>
  obtain ⟨rfl,rfl⟩:=hcut;go_upto_if 43 with fail
  go_cut [7,8] (fun s7 s8 wx=> ∃(H:HeadV) (D2:List UInt8) (RS:List Rc) (N cm:Nat) (A4:Option Addr) (c4:Nat),s7= .slice A4 D2.length c4∧s8= .int .i64 (N:Int)∧HalfR w l n gH gm H D2 RS N cm A4 c4 wx)
  case first=>
   cases tb with
   |false=>
    have hne:n8≠120:=fun e=>by rw [e]at htb;exact absurd htb (by decide)
    have hown:OwnB x3 (w.heap.size+1) (.slice A1 D1.length c1) D1:=by rw [←HBase.out];exact HO3.out
    have HHalf:Hid (HalfR w l n gH gm ⟨n0,n1,n2,n3,n4,n5,n6,n7,n8,n9,nA⟩ D1 [] N1 0 A1 c1 x3):=⟨hN1n,HP5.out hne,List.nodup_nil,HSm.out,fun r hr=>(by cases hr),HDn.out,hown,HH3.out,HM3.out,HZ3.out,HB3.out⟩;clear htb hne hown q8;go_wp2_with fail;go_meet;exact ⟨_,_,_,_,_,_,_,rfl,rfl,HHalf.out⟩
   |true=>
    have h2:n8=120:=by
     have:(n8.toNat:Int)=120:=by simpa using htb
     exact UInt8.toNat_inj.1 (by show n8.toNat=120;omega)
    obtain ⟨-,h3,h4⟩:n8=120∧(paxR D1).2=0∧E2=0:=by
     rcases HCase.out with h|h
     ·exact absurd h2 h
     ·exact h
    obtain ⟨hN2,hD2l⟩:=HS2.out h4;have HPP:=Lib.hid (HP4.out h2 h3 h4);subst h4;rw [h3]at HPx;have hRT:=HRT0.out;have hNKs:=HNK.out;have hRls:=HRl.out;generalize hRS:(paxR D1).1=RS at HPx hRT hNKs hRls HPP;have HNKS:=Lib.hid hNKs;have HRT9:=Lib.hid hRT;have HD2l:=Lib.hid hD2l;clear h2 h3 hRS hNKs htb HCase HP4 HP5 HS2 HNK HRl HRT0 hD2l;have hcv:=HA3.out.conv c1 (fun e=>by subst e;exact HA3.out.none_nil);go_wp2_with fail;refine (HPx.out _ (S.tab.below HB3.out)).mono ?_;rintro e x4 ⟨A3,k3,c3,rfl,hk3,hr3,hb3⟩;have HB4:=Lib.hid (HB3.out.trans (hb3.mono HB3.out.size));have HZ4:=Lib.hid (HZ3.out.below hb3 HZ3.out.lt);have HH4:=Lib.hid (HH3.out.below hb3 HH3.out.lt);have HM4:=Lib.hid (qc1 HM3.out hb3);have HR4:=Lib.hid hr3;have HK3:=Lib.hid hk3;clear hb3 hcv q8 hr3 hk3 HB3 HZ3 HH3 HM3 HPx;have hk3b:k3≤1000000:=by have:=HK3.out;omega
    have HRT:=Lib.hid hRT;clear hRT;go_wp2_with fail
    go_loopw [60] (fun iv wr=> ∃i:Nat,i≤k3∧iv= .int .i64 i∧Hid (wr.ownsMap Tryz.prog 9 (plainElem Tryz.prog 9) gm i (qeT (RS.take i)))∧Hid (qcV wr A3 RS)∧Hid (Below gm x4 wr)) (fun iv _=>k3-(intOf iv).toNat)
    case atStart=>exact ⟨0,Nat.zero_le _,rfl,HM4.out,HR4.out,Below.refl _ _⟩
    case round=>
     obtain ⟨i,hi,rfl,HMi,HRi,HBi⟩:=hrel
     by_cases hlt:i<k3
     ·have i1:i<RS.length:=by rw [HK3.out];exact hlt
      obtain ⟨b,o,hAe,c0,c1⟩:=HRi.out i i1
      have HSt:Hid (qeT (RS.take (i+1))=(qeT (RS.take i)).put (.string (RS[i]).1) (.lit (.string (RS[i]).2))):=by
       unfold Hid;rw [List.take_succ_eq_append_getElem i1,qhK]
      obtain ⟨hk60,hv5⟩:=HRT.out RS[i] (List.getElem_mem i1);generalize RS[i]=r at c0 c1 HSt hk60 hv5;obtain ⟨K,V⟩:=r;simp only at c0 c1 HSt hk60 hv5;have hky:=key_s K hk60;have hvl:=val_s V hv5;have hgl:=qmO HMi.out;have hszi:=HBi.out.size;have hMb:=qc1 HMi.out ((Below.refl wr.heap.size wr).alloc (Nat.le_refl _) (.cells #[.string (bs K),.string (bs V)] 190));have hRb:=HRi.out.below ((Below.refl wr.heap.size wr).alloc (Nat.le_refl _) (.cells #[.string (bs K),.string (bs V)] 190));have hBb:=HBi.out.alloc (Nat.le_of_lt hgl) (.cells #[.string (bs K),.string (bs V)] 190);have HMb:=Lib.hid hMb;have HRb:=Lib.hid hRb;have HBb:=Lib.hid hBb;have HKY:=Lib.hid hky;have HVL:=Lib.hid hvl;have HGL:=Lib.hid hgl;subst hAe;clear hMb hRb hBb hky hvl hk60 hv5 hgl hszi;generalize bs K=KS at c0 HMb HRb HBb HKY;generalize bs V=VS at c1 HMb HRb HBb HVL;go_wp2_with (at_mapUpdate;refine Stay.go ?_);refine Stay.on ?_;refine wpList_mapUpdate_own _ rfl (.tmp 64) (.tmp 66) (.tmp 68) 188 rfl 9 9 (string_keyed Tryz.underlying9) Tryz.underlying188 (plainElem Tryz.prog 9) gm i _ rfl HMb.out (by unfold maxLen;omega) (.string KS) (.string VS) (.string K) rfl rfl HKY.out (.lit (.string V)) [] HVL.out ?_;intro w6 hM6 hg6;rw [←HSt.out]at hM6;have HM6:=Lib.hid hM6;have HR6:=Lib.hid (qoI HRb.out HMb.out hg6);have HB6:=Lib.hid (HBb.out.grown hg6 (Nat.le_trans (Nat.le_of_lt HGL.out) ((World.grownBy_alloc wr _ none).size)) (fun g e=>by injection e with e;exact Nat.le_of_eq e));clear hM6 hg6 c0 c1;go_wp2_with fail
      go_roundw
      case rel=>exact ⟨i+1,by omega,by go_num,HM6.out,HR6.out,HB6.out⟩
      case measure=>simp [intOf];omega
     ·obtain rfl:i=k3:=by omega
      have hM5:=HMi.out;rw [List.take_of_length_le (by rw [HK3.out];exact Nat.le_refl _)]at hM5;obtain ⟨x5,hx5⟩: ∃x5,x5=wr:=⟨_,rfl⟩;subst hx5;have HM5:=Lib.hid hM5;have hB5:=HBi.out;have HB5:=Lib.hid (HB4.out.trans (hB5.mono (Nat.le_of_lt (Nat.lt_of_le_of_lt HGM.out.1 (qmO HM4.out))|>fun h=>HGM.out.1)));have HZ5:=Lib.hid (HZ4.out.below hB5 HWG.out);have HH5:=Lib.hid (HH4.out.below hB5 HGM.out.2);clear hM5 hB5 HMi HRi HBi;go_wp2_with fail;refine (HD2.out _ ((HA.out.below HB5.out).cut (c:=c) (by have:=HC.out.1;omega) N1 (by omega))).mono ?_;rintro e x6 ⟨v4,rfl,ho4,hb4⟩;obtain ⟨A4,c4,rfl,hs4,ha4⟩:=ho4.form;have hH4:=HH5.out.below hb4 HH5.out.lt;have hZ4:=HZ5.out.below hb4 HZ5.out.lt;have hM4:=qc1 HM5.out hb4;have hB4:=HB5.out.trans (hb4.mono HB5.out.size);have hg3:gH<x5.heap.size:=HH5.out.lt;have hw3:w.heap.size<x5.heap.size:=HZ5.out.lt;obtain ⟨⟨q0,q1,q2,q3,q4,q5,q6,q7,q8,q9,qA⟩,f0,f1,f2,f3,f4,f5,f6,f7,f8,f9,fA⟩:=qaF hH4;have hB5:=qaL hB4 (Nat.le_of_lt hne2) (.string (bs m0)) (.string (bs m1)) (.string (bs m2)) (.int .i64 m3) (.int .i64 m4) (.int .i64 m5) (.int .i64 m6) (.int .i64 m7) (.int .u8 (m8.toNat:Int)) (.string (bs m9)) (.string (bs mA))
      have hZ5:Blk (((((((((((x6.setCell ⟨gH,0,none⟩ (.string (bs m0))).setCell ⟨gH,1,none⟩ (.string (bs m1))).setCell ⟨gH,2,none⟩ (.string (bs m2))).setCell ⟨gH,3,none⟩ (.int .i64 m3)).setCell ⟨gH,4,none⟩ (.int .i64 m4)).setCell ⟨gH,5,none⟩ (.int .i64 m5)).setCell ⟨gH,6,none⟩ (.int .i64 m6)).setCell ⟨gH,7,none⟩ (.int .i64 m7)).setCell ⟨gH,8,none⟩ (.int .u8 (m8.toNat:Int))).setCell ⟨gH,9,none⟩ (.string (bs m9))).setCell ⟨gH,10,none⟩ (.string (bs mA))) w.heap.size 73 #[.string ⟨#[]⟩,.int .i64 0,.string ⟨#[]⟩,.int .i64 0,.int .i64 0,.int .i64 0,.string ⟨#[]⟩,.string ⟨#[]⟩,.int .i64 0,.int .i64 0,.slice none 0 0]:=q6U hZ4 (Nat.ne_of_lt hne2) (.string (bs m0)) (.string (bs m1)) (.string (bs m2)) (.int .i64 m3) (.int .i64 m4) (.int .i64 m5) (.int .i64 m6) (.int .i64 m7) (.int .u8 (m8.toNat:Int)) (.string (bs m9)) (.string (bs mA))
      have hH5:Blk (((((((((((x6.setCell ⟨gH,0,none⟩ (.string (bs m0))).setCell ⟨gH,1,none⟩ (.string (bs m1))).setCell ⟨gH,2,none⟩ (.string (bs m2))).setCell ⟨gH,3,none⟩ (.int .i64 m3)).setCell ⟨gH,4,none⟩ (.int .i64 m4)).setCell ⟨gH,5,none⟩ (.int .i64 m5)).setCell ⟨gH,6,none⟩ (.int .i64 m6)).setCell ⟨gH,7,none⟩ (.int .i64 m7)).setCell ⟨gH,8,none⟩ (.int .u8 (m8.toNat:Int))).setCell ⟨gH,9,none⟩ (.string (bs m9))).setCell ⟨gH,10,none⟩ (.string (bs mA))) gH 152 #[.string (bs m0),.string (bs m1),.string (bs m2),.int .i64 m3,.int .i64 m4,.int .i64 m5,.int .i64 m6,.int .i64 m7,.int .u8 (m8.toNat:Int),.string (bs m9),.string (bs mA)]:=qhG hH4 (.string (bs m0)) (.string (bs m1)) (.string (bs m2)) (.int .i64 m3) (.int .i64 m4) (.int .i64 m5) (.int .i64 m6) (.int .i64 m7) (.int .u8 (m8.toNat:Int)) (.string (bs m9)) (.string (bs mA));have hO5:=qd5 ho4 hg3 (.string (bs m0)) (.string (bs m1)) (.string (bs m2)) (.int .i64 m3) (.int .i64 m4) (.int .i64 m5) (.int .i64 m6) (.int .i64 m7) (.int .u8 (m8.toNat:Int)) (.string (bs m9)) (.string (bs mA));have hM5:=qyX hM4 (show gm≠gH from fun e=>absurd HGM.out.2 (by rw [e];exact Nat.lt_irrefl _)) (.string (bs m0)) (.string (bs m1)) (.string (bs m2)) (.int .i64 m3) (.int .i64 m4) (.int .i64 m5) (.int .i64 m6) (.int .i64 m7) (.int .u8 (m8.toNat:Int)) (.string (bs m9)) (.string (bs mA));go_upto_region 17 with fail
      generalize (((((((((((x6.setCell ⟨gH,0,none⟩ (.string (bs m0))).setCell ⟨gH,1,none⟩ (.string (bs m1))).setCell ⟨gH,2,none⟩ (.string (bs m2))).setCell ⟨gH,3,none⟩ (.int .i64 m3)).setCell ⟨gH,4,none⟩ (.int .i64 m4)).setCell ⟨gH,5,none⟩ (.int .i64 m5)).setCell ⟨gH,6,none⟩ (.int .i64 m6)).setCell ⟨gH,7,none⟩ (.int .i64 m7)).setCell ⟨gH,8,none⟩ (.int .u8 (m8.toNat:Int))).setCell ⟨gH,9,none⟩ (.string (bs m9))).setCell ⟨gH,10,none⟩ (.string (bs mA)))=x7 at hB5 hZ5 hH5 hO5 hM5⊢;have HHalf:Hid (HalfR w l n gH gm ⟨m0,m1,m2,m3,m4,m5,m6,m7,m8,m9,mA⟩ D2 RS (N1+N2) i A4 c4 x7):=⟨by omega,HPP.out,HNKS.out,HSm2.out,HRT9.out,HD2l.out,hO5.mono (by omega),hH5,hM5,hZ5,hB5⟩;have hNt:IntKind.i64.wrap ((N2:Int)+(N1:Int))=((N1+N2:Nat):Int):=by rw [IntKind.wrap_i64];omega
      clear ho4 ha4 hs4 hb4 hH4 hZ4 hM4 hB4 hB5 hZ5 hH5 hO5 hM5 q0 q1 q2 q3 q4 q5 q6 q7 q8 q9 qA f0 f1 f2 f3 f4 f5 f6 f7 f8 f9 fA hsf2;generalize N1+N2=NT at hNt HHalf;go_wp2_with fail;go_meet;exact ⟨_,_,_,_,_,_,_,rfl,rfl,HHalf.out⟩
  case rest=>
   obtain ⟨H,D9,RS,N,cm,A4,c4,rfl,rfl,hHf⟩:=hcut;obtain ⟨hNn,hP,hNd,hSmH,hShort,hDl,hOw,hHd,hMp,hZr,hBw⟩:=hHf;have HTold:Hid (∀p y,(qb6 p).Nodup→(∀r,r∈p↔r∈RS)→Took (qeY H D9) p y→qaI l=if entE y=0∧qa5 y=l.take N then ((y,N),0)else ((entZ,0),3)):=fun p y g1 g2 g3=>ql8 hP (qrU g1 hNd g2 g3);have HSz:Hid (∀p y,(qb6 p).Nodup→(∀r∈p,r∈RS)→Took (qeY H D9) p y→y.sz):=fun p y g1 g2 g3=>took_sz hSmH g1 g2 hShort hDl g3;have HStart:Hid (Took (qeY H D9) [] (qeY H D9)):=Took.start _;have HStep:Hid (∀p y (r:Rc),Took (qeY H D9) p y→r.1∉qb6 p→Took (qeY H D9) (p++ [r]) (takF y r)):=fun p y r g1 g2=>g1.step g2;have HDat:Hid (∀p y,Took (qeY H D9) p y→y.data=D9):=fun p y g=>g.data;have HBare:Hid (qeY H D9=⟨(oneV H.pre H.name).1,qkF H.typ,H.link,⟨H.mode,H.uid,H.gid,H.user,H.group,H.time,0⟩,D9⟩):=rfl;have HL0:=Lib.hid (Left.start RS);have HLS:=Lib.hid fun (p:List Rc) (left:Lit→Bool) (g:Left RS p left) (k v:List UInt8) (g1:left (.string k)=true) (g2: ∀zd,(qeT RS).atKey (.string k) zd= .lit (.string v))=>g.step hNd g1 g2;have HLE:=Lib.hid fun (p:List Rc) (left:Lit→Bool) (g:Left RS p left) (g1: ∀kl,left kl=false)=>g.end hNd g1;have HShort:=Lib.hid hShort;have HOne:=Lib.hid fun W=>q5H (bs H.pre) (bs H.name) W (by rw [qaB];have:=hSmH.2.1;unfold maxLen;omega) (by rw [qaB];have:=hSmH.1;unfold maxLen;omega);simp only [qaH]at HOne;generalize qeY H D9=X0 at HTold HSz HStart HStep HDat HBare;obtain ⟨a0,a1,a2,a3,a4,a5,a6,a7,a8,a9,aA⟩:=H;simp only at HBare HOne;unfold qaG at hHd;simp only at hHd
   obtain ⟨dl,hdl⟩: ∃dl,D9.length=dl:=⟨_,rfl⟩;rw [hdl]at hOw hDl⊢;have HDL:=Lib.hid hdl;have HHD:=Lib.hid hHd;have HZR:=Lib.hid hZr;have HBW:=Lib.hid hBw;have HOW:=Lib.hid hOw;have HMP:=Lib.hid hMp;have HLT:=Lib.hid hZr.lt;obtain ⟨⟨q0,q1,q2,q3,q4,q5,q6,q7,q8,q9,qA⟩,-⟩:=qaF hHd;obtain ⟨P1,HP1⟩:=qaA (oneV a1 a0).1;rw [HP1.out]at HOne HBare;clear hdl hHd hZr hBw hOw hMp hShort hSmH hP hNd HCase HP4 HP5 HS2 HSm2 HNK HRl HRT0 HD2 HPx HM3 HB3 HZ3 HH3 HO3 HA3 HSm htb hsf2 HDn HBase HSO HGM HWG;go_upto_region 21 with fail
   have hE:=Blk.new wc 73 #[.string ⟨#[]⟩,.int .i64 0,.string (bs a2),.int .i64 a3,.int .i64 a4,.int .i64 a5,.string (bs a9),.string (bs aA),.int .i64 a7,.int .i64 0,.slice A4 dl c4];have hX:=(Below.refl wc.heap.size wc).alloc (Nat.le_refl _) (.cells #[.string ⟨#[]⟩,.int .i64 0,.string (bs a2),.int .i64 a3,.int .i64 a4,.int .i64 a5,.string (bs a9),.string (bs aA),.int .i64 a7,.int .i64 0,.slice A4 dl c4] 73);have hsz8:=hszA wc (.cells #[.string ⟨#[]⟩,.int .i64 0,.string (bs a2),.int .i64 a3,.int .i64 a4,.int .i64 a5,.string (bs a9),.string (bs aA),.int .i64 a7,.int .i64 0,.slice A4 dl c4] 73);generalize wc.alloc (.cells #[.string ⟨#[]⟩,.int .i64 0,.string (bs a2),.int .i64 a3,.int .i64 a4,.int .i64 a5,.string (bs a9),.string (bs aA),.int .i64 a7,.int .i64 0,.slice A4 dl c4] 73)=x8 at hE hX hsz8⊢;obtain ⟨gE,hgE⟩: ∃gE,wc.heap.size=gE:=⟨_,rfl⟩;rw [hgE]at hE hX hsz8⊢;have HGE:=Lib.hid hgE;have hE9:=hE.alloc (.cells #[.int .u8 63,.int .u8 48,.int .u8 53,.int .u8 50,.int .u8 49] 5);have hT9:=Blk.new x8 5 #[.int .u8 63,.int .u8 48,.int .u8 53,.int .u8 50,.int .u8 49];have hX9:=hX.alloc (by rw [hsz8];omega) (.cells #[.int .u8 63,.int .u8 48,.int .u8 53,.int .u8 50,.int .u8 49] 5);have HGT:Hid (gE≠x8.heap.size):=by rw [hsz8];exact Nat.ne_of_lt (Nat.lt_succ_self _)
   have HE9:=Lib.hid hE9;have HT9:=Lib.hid hT9;have HX9:=Lib.hid hX9;clear hE hX hsz8 hgE hE9 hT9 hX9 q0 q1 q2 q3 q4 q5 q6 q7 q8 q9 qA;go_wp2_with fail;generalize x8.alloc (.cells #[.int .u8 63,.int .u8 48,.int .u8 53,.int .u8 50,.int .u8 49] 5)=x9 at HE9 HT9 HX9⊢;generalize x8.heap.size=gT at HT9 HGT⊢
   go_loopw [110] (fun iv wr=> ∃i:Nat,i≤5∧iv= .int .i64 (i:Int)∧Hid (Blk wr gE 73 #[.string ⟨#[]⟩,.int .i64 (qiH a8 i),.string (bs a2),.int .i64 a3,.int .i64 a4,.int .i64 a5,.string (bs a9),.string (bs aA),.int .i64 a7,.int .i64 0,.slice A4 dl c4])∧Hid (Blk wr gT 5 #[.int .u8 63,.int .u8 48,.int .u8 53,.int .u8 50,.int .u8 49])∧Hid (Below gE wc wr)) (fun iv _=>5-(intOf iv).toNat)
   case atStart=>exact ⟨0,by omega,rfl,by unfold Hid;rw [show qiH a8 0=0 by simp [qiH]];exact HE9.out,HT9.out,HX9.out⟩
   case round=>
    obtain ⟨i,hi,rfl,HEi,HTi,HXi⟩:=hrel;have hgH:wr.cell? ⟨gH,8,none⟩=some (.int .u8 (a8.toNat:Int)):=(HHD.out.below HXi.out (by rw [←HGE.out];exact HHD.out.lt)).cell 8
    by_cases hlt:i<5
    ·have hc:wr.cell? ⟨gT,i,none⟩=some (.int .u8 ((tblK.getD i 0).toNat:Int)):=by
      rw [HTi.out.cell i];have:i=0∨i=1∨i=2∨i=3∨i=4:=by omega
      rcases this with rfl|rfl|rfl|rfl|rfl<;>rfl
     have HKS:=Lib.hid (qy5 a8 i hlt);have h8:=(tblK.getD i 0).toNat_lt;have hi5:(i:Int)<5:=by omega
     by_cases hq:tblK.getD i 0=a8
     ·have HK1:Hid (qiH a8 (i+1)=(i:Int)):=by unfold Hid;rw [HKS.out,if_pos hq]
      rw [hq]at hc h8;have hE1:=HEi.out.set_ 1 (.int .i64 (i:Int));have HE1:Hid (Blk (wr.setCell ⟨gE,1,none⟩ (.int .i64 (i:Int))) gE 73 #[.string ⟨#[]⟩,.int .i64 (i:Int),.string (bs a2),.int .i64 a3,.int .i64 a4,.int .i64 a5,.string (bs a9),.string (bs aA),.int .i64 a7,.int .i64 0,.slice A4 dl c4]):=hE1;have HT1:=Lib.hid (HTi.out.far (p:=⟨gE,1,none⟩) HGT.out.symm (.int .i64 (i:Int)));have HX1:=Lib.hid (HXi.out.setCell (p:=⟨gE,1,none⟩) (Nat.le_refl _) (.int .i64 (i:Int)));have hce:=HEi.out.cell 1;simp only [List.getElem?_toArray,List.getElem?_cons_succ,List.getElem?_cons_zero]at hce;have hfe:=HEi.out.frozen 1;clear hq HKS hE1;go_wp2_with fail;go_roundw
      case rel=>exact ⟨i+1,by omega,by go_num,by unfold Hid;rw [HK1.out];exact HE1.out,HT1.out,HX1.out⟩
      case measure=>simp [intOf];omega
     ·have HK1:Hid (qiH a8 (i+1)=qiH a8 i):=by unfold Hid;rw [HKS.out,if_neg hq]
      have hne:(((tblK.getD i 0).toNat:Int)==(a8.toNat:Int))=false:=by
       rw [beq_eq_false_iff_ne];exact fun e=>hq (UInt8.toNat_inj.1 (by omega))
      generalize ((tblK.getD i 0).toNat:Int)=tv at hc hne;clear hq HKS h8;go_wp2_with fail;go_roundw
      case rel=>exact ⟨i+1,by omega,by go_num,by unfold Hid;rw [HK1.out];exact HEi.out,HTi.out,HXi.out⟩
      case measure=>simp [intOf];omega
    ·obtain rfl:i=5:=by omega
     have hEi:=HEi.out;rw [q2R]at hEi;have hgH0:wr.cell? ⟨gH,0,none⟩=some (.string (bs a0)):=(HHD.out.below HXi.out (by rw [←HGE.out];exact HHD.out.lt)).cell 0;have hgH1:wr.cell? ⟨gH,1,none⟩=some (.string (bs a1)):=(HHD.out.below HXi.out (by rw [←HGE.out];exact HHD.out.lt)).cell 1;obtain ⟨x5,hx5⟩: ∃x5,x5=wr:=⟨_,rfl⟩;subst hx5;have HE5:=Lib.hid hEi;have HX5:=HXi;clear hEi HEi HTi HXi hgH HE9 HT9 HX9 HGT;go_wp2_with fail;refine (HOne.out _).mono ?_;rintro e x6 ⟨rfl,kd,rfl⟩;have hE6:=(HE5.out.drewN kd).set_ 0 (.string (bs P1));have HX6:=Lib.hid ((below_drewN HX5.out kd).setCell (p:=⟨gE,0,none⟩) (Nat.le_refl _) (.string (bs P1)))
     have HE6:Hid (Blk ((x5.drewN kd).setCell ⟨gE,0,none⟩ (.string (bs P1))) gE 73 (entC X0 A4 c4).toArray):=by
      unfold Hid;rw [HBare.out];show Blk _ _ _ (entC _ _ _).toArray;unfold entC;simp only;rw [HDL.out];exact hE6
     have HGN0:Hid (gm<gE):=by show gm<gE;rw [←HGE.out];exact qmO HMP.out
     have HGN:Hid (gm≠gE):=Nat.ne_of_lt HGN0.out;have HM6:=Lib.hid (qcX (qc1 HMP.out ((below_drewN HX5.out kd).mono (Nat.le_of_eq HGE.out))) ⟨gE,0,none⟩ (.string (bs P1)) HGN.out);have hq0:=(HE5.out.drewN kd).cell 0;simp only [List.getElem?_toArray,List.getElem?_cons_zero]at hq0;have hf0:=(HE5.out.drewN kd).frozen 0;clear hE6 hgH0 hgH1;go_wp2_with (at_range;refine Stay.go ?_);refine Stay.on ?_;generalize (x5.drewN kd).setCell ⟨gE,0,none⟩ (.string (bs P1))=x7 at HX6 HE6 HM6⊢;refine wpList_range_own _ rfl _ 188 rfl 9 9 (string_keyed Tryz.underlying9) Tryz.underlying188 (plainElem Tryz.prog 9) gm cm (qeT RS) rfl HM6.out ?_;intro w0 hrg0 hg0 hs0;have HE0:=Lib.hid (HE6.out.grown hg0 (fun e=>by cases e));have HX0:=Lib.hid (HX6.out.grown hg0 (Nat.le_of_lt HE6.out.lt) (fun g e=>by cases e));have HRG0:=Lib.hid hrg0;obtain ⟨gi,hgi⟩: ∃gi,x7.heap.size=gi:=⟨_,rfl⟩;have HGI:Hid (gE<gi):=by show gE<gi;rw [←hgi];exact HE6.out.lt
     have HIN:Hid (gi≠gE):=(Nat.ne_of_lt HGI.out).symm;rw [hgi]at HRG0⊢;have HWL:Hid (w.heap.size<gE):=by show w.heap.size<gE;rw [←HGE.out];exact HLT.out
     have HWG2:Hid (w.heap.size≤gE):=by show w.heap.size≤gE;rw [←HGE.out];exact HBW.out.size
     have HGS:Hid (gE≤wc.heap.size):=Nat.le_of_eq HGE.out.symm;have HGM0:Hid (gm<gE):=HGN0.out;clear hrg0 hg0 hs0 hgi hq0 hf0 HE6 HX6 HM6 HE5 HX5;go_wp2_with fail;go_frame
     go_loopw [19] (fun _ wr=> ∃(p:List Rc) (left:Lit→Bool) (cnt:Nat) (y:EntV),Hid (Left RS p left)∧Hid (Took X0 p y)∧Hid (Blk wr gE 73 (entC y A4 c4).toArray)∧Hid (wr.ranges Tryz.prog 9 (plainElem Tryz.prog 9) gm gi cm (qeT RS) left cnt)∧Hid (Below gE wc wr)) (fun _ wr=>wr.rangeLeft gm gi)
     case atStart=>exact ⟨[],_,_,X0,HL0.out,HStart.out,HE0.out,HRG0.out,HX0.out⟩
     case round=>
      obtain ⟨p,left,cnt,y,HL,HT,HE,HRG,HX⟩:=hrel;go_wp2_with (at_next;refine Stay.go ?_);refine Stay.on ?_;refine q16 rfl _ rfl 9 Tryz.underlying9 Tryz.underlying9 gm gi cm (qeT RS) left cnt rfl HRG.out ?_ ?_
      ·intro _ hl0;have HEnd:=Lib.hid (HTold.out p y HL.out.1 (HLE.out p left HL.out hl0) HT.out);have hysz:=HSz.out p y HL.out.1 HL.out.2.1 HT.out;have hyd:=HDat.out p y HT.out;have hrest:=HRG.out;have TW:=S.tab.below (HBW.out.trans (HX.out.mono HWG2.out))
       have hDy:qaE wr A4 y.data:=by
        obtain ⟨A5,c5,e5,-,h5⟩:=HOW.out.form;injection e5 with e51 e52 e53
        rw [hyd,e51];exact h5.below (HX.out.mono (Nat.le_of_eq HGE.out))
       have hsl:SlOk A4 y.data.length c4:=by
        obtain ⟨A5,c5,e5,h5,-⟩:=HOW.out.form;injection e5 with e51 e52 e53
        rw [hyd,e51,e53];exact h5
       have HMB:=Lib.hid (quN y A4 c4 hysz wr TW hDy hsl);have HYD:=Lib.hid hyd;have HZ9:=Lib.hid (HZR.out.below HX.out HWL.out);have HB9:=Lib.hid (HBW.out.trans (HX.out.mono HWG2.out));have HSL:=Lib.hid hsl;have HVL:Hid ((entC y A4 c4).toArray= #[.string (bs y.path),.int .i64 y.kind,.string (bs y.target),.int .i64 y.md.mode,.int .i64 y.md.uid,.int .i64 y.md.gid,.string (bs y.md.user),.string (bs y.md.group),.int .i64 y.md.second,.int .i64 y.md.nano,.slice A4 y.data.length c4]):=rfl;have HAr:=Lib.hid (HA.out.below HB9.out)
       have HOr:Hid (OwnB wr (w.heap.size+1) (.slice A4 y.data.length c4) y.data):=by
        unfold Hid;rw [hyd,HDL.out];exact HOW.out.below (HX.out.mono (Nat.le_of_eq HGE.out))
       have HBO:Hid (bytO y=if entE y=0 then qa5 y else []):=rfl;have hNTn:N≤n:=hNn;have hst:=fun W=>qeI W A n c N (by have:=HC.out.1;omega);have hlt':(l.take N).length=N:=by rw [List.length_take,HNl.out];omega
       have HLT9:=Lib.hid hlt';have HE9:Hid (Blk wr gE 73 #[.string (bs y.path),.int .i64 y.kind,.string (bs y.target),.int .i64 y.md.mode,.int .i64 y.md.uid,.int .i64 y.md.gid,.string (bs y.md.user),.string (bs y.md.group),.int .i64 y.md.second,.int .i64 y.md.nano,.slice A4 y.data.length c4]):=HE.out;obtain ⟨yd,HYL⟩:=qaA y.data.length;rw [HYL.out]at HSL HOr HVL HE9;unfold entC at HMB;rw [HYL.out]at HMB;obtain ⟨EY,HEY⟩:=qaA (entE y);rw [HEY.out]at HMB HEnd HBO;generalize bytO y=BO at HMB HBO;generalize bs y.path=P2 at*;generalize bs y.target=P3 at*;generalize bs y.md.user=P4 at*;generalize bs y.md.group=P5 at*;generalize y.kind=z1 at*;generalize y.md.mode=z2 at*;generalize y.md.uid=z3 at*;generalize y.md.gid=z4 at*;generalize y.md.second=z5 at*;generalize y.md.nano=z6 at*;obtain ⟨⟨q0,q1,q2,q3,q4,q5,q6,q7,q8,q9,qA⟩,-⟩:=qaF HE9.out;clear hl0 hysz hyd hrest TW hDy hsl hlt' HE HRG HT HL hNn;go_wp2_with fail;refine HMB.out.mono ?_;rintro e x8 ⟨AW,nW,cW,rfl,hsW,hnW,haW,hb8⟩;have HX8:=Lib.hid hb8;have HAW:=Lib.hid haW;have HNW:=Lib.hid hnW;have HSW:=Lib.hid hsW;have HZ8:=Lib.hid (HZ9.out.below hb8 HZ9.out.lt);have HB8:=Lib.hid (HB9.out.trans (hb8.mono HB9.out.size));have HE8:=Lib.hid (HE9.out.below hb8 HE9.out.lt);have HO8:=Lib.hid (HOr.out.below hb8);have HA8:=Lib.hid (HAr.out.below hb8);clear hb8 hsW hnW haW q0 q1 q2 q3 q4 q5 q6 q7 q8 q9 qA HMB HZ9 HB9 HE9 HOr HAr
       by_cases hEY:EY=0
       ·have k1: ∀q,(convert 22 9 (.slice AW nW cW)).run Tryz.prog (x8.drewN q)= .ok (.string (bs BO)) (x8.drewN q):=fun q=>by
         have h:=qaE.conv (w:=x8.drewN q) HAW.out cW (fun e=>List.eq_nil_of_length_eq_zero (by have h1:=HSW.out.2.2 e;have h2:=HSW.out.1;have h3:=HNW.out;omega));rw [HNW.out]at h;exact h
        have k2: ∀q,(convert 22 9 (.slice A N c)).run Tryz.prog (x8.drewN q)= .ok (.string (bs (l.take N))) (x8.drewN q):=fun q=>by
         have h:=qaE.conv (w:=x8.drewN q) (HA8.out.take N) c (fun e=>List.eq_nil_of_length_eq_zero (by have h1:=HC.out.2.2 e;have h2:=HC.out.1;rw [HLT9.out];omega));rw [HLT9.out]at h;exact h
        have HBe:Hid (BO=qa5 y):=by unfold Hid;rw [HBO.out,if_pos hEY]
        by_cases hbq:BO=l.take N
        ·have HF:=HEnd.out;rw [if_pos ⟨hEY,by rw [←HBe.out];exact hbq⟩]at HF;replace HF:=Lib.hid HF;rw [←hbq]at k2;subst hEY;generalize bs BO=ST at k1 k2;obtain ⟨⟨t0,t1,t2,t3,t4,t5,t6,t7,t8,t9,tA⟩,y0,y1,y2,y3,y4,y5,y6,y7,y8,y9,yA⟩:=qaF HZ8.out;obtain ⟨⟨q0,q1,q2,q3,q4,q5,q6,q7,q8,q9,qA⟩,-⟩:=qaF HE8.out;clear hbq HBe HBO HEnd;go_upto_region 48 with fail
         go_quiet (fail);go_wp2_with fail;refine bodyPost_ret (v:= .tuple #[.agg #[.string P2,.int .i64 z1,.string P3,.int .i64 z2,.int .i64 z3,.int .i64 z4,.string P4,.string P5,.int .i64 z5,.int .i64 z6,.slice A4 yd c4],.int .i64 (N:Int),.int .i64 0]) (by simp [results,Tryz.results119,go_sem, *]) rfl ?_;exact qq6 HF.out HVL.out (by rw [HYL.out];exact HSL.out) (by rw [HYL.out];exact (qd5 (HO8.out.drewN) (Nat.lt_succ_self _) _ _ _ _ _ _ _ _ _ _ _).mono (Nat.le_succ _)) (qaL (below_drewN HB8.out _) (Nat.le_refl _) _ _ _ _ _ _ _ _ _ _ _)
        ·have HF:=HEnd.out;rw [if_neg (fun h=>hbq (by rw [HBe.out];exact h.2))]at HF;replace HF:=Lib.hid HF
         have hs:((bs BO).toList==(bs (l.take N)).toList)=false:=by
          rw [ByteArray.toList_eq,ByteArray.toList_eq,qaH,qaH];exact beq_eq_false_iff_ne.2 hbq
         subst hEY;generalize bs BO=S1 at k1 hs;generalize bs (l.take N)=S2 at k2 hs;have hs2:(S1.toList !=S2.toList)=true:=by rw [bne,hs];rfl
         clear hbq HBe HBO HEnd;go_upto_region 48 with fail
         go_quiet (fail);go_wp2_with fail;refine (qi6 3 _).mono ?_;rintro e x9 ⟨rfl,hb9⟩;have HB9:=Lib.hid ((below_drewN HB8.out _).trans (hb9.mono (below_drewN HB8.out _).size));obtain ⟨⟨z0,z1,z2,z3,z4,z5,z6,z7,z8,z9,zA⟩,y0,y1,y2,y3,y4,y5,y6,y7,y8,y9,yA⟩:=qaF ((HZ8.out.drewN _).below hb9 (HZ8.out.drewN _).lt);clear hb9;go_wp2_with fail;refine bodyPost_ret (v:= .tuple #[.agg #[.string ⟨#[]⟩,.int .i64 0,.string ⟨#[]⟩,.int .i64 0,.int .i64 0,.int .i64 0,.string ⟨#[]⟩,.string ⟨#[]⟩,.int .i64 0,.int .i64 0,.slice none 0 0],.int .i64 0,.int .i64 3]) (by simp [results,Tryz.results119,go_sem, *]) rfl ?_;exact qf6 HF.out (qaL HB9.out (Nat.le_refl _) _ _ _ _ _ _ _ _ _ _ _)
       ·have HF:=HEnd.out;rw [if_neg (fun h=>hEY h.1)]at HF;replace HF:=Lib.hid HF;have hne:(EY !=0)=true:=by simpa using hEY
        clear HBO HEnd;go_upto_region 48 with fail
        go_quiet (fail);go_wp2_with fail;refine (qi6 3 _).mono ?_;rintro e x9 ⟨rfl,hb9⟩;have HB9:=Lib.hid ((below_drewN HB8.out _).trans (hb9.mono (below_drewN HB8.out _).size));obtain ⟨⟨z0,z1,z2,z3,z4,z5,z6,z7,z8,z9,zA⟩,y0,y1,y2,y3,y4,y5,y6,y7,y8,y9,yA⟩:=qaF ((HZ8.out.drewN _).below hb9 (HZ8.out.drewN _).lt);clear hb9;go_wp2_with fail;refine bodyPost_ret (v:= .tuple #[.agg #[.string ⟨#[]⟩,.int .i64 0,.string ⟨#[]⟩,.int .i64 0,.int .i64 0,.int .i64 0,.string ⟨#[]⟩,.string ⟨#[]⟩,.int .i64 0,.int .i64 0,.slice none 0 0],.int .i64 0,.int .i64 3]) (by simp [results,Tryz.results119,go_sem, *]) rfl ?_;exact qf6 HF.out (qaL HB9.out (Nat.le_refl _) _ _ _ _ _ _ _ _ _ _ _)
      ·intro x c0' w1 cnt1 hx hc' hlx hat hrg1 hcl hg1 hs1 hen;obtain ⟨K,rfl⟩: ∃K,x=bs K:=⟨x.data.toList,(qcJ x).symm⟩;obtain ⟨V,rfl⟩: ∃V,c0'=bs V:=⟨c0'.data.toList,(qcJ c0').symm⟩;simp only [qaH]at hlx hat hrg1;obtain ⟨hmem,hnew,hL1⟩:=HLS.out p left HL.out K V hlx hat;have hVs:=(HShort.out _ hmem).2;simp only at hVs;have HTk:=Lib.hid (HStep.out p y (K,V) HT.out hnew);have HLn:=Lib.hid hL1;have HE1:=Lib.hid (HE.out.grown hg1 (fun e=>by injection e with e;exact HIN.out e.symm));have HX1:=Lib.hid (HX.out.grown hg1 (Nat.le_of_lt HE.out.lt) (fun g e=>by injection e with e;rw [←e];exact Nat.le_of_lt HGI.out));have HRG1:=Lib.hid hrg1;have HGM1:Hid (gm<w1.heap.size):=Nat.lt_of_lt_of_le HGM0.out (Nat.le_trans HGS.out HX1.out.size);have SW1:=Lib.hid (S.below (HBW.out.trans (HX1.out.mono HWG2.out)));have HAt:=Lib.hid fun W SW=>qxR (bs V) W SW (by rw [qaB];omega);have HPa:=Lib.hid fun W TW=>quC (bs V) W TW (by rw [qaB];unfold maxLen;omega);simp only [qaH]at HAt HPa;clear hx hc' hlx hat hrg1 hg1 hs1 hmem hnew hL1 hVs
       by_cases hk_gid:K=kGid
       ·subst hk_gid;have HN:=Lib.hid fun (W:World) (h:Blk W gE 73 (entC y A4 c4).toArray)=>set_gid (V:=V) h;rw [show bs kGid=⟨#[103,105,100]⟩from rfl]at hen⊢;generalize hnv:numV V=nv at HN HAt;clear hnv;generalize bs V=VS at hen HN HAt HPa⊢;go_wp2_with fail;refine (HAt.out _ SW1.out).mono ?_;rintro e w2 ⟨⟨ev,rfl⟩,hb⟩;have HE2:=Lib.hid (HE1.out.below hb HE1.out.lt);have HX2:=Lib.hid (HX1.out.trans (hb.mono (Nat.le_trans HGS.out HX1.out.size)));have HR2:=Lib.hid (qbY HRG1.out hb HGM1.out);obtain ⟨⟨q0,q1,q2,q3,q4,q5,q6,q7,q8,q9,qA⟩,f0,f1,f2,f3,f4,f5,f6,f7,f8,f9,fA⟩:=qaF (show Blk w2 gE 73 #[.string (bs y.path),.int .i64 y.kind,.string (bs y.target),.int .i64 y.md.mode,.int .i64 y.md.uid,.int .i64 y.md.gid,.string (bs y.md.user),.string (bs y.md.group),.int .i64 y.md.second,.int .i64 y.md.nano,.slice A4 y.data.length c4]from HE2.out);have HX9:=Lib.hid (HX2.out.setCell (p:=⟨gE,5,none⟩) (Nat.le_refl _) (.int .i64 nv));have HR9:=Lib.hid (qcZ HR2.out ⟨gE,5,none⟩ (.int .i64 nv) HGN.out HIN.out);have HE9:=Lib.hid (HN.out _ HE2.out);clear hb;go_wp2_with fail;go_roundw
        case rel=>exact ⟨_,_,_,_,HLn.out,HTk.out,HE9.out,HR9.out,HX9.out⟩
        case measure=>rw [HR9.out.left_eq,HRG.out.left_eq];exact hcl
       obtain ⟨e_gid,d_gid⟩:=qjL hk_gid
       by_cases hk_gname:K=qaO
       ·subst hk_gname;have HN:=Lib.hid fun (W:World) (h:Blk W gE 73 (entC y A4 c4).toArray)=>q0Q (V:=V) h;rw [show bs qaO=⟨#[103,110,97,109,101]⟩from rfl]at hen⊢;generalize bs V=VS at hen HN HAt HPa⊢;go_wp2_with fail;refine (HAt.out _ SW1.out).mono ?_;rintro e w2 ⟨⟨ev,rfl⟩,hb⟩;have HE2:=Lib.hid (HE1.out.below hb HE1.out.lt);have HX2:=Lib.hid (HX1.out.trans (hb.mono (Nat.le_trans HGS.out HX1.out.size)));have HR2:=Lib.hid (qbY HRG1.out hb HGM1.out);obtain ⟨⟨q0,q1,q2,q3,q4,q5,q6,q7,q8,q9,qA⟩,f0,f1,f2,f3,f4,f5,f6,f7,f8,f9,fA⟩:=qaF (show Blk w2 gE 73 #[.string (bs y.path),.int .i64 y.kind,.string (bs y.target),.int .i64 y.md.mode,.int .i64 y.md.uid,.int .i64 y.md.gid,.string (bs y.md.user),.string (bs y.md.group),.int .i64 y.md.second,.int .i64 y.md.nano,.slice A4 y.data.length c4]from HE2.out);have HX9:=Lib.hid (HX2.out.setCell (p:=⟨gE,7,none⟩) (Nat.le_refl _) (.string VS));have HR9:=Lib.hid (qcZ HR2.out ⟨gE,7,none⟩ (.string VS) HGN.out HIN.out);have HE9:=Lib.hid (HN.out _ HE2.out);clear hb;go_wp2_with fail;go_roundw
        case rel=>exact ⟨_,_,_,_,HLn.out,HTk.out,HE9.out,HR9.out,HX9.out⟩
        case measure=>rw [HR9.out.left_eq,HRG.out.left_eq];exact hcl
       obtain ⟨e_gname,d_gname⟩:=qjL hk_gname
       by_cases hk_link:K=qa6
       ·subst hk_link;have HN:=Lib.hid fun (W:World) (h:Blk W gE 73 (entC y A4 c4).toArray)=>q4W (V:=V) h;rw [show bs qa6=⟨#[108,105,110,107,112,97,116,104]⟩from rfl]at hen⊢;generalize bs V=VS at hen HN HAt HPa⊢;go_wp2_with fail;refine (HAt.out _ SW1.out).mono ?_;rintro e w2 ⟨⟨ev,rfl⟩,hb⟩;have HE2:=Lib.hid (HE1.out.below hb HE1.out.lt);have HX2:=Lib.hid (HX1.out.trans (hb.mono (Nat.le_trans HGS.out HX1.out.size)));have HR2:=Lib.hid (qbY HRG1.out hb HGM1.out);obtain ⟨⟨q0,q1,q2,q3,q4,q5,q6,q7,q8,q9,qA⟩,f0,f1,f2,f3,f4,f5,f6,f7,f8,f9,fA⟩:=qaF (show Blk w2 gE 73 #[.string (bs y.path),.int .i64 y.kind,.string (bs y.target),.int .i64 y.md.mode,.int .i64 y.md.uid,.int .i64 y.md.gid,.string (bs y.md.user),.string (bs y.md.group),.int .i64 y.md.second,.int .i64 y.md.nano,.slice A4 y.data.length c4]from HE2.out);have HX9:=Lib.hid (HX2.out.setCell (p:=⟨gE,2,none⟩) (Nat.le_refl _) (.string VS));have HR9:=Lib.hid (qcZ HR2.out ⟨gE,2,none⟩ (.string VS) HGN.out HIN.out);have HE9:=Lib.hid (HN.out _ HE2.out);clear hb;go_wp2_with fail;go_roundw
        case rel=>exact ⟨_,_,_,_,HLn.out,HTk.out,HE9.out,HR9.out,HX9.out⟩
        case measure=>rw [HR9.out.left_eq,HRG.out.left_eq];exact hcl
       obtain ⟨e_link,d_link⟩:=qjL hk_link
       by_cases hk_mtime:K=qaM
       ·subst hk_mtime;have HN:=Lib.hid fun (W:World) (h:Blk W gE 73 (entC y A4 c4).toArray)=>q0P (V:=V) h;rw [show bs qaM=⟨#[109,116,105,109,101]⟩from rfl]at hen⊢;generalize hn1:(qa8 V).1=nv at HN HPa;generalize hn2:(qa8 V).2.1=nw at HN HPa;clear hn1 hn2;generalize bs V=VS at hen HN HAt HPa⊢;go_wp2_with fail;refine (HAt.out _ SW1.out).mono ?_;rintro e w2 ⟨⟨ev,rfl⟩,hb⟩;have HE2:=Lib.hid (HE1.out.below hb HE1.out.lt);have HX2:=Lib.hid (HX1.out.trans (hb.mono (Nat.le_trans HGS.out HX1.out.size)));have HR2:=Lib.hid (qbY HRG1.out hb HGM1.out);have hT2:=S.tab.below (HBW.out.trans (HX2.out.mono HWG2.out));clear hb hen;go_wp2_with fail;refine (HPa.out _ hT2).mono ?_;rintro e w3 ⟨rfl,hb⟩;have HE3:=Lib.hid (HE2.out.below hb HE2.out.lt);have HX3:=Lib.hid (HX2.out.trans (hb.mono (Nat.le_trans HGS.out HX2.out.size)));have HR3:=Lib.hid (qbY HR2.out hb (Nat.lt_of_lt_of_le HGM0.out (Nat.le_trans HGS.out HX2.out.size)));obtain ⟨⟨q0,q1,q2,q3,q4,q5,q6,q7,q8,q9,qA⟩,f0,f1,f2,f3,f4,f5,f6,f7,f8,f9,fA⟩:=qaF (show Blk w3 gE 73 #[.string (bs y.path),.int .i64 y.kind,.string (bs y.target),.int .i64 y.md.mode,.int .i64 y.md.uid,.int .i64 y.md.gid,.string (bs y.md.user),.string (bs y.md.group),.int .i64 y.md.second,.int .i64 y.md.nano,.slice A4 y.data.length c4]from HE3.out);have HX9:=Lib.hid ((HX3.out.setCell (p:=⟨gE,8,none⟩) (Nat.le_refl _) (.int .i64 nv)).setCell (p:=⟨gE,9,none⟩) (Nat.le_refl _) (.int .i64 nw))
        have HR9:=Lib.hid (qcZ (qcZ HR3.out ⟨gE,8,none⟩ (.int .i64 nv) HGN.out HIN.out) ⟨gE,9,none⟩ (.int .i64 nw) HGN.out HIN.out);have HE9:=Lib.hid (HN.out _ HE3.out);clear hb;go_wp2_with fail;go_roundw
        case rel=>exact ⟨_,_,_,_,HLn.out,HTk.out,HE9.out,HR9.out,HX9.out⟩
        case measure=>rw [HR9.out.left_eq,HRG.out.left_eq];exact hcl
       obtain ⟨e_mtime,d_mtime⟩:=qjL hk_mtime
       by_cases hk_path:K=qaZ
       ·subst hk_path;have HN:=Lib.hid fun (W:World) (h:Blk W gE 73 (entC y A4 c4).toArray)=>q4V (V:=V) h;rw [show bs qaZ=⟨#[112,97,116,104]⟩from rfl]at hen⊢;generalize bs V=VS at hen HN HAt HPa⊢;go_wp2_with fail;refine (HAt.out _ SW1.out).mono ?_;rintro e w2 ⟨⟨ev,rfl⟩,hb⟩;have HE2:=Lib.hid (HE1.out.below hb HE1.out.lt);have HX2:=Lib.hid (HX1.out.trans (hb.mono (Nat.le_trans HGS.out HX1.out.size)));have HR2:=Lib.hid (qbY HRG1.out hb HGM1.out);obtain ⟨⟨q0,q1,q2,q3,q4,q5,q6,q7,q8,q9,qA⟩,f0,f1,f2,f3,f4,f5,f6,f7,f8,f9,fA⟩:=qaF (show Blk w2 gE 73 #[.string (bs y.path),.int .i64 y.kind,.string (bs y.target),.int .i64 y.md.mode,.int .i64 y.md.uid,.int .i64 y.md.gid,.string (bs y.md.user),.string (bs y.md.group),.int .i64 y.md.second,.int .i64 y.md.nano,.slice A4 y.data.length c4]from HE2.out);have HX9:=Lib.hid (HX2.out.setCell (p:=⟨gE,0,none⟩) (Nat.le_refl _) (.string VS));have HR9:=Lib.hid (qcZ HR2.out ⟨gE,0,none⟩ (.string VS) HGN.out HIN.out);have HE9:=Lib.hid (HN.out _ HE2.out);clear hb;go_wp2_with fail;go_roundw
        case rel=>exact ⟨_,_,_,_,HLn.out,HTk.out,HE9.out,HR9.out,HX9.out⟩
        case measure=>rw [HR9.out.left_eq,HRG.out.left_eq];exact hcl
       obtain ⟨e_path,d_path⟩:=qjL hk_path
       by_cases hk_uid:K=kUid
       ·subst hk_uid;have HN:=Lib.hid fun (W:World) (h:Blk W gE 73 (entC y A4 c4).toArray)=>set_uid (V:=V) h;rw [show bs kUid=⟨#[117,105,100]⟩from rfl]at hen⊢;generalize hnv:numV V=nv at HN HAt;clear hnv;generalize bs V=VS at hen HN HAt HPa⊢;go_wp2_with fail;refine (HAt.out _ SW1.out).mono ?_;rintro e w2 ⟨⟨ev,rfl⟩,hb⟩;have HE2:=Lib.hid (HE1.out.below hb HE1.out.lt);have HX2:=Lib.hid (HX1.out.trans (hb.mono (Nat.le_trans HGS.out HX1.out.size)));have HR2:=Lib.hid (qbY HRG1.out hb HGM1.out);obtain ⟨⟨q0,q1,q2,q3,q4,q5,q6,q7,q8,q9,qA⟩,f0,f1,f2,f3,f4,f5,f6,f7,f8,f9,fA⟩:=qaF (show Blk w2 gE 73 #[.string (bs y.path),.int .i64 y.kind,.string (bs y.target),.int .i64 y.md.mode,.int .i64 y.md.uid,.int .i64 y.md.gid,.string (bs y.md.user),.string (bs y.md.group),.int .i64 y.md.second,.int .i64 y.md.nano,.slice A4 y.data.length c4]from HE2.out);have HX9:=Lib.hid (HX2.out.setCell (p:=⟨gE,4,none⟩) (Nat.le_refl _) (.int .i64 nv));have HR9:=Lib.hid (qcZ HR2.out ⟨gE,4,none⟩ (.int .i64 nv) HGN.out HIN.out);have HE9:=Lib.hid (HN.out _ HE2.out);clear hb;go_wp2_with fail;go_roundw
        case rel=>exact ⟨_,_,_,_,HLn.out,HTk.out,HE9.out,HR9.out,HX9.out⟩
        case measure=>rw [HR9.out.left_eq,HRG.out.left_eq];exact hcl
       obtain ⟨e_uid,d_uid⟩:=qjL hk_uid
       by_cases hk_uname:K=qaS
       ·subst hk_uname;have HN:=Lib.hid fun (W:World) (h:Blk W gE 73 (entC y A4 c4).toArray)=>q0N (V:=V) h;rw [show bs qaS=⟨#[117,110,97,109,101]⟩from rfl]at hen⊢;generalize bs V=VS at hen HN HAt HPa⊢;go_wp2_with fail;refine (HAt.out _ SW1.out).mono ?_;rintro e w2 ⟨⟨ev,rfl⟩,hb⟩;have HE2:=Lib.hid (HE1.out.below hb HE1.out.lt);have HX2:=Lib.hid (HX1.out.trans (hb.mono (Nat.le_trans HGS.out HX1.out.size)));have HR2:=Lib.hid (qbY HRG1.out hb HGM1.out);obtain ⟨⟨q0,q1,q2,q3,q4,q5,q6,q7,q8,q9,qA⟩,f0,f1,f2,f3,f4,f5,f6,f7,f8,f9,fA⟩:=qaF (show Blk w2 gE 73 #[.string (bs y.path),.int .i64 y.kind,.string (bs y.target),.int .i64 y.md.mode,.int .i64 y.md.uid,.int .i64 y.md.gid,.string (bs y.md.user),.string (bs y.md.group),.int .i64 y.md.second,.int .i64 y.md.nano,.slice A4 y.data.length c4]from HE2.out);have HX9:=Lib.hid (HX2.out.setCell (p:=⟨gE,6,none⟩) (Nat.le_refl _) (.string VS));have HR9:=Lib.hid (qcZ HR2.out ⟨gE,6,none⟩ (.string VS) HGN.out HIN.out);have HE9:=Lib.hid (HN.out _ HE2.out);clear hb;go_wp2_with fail;go_roundw
        case rel=>exact ⟨_,_,_,_,HLn.out,HTk.out,HE9.out,HR9.out,HX9.out⟩
        case measure=>rw [HR9.out.left_eq,HRG.out.left_eq];exact hcl
       obtain ⟨e_uname,d_uname⟩:=qjL hk_uname;have HN:Hid (takF y (K,V)=y):=qn8 y hk_gid hk_gname hk_link hk_mtime hk_path hk_uid hk_uname;unfold kGid at e_gid d_gid;unfold qaO at e_gname d_gname;unfold qa6 at e_link d_link;unfold qaM at e_mtime d_mtime;unfold qaZ at e_path d_path;unfold kUid at e_uid d_uid;unfold qaS at e_uname d_uname;clear hk_gid hk_gname hk_link hk_mtime hk_path hk_uid hk_uname;generalize bs V=VS at hen HAt HPa⊢;generalize bs K=KS at*;go_wp2_with fail;refine (HAt.out _ SW1.out).mono ?_;rintro e w2 ⟨⟨ev,rfl⟩,hb⟩;have HE2:=Lib.hid (HE1.out.below hb HE1.out.lt);have HX2:=Lib.hid (HX1.out.trans (hb.mono (Nat.le_trans HGS.out HX1.out.size)));have HR2:=Lib.hid (qbY HRG1.out hb HGM1.out);rw [←HN.out]at HE2;clear hb;go_wp2_with fail;go_roundw
       case rel=>exact ⟨_,_,_,_,HLn.out,HTk.out,HE2.out,HR2.out,HX2.out⟩
       case measure=>rw [HR2.out.left_eq,HRG.out.left_eq];exact hcl
end Go.Proofs.YtapgoifimhnbdaaGreatDoor
namespace Go.Proofs.YtapgoifimhnbdaaGreatDoor
open Go.RowKit
open Go.OpenShut
theorem q5J (A:Option Addr) (n c:Nat) (l:List UInt8) (hn:l.length=n) (hn2:n≤140737488351232) (hc:SlOk A n c) (w:World) (S:Std w) (hA:qaE w A l):
  Calls Tryz.prog 119 #[.slice A n c] w fun e w'=> ∃D cc,e= .returned (.tuple #[.agg (entC (qaI l).1.1 D cc).toArray,.int .i64 ((qaI l).1.2:Nat),.int .i64 (qaI l).2])∧SlOk D (qaI l).1.1.data.length cc∧qaE w' D (qaI l).1.1.data∧OwnB w' w.heap.size (.slice D (qaI l).1.1.data.length cc) (qaI l).1.1.data∧Below w.heap.size w w':=by
 by_cases h1:(qaC l).2=0
 ·by_cases hp:(qbS l).2=0
  ·exact rMOf_4 A n c l hn hn2 hc w S hA h1 hp
  ·by_cases h2:(qaC l).1.1.typ=120
   ·by_cases h3:(paxR (qaC l).1.2.1).2=0
    ·by_cases h4:(qaC (l.drop (qaC l).1.2.2)).2=0
     ·exact absurd (by rw [qi3 h1 h2 h3 h4]) hp
     ·exact rMOf_3 A n c l hn hn2 hc w S hA h1 h2 h3 h4
    ·exact rMOf_2 A n c l hn hn2 hc w S hA h1 h2 h3
   ·exact absurd (by rw [qi4 h1 h2]) hp
 ·exact rMOf_1 A n c l hn hn2 hc w S hA h1
end Go.Proofs.YtapgoifimhnbdaaGreatDoor
