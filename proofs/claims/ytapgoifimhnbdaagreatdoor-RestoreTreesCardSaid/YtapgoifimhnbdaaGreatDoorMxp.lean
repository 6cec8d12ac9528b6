/- qaV of one kind, in one file: MemX, PaxS. -/
import Derived.Test.YtapgoifimhnbdaaGreatDoorMwt
import Derived.Test.YtapgoifimhnbdaaGreatDoorMgh
import Derived.Test.YtapgoifimhnbdaaGreatDoorCut
import Derived.Test.YtapgoifimhnbdaaGreatDoorFld
import Derived.Deep.RegionHeld3
import Derived.Test.YtapgoifimhnbdaaGreatDoorPxa
import Derived.OwnWalk
set_option linter.unusedVariables false
set_option maxRecDepth 100000
namespace Go.Proofs.YtapgoifimhnbdaaGreatDoor
open Go.RowKit
open Go.OpenShut
theorem fldR_le (s:List UInt8) (wh:Bool):(fldR s wh).1.data.toList.length≤s.length:=by
 unfold fldR
 split
 ·simp
 ·split
  ·simp
  ·simp only [List.length_take];omega
theorem sl_le (l:List UInt8) (a b:Nat):(sl l a b).length≤l.length:=by
 unfold sl;simp only [List.length_drop,List.length_take];omega
theorem rdS_le (l:List UInt8) (a b:Nat) (wh:Bool):(rdS l a b wh).length≤l.length:=Nat.le_trans (fldR_le _ _) (sl_le _ _ _)
def qnT (h:HeadV):Prop:=h.name.length≤512∧h.pre.length≤512∧h.link.length≤512∧h.user.length≤512∧h.group.length≤512
theorem qoD:qnT qaT:=⟨by decide,by decide,by decide,by decide,by decide⟩
theorem qu3 (l:List UInt8):qnT (qbW l).1:=by
 unfold qbW
 split
 ·exact qoD
 ·rename_i h;have h5:l.length=512:=by simpa using h
  split
  ·exact qoD
  ·split
   ·exact qoD
   ·refine ⟨?_,?_,?_,?_,?_⟩<;>exact Nat.le_trans (rdS_le _ _ _ _) (by omega)
theorem qbI (b:List UInt8):qnT (qaC b).1.1:=by
 unfold qaC
 split
 ·exact qoD
 ·split
  ·exact qoD
  ·split
   ·exact qoD
   ·exact qu3 _
theorem q6K (c:UInt8):Lib.indexByte [48,53,50,49] c+1=qkF c:=by
 by_cases h1:c=48
 ·subst h1;rfl
 by_cases h2:c=53
 ·subst h2;rfl
 by_cases h3:c=50
 ·subst h3;rfl
 by_cases h4:c=49
 ·subst h4;rfl
 unfold qkF;rw [if_neg h1,if_neg h2,if_neg h3,if_neg h4,qbZ]
 have:hasB c [48,53,50,49]=false:=by
  unfold hasB;simp [Ne.symm h1,Ne.symm h2,Ne.symm h3,Ne.symm h4]
 rw [this];rfl
theorem q6B (c:UInt8):0≤qkF c∧qkF c≤4:=by
 unfold qkF
 split
 ·omega
 ·split
  ·omega
  ·split
   ·omega
   ·split<;>omega
theorem q2T {x W:World} (h:Below x.heap.size x W) (o:Obj):Below x.heap.size x (W.alloc o):=h.alloc h.size o
theorem q0D (y:EntV) (r:Rc):(takF y r).data=y.data:=by
 unfold takF
 split
 ·rfl
 ·split
  ·rfl
  ·split
   ·rfl
   ·split
    ·rfl
    ·split
     ·rfl
     ·split
      ·rfl
      ·split<;>rfl
theorem qtG (rs:List Rc): ∀(x0:EntV),(rs.foldl takF x0).data=x0.data:=by
 induction rs with
 |nil=>exact fun _=>rfl
 |cons r rs ih=>exact fun x0=>by rw [List.foldl_cons,ih,q0D]
theorem q36 (h:HeadV) (d:List UInt8) (D:Option Addr) (c:Nat):(entC (qeY h d) D c).toArray= #[.string (bs (oneV h.pre h.name).1),.int .i64 (qkF h.typ),.string (bs h.link),.int .i64 h.mode,.int .i64 h.uid,.int .i64 h.gid,.string (bs h.user),.string (bs h.group),.int .i64 h.time,.int .i64 0,.slice D d.length c]:=rfl
set_option maxHeartbeats 8000000 in
theorem qtO (h:HeadV) (hs:qnT h) (D:Option Addr) (c:Nat) (d:List UInt8) (A:Option Addr) (n cl:Nat) (rs:List Rc) (hn:rs.length=n) (hn2:n≤1000000) (hv: ∀r∈rs,r.2.length≤140737488351232) (w:World) (S:Std w) (hR:qcV w A rs):
  Calls Tryz.prog 168 #[.agg (qaG h),.slice D d.length c,.slice A n cl] w fun e w'=>e= .returned (.agg (entC (rs.foldl takF (qeY h d)) D c).toArray)∧Below w.heap.size w w':=by
 have HBr:=Lib.hid (q36 h d D c);have hix:=q6K h.typ;have hkb:=q6B h.typ;obtain ⟨z1,z2,-⟩:=hs;have HO:=Lib.hid fun W=>One_any (bs h.pre) (bs h.name) W (by rw [qaB];unfold maxLen;omega) (by rw [qaB];unfold maxLen;omega);rw [qaH,qaH]at HO;have hIx:=fun W=>qb2 ⟨#[48,53,50,49]⟩ (h.typ.toNat:Int) W;rw [show ((h.typ.toNat:Int).toNat.toUInt8)=h.typ by simp,show (⟨#[48,53,50,49]⟩:ByteArray).data.toList= [48,53,50,49]from rfl]at hIx;have HIx:=Lib.hid hIx;generalize qeY h d=y0 at HBr⊢;obtain ⟨n0,n1,n2,n3,n4,n5,n6,n7,n8,n9,nA⟩:=h;simp only at HBr hix hkb HO HIx;unfold qaG;simp only;generalize (oneV n1 n0).1=pth at HBr HO;generalize (oneV n1 n0).2=one at HO;generalize Lib.indexByte [48,53,50,49] n8=ix at hix HIx;generalize qkF n8=kT at HBr hix hkb;have hwx:IntKind.i64.wrap (ix+1)=kT:=by rw [hix,IntKind.wrap_i64];omega
 generalize hdl:d.length=dl at HBr⊢;have HRA:=Lib.hid hR;have HV:=Lib.hid hv;have hSs:=S;have hH1:=(Blk.new w 152 #[.string (bs n0),.string (bs n1),.string (bs n2),.int .i64 n3,.int .i64 n4,.int .i64 n5,.int .i64 n6,.int .i64 n7,.int .u8 (n8.toNat:Int),.string (bs n9),.string (bs nA)]).alloc (.cells #[.string ⟨#[]⟩,.int .i64 0,.string ⟨#[]⟩,.int .i64 0,.int .i64 0,.int .i64 0,.string ⟨#[]⟩,.string ⟨#[]⟩,.int .i64 0,.int .i64 0,.slice none 0 0] 73);have hZ1:=Blk.new (w.alloc (.cells #[.string (bs n0),.string (bs n1),.string (bs n2),.int .i64 n3,.int .i64 n4,.int .i64 n5,.int .i64 n6,.int .i64 n7,.int .u8 (n8.toNat:Int),.string (bs n9),.string (bs nA)] 152)) 73 #[.string ⟨#[]⟩,.int .i64 0,.string ⟨#[]⟩,.int .i64 0,.int .i64 0,.int .i64 0,.string ⟨#[]⟩,.string ⟨#[]⟩,.int .i64 0,.int .i64 0,.slice none 0 0];have hB1:=((Below.refl w.heap.size w).alloc (Nat.le_refl _) (.cells #[.string (bs n0),.string (bs n1),.string (bs n2),.int .i64 n3,.int .i64 n4,.int .i64 n5,.int .i64 n6,.int .i64 n7,.int .u8 (n8.toNat:Int),.string (bs n9),.string (bs nA)] 152)).alloc (by rw [hszA];omega) (.cells #[.string ⟨#[]⟩,.int .i64 0,.string ⟨#[]⟩,.int .i64 0,.int .i64 0,.int .i64 0,.string ⟨#[]⟩,.string ⟨#[]⟩,.int .i64 0,.int .i64 0,.slice none 0 0] 73);rw [hszA]at hZ1;clear hR hv hIx hkb hix z1 z2 hdl S;obtain ⟨yF,HYF⟩:=qaA (rs.foldl takF y0);rw [HYF.out];obtain ⟨path,kind,target,⟨m0,m1,m2,m3,m4,m5,m6⟩,data⟩:=yF;unfold entC;simp only;go_enter Tryz.func168,Tryz.ntmps168;go_upto_region 1 with fail
 generalize hx1:(w.alloc (.cells #[.string (bs n0),.string (bs n1),.string (bs n2),.int .i64 n3,.int .i64 n4,.int .i64 n5,.int .i64 n6,.int .i64 n7,.int .u8 (n8.toNat:Int),.string (bs n9),.string (bs nA)] 152)).alloc (.cells #[.string ⟨#[]⟩,.int .i64 0,.string ⟨#[]⟩,.int .i64 0,.int .i64 0,.int .i64 0,.string ⟨#[]⟩,.string ⟨#[]⟩,.int .i64 0,.int .i64 0,.slice none 0 0] 73)=x1 at hH1 hZ1 hB1⊢;have HH1:=Lib.hid hH1;have HZ1:=Lib.hid hZ1;have HB1:=Lib.hid hB1;have HS1:=Lib.hid (hSs.below hB1);clear hx1 hH1 hZ1 hB1 hSs;obtain ⟨gH,hgH⟩:=qaA w.heap.size;rw [hgH.out]at HH1⊢
 go_cut [7] (fun s wx=> ∃gE,s= .pointer (some ⟨gE,0,none⟩)∧x1.heap.size≤gE∧Blk wx gE 73 #[.string ⟨#[]⟩,.int .i64 kT,.string (bs n2),.int .i64 0,.int .i64 0,.int .i64 0,.string ⟨#[]⟩,.string ⟨#[]⟩,.int .i64 0,.int .i64 0,.slice D dl c]∧Below x1.heap.size x1 wx)
 case first=>
  have r8: ∀W:World,Below x1.heap.size x1 W→W.cell? ⟨gH,8,none⟩=some (.int .u8 (n8.toNat:Int)):=fun W h=>(HH1.out.below h HH1.out.lt).cell 8;have r2: ∀W:World,Below x1.heap.size x1 W→W.cell? ⟨gH,2,none⟩=some (.string (bs n2)):=fun W h=>(HH1.out.below h HH1.out.lt).cell 2;have hS:=Below.refl x1.heap.size x1
  go_region_held3 (fun W=>Below x1.heap.size x1 W)
   (first
    |(with_reducible assumption)
    |(with_reducible refine Below.drew ?_;with_reducible assumption)
    |(with_reducible exact q2T (by with_reducible assumption) _)
    |(with_reducible exact q2T (Below.drew (Below.refl _ _)) _)
    |(with_reducible exact Below.drew (q2T (Below.refl _ _) _))
    |(with_reducible exact keepX (by with_reducible assumption) (by with_reducible assumption)))
   (first
    |(go_at_call 156;refine (HIx.out _).mono ?_;rintro e w9 ⟨rfl,rfl⟩))
  all_goals
   go_wp2_with fail;go_meet;exact ⟨_,rfl,Nat.le_refl _,Blk.new _ _ _,by assumption⟩
 case rest=>
  obtain ⟨gE,rfl,hgE,hE2,hB2⟩:=hcut;rename World=>x2
  have hH2:=HH1.out.below hB2 HH1.out.lt;obtain ⟨⟨q0,q1,q2,q3,q4,q5,q6,q7,q8,q9,qA⟩,-⟩:=qaF hH2;obtain ⟨⟨p0,p1,p2,p3,p4,p5,p6,p7,p8,p9,pA⟩,f0,f1,f2,f3,f4,f5,f6,f7,f8,f9,fA⟩:=qaF hE2
  have hN3:Blk (((((((x2.setCell ⟨gE,3,none⟩ (.int .i64 n3)).setCell ⟨gE,4,none⟩ (.int .i64 n4)).setCell ⟨gE,5,none⟩ (.int .i64 n5)).setCell ⟨gE,6,none⟩ (.string (bs n9))).setCell ⟨gE,7,none⟩ (.string (bs nA))).setCell ⟨gE,8,none⟩ (.int .i64 n7)).setCell ⟨gE,9,none⟩ (.int .i64 0)) gE 73 #[.string ⟨#[]⟩,.int .i64 kT,.string (bs n2),.int .i64 n3,.int .i64 n4,.int .i64 n5,.string (bs n9),.string (bs nA),.int .i64 n7,.int .i64 0,.slice D dl c]:=
   ((((((hE2.set_ 3 (.int .i64 n3)).set_ 4 (.int .i64 n4)).set_ 5 (.int .i64 n5)).set_ 6 (.string (bs n9))).set_ 7 (.string (bs nA))).set_ 8 (.int .i64 n7)).set_ 9 (.int .i64 0)
  have hB3:Below x1.heap.size x1 (((((((x2.setCell ⟨gE,3,none⟩ (.int .i64 n3)).setCell ⟨gE,4,none⟩ (.int .i64 n4)).setCell ⟨gE,5,none⟩ (.int .i64 n5)).setCell ⟨gE,6,none⟩ (.string (bs n9))).setCell ⟨gE,7,none⟩ (.string (bs nA))).setCell ⟨gE,8,none⟩ (.int .i64 n7)).setCell ⟨gE,9,none⟩ (.int .i64 0)):=
   ((((((hB2.setCell (p:=⟨gE,3,none⟩) hgE _).setCell (p:=⟨gE,4,none⟩) hgE _).setCell (p:=⟨gE,5,none⟩) hgE _).setCell (p:=⟨gE,6,none⟩) hgE _).setCell (p:=⟨gE,7,none⟩) hgE _).setCell (p:=⟨gE,8,none⟩) hgE _).setCell (p:=⟨gE,9,none⟩) hgE _
  have HN3:=Lib.hid hN3;have HB3:=Lib.hid hB3;have HGE:=Lib.hid hgE;clear hH2 hE2 hB2 hN3 hB3 hgE HIx hwx;go_upto_region 3 with fail
  generalize (((((((x2.setCell ⟨gE,3,none⟩ (.int .i64 n3)).setCell ⟨gE,4,none⟩ (.int .i64 n4)).setCell ⟨gE,5,none⟩ (.int .i64 n5)).setCell ⟨gE,6,none⟩ (.string (bs n9))).setCell ⟨gE,7,none⟩ (.string (bs nA))).setCell ⟨gE,8,none⟩ (.int .i64 n7)).setCell ⟨gE,9,none⟩ (.int .i64 0))=x3 at HN3 HB3⊢;clear q0 q1 q2 q3 q4 q5 q6 q7 q8 q9 qA p0 p1 p2 p3 p4 p5 p6 p7 p8 p9 pA f0 f1 f2 f3 f4 f5 f6 f7 f8 f9 fA;obtain ⟨⟨q0,q1,-⟩,-⟩:=qaF (HH1.out.below HB3.out HH1.out.lt);go_wp2_with fail;refine (HO.out _).mono ?_;rintro e x4 ⟨rfl,hb4⟩;have hN4:=HN3.out.below hb4 HN3.out.lt;obtain ⟨⟨p0,p1,p2,p3,p4,p5,p6,p7,p8,p9,pA⟩,f0,f1,f2,f3,f4,f5,f6,f7,f8,f9,fA⟩:=qaF hN4
  have HN5:Hid (Blk (x4.setCell ⟨gE,0,none⟩ (.string (bs pth))) gE 73 (entC y0 D c).toArray):=by
   unfold Hid;rw [HBr.out];exact hN4.set_ 0 (.string (bs pth))
  have HB5:Hid (Below x1.heap.size x1 (x4.setCell ⟨gE,0,none⟩ (.string (bs pth)))):=(HB3.out.trans (hb4.mono HB3.out.size)).setCell (p:=⟨gE,0,none⟩) HGE.out _;clear hb4 hN4 HN3 HB3 HO HBr q0 q1;go_wp2_with fail
  go_loopw [43] (fun iv wr=> ∃i:Nat,i≤n∧iv= .int .i64 i∧Hid (Blk wr gE 73 (entC ((rs.take i).foldl takF y0) D c).toArray)∧Hid (Below x1.heap.size x1 wr)) (fun iv _=>n-(intOf iv).toNat)
  case atStart=>exact ⟨0,Nat.zero_le _,rfl,HN5.out,HB5.out⟩
  case round=>
   obtain ⟨i,hi,rfl,HBk,HB⟩:=hrel
   by_cases hlt:i<n
   ·have i1:i<rs.length:=by rw [hn];exact hlt
    obtain ⟨b,o,rfl,c0,c1⟩:=(HRA.out.below (HB1.out.trans (HB.out.mono HB1.out.size))) i i1
    have HSt:Hid ((rs.take (i+1)).foldl takF y0=takF ((rs.take i).foldl takF y0) rs[i]):=by
     unfold Hid;rw [List.take_succ_eq_append_getElem i1,List.foldl_append];rfl
    have hvi:=HV.out rs[i] (List.getElem_mem i1);generalize rs[i]=r at c0 c1 HSt hvi;obtain ⟨K,V⟩:=r;simp only at c0 c1 hvi;generalize (rs.take i).foldl takF y0=hi0 at HBk HSt;have HB2:=Lib.hid (HB.out.alloc HB.out.size (.cells #[.string (bs K),.string (bs V)] 190));have HL:=Lib.hid (q4L hi0 D c K V hvi (HS1.out.below HB2.out) (HBk.out.alloc (.cells #[.string (bs K),.string (bs V)] 190)));generalize hVS:bs V=VS at c1 HL HB2;generalize hKS:bs K=KS at c0 HL HB2;clear hvi hVS hKS;go_wp2_with fail;refine HL.out.mono ?_;rintro e w10 ⟨rfl,hN,hb⟩;have HN:Hid (Blk w10 gE 73 (entC ((rs.take (i+1)).foldl takF y0) D c).toArray):=by unfold Hid;rw [HSt.out];exact hN
    have HB4:=Lib.hid (HB2.out.trans (hb.mono HGE.out));clear hN hb HSt HL HB2;go_wp2_with fail;go_roundw
    case rel=>exact ⟨i+1,by omega,by go_num,HN.out,HB4.out⟩
    case measure=>simp [intOf];omega
   ·obtain rfl:i=n:=by omega
    have hE:=HBk.out;rw [List.take_of_length_le (by omega),HYF.out]at hE;have hZ9:=HZ1.out.below HB.out HZ1.out.lt;have HB9:=Lib.hid (HB1.out.trans (HB.out.mono HB1.out.size));unfold entC at hE;simp only at hE;obtain ⟨⟨z0,z1,z2,z3,z4,z5,z6,z7,z8,z9,zA⟩,g0,g1,g2,g3,g4,g5,g6,g7,g8,g9,gA⟩:=qaF hZ9;obtain ⟨⟨q0,q1,q2,q3,q4,q5,q6,q7,q8,q9,qA⟩,f0,f1,f2,f3,f4,f5,f6,f7,f8,f9,fA⟩:=qaF hE;clear hE hZ9 HBk HB HN5 HB5;obtain rfl:w.heap.size=gH:=hgH.out;go_wp2_with fail;refine bodyPost_ret (v:= .agg #[.string (bs path),.int .i64 kind,.string (bs target),.int .i64 m0,.int .i64 m1,.int .i64 m2,.string (bs m3),.string (bs m4),.int .i64 m5,.int .i64 m6,.slice D data.length c]) (by simp [results,Tryz.results168,go_sem, *]) rfl ⟨rfl,?_⟩;exact qaL HB9.out (Nat.le_succ _) _ _ _ _ _ _ _ _ _ _ _
set_option maxHeartbeats 4000000 in
theorem qmJ (s:ByteArray) (w:World) (T:Tab w) (hs:s.size≤281474976710656):
  Calls Tryz.prog 167 #[.string s] w fun e w'=> ∃A n c,e= .returned (.tuple #[.slice A n c,.int .i64 (paxR s.data.toList).2])∧Own w' w.heap.size (.slice A n c) n (paxR s.data.toList).1∧Below w.heap.size w w':=by
 obtain ⟨i0,hi,hz0,hz1,hz2⟩:=info_parts qqU;have HS0:=Lib.hid (qsF s.data.toList);go_enter Tryz.func167,Tryz.ntmps167;go_wp2_with fail
 go_loopw [0,4] (fun sv lv wr=> ∃(S:ByteArray) (n:Nat) (acc:List Rc),sv= .string S∧S.size≤s.size∧n≤13∧Hid (qjX acc S.data.toList=qbV s.data.toList)∧Hid (∀r∈acc,chkR r.1 r.2=0)∧Hid (Own wr w.heap.size lv n (acc.take 13))∧Hid (Below w.heap.size w wr)) (fun sv _ _=>qv4 sv)
 case atStart=>exact ⟨s,0, [],rfl,Nat.le_refl _,by omega,HS0.out,(fun r hr=>by cases hr),Own.nil _ _,Below.refl _ _⟩
 case round=>
  obtain ⟨S,n,acc,rfl,hSs,hn13,HA,HOK,HO,HB⟩:=hrel;have hws:w.heap.size≤wr.heap.size:=HB.out.size;obtain ⟨A,c,rfl⟩:=HO.out.form
  by_cases h0:S.size=0
  ·obtain rfl:=qiO h0
   have HE:Hid (qbV s.data.toList=(acc,0)):=by
    have h:qjX acc []=_:=HA.out;rw [qsG]at h;exact h.symm
   have HC:=Lib.hid (qoS A n c (acc.take 13) HO.out.1 (by omega) (q0E (q0B HOK.out 13)) wr HO.out.at);have HP:=Lib.hid (q5V HE.out);clear h0
   by_cases hc:chkP (acc.take 13)=0
   ·have HP2:=Lib.hid (HP.out.trans (if_neg (by simpa using hc)));rw [hc]at HC;clear hc;go_wp2_with fail;refine HC.out.mono ?_;rintro e w1 ⟨rfl,hb⟩;have HW:=Lib.hid (HB.out.trans (hb.mono hws));have HRA:=Lib.hid (HO.out.below hb);clear hb;go_wp2_with fail;go_ret2;rw [HP2.out];exact ⟨A,n,c,rfl,HRA.out,HW.out⟩
   ·have HP2:=Lib.hid (HP.out.trans (if_pos hc));obtain ⟨x,hx⟩:=qaA (chkP (acc.take 13));rw [hx.out]at hc HC HP2;have tc:(x !=0)=true:=by simpa using hc
    clear hc;go_wp2_with fail;refine HC.out.mono ?_;rintro e w1 ⟨rfl,hb⟩;have HW:=Lib.hid (HB.out.trans (hb.mono hws));clear hb;go_wp2_with fail;go_ret2;rw [HP2.out];exact ⟨none,0,0,rfl,Own.nil _ _,HW.out⟩
  ·have hemp:=str_ne h0;have hS1:1≤S.size:=by omega
   have HF:=Lib.hid (qqG S wr (T.below HB.out) (by omega));have hne:=q2J h0;clear h0
   by_cases hr:(recR S.data.toList).2.2.2=0
   ·obtain ⟨-,hr2,hr3,hr1⟩:=qoB hr;have hok:=(qiV hr).1;have HST:=Lib.hid ((qoJ hne hr).symm.trans HA.out);have HF2:Hid (frV S.data.toList= .tuple #[.agg #[.string (bs (recR S.data.toList).1),.string (bs (recR S.data.toList).2.1)],.int .i64 (szR S.data.toList:Nat),.int .i64 0]):=by unfold Hid frV;rw [hr]
    rw [HF2.out]at HF;rw [qeS]at hr2;have hext:(S.extract (szR S.data.toList) S.size).data.toList=(recR S.data.toList).2.2.1:=by rw [qcI,hr3]
    obtain ⟨z,hz⟩:=qaA (szR S.data.toList);rw [hz.out]at hr1 hr2 HF hext;have hzS:(z:Int)≤(S.size:Int):=by omega
    have hzr:(S.extract z S.size).size=S.size-z:=by rw [ByteArray.size_extract];omega
    obtain ⟨rk,hrk⟩:=qaA (recR S.data.toList).1;obtain ⟨rv,hrv⟩:=qaA (recR S.data.toList).2.1;rw [hrk.out,hrv.out]at HF HST hok;rw [←hext]at HST;have HOK2:Hid (∀x∈acc++ [(rk,rv)],chkR x.1 x.2=0):=q11 HOK.out hok;clear hok hext hr hne hr2 hr3 hz hrk hrv HF2
    by_cases hn:n≤12
    ·have HT13:=Lib.hid (qxX (a:=acc) (rk,rv) (by rw [HO.out.1];exact hn));obtain ⟨K,HK⟩:=qaA (bs rk);obtain ⟨V,HV⟩:=qaA (bs rv);rw [HK.out,HV.out]at HF;go_wp2_with fail;refine HF.out.mono ?_;rintro e w1 ⟨rfl,hb⟩;have HB1:=Lib.hid (HB.out.trans (hb.mono hws));have hO1:=(HO.out.below hb).alloc (.cells #[.string K,.string V] 190);have HO1:=Lib.hid (hO1.alloc (.cells #[.string K,.string V] 190));obtain ⟨⟨d0,d1⟩,-⟩:=blk2 (Blk.new w1 190 #[.string K,.string V]);have hw1:w.heap.size≤w1.heap.size:=HB1.out.size;clear hb hO1;go_wp2_with (at_builtin;refine Stay.go ?_);refine Stay.on ?_
     have hnb:((w1.alloc (.cells #[.string K,.string V] 190)).alloc (.cells #[.string K,.string V] 190)).heap[w1.heap.size+1]?=some (.cells #[.string K,.string V] 190 (0,0)):=by
      have h9:=heap_alloc_new (w1.alloc (.cells #[.string K,.string V] 190)) (.cells #[.string K,.string V] 190);simpa using h9
     refine wpList_append_lies _ rfl (.tmp 23) (.tmp 25) 145 rfl w.heap.size 190 i0 _ 2 32 Tryz.underlying145 hi hz0 hz1 hz2 rfl (by decide) (.slice A n c) n _ rfl HO1.out.2 ⟨w1.heap.size+1,0,none⟩ 1 1 [.string K,.string V] rfl rfl (World.news_of_block (cs:= #[.string K,.string V]) (t:=190) (fr:=(0,0)) hnb) (by simp [Value.oneCell']) (by omega) (by unfold maxLen;omega) (by omega) (by simp;omega) _ rfl ?_;intro g' cap' w6 hown1 hgrow1 hat1 hlt1
     have HO6:Hid (Own w6 w.heap.size (.slice (some ⟨g',0,none⟩) (n+1) cap') (n+1) ((acc++ [(rk,rv)]).take 13)):=by
      unfold Hid;rw [HT13.out];refine qwR HO.out.1 ?_;rw [HK.out,HV.out];exact hown1
     have HB6:Hid (Below w.heap.size w w6):=((HB1.out.alloc hw1 _).alloc (by simp;omega) _).grown hgrow1 (by simp;omega) HO1.out.above;clear hown1 hgrow1 hat1 hlt1 hnb d0 d1;go_wp2_with fail;go_roundw
     case rel=>exact ⟨_,n+1,acc++ [(rk,rv)],rfl,by rw [hzr];omega,by omega,HST,HOK2,HO6,HB6⟩
     case measure=>show (S.extract z S.size).size<S.size;omega
    ·have HT13:=Lib.hid (quA (a:=acc) (rk,rv) (by rw [HO.out.1];exact hn));go_wp2_with fail;refine HF.out.mono ?_;rintro e w1 ⟨rfl,hb⟩;have HB1:=Lib.hid ((HB.out.trans (hb.mono hws)).alloc (Nat.le_trans hws hb.size) (.cells #[.string (bs rk),.string (bs rv)] 190));have hO1:=(HO.out.below hb).alloc (.cells #[.string (bs rk),.string (bs rv)] 190);rw [←HT13.out]at hO1;have HO1:=Lib.hid hO1;clear hb hO1;go_wp2_with fail;go_roundw
     case rel=>exact ⟨_,n,acc++ [(rk,rv)],rfl,by rw [hzr];omega,by omega,HST,HOK2,HO1,HB1⟩
     case measure=>show (S.extract z S.size).size<S.size;omega
   ·rw [q72 hr]at HF;have HE:=Lib.hid (qwO (HA.out.symm.trans (qsH hne hr)) hr);obtain ⟨x,hx⟩:=qaA (recR S.data.toList).2.2.2;rw [hx.out]at HF HE hr;have tc:(x !=0)=true:=by simpa using hr
    clear hr hne;go_wp2_with fail;refine HF.out.mono ?_;rintro e w1 ⟨rfl,hb⟩;have HW:=Lib.hid ((HB.out.trans (hb.mono hws)).alloc (Nat.le_trans hws hb.size) (.cells #[.string ⟨#[]⟩,.string ⟨#[]⟩] 190));clear hb;go_wp2_with fail;go_ret2;rw [HE.out];exact ⟨none,0,0,rfl,Own.nil _ _,HW.out⟩
end Go.Proofs.YtapgoifimhnbdaaGreatDoor
