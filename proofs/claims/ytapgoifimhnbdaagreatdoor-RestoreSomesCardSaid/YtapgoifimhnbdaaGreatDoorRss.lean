/- qaV of one kind, in one file: ResR, ResB, ResLs. -/
import Derived.Test.YtapgoifimhnbdaaGreatDoorRsp
import Derived.Test.YtapgoifimhnbdaaGreatDoorRes
import Derived.Test.YtapgoifimhnbdaaGreatDoorTrg
import Derived.Test.YtapgoifimhnbdaaGreatDoorEnf
import Derived.Test.YtapgoifimhnbdaaGreatDoorEnc
import Derived.Deep.DeepCutAuto
import Derived.Test.YtapgoifimhnbdaaGreatDoorStp
set_option linter.unusedVariables false
set_option maxRecDepth 100000
namespace Go.Proofs.YtapgoifimhnbdaaGreatDoor
open Go.RowKit
open Go.OpenShut
theorem qzB (P s:ByteArray) (hP:P.size≤maxLen) (hs:s.size≤maxLen) (w:World):
  Calls Tryz.prog 43 #[.string P,.string s] w fun e w'=>e= .returned (.bool (hitP s.data.toList P.data.toList))∧w=w':=by
 have q:=qn3 (a:=P.data.toList) (b:=s.data.toList);rw [qcJ,qcJ]at q;have H1:=Lib.hid fun W=>q75 P s W hP hs;have H2:=Lib.hid fun W=>q75 s P W hs hP;unfold hitP;generalize decide (P.data.toList=s.data.toList)=r at q⊢;generalize inB P.data.toList s.data.toList=r2 at H1⊢;generalize inB s.data.toList P.data.toList=r3 at H2⊢;clear hP hs;cases r with
 |true=>
  clear H1 H2;go_enter Tryz.func43,Tryz.ntmps43;go_wp2_with fail;go_ret;exact ⟨rfl,rfl⟩
 |false=>
  cases r2 with
  |true=>
   clear H2;go_enter Tryz.func43,Tryz.ntmps43;go_wp2_with fail;refine (H1.out _).mono ?_;rintro e w1 ⟨rfl,rfl⟩;go_wp2_with fail;go_ret;exact ⟨rfl,rfl⟩
  |false=>
   go_enter Tryz.func43,Tryz.ntmps43;go_wp2_with fail;refine (H1.out _).mono ?_;rintro e w1 ⟨rfl,rfl⟩;go_wp2_with fail;refine (H2.out _).mono ?_;rintro e w1 ⟨rfl,rfl⟩;go_wp2_with fail;go_ret;exact ⟨by simp,rfl⟩
theorem q0K (s:ByteArray) (hs:s.size≤maxLen) (b:Nat) (x:NodeV) (hx:x.sz) (D:Option Addr) (c:Nat) (W:World) (hc:W.cell? ⟨b,0,none⟩=some (.string s)):
  Calls Tryz.prog 42 #[.agg (nodC x D c).toArray,.pointer (some ⟨b,0,none⟩)] W fun e w'=>e= .returned (.bool (!hitP s.data.toList x.path))∧Below W.heap.size W w':=by
 have HI:=Lib.hid fun W'=>qzB (bs x.path) s (by rw [qaB];have:=hx.1.1;unfold maxLen;omega) hs W';rw [qaH]at HI;obtain ⟨path,kind,same,target,⟨m0,m1,m2,m3,m4,m5,m6⟩,data⟩:=x;unfold nodC;simp only at HI⊢;obtain ⟨P,hP⟩:=qaA (bs path);rw [hP.out]at HI⊢;generalize hitP s.data.toList path=r at HI⊢;have hlt:b<W.heap.size:=World.block_lt_of_cell? W _ hc;have hne:b≠W.heap.size:=by omega
 have HW:=Lib.hid fun o=>qbF (Below.refl W.heap.size W) o;have hc1: ∀o,(W.alloc o).cell? ⟨b,0,none⟩=some (.string s):=fun o=>by rw [World.cell?_alloc_old _ _ _ (by show b≠_;omega)];exact hc
 clear hP hlt hs;go_enter Tryz.func42,Tryz.ntmps42;go_wp2_with fail;refine (HI.out _).mono ?_;rintro e w1 ⟨rfl,rfl⟩;go_wp2_with fail;go_ret;exact ⟨rfl,HW.out _⟩
set_option maxHeartbeats 4000000 in
theorem quF (A:Option Addr) (n c:Nat) (b:List UInt8) (s:ByteArray) (hn:b.length=n) (hn2:n≤140737488351232) (hc:SlOk A n c) (hs:s.size≤maxLen) (w:World) (S:Std w) (hA:qaE w A b):
  Calls Tryz.prog 14 #[.slice A n c,.string s] w fun e w'=> ∃v xs,e= .returned (.tuple #[v,.int .i64 (qp1 b s.data.toList).2])∧xs.map (·.1)=(qp1 b s.data.toList).1∧OwnN w' w.heap.size v xs∧Below w.heap.size w w':=by
 have hb0:Below w.heap.size w (w.alloc (.cells #[.string s] 9)):=qbF (Below.refl _ _) _;have H1:=Lib.hid (ql6 A n c b hn hn2 hc (w.alloc (.cells #[.string s] 9)) (S.below hb0) (hA.below hb0));have HC0:=Lib.hid (Blk.new w 9 #[.string s]|>.cell 0);have HB0:=Lib.hid hb0;have h40:=qlG (b:=b);have hz:=q0Y (b:=b);have hV:qp1 b s.data.toList=if (qcY b).2≠0 then ([],(qcY b).2)else if qb7 (qcY b).1 s.data.toList=(qcY b).1.length then ([],5)else (qgN (qcY b).1 s.data.toList,0):=rfl
 generalize qcY b=R at H1 h40 hz hV;obtain ⟨l,E⟩:=R;simp only at H1 h40 hz hV;clear hn hn2 hc S hA hb0
 by_cases hE:E=0
 ·subst hE;rw [if_neg (fun h=>h rfl)]at hV;obtain ⟨n,HN⟩:=qaA l.length;have HL:Hid (l.length=n):=HN.out;rw [HL.out]at h40 hV;have hle:=qjH l s.data.toList;rw [HL.out]at hle;have HFd:=Lib.hid fun (A1:Option Addr) (c1:Nat) W h=>q7I A1 n c1 l s HL.out (by omega) (fun x hx=>(hz x hx).1) W h;have HXZ:=Lib.hid hz
  by_cases hlt:qb7 l s.data.toList<n
  ·rw [if_neg (by omega)]at hV;have HV:=Lib.hid hV;simp only [if_pos hlt]at HFd;have hn0:0<n:=by omega
   generalize qb7 l s.data.toList=fi at HFd hle hlt;clear hz hV HN;go_enter Tryz.func14,Tryz.ntmps14;go_wp2_with fail;refine H1.out.mono ?_;rintro e w1 ⟨v1,zs,rfl,hm,ho,hb⟩;have hzl:zs.length=n:=by rw [←HL.out,←hm,List.length_map]
   have HB1:=Lib.hid (HB0.out.trans (hb.mono HB0.out.size));have HC1:Hid (w1.cell? ⟨w.heap.size,0,none⟩=some (.string s)):=qfH _ _ _ _ HC0.out hb;have HO1:=Lib.hid (ho.mono HB0.out.size);have hgr:=ho.1.row (by omega);obtain ⟨g,cap,rfl,hgB,hgl,-,-⟩:=hgr;obtain ⟨A1,c1,he1,hs1,hN1⟩:=HO1.out.at;rw [hm]at hN1;cases he1;rw [hzl]at hs1 HO1⊢;have HM1:=Lib.hid hm;have HF1:=Lib.hid (HFd.out (some ⟨g,0,none⟩) cap w1 hN1)
   have hne:w.heap.size≠g:=by
    have:(w.alloc (.cells #[.string s] 9)).heap.size=w.heap.size+1:=by simp
    omega
   have hcell:=HC1.out;clear hm ho hb hN1 H1 HFd hs1 hle hlt HB0 HC0;go_wp2_with fail;refine HF1.out.mono ?_;rintro e w2 ⟨rfl,hb2⟩;clear hcell;have HB2:=Lib.hid (HB1.out.trans (hb2.mono HB1.out.size))
   have HDl:=Lib.hid (qzZ 42 (.pointer (some ⟨w.heap.size,0,none⟩)) (fun x=> !hitP s.data.toList x.path) (fun W=>W.cell? ⟨w.heap.size,0,none⟩=some (.string s)) g (qfH _ _) (q63 _ _ hne _) (fun x D c W h hx=>q0K s hs _ x hx D c W h) (enters_of Tryz.func42 (by kernel_rfl) rfl)
    w.heap.size n cap zs hzl (by omega) (fun y hy=>(HXZ.out y.1 (by rw [←HM1.out];exact List.mem_map_of_mem hy)).1) w2 (HO1.out.below hb2) HB2.out.size (qfH _ _ _ _ HC1.out hb2))
   clear hb2 HF1 HB1 HC1;go_wp2_with fail;refine HDl.out.mono ?_;rintro e w5 ⟨v5,xs5,rfl,hx5,hO5,hb5⟩
   have HX5:Hid (xs5.map (·.1)=qgN l s.data.toList):=by
    unfold Hid qgN;rw [hx5,HM1.out]
    congr 1
    funext x
    simp
   have HO5:=Lib.hid hO5;have HB5:=Lib.hid (HB2.out.trans hb5);clear hx5 hO5 hb5;go_wp2_with fail;go_ret2;exact ⟨_,xs5,by rw [HV.out];rfl,by rw [HV.out];exact HX5.out,HO5.out,HB5.out⟩
  ·simp only [if_neg hlt]at HFd;rw [if_pos (by omega)]at hV;have HV:=Lib.hid hV;clear hz hV hle hlt HN;go_enter Tryz.func14,Tryz.ntmps14;go_wp2_with fail;refine H1.out.mono ?_;rintro e w1 ⟨v1,zs,rfl,hm,ho,hb⟩;obtain ⟨A1,c1,rfl,hs1,hN1⟩:=ho.at;have hzl:zs.length=n:=by rw [←HL.out,←hm,List.length_map]
   rw [hm]at hN1;rw [hzl];have HB1:=Lib.hid (HB0.out.trans (hb.mono HB0.out.size));have HF1:=Lib.hid (HFd.out A1 c1 w1 hN1);have hcell:w1.cell? ⟨w.heap.size,0,none⟩=some (.string s):=qfH _ _ _ _ HC0.out hb;clear hm ho hb hN1 hzl H1 HFd hs1;go_wp2_with fail;refine HF1.out.mono ?_;rintro e w2 ⟨rfl,hb2⟩;have HB2:=Lib.hid (HB1.out.trans (hb2.mono HB1.out.size));clear hb2;go_wp2_with fail;go_ret2;exact ⟨_, [],by rw [HV.out];rfl,by rw [HV.out];rfl,OwnN.nil _ _,HB2.out⟩
 ·rw [if_pos hE]at hV;have HV:=Lib.hid hV;have hne:(E !=0)=true:=by simpa using hE
  clear hz hV hE h40;go_enter Tryz.func14,Tryz.ntmps14;go_wp2_with fail;refine H1.out.mono ?_;rintro e w1 ⟨v1,zs,rfl,hm,ho,hb⟩;obtain ⟨A1,c1,rfl,-,-⟩:=ho.at;have HB1:=Lib.hid (HB0.out.trans (hb.mono HB0.out.size));obtain ⟨m,HM⟩:=qaA zs.length;rw [HM.out];clear hm ho hb H1;go_wp2_with fail;go_ret2;exact ⟨_, [],by rw [HV.out];rfl,by rw [HV.out];rfl,OwnN.nil _ _,HB1.out⟩
theorem qx0 (t:List NodeV) (s:List UInt8) (k:Nat) (hk:k<t.length):qgN (t.take (k+1)) s=qgN (t.take k) s++(if hitP s t[k].path=true then [t[k]]else []):=by
 unfold qgN;rw [List.take_succ_eq_append_getElem hk,List.filter_append]
 congr 1
 rw [List.filter_cons]
 split<;>rfl
set_option maxHeartbeats 8000000 in
theorem qyB (A:Option Addr) (n c:Nat) (b:List UInt8) (s:ByteArray) (hn:b.length=n) (hn2:n≤140737488351232) (hc:SlOk A n c) (hs:s.size≤maxLen) (w:World) (S:Std w) (hA:qaE w A b):
  Calls Tryz.prog 15 #[.slice A n c,.string s] w fun e w'=> ∃v xs,e= .returned (.tuple #[v,.int .i64 (qp1 b s.data.toList).2])∧xs.map (·.1)=(qp1 b s.data.toList).1∧OwnN w' w.heap.size v xs∧Below w.heap.size w w':=by
 have H1:=Lib.hid (qsI A n c b hn hn2 hc w S hA);have h40:=qlG (b:=b);have hz:=q0Y (b:=b);have hV:qp1 b s.data.toList=if (qcY b).2≠0 then ([],(qcY b).2)else if qb7 (qcY b).1 s.data.toList=(qcY b).1.length then ([],5)else (qgN (qcY b).1 s.data.toList,0):=rfl
 generalize qcY b=R at H1 h40 hz hV;obtain ⟨l,E⟩:=R;simp only at H1 h40 hz hV;clear hn hn2 hc S hA
 by_cases hE:E=0
 ·subst hE;rw [if_neg (fun h=>h rfl)]at hV;obtain ⟨n,HN⟩:=qaA l.length;have HL:Hid (l.length=n):=HN.out;rw [HL.out]at h40 hV;have hle:=qjH l s.data.toList;rw [HL.out]at hle;have HFd:=Lib.hid fun (A1:Option Addr) (c1:Nat) W h=>q1I A1 n c1 l s.data.toList HL.out (by omega) W h;rw [qcJ]at HFd
  by_cases hlt:qb7 l s.data.toList<n
  ·rw [if_neg (by omega)]at hV;have HV:=Lib.hid hV;have HIn:=Lib.hid fun (q:List UInt8) (hq:q.length≤140737488351232) W=>q1E (bs q) s W (by rw [qaB];unfold maxLen;omega) hs;have HIm:=Lib.hid fun (q:List UInt8) (hq:q.length≤140737488351232) W=>q1E s (bs q) W hs (by rw [qaB];unfold maxLen;omega);simp only [qaH]at HIn HIm;generalize qb7 l s.data.toList=fi at HFd hle hlt;have hfe2:((fi:Int)==(n:Int))=false:=by simp;omega
   have HXS:=Lib.hid fun x hx=>(hz x hx).1.1.1;have HXZ:=Lib.hid hz;clear hz hV hle HN;go_enter Tryz.func15,Tryz.ntmps15;go_wp2_with fail;refine H1.out.mono ?_;rintro e w1 ⟨v1,zs,rfl,hm,ho,hb⟩;obtain ⟨A1,c1,rfl,hs1,hN1⟩:=ho.at;have hzl:zs.length=n:=by rw [←HL.out,←hm,List.length_map]
   rw [hm]at hN1;rw [hzl]at hs1⊢;have HA:=Lib.hid hN1;have HB0:=Lib.hid hb;have HF1:=Lib.hid (HFd.out A1 c1 w1 hN1);clear hm ho hb hN1 hzl H1 HFd hs1;go_wp2_with fail;refine HF1.out.mono ?_;rintro e w2 ⟨rfl,rfl⟩;clear HF1;go_wp2_with fail
   go_loopw [8,27] (fun ov iv wr=> ∃(k:Nat) (xs:List NodP),k≤n∧iv= .int .i64 k∧Hid (RowN wr w1.heap.size ov xs)∧Hid (xs.map (·.1)=qgN (l.take k) s.data.toList)∧Hid (∀y∈xs,qd1 w1 y.2 y.1.data)∧Hid (Below w1.heap.size w1 wr)) (fun _ iv _=>n-(intOf iv).toNat)
   case atStart=>exact ⟨0, [],Nat.zero_le _,rfl,RowN.nil _ _,by unfold Hid;rw [List.take_zero];rfl,fun y hy=>by (cases hy),Below.refl _ _⟩
   case round=>
    obtain ⟨k,xs,hk,rfl,HR,HM,HDT,HB⟩:=hrel
    by_cases hlt:k<n
    ·have hk1:k<l.length:=by rw [HL.out];exact hlt
     obtain ⟨b,o,E,cc,rfl,hb1,hSl,hE,hcl⟩:=HA.out.cells2 k hk1;obtain ⟨c0,c1,c2',c3,⟨c4,c5,c6,c7,c8,c9,cA⟩,cB⟩:=hcl wr HB.out
     have hlen:xs.length≤k:=by
      have h2:=congrArg List.length HM.out;have h3:=qr6 (l.take k) s.data.toList;rw [List.length_map]at h2;rw [List.length_take]at h3;omega
     have HST:=Lib.hid (qx0 l s.data.toList k hk1);have HO:=Lib.hid (HIn.out l[k].path (HXS.out _ (List.getElem_mem hk1)));have HP:=Lib.hid (HIm.out l[k].path (HXS.out _ (List.getElem_mem hk1)));have HYD:Hid (qd1 w1 (.slice E l[k].data.length cc) l[k].data):=⟨E,cc,rfl,hSl,hE⟩;have hqp:=qn3 (a:=l[k].path) (b:=s.data.toList);rw [qcJ]at hqp;generalize hy:l[k]=y at*;obtain ⟨Q,hQ⟩:=qaA (bs y.path);rw [hQ.out]at HO HP c0 hqp;have HHit:Hid (hitP s.data.toList y.path=(decide (y.path=s.data.toList)||inB y.path s.data.toList||inB s.data.toList y.path)):=rfl;obtain ⟨r1,hr1⟩: ∃r1,r1=decide (y.path=s.data.toList):=⟨_,rfl⟩;obtain ⟨r2,hr2⟩: ∃r2,r2=inB y.path s.data.toList:=⟨_,rfl⟩;obtain ⟨r3,hr3⟩: ∃r3,r3=inB s.data.toList y.path:=⟨_,rfl⟩;rw [←hr1,←hr2,←hr3]at HHit;rw [←hr1]at hqp;rw [←hr2]at HO;rw [←hr3]at HP;rw [HHit.out]at HST;clear hy hr1 hr2 hr3 hcl hSl hE hb1 HHit;go_upto_region 10 with fail
     have HBl:=Lib.hid (Blk.new wr 49 #[.string Q,.int .i64 y.kind,.int .i64 y.same,.string (bs y.target),.int .i64 y.md.mode,.int .i64 y.md.uid,.int .i64 y.md.gid,.string (bs y.md.user),.string (bs y.md.group),.int .i64 y.md.second,.int .i64 y.md.nano,.slice E y.data.length cc]);have HBa:=Lib.hid (qbF HB.out (.cells #[.string Q,.int .i64 y.kind,.int .i64 y.same,.string (bs y.target),.int .i64 y.md.mode,.int .i64 y.md.uid,.int .i64 y.md.gid,.string (bs y.md.user),.string (bs y.md.group),.int .i64 y.md.second,.int .i64 y.md.nano,.slice E y.data.length cc] 49));have HRa:=Lib.hid (HR.out.alloc (.cells #[.string Q,.int .i64 y.kind,.int .i64 y.same,.string (bs y.target),.int .i64 y.md.mode,.int .i64 y.md.uid,.int .i64 y.md.gid,.string (bs y.md.user),.string (bs y.md.group),.int .i64 y.md.second,.int .i64 y.md.nano,.slice E y.data.length cc] 49));generalize hwa:wr.alloc _=wa at HBl HBa HRa⊢;obtain ⟨⟨e0,e1,e2,e3,e4,e5,e6,e7,e8,e9,eA,eB⟩,-⟩:=qeX HBl.out;clear hwa c0 c1 c2' c3 c4 c5 c6 c7 c8 c9 cA cB;have h40':xs.length≤41:=by omega
     go_cut [46] (fun v wx=>v= .bool (r1||r2||r3)∧wa=wx)
     case first=>
      cases r1 with
      |true=>
       have hqn:(Q.toList==s.toList)=true:=hqp;clear HO HP HST;go_wp2_with fail;go_meet;exact ⟨rfl,rfl⟩
      |false=>
       have hqn:(Q.toList==s.toList)=false:=hqp;cases r2 with
       |true=>
        clear HST HP;go_wp2_with fail;refine (HO.out _).mono ?_;rintro e w4 ⟨rfl,rfl⟩;go_wp2_with fail;go_meet;exact ⟨rfl,rfl⟩
       |false=>
        clear HST;go_wp2_with fail;refine (HO.out _).mono ?_;rintro e w4 ⟨rfl,rfl⟩;go_wp2_with fail;refine (HP.out _).mono ?_;rintro e w4 ⟨rfl,rfl⟩;go_wp2_with fail;go_meet;exact ⟨by simp,rfl⟩
     case rest=>
      obtain ⟨rfl,rfl⟩:=hcut;clear HO HP hqp;cases hr:r1||r2||r3 with
      |false=>
       rw [hr,if_neg (by simp),List.append_nil]at HST
       have HM2:Hid (xs.map (·.1)=qgN (l.take (k+1)) s.data.toList):=by
        unfold Hid;rw [HST.out,←HM.out]
       clear HST hr;go_wp2_with fail;go_roundw
       case rel=>exact ⟨k+1,xs,by omega,by go_num,HRa,HM2,HDT,HBa⟩
       case measure=>simp [intOf];omega
      |true=>
       rw [hr,if_pos rfl]at HST
       have HM2:Hid ((xs++ [((y,.slice E y.data.length cc):NodP)]).map (·.1)=qgN (l.take (k+1)) s.data.toList):=by
        unfold Hid;rw [HST.out,←HM.out,List.map_append];simp
       clear HST hr;go_wp2_with (at_builtin;refine Stay.go ?_);refine Stay.on ?_;refine qcL rfl (.tmp 47) (.tmp 49) rfl w1.heap.size _ xs rfl (HRa.out.alloc _) (some ⟨wa.heap.size,0,none⟩) 1 1 [(y,.slice E y.data.length cc)] rfl rfl (by rw [←hQ.out];exact qeD wa (y,.slice E y.data.length cc)) (by simp [Value.oneCell']) (fun e=>by cases e) (by omega) (by simp;have:=HBa.out.size;omega) ?_;intro v6 w6 ho6 hg6;have HR6:Hid (RowN w6 w1.heap.size v6 (xs++ [((y,.slice E y.data.length cc):NodP)])):=ho6;have HB6:Hid (Below w1.heap.size w1 w6):=(HBa.out.alloc HBa.out.size _).grown hg6 (by rw [hszA];have:=HBa.out.size;omega) HRa.out.above
       have HD6:Hid (∀z∈xs++ [((y,.slice E y.data.length cc):NodP)],qd1 w1 z.2 z.1.data):=fun z hz=>by
        rcases List.mem_append.1 hz with a|a
        ·exact HDT.out z a
        ·obtain rfl:z=(y,.slice E y.data.length cc):=by simpa using a
         exact HYD.out
       clear ho6 hg6 e0 e1 e2 e3 e4 e5 e6 e7 e8 e9 eA eB;go_wp2_with fail;go_roundw
       case rel=>exact ⟨k+1,_,by omega,by go_num,HR6,HM2,HD6,HB6⟩
       case measure=>simp [intOf];omega
    ·obtain rfl:k=n:=by omega
     have HMl:Hid (xs.map (·.1)=qgN l s.data.toList):=by
      have h2:=HM.out;rw [List.take_of_length_le (by rw [HL.out];omega)]at h2;exact h2
     obtain ⟨A3,c3,he3,hs3,hat3⟩:=HR.out.at fun y hy=>(HDT.out y hy).below HB.out;have hlen3:xs.length=(qgN l s.data.toList).length:=by rw [←HMl.out,List.length_map]
     have hpl:(qgN l s.data.toList).length≤40:=by have:=qr6 l s.data.toList;have:=HL.out;omega
     rw [HMl.out]at hat3;rw [hlen3]at hs3 he3;subst he3;have HCp2:=Lib.hid fun W h=>qsO A3 _ c3 (qgN l s.data.toList) rfl (by omega) (fun y hy=>(HXZ.out y (List.mem_filter.1 hy).1).1) W h;have HA3:=Lib.hid hat3;obtain ⟨pl,hplv⟩:=qaA (qgN l s.data.toList).length;rw [hplv.out]at HCp2 hpl
     try rw [hplv.out]
     clear hs3 hat3 hlen3;go_wp2_with fail;refine (HCp2.out _ HA3.out).mono ?_;rintro e5 wB ⟨v5,xs5,rfl,hxs5,hO5,hb5⟩;have HB5:=Lib.hid (HB0.out.trans ((HB.out.trans (hb5.mono HB.out.size)).mono HB0.out.size));have HO5:=Lib.hid ((hO5.mono HB.out.size).mono HB0.out.size);have HX5:=Lib.hid hxs5;clear hb5 hO5 hxs5;go_wp2_with fail;go_ret2;exact ⟨_,xs5,by rw [HV.out];rfl,by rw [HV.out];exact HX5.out,HO5.out,HB5.out⟩
  ·obtain ⟨fi,hfi⟩: ∃fi,fi=qb7 l s.data.toList:=⟨_,rfl⟩;rw [←hfi]at HFd hle hlt hV;obtain rfl:fi=n:=by omega
   rw [if_pos rfl]at hV;have HV:=Lib.hid hV;clear hz hV hle hlt hfi HN;go_enter Tryz.func15,Tryz.ntmps15;go_wp2_with fail;refine H1.out.mono ?_;rintro e w1 ⟨v1,zs,rfl,hm,ho,hb⟩;obtain ⟨A1,c1,rfl,hs1,hN1⟩:=ho.at;have hzl:zs.length=fi:=by rw [←HL.out,←hm,List.length_map]
   rw [hm]at hN1;rw [hzl];have HB0:=Lib.hid hb;have HF1:=Lib.hid (HFd.out A1 c1 w1 hN1);clear hm ho hb hN1 hzl H1 HFd hs1;go_wp2_with fail;refine HF1.out.mono ?_;rintro e w2 ⟨rfl,rfl⟩;go_wp2_with fail;go_ret2;exact ⟨_, [],by rw [HV.out];rfl,by rw [HV.out];rfl,OwnN.nil _ _,HB0.out⟩
 ·rw [if_pos hE]at hV;have HV:=Lib.hid hV;have hne:(E !=0)=true:=by simpa using hE
  clear hz hV hE h40;go_enter Tryz.func15,Tryz.ntmps15;go_wp2_with fail;refine H1.out.mono ?_;rintro e w1 ⟨v1,zs,rfl,hm,ho,hb⟩;obtain ⟨A1,c1,rfl,-,-⟩:=ho.at;have HB0:=Lib.hid hb;obtain ⟨m,HM⟩:=qaA zs.length;rw [HM.out];clear hm ho hb H1;go_wp2_with fail;go_ret2;exact ⟨_, [],by rw [HV.out];rfl,by rw [HV.out];rfl,OwnN.nil _ _,HB0.out⟩
theorem q0J {b s:List UInt8} :(qp1 b s).1.length≤40:=by
 have h:=qlG (b:=b);unfold qp1
 split
 ·exact Nat.zero_le _
 ·split
  ·exact Nat.zero_le _
  ·exact Nat.le_trans (List.length_filter_le _ _) h
set_option maxHeartbeats 2000000 in
theorem qkU (A0:Option Addr) (n0 c0:Nat) (l0:List UInt8) (a1:ByteArray) (hn0:l0.length=n0) (hm0:n0≤140737488351232) (hc0:n0≤c0∧c0≤maxLen∧(A0=none→c0=0)) (w1:a1.size≤maxLen) (w:World) (hr0:qaE w A0 l0) (hL:laidMetH Tryz.prog Rows.restoreSomesRow.laid w):
  Calls Tryz.prog 5 #[.slice A0 n0 c0,.string a1] w fun e w'=>e= .returned (.bool true)∧Below w.heap.size w w':=by
 have S:Std w:=qlY hL (by kernel_rfl) (by simp [Rows.restoreSomesRow]) (by simp [Rows.restoreSomesRow]) (by simp [Rows.restoreSomesRow]);have H1:=Lib.hid (quF A0 n0 c0 l0 a1 hn0 hm0 hc0 w1 w S hr0);have H2:=Lib.hid fun W (h:Below w.heap.size w W)=>qyB A0 n0 c0 l0 a1 hn0 hm0 hc0 w1 W (S.below h) (hr0.below h);have h40:=q0J (b:=l0) (s:=a1.data.toList);clear hn0 hm0 hc0 w1 hr0 hL S;generalize qp1 l0 a1.data.toList=R at H1 H2 h40;obtain ⟨p,E⟩:=R;simp only at H1 H2 h40;go_enter Tryz.func5,Tryz.ntmps5;go_wp2_with fail;refine H1.out.mono ?_;rintro e x1 ⟨v1,xs,rfl,hm1,ho1,hb⟩;obtain ⟨A1,c1,rfl,hs1,hN1⟩:=ho1.at;have hl1:xs.length=p.length:=by rw [←hm1,List.length_map]
 rw [hm1]at hN1;rw [hl1];have HN1:=Lib.hid hN1;have HB1:=Lib.hid hb;obtain ⟨pl,HPL⟩:=qaA p.length;have HPl:Hid (p.length=pl):=HPL.out;rw [HPL.out]at h40⊢;clear hm1 ho1 hb hs1 hN1 hl1 H1 HPL;go_wp2_with fail;refine (H2.out _ HB1.out).mono ?_;rintro e x2 ⟨v2,ys,rfl,hm2,ho2,hb⟩;obtain ⟨A2,c2,rfl,hs2,hN2⟩:=ho2.at;have hl2:ys.length=pl:=by rw [←HPl.out,←hm2,List.length_map]
 rw [hm2]at hN2;rw [hl2];have HB2:=Lib.hid (HB1.out.trans (hb.mono HB1.out.size));have HS:=Lib.hid (qkY A1 A2 pl c1 pl c2 p p HPl.out HPl.out (by omega) (by omega) x2 (HN1.out.below hb) hN2);rw [decide_eq_true rfl]at HS;clear hm2 ho2 hb hs2 hN2 hl2 H2 HN1;go_wp2_with fail;refine HS.out.mono ?_;rintro e x3 ⟨rfl,hb⟩;have HB3:=Lib.hid (HB2.out.trans (hb.mono HB2.out.size));clear hb HS;go_wp2_with fail;go_ret;exact ⟨rfl,HB3.out⟩
end Go.Proofs.YtapgoifimhnbdaaGreatDoor
