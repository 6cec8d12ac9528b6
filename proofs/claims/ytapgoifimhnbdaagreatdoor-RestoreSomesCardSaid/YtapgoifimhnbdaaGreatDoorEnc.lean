/- qaV of one kind, in one file: NodC, NodD, EntD, EntC. -/
import Derived.Test.YtapgoifimhnbdaaGreatDoorNoa
import Derived.Test.YtapgoifimhnbdaaGreatDoorMth
import Derived.Test.YtapgoifimhnbdaaGreatDoorSpl
import Derived.Test.YtapgoifimhnbdaaGreatDoorEna
set_option linter.unusedVariables false
set_option maxRecDepth 100000
namespace Go.Proofs.YtapgoifimhnbdaaGreatDoor
open Go.RowKit
open Go.OpenShut
def NodeV.sz (x:NodeV):Prop:=(x.path.length≤140737488351232∧x.target.length≤140737488351232∧x.data.length≤140737488351232)∧x.md.sz
theorem qtZ {l:List UInt8} :((bs l).toList== [])=decide (l= []):=by
 rw [ByteArray.toList_eq,Bool.eq_iff_iff,beq_iff_eq,decide_eq_true_eq];exact Iff.rfl
theorem qn3 {a b:List UInt8} :((bs a).toList==(bs b).toList)=decide (a=b):=by
 rw [qcQ,Bool.eq_iff_iff,decide_eq_true_eq,decide_eq_true_eq];exact ⟨fun e=>congrArg (fun s:ByteArray=>s.data.toList) e,fun e=>by rw [e]⟩
theorem qb3.cells {w:World} {A:Option Addr} {l:List NodeV} (h:qb3 w A l) (j:Nat) (hj:j<l.length): ∃(b o:Nat) (D:Option Addr) (c:Nat),A=some ⟨b,o,none⟩∧
  w.cell? ⟨b,o+j*12,none⟩=some (.string (bs l[j].path))∧w.cell? ⟨b,o+j*12+1,none⟩=some (.int .i64 l[j].kind)∧w.cell? ⟨b,o+j*12+2,none⟩=some (.int .i64 l[j].same)∧w.cell? ⟨b,o+j*12+3,none⟩=some (.string (bs l[j].target))∧
  (w.cell? ⟨b,o+j*12+4,none⟩=some (.int .i64 l[j].md.mode)∧w.cell? ⟨b,o+j*12+5,none⟩=some (.int .i64 l[j].md.uid)∧w.cell? ⟨b,o+j*12+6,none⟩=some (.int .i64 l[j].md.gid)∧w.cell? ⟨b,o+j*12+7,none⟩=some (.string (bs l[j].md.user))∧w.cell? ⟨b,o+j*12+8,none⟩=some (.string (bs l[j].md.group))∧w.cell? ⟨b,o+j*12+9,none⟩=some (.int .i64 l[j].md.second)∧w.cell? ⟨b,o+j*12+10,none⟩=some (.int .i64 l[j].md.nano))∧
  w.cell? ⟨b,o+j*12+11,none⟩=some (.slice D l[j].data.length c)∧SlOk D l[j].data.length c∧qaE w D l[j].data:=by
 obtain ⟨b,o,D,c,e,h12,hs,hd⟩:=h j hj;exact ⟨b,o,D,c,e,h12 0 (by omega),h12 1 (by omega),h12 2 (by omega),h12 3 (by omega),⟨h12 4 (by omega),h12 5 (by omega),h12 6 (by omega),h12 7 (by omega),h12 8 (by omega),h12 9 (by omega),h12 10 (by omega)⟩,h12 11 (by omega),hs,hd⟩
set_option maxHeartbeats 1000000 in
theorem q1I (A:Option Addr) (n c:Nat) (l:List NodeV) (s:List UInt8) (hn:l.length=n) (hn2:n≤140737488355328) (w:World) (hA:qb3 w A l):
  Calls Tryz.prog 37 #[.slice A n c,.string (bs s)] w fun e w'=>e= .returned (.int .i64 (qb7 l s:Nat))∧w=w':=by
 have HN:=Lib.hid hn;have HA:=Lib.hid hA;obtain ⟨S,HS⟩:=qaA (bs s);rw [HS.out];clear hn hA;go_enter Tryz.func37,Tryz.ntmps37;go_wp2_with fail
 go_loop [5] (fun i=> ∃k:Nat,k≤n∧i= .int .i64 k∧Hid (k≤qb7 l s)) (fun i=>n-(intOf i).toNat)
 case atStart=>exact ⟨0,Nat.zero_le _,rfl,Nat.zero_le _⟩
 case round=>
  obtain ⟨k,hk,rfl,hf⟩:=hrel
  by_cases hlt:k<n
  ·have hkl:k<l.length:=by rw [HN.out];exact hlt
   obtain ⟨b,o,D,cc,rfl,c0,-⟩:=HA.out.cells k hkl;have hq:=qn3 (a:=l[k].path) (b:=s);rw [HS.out]at hq;obtain ⟨P,HP⟩:=qaA (bs l[k].path);rw [HP.out]at hq c0
   by_cases e:l[k].path=s
   ·have HV:=Lib.hid (qo6 l s k hkl hf.out e);rw [decide_eq_true e]at hq;clear e;go_wp2_with fail;go_ret;exact ⟨qaR (by rw [HV.out]),rfl⟩
   ·have HV:=Lib.hid (qo7 l s k hkl hf.out e);rw [decide_eq_false e]at hq;clear e;go_wp2_with fail;go_round
    case rel=>exact ⟨k+1,by omega,by go_num,HV⟩
    case measure=>simp [intOf];omega
  ·obtain rfl:k=n:=by omega
   have HV:Hid (qb7 l s=k):=by
    have:=qjH l s;unfold Hid;have h2:=hf.out;have h3:=HN.out;omega
   go_wp2_with fail;go_ret;exact ⟨qaR (by rw [HV.out]),rfl⟩
theorem qaF {w:World} {g t:Nat} {a0 a1 a2 a3 a4 a5 a6 a7 a8 a9 a10:Value} (h:Blk w g t #[a0,a1,a2,a3,a4,a5,a6,a7,a8,a9,a10]):
  (w.cell? ⟨g,0,none⟩=some a0∧w.cell? ⟨g,1,none⟩=some a1∧w.cell? ⟨g,2,none⟩=some a2∧w.cell? ⟨g,3,none⟩=some a3∧w.cell? ⟨g,4,none⟩=some a4∧w.cell? ⟨g,5,none⟩=some a5∧w.cell? ⟨g,6,none⟩=some a6∧w.cell? ⟨g,7,none⟩=some a7∧w.cell? ⟨g,8,none⟩=some a8∧w.cell? ⟨g,9,none⟩=some a9∧w.cell? ⟨g,10,none⟩=some a10)∧
  (w.frozen? ⟨g,0,none⟩=false∧w.frozen? ⟨g,1,none⟩=false∧w.frozen? ⟨g,2,none⟩=false∧w.frozen? ⟨g,3,none⟩=false∧w.frozen? ⟨g,4,none⟩=false∧w.frozen? ⟨g,5,none⟩=false∧w.frozen? ⟨g,6,none⟩=false∧w.frozen? ⟨g,7,none⟩=false∧w.frozen? ⟨g,8,none⟩=false∧w.frozen? ⟨g,9,none⟩=false∧w.frozen? ⟨g,10,none⟩=false):=
 ⟨⟨h.cell 0,h.cell 1,h.cell 2,h.cell 3,h.cell 4,h.cell 5,h.cell 6,h.cell 7,h.cell 8,h.cell 9,h.cell 10⟩,h.frozen 0,h.frozen 1,h.frozen 2,h.frozen 3,h.frozen 4,h.frozen 5,h.frozen 6,h.frozen 7,h.frozen 8,h.frozen 9,h.frozen 10⟩
theorem qcO.cells {w:World} {A:Option Addr} {l:List EntV} (h:qcO w A l) (j:Nat) (hj:j<l.length): ∃(b o:Nat) (D:Option Addr) (c:Nat),A=some ⟨b,o,none⟩∧
  w.cell? ⟨b,o+j*11,none⟩=some (.string (bs l[j].path))∧w.cell? ⟨b,o+j*11+1,none⟩=some (.int .i64 l[j].kind)∧w.cell? ⟨b,o+j*11+2,none⟩=some (.string (bs l[j].target))∧
  (w.cell? ⟨b,o+j*11+3,none⟩=some (.int .i64 l[j].md.mode)∧w.cell? ⟨b,o+j*11+4,none⟩=some (.int .i64 l[j].md.uid)∧w.cell? ⟨b,o+j*11+5,none⟩=some (.int .i64 l[j].md.gid)∧w.cell? ⟨b,o+j*11+6,none⟩=some (.string (bs l[j].md.user))∧w.cell? ⟨b,o+j*11+7,none⟩=some (.string (bs l[j].md.group))∧w.cell? ⟨b,o+j*11+8,none⟩=some (.int .i64 l[j].md.second)∧w.cell? ⟨b,o+j*11+9,none⟩=some (.int .i64 l[j].md.nano))∧
  w.cell? ⟨b,o+j*11+10,none⟩=some (.slice D l[j].data.length c)∧SlOk D l[j].data.length c∧qaE w D l[j].data:=by
 obtain ⟨b,o,D,c,e,h12,hs,hd⟩:=h j hj;exact ⟨b,o,D,c,e,h12 0 (by omega),h12 1 (by omega),h12 2 (by omega),⟨h12 3 (by omega),h12 4 (by omega),h12 5 (by omega),h12 6 (by omega),h12 7 (by omega),h12 8 (by omega),h12 9 (by omega)⟩,h12 10 (by omega),hs,hd⟩
theorem qcO.take {w:World} {A:Option Addr} {l:List EntV} (h:qcO w A l) (k:Nat):qcO w A (l.take k):=fun j hj=>by
 have hj':j<l.length:=by rw [List.length_take]at hj;omega
 have:=h j hj'
 rwa [List.getElem_take]
set_option maxHeartbeats 1000000 in
theorem qjZ (A:Option Addr) (n c:Nat) (l:List EntV) (s:List UInt8) (hn:l.length=n) (hn2:n≤140737488355328) (w:World) (hA:qcO w A l):
  Calls Tryz.prog 77 #[.slice A n c,.string (bs s)] w fun e w'=>e= .returned (.int .i64 (qaQ l s:Nat))∧w=w':=by
 have HN:=Lib.hid hn;have HA:=Lib.hid hA;obtain ⟨S,HS⟩:=qaA (bs s);rw [HS.out];clear hn hA;go_enter Tryz.func77,Tryz.ntmps77;go_wp2_with fail
 go_loop [5] (fun i=> ∃k:Nat,k≤n∧i= .int .i64 k∧Hid (k≤qaQ l s)) (fun i=>n-(intOf i).toNat)
 case atStart=>exact ⟨0,Nat.zero_le _,rfl,Nat.zero_le _⟩
 case round=>
  obtain ⟨k,hk,rfl,hf⟩:=hrel
  by_cases hlt:k<n
  ·have hkl:k<l.length:=by rw [HN.out];exact hlt
   obtain ⟨b,o,D,cc,rfl,c0,-⟩:=HA.out.cells k hkl;have hq:=qn3 (a:=l[k].path) (b:=s);rw [HS.out]at hq;obtain ⟨P,HP⟩:=qaA (bs l[k].path);rw [HP.out]at hq c0
   by_cases e:l[k].path=s
   ·have HV:=Lib.hid (qd3 l s k hkl hf.out e);rw [decide_eq_true e]at hq;clear e;go_wp2_with fail;go_ret;exact ⟨qaR (by rw [HV.out]),rfl⟩
   ·have HV:=Lib.hid (qo8 l s k hkl hf.out e);rw [decide_eq_false e]at hq;clear e;go_wp2_with fail;go_round
    case rel=>exact ⟨k+1,by omega,by go_num,HV⟩
    case measure=>simp [intOf];omega
  ·obtain rfl:k=n:=by omega
   have HV:Hid (qaQ l s=k):=by
    have:=qf5 l s;unfold Hid;have h2:=hf.out;have h3:=HN.out;omega
   go_wp2_with fail;go_ret;exact ⟨qaR (by rw [HV.out]),rfl⟩
def EntV.sz (x:EntV):Prop:=(x.path.length≤140737488351232∧x.target.length≤140737488351232∧x.data.length≤140737488351232)∧x.md.sz
theorem qtP {n:EntV} (h:qc6 n.path≠0):entE n=qc6 n.path:=if_pos h
theorem qtQ {n:EntV} (h:qc6 n.path=0) (h2:metE n.md≠0):entE n=metE n.md:=by unfold entE;rw [if_neg (by simp [h]),if_pos h2]
theorem qtR {n:EntV} (h:qc6 n.path=0) (h2:metE n.md=0):entE n=entK n:=by unfold entE;rw [if_neg (by simp [h]),if_neg (by simp [h2])]
set_option maxHeartbeats 4000000 in
theorem qqB (x:EntV) (D:Option Addr) (c:Nat) (hx:x.sz) (w:World):Calls Tryz.prog 120 #[.agg (entC x D c).toArray] w fun e w'=>e= .returned (.int .i64 (entE x))∧Below w.heap.size w w':=by
 obtain ⟨path,kind,target,md,data⟩:=x;obtain ⟨⟨z1,z2,z3⟩,z4⟩:=hx;simp only at z1 z2 z3 z4;have HP:=Lib.hid fun W=>qoM (bs path) W (by rw [qaB];unfold maxLen;omega);have HM:=Lib.hid fun W=>qnV md z4 W;have HPT:=Lib.hid fun W=>qoM (bs target) W (by rw [qaB];unfold maxLen;omega);rw [qaH]at HP HPT;have HX1:=Lib.hid fun h=>qtP (n:=⟨path,kind,target,md,data⟩) h;have HX2:=Lib.hid fun h h2=>qtQ (n:=⟨path,kind,target,md,data⟩) h h2;have HX3:=Lib.hid fun h h2=>qtR (n:=⟨path,kind,target,md,data⟩) h h2;simp only at HX1 HX2 HX3;obtain ⟨e1,he1⟩: ∃e,e=qc6 path:=⟨_,rfl⟩;obtain ⟨e2,he2⟩: ∃e,e=metE md:=⟨_,rfl⟩;rw [←he1]at HP HX1 HX2 HX3;rw [←he2]at HM HX2 HX3;clear he1 he2 z4;obtain ⟨m0,m1,m2,m3,m4,m5,m6⟩:=md;unfold metA at HM;unfold entC;simp only at HM⊢;have s2:=qaB target;obtain ⟨P,hP⟩:=qaA (bs path);have hps:P.size≤140737488351232:=by rw [←hP.out,qaB];exact z1
 rw [hP.out]at HP⊢;have hb0:=Blk.new w 73 #[.string P,.int .i64 kind,.string (bs target),.int .i64 m0,.int .i64 m1,.int .i64 m2,.string (bs m3),.string (bs m4),.int .i64 m5,.int .i64 m6,.slice D data.length c];have hw0:Below w.heap.size w (w.alloc (.cells #[.string P,.int .i64 kind,.string (bs target),.int .i64 m0,.int .i64 m1,.int .i64 m2,.string (bs m3),.string (bs m4),.int .i64 m5,.int .i64 m6,.slice D data.length c] 73)):=(Below.refl _ _).alloc (Nat.le_refl _) _
 by_cases h1:e1=0
 ·subst h1;have HX2:=Lib.hid (HX2.out rfl);have HX3:=Lib.hid (HX3.out rfl);clear HX1
  by_cases h2:e2=0
  ·subst h2;rw [HX3.out rfl];clear HX2 HX3
   have hR:entK ⟨path,kind,target,⟨m0,m1,m2,m3,m4,m5,m6⟩,data⟩=if kind<1∨4<kind then 2
    else if (2<kind∧target= [])∨(¬2<kind∧target≠ [])∨(1<kind∧data≠ [])then 3
    else if 2000<data.length∨400<target.length then 1
    else if kind=4 then qc6 target
    else if hasB 0 target=true then 3 else 0:=rfl
   have HH:=Lib.hid fun W=>qb5 (bs target) 0 0 W (by rw [s2];unfold maxLen;omega) rfl;rw [qaH]at HH
   have ht0:target≠ []→ ¬(bs target).toList= []∧((bs target).toList== [])=false:=fun h=>by
    have:((bs target).toList== [])=false:=by rw [qtZ];simpa using h
    exact ⟨fun e=>(by rw [e]at this;exact absurd this (by decide)),this⟩
   have hd0:data= []↔data.length=0:=List.length_eq_zero_iff.symm;generalize entK ⟨path,kind,target,⟨m0,m1,m2,m3,m4,m5,m6⟩,data⟩=R at hR⊢;obtain ⟨L,hL⟩: ∃L,L=data.length:=⟨_,rfl⟩;rw [←hL]at hb0 hw0 hd0 hR z3⊢
   by_cases k1:kind<1
   ·rw [if_pos (.inl k1)]at hR;subst hR;clear ht0 hd0 hL HH HPT;go_enter Tryz.func120,Tryz.ntmps120;go_wp2_with fail;refine (HP.out _).mono ?_;rintro e w1 ⟨rfl,hb⟩;have hb1:=hb0.below hb hb0.lt;have HW1:=Lib.hid (hw0.trans (hb.mono hw0.size));clear hb0 hw0 hb;obtain ⟨⟨c0,c1,c3,c4,c5,c6,c7,c8,c9,cA,cB⟩,-⟩:=qaF hb1;go_wp2_with fail;refine (HM.out _).mono ?_;rintro e w2 ⟨rfl,hb⟩;have hb2:=hb1.below hb hb1.lt;have HW2:=Lib.hid (HW1.out.trans (hb.mono HW1.out.size));clear hb1 hb c0 c1 c3 c4 c5 c6 c7 c8 c9 cA cB;obtain ⟨⟨c0,c1,c3,c4,c5,c6,c7,c8,c9,cA,cB⟩,-⟩:=qaF hb2;clear hb2;go_wp2_with fail;go_ret;exact ⟨rfl,HW2.out⟩
   ·by_cases k2:4<kind
    ·rw [if_pos (.inr k2)]at hR;subst hR;clear ht0 hd0 hL HH HPT;go_enter Tryz.func120,Tryz.ntmps120;go_wp2_with fail;refine (HP.out _).mono ?_;rintro e w1 ⟨rfl,hb⟩;have hb1:=hb0.below hb hb0.lt;have HW1:=Lib.hid (hw0.trans (hb.mono hw0.size));clear hb0 hw0 hb;obtain ⟨⟨c0,c1,c3,c4,c5,c6,c7,c8,c9,cA,cB⟩,-⟩:=qaF hb1;go_wp2_with fail;refine (HM.out _).mono ?_;rintro e w2 ⟨rfl,hb⟩;have hb2:=hb1.below hb hb1.lt;have HW2:=Lib.hid (HW1.out.trans (hb.mono HW1.out.size));clear hb1 hb c0 c1 c3 c4 c5 c6 c7 c8 c9 cA cB;obtain ⟨⟨c0,c1,c3,c4,c5,c6,c7,c8,c9,cA,cB⟩,-⟩:=qaF hb2;clear hb2;go_wp2_with fail;go_ret;exact ⟨rfl,HW2.out⟩
    ·rw [if_neg (by rintro (e|e);exact k1 e;exact k2 e)]at hR
     by_cases k3:2<kind
     ·have k4:1<kind:=by omega
      by_cases t1:target= []
      ·rw [if_pos (.inl ⟨k3,t1⟩)]at hR;subst hR t1;simp only [show bs []=(⟨#[]⟩:ByteArray)from rfl]at*;clear ht0 hd0 hL HH HPT;go_enter Tryz.func120,Tryz.ntmps120;go_wp2_with fail;refine (HP.out _).mono ?_;rintro e w1 ⟨rfl,hb⟩;have hb1:=hb0.below hb hb0.lt;have HW1:=Lib.hid (hw0.trans (hb.mono hw0.size));clear hb0 hw0 hb;obtain ⟨⟨c0,c1,c3,c4,c5,c6,c7,c8,c9,cA,cB⟩,-⟩:=qaF hb1;go_wp2_with fail;refine (HM.out _).mono ?_;rintro e w2 ⟨rfl,hb⟩;have hb2:=hb1.below hb hb1.lt;have HW2:=Lib.hid (HW1.out.trans (hb.mono HW1.out.size));clear hb1 hb c0 c1 c3 c4 c5 c6 c7 c8 c9 cA cB;obtain ⟨⟨c0,c1,c3,c4,c5,c6,c7,c8,c9,cA,cB⟩,-⟩:=qaF hb2;clear hb2;go_wp2_with fail;go_ret;exact ⟨rfl,HW2.out⟩
      ·obtain ⟨ht1,ht2⟩:=ht0 t1
       by_cases d1:L=0
       ·have d2:data= []:=hd0.2 d1;rw [if_neg (by rintro (⟨-,e⟩|⟨e,-⟩|⟨-,e⟩);exact t1 e;exact e k3;exact e d2)]at hR;subst d1
        by_cases q4:400<(bs target).size
        ·rw [if_pos (.inr (by rw [←s2];exact q4))]at hR;subst hR;clear ht0 hd0 hL;obtain ⟨T,hT⟩:=qaA (bs target);rw [hT.out]at ht1 ht2 s2 hb0 hw0 q4⊢;clear t1 s2 HH HPT;go_enter Tryz.func120,Tryz.ntmps120;go_wp2_with fail;refine (HP.out _).mono ?_;rintro e w1 ⟨rfl,hb⟩;have hb1:=hb0.below hb hb0.lt;have HW1:=Lib.hid (hw0.trans (hb.mono hw0.size));clear hb0 hw0 hb;obtain ⟨⟨c0,c1,c3,c4,c5,c6,c7,c8,c9,cA,cB⟩,-⟩:=qaF hb1;go_wp2_with fail;refine (HM.out _).mono ?_;rintro e w2 ⟨rfl,hb⟩;have hb2:=hb1.below hb hb1.lt;have HW2:=Lib.hid (HW1.out.trans (hb.mono HW1.out.size));clear hb1 hb c0 c1 c3 c4 c5 c6 c7 c8 c9 cA cB;obtain ⟨⟨c0,c1,c3,c4,c5,c6,c7,c8,c9,cA,cB⟩,-⟩:=qaF hb2;clear hb2;go_wp2_with fail;go_ret;exact ⟨rfl,HW2.out⟩
        ·rw [if_neg (by rintro (e|e);omega;exact q4 (by rw [s2];exact e))]at hR
         by_cases k5:kind=4
         ·rw [if_pos k5]at hR;subst k5;obtain ⟨E,hE⟩:=qaA (qc6 target);rw [hE.out]at hR HPT;subst hR;clear ht0 hd0 hL;obtain ⟨T,hT⟩:=qaA (bs target);rw [hT.out]at ht1 ht2 s2 hb0 hw0 q4 HPT⊢;clear t1 s2 HH;go_enter Tryz.func120,Tryz.ntmps120;go_wp2_with fail;refine (HP.out _).mono ?_;rintro e w1 ⟨rfl,hb⟩;have hb1:=hb0.below hb hb0.lt;have HW1:=Lib.hid (hw0.trans (hb.mono hw0.size));clear hb0 hw0 hb;obtain ⟨⟨c0,c1,c3,c4,c5,c6,c7,c8,c9,cA,cB⟩,-⟩:=qaF hb1;go_wp2_with fail;refine (HM.out _).mono ?_;rintro e w2 ⟨rfl,hb⟩;have hb2:=hb1.below hb hb1.lt;have HW2:=Lib.hid (HW1.out.trans (hb.mono HW1.out.size));clear hb1 hb c0 c1 c3 c4 c5 c6 c7 c8 c9 cA cB;obtain ⟨⟨c0,c1,c3,c4,c5,c6,c7,c8,c9,cA,cB⟩,-⟩:=qaF hb2;clear hb2;go_wp2_with fail;refine (HPT.out _).mono ?_;rintro e w3 ⟨rfl,hb⟩;have HW3:=Lib.hid (HW2.out.trans (hb.mono HW2.out.size));clear hb c0 c1 c3 c4 c5 c6 c7 c8 c9 cA cB;go_wp2_with fail;go_ret;exact ⟨rfl,HW3.out⟩
         ·rw [if_neg k5]at hR;have k5b:(kind==4)=false:=by simpa using k5
          cases z0:hasB 0 target
          ·rw [z0,if_neg (by decide)]at hR;subst hR;rw [z0]at HH;clear ht0 hd0 hL z0 k5;obtain ⟨T,hT⟩:=qaA (bs target);rw [hT.out]at ht1 ht2 s2 hb0 hw0 q4 HH⊢;clear t1 s2 HPT;go_enter Tryz.func120,Tryz.ntmps120;go_wp2_with fail;refine (HP.out _).mono ?_;rintro e w1 ⟨rfl,hb⟩;have hb1:=hb0.below hb hb0.lt;have HW1:=Lib.hid (hw0.trans (hb.mono hw0.size));clear hb0 hw0 hb;obtain ⟨⟨c0,c1,c3,c4,c5,c6,c7,c8,c9,cA,cB⟩,-⟩:=qaF hb1;go_wp2_with fail;refine (HM.out _).mono ?_;rintro e w2 ⟨rfl,hb⟩;have hb2:=hb1.below hb hb1.lt;have HW2:=Lib.hid (HW1.out.trans (hb.mono HW1.out.size));clear hb1 hb c0 c1 c3 c4 c5 c6 c7 c8 c9 cA cB;obtain ⟨⟨c0,c1,c3,c4,c5,c6,c7,c8,c9,cA,cB⟩,-⟩:=qaF hb2;clear hb2;go_wp2_with fail;refine (HH.out _).mono ?_;rintro e w3 ⟨rfl,rfl⟩;go_wp2_with fail;go_ret;exact ⟨rfl,HW2.out⟩
          ·rw [z0,if_pos rfl]at hR;subst hR;rw [z0]at HH;clear ht0 hd0 hL z0 k5;obtain ⟨T,hT⟩:=qaA (bs target);rw [hT.out]at ht1 ht2 s2 hb0 hw0 q4 HH⊢;clear t1 s2 HPT;go_enter Tryz.func120,Tryz.ntmps120;go_wp2_with fail;refine (HP.out _).mono ?_;rintro e w1 ⟨rfl,hb⟩;have hb1:=hb0.below hb hb0.lt;have HW1:=Lib.hid (hw0.trans (hb.mono hw0.size));clear hb0 hw0 hb;obtain ⟨⟨c0,c1,c3,c4,c5,c6,c7,c8,c9,cA,cB⟩,-⟩:=qaF hb1;go_wp2_with fail;refine (HM.out _).mono ?_;rintro e w2 ⟨rfl,hb⟩;have hb2:=hb1.below hb hb1.lt;have HW2:=Lib.hid (HW1.out.trans (hb.mono HW1.out.size));clear hb1 hb c0 c1 c3 c4 c5 c6 c7 c8 c9 cA cB;obtain ⟨⟨c0,c1,c3,c4,c5,c6,c7,c8,c9,cA,cB⟩,-⟩:=qaF hb2;clear hb2;go_wp2_with fail;refine (HH.out _).mono ?_;rintro e w3 ⟨rfl,rfl⟩;go_wp2_with fail;go_ret;exact ⟨rfl,HW2.out⟩
       ·rw [if_pos (.inr (.inr ⟨k4,fun e=>d1 (hd0.1 e)⟩))]at hR;subst hR;have d1b:((L:Int) !=0)=true:=by simp;omega
        clear ht0 hd0 hL d1;obtain ⟨T,hT⟩:=qaA (bs target);rw [hT.out]at ht1 ht2 s2 hb0 hw0⊢;clear t1 s2 HH HPT;go_enter Tryz.func120,Tryz.ntmps120;go_wp2_with fail;refine (HP.out _).mono ?_;rintro e w1 ⟨rfl,hb⟩;have hb1:=hb0.below hb hb0.lt;have HW1:=Lib.hid (hw0.trans (hb.mono hw0.size));clear hb0 hw0 hb;obtain ⟨⟨c0,c1,c3,c4,c5,c6,c7,c8,c9,cA,cB⟩,-⟩:=qaF hb1;go_wp2_with fail;refine (HM.out _).mono ?_;rintro e w2 ⟨rfl,hb⟩;have hb2:=hb1.below hb hb1.lt;have HW2:=Lib.hid (HW1.out.trans (hb.mono HW1.out.size));clear hb1 hb c0 c1 c3 c4 c5 c6 c7 c8 c9 cA cB;obtain ⟨⟨c0,c1,c3,c4,c5,c6,c7,c8,c9,cA,cB⟩,-⟩:=qaF hb2;clear hb2;go_wp2_with fail;go_ret;exact ⟨rfl,HW2.out⟩
     ·by_cases t1:target= []
      ·subst t1;have HH2:Hid (∀W,Calls Tryz.prog 127 #[.string ⟨#[]⟩,.int .u8 0] W fun e w'=>e= .returned (.bool false)∧W=w'):=HH;simp only [show bs []=(⟨#[]⟩:ByteArray)from rfl]at*;have k5b:(kind==4)=false:=by simp;omega
       by_cases k4:1<kind
       ·by_cases d1:L=0
        ·have d2:data= []:=hd0.2 d1;subst d1;rw [if_neg (by rintro (⟨e,-⟩|⟨-,e⟩|⟨-,e⟩);exact k3 e;exact e rfl;exact e d2),if_neg (by simp),if_neg (by omega),if_neg (by decide)]at hR;subst hR;clear ht0 hd0 hL d2 HH HPT;go_enter Tryz.func120,Tryz.ntmps120;go_wp2_with fail;refine (HP.out _).mono ?_;rintro e w1 ⟨rfl,hb⟩;have hb1:=hb0.below hb hb0.lt;have HW1:=Lib.hid (hw0.trans (hb.mono hw0.size));clear hb0 hw0 hb;obtain ⟨⟨c0,c1,c3,c4,c5,c6,c7,c8,c9,cA,cB⟩,-⟩:=qaF hb1;go_wp2_with fail;refine (HM.out _).mono ?_;rintro e w2 ⟨rfl,hb⟩;have hb2:=hb1.below hb hb1.lt;have HW2:=Lib.hid (HW1.out.trans (hb.mono HW1.out.size));clear hb1 hb c0 c1 c3 c4 c5 c6 c7 c8 c9 cA cB;obtain ⟨⟨c0,c1,c3,c4,c5,c6,c7,c8,c9,cA,cB⟩,-⟩:=qaF hb2;clear hb2;go_wp2_with fail;refine (HH2.out _).mono ?_;rintro e w3 ⟨rfl,rfl⟩;go_wp2_with fail;go_ret;exact ⟨rfl,HW2.out⟩
        ·rw [if_pos (.inr (.inr ⟨k4,fun e=>d1 (hd0.1 e)⟩))]at hR;subst hR;have d1b:((L:Int) !=0)=true:=by simp;omega
         clear ht0 hd0 hL d1 HH HPT HH2;go_enter Tryz.func120,Tryz.ntmps120;go_wp2_with fail;refine (HP.out _).mono ?_;rintro e w1 ⟨rfl,hb⟩;have hb1:=hb0.below hb hb0.lt;have HW1:=Lib.hid (hw0.trans (hb.mono hw0.size));clear hb0 hw0 hb;obtain ⟨⟨c0,c1,c3,c4,c5,c6,c7,c8,c9,cA,cB⟩,-⟩:=qaF hb1;go_wp2_with fail;refine (HM.out _).mono ?_;rintro e w2 ⟨rfl,hb⟩;have hb2:=hb1.below hb hb1.lt;have HW2:=Lib.hid (HW1.out.trans (hb.mono HW1.out.size));clear hb1 hb c0 c1 c3 c4 c5 c6 c7 c8 c9 cA cB;obtain ⟨⟨c0,c1,c3,c4,c5,c6,c7,c8,c9,cA,cB⟩,-⟩:=qaF hb2;clear hb2;go_wp2_with fail;go_ret;exact ⟨rfl,HW2.out⟩
       ·rw [if_neg (by rintro (⟨e,-⟩|⟨-,e⟩|⟨e,-⟩);exact k3 e;exact e rfl;exact k4 e)]at hR
        by_cases q2:2000<L
        ·rw [if_pos (.inl q2)]at hR;subst hR;clear ht0 hd0 hL HH HPT HH2;go_enter Tryz.func120,Tryz.ntmps120;go_wp2_with fail;refine (HP.out _).mono ?_;rintro e w1 ⟨rfl,hb⟩;have hb1:=hb0.below hb hb0.lt;have HW1:=Lib.hid (hw0.trans (hb.mono hw0.size));clear hb0 hw0 hb;obtain ⟨⟨c0,c1,c3,c4,c5,c6,c7,c8,c9,cA,cB⟩,-⟩:=qaF hb1;go_wp2_with fail;refine (HM.out _).mono ?_;rintro e w2 ⟨rfl,hb⟩;have hb2:=hb1.below hb hb1.lt;have HW2:=Lib.hid (HW1.out.trans (hb.mono HW1.out.size));clear hb1 hb c0 c1 c3 c4 c5 c6 c7 c8 c9 cA cB;obtain ⟨⟨c0,c1,c3,c4,c5,c6,c7,c8,c9,cA,cB⟩,-⟩:=qaF hb2;clear hb2;go_wp2_with fail;go_ret;exact ⟨rfl,HW2.out⟩
        ·rw [if_neg (by rintro (e|e);exact q2 e;simp at e),if_neg (by omega),if_neg (by decide)]at hR;subst hR;clear ht0 hd0 hL HH HPT;go_enter Tryz.func120,Tryz.ntmps120;go_wp2_with fail;refine (HP.out _).mono ?_;rintro e w1 ⟨rfl,hb⟩;have hb1:=hb0.below hb hb0.lt;have HW1:=Lib.hid (hw0.trans (hb.mono hw0.size));clear hb0 hw0 hb;obtain ⟨⟨c0,c1,c3,c4,c5,c6,c7,c8,c9,cA,cB⟩,-⟩:=qaF hb1;go_wp2_with fail;refine (HM.out _).mono ?_;rintro e w2 ⟨rfl,hb⟩;have hb2:=hb1.below hb hb1.lt;have HW2:=Lib.hid (HW1.out.trans (hb.mono HW1.out.size));clear hb1 hb c0 c1 c3 c4 c5 c6 c7 c8 c9 cA cB;obtain ⟨⟨c0,c1,c3,c4,c5,c6,c7,c8,c9,cA,cB⟩,-⟩:=qaF hb2;clear hb2;go_wp2_with fail;refine (HH2.out _).mono ?_;rintro e w3 ⟨rfl,rfl⟩;go_wp2_with fail;go_ret;exact ⟨rfl,HW2.out⟩
      ·obtain ⟨ht1,ht2⟩:=ht0 t1;rw [if_pos (.inr (.inl ⟨k3,t1⟩))]at hR;subst hR;clear ht0 hd0 hL;obtain ⟨T,hT⟩:=qaA (bs target);rw [hT.out]at ht1 ht2 s2 hb0 hw0⊢;clear t1 s2 HH HPT;go_enter Tryz.func120,Tryz.ntmps120;go_wp2_with fail;refine (HP.out _).mono ?_;rintro e w1 ⟨rfl,hb⟩;have hb1:=hb0.below hb hb0.lt;have HW1:=Lib.hid (hw0.trans (hb.mono hw0.size));clear hb0 hw0 hb;obtain ⟨⟨c0,c1,c3,c4,c5,c6,c7,c8,c9,cA,cB⟩,-⟩:=qaF hb1;go_wp2_with fail;refine (HM.out _).mono ?_;rintro e w2 ⟨rfl,hb⟩;have hb2:=hb1.below hb hb1.lt;have HW2:=Lib.hid (HW1.out.trans (hb.mono HW1.out.size));clear hb1 hb c0 c1 c3 c4 c5 c6 c7 c8 c9 cA cB;obtain ⟨⟨c0,c1,c3,c4,c5,c6,c7,c8,c9,cA,cB⟩,-⟩:=qaF hb2;clear hb2;go_wp2_with fail;go_ret;exact ⟨rfl,HW2.out⟩
  ·rw [HX2.out h2];have h2b:(e2==0)=false:=by simpa using h2
   clear HX2 HX3 h2;go_enter Tryz.func120,Tryz.ntmps120;go_wp2_with fail;refine (HP.out _).mono ?_;rintro e w1 ⟨rfl,hb⟩;have hb1:=hb0.below hb hb0.lt;have HW1:=Lib.hid (hw0.trans (hb.mono hw0.size));clear hb0 hw0 hb;obtain ⟨⟨c0,c1,c3,c4,c5,c6,c7,c8,c9,cA,cB⟩,-⟩:=qaF hb1;go_wp2_with fail;refine (HM.out _).mono ?_;rintro e w2 ⟨rfl,hb⟩;have HW2:=Lib.hid (HW1.out.trans (hb.mono HW1.out.size));clear hb1 hb c0 c1 c3 c4 c5 c6 c7 c8 c9 cA cB;go_wp2_with fail;go_ret;exact ⟨rfl,HW2.out⟩
 ·rw [HX1.out h1];have h1b:(e1==0)=false:=by simpa using h1
  clear HX1 HX2 HX3 h1;go_enter Tryz.func120,Tryz.ntmps120;go_wp2_with fail;refine (HP.out _).mono ?_;rintro e w1 ⟨rfl,hb⟩;have HW1:=Lib.hid (hw0.trans (hb.mono hw0.size));clear hb0 hw0 hb;go_wp2_with fail;go_ret;exact ⟨rfl,HW1.out⟩
end Go.Proofs.YtapgoifimhnbdaaGreatDoor
