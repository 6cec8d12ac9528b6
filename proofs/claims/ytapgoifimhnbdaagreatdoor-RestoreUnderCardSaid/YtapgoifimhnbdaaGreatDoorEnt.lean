/- qaX of one kind, in one file: EntP, Mps, EntJ, EntQ, EntR. -/
import Derived.Test.YtapgoifimhnbdaaGreatDoorEna
import Derived.Test.YtapgoifimhnbdaaGreatDoorPts
import Derived.Test.YtapgoifimhnbdaaGreatDoorMet
import Derived.Test.YtapgoifimhnbdaaGreatDoorFld
import Derived.Test.YtapgoifimhnbdaaGreatDoorBas
import Derived.MapKept
import Derived.Carry
import Derived.Test.YtapgoifimhnbdaaGreatDoorEng
import Derived.Test.YtapgoifimhnbdaaGreatDoorNod
import Derived.Deep.RegionHeld3
import Derived.Deep.DeepCutAuto
import Derived.Deep.QuietTactic
import Derived.BigQuiet
set_option linter.unusedVariables false
set_option maxRecDepth 100000
namespace Go.Proofs.YtapgoifimhnbdaaGreatDoor
open Go.RowKit
open Go.OpenShut
theorem quL (s:List UInt8):(0≤Lib.indexByte s 0)=(hasB 0 s=true):=by
 rw [qbX];cases h:hasB 0 s
 ·simp
 ·simp
set_option maxHeartbeats 4000000 in
theorem pRC_any (x:EntV) (D:Option Addr) (c:Nat) (hx:x.sz) (hk1: ¬x.kind<1) (hk4: ¬4<x.kind) (w:World):Calls Tryz.prog 130 #[.agg (entC x D c).toArray] w fun e w'=>e= .returned (.int .i64 (entK x))∧Below w.heap.size w w':=by
 obtain ⟨path,kind,target,md,data⟩:=x;obtain ⟨⟨z1,z2,z3⟩,z4⟩:=hx;simp only at z1 z2 z3 z4 hk1 hk4;have HPT:=Lib.hid fun W=>qoR (bs target) W (by rw [qaC];unfold maxLen;omega);have HH:=Lib.hid fun W=>qb5 (bs target) 0 W;rw [qaF]at HPT HH;rw [show (0:Int).toNat.toUInt8=0 by decide]at HH;obtain ⟨m0,m1,m2,m3,m4,m5,m6⟩:=md;clear z4;unfold entC;simp only;have s2:=qaC target;obtain ⟨P,hP⟩:=qaA (bs path);rw [hP.out]
 have hR:entK ⟨path,kind,target,⟨m0,m1,m2,m3,m4,m5,m6⟩,data⟩=if kind<1∨4<kind then 2
  else if (2<kind∧target= [])∨(¬2<kind∧target≠ [])∨(1<kind∧data≠ [])then 3
  else if 2000<data.length∨400<target.length then 1
  else if kind=4 then qa6 target
  else if hasB 0 target=true then 3 else 0:=rfl
 have ht0:target≠ []→ ¬(bs target).toList= []∧((bs target).toList== [])=false:=fun h=>by
  have:((bs target).toList== [])=false:=by rw [qoF];simpa using h
  exact ⟨fun e=>(by rw [e]at this;exact absurd this (by decide)),this⟩
 have hd0:data= []↔data.length=0:=List.length_eq_zero_iff.symm;have hsg:=quL target;generalize entK ⟨path,kind,target,⟨m0,m1,m2,m3,m4,m5,m6⟩,data⟩=R at hR⊢;generalize Lib.indexByte target 0=ix at HH hsg;obtain ⟨L,hL⟩: ∃L,L=data.length:=⟨_,rfl⟩;rw [←hL]at hd0 hR z3⊢;clear hL z1 z2;rw [if_neg (by rintro (e|e);exact hk1 e;exact hk4 e)]at hR;have hw0:Below w.heap.size w (w.alloc (.cells #[.string P,.int .i64 kind,.string (bs target),.int .i64 m0,.int .i64 m1,.int .i64 m2,.string (bs m3),.string (bs m4),.int .i64 m5,.int .i64 m6,.slice D L c] 73)):=(Below.refl _ _).alloc (Nat.le_refl _) _;have hks:kind=1∨kind=2∨kind=3∨kind=4:=by omega
 clear hk1 hk4;rcases hks with hk|hk|hk|hk
 ·
  subst hk
  by_cases d0:0<L
  ·have d0b:(0:Int)<(L:Int):=by omega
   by_cases t1:target= []
   ·have hc: ¬(((1:Int)>2∧target= [])∨(¬(2:Int)<1∧target≠ [])∨((1:Int)<1∧data≠ [])):=by rintro (⟨e,-⟩|⟨-,e⟩|⟨e,e2⟩);exact absurd e (by decide);exact e t1;exact absurd e (by decide)
    rw [if_neg hc]at hR;subst t1;clear hc;simp only [show bs []=(⟨#[]⟩:ByteArray)from rfl]at*
    by_cases q2:2000<L
    ·rw [if_pos (.inl q2)]at hR;subst hR;have q2b:(2000:Int)<(L:Int):=by omega
     have HW0:=Lib.hid hw0;clear hw0 s2;clear ht0 hd0 hsg HPT HH;go_enter Tryz.func130,Tryz.ntmps130;go_wp2_with fail;go_ret;exact ⟨rfl,HW0.out⟩
    ·rw [if_neg (by rintro (e|e);exact q2 e;simp at e),if_neg (by decide),if_neg (by decide)]at hR;subst hR;have q2b: ¬(2000:Int)<(L:Int):=by omega
     have hneg: ¬(0:Int)≤ix:=by rw [hsg];decide
     have HW0:=Lib.hid hw0;clear hw0 s2;clear ht0 hd0 hsg;go_enter Tryz.func130,Tryz.ntmps130;go_wp2_with fail;refine (HH.out _).mono ?_;rintro e w1 ⟨rfl,rfl⟩;go_wp2_with fail;go_ret;exact ⟨rfl,HW0.out⟩
   ·obtain ⟨ht1,ht2⟩:=ht0 t1;rw [if_pos (.inr (.inl ⟨by decide,t1⟩))]at hR;subst hR;obtain ⟨T,hT⟩:=qaA (bs target);rw [hT.out]at ht1 ht2 hw0⊢;have HW0:=Lib.hid hw0;clear hw0 s2 t1;clear ht0 hd0 hsg HPT HH;go_enter Tryz.func130,Tryz.ntmps130;go_wp2_with fail;go_ret;exact ⟨rfl,HW0.out⟩
  ·have d2:L=0:=by omega
   subst d2;clear d0
   by_cases t1:target= []
   ·have hc: ¬(((1:Int)>2∧target= [])∨(¬(2:Int)<1∧target≠ [])∨((1:Int)<1∧data≠ [])):=by rintro (⟨e,-⟩|⟨-,e⟩|⟨e,e2⟩);exact absurd e (by decide);exact e t1;exact absurd e (by decide)
    rw [if_neg hc]at hR;subst t1;clear hc;simp only [show bs []=(⟨#[]⟩:ByteArray)from rfl]at*;rw [if_neg (by simp),if_neg (by decide),if_neg (by decide)]at hR;subst hR;have hneg: ¬(0:Int)≤ix:=by rw [hsg];decide
    have HW0:=Lib.hid hw0;clear hw0 s2;clear ht0 hd0 hsg;go_enter Tryz.func130,Tryz.ntmps130;go_wp2_with fail;refine (HH.out _).mono ?_;rintro e w1 ⟨rfl,rfl⟩;go_wp2_with fail;go_ret;exact ⟨rfl,HW0.out⟩
   ·obtain ⟨ht1,ht2⟩:=ht0 t1;rw [if_pos (.inr (.inl ⟨by decide,t1⟩))]at hR;subst hR;obtain ⟨T,hT⟩:=qaA (bs target);rw [hT.out]at ht1 ht2 hw0⊢;have HW0:=Lib.hid hw0;clear hw0 s2 t1;clear ht0 hd0 hsg HPT HH;go_enter Tryz.func130,Tryz.ntmps130;go_wp2_with fail;go_ret;exact ⟨rfl,HW0.out⟩
 ·
  subst hk
  by_cases d1:0<L
  ·rw [if_pos (.inr (.inr ⟨by omega,fun e=>by have:=hd0.1 e;omega⟩))]at hR;subst hR;have d1b:(0:Int)<(L:Int):=by omega
   obtain ⟨T,hT⟩:=qaA (bs target);rw [hT.out]at hw0⊢;have HW0:=Lib.hid hw0;clear hw0 s2;clear ht0 hd0 hsg HPT HH;go_enter Tryz.func130,Tryz.ntmps130;go_wp2_with fail;go_ret;exact ⟨rfl,HW0.out⟩
  ·have d2:L=0:=by omega
   have d3:data= []:=hd0.2 d2;subst d2;clear d1
   by_cases t1:target= []
   ·have hc: ¬(((2:Int)>2∧target= [])∨(¬(2:Int)<2∧target≠ [])∨((1:Int)<2∧data≠ [])):=by rintro (⟨e,-⟩|⟨-,e⟩|⟨e,e2⟩);exact absurd e (by decide);exact e t1;exact e2 d3
    rw [if_neg hc]at hR;subst t1;clear hc;simp only [show bs []=(⟨#[]⟩:ByteArray)from rfl]at*;rw [if_neg (by simp),if_neg (by decide),if_neg (by decide)]at hR;subst hR;have hneg: ¬(0:Int)≤ix:=by rw [hsg];decide
    have HW0:=Lib.hid hw0;clear hw0 s2;clear ht0 hd0 hsg;go_enter Tryz.func130,Tryz.ntmps130;go_wp2_with fail;refine (HH.out _).mono ?_;rintro e w1 ⟨rfl,rfl⟩;go_wp2_with fail;go_ret;exact ⟨rfl,HW0.out⟩
   ·obtain ⟨ht1,ht2⟩:=ht0 t1;rw [if_pos (.inr (.inl ⟨by decide,t1⟩))]at hR;subst hR;obtain ⟨T,hT⟩:=qaA (bs target);rw [hT.out]at ht1 ht2 hw0⊢;have HW0:=Lib.hid hw0;clear hw0 s2 t1;clear ht0 hd0 hsg HPT HH;go_enter Tryz.func130,Tryz.ntmps130;go_wp2_with fail;go_ret;exact ⟨rfl,HW0.out⟩
 ·
  subst hk
  by_cases d1:0<L
  ·rw [if_pos (.inr (.inr ⟨by omega,fun e=>by have:=hd0.1 e;omega⟩))]at hR;subst hR;have d1b:(0:Int)<(L:Int):=by omega
   obtain ⟨T,hT⟩:=qaA (bs target);rw [hT.out]at hw0⊢;have HW0:=Lib.hid hw0;clear hw0 s2;clear ht0 hd0 hsg HPT HH;go_enter Tryz.func130,Tryz.ntmps130;go_wp2_with fail;go_ret;exact ⟨rfl,HW0.out⟩
  ·have d2:L=0:=by omega
   have d3:data= []:=hd0.2 d2;subst d2;clear d1
   by_cases t1:target= []
   ·rw [if_pos (.inl ⟨by decide,t1⟩)]at hR;subst hR t1;simp only [show bs []=(⟨#[]⟩:ByteArray)from rfl]at*;have HW0:=Lib.hid hw0;clear hw0 s2;clear ht0 hd0 hsg HPT HH;go_enter Tryz.func130,Tryz.ntmps130;go_wp2_with fail;go_ret;exact ⟨rfl,HW0.out⟩
   ·obtain ⟨ht1,ht2⟩:=ht0 t1;rw [if_neg (by rintro (⟨-,e⟩|⟨e,-⟩|⟨-,e⟩);exact t1 e;exact e (by decide);exact e d3)]at hR
    by_cases q4:400<(bs target).size
    ·rw [if_pos (.inr (by rw [←s2];exact q4))]at hR;subst hR;obtain ⟨T,hT⟩:=qaA (bs target);rw [hT.out]at ht1 ht2 hw0 q4⊢;have q4b:(400:Int)<(T.size:Int):=by omega
     have HW0:=Lib.hid hw0;clear hw0 s2 t1;clear ht0 hd0 hsg HPT HH;go_enter Tryz.func130,Tryz.ntmps130;go_wp2_with fail;go_ret;exact ⟨rfl,HW0.out⟩
    ·rw [if_neg (by rintro (e|e);omega;exact q4 (by rw [s2];exact e))]at hR;rw [if_neg (by decide)]at hR;obtain ⟨T,hT⟩:=qaA (bs target);rw [hT.out]at ht1 ht2 hw0 q4 HH⊢;have q4b: ¬(400:Int)<(T.size:Int):=by omega
     have HW0:=Lib.hid hw0;clear hw0 s2 t1 HPT
     by_cases z0:(0:Int)≤ix
     ·rw [hsg]at z0;rw [if_pos z0]at hR;rw [←hsg]at z0;subst hR;clear ht0 hd0 hsg;go_enter Tryz.func130,Tryz.ntmps130;go_wp2_with fail;refine (HH.out _).mono ?_;rintro e w1 ⟨rfl,rfl⟩;go_wp2_with fail;go_ret;exact ⟨rfl,HW0.out⟩
     ·rw [hsg]at z0;rw [if_neg z0]at hR;rw [←hsg]at z0;subst hR;clear ht0 hd0 hsg;go_enter Tryz.func130,Tryz.ntmps130;go_wp2_with fail;refine (HH.out _).mono ?_;rintro e w1 ⟨rfl,rfl⟩;go_wp2_with fail;go_ret;exact ⟨rfl,HW0.out⟩
 ·
  subst hk
  by_cases d1:0<L
  ·rw [if_pos (.inr (.inr ⟨by omega,fun e=>by have:=hd0.1 e;omega⟩))]at hR;subst hR;have d1b:(0:Int)<(L:Int):=by omega
   obtain ⟨T,hT⟩:=qaA (bs target);rw [hT.out]at hw0⊢;have HW0:=Lib.hid hw0;clear hw0 s2;clear ht0 hd0 hsg HPT HH;go_enter Tryz.func130,Tryz.ntmps130;go_wp2_with fail;go_ret;exact ⟨rfl,HW0.out⟩
  ·have d2:L=0:=by omega
   have d3:data= []:=hd0.2 d2;subst d2;clear d1
   by_cases t1:target= []
   ·rw [if_pos (.inl ⟨by decide,t1⟩)]at hR;subst hR t1;simp only [show bs []=(⟨#[]⟩:ByteArray)from rfl]at*;have HW0:=Lib.hid hw0;clear hw0 s2;clear ht0 hd0 hsg HPT HH;go_enter Tryz.func130,Tryz.ntmps130;go_wp2_with fail;go_ret;exact ⟨rfl,HW0.out⟩
   ·obtain ⟨ht1,ht2⟩:=ht0 t1;rw [if_neg (by rintro (⟨-,e⟩|⟨e,-⟩|⟨-,e⟩);exact t1 e;exact e (by decide);exact e d3)]at hR
    by_cases q4:400<(bs target).size
    ·rw [if_pos (.inr (by rw [←s2];exact q4))]at hR;subst hR;obtain ⟨T,hT⟩:=qaA (bs target);rw [hT.out]at ht1 ht2 hw0 q4⊢;have q4b:(400:Int)<(T.size:Int):=by omega
     have HW0:=Lib.hid hw0;clear hw0 s2 t1;clear ht0 hd0 hsg HPT HH;go_enter Tryz.func130,Tryz.ntmps130;go_wp2_with fail;go_ret;exact ⟨rfl,HW0.out⟩
    ·rw [if_neg (by rintro (e|e);omega;exact q4 (by rw [s2];exact e))]at hR;rw [if_pos rfl]at hR;obtain ⟨E,hE⟩:=qaA (qa6 target);rw [hE.out]at hR HPT;subst hR;obtain ⟨T,hT⟩:=qaA (bs target);rw [hT.out]at ht1 ht2 hw0 q4 HPT⊢;have q4b: ¬(400:Int)<(T.size:Int):=by omega
     have HW0:=Lib.hid hw0;clear hw0 s2 t1 HH;clear ht0 hd0 hsg;go_enter Tryz.func130,Tryz.ntmps130;go_wp2_with fail;refine (HPT.out _).mono ?_;rintro e w1 ⟨rfl,hb⟩;have HW1:=Lib.hid (HW0.out.trans (hb.mono HW0.out.size));clear hb;go_wp2_with fail;go_ret;exact ⟨rfl,HW1.out⟩
set_option maxHeartbeats 4000000 in
theorem qj9 (x:EntV) (D:Option Addr) (c:Nat) (hx:x.sz) (w:World):Calls Tryz.prog 87 #[.agg (entC x D c).toArray] w fun e w'=>e= .returned (.int .i64 (entE x))∧Below w.heap.size w w':=by
 have HC:=Lib.hid fun h1 h4 W=>pRC_any x D c hx h1 h4 W;have HX1:=Lib.hid fun h=>q7H (n:=x) h;have HX2:=Lib.hid fun h h2=>q7I (n:=x) h h2;have HX3:=Lib.hid fun h h2=>qn3 (n:=x) h h2;obtain ⟨⟨z1,z2,z3⟩,z4⟩:=hx;have HP:=Lib.hid fun W=>qoR (bs x.path) W (by rw [qaC];unfold maxLen;omega);have HM:=Lib.hid fun W=>qlB x.md z4 W;rw [qaF]at HP;have hK:x.kind<1∨4<x.kind→entK x=2:=fun h=>if_pos h;have HK:=Lib.hid hK;obtain ⟨e1,he1⟩: ∃e,e=qa6 x.path:=⟨_,rfl⟩;obtain ⟨e2,he2⟩: ∃e,e=metE x.md:=⟨_,rfl⟩;rw [←he1]at HP HX1 HX2 HX3;rw [←he2]at HM HX2 HX3;clear he1 he2 z1 z2 z3 z4 hK;unfold entC at HC⊢;unfold metA at HM
 (try simp only at HM)
 generalize entK x=eK at HC HX3 HK;generalize entE x=eE at HX1 HX2 HX3⊢;obtain ⟨P,hP⟩:=qaA (bs x.path);rw [hP.out]at HP HC⊢;generalize bs x.target=T at HC⊢;obtain ⟨mdl,hmd⟩: ∃m,m=x.md:=⟨_,rfl⟩;rw [←hmd]at HM HC⊢;generalize x.kind=kind at HC HK⊢;generalize x.data.length=L at HC⊢;clear hmd;obtain ⟨m0,m1,m2,m3,m4,m5,m6⟩:=mdl
 (try simp only at HM)
 (try simp only at HC)
 (try simp only)
 have hb0:=Blk.new w 73 #[.string P,.int .i64 kind,.string T,.int .i64 m0,.int .i64 m1,.int .i64 m2,.string (bs m3),.string (bs m4),.int .i64 m5,.int .i64 m6,.slice D L c];have hw0:Below w.heap.size w (w.alloc (.cells #[.string P,.int .i64 kind,.string T,.int .i64 m0,.int .i64 m1,.int .i64 m2,.string (bs m3),.string (bs m4),.int .i64 m5,.int .i64 m6,.slice D L c] 73)):=(Below.refl _ _).alloc (Nat.le_refl _) _;have HB0:=Lib.hid hb0;have HW0:=Lib.hid hw0;clear hb0 hw0
 by_cases h1:e1=0
 ·subst h1;have HX2:=Lib.hid (HX2.out rfl);have HX3:=Lib.hid (HX3.out rfl);clear HX1
  by_cases h2:e2=0
  ·subst h2;rw [HX3.out rfl];clear HX2 HX3
   by_cases hk:kind<1∨4<kind
   ·rw [HK.out hk];clear HC HK;have k1:(kind==1)=false:=by simp;omega
    have k2:(kind==2)=false:=by simp;omega
    have k3:(kind==3)=false:=by simp;omega
    have k4:(kind==4)=false:=by simp;omega
    clear hk;go_enter Tryz.func87,Tryz.ntmps87;go_wp2_with fail;refine (HP.out _).mono ?_;rintro e w1 ⟨rfl,hb⟩;have hb1:=HB0.out.below hb HB0.out.lt;have HW1:=Lib.hid (HW0.out.trans (hb.mono HW0.out.size));clear hb;obtain ⟨⟨c0,c1,c3,c4,c5,c6,c7,c8,c9,cA,cB⟩,-⟩:=qaP hb1;go_wp2_with fail;refine (HM.out _).mono ?_;rintro e w2 ⟨rfl,hb⟩;have hb2:=hb1.below hb hb1.lt;have HW2:=Lib.hid (HW1.out.trans (hb.mono HW1.out.size));clear hb1 hb c0 c1 c3 c4 c5 c6 c7 c8 c9 cA cB;obtain ⟨⟨c0,c1,c3,c4,c5,c6,c7,c8,c9,cA,cB⟩,-⟩:=qaP hb2;clear hb2;go_wp2_with fail;go_ret;exact ⟨rfl,HW2.out⟩
   ·have HC2:=Lib.hid fun W=>HC.out (by omega) (by omega) W;have hks:kind=1∨kind=2∨kind=3∨kind=4:=by omega
    clear HC HK hk;rcases hks with hk|hk|hk|hk
    all_goals
     subst hk;go_enter Tryz.func87,Tryz.ntmps87;go_wp2_with fail;refine (HP.out _).mono ?_;rintro e w1 ⟨rfl,hb⟩;have hb1:=HB0.out.below hb HB0.out.lt;have HW1:=Lib.hid (HW0.out.trans (hb.mono HW0.out.size));clear hb;obtain ⟨⟨c0,c1,c3,c4,c5,c6,c7,c8,c9,cA,cB⟩,-⟩:=qaP hb1;go_wp2_with fail;refine (HM.out _).mono ?_;rintro e w2 ⟨rfl,hb⟩;have hb2:=hb1.below hb hb1.lt;have HW2:=Lib.hid (HW1.out.trans (hb.mono HW1.out.size));clear hb1 hb c0 c1 c3 c4 c5 c6 c7 c8 c9 cA cB;obtain ⟨⟨c0,c1,c3,c4,c5,c6,c7,c8,c9,cA,cB⟩,-⟩:=qaP hb2;clear hb2;go_wp2_with fail;refine (HC2.out _).mono ?_;rintro e w3 ⟨rfl,hb⟩;have HW3:=Lib.hid (HW2.out.trans (hb.mono HW2.out.size));clear hb c0 c1 c3 c4 c5 c6 c7 c8 c9 cA cB;go_wp2_with fail;go_ret;exact ⟨rfl,HW3.out⟩
  ·rw [HX2.out h2];have h2b:(e2==0)=false:=by simpa using h2
   clear HX2 HX3 HC HK h2;go_enter Tryz.func87,Tryz.ntmps87;go_wp2_with fail;refine (HP.out _).mono ?_;rintro e w1 ⟨rfl,hb⟩;have hb1:=HB0.out.below hb HB0.out.lt;have HW1:=Lib.hid (HW0.out.trans (hb.mono HW0.out.size));clear hb;obtain ⟨⟨c0,c1,c3,c4,c5,c6,c7,c8,c9,cA,cB⟩,-⟩:=qaP hb1;go_wp2_with fail;refine (HM.out _).mono ?_;rintro e w2 ⟨rfl,hb⟩;have HW2:=Lib.hid (HW1.out.trans (hb.mono HW1.out.size));clear hb1 hb c0 c1 c3 c4 c5 c6 c7 c8 c9 cA cB;go_wp2_with fail;go_ret;exact ⟨rfl,HW2.out⟩
 ·rw [HX1.out h1];have h1b:(e1==0)=false:=by simpa using h1
  clear HX1 HX2 HX3 HC HK h1;go_enter Tryz.func87,Tryz.ntmps87;go_wp2_with fail;refine (HP.out _).mono ?_;rintro e w1 ⟨rfl,hb⟩;have HW1:=Lib.hid (HW0.out.trans (hb.mono HW0.out.size));clear hb;go_wp2_with fail;go_ret;exact ⟨rfl,HW1.out⟩
def MapS (w:World) (r:Nat) (f:ByteArray→Option Value):Prop:=
 ∃es clock,w.heap[r]?=some (.map es clock)∧(∀e∈es.toList,∃k,e.key= .string k∧f k=some e.val)∧
  ∀k v,f k=some v→ ∃e∈es.toList,e.key= .string k
theorem MapS.lt {w:World} {r:Nat} {f:ByteArray→Option Value} (h:MapS w r f):r<w.heap.size:=by
 obtain ⟨es,clock,hb,-⟩:=h;exact (Array.getElem?_eq_some_iff.1 hb).1
theorem MapS.stays {w w':World} {r:Nat} {f:ByteArray→Option Value} (h:MapS w r f) (hb:w'.heap[r]?=w.heap[r]?):MapS w' r f:=by
 obtain ⟨es,clock,hr,h1,h2⟩:=h;exact ⟨es,clock,hb.trans hr,h1,h2⟩
theorem MapS.below {w w':World} {r:Nat} {f:ByteArray→Option Value} (h:MapS w r f) (hb:Below w.heap.size w w'):MapS w' r f:=h.stays (hb.block r h.lt)
theorem MapS.new (w:World):MapS (w.alloc (.map #[] 0)) w.heap.size (fun _=>none):=⟨#[],0,heap_alloc_new w _,fun e he=>by simp at he,fun k v h=>by cases h⟩
theorem qiI (k:ByteArray):MapKept.IsKey .string (.string k):=by simp [MapKept.IsKey]
section
variable {P:Program} {mt kt et:TypeId} (hm:P.underlying mt=some (.map kt et)) (hk:P.underlying kt=some .string)
include hm hk
theorem MapS.look {w:World} {r:Nat} {f:ByteArray→Option Value} (h:MapS w r f) (k:ByteArray) {z:Value} (hz: ∀W:World,(zeroValue et).run P W= .ok z W) (ok:Bool):
  (Instr.lookup mt (.map (some r)) (.string k) ok).run P w= .ok (if ok=true then .tuple #[(f k).getD z,.bool (f k).isSome]else (f k).getD z) w:=by
 obtain ⟨es,clock,hr,h1,h2⟩:=h
 have hkeys: ∀e∈es.toList,MapKept.IsKey .string e.key:=fun e he=>by
  obtain ⟨y,a2,-⟩:=h1 e he;rw [a2];exact qiI _
 have hc:(Instr.checkKey es.isEmpty 10000 kt (.string k)).run P w= .ok () w:=MapKept.run_checkKey (k:= .string k) hk (qiI k) _ 9999;rcases MapKept.findNow_spec (qiI k) es.toList 0 hkeys with ⟨f1,f2⟩|⟨j,e,f1,f2,f3⟩
 ·have hn:f k=none:=by
   cases hf:f k with
   |none=>rfl
   |some v=>
    obtain ⟨e0,he0,hk0⟩:=h2 k v hf;exact absurd hk0 (f2 e0 he0)
  rw [hn];simp [Instr.lookup,run_underlying hm,MapKept.run_getObj_map hr,hc,MapKept.run_findKey hk f1,hz,Result.andThen]
 ·have he:e∈es.toList:=List.mem_of_getElem? f2;obtain ⟨y,a2,a4⟩:=h1 e he
  have hy:y=k:=by
   rw [a2]at f3;simpa using f3
  rw [hy]at a4;rw [a4];simp [Instr.lookup,run_underlying hm,MapKept.run_getObj_map hr,hc,MapKept.run_findKey hk f1,Result.andThen]
theorem MapS.put {w:World} {r:Nat} {f:ByteArray→Option Value} (h:MapS w r f) (k:ByteArray) (v:Value) (hv: ∀v',f k=some v'→v'=v):
  ∃w',(Instr.mapUpdate mt (.map (some r)) (.string k) v).run P w= .ok () w'∧(∀w0 B,B≤r→Below B w0 w→Below B w0 w')∧
   (∀(g:Nat),g≠r→w'.heap[g]?=w.heap[g]?)∧w'.heap.size=w.heap.size∧MapS w' r (fun s=>if s=k then some v else f s):=by
 obtain ⟨es,clock,hr,h1,h2⟩:=h
 have hkeys: ∀e∈es.toList,MapKept.IsKey .string e.key:=fun e he=>by
  obtain ⟨y,a2,-⟩:=h1 e he;rw [a2];exact qiI _
 have hc:(Instr.checkKey false 10000 kt (.string k)).run P w= .ok () w:=MapKept.run_checkKey (k:= .string k) hk (qiI _) _ 9999
 have hbel: ∀(es':Array MapEntry) (c':Nat) (w0:World) (B:Nat),B≤r→Below B w0 w→Below B w0 {w with heap:=w.heap.setIfInBounds r (.map es' c') } :=fun es' c' w0 B hB hb=>by
  obtain ⟨b1,b2,b3,b4,b5⟩:=hb;refine ⟨b1,b2,b3,?_,fun i hi=> ?_⟩
  ·show w0.heap.size≤(w.heap.setIfInBounds r _).size;simp;exact b4
  ·exact ((MapKept.heap_set hr).2 i (by omega)).trans (b5 i hi)
 have hold: ∀e∈es.toList,∃k',e.key= .string k'∧(if k'=k then some v else f k')=some e.val:=fun e he=>by
  obtain ⟨y,a1,a3⟩:=h1 e he;refine ⟨y,a1,?_⟩
  by_cases hy:y=k
  ·rw [if_pos hy];rw [hy]at a3;rw [hv _ a3]
  ·rw [if_neg hy];exact a3
 rcases MapKept.findNow_spec (qiI k) es.toList 0 hkeys with ⟨f1,f2⟩|⟨j,e,f1,f2,f3⟩
 ·refine ⟨{w with heap:=w.heap.setIfInBounds r (.map (es.push {key:= .string k,val:=v,born:=clock}) (clock+1)) },?_,hbel _ _,fun g hg=>(MapKept.heap_set hr).2 g hg,by simp,?_⟩
  ·simp [Instr.mapUpdate,run_underlying hm,MapKept.run_getObj_map hr,hc,MapKept.run_findKey hk f1,MapKept.run_setObj_map _ hr,Result.andThen]
  ·refine ⟨_,_,(MapKept.heap_set hr).1,fun e he=> ?_,fun y u hy=> ?_⟩
   ·rw [Array.toList_push,List.mem_append]at he;rcases he with he|he
    ·exact hold e he
    ·obtain rfl:e= {key:= .string k,val:=v,born:=clock} :=by simpa using he
     exact ⟨k,rfl,if_pos rfl⟩
   ·rw [Array.toList_push]
    by_cases hyk:y=k
    ·subst hyk;exact ⟨_,List.mem_append_right _ (List.mem_singleton.2 rfl),rfl⟩
    ·have hy:(if y=k then some v else f y)=some u:=hy;rw [if_neg hyk]at hy;obtain ⟨e,he,hk0⟩:=h2 y u hy;exact ⟨e,List.mem_append_left _ he,hk0⟩
 ·have hj:es[j]?=some e:=by simpa using f2
  refine ⟨{w with heap:=w.heap.setIfInBounds r (.map (es.modify j fun e=> {e with key:= .string k,val:=v}) clock) },?_,hbel _ _,fun g hg=>(MapKept.heap_set hr).2 g hg,by simp,?_⟩
  ·simp [Instr.mapUpdate,run_underlying hm,MapKept.run_getObj_map hr,hc,MapKept.run_findKey hk f1,hj,f3,MapKept.run_keyThatStays (qiI k),MapKept.run_setObj_map _ hr,Result.andThen]
  ·have hmem: ∀e'∈(es.modify j fun e=> {e with key:= .string k,val:=v}).toList,e'∈es.toList∨(e'.key= .string k∧e'.val=v):=fun e' he'=>by
    obtain ⟨i,hi,rfl⟩:=List.getElem_of_mem he';simp only [Array.getElem_toList,Array.getElem_modify]
    split
    ·exact .inr ⟨rfl,rfl⟩
    ·exact .inl (by simp)
   have hkey: ∀e0∈es.toList,∃e'∈(es.modify j fun e=> {e with key:= .string k,val:=v}).toList,e'.key=e0.key:=fun e0 he0=>by
    obtain ⟨i,hi,rfl⟩:=List.getElem_of_mem he0;refine ⟨(es.modify j fun e=> {e with key:= .string k,val:=v}).toList[i]'(by simpa using hi),List.getElem_mem _,?_⟩;simp only [Array.getElem_toList,Array.getElem_modify]
    split
    ·rename_i hij;subst hij;have:es[j]?=some (es[j]'(by simpa using hi)):=Array.getElem?_eq_getElem _;rw [this]at hj;injection hj with hj
     rw [hj];exact f3.symm
    ·rfl
   refine ⟨_,_,(MapKept.heap_set hr).1,fun e' he'=> ?_,fun y u hy=> ?_⟩
   ·rcases hmem e' he' with a|⟨a,b⟩
    ·exact hold e' a
    ·exact ⟨k,a,by show (if k=k then some v else f k)=some e'.val;rw [if_pos rfl,b]⟩
   ·by_cases hyk:y=k
    ·subst hyk;obtain ⟨e',he',hk1⟩:=hkey e (List.mem_of_getElem? f2);exact ⟨e',he',by rw [hk1,f3]⟩
    ·have hy:(if y=k then some v else f y)=some u:=hy;rw [if_neg hyk]at hy;obtain ⟨e0,he0,hk0⟩:=h2 y u hy;obtain ⟨e',he',hk1⟩:=hkey e0 he0;exact ⟨e',he',by rw [hk1,hk0]⟩
end
end Go.Proofs.YtapgoifimhnbdaaGreatDoor
namespace Go.Proofs.YtapgoifimhnbdaaGreatDoor
open Go.RowKit
open Go.OpenShut
theorem q7D (l:List EntV) (h:qb3 [] l=0): ∀k,k≤l.length→qeW ((l.take k).map EntV.nod):=by
 intro k
 induction k with
 |zero=>intro _;rw [List.take_zero];exact List.Pairwise.nil
 |succ k ih=>
  intro hk;have hk1:k<l.length:=by omega
  rw [List.take_succ_eq_append_getElem hk1,List.map_append];refine qpJ (ih (by omega)) fun x hx=> ?_;rw [List.getLast?_map]at hx;have h1:=((qfI l []).1 h k hk1);rw [List.nil_append]at h1;have h2:=((qfL _ _).1 h1).2.1;cases hg:(l.take k).getLast? with
  |none=>rw [hg]at hx;cases hx
  |some y=>
   rw [hg]at hx;injection hx with hx
   rw [←hx];exact h2 y hg
theorem qsA {l:List EntV} (h:qb3 [] l=0) {k:Nat} (hk:k<l.length):qaS (l.take k) l[k].path=k:=by
 have hr:=q7D l h (k+1) (by omega);rw [List.take_succ_eq_append_getElem hk,List.map_append,List.map_singleton,qeW,List.pairwise_append]at hr;have hl:=ql3 (l.take k) l[k].path;rw [List.length_take]at hl;apply Classical.byContradiction;intro hc;have hlt:qaS (l.take k) l[k].path<(l.take k).length:=by rw [List.length_take];omega
 have h1:=qdC _ _ hlt;have h2:=hr.2.2 _ (List.mem_map.2 ⟨_,List.getElem_mem hlt,rfl⟩) _ (List.mem_singleton.2 rfl);have h3:pcmp (l.take k)[qaS (l.take k) l[k].path].path l[k].path= -1:=h2;rw [h1,qmX]at h3;cases h3
def gotE (t:List EntV) (s:List UInt8):EntV:=if h:qaS t s<t.length then t[qaS t s]'h else default
theorem qnR {t:List EntV} {s:List UInt8} (h:qaS t s<t.length):gotE t s=t[qaS t s]'h:=dif_pos h
theorem q6S {t:List EntV} {s:List UInt8} (h: ¬qaS t s<t.length):gotE t s=default:=dif_neg h
theorem upE_got (t:List EntV) (p:List UInt8):upE t p=(decide (upL p= [])||decide ((gotE t (upL p)).kind=2)):=by
 unfold upE
 by_cases h:qaS t (upL p)<t.length
 ·rw [dif_pos h,qnR h]
 ·rw [dif_neg h,q6S h]
  rfl
theorem zc8 (t:List EntV) (x:EntV):aimE t x=(decide (x.kind≠4)||(decide ((gotE t x.target).kind=1) &&decide ((gotE t x.target).md=x.md))):=by
 unfold aimE
 by_cases h:qaS t x.target<t.length
 ·rw [dif_pos h,qnR h]
 ·rw [dif_neg h,q6S h]
  rfl
theorem qjN {t:List EntV} {s:List UInt8} (x:EntV) (h:qaS t s<t.length):qaS (t++ [x]) s=qaS t s:=by
 have h2:=qdC t s h;refine qeI (t++ [x]) s _ (by rw [List.length_append];omega) ?_ (by rw [List.getElem_append_left h];exact h2);apply Classical.byContradiction;intro hc;have h3:qaS (t++ [x]) s<qaS t s:=by omega
 have h4:qaS (t++ [x]) s<t.length:=by omega
 have h5:=qdC (t++ [x]) s (by rw [List.length_append];omega);rw [List.getElem_append_left h4]at h5;exact qjO t s _ h3 h4 h5
theorem qlJ {t:List EntV} {s:List UInt8} (x:EntV) (h: ¬qaS t s<t.length):qaS (t++ [x]) s=if x.path=s then t.length else t.length+1:=by
 have hge:t.length≤qaS (t++ [x]) s:=by
  apply Classical.byContradiction;intro hc;have h4:qaS (t++ [x]) s<t.length:=by omega
  have h5:=qdC (t++ [x]) s (by rw [List.length_append];omega);rw [List.getElem_append_left h4]at h5
  exact h (by
   have:=ql3 t s;rcases Nat.lt_or_eq_of_le this with a|a
   ·exact a
   ·exact absurd h5 (qjO t s _ (by omega) h4))
 have hle:=ql3 (t++ [x]) s;rw [List.length_append,List.length_singleton]at hle;have hl:t.length<(t++ [x]).length:=by simp
 have hx:(t++ [x])[t.length]'hl=x:=by simp
 by_cases e:x.path=s
 ·rw [if_pos e];exact qeI (t++ [x]) s _ hl hge (by rw [hx];exact e)
 ·rw [if_neg e];have:=q2B (t++ [x]) s _ hl hge (by rw [hx];exact e);omega
def MetE (w:World) (r:Nat) (t:List EntV):Prop:=
 ∃f,MapS w r f∧ ∀s:List UInt8,if qaS t s<t.length then∃D c,f (bs s)=some (.agg (entC (gotE t s) D c).toArray)else f (bs s)=none
theorem MetE.below {w w':World} {r:Nat} {t:List EntV} (h:MetE w r t) (hb:Below w.heap.size w w'):MetE w' r t:=by
 obtain ⟨f,h1,h2⟩:=h;exact ⟨f,h1.below hb,h2⟩
theorem MetE.new (w:World):MetE (w.alloc (.map #[] 0)) w.heap.size []:=⟨_,MapS.new w,fun s=>by rw [if_neg (by simp)]⟩
theorem q81 (W:World):(zeroValue 73).run Tryz.prog W= .ok (.agg (entC default none 0).toArray) W:=by kernel_rfl
theorem MetE.look {w:World} {r:Nat} {t:List EntV} (h:MetE w r t) (s:List UInt8):
  ∃D c,(Instr.lookup 105 (.map (some r)) (.string (bs s)) false).run Tryz.prog w= .ok (.agg (entC (gotE t s) D c).toArray) w:=by
 obtain ⟨f,h1,h2⟩:=h;have hl:=MapS.look (P:=Tryz.prog) Tryz.underlying105 Tryz.underlying9 h1 (bs s) q81 false;rw [if_neg (by decide)]at hl;have h3:=h2 s
 by_cases hf:qaS t s<t.length
 ·rw [if_pos hf]at h3;obtain ⟨D,c,h4⟩:=h3;rw [h4]at hl;exact ⟨D,c,hl⟩
 ·rw [if_neg hf]at h3;rw [h3]at hl;rw [q6S hf];exact ⟨none,0,hl⟩
theorem qzO {a b:List UInt8} (h:bs a=bs b):a=b:=by
 have:=congrArg (fun s:ByteArray=>s.data.toList) h;simpa [qaF]using this
theorem MetE.put {w:World} {r:Nat} {t:List EntV} (h:MetE w r t) (x:EntV) (D:Option Addr) (c:Nat) (hx:qaS t x.path=t.length):
  ∃w',(Instr.mapUpdate 105 (.map (some r)) (.string (bs x.path)) (.agg (entC x D c).toArray)).run Tryz.prog w= .ok () w'∧(∀w0 B,B≤r→Below B w0 w→Below B w0 w')∧MetE w' r (t++ [x]):=by
 obtain ⟨f,h1,h2⟩:=h
 have hn:f (bs x.path)=none:=by
  have:=h2 x.path
  rwa [if_neg (by omega)]at this
 obtain ⟨w',a1,a2,-,-,a5⟩:=MapS.put (P:=Tryz.prog) Tryz.underlying105 Tryz.underlying9 h1 (bs x.path) (.agg (entC x D c).toArray) (fun v' e=>by rw [hn]at e;cases e);refine ⟨w',a1,a2,_,a5,fun s=> ?_⟩;have h3:=h2 s;have hll:(t++ [x]).length=t.length+1:=by simp
 by_cases hf:qaS t s<t.length
 ·rw [if_pos hf]at h3;have hs:=qjN x hf
  have hne: ¬bs s=bs x.path:=fun e=>by
   rw [qzO e]at hf;omega
  have hg:gotE (t++ [x]) s=gotE t s:=by
   rw [qnR hf,qnR (by rw [hs,hll];omega)];simp only [hs];rw [List.getElem_append_left hf]
  rw [if_pos (by rw [hs,hll];omega),hg];simp only [if_neg hne];exact h3
 ·rw [if_neg hf]at h3;have hs:=qlJ x hf
  by_cases e:x.path=s
  ·rw [if_pos e]at hs
   have hg:gotE (t++ [x]) s=x:=by
    rw [qnR (by rw [hs,hll];omega)];simp only [hs];simp
   rw [if_pos (by rw [hs,hll];omega),hg];refine ⟨D,c,?_⟩;simp only [e,if_true]
  ·rw [if_neg e]at hs;have hne: ¬bs s=bs x.path:=fun e'=>e (qzO e').symm;rw [if_neg (by rw [hs,hll];omega)];simp only [if_neg hne];exact h3
def qqN (t:List EntV) (x:EntV):Int:=if upE t x.path=false then 10 else if aimE t x=false then 11 else 0
theorem qfJ (v0 v1 v2 v3 v4 v5 v6 v7 v8 v9 vA:Value) (h:v1.oneCell'=true) (W:World):(Instr.field 73 (.agg #[v0,v1,v2,v3,v4,v5,v6,v7,v8,v9,vA]) 1).run Tryz.prog W= .ok v1 W:=by
 cases v1<;>first|(cases h;done)|kernel_rfl
set_option maxHeartbeats 4000000 in
theorem q1A (r:Nat) (t:List EntV) (x:EntV) (hx:x.sz) (D:Option Addr) (c:Nat) (w:World) (hM:MetE w r t):
  Calls Tryz.prog 88 #[.map (some r),.agg (entC x D c).toArray] w fun e w'=>e= .returned (.int .i64 (qqN t x))∧Below w.heap.size w w':=by
 have HU:=Lib.hid fun W=>q8O (bs x.path) W (by rw [qaC];have:=hx.1.1;omega);rw [qaF]at HU
 have HV:Hid (qqN t x=if (decide (upL x.path= [])||decide ((gotE t (upL x.path)).kind=2))=false then 10 else if (decide (x.kind≠4)||(decide ((gotE t x.target).kind=1) &&decide ((gotE t x.target).md=x.md)))=false then 11 else 0):=by
  unfold Hid qqN;rw [upE_got,zc8]
 rw [HV.out];have HL:=Lib.hid fun W (h:Below w.heap.size w W) (s:List UInt8)=>(hM.below h).look s;clear HV hM hx;generalize hup:upL x.path=up at HU⊢;clear hup;obtain ⟨U,hU⟩: ∃U:ByteArray,U=bs up:=⟨_,rfl⟩;have hU2:(⟨up.toArray⟩:ByteArray)=U:=hU.symm;rw [hU2]at HU;have hul:U.data.toList=up:=by rw [hU];rfl
 have HLU:=Lib.hid fun W h=>HL.out W h up;rw [←hU]at HLU;clear hU hU2;generalize gotE t up=yu at HLU⊢;have HLT:=Lib.hid fun W h=>HL.out W h x.target;generalize gotE t x.target=yt at HLT⊢;have hq:=qy0 yt.md x.md;have hmb:decide (yt.md=x.md)=metB yt.md x.md:=rfl;rw [hmb];clear HL hmb;generalize metB yt.md x.md=mb at hq⊢;unfold entC at HLU HLT⊢;unfold metA at hq
 (try simp only at hq)
 obtain ⟨P,hP⟩:=qaA (bs x.path);rw [hP.out]at HU⊢;generalize hT:bs x.target=T at HLT⊢;generalize x.kind=kind;generalize x.data.length=L;obtain ⟨ku,hku⟩: ∃k,k=yu.kind:=⟨_,rfl⟩;obtain ⟨kt,hkt⟩: ∃k,k=yt.kind:=⟨_,rfl⟩;rw [←hku]at HLU⊢;rw [←hkt]at HLT⊢;have hb0:=Blk.new w 73 #[.string P,.int .i64 kind,.string T,.int .i64 x.md.mode,.int .i64 x.md.uid,.int .i64 x.md.gid,.string (bs x.md.user),.string (bs x.md.group),.int .i64 x.md.second,.int .i64 x.md.nano,.slice D L c];have hw0:Below w.heap.size w (w.alloc (.cells #[.string P,.int .i64 kind,.string T,.int .i64 x.md.mode,.int .i64 x.md.uid,.int .i64 x.md.gid,.string (bs x.md.user),.string (bs x.md.group),.int .i64 x.md.second,.int .i64 x.md.nano,.slice D L c] 73)):=(Below.refl _ _).alloc (Nat.le_refl _) _;have HB0:=Lib.hid hb0;have HW0:=Lib.hid hw0;clear hT hku hkt hb0 hw0
 by_cases hu0:up= []
 ·rw [decide_eq_true hu0,Bool.true_or,if_neg (by decide)];have f0:U.toList= []:=by rw [ByteArray.toList_eq,hul];exact hu0
  have f1:(U.toList== [])=true:=by rw [f0];rfl
  have f2:(U.toList != [])=false:=by rw [f0];rfl
  clear HLU hu0 hul
  by_cases k4:kind=4
  ·subst k4;rw [decide_eq_false (by decide),Bool.false_or]
   by_cases k1:kt=1
   ·subst k1;rw [decide_eq_true rfl,Bool.true_and];cases mb
    ·rw [if_pos rfl];go_enter Tryz.func88,Tryz.ntmps88;go_wp2_with fail;refine (HU.out _).mono ?_;rintro e w1 ⟨rfl,hb⟩;have hb1:=HB0.out.below hb HB0.out.lt;have HW1:=Lib.hid (HW0.out.trans (hb.mono HW0.out.size));obtain ⟨D1,c1',hl⟩:=HLT.out _ HW1.out;clear hb;obtain ⟨⟨c0,c1,c3,c4,c5,c6,c7,c8,c9,cA,cB⟩,-⟩:=qaP hb1;go_upto_region 7 with fail
     have hb2:=Blk.new w1 73 #[.string (bs yt.path),.int .i64 1,.string (bs yt.target),.int .i64 yt.md.mode,.int .i64 yt.md.uid,.int .i64 yt.md.gid,.string (bs yt.md.user),.string (bs yt.md.group),.int .i64 yt.md.second,.int .i64 yt.md.nano,.slice D1 yt.data.length c1'];have hb3:=hb1.alloc (.cells #[.string (bs yt.path),.int .i64 1,.string (bs yt.target),.int .i64 yt.md.mode,.int .i64 yt.md.uid,.int .i64 yt.md.gid,.string (bs yt.md.user),.string (bs yt.md.group),.int .i64 yt.md.second,.int .i64 yt.md.nano,.slice D1 yt.data.length c1'] 73);have HW2:=Lib.hid (qaL HW1.out (.cells #[.string (bs yt.path),.int .i64 1,.string (bs yt.target),.int .i64 yt.md.mode,.int .i64 yt.md.uid,.int .i64 yt.md.gid,.string (bs yt.md.user),.string (bs yt.md.group),.int .i64 yt.md.second,.int .i64 yt.md.nano,.slice D1 yt.data.length c1'] 73));generalize hwa:w1.alloc _=wa at hb2 hb3 HW2⊢;clear hwa hl c0 c1 c3 c4 c5 c6 c7 c8 c9 cA cB;obtain ⟨⟨c0,c1,c3,c4,c5,c6,c7,c8,c9,cA,cB⟩,-⟩:=qaP hb3;obtain ⟨⟨d0,d1,d3,d4,d5,d6,d7,d8,d9,dA,dB⟩,-⟩:=qaP hb2;clear hb2 hb3 hb1;go_wp2_with fail;go_ret;exact ⟨rfl,by first|exact HW2.out|exact HW1.out|exact qaL HW1.out _⟩
    ·rw [if_neg (by decide)];go_enter Tryz.func88,Tryz.ntmps88;go_wp2_with fail;refine (HU.out _).mono ?_;rintro e w1 ⟨rfl,hb⟩;have hb1:=HB0.out.below hb HB0.out.lt;have HW1:=Lib.hid (HW0.out.trans (hb.mono HW0.out.size));obtain ⟨D1,c1',hl⟩:=HLT.out _ HW1.out;clear hb;obtain ⟨⟨c0,c1,c3,c4,c5,c6,c7,c8,c9,cA,cB⟩,-⟩:=qaP hb1;go_upto_region 7 with fail
     have hb2:=Blk.new w1 73 #[.string (bs yt.path),.int .i64 1,.string (bs yt.target),.int .i64 yt.md.mode,.int .i64 yt.md.uid,.int .i64 yt.md.gid,.string (bs yt.md.user),.string (bs yt.md.group),.int .i64 yt.md.second,.int .i64 yt.md.nano,.slice D1 yt.data.length c1'];have hb3:=hb1.alloc (.cells #[.string (bs yt.path),.int .i64 1,.string (bs yt.target),.int .i64 yt.md.mode,.int .i64 yt.md.uid,.int .i64 yt.md.gid,.string (bs yt.md.user),.string (bs yt.md.group),.int .i64 yt.md.second,.int .i64 yt.md.nano,.slice D1 yt.data.length c1'] 73);have HW2:=Lib.hid (qaL HW1.out (.cells #[.string (bs yt.path),.int .i64 1,.string (bs yt.target),.int .i64 yt.md.mode,.int .i64 yt.md.uid,.int .i64 yt.md.gid,.string (bs yt.md.user),.string (bs yt.md.group),.int .i64 yt.md.second,.int .i64 yt.md.nano,.slice D1 yt.data.length c1'] 73));generalize hwa:w1.alloc _=wa at hb2 hb3 HW2⊢;clear hwa hl c0 c1 c3 c4 c5 c6 c7 c8 c9 cA cB;obtain ⟨⟨c0,c1,c3,c4,c5,c6,c7,c8,c9,cA,cB⟩,-⟩:=qaP hb3;obtain ⟨⟨d0,d1,d3,d4,d5,d6,d7,d8,d9,dA,dB⟩,-⟩:=qaP hb2;clear hb2 hb3 hb1;go_wp2_with fail;go_ret;exact ⟨rfl,by first|exact HW2.out|exact HW1.out|exact qaL HW1.out _⟩
   ·rw [decide_eq_false k1,Bool.false_and,if_pos rfl];have k1b:(kt !=1)=true:=by simpa using k1
    have k1c:(kt==1)=false:=by simpa using k1
    clear hq k1;go_enter Tryz.func88,Tryz.ntmps88;go_wp2_with fail;refine (HU.out _).mono ?_;rintro e w1 ⟨rfl,hb⟩;have hb1:=HB0.out.below hb HB0.out.lt;have HW1:=Lib.hid (HW0.out.trans (hb.mono HW0.out.size));obtain ⟨D1,c1',hl⟩:=HLT.out _ HW1.out;clear hb;obtain ⟨⟨c0,c1,c3,c4,c5,c6,c7,c8,c9,cA,cB⟩,-⟩:=qaP hb1;go_wp2_with fail;go_ret;exact ⟨rfl,by first|exact HW2.out|exact HW1.out|exact qaL HW1.out _⟩
  ·rw [decide_eq_true k4,Bool.true_or,if_neg (by decide)];have k4b:(kind !=4)=true:=by simpa using k4
   have k4c:(kind==4)=false:=by simpa using k4
   clear hq k4 HLT;go_enter Tryz.func88,Tryz.ntmps88;go_wp2_with fail;refine (HU.out _).mono ?_;rintro e w1 ⟨rfl,hb⟩;have hb1:=HB0.out.below hb HB0.out.lt;have HW1:=Lib.hid (HW0.out.trans (hb.mono HW0.out.size));clear hb;obtain ⟨⟨c0,c1,c3,c4,c5,c6,c7,c8,c9,cA,cB⟩,-⟩:=qaP hb1;go_wp2_with fail;go_ret;exact ⟨rfl,HW1.out⟩
 ·rw [decide_eq_false hu0,Bool.false_or];have f0: ¬U.toList= []:=fun e=>hu0 (by rw [←hul,←ByteArray.toList_eq];exact e);have f1:(U.toList== [])=false:=by simpa using f0
  have f2:(U.toList != [])=true:=by simpa using f0
  have f3:decide (U.toList= [])=false:=by simpa using f0
  clear hu0 hul
  by_cases k2:ku=2
  ·subst k2;rw [decide_eq_true rfl,if_neg (by decide)]
   by_cases k4:kind=4
   ·subst k4;rw [decide_eq_false (by decide),Bool.false_or]
    by_cases k1:kt=1
    ·subst k1;rw [decide_eq_true rfl,Bool.true_and];cases mb
     ·rw [if_pos rfl];go_enter Tryz.func88,Tryz.ntmps88;go_wp2_with fail;refine (HU.out _).mono ?_;rintro e w1 ⟨rfl,hb⟩;have hb1:=HB0.out.below hb HB0.out.lt;have HW1:=Lib.hid (HW0.out.trans (hb.mono HW0.out.size));obtain ⟨D1,c1',hl⟩:=HLT.out _ HW1.out;obtain ⟨D2,c2',hl2⟩:=HLU.out _ HW1.out;have hfd:=qfJ (.string (bs yu.path)) (.int .i64 2) (.string (bs yu.target)) (.int .i64 yu.md.mode) (.int .i64 yu.md.uid) (.int .i64 yu.md.gid) (.string (bs yu.md.user)) (.string (bs yu.md.group)) (.int .i64 yu.md.second) (.int .i64 yu.md.nano) (.slice D2 yu.data.length c2') rfl;clear hb;obtain ⟨⟨c0,c1,c3,c4,c5,c6,c7,c8,c9,cA,cB⟩,-⟩:=qaP hb1;go_upto_region 7 with fail
      have hb2:=Blk.new w1 73 #[.string (bs yt.path),.int .i64 1,.string (bs yt.target),.int .i64 yt.md.mode,.int .i64 yt.md.uid,.int .i64 yt.md.gid,.string (bs yt.md.user),.string (bs yt.md.group),.int .i64 yt.md.second,.int .i64 yt.md.nano,.slice D1 yt.data.length c1'];have hb3:=hb1.alloc (.cells #[.string (bs yt.path),.int .i64 1,.string (bs yt.target),.int .i64 yt.md.mode,.int .i64 yt.md.uid,.int .i64 yt.md.gid,.string (bs yt.md.user),.string (bs yt.md.group),.int .i64 yt.md.second,.int .i64 yt.md.nano,.slice D1 yt.data.length c1'] 73);have HW2:=Lib.hid (qaL HW1.out (.cells #[.string (bs yt.path),.int .i64 1,.string (bs yt.target),.int .i64 yt.md.mode,.int .i64 yt.md.uid,.int .i64 yt.md.gid,.string (bs yt.md.user),.string (bs yt.md.group),.int .i64 yt.md.second,.int .i64 yt.md.nano,.slice D1 yt.data.length c1'] 73));generalize hwa:w1.alloc _=wa at hb2 hb3 HW2⊢;clear hwa hl c0 c1 c3 c4 c5 c6 c7 c8 c9 cA cB;obtain ⟨⟨c0,c1,c3,c4,c5,c6,c7,c8,c9,cA,cB⟩,-⟩:=qaP hb3;obtain ⟨⟨d0,d1,d3,d4,d5,d6,d7,d8,d9,dA,dB⟩,-⟩:=qaP hb2;clear hb2 hb3 hb1;go_wp2_with fail;go_ret;exact ⟨rfl,by first|exact HW2.out|exact HW1.out|exact qaL HW1.out _⟩
     ·rw [if_neg (by decide)];go_enter Tryz.func88,Tryz.ntmps88;go_wp2_with fail;refine (HU.out _).mono ?_;rintro e w1 ⟨rfl,hb⟩;have hb1:=HB0.out.below hb HB0.out.lt;have HW1:=Lib.hid (HW0.out.trans (hb.mono HW0.out.size));obtain ⟨D1,c1',hl⟩:=HLT.out _ HW1.out;obtain ⟨D2,c2',hl2⟩:=HLU.out _ HW1.out;have hfd:=qfJ (.string (bs yu.path)) (.int .i64 2) (.string (bs yu.target)) (.int .i64 yu.md.mode) (.int .i64 yu.md.uid) (.int .i64 yu.md.gid) (.string (bs yu.md.user)) (.string (bs yu.md.group)) (.int .i64 yu.md.second) (.int .i64 yu.md.nano) (.slice D2 yu.data.length c2') rfl;clear hb;obtain ⟨⟨c0,c1,c3,c4,c5,c6,c7,c8,c9,cA,cB⟩,-⟩:=qaP hb1;go_upto_region 7 with fail
      have hb2:=Blk.new w1 73 #[.string (bs yt.path),.int .i64 1,.string (bs yt.target),.int .i64 yt.md.mode,.int .i64 yt.md.uid,.int .i64 yt.md.gid,.string (bs yt.md.user),.string (bs yt.md.group),.int .i64 yt.md.second,.int .i64 yt.md.nano,.slice D1 yt.data.length c1'];have hb3:=hb1.alloc (.cells #[.string (bs yt.path),.int .i64 1,.string (bs yt.target),.int .i64 yt.md.mode,.int .i64 yt.md.uid,.int .i64 yt.md.gid,.string (bs yt.md.user),.string (bs yt.md.group),.int .i64 yt.md.second,.int .i64 yt.md.nano,.slice D1 yt.data.length c1'] 73);have HW2:=Lib.hid (qaL HW1.out (.cells #[.string (bs yt.path),.int .i64 1,.string (bs yt.target),.int .i64 yt.md.mode,.int .i64 yt.md.uid,.int .i64 yt.md.gid,.string (bs yt.md.user),.string (bs yt.md.group),.int .i64 yt.md.second,.int .i64 yt.md.nano,.slice D1 yt.data.length c1'] 73));generalize hwa:w1.alloc _=wa at hb2 hb3 HW2⊢;clear hwa hl c0 c1 c3 c4 c5 c6 c7 c8 c9 cA cB;obtain ⟨⟨c0,c1,c3,c4,c5,c6,c7,c8,c9,cA,cB⟩,-⟩:=qaP hb3;obtain ⟨⟨d0,d1,d3,d4,d5,d6,d7,d8,d9,dA,dB⟩,-⟩:=qaP hb2;clear hb2 hb3 hb1;go_wp2_with fail;go_ret;exact ⟨rfl,by first|exact HW2.out|exact HW1.out|exact qaL HW1.out _⟩
    ·rw [decide_eq_false k1,Bool.false_and,if_pos rfl];have k1b:(kt !=1)=true:=by simpa using k1
     have k1c:(kt==1)=false:=by simpa using k1
     clear hq k1;go_enter Tryz.func88,Tryz.ntmps88;go_wp2_with fail;refine (HU.out _).mono ?_;rintro e w1 ⟨rfl,hb⟩;have hb1:=HB0.out.below hb HB0.out.lt;have HW1:=Lib.hid (HW0.out.trans (hb.mono HW0.out.size));obtain ⟨D1,c1',hl⟩:=HLT.out _ HW1.out;obtain ⟨D2,c2',hl2⟩:=HLU.out _ HW1.out;have hfd:=qfJ (.string (bs yu.path)) (.int .i64 2) (.string (bs yu.target)) (.int .i64 yu.md.mode) (.int .i64 yu.md.uid) (.int .i64 yu.md.gid) (.string (bs yu.md.user)) (.string (bs yu.md.group)) (.int .i64 yu.md.second) (.int .i64 yu.md.nano) (.slice D2 yu.data.length c2') rfl;clear hb;obtain ⟨⟨c0,c1,c3,c4,c5,c6,c7,c8,c9,cA,cB⟩,-⟩:=qaP hb1;go_wp2_with fail;go_ret;exact ⟨rfl,by first|exact HW2.out|exact HW1.out|exact qaL HW1.out _⟩
   ·rw [decide_eq_true k4,Bool.true_or,if_neg (by decide)];have k4b:(kind !=4)=true:=by simpa using k4
    have k4c:(kind==4)=false:=by simpa using k4
    clear hq k4 HLT;go_enter Tryz.func88,Tryz.ntmps88;go_wp2_with fail;refine (HU.out _).mono ?_;rintro e w1 ⟨rfl,hb⟩;have hb1:=HB0.out.below hb HB0.out.lt;have HW1:=Lib.hid (HW0.out.trans (hb.mono HW0.out.size));obtain ⟨D2,c2',hl2⟩:=HLU.out _ HW1.out;have hfd:=qfJ (.string (bs yu.path)) (.int .i64 2) (.string (bs yu.target)) (.int .i64 yu.md.mode) (.int .i64 yu.md.uid) (.int .i64 yu.md.gid) (.string (bs yu.md.user)) (.string (bs yu.md.group)) (.int .i64 yu.md.second) (.int .i64 yu.md.nano) (.slice D2 yu.data.length c2') rfl;clear hb;obtain ⟨⟨c0,c1,c3,c4,c5,c6,c7,c8,c9,cA,cB⟩,-⟩:=qaP hb1;go_wp2_with fail;go_ret;exact ⟨rfl,HW1.out⟩
  ·rw [decide_eq_false k2,if_pos rfl];have k2b:(ku !=2)=true:=by simpa using k2
   have k2c:(ku==2)=false:=by simpa using k2
   clear hq k2 HLT;go_enter Tryz.func88,Tryz.ntmps88;go_wp2_with fail;refine (HU.out _).mono ?_;rintro e w1 ⟨rfl,hb⟩;have hb1:=HB0.out.below hb HB0.out.lt;have HW1:=Lib.hid (HW0.out.trans (hb.mono HW0.out.size));obtain ⟨D2,c2',hl2⟩:=HLU.out _ HW1.out;have hfd:=qfJ (.string (bs yu.path)) (.int .i64 ku) (.string (bs yu.target)) (.int .i64 yu.md.mode) (.int .i64 yu.md.uid) (.int .i64 yu.md.gid) (.string (bs yu.md.user)) (.string (bs yu.md.group)) (.int .i64 yu.md.second) (.int .i64 yu.md.nano) (.slice D2 yu.data.length c2') rfl;clear hb;obtain ⟨⟨c0,c1,c3,c4,c5,c6,c7,c8,c9,cA,cB⟩,-⟩:=qaP hb1;go_wp2_with fail;go_ret;exact ⟨rfl,HW1.out⟩
theorem qx5 (a b:ByteArray) (ha:a.size≤400) (hb:b.size≤400) (w:World):Calls Tryz.prog 65 #[.string a,.string b] w fun e w'=>e= .returned (.int .i64 (pcmp a.data.toList b.data.toList))∧Below w.heap.size w w':=
 (qiR a b w (by unfold maxLen;omega) (by unfold maxLen;omega)).mono fun e w' ⟨h1,n,h2⟩=>⟨h1,h2▸below_drewN (Below.refl _ _) n⟩
set_option maxHeartbeats 8000000 in
theorem qdX (A:Option Addr) (n c:Nat) (l:List EntV) (hn:l.length=n) (hc:SlOk A n c) (hsz: ∀x∈l,x.sz) (w:World) (hA:qdJ w A l):
  Calls Tryz.prog 47 #[.slice A n c] w fun e w'=>e= .returned (.int .i64 (qbJ l))∧Below w.heap.size w w':=by
 have HN:=Lib.hid hn;have HA:=Lib.hid hA;have HSZ:=Lib.hid hsz;have hcap:=hc.1;have hmx:=hc.2.1;unfold maxLen at hmx;clear hn hA hsz hc
 by_cases h40:40<n
 ·have HV:Hid (qbJ l=1):=by unfold Hid qbJ;rw [HN.out,if_pos h40]
  go_enter Tryz.func47,Tryz.ntmps47;go_wp2_with fail;go_ret;exact ⟨qaV (by rw [HV.out]),Below.refl _ _⟩
 ·have HT:Hid (qbJ l=qb3 [] l):=by unfold Hid qbJ;rw [HN.out,if_neg h40]
  have h41:n≤40:=by omega
  have hmk: ∀W:World,(Instr.makeMap 105 none).run Tryz.prog W= .ok (.map (some W.heap.size)) (W.alloc (.map #[] 0)):=fun W=>rfl;have HM0:=Lib.hid (MetE.new w);go_enter Tryz.func47,Tryz.ntmps47;go_wp2_with fail
  go_loopw [14] (fun i wr=> ∃k:Nat,k≤n∧i= .int .i64 k∧Hid (qb3 [] (l.take k)=0)∧Hid (MetE wr w.heap.size (l.take k))∧Hid (Below w.heap.size w wr)) (fun i _=>n-(intOf i).toNat)
  case atStart=>exact ⟨0,Nat.zero_le _,rfl,by unfold Hid;rw [List.take_zero];rfl,by unfold Hid;rw [List.take_zero];exact HM0.out,qaL (Below.refl _ _) _⟩
  case round=>
   obtain ⟨k,hk,rfl,HW,HM,HB⟩:=hrel
   by_cases hlt:k<n
   ·have hk1:k<l.length:=by rw [HN.out];exact hlt
    obtain ⟨b,o,D,cc,rfl,c0,c1,c3,⟨c4,c5,c6,c7,c8,c9,cA⟩,cB,-,-⟩:=(HA.out.below HB.out).cells k hk1;have hb1:b<wr.heap.size:=World.block_lt_of_cell? wr _ c0;have hxsz:=HSZ.out _ (List.getElem_mem hk1);have HST:=Lib.hid fun he=>qxS l k hk1 HW.out he;have HSP:=Lib.hid fun he=>qxT l k hk1 HW.out he;have HTK:Hid (l.take (k+1)=l.take k++ [l[k]]):=List.take_succ_eq_append_getElem hk1
    have HFN:Hid (qb3 [] (l.take (k+1))=0→qaS (l.take k) l[k].path=(l.take k).length):=fun he=>by
     have h1:=qsA (l:=l.take (k+1)) he (k:=k) (by rw [List.length_take];omega);rw [List.take_take,Nat.min_eq_left (by omega),List.getElem_take]at h1;rw [h1,List.length_take];omega
    generalize hx:l[k]=x at*;have HNd:=Lib.hid fun W=>qj9 x D cc hxsz W;have HAh:=Lib.hid fun W h=>q1A w.heap.size (l.take k) x hxsz D cc W h
    have HEQ:Hid (∀hne:entE x=0,(∀y,(l.take k).getLast?=some y→pcmp y.path x.path= -1)→eatE (l.take k) x=qqN (l.take k) x):=fun hne hl=>by
     unfold qqN
     by_cases h1:upE (l.take k) x.path=false
     ·rw [if_pos h1];exact eatE_up hne hl h1
     ·rw [if_neg h1];have h1':upE (l.take k) x.path=true:=by simpa using h1
      by_cases h2:aimE (l.take k) x=false
      ·rw [if_pos h2];exact q7K hne hl h1' h2
      ·rw [if_neg h2];exact (qfL _ _).2 ⟨hne,hl,h1',by simpa using h2⟩
    have HPT:=Lib.hid fun W h=>MetE.put (w:=W) (r:=w.heap.size) (t:=l.take k) h x D cc;unfold entC at HNd HAh HPT;have hps:(bs x.path).size≤140737488351232:=by rw [qaC];exact hxsz.1.1
    clear hxsz;go_upto_region 7 with fail
    have HBl:=Lib.hid (Blk.new wr 73 (entA x D cc));have HBa:Hid (Below wr.heap.size wr (wr.alloc (.cells (entA x D cc) 73))):=(Below.refl _ _).alloc (Nat.le_refl _) _;unfold entA at HBl HBa;generalize hwa:wr.alloc _=wa at HBl HBa⊢;obtain ⟨⟨e0,e1,e3,e4,e5,e6,e7,e8,e9,eA,eB⟩,-⟩:=qaP HBl.out;clear hwa c0 c1 c3 c4 c5 c6 c7 c8 c9 cA cB
    by_cases hne:entE x=0
    ·rw [hne]at HNd;go_wp2_with fail;refine (HNd.out _).mono ?_;rintro e' w4 ⟨rfl,hb4⟩;have HS4:Hid (RdE wr wr.heap.size x D cc w4):=⟨HBl.out.below hb4 HBl.out.lt,HBa.out.trans (hb4.mono HBa.out.size)⟩;clear hb4 e0 e1 e3 e4 e5 e6 e7 e8 e9 eA eB;go_upto_region 10 with fail
     obtain ⟨q,hq⟩: ∃q:Bool,q=(match (l.take k).getLast? with|some y=> !decide (pcmp y.path x.path= -1)|none=>false):=⟨_,rfl⟩;have HQ:=Lib.hid hq;clear hq
     go_cut [37] (fun s37 wx=>s37= .bool q∧RdE wr wr.heap.size x D cc wx)
     case first=>
      by_cases hk0:0<k
      ·have hd0:decide (0<k)=true:=decide_eq_true hk0;obtain ⟨k1,hk1'⟩: ∃k1,k1=k-1:=⟨_,rfl⟩;have hsub:IntKind.i64.wrap ((k:Int) -1)=(k1:Int):=by rw [IntKind.wrap_i64];omega
       have hk2:k1<l.length:=by omega
       obtain ⟨b',o',D',cc',e',f0,-⟩:=(HA.out.below (HB.out.trans (HS4.out.2.mono HB.out.size))).cells k1 hk2;injection e' with e'
       injection e' with e1' e2' _
       subst e1' e2';have hlast:(l.take k).getLast?=some l[k1]:=(qqD l k (by omega) l[k1]).2 ⟨hk0,by simp only [hk1']⟩;have hps2:(bs l[k1].path).size≤400:=by rw [qaC];exact qgT (qfK (q7E HW.out _ (List.mem_take_iff_getElem.2 ⟨k1,by omega,rfl⟩))).1
       have hps3:(bs x.path).size≤400:=by rw [qaC];exact qgT (qfK hne).1
       have HO:=Lib.hid fun W=>qx5 (bs l[k1].path) (bs x.path) hps2 hps3 W;rw [qaF,qaF]at HO;have hq2:=HQ.out;rw [hlast]at hq2;simp only at hq2;have hpb:=qj7 l[k1].path x.path;obtain ⟨pc,hpc⟩: ∃pc,pc=pcmp l[k1].path x.path:=⟨_,rfl⟩;rw [←hpc]at HO hq2 hpb
       have HQ2:Hid (decide (0≤pc)=q):=by
        unfold Hid;rw [hq2];rcases (show pc= -1∨0≤pc by omega)with e|e
        ·subst e;rfl
        ·have e2:pc≠ -1:=by omega
         simp [e,e2]
       obtain ⟨P,hP⟩:=qaA (bs l[k1].path);obtain ⟨X,hX⟩:=qaA (bs x.path);rw [hP.out,hX.out]at HO;rw [hP.out]at f0 hps2;rw [hX.out]at hps hps3;have hS0:RdF wr wr.heap.size x D cc b (o+k1*11) P w4:=⟨HS4.out,f0⟩;have r0: ∀W:World,RdF wr wr.heap.size x D cc b (o+k1*11) P W→W.cell? ⟨wr.heap.size,0,none⟩=some (.string X):=fun W h=>by rw [←hX.out];exact (qaP h.1.1).1.1
       have r1: ∀W:World,RdF wr wr.heap.size x D cc b (o+k1*11) P W→W.cell? ⟨b,o+k1*11,none⟩=some (.string P):=fun W h=>h.2;have hk1n:(k1:Int)<(n:Int):=by omega
       have hk10:(0:Int)≤(k1:Int):=by omega
       clear hq2 hlast hpc hpb hk1' f0
       go_region_held3 (fun W=>RdF wr wr.heap.size x D cc b (o+k1*11) P W)
        (first
         |(with_reducible assumption)
         |(with_reducible refine RdF.drew ?_;with_reducible assumption)
         |(with_reducible exact RdF.below (by with_reducible assumption) (by with_reducible assumption)))
        (first
         |(go_at_call 65;refine (HO.out _).mono ?_;rintro e w5 ⟨rfl,hbO⟩))
       all_goals
        go_wp2_with fail;go_meet;exact ⟨by rw [HQ2.out],(RdF.below hS0.drew hbO).1⟩
      ·have hd0:decide (0<k)=false:=decide_eq_false hk0;have hq2:=HQ.out;have hk00:k=0:=by omega
       rw [show (l.take k).getLast?=none by rw [hk00];simp]at hq2;simp only at hq2;subst hq2;clear hk00;go_quiet (fail);go_wp2_with fail;go_meet;exact ⟨rfl,HS4.out.drewN _⟩
     case rest=>
      obtain ⟨rfl,hSc⟩:=hcut;have HSc:=Lib.hid hSc;clear hSc HS4;cases q with
      |true=>
       have HV:Hid (qbJ l=6):=by
        unfold Hid
        have ha:eatE (l.take k) x=6:=by
         have h0:=HQ.out;cases e:(l.take k).getLast? with
         |none=>rw [e]at h0;cases h0
         |some y=>rw [e]at h0;exact q2G hne y e (by simpa using h0)
        rw [HT.out,HST.out (by rw [ha];decide),ha]
       go_wp2_with fail;go_ret;exact ⟨qaV (by rw [HV.out]),HB.out.trans (HSc.out.2.mono HB.out.size)⟩
      |false=>
       have HL:Hid (∀y,(l.take k).getLast?=some y→pcmp y.path x.path= -1):=fun y e=>by
        have h0:=HQ.out;rw [e]at h0;simpa using h0.symm
       have HEq:=Lib.hid (HEQ.out hne HL.out);have HMc:=Lib.hid (HM.out.below HSc.out.2);obtain ⟨⟨c0,c1,c3,c4,c5,c6,c7,c8,c9,cA,cB⟩,-⟩:=qaP HSc.out.1;obtain ⟨hd,hhd⟩: ∃h,h=qqN (l.take k) x:=⟨_,rfl⟩;rw [←hhd]at HAh HEq;clear hhd;go_upto_region 12 with fail
       go_wp2_with fail;refine (HAh.out _ HMc.out).mono ?_;rintro e' w5 ⟨rfl,hb5⟩;have HS5:=Lib.hid (HSc.out.below hb5);have HM5:=Lib.hid (HMc.out.below hb5);clear hb5 c0 c1 c3 c4 c5 c6 c7 c8 c9 cA cB
       by_cases h0:hd=0
       ·subst h0;have HV:Hid (qb3 [] (l.take (k+1))=0):=HSP.out HEq.out;obtain ⟨w6,hput,hB6,hM6⟩:=HPT.out w5 HM5.out (HFN.out HV.out);have HB6:=Lib.hid (hB6 w w.heap.size (Nat.le_refl _) (HB.out.trans (HS5.out.2.mono HB.out.size)));have HM6:Hid (MetE w6 w.heap.size (l.take (k+1))):=by unfold Hid;rw [HTK.out];exact hM6
        clear hB6 hM6;obtain ⟨⟨c0,c1,c3,c4,c5,c6,c7,c8,c9,cA,cB⟩,-⟩:=qaP HS5.out.1;go_wp2_with fail;go_roundw
        case rel=>exact ⟨k+1,by omega,by go_num,HV.out,HM6.out,HB6.out⟩
        case measure=>simp [intOf];omega
       ·have HV:Hid (qbJ l=hd):=by
         unfold Hid;rw [HT.out,HST.out (by rw [HEq.out];exact h0),HEq.out]
        have h0b:(hd==0)=false:=by simpa using h0
        clear h0;go_wp2_with fail;go_ret;exact ⟨qaV (by rw [HV.out]),HB.out.trans (HS5.out.2.mono HB.out.size)⟩
    ·have hne2:(entE x !=0)=true:=by simpa using hne
     have HV:Hid (qbJ l=entE x):=by
      unfold Hid;have ha:=q7J (t:=l.take k) hne;rw [HT.out,HST.out (by rw [ha];exact hne),ha]
     generalize entE x=ex at*;clear hne;go_wp2_with fail;refine (HNd.out _).mono ?_;rintro e' w4 ⟨rfl,hb4⟩;have HB4:=Lib.hid (HB.out.trans ((HBa.out.trans (hb4.mono HBa.out.size)).mono HB.out.size));clear hb4 e0 e1 e3 e4 e5 e6 e7 e8 e9 eA eB;go_wp2_with fail;go_ret;exact ⟨qaV (by rw [HV.out]),HB4.out⟩
   ·obtain rfl:k=n:=by omega
    have HV:Hid (qbJ l=0):=by
     have:=HW.out;rw [List.take_of_length_le (by rw [HN.out];omega)]at this;unfold Hid;rw [HT.out,this]
    go_wp2_with fail;go_ret;exact ⟨qaV (by rw [HV.out]),HB.out⟩
end Go.Proofs.YtapgoifimhnbdaaGreatDoor
