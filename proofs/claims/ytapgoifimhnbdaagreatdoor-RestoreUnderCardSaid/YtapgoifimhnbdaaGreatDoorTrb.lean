/- qaX of one kind, in one file: TrgA, TrgB, TrgC, TrgD. -/
import Derived.Test.YtapgoifimhnbdaaGreatDoorNod
import Derived.Test.YtapgoifimhnbdaaGreatDoorPts
import Derived.Test.YtapgoifimhnbdaaGreatDoorMet
import Derived.Deep.DeepCutAuto
import Derived.Test.YtapgoifimhnbdaaGreatDoorBas
import Derived.MapKept
import Derived.Carry
import Derived.Test.YtapgoifimhnbdaaGreatDoorMth
import Derived.Deep.RegionHeld3
import Derived.Deep.RegionWith
import Derived.Deep.QuietTactic
import Derived.BigQuiet
set_option linter.unusedVariables false
set_option maxRecDepth 100000
namespace Go.Proofs.YtapgoifimhnbdaaGreatDoor
open Go.RowKit
open Go.OpenShut
set_option maxHeartbeats 2000000 in
theorem q0N (x:NodeV) (D:Option Addr) (c:Nat) (hk:x.kind=1) (w:World):Calls Tryz.prog 106 #[.agg (nodC x D c).toArray] w fun e w'=>e= .returned (.int .i64 (nodK x))∧Below w.heap.size w w':=by
 obtain ⟨path,kind,same,target,⟨m0,m1,m2,m3,m4,m5,m6⟩,data⟩:=x;simp only at hk;subst hk;have hR:nodK ⟨path,1,same,target,⟨m0,m1,m2,m3,m4,m5,m6⟩,data⟩=if target≠ []∨same<0 then 3 else if 2000<data.length then 1 else 0:=if_pos rfl
 unfold nodC;simp only at hR⊢;have q:=qoF (l:=target);generalize nodK ⟨path,1,same,target,⟨m0,m1,m2,m3,m4,m5,m6⟩,data⟩=R at hR⊢;generalize hL:data.length=L at*;obtain ⟨T,hT⟩:=qaA (bs target);rw [hT.out]at q⊢;clear hL;have hw: ∀o,Below w.heap.size w (w.alloc o):=fun o=>qaL (Below.refl _ _) o;have HW:=Lib.hid hw;clear hw
 by_cases t1:target= []
 ·rw [decide_eq_true t1]at q;have q':T.toList= []:=by simpa using q
  by_cases q1:same<0
  ·rw [if_pos (.inr q1)]at hR;subst hR;clear t1 hT;go_enter Tryz.func106,Tryz.ntmps106;go_wp2_with fail;go_ret;exact ⟨rfl,HW.out _⟩
  ·by_cases q2:2000<L
   ·rw [if_neg (by rintro (e|e);exact e t1;exact q1 e),if_pos q2]at hR;subst hR;clear t1 hT;go_enter Tryz.func106,Tryz.ntmps106;go_wp2_with fail;go_ret;exact ⟨rfl,HW.out _⟩
   ·rw [if_neg (by rintro (e|e);exact e t1;exact q1 e),if_neg q2]at hR;subst hR;clear t1 hT;go_enter Tryz.func106,Tryz.ntmps106;go_wp2_with fail;go_ret;exact ⟨rfl,HW.out _⟩
 ·rw [decide_eq_false t1]at q;have q': ¬T.toList= []:=by simpa using q
  rw [if_pos (.inl t1)]at hR;subst hR;clear t1 hT;go_enter Tryz.func106,Tryz.ntmps106;go_wp2_with fail;go_ret;exact ⟨rfl,HW.out _⟩
set_option maxHeartbeats 4000000 in
theorem qwL (x:NodeV) (D:Option Addr) (c:Nat) (hx:x.sz) (hk:x.kind=2∨x.kind=3) (w:World):Calls Tryz.prog 107 #[.agg (nodC x D c).toArray] w fun e w'=>e= .returned (.int .i64 (nodK x))∧Below w.heap.size w w':=by
 obtain ⟨path,kind,same,target,⟨m0,m1,m2,m3,m4,m5,m6⟩,data⟩:=x;obtain ⟨⟨-,z2,-⟩,-⟩:=hx;simp only at hk z2
 have hR:nodK ⟨path,kind,same,target,⟨m0,m1,m2,m3,m4,m5,m6⟩,data⟩=(if data≠ []∨same≠0∨(kind=2∧target≠ [])∨(kind=3∧target= [])∨hasB 0 target=true then 3 else if 400<target.length then 1 else 0):=by
  unfold nodK;rw [if_neg (by simp only;omega),if_pos hk]
 unfold nodC;simp only at hR⊢;have q:=qoF (l:=target);have s2:=qaC target;generalize nodK ⟨path,kind,same,target,⟨m0,m1,m2,m3,m4,m5,m6⟩,data⟩=R at hR⊢;have hd0:data= []↔data.length=0:=List.length_eq_zero_iff.symm;generalize hL:data.length=L at*;have HI0:hasB 0 target=false→Hid (∀W,Calls Tryz.prog 156 #[.string (bs target),.int .u8 0] W fun e w'=>e= .returned (.int .i64 (-1))∧W=w'):=fun h W=>qbY (bs target) W (by rw [qaF];exact h)
 have HI1:hasB 0 target=true→Hid (∀W,Calls Tryz.prog 156 #[.string (bs target),.int .u8 0] W fun e w'=>e= .returned (.int .i64 (pos 0 target))∧W=w'):=fun h W=>by
  have:=qb4 (bs target) W (by rw [qaF];exact h);rw [qaF]at this;exact this
 obtain ⟨T,hT⟩:=qaA (bs target);rw [hT.out]at q s2 HI0 HI1⊢;have HW:=Lib.hid fun o=>qaL (Below.refl w.heap.size w) o;clear hL hT
 by_cases d1:L=0
 ·have d2:=hd0.2 d1
  by_cases q1:same=0
  ·subst q1
   by_cases k2:kind=2
   ·subst k2
    by_cases t1:target= []
    ·subst t1;rw [if_neg (by simp [d2,hasB]),if_neg (by simp)]at hR;subst hR;have q':T.toList= []:=by simpa using q
     have HI:=HI0 rfl;have hl: ¬400<T.size:=by rw [s2];simp
     clear HI0 HI1 d2 hd0 s2 hk z2;subst d1;go_enter Tryz.func107,Tryz.ntmps107;go_wp2_with fail;refine (HI.out _).mono ?_;rintro e w3 ⟨rfl,rfl⟩;go_wp2_with fail;go_ret;exact ⟨rfl,HW.out _⟩
    ·rw [if_pos (by simp [t1])]at hR;subst hR;rw [decide_eq_false t1]at q;have q': ¬T.toList= []:=by simpa using q
     clear HI0 HI1 d2 hd0 s2 hk z2 t1;subst d1;go_enter Tryz.func107,Tryz.ntmps107;go_wp2_with fail;go_ret;exact ⟨rfl,HW.out _⟩
   ·obtain rfl:kind=3:=by omega
    by_cases t1:target= []
    ·subst t1;rw [if_pos (by simp)]at hR;subst hR;have q':T.toList= []:=by simpa using q
     clear HI0 HI1 d2 hd0 s2 hk z2;subst d1;go_enter Tryz.func107,Tryz.ntmps107;go_wp2_with fail;go_ret;exact ⟨rfl,HW.out _⟩
    ·rw [decide_eq_false t1]at q;have q': ¬T.toList= []:=by simpa using q
     cases z0:hasB 0 target
     ·rw [if_neg (by simp [d2,t1,z0])]at hR;have HI:=HI0 z0;rw [←s2]at hR
      by_cases q4:400<T.size
      ·rw [if_pos q4]at hR;subst hR;clear HI0 HI1 d2 hd0 s2 hk z2 t1;subst d1;go_enter Tryz.func107,Tryz.ntmps107;go_wp2_with fail;refine (HI.out _).mono ?_;rintro e w3 ⟨rfl,rfl⟩;go_wp2_with fail;go_ret;exact ⟨rfl,HW.out _⟩
      ·rw [if_neg q4]at hR;subst hR;clear HI0 HI1 d2 hd0 s2 hk z2 t1;subst d1;go_enter Tryz.func107,Tryz.ntmps107;go_wp2_with fail;refine (HI.out _).mono ?_;rintro e w3 ⟨rfl,rfl⟩;go_wp2_with fail;go_ret;exact ⟨rfl,HW.out _⟩
     ·rw [if_pos (by simp [z0])]at hR;subst hR;have HI:=HI1 z0;have hp:(0:Int)≤(pos 0 target:Nat):=Int.natCast_nonneg _;generalize ((pos 0 target:Nat):Int)=p at HI hp;clear HI0 HI1 d2 hd0 s2 hk z2 t1 z0;subst d1;go_enter Tryz.func107,Tryz.ntmps107;go_wp2_with fail;refine (HI.out _).mono ?_;rintro e w3 ⟨rfl,rfl⟩;go_wp2_with fail;go_ret;exact ⟨rfl,HW.out _⟩
  ·rw [if_pos (.inr (.inl q1))]at hR;subst hR;have q1b:(same !=0)=true:=by simpa using q1
   clear HI0 HI1 d2 hd0 s2 hk z2 q1;subst d1;go_enter Tryz.func107,Tryz.ntmps107;go_wp2_with fail;go_ret;exact ⟨rfl,HW.out _⟩
 ·rw [if_pos (.inl (fun e=>d1 (hd0.1 e)))]at hR;subst hR;have d1b:0<L:=by omega
  clear HI0 HI1 hd0 s2 hk z2 d1;go_enter Tryz.func107,Tryz.ntmps107;go_wp2_with fail;go_ret;exact ⟨rfl,HW.out _⟩
set_option maxHeartbeats 4000000 in
theorem q8R (x:NodeV) (D:Option Addr) (c:Nat) (hx:x.sz) (w:World):Calls Tryz.prog 64 #[.agg (nodC x D c).toArray] w fun e w'=>e= .returned (.int .i64 (nodE x))∧Below w.heap.size w w':=by
 have HF:x.kind=1→Hid (∀W,Calls Tryz.prog 106 #[.agg (nodC x D c).toArray] W fun e w'=>e= .returned (.int .i64 (nodK x))∧Below W.heap.size W w'):=fun h W=>q0N x D c h W;have HO:(x.kind=2∨x.kind=3)→Hid (∀W,Calls Tryz.prog 107 #[.agg (nodC x D c).toArray] W fun e w'=>e= .returned (.int .i64 (nodK x))∧Below W.heap.size W w'):=fun h W=>qwL x D c hx h W;obtain ⟨path,kind,same,target,md,data⟩:=x;obtain ⟨⟨z1,z2,z3⟩,z4⟩:=hx;simp only at z1 z2 z3 z4 HF HO;have HP:=Lib.hid fun W=>qoR (bs path) W (by rw [qaC];unfold maxLen;omega);have HM:=Lib.hid fun W=>qlB md z4 W;rw [qaF]at HP;have HX1:=Lib.hid fun h=>qgV (n:=⟨path,kind,same,target,md,data⟩) h;have HX2:=Lib.hid fun h h2=>qnD (n:=⟨path,kind,same,target,md,data⟩) h h2;have HX3:=Lib.hid fun h h2=>qeP (n:=⟨path,kind,same,target,md,data⟩) h h2;simp only at HX1 HX2 HX3;have hn0: ¬(kind=1)→ ¬(kind=2∨kind=3)→nodK ⟨path,kind,same,target,md,data⟩=2:=fun h h2=>by unfold nodK;rw [if_neg h,if_neg h2]
 obtain ⟨e1,he1⟩: ∃e,e=qa6 path:=⟨_,rfl⟩;obtain ⟨e2,he2⟩: ∃e,e=metE md:=⟨_,rfl⟩;rw [←he1]at HP HX1 HX2 HX3;rw [←he2]at HM HX2 HX3;generalize nodK ⟨path,kind,same,target,md,data⟩=R at*;generalize nodE ⟨path,kind,same,target,md,data⟩=V at*;clear he1 he2 z4;obtain ⟨m0,m1,m2,m3,m4,m5,m6⟩:=md;unfold metA at HM;unfold nodC at HF HO⊢;simp only at HM HF HO⊢;obtain ⟨P,hP⟩:=qaA (bs path);obtain ⟨T,hT⟩:=qaA (bs target);rw [hP.out]at HP HF HO⊢;rw [hT.out]at HF HO⊢;have hb0:=Blk.new w 49 #[.string P,.int .i64 kind,.int .i64 same,.string T,.int .i64 m0,.int .i64 m1,.int .i64 m2,.string (bs m3),.string (bs m4),.int .i64 m5,.int .i64 m6,.slice D data.length c];have hw0:Below w.heap.size w (w.alloc (.cells #[.string P,.int .i64 kind,.int .i64 same,.string T,.int .i64 m0,.int .i64 m1,.int .i64 m2,.string (bs m3),.string (bs m4),.int .i64 m5,.int .i64 m6,.slice D data.length c] 49)):=(Below.refl _ _).alloc (Nat.le_refl _) _;clear z1 z2 z3
 by_cases h1:e1=0
 ·subst h1;have HX2:=Lib.hid (HX2.out rfl);have HX3:=Lib.hid (HX3.out rfl);clear HX1
  by_cases h2:e2=0
  ·subst h2;have hV:=HX3.out rfl;subst hV;clear HX2 HX3
   by_cases k1:kind=1
   ·have HF2:=HF k1;clear HF HO hn0;subst k1;go_enter Tryz.func64,Tryz.ntmps64;go_wp2_with fail;refine (HP.out _).mono ?_;rintro e w1 ⟨rfl,hb⟩;have hb1:=hb0.below hb hb0.lt;have HW1:=Lib.hid (hw0.trans (hb.mono hw0.size));clear hb0 hw0 hb;obtain ⟨c0,c1,c2,c3,c4,c5,c6,c7,c8,c9,cA,cB⟩:=qbC hb1;go_wp2_with fail;refine (HM.out _).mono ?_;rintro e w2 ⟨rfl,hb⟩;have hb2:=hb1.below hb hb1.lt;have HW2:=Lib.hid (HW1.out.trans (hb.mono HW1.out.size));clear hb1 hb c0 c1 c2 c3 c4 c5 c6 c7 c8 c9 cA cB;obtain ⟨⟨c0,c1,c2,c3,c4,c5,c6,c7,c8,c9,cA,cB⟩,-⟩:=qbC hb2;clear hb2;go_wp2_with fail;refine (HF2.out _).mono ?_;rintro e w3 ⟨rfl,hb⟩;have HW3:=Lib.hid (HW2.out.trans (hb.mono HW2.out.size));clear hb;go_wp2_with fail;go_ret;exact ⟨rfl,HW3.out⟩
   ·have k1b:(kind==1)=false:=by simpa using k1
    by_cases k2:kind=2
    ·have HO2:=HO (.inl k2);clear HO HF hn0;subst k2;go_enter Tryz.func64,Tryz.ntmps64;go_wp2_with fail;refine (HP.out _).mono ?_;rintro e w1 ⟨rfl,hb⟩;have hb1:=hb0.below hb hb0.lt;have HW1:=Lib.hid (hw0.trans (hb.mono hw0.size));clear hb0 hw0 hb;obtain ⟨c0,c1,c2,c3,c4,c5,c6,c7,c8,c9,cA,cB⟩:=qbC hb1;go_wp2_with fail;refine (HM.out _).mono ?_;rintro e w2 ⟨rfl,hb⟩;have hb2:=hb1.below hb hb1.lt;have HW2:=Lib.hid (HW1.out.trans (hb.mono HW1.out.size));clear hb1 hb c0 c1 c2 c3 c4 c5 c6 c7 c8 c9 cA cB;obtain ⟨⟨c0,c1,c2,c3,c4,c5,c6,c7,c8,c9,cA,cB⟩,-⟩:=qbC hb2;clear hb2;go_wp2_with fail;refine (HO2.out _).mono ?_;rintro e w3 ⟨rfl,hb⟩;have HW3:=Lib.hid (HW2.out.trans (hb.mono HW2.out.size));clear hb;go_wp2_with fail;go_ret;exact ⟨rfl,HW3.out⟩
    ·have k2b:(kind==2)=false:=by simpa using k2
     by_cases k3:kind=3
     ·have HO2:=HO (.inr k3);clear HO HF hn0;subst k3;go_enter Tryz.func64,Tryz.ntmps64;go_wp2_with fail;refine (HP.out _).mono ?_;rintro e w1 ⟨rfl,hb⟩;have hb1:=hb0.below hb hb0.lt;have HW1:=Lib.hid (hw0.trans (hb.mono hw0.size));clear hb0 hw0 hb;obtain ⟨c0,c1,c2,c3,c4,c5,c6,c7,c8,c9,cA,cB⟩:=qbC hb1;go_wp2_with fail;refine (HM.out _).mono ?_;rintro e w2 ⟨rfl,hb⟩;have hb2:=hb1.below hb hb1.lt;have HW2:=Lib.hid (HW1.out.trans (hb.mono HW1.out.size));clear hb1 hb c0 c1 c2 c3 c4 c5 c6 c7 c8 c9 cA cB;obtain ⟨⟨c0,c1,c2,c3,c4,c5,c6,c7,c8,c9,cA,cB⟩,-⟩:=qbC hb2;clear hb2;go_wp2_with fail;refine (HO2.out _).mono ?_;rintro e w3 ⟨rfl,hb⟩;have HW3:=Lib.hid (HW2.out.trans (hb.mono HW2.out.size));clear hb;go_wp2_with fail;go_ret;exact ⟨rfl,HW3.out⟩
     ·have hv:=hn0 k1 (by rintro (e|e);exact k2 e;exact k3 e);subst hv;have k3b:(kind==3)=false:=by simpa using k3
      clear HF HO hn0 k1 k2 k3;go_enter Tryz.func64,Tryz.ntmps64;go_wp2_with fail;refine (HP.out _).mono ?_;rintro e w1 ⟨rfl,hb⟩;have hb1:=hb0.below hb hb0.lt;have HW1:=Lib.hid (hw0.trans (hb.mono hw0.size));clear hb0 hw0 hb;obtain ⟨c0,c1,c2,c3,c4,c5,c6,c7,c8,c9,cA,cB⟩:=qbC hb1;go_wp2_with fail;refine (HM.out _).mono ?_;rintro e w2 ⟨rfl,hb⟩;have hb2:=hb1.below hb hb1.lt;have HW2:=Lib.hid (HW1.out.trans (hb.mono HW1.out.size));clear hb1 hb c0 c1 c2 c3 c4 c5 c6 c7 c8 c9 cA cB;obtain ⟨⟨c0,c1,c2,c3,c4,c5,c6,c7,c8,c9,cA,cB⟩,-⟩:=qbC hb2;clear hb2;go_wp2_with fail;go_ret;exact ⟨rfl,HW2.out⟩
  ·have h2':(e2 !=0)=true:=by simpa using h2
   have hV:=HX2.out h2;subst hV;clear HX2 HX3 h2 HF HO hn0;go_enter Tryz.func64,Tryz.ntmps64;go_wp2_with fail;refine (HP.out _).mono ?_;rintro e w1 ⟨rfl,hb⟩;have hb1:=hb0.below hb hb0.lt;have HW1:=Lib.hid (hw0.trans (hb.mono hw0.size));clear hb0 hw0 hb;obtain ⟨c0,c1,c2,c3,c4,c5,c6,c7,c8,c9,cA,cB⟩:=qbC hb1;go_wp2_with fail;refine (HM.out _).mono ?_;rintro e w2 ⟨rfl,hb⟩;have HW2:=Lib.hid (HW1.out.trans (hb.mono HW1.out.size));clear hb1 hb c0 c1 c2 c3 c4 c5 c6 c7 c8 c9 cA cB;go_wp2_with fail;go_ret;exact ⟨rfl,HW2.out⟩
 ·have h1':(e1 !=0)=true:=by simpa using h1
  have hV:=HX1.out h1;subst hV;clear HX1 HX2 HX3 h1 HF HO hn0;go_enter Tryz.func64,Tryz.ntmps64;go_wp2_with fail;refine (HP.out _).mono ?_;rintro e w1 ⟨rfl,hb⟩;have HW1:=Lib.hid (hw0.trans (hb.mono hw0.size));clear hb0 hw0 hb;go_wp2_with fail;go_ret;exact ⟨rfl,HW1.out⟩
theorem zbU {P:NodeV→Bool} {l:List NodeV} {k:Nat} (hk:k<l.length) (h:k≤l.findIdx P) (hp:P l[k]=true):l.findIdx P=k:=by
 rcases Nat.lt_or_eq_of_le h with h'|h'
 ·exact absurd hp (by simpa using List.not_of_lt_findIdx h')
 ·exact h'.symm
theorem zbV {P:NodeV→Bool} {l:List NodeV} {k:Nat} (hk:k<l.length) (h:k≤l.findIdx P) (hp:P l[k]=false):k+1≤l.findIdx P:=by
 rcases Nat.lt_or_eq_of_le h with h'|h'
 ·exact h'
 ·have h1:l.findIdx P<l.length:=by omega
  have:=List.findIdx_getElem (w:=h1);simp only [←h']at this;rw [hp]at this;cases this
theorem zd3 (P:NodeV→Bool) (l:List NodeV):l.findIdx P≤l.length:=List.findIdx_le_length
def idxI (P:NodeV→Bool) (l:List NodeV):Int:=if l.findIdx P<l.length then (l.findIdx P:Int)else-1
theorem qr1 {P:NodeV→Bool} {l:List NodeV} (h:l.findIdx P<l.length):idxI P l=(l.findIdx P:Nat):=if_pos h
theorem qxB {P:NodeV→Bool} {l:List NodeV} (h:l.findIdx P=l.length):idxI P l= -1:=if_neg (by omega)
theorem zbX (P:NodeV→Bool) (l:List NodeV):decide (0≤idxI P l)=l.any P:=by
 unfold idxI;rw [Bool.eq_iff_iff,decide_eq_true_eq,List.any_eq_true,←List.findIdx_lt_length]
 split
 ·rename_i h;exact ⟨fun _=>h,fun _=>by omega⟩
 ·rename_i h;exact ⟨fun e=>absurd e (by omega),fun e=>absurd e h⟩
theorem q67 (l:List NodeV) (s:List UInt8):qaR l s=l.findIdx fun n=>decide (n.path=s):=by
 induction l with
 |nil=>rfl
 |cons a l ih=>
  rw [List.findIdx_cons];unfold qaR at*;rw [List.takeWhile_cons]
  by_cases e:a.path=s
  ·simp [e]
  ·simp [e,ih]
set_option maxHeartbeats 2000000 in
theorem qgC (f:Nat) (p:Value) (P:NodeV→Bool) (I:World→Prop) (hI: ∀W W',I W→Below W.heap.size W W'→I W')
  (hf: ∀(x:NodeV) (D:Option Addr) (c:Nat) (W:World),I W→x.sz→Calls Tryz.prog f #[.agg (nodC x D c).toArray,p] W fun e w'=>e= .returned (.bool (P x))∧Below W.heap.size W w')
  (ef: ∀args w,(callFunc f args).run Tryz.prog w= .ok (.enter f args) w)
  (A:Option Addr) (n c:Nat) (l:List NodeV) (hn:l.length=n) (hm:n≤140737488355328) (hsz: ∀x∈l,x.sz) (w:World) (hw:I w) (hA:qaJ w A l):
  Calls Tryz.prog 52 #[.slice A n c,.func (.func f) #[] #[p]] w fun e w'=>e= .returned (.int .i64 (idxI P l))∧Below w.heap.size w w':=by
 have HN:=Lib.hid hn;have HA:=Lib.hid hA;have HF:=Lib.hid hf;have HI:=Lib.hid hI;have HW:=Lib.hid hw;have HSZ:=Lib.hid hsz;clear hn hA hf hI hw hsz;go_enter Tryz.func52,Tryz.ntmps52;go_wp2_with fail
 go_loopw [8] (fun i wr=> ∃k:Nat,k≤n∧i= .int .i64 k∧Hid (k≤l.findIdx P)∧Hid (Below w.heap.size w wr)) (fun i _=>n-(intOf i).toNat)
 case atStart=>exact ⟨0,Nat.zero_le _,rfl,Nat.zero_le _,Below.refl _ _⟩
 case round=>
  obtain ⟨k,hk,rfl,HK,HB⟩:=hrel
  by_cases hlt:k<n
  ·have hk1:k<l.length:=by rw [HN.out];exact hlt
   obtain ⟨b,o,D,cc,rfl,c0,c1,c2',c3,⟨c4,c5,c6,c7,c8,c9,cA⟩,cB,-,hD⟩:=(HA.out.below HB.out).cells k hk1;have HC:=Lib.hid (HF.out l[k] D cc wr (HI.out _ _ HW.out HB.out) (HSZ.out _ (List.getElem_mem hk1)));have HS0:=Lib.hid fun h=>zbU hk1 HK.out h;have HS1:=Lib.hid fun h=>zbV hk1 HK.out h;generalize hx:l[k]=x at*;unfold nodC at HC;clear hx hD;obtain ⟨q,hq⟩: ∃q,q=P x:=⟨_,rfl⟩;rw [←hq]at HC HS0 HS1;clear hq;cases q with
   |true=>
    have HV:Hid (idxI P l=(k:Nat)):=by
     have:=HS0.out rfl;unfold Hid;rw [qr1 (by omega),this]
    clear HS0 HS1;go_wp2_with fail;refine HC.out.mono ?_;rintro e w1 ⟨rfl,hb⟩;have HB1:=Lib.hid (HB.out.trans (hb.mono HB.out.size));clear hb c0 c1 c2' c3 c4 c5 c6 c7 c8 c9 cA cB;go_wp2_with fail;go_ret;exact ⟨qaV (by rw [HV.out]),HB1.out⟩
   |false=>
    have HK1:=Lib.hid (HS1.out rfl);clear HS0 HS1;go_wp2_with fail;refine HC.out.mono ?_;rintro e w1 ⟨rfl,hb⟩;have HB1:=Lib.hid (HB.out.trans (hb.mono HB.out.size));clear hb c0 c1 c2' c3 c4 c5 c6 c7 c8 c9 cA cB;go_wp2_with fail;go_roundw
    case rel=>exact ⟨k+1,by omega,by go_num,HK1,HB1⟩
    case measure=>simp [intOf];omega
  ·obtain rfl:k=n:=by omega
   have HV:Hid (idxI P l= -1):=by
    have:=zd3 P l;have h2:=HK.out;have h3:=HN.out;unfold Hid;exact qxB (by omega)
   go_wp2_with fail;go_ret;exact ⟨qaV (by rw [HV.out]),HB.out⟩
theorem at1_any (s:ByteArray) (b:Nat) (x:NodeV) (D:Option Addr) (c:Nat) (W:World) (hc:W.cell? ⟨b,0,none⟩=some (.string s)):
  Calls Tryz.prog 114 #[.agg (nodC x D c).toArray,.pointer (some ⟨b,0,none⟩)] W fun e w'=>e= .returned (.bool (decide (x.path=s.data.toList)))∧Below W.heap.size W w':=by
 have q:=qoG (a:=x.path) (b:=s.data.toList);rw [qgJ]at q;obtain ⟨path,kind,same,target,⟨m0,m1,m2,m3,m4,m5,m6⟩,data⟩:=x;unfold nodC;simp only at q⊢;obtain ⟨P,hP⟩:=qaA (bs path);rw [hP.out]at q⊢;generalize decide (path=s.data.toList)=r at q⊢;have hlt:b<W.heap.size:=World.block_lt_of_cell? W _ hc;have hne:b≠W.heap.size:=by omega
 have HW:=Lib.hid fun o=>qaL (Below.refl W.heap.size W) o;have hc1: ∀o,(W.alloc o).cell? ⟨b,0,none⟩=some (.string s):=fun o=>by rw [World.cell?_alloc_old _ _ _ (by show b≠_;omega)];exact hc
 have HQ:=Lib.hid q;clear hP hlt q;go_enter Tryz.func114,Tryz.ntmps114;go_wp2_with fail;go_ret;exact ⟨qcA HQ.out,HW.out _⟩
theorem q8E (s:ByteArray) (w:World):Calls Tryz.prog 70 #[.string s] w fun e w'=>e= .returned (.func (.func 114) #[] #[.pointer (some ⟨w.heap.size,0,none⟩)])∧w'=w.alloc (.cells #[.string s] 9):=by
 go_enter Tryz.func70,Tryz.ntmps70;go_wp2_with fail;go_ret;exact ⟨rfl,rfl⟩
theorem q2K (s:ByteArray) (b:Nat) (x:NodeV) (D:Option Addr) (c:Nat) (W:World) (hc:W.cell? ⟨b,0,none⟩=some (.string s)):
  Calls Tryz.prog 112 #[.agg (nodC x D c).toArray,.pointer (some ⟨b,0,none⟩)] W fun e w'=>e= .returned (.bool (decide (x.path=s.data.toList) &&decide (x.kind=2)))∧Below W.heap.size W w':=by
 have q:=qoG (a:=x.path) (b:=s.data.toList);rw [qgJ]at q;obtain ⟨path,kind,same,target,⟨m0,m1,m2,m3,m4,m5,m6⟩,data⟩:=x;unfold nodC;simp only at q⊢;obtain ⟨P,hP⟩:=qaA (bs path);rw [hP.out]at q⊢;generalize decide (path=s.data.toList)=r at q⊢;have hlt:b<W.heap.size:=World.block_lt_of_cell? W _ hc;have hne:b≠W.heap.size:=by omega
 have HW:=Lib.hid fun o=>qaL (Below.refl W.heap.size W) o;have hc1: ∀o,(W.alloc o).cell? ⟨b,0,none⟩=some (.string s):=fun o=>by rw [World.cell?_alloc_old _ _ _ (by show b≠_;omega)];exact hc
 clear hP hlt;cases r with
 |false=>
  go_enter Tryz.func112,Tryz.ntmps112;go_wp2_with fail;go_ret;exact ⟨rfl,HW.out _⟩
 |true=>
  by_cases k:kind=2
  ·subst k;go_enter Tryz.func112,Tryz.ntmps112;go_wp2_with fail;go_ret;exact ⟨rfl,HW.out _⟩
  ·rw [decide_eq_false k];have k2:(kind==2)=false:=by simpa using k
   clear k;go_enter Tryz.func112,Tryz.ntmps112;go_wp2_with fail;go_ret;exact ⟨rfl,HW.out _⟩
theorem q2J (s:ByteArray) (w:World):Calls Tryz.prog 68 #[.string s] w fun e w'=>e= .returned (.func (.func 112) #[] #[.pointer (some ⟨w.heap.size,0,none⟩)])∧w'=w.alloc (.cells #[.string s] 9):=by
 go_enter Tryz.func68,Tryz.ntmps68;go_wp2_with fail;go_ret;exact ⟨rfl,rfl⟩
theorem q5C (s:ByteArray) (hs:s.size≤maxLen) (b:Nat) (x:NodeV) (hx:x.sz) (D:Option Addr) (c:Nat) (W:World) (hc:W.cell? ⟨b,0,none⟩=some (.string s)):
  Calls Tryz.prog 177 #[.agg (nodC x D c).toArray,.pointer (some ⟨b,0,none⟩)] W fun e w'=>e= .returned (.bool (decide (x.path=s.data.toList)||inB x.path s.data.toList))∧Below W.heap.size W w':=by
 have q:=qoG (a:=x.path) (b:=s.data.toList);rw [qgJ]at q;have HI:=Lib.hid fun W'=>qvR (bs x.path) s W' (by rw [qaC];have:=hx.1.1;unfold maxLen;omega) hs;rw [qaF]at HI;obtain ⟨path,kind,same,target,⟨m0,m1,m2,m3,m4,m5,m6⟩,data⟩:=x;unfold nodC;simp only at q HI⊢;obtain ⟨P,hP⟩:=qaA (bs path);rw [hP.out]at q HI⊢;generalize decide (path=s.data.toList)=r at q⊢;generalize inB path s.data.toList=r2 at HI⊢;have hlt:b<W.heap.size:=World.block_lt_of_cell? W _ hc;have hne:b≠W.heap.size:=by omega
 have HW:=Lib.hid fun o=>qaL (Below.refl W.heap.size W) o;have hc1: ∀o,(W.alloc o).cell? ⟨b,0,none⟩=some (.string s):=fun o=>by rw [World.cell?_alloc_old _ _ _ (by show b≠_;omega)];exact hc
 clear hP hlt hs;cases r with
 |true=>
  clear HI;go_enter Tryz.func177,Tryz.ntmps177;go_wp2_with fail;go_ret;exact ⟨rfl,HW.out _⟩
 |false=>
  go_enter Tryz.func177,Tryz.ntmps177;go_wp2_with fail;refine (HI.out _).mono ?_;rintro e w1 ⟨rfl,rfl⟩;go_wp2_with fail;go_ret;exact ⟨rfl,HW.out _⟩
theorem q5B (s:ByteArray) (w:World):Calls Tryz.prog 121 #[.string s] w fun e w'=>e= .returned (.func (.func 177) #[] #[.pointer (some ⟨w.heap.size,0,none⟩)])∧w'=w.alloc (.cells #[.string s] 9):=by
 go_enter Tryz.func121,Tryz.ntmps121;go_wp2_with fail;go_ret;exact ⟨rfl,rfl⟩
theorem qdU (b:Nat) (v:Value): ∀W W':World,W.cell? ⟨b,0,none⟩=some v→Below W.heap.size W W'→W'.cell? ⟨b,0,none⟩=some v:=fun W W' h hb=>
 (hb.cell (p:=⟨b,0,none⟩) (World.block_lt_of_cell? W _ h)).trans h
theorem qvU (s:ByteArray) (b:Nat) (A:Option Addr) (n c:Nat) (l:List NodeV) (hn:l.length=n) (hm:n≤140737488355328) (hsz: ∀x∈l,x.sz) (w:World) (hc:w.cell? ⟨b,0,none⟩=some (.string s)) (hA:qaJ w A l):
  Calls Tryz.prog 67 #[.slice A n c,.func (.func 112) #[] #[.pointer (some ⟨b,0,none⟩)]] w fun e w'=>e= .returned (.bool (l.any fun x=>decide (x.path=s.data.toList) &&decide (x.kind=2)))∧Below w.heap.size w w':=by
 have HI:=Lib.hid (qgC 112 (.pointer (some ⟨b,0,none⟩)) (fun x=>decide (x.path=s.data.toList) &&decide (x.kind=2)) (fun W=>W.cell? ⟨b,0,none⟩=some (.string s)) (qdU b _) (fun x D c W h _=>q2K s b x D c W h) (enters_of Tryz.func112 (by kernel_rfl) rfl) A n c l hn hm hsz w hc hA);have HV:=Lib.hid (zbX (fun x=>decide (x.path=s.data.toList) &&decide (x.kind=2)) l);obtain ⟨r,hr⟩: ∃r,r=idxI (fun x=>decide (x.path=s.data.toList) &&decide (x.kind=2)) l:=⟨_,rfl⟩;rw [←hr]at HI HV;clear hr hc hA hsz;go_enter Tryz.func67,Tryz.ntmps67;go_wp2_with fail;refine HI.out.mono ?_;rintro e w1 ⟨rfl,hb⟩;have HB:=Lib.hid hb;clear hb;go_wp2_with fail;go_ret;exact ⟨qcA HV.out,HB.out⟩
theorem qgD (A:Option Addr) (n c:Nat) (l:List NodeV) (s:ByteArray) (hn:l.length=n) (hm:n≤140737488355328) (hsz: ∀x∈l,x.sz) (w:World) (hA:qaJ w A l):
  Calls Tryz.prog 25 #[.slice A n c,.string s] w fun e w'=>e= .returned (if qaR l s.data.toList<n then .tuple #[.int .i64 (qaR l s.data.toList:Nat),.int .i64 0]else .tuple #[.int .i64 0,.int .i64 5])∧Below w.heap.size w w':=by
 have hb0:Below w.heap.size w (w.alloc (.cells #[.string s] 9)):=qaL (Below.refl _ _) _;have HI:=Lib.hid (qgC 114 (.pointer (some ⟨w.heap.size,0,none⟩)) (fun x=>decide (x.path=s.data.toList)) (fun W=>W.cell? ⟨w.heap.size,0,none⟩=some (.string s)) (qdU _ _) (fun x D c W h _=>at1_any s _ x D c W h) (enters_of Tryz.func114 (by kernel_rfl) rfl) A n c l hn hm hsz (w.alloc (.cells #[.string s] 9)) (Blk.new w 9 #[.string s]|>.cell 0) (hA.below hb0));have HB0:=Lib.hid hb0;have HX:=Lib.hid (q67 l s.data.toList);have hle:=qeB l s.data.toList;rw [hn]at hle
 by_cases hlt:qaR l s.data.toList<n
 ·rw [if_pos hlt]
  have HV:Hid (idxI (fun x=>decide (x.path=s.data.toList)) l=(qaR l s.data.toList:Nat)):=by
   unfold Hid;rw [qr1 (by rw [←HX.out,hn];exact hlt),←HX.out]
  rw [HV.out]at HI;generalize qaR l s.data.toList=f at*;clear HV HX hA hsz hb0 hle hlt;go_enter Tryz.func25,Tryz.ntmps25;go_wp2_with fail;refine (q8E s _).mono ?_;rintro e w1 ⟨rfl,rfl⟩;go_wp2_with fail;refine HI.out.mono ?_;rintro e w1 ⟨rfl,hb⟩;have HB:=Lib.hid (HB0.out.trans (hb.mono HB0.out.size));clear hb;go_wp2_with fail;go_ret2;exact ⟨rfl,HB.out⟩
 ·rw [if_neg hlt]
  have HV:Hid (idxI (fun x=>decide (x.path=s.data.toList)) l= -1):=by
   unfold Hid;exact qxB (by rw [←HX.out,hn];omega)
  rw [HV.out]at HI;clear HV HX hA hsz hb0 hle hlt;go_enter Tryz.func25,Tryz.ntmps25;go_wp2_with fail;refine (q8E s _).mono ?_;rintro e w1 ⟨rfl,rfl⟩;go_wp2_with fail;refine HI.out.mono ?_;rintro e w1 ⟨rfl,hb⟩;have HB:=Lib.hid (HB0.out.trans (hb.mono HB0.out.size));clear hb;go_wp2_with fail;go_ret2;exact ⟨rfl,HB.out⟩
def MapN (w:World) (r:Nat) (t:List NodeV):Prop:=
 ∃es clock,w.heap[r]?=some (.map es clock)∧(∀e∈es.toList,∃(y:NodeV) (D:Option Addr) (c:Nat),y∈t∧e.key= .int .i64 y.same∧e.val= .agg (nodC y D c).toArray∧qaE w D y.data)∧
  ∀y∈t,y.same≠0→ ∃e∈es.toList,e.key= .int .i64 y.same
theorem MapN.lt {w:World} {r:Nat} {t:List NodeV} (h:MapN w r t):r<w.heap.size:=by
 obtain ⟨es,clock,hb,-⟩:=h;exact (Array.getElem?_eq_some_iff.1 hb).1
theorem MapN.below {w w':World} {r:Nat} {t:List NodeV} (h:MapN w r t) (hb:Below w.heap.size w w'):MapN w' r t:=by
 have hlt:=h.lt;obtain ⟨es,clock,hr,h1,h2⟩:=h
 exact ⟨es,clock,(hb.block r hlt).trans hr,fun e he=>by
  obtain ⟨y,D,c,a1,a2,a3,a4⟩:=h1 e he
  exact ⟨y,D,c,a1,a2,a3,a4.below hb⟩,h2⟩
theorem MapN.new (w:World):MapN (w.alloc (.map #[] 0)) w.heap.size []:=⟨#[],0,heap_alloc_new w _,fun e he=>by simp at he,fun y hy=>by simp at hy⟩
theorem MapN.skip {w:World} {r:Nat} {t:List NodeV} (h:MapN w r t) (x:NodeV) (hx:x.same=0):MapN w r (t++ [x]):=by
 obtain ⟨es,clock,hr,h1,h2⟩:=h;refine ⟨es,clock,hr,fun e he=> ?_,fun y hy hne=> ?_⟩
 ·obtain ⟨y,D,c,a1,a2,a3,a4⟩:=h1 e he;exact ⟨y,D,c,List.mem_append_left _ a1,a2,a3,a4⟩
 ·rcases List.mem_append.1 hy with a|a
  ·exact h2 y a hne
  ·obtain rfl:y=x:=by simpa using a
   exact absurd hx hne
theorem qeR (k:Int):MapKept.IsKey (.int .i64) (.int .i64 k):=by simp [MapKept.IsKey]
theorem MapN.look {w:World} {r:Nat} {t:List NodeV} (h:MapN w r t) (k:Int):
  (∃(y:NodeV) (D:Option Addr) (c:Nat),y∈t∧y.same=k∧qaE w D y.data∧(Instr.lookup 91 (.map (some r)) (.int .i64 k) true).run Tryz.prog w= .ok (.tuple #[.agg (nodC y D c).toArray,.bool true]) w)∨
  ((∀y∈t,y.same≠0→y.same≠k)∧(Instr.lookup 91 (.map (some r)) (.int .i64 k) true).run Tryz.prog w= .ok (.tuple #[.agg (nodC ⟨[],0,0, [],⟨0,0,0, [], [],0,0⟩, []⟩ none 0).toArray,.bool false]) w):=by
 obtain ⟨es,clock,hr,h1,h2⟩:=h;have hm:=Tryz.underlying91;have hk:=Tryz.underlying3
 have hkeys: ∀e∈es.toList,MapKept.IsKey (.int .i64) e.key:=fun e he=>by
  obtain ⟨y,D,c,-,a2,-⟩:=h1 e he;rw [a2];exact qeR _
 have hc:(Instr.checkKey es.isEmpty 10000 3 (.int .i64 k)).run Tryz.prog w= .ok () w:=MapKept.run_checkKey (k:= .int .i64 k) hk (qeR k) _ 9999;rcases MapKept.findNow_spec (qeR k) es.toList 0 hkeys with ⟨f1,f2⟩|⟨j,e,f1,f2,f3⟩
 ·right;refine ⟨fun y hy hne e=> ?_,?_⟩
  ·obtain ⟨e0,he0,hk0⟩:=h2 y hy hne;exact f2 e0 he0 (by rw [hk0,e])
  ·simp [Instr.lookup,run_underlying hm,MapKept.run_getObj_map hr,hc,MapKept.run_findKey hk f1,Result.andThen]
   rfl
 ·left;have he:e∈es.toList:=List.mem_of_getElem? f2;obtain ⟨y,D,c,a1,a2,a3,a4⟩:=h1 e he;refine ⟨y,D,c,a1,?_,a4,?_⟩
  ·rw [a2]at f3;simpa using f3
  ·have hc':=hc;simp [Instr.lookup,run_underlying hm,MapKept.run_getObj_map hr,hc,MapKept.run_findKey hk f1,Result.andThen,a3]
theorem qlM {w0 w:World} {B r:Nat} {es es':Array MapEntry} {c c':Nat} (h:Below B w0 w) (hB:B≤r) (hr:w.heap[r]?=some (.map es c)):Below B w0 {w with heap:=w.heap.setIfInBounds r (.map es' c') } :=by
 obtain ⟨h1,h2,h3,h4,h5⟩:=h;refine ⟨h1,h2,h3,?_,fun i hi=> ?_⟩
 ·show w0.heap.size≤(w.heap.setIfInBounds r _).size;simp;exact h4
 ·exact ((MapKept.heap_set hr).2 i (by omega)).trans (h5 i hi)
theorem MapN.put {w:World} {r:Nat} {t:List NodeV} (h:MapN w r t) (x:NodeV) (D:Option Addr) (c:Nat) (hD:qaE w D x.data):
  ∃w',(Instr.mapUpdate 91 (.map (some r)) (.int .i64 x.same) (.agg (nodC x D c).toArray)).run Tryz.prog w= .ok () w'∧(∀w0 B,B≤r→Below B w0 w→Below B w0 w')∧
   ((∀(E:Option Addr) (l:List UInt8),qaE w E l→qaE w' E l)∧MapN w' r (t++ [x])):=by
 obtain ⟨es,clock,hr,h1,h2⟩:=h;have hm:=Tryz.underlying91;have hk:=Tryz.underlying3
 have hkeys: ∀e∈es.toList,MapKept.IsKey (.int .i64) e.key:=fun e he=>by
  obtain ⟨y,D,c,-,a2,-⟩:=h1 e he;rw [a2];exact qeR _
 have hc:(Instr.checkKey false 10000 3 (.int .i64 x.same)).run Tryz.prog w= .ok () w:=MapKept.run_checkKey (k:= .int .i64 x.same) hk (qeR _) _ 9999
 have hbyt: ∀(es':Array MapEntry) (c':Nat) (E:Option Addr) (l:List UInt8),qaE w E l→qaE {w with heap:=w.heap.setIfInBounds r (.map es' c') } E l:=fun es' c' E l hE j hj=>by
  obtain ⟨b,o,e,hcell⟩:=hE j hj;refine ⟨b,o,e,?_⟩
  have hne:b≠r:=by
   rintro rfl;simp [World.cell?,hr]at hcell
  have h3:=(MapKept.heap_set (o':= .map es' c') hr).2 b hne;unfold World.cell? at hcell⊢;simp only at hcell⊢;rw [h3];exact hcell
 rcases MapKept.findNow_spec (qeR x.same) es.toList 0 hkeys with ⟨f1,f2⟩|⟨j,e,f1,f2,f3⟩
 ·refine ⟨{w with heap:=w.heap.setIfInBounds r (.map (es.push {key:= .int .i64 x.same,val:= .agg (nodC x D c).toArray,born:=clock}) (clock+1)) },?_,fun w0 B hB hb=>qlM hb hB hr,hbyt _ _,?_⟩
  ·simp [Instr.mapUpdate,run_underlying hm,MapKept.run_getObj_map hr,hc,MapKept.run_findKey hk f1,MapKept.run_setObj_map _ hr,Result.andThen]
  ·refine ⟨_,_,(MapKept.heap_set hr).1,fun e he=> ?_,fun y hy hne=> ?_⟩
   ·rw [Array.toList_push,List.mem_append]at he;rcases he with he|he
    ·obtain ⟨y,E,d,a1,a2,a3,a4⟩:=h1 e he;exact ⟨y,E,d,List.mem_append_left _ a1,a2,a3,hbyt _ _ _ _ a4⟩
    ·obtain rfl:e= {key:= .int .i64 x.same,val:= .agg (nodC x D c).toArray,born:=clock} :=by simpa using he
     exact ⟨x,D,c,by simp,rfl,rfl,hbyt _ _ _ _ hD⟩
   ·rw [Array.toList_push];rcases List.mem_append.1 hy with a|a
    ·obtain ⟨e,he,hk0⟩:=h2 y a hne;exact ⟨e,List.mem_append_left _ he,hk0⟩
    ·obtain rfl:y=x:=by simpa using a
     exact ⟨_,List.mem_append_right _ (List.mem_singleton.2 rfl),rfl⟩
 ·have hj:es[j]?=some e:=by simpa using f2
  refine ⟨{w with heap:=w.heap.setIfInBounds r (.map (es.modify j fun e=> {e with key:= .int .i64 x.same,val:= .agg (nodC x D c).toArray}) clock) },?_,fun w0 B hB hb=>qlM hb hB hr,hbyt _ _,?_⟩
  ·simp [Instr.mapUpdate,run_underlying hm,MapKept.run_getObj_map hr,hc,MapKept.run_findKey hk f1,hj,f3,MapKept.run_keyThatStays (qeR x.same),MapKept.run_setObj_map _ hr,Result.andThen]
  ·have hmem: ∀e'∈(es.modify j fun e=> {e with key:= .int .i64 x.same,val:= .agg (nodC x D c).toArray}).toList,e'∈es.toList∨(e'.key= .int .i64 x.same∧e'.val= .agg (nodC x D c).toArray):=fun e' he'=>by
    obtain ⟨i,hi,rfl⟩:=List.getElem_of_mem he';simp only [Array.getElem_toList,Array.getElem_modify]
    split
    ·exact .inr ⟨rfl,rfl⟩
    ·exact .inl (by simp)
   have hkey: ∀e0∈es.toList,∃e'∈(es.modify j fun e=> {e with key:= .int .i64 x.same,val:= .agg (nodC x D c).toArray}).toList,e'.key=e0.key:=fun e0 he0=>by
    obtain ⟨i,hi,rfl⟩:=List.getElem_of_mem he0;refine ⟨(es.modify j fun e=> {e with key:= .int .i64 x.same,val:= .agg (nodC x D c).toArray}).toList[i]'(by simpa using hi),List.getElem_mem _,?_⟩;simp only [Array.getElem_toList,Array.getElem_modify]
    split
    ·rename_i hij;subst hij;have:es[j]?=some (es[j]'(by simpa using hi)):=Array.getElem?_eq_getElem _;rw [this]at hj;injection hj with hj
     rw [hj];exact f3.symm
    ·rfl
   refine ⟨_,_,(MapKept.heap_set hr).1,fun e' he'=> ?_,fun y hy hne=> ?_⟩
   ·rcases hmem e' he' with a|⟨a,b⟩
    ·obtain ⟨y,E,d,a1,a2,a3,a4⟩:=h1 e' a;exact ⟨y,E,d,List.mem_append_left _ a1,a2,a3,hbyt _ _ _ _ a4⟩
    ·exact ⟨x,D,c,by simp,a,b,hbyt _ _ _ _ hD⟩
   ·rcases List.mem_append.1 hy with a|a
    ·obtain ⟨e0,he0,hk0⟩:=h2 y a hne;obtain ⟨e',he',hk1⟩:=hkey e0 he0;exact ⟨e',he',by rw [hk1,hk0]⟩
    ·obtain rfl:y=x:=by simpa using a
     obtain ⟨e',he',hk1⟩:=hkey e (List.mem_of_getElem? f2);exact ⟨e',he',by rw [hk1,f3]⟩
theorem qoS (A A':Option Addr) (n c n' c':Nat) (l l':List UInt8) (hn:l.length=n) (hn':l'.length=n') (w:World) (hA:qaE w A l) (hA':qaE w A' l'):
  Calls Tryz.prog 113 #[.slice A n c,.slice A' n' c'] w fun e w'=>e= .returned (.bool (decide (l=l')))∧w=w':=by
 have h1:=hA.conv c (fun e=>by subst e;exact hA.none_nil);have h2:=hA'.conv c' (fun e=>by subst e;exact hA'.none_nil);rw [hn]at h1;rw [hn']at h2;have q:=qoG (a:=l) (b:=l');obtain ⟨S,hS⟩:=qaA (bs l);obtain ⟨S',hS'⟩:=qaA (bs l');rw [hS.out]at h1 q;rw [hS'.out]at h2 q;have Q:=Lib.hid q;clear hA hA' hn hn' q;go_enter Tryz.func113,Tryz.ntmps113;go_wp2_with fail;go_ret;exact ⟨qcA Q.out,rfl⟩
set_option maxHeartbeats 2000000 in
theorem q1V (x y:NodeV) (D E:Option Addr) (c d:Nat) (w:World) (hD:qaE w D x.data) (hE:qaE w E y.data):
  Calls Tryz.prog 69 #[.agg (nodC x D c).toArray,.agg (nodC y E d).toArray] w fun e w'=>e= .returned (.bool (decide (x.md=y.md) &&decide (x.data=y.data)))∧Below w.heap.size w w':=by
 have hq:=qy1 x.md y.md;have HS:=Lib.hid fun W h h'=>qoS D E x.data.length c y.data.length d x.data y.data rfl rfl W h h';obtain ⟨xp,xk,xs,xt,xm,xd⟩:=x;obtain ⟨yp,yk,ys,yt,ym,yd⟩:=y;simp only at hq HS hD hE⊢;have hmb:decide (xm=ym)=metB xm ym:=rfl;rw [hmb];generalize metB xm ym=mb at hq⊢;obtain ⟨x0,x1,x2,x3,x4,x5,x6⟩:=xm;obtain ⟨y0,y1,y2,y3,y4,y5,y6⟩:=ym;unfold nodC;unfold metA at hq;simp only at hq⊢;have hw2: ∀o o',Below w.heap.size w ((w.alloc o).alloc o'):=fun o o'=>qaL (qaL (Below.refl _ _) o) o';have HW2:=Lib.hid hw2;have HS2:=Lib.hid fun o o'=>HS.out _ (hD.below (hw2 o o')) (hE.below (hw2 o o'));clear hw2 hD hE HS hmb;generalize decide (xd=yd)=db at HS2⊢;cases mb
 ·clear HS2;go_enter Tryz.func69,Tryz.ntmps69;go_wp2_with fail;go_ret;exact ⟨rfl,HW2.out _ _⟩
 ·go_enter Tryz.func69,Tryz.ntmps69;go_wp2_with fail;refine (HS2.out _ _).mono ?_;rintro e w3 ⟨rfl,rfl⟩;go_wp2_with fail;go_ret;exact ⟨rfl,HW2.out _ _⟩
theorem qs3 (a b:ByteArray) (ha:a.size≤400) (hb:b.size≤400) (w:World):Calls Tryz.prog 65 #[.string a,.string b] w fun e w'=>e= .returned (.int .i64 (pcmp a.data.toList b.data.toList))∧Below w.heap.size w w':=
 (qiR a b w (by unfold maxLen;omega) (by unfold maxLen;omega)).mono fun e w' ⟨h1,n,h2⟩=>⟨h1,h2▸below_drewN (Below.refl _ _) n⟩
theorem RdS.map {w wr W:World} {g:Nat} {x:NodeV} {D:Option Addr} {c:Nat} (h:RdS w wr g x D c W) {r:Nat} {t:List NodeV} (hm:MapN wr r t):MapN W r t:=hm.below h.2
set_option maxHeartbeats 8000000 in
theorem qcR (A:Option Addr) (n c:Nat) (l:List NodeV) (hn:l.length=n) (hc:SlOk A n c) (hsz: ∀x∈l,x.sz) (w:World) (hA:qaJ w A l):
  Calls Tryz.prog 23 #[.slice A n c] w fun e w'=>e= .returned (.int .i64 (qaO l))∧Below w.heap.size w w':=by
 have HN:=Lib.hid hn;have HA:=Lib.hid hA;have HSZ:=Lib.hid hsz;have hcap:=hc.1;have hmx:=hc.2.1;unfold maxLen at hmx;clear hn hA hsz hc
 by_cases h40:40<n
 ·have HV:Hid (qaO l=1):=by unfold Hid qaO;rw [HN.out,if_pos h40]
  go_enter Tryz.func23,Tryz.ntmps23;go_wp2_with fail;go_ret;exact ⟨qaV (by rw [HV.out]),Below.refl _ _⟩
 ·have HT:Hid (qaO l=qc4 [] l):=by unfold Hid qaO;rw [HN.out,if_neg h40]
  have h41:n≤40:=by omega
  have hmk: ∀W:World,(Instr.makeMap 91 none).run Tryz.prog W= .ok (.map (some W.heap.size)) (W.alloc (.map #[] 0)):=fun W=>rfl;have HM0:=Lib.hid (MapN.new w);go_enter Tryz.func23,Tryz.ntmps23;go_wp2_with fail
  go_loopw [16] (fun i wr=> ∃k:Nat,k≤n∧i= .int .i64 k∧Hid (qc4 [] (l.take k)=0)∧Hid (MapN wr w.heap.size (l.take k))∧Hid (Below w.heap.size w wr)) (fun i _=>n-(intOf i).toNat)
  case atStart=>exact ⟨0,Nat.zero_le _,rfl,by unfold Hid;rw [List.take_zero];rfl,by unfold Hid;rw [List.take_zero];exact HM0.out,qaL (Below.refl _ _) _⟩
  case round=>
   obtain ⟨k,hk,rfl,HW,HM,HB⟩:=hrel
   by_cases hlt:k<n
   ·have hk1:k<l.length:=by rw [HN.out];exact hlt
    obtain ⟨b,o,D,cc,rfl,c0,c1,c2',c3,⟨c4,c5,c6,c7,c8,c9,cA⟩,cB,-,hD⟩:=(HA.out.below HB.out).cells k hk1;have hb1:b<wr.heap.size:=World.block_lt_of_cell? wr _ c0;have hxsz:=HSZ.out _ (List.getElem_mem hk1);have HST:=Lib.hid fun he=>qz1 l k hk1 HW.out he;have HSP:=Lib.hid fun he=>qz2 l k hk1 HW.out he;have HTK:Hid (l.take (k+1)=l.take k++ [l[k]]):=List.take_succ_eq_append_getElem hk1;generalize hx:l[k]=x at*;have HNd:=Lib.hid fun W=>q8R x D cc hxsz W;unfold nodC at HNd;have HD:=Lib.hid hD;have hps:(bs x.path).size≤140737488351232:=by rw [qaC];exact hxsz.1.1
    clear hD hxsz;go_upto_region 7 with fail
    have HBl:=Lib.hid (Blk.new wr 49 (nodA x D cc));have HBa:Hid (Below wr.heap.size wr (wr.alloc (.cells (nodA x D cc) 49))):=(Below.refl _ _).alloc (Nat.le_refl _) _;unfold nodA at HBl HBa;generalize hwa:wr.alloc _=wa at HBl HBa⊢;obtain ⟨e0,e1,e2,e3,e4,e5,e6,e7,e8,e9,eA,eB⟩:=qbC HBl.out;clear hwa c0 c1 c2' c3 c4 c5 c6 c7 c8 c9 cA cB
    by_cases hne:nodE x=0
    ·rw [hne]at HNd;go_wp2_with fail;refine (HNd.out _).mono ?_;rintro e' w4 ⟨rfl,hb4⟩;have HS4:Hid (RdS w wr wr.heap.size x D cc w4):=⟨HBl.out.below hb4 HBl.out.lt,HBa.out.trans (hb4.mono HBa.out.size)⟩;clear hb4 e0 e1 e2 e3 e4 e5 e6 e7 e8 e9 eA eB;go_upto_region 10 with fail
     obtain ⟨q,hq⟩: ∃q:Bool,q=(match (l.take k).getLast? with|some y=> !decide (pcmp y.path x.path= -1)|none=>false):=⟨_,rfl⟩;have HQ:=Lib.hid hq;clear hq
     go_cut [39] (fun s39 wx=>s39= .bool q∧RdS w wr wr.heap.size x D cc wx)
     case first=>
      by_cases hk0:0<k
      ·have hd0:decide (0<k)=true:=decide_eq_true hk0;obtain ⟨k1,hk1'⟩: ∃k1,k1=k-1:=⟨_,rfl⟩;have hsub:IntKind.i64.wrap ((k:Int) -1)=(k1:Int):=by rw [IntKind.wrap_i64];omega
       have hk2:k1<l.length:=by omega
       obtain ⟨b',o',D',cc',e',f0,-⟩:=(HA.out.below (HB.out.trans (HS4.out.2.mono HB.out.size))).cells k1 hk2;injection e' with e'
       injection e' with e1' e2' _
       subst e1' e2';have hlast:(l.take k).getLast?=some l[k1]:=(q54 l k (by omega) l[k1]).2 ⟨hk0,by simp only [hk1']⟩;have hps2:(bs l[k1].path).size≤400:=by rw [qaC];exact qe1 (((qhC _).1 HW.out).node _ (List.mem_take_iff_getElem.2 ⟨k1,by omega,rfl⟩))
       have hps3:(bs x.path).size≤400:=by rw [qaC];exact qe1 hne
       have HO:=Lib.hid fun W=>qs3 (bs l[k1].path) (bs x.path) hps2 hps3 W;rw [qaF,qaF]at HO;have hq2:=HQ.out;rw [hlast]at hq2;simp only at hq2;have hpb:=qj7 l[k1].path x.path;obtain ⟨pc,hpc⟩: ∃pc,pc=pcmp l[k1].path x.path:=⟨_,rfl⟩;rw [←hpc]at HO hq2 hpb
       have HQ2:Hid (decide (0≤pc)=q):=by
        unfold Hid;rw [hq2];rcases (show pc= -1∨0≤pc by omega)with e|e
        ·subst e;rfl
        ·have e2:pc≠ -1:=by omega
         simp [e,e2]
       obtain ⟨P,hP⟩:=qaA (bs l[k1].path);obtain ⟨X,hX⟩:=qaA (bs x.path);rw [hP.out,hX.out]at HO;rw [hP.out]at f0 hps2;rw [hX.out]at hps hps3;have hS0:RdP w wr wr.heap.size x D cc b (o+k1*12) P w4:=⟨HS4.out,f0⟩;have r0: ∀W:World,RdP w wr wr.heap.size x D cc b (o+k1*12) P W→W.cell? ⟨wr.heap.size,0,none⟩=some (.string X):=fun W h=>by rw [←hX.out];exact (qbC h.1.1).1.1
       have r1: ∀W:World,RdP w wr wr.heap.size x D cc b (o+k1*12) P W→W.cell? ⟨b,o+k1*12,none⟩=some (.string P):=fun W h=>h.2;have hk1n:(k1:Int)<(n:Int):=by omega
       have hk10:(0:Int)≤(k1:Int):=by omega
       clear hq2 hlast hpc hpb hk1' f0
       go_region_held3 (fun W=>RdP w wr wr.heap.size x D cc b (o+k1*12) P W)
        (first
         |(with_reducible assumption)
         |(with_reducible refine RdP.drew ?_;with_reducible assumption)
         |(with_reducible exact RdP.below (by with_reducible assumption) (by with_reducible assumption)))
        (first
         |(go_at_call 65;refine (HO.out _).mono ?_;rintro e w5 ⟨rfl,hbO⟩))
       all_goals
        go_wp2_with fail;go_meet;exact ⟨by rw [HQ2.out],(RdP.below hS0.drew hbO).1⟩
      ·have hd0:decide (0<k)=false:=decide_eq_false hk0;have hq2:=HQ.out;have hk00:k=0:=by omega
       rw [show (l.take k).getLast?=none by rw [hk00];simp]at hq2;simp only at hq2;subst hq2;clear hk00;go_quiet (fail);go_wp2_with fail;go_meet;exact ⟨rfl,HS4.out.drewN _⟩
     case rest=>
      obtain ⟨rfl,hSc⟩:=hcut;have HSc:=Lib.hid hSc;clear hSc HS4;have HSnd:=Lib.hid ((qhC _).1 HW.out);cases q with
      |true=>
       have HV:Hid (qaO l=6):=by
        unfold Hid
        have ha:atE (l.take k) x=6:=by
         have h0:=HQ.out;cases e:(l.take k).getLast? with
         |none=>rw [e]at h0;cases h0
         |some y=>rw [e]at h0;exact q8F hne y e (by simpa using h0)
        rw [HT.out,HST.out (by rw [ha];decide),ha]
       go_wp2_with fail;go_ret;exact ⟨qaV (by rw [HV.out]),HB.out.trans (HSc.out.2.mono HB.out.size)⟩
      |false=>
       have HL:Hid (∀y,(l.take k).getLast?=some y→pcmp y.path x.path= -1):=fun y e=>by
        have h0:=HQ.out;rw [e]at h0;simpa using h0.symm
       have hx4:=qe1 hne;have HPs:=Lib.hid fun W=>q8O (bs x.path) W (by rw [qaC];omega);rw [qaF]at HPs;obtain ⟨X,hX⟩:=qaA (bs x.path);rw [hX.out]at HPs;obtain ⟨⟨c0,-⟩,-⟩:=qbC HSc.out.1;rw [hX.out]at c0;go_upto_region 12 with fail
       go_wp2_with fail;refine (HPs.out _).mono ?_;rintro e' w5 ⟨rfl,hb5⟩;have HS5:=Lib.hid (HSc.out.below hb5);clear hb5 c0;obtain ⟨U,hU⟩:=qaA (⟨(upL x.path).toArray⟩:ByteArray);rw [hU.out];have hUl:upL x.path=U.data.toList:=by rw [←hU.out]
       have hb5:Below w5.heap.size w5 (w5.drew.alloc (.cells #[.string U] 9)):=((Below.refl w5.heap.size w5).drew).alloc (Nat.le_refl _) _;have HCt:=Lib.hid (qvU U w5.heap.size (some ⟨b,o,none⟩) k c (l.take k) (by rw [List.length_take];omega) (by omega) (fun y hy=>HSZ.out y (List.mem_of_mem_take hy)) (w5.drew.alloc (.cells #[.string U] 9)) (Blk.new w5.drew 9 #[.string U]|>.cell 0) (((HA.out.below (HB.out.trans (HS5.out.2.mono HB.out.size))).take k).below hb5));have HB5:=Lib.hid hb5;clear hb5;obtain ⟨q2,hq2⟩: ∃q2:Bool,upOk (l.take k) x.path= !q2:=⟨!upOk (l.take k) x.path,by simp⟩;have HQ2:=Lib.hid hq2;have HU:Hid (upOk (l.take k) x.path=(decide (upL x.path= [])||(l.take k).any fun n=>decide (n.path=U.data.toList) &&decide (n.kind=2))):=by unfold Hid upOk;rw [hUl]
       rw [hq2]at HU;clear hq2;go_upto_region 13 with fail
       go_cut [53] (fun s53 wx=>s53= .bool q2∧RdS w wr wr.heap.size x D cc wx)
       case first=>
        by_cases hu0:upL x.path= []
        ·have hu1:=HU.out;rw [decide_eq_true hu0,Bool.true_or]at hu1;obtain rfl:q2=false:=by revert hu1;cases q2<;>decide
         have hun:U.toList= []:=by rw [ByteArray.toList_eq,←hUl];exact hu0
         have hun2:(U.toList != [])=false:=by simp [hun]
         clear hu1 hu0 HCt hUl;go_quiet (fail);go_wp2_with fail;go_meet;exact ⟨rfl,HS5.out.drewN _⟩
        ·have hu1:=HU.out;rw [decide_eq_false hu0,Bool.false_or]at hu1;have hun: ¬U.toList= []:=fun e=>hu0 (by rw [hUl,←ByteArray.toList_eq];exact e);have hun2:(U.toList != [])=true:=by simpa using hun
         have hun3:(U.toList== [])=false:=by simpa using hun
         have hun4:decide (U.toList= [])=false:=by simpa using hun
         rw [←hu1]at HCt;clear hu1 hu0 hUl HU
         go_region_with
          (first
           |(go_at_call 68;refine (q2J _ _).mono ?_;rintro e w6 ⟨rfl,rfl⟩)
           |(go_at_call 67;refine HCt.out.mono ?_;rintro e w7 ⟨rfl,hb7⟩))
         all_goals
          go_wp2_with fail;go_meet;exact ⟨by simp,(HS5.out.below HB5.out).below hb7⟩
       case rest=>
        obtain ⟨rfl,hSd⟩:=hcut;have HSd:=Lib.hid hSd;clear hSd HS5 HCt HB5 hUl;cases q2 with
        |true=>
         have HV:Hid (qaO l=10):=by
          unfold Hid;have ha:atE (l.take k) x=10:=atE_up hne HL.out (by rw [HQ2.out];rfl);rw [HT.out,HST.out (by rw [ha];decide),ha]
         go_wp2_with fail;go_ret;exact ⟨qaV (by rw [HV.out]),HB.out.trans (HSd.out.2.mono HB.out.size)⟩
        |false=>
         have HUp:Hid (upOk (l.take k) x.path=true):=by unfold Hid;rw [HQ2.out];rfl
         obtain ⟨⟨c0,c1,c2',c3,c4,c5,c6,c7,c8,c9,cA,cB⟩,-⟩:=qbC HSd.out.1;go_upto_region 15 with fail
         by_cases hs0:x.same=0
         ·have HV:Hid (qc4 [] (l.take (k+1))=0):=HSP.out ((qgB _ _).2 ⟨hne,HL.out,HUp.out,qiH hs0⟩)
          have HMn:Hid (MapN wc w.heap.size (l.take (k+1))):=by
           unfold Hid;rw [HTK.out];exact (HSd.out.map HM.out).skip x hs0
          have hs1:(x.same==0)=true:=by simp [hs0]
          clear hs0;go_wp2_with fail;go_roundw
          case rel=>exact ⟨k+1,by omega,by go_num,HV,HMn,HB.out.trans (HSd.out.2.mono HB.out.size)⟩
          case measure=>simp [intOf];omega
         ·have hs1:(x.same==0)=false:=by simpa using hs0
          have HMd:=Lib.hid (HSd.out.map HM.out);have hB0:w.heap.size≤wr.heap.size:=HB.out.size;rcases HMd.out.look x.same with ⟨y,E,d,hy,hys,hE,hlk⟩|⟨hno,hlk⟩
          ·have HLk:=Lib.hid (q1I HSnd.out hy hys hs0);have HI:=Lib.hid fun W h h'=>q1V y x E D d cc W h h';have HE:=Lib.hid hE;unfold nodC at hlk HI;obtain ⟨r,hr⟩: ∃r:Bool,r=(decide (y.md=x.md) &&decide (y.data=x.data)):=⟨_,rfl⟩;rw [←hr]at HLk HI;clear hr hE hy hys;go_upto_region 17 with fail
           have HBl2:=Lib.hid (Blk.new wc 49 (nodA y E d));have HBb:Hid (Below wc.heap.size wc (wc.alloc (.cells (nodA y E d) 49))):=(Below.refl _ _).alloc (Nat.le_refl _) _;unfold nodA at HBl2 HBb;generalize hwb:wc.alloc _=wb at HBl2 HBb⊢;have HSb:=Lib.hid (HSd.out.below HBb.out);clear hwb c0 c1 c2' c3 c4 c5 c6 c7 c8 c9 cA cB hlk;obtain ⟨⟨c0,c1,c2',c3,c4,c5,c6,c7,c8,c9,cA,cB⟩,-⟩:=qbC HSb.out.1;obtain ⟨⟨g0,g1,g2,g3,g4,g5,g6,g7,g8,g9,gA,gB⟩,-⟩:=qbC HBl2.out;have HIw:=Lib.hid (HI.out wb (HE.out.below HBb.out) (HD.out.below HSb.out.2));cases r with
           |true=>
            have HV:Hid (qc4 [] (l.take (k+1))=0):=HSP.out ((qgB _ _).2 ⟨hne,HL.out,HUp.out,by rw [HLk.out];rfl⟩);go_wp2_with fail;refine HIw.out.mono ?_;rintro e w8 ⟨rfl,hb8⟩;have HS8:=Lib.hid (HSb.out.below hb8);clear c0 c1 c2' c3 c4 c5 c6 c7 c8 c9 cA cB g0 g1 g2 g3 g4 g5 g6 g7 g8 g9 gA gB hb8;obtain ⟨⟨c0,c1,c2',c3,c4,c5,c6,c7,c8,c9,cA,cB⟩,-⟩:=qbC HS8.out.1;obtain ⟨w9,hput,hbel,-,hmp⟩:=(HS8.out.map HM.out).put x D cc (HD.out.below HS8.out.2);rw [←HTK.out]at hmp;have HM9:=Lib.hid hmp;have HB9:=Lib.hid (hbel w _ (Nat.le_refl _) (HB.out.trans (HS8.out.2.mono HB.out.size)));unfold nodC at hput;clear hmp hbel;go_wp2_with fail;go_roundw
            case rel=>exact ⟨k+1,by omega,by go_num,HV,HM9,HB9⟩
            case measure=>simp [intOf];omega
           |false=>
            have HV:Hid (qaO l=11):=by
             unfold Hid;have ha:atE (l.take k) x=11:=zcX hne HL.out HUp.out (by rw [HLk.out];rfl);rw [HT.out,HST.out (by rw [ha];decide),ha]
            go_wp2_with fail;refine HIw.out.mono ?_;rintro e w8 ⟨rfl,hb8⟩;have HS8:=Lib.hid (HSb.out.below hb8);clear c0 c1 c2' c3 c4 c5 c6 c7 c8 c9 cA cB g0 g1 g2 g3 g4 g5 g6 g7 g8 g9 gA gB hb8;go_wp2_with fail;go_ret;exact ⟨qaV (by rw [HV.out]),HB.out.trans (HS8.out.2.mono HB.out.size)⟩
          ·have HV:Hid (qc4 [] (l.take (k+1))=0):=HSP.out ((qgB _ _).2 ⟨hne,HL.out,HUp.out,qw9 (fun y hy e=>hno y hy (by rw [e];exact hs0) e)⟩);unfold nodC at hlk;clear hno;go_upto_region 17 with fail
           generalize hwb:wc.alloc _=wb;have HBb:Hid (Below wc.heap.size wc wb):=by rw [←hwb];exact (Below.refl _ _).alloc (Nat.le_refl _) _
           have HSb:=Lib.hid (HSd.out.below HBb.out);clear hwb c0 c1 c2' c3 c4 c5 c6 c7 c8 c9 cA cB hlk;obtain ⟨⟨c0,c1,c2',c3,c4,c5,c6,c7,c8,c9,cA,cB⟩,-⟩:=qbC HSb.out.1;obtain ⟨w9,hput,hbel,-,hmp⟩:=(HSb.out.map HM.out).put x D cc (HD.out.below HSb.out.2);rw [←HTK.out]at hmp;have HM9:=Lib.hid hmp;have HB9:=Lib.hid (hbel w _ (Nat.le_refl _) (HB.out.trans (HSb.out.2.mono HB.out.size)));unfold nodC at hput;clear hmp hbel;go_wp2_with fail;go_roundw
           case rel=>exact ⟨k+1,by omega,by go_num,HV,HM9,HB9⟩
           case measure=>simp [intOf];omega
    ·have hne2:(nodE x !=0)=true:=by simpa using hne
     have HV:Hid (qaO l=nodE x):=by
      unfold Hid;have ha:=zcW (t:=l.take k) hne;rw [HT.out,HST.out (by rw [ha];exact hne),ha]
     generalize nodE x=ex at*;clear hne;go_wp2_with fail;refine (HNd.out _).mono ?_;rintro e' w4 ⟨rfl,hb4⟩;have HB4:=Lib.hid (HB.out.trans ((HBa.out.trans (hb4.mono HBa.out.size)).mono HB.out.size));clear hb4 e0 e1 e2 e3 e4 e5 e6 e7 e8 e9 eA eB;go_wp2_with fail;go_ret;exact ⟨qaV (by rw [HV.out]),HB4.out⟩
   ·obtain rfl:k=n:=by omega
    have HV:Hid (qaO l=0):=by
     have:=HW.out;rw [List.take_of_length_le (by rw [HN.out];omega)]at this;unfold Hid;rw [HT.out,this]
    go_wp2_with fail;go_ret;exact ⟨qaV (by rw [HV.out]),HB.out⟩
end Go.Proofs.YtapgoifimhnbdaaGreatDoor
