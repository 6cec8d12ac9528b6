/- qaV of one kind, in one file: StpD, StpE. -/
import Derived.Test.YtapgoifimhnbdaaGreatDoorStp
import Derived.Deep.DeepCutAuto
import Derived.Deep.CutBlock
import Derived.IntWalk
set_option linter.unusedVariables false
set_option maxRecDepth 100000
namespace Go.Proofs.YtapgoifimhnbdaaGreatDoor
open Go.RowKit
open Go.OpenShut
theorem qk2 (l:List UInt8):Lib.hasPrefix l [45]=qd7 l:=by
 cases l with
 |nil=>rfl
 |cons c r=>show (45==c&&List.isPrefixOf [] r)=(c==45);simp [Bool.beq_comm]
theorem qpT (l:List UInt8):Lib.trimPrefix l [45]=qbD l:=by
 unfold Lib.trimPrefix qbD;rw [qk2];rfl
theorem qyP {l:List UInt8} (h:numO (Lib.atoiAll (qgJ (qbD l)))=none∨qjD (qn1 (qbD l))=none):qeL l=none:=by
 unfold qeL;rcases h with h|h
 ·rw [h]
 ·rw [h];cases numO (Lib.atoiAll (qgJ (qbD l)))<;>rfl
theorem quT {l:List UInt8} {a b:Int} (h1:numO (Lib.atoiAll (qgJ (qbD l)))=some a) (h2:qjD (qn1 (qbD l))=some b):qeL l=some (if qd7 l=true then negV a b else (a,b)):=by
 unfold qeL;rw [h1,h2]
theorem q0M (l:List UInt8):(qbD l).length≤l.length:=by
 unfold qbD;split
 ·rw [List.length_drop];omega
 ·exact Nat.le_refl _
theorem numO_bd {l:List UInt8} {a:Int} (h:numO (Lib.atoiAll l)=some a): -9223372036854775808≤a∧a≤9223372036854775807:=by
 rcases ha:Lib.atoiAll l with x|_|_
 ·rw [ha]at h;obtain rfl:x=a:=Option.some.inj h;exact Lib.atoiAll_bounds ha
 ·rw [ha]at h;cases h
 ·rw [ha]at h;cases h
theorem qxY (l:List UInt8) (a b:Int) (h:qeL l=some (a,b)):
  (qcD a b=(bs l,0)∧qa8 l=(a,b,0))∨((qcD a b).2≠0∧qa8 l=(0,0,3))∨((qcD a b).2=0∧(qcD a b).1≠bs l∧qa8 l=(0,0,3)):=by
 cases hi:inT a b
 ·refine .inr (.inl ⟨by rw [qlC hi];decide,qlW h (by rw [hi];rintro ⟨x,_⟩;cases x)⟩)
 ·by_cases he:qc3 a b=l
  ·exact .inl ⟨by rw [qdN hi,he],qjP h hi he⟩
  ·refine .inr (.inr ⟨by rw [qdN hi],?_,qlW h (fun x=>he x.2)⟩);rw [qdN hi];intro e;exact he (congrArg (fun s:ByteArray=>s.data.toList) e)
set_option maxHeartbeats 1600000 in
theorem qpX (s:ByteArray) (w:World) (S:Std w) (hs:s.size≤140737488351232):
  Calls Tryz.prog 251 #[.string s] w fun e w'=>e= .returned (.tuple #[.int .i64 (qa8 s.data.toList).1,.int .i64 (qa8 s.data.toList).2.1,.int .i64 (qa8 s.data.toList).2.2])∧Below w.heap.size w w':=by
 have HCP:Hid (∀W,Calls Tryz.prog 297 #[.string s,.string ⟨#[45]⟩] W fun e w'=>e= .returned (.tuple #[.string (bs (qbD s.data.toList)),.bool (qd7 s.data.toList)])∧w'=W):=fun W=>by
  have h:=Tryz.strings_CutPrefix s ⟨#[45]⟩ W;rw [show (⟨#[45]⟩:ByteArray).data.toList= [45]from rfl,qk2,qpT]at h;exact h
 have hzl:=q0M s.data.toList;rw [qaD]at hzl;have hcut:=fun W=>qrN (bs (qbD s.data.toList)) 46 W (by unfold maxLen;rw [qaB];omega);rw [qaH]at hcut;have hwl:(qgJ (qbD s.data.toList)).length≤140737488351232:=by unfold qgJ;rw [List.length_take];omega
 have hdl:(qn1 (qbD s.data.toList)).length≤140737488351232:=by unfold qn1;rw [List.length_drop];omega
 have HC:Hid (∀W,Calls Tryz.prog 294 #[.string (bs (qbD s.data.toList)),.string ⟨#[46]⟩] W fun e w'=>e= .returned (.tuple #[.string (bs (qgJ (qbD s.data.toList))),.string (bs (qn1 (qbD s.data.toList))),.bool (hasB 46 (qbD s.data.toList))])∧ ∃n,w'=W.drewN n):=hcut;have HN1:= @qyP s.data.toList;have HN2:= @quT s.data.toList;have HT:=qxY s.data.toList;rw [qcJ]at HT;generalize hf:hasB 46 (qbD s.data.toList)=fnd at HC;generalize hZ:bs (qbD s.data.toList)=Z at HC HCP;generalize hW:bs (qgJ (qbD s.data.toList))=W0 at HC;generalize hD:bs (qn1 (qbD s.data.toList))=D0 at HC;rw [show qgJ (qbD s.data.toList)=W0.data.toList by rw [←hW,qaH]]at hwl HN1 HN2;rw [show qn1 (qbD s.data.toList)=D0.data.toList by rw [←hD,qaH]]at hdl HN1 HN2;rw [qaD]at hwl hdl;have HNN:=fun h=>qlV (HN1 h);clear hcut hzl hf hZ hW hD HN1;generalize hq:qd7 s.data.toList=neg at*;generalize hq2:qa8 s.data.toList=tp at*;generalize hq3:qeL s.data.toList=po at*;clear hq hq2 hq3;have HPF:=Lib.hid fun W S=>qj3 D0 W S (by unfold maxLen;omega);cases hA:numO (Lib.atoiAll W0.data.toList)with
 |none=>
  have HA:=Lib.hid fun W S=>q4H W0 W S (by omega) hA;obtain rfl:=HNN (.inl hA);clear HN2 HNN HT hA;go_enter Tryz.func251,Tryz.ntmps251;go_wp2_with fail;refine (HCP.out _).mono ?_;rintro e w1 ⟨rfl,rfl⟩;go_wp2_with fail;refine (HC.out _).mono ?_;rintro e w1 ⟨rfl,n1,rfl⟩;go_wp2_with fail;refine (HA.out _ (S.drewN n1)).mono ?_;rintro e w2 ⟨⟨x,N,rfl⟩,hb2⟩;have S2:=(S.drewN n1).below hb2;have HB2:Hid (Below w1.heap.size w1 w2):=(below_drewN (Below.refl _ _) n1).trans hb2;clear hb2;go_wp2_with fail;refine (HPF.out _ S2).mono ?_;rintro e w3 ⟨⟨y,rfl,-⟩,hb3⟩;have HB3:=Lib.hid (HB2.out.trans (hb3.mono HB2.out.size));clear hb3;go_wp2_with fail
  go_ret3
  exact ⟨rfl,HB3.out⟩
 |some a=>
  have HA:=Lib.hid fun W=>qvX W0 a W (by omega) hA;obtain ⟨ab1,ab2⟩:=numO_bd hA;cases hB:qjD D0.data.toList with
  |none=>
   rw [hB]at HPF;obtain rfl:=HNN (.inr hB);clear HN2 HNN HT hA hB;go_enter Tryz.func251,Tryz.ntmps251;go_wp2_with fail;refine (HCP.out _).mono ?_;rintro e w1 ⟨rfl,rfl⟩;go_wp2_with fail;refine (HC.out _).mono ?_;rintro e w1 ⟨rfl,n1,rfl⟩;go_wp2_with fail;refine (HA.out _).mono ?_;rintro e w2 ⟨rfl,hb2⟩;have S2:=(S.drewN n1).below hb2;have HB2:Hid (Below w1.heap.size w1 w2):=(below_drewN (Below.refl _ _) n1).trans hb2;clear hb2;go_wp2_with fail;refine (HPF.out _ S2).mono ?_;rintro e w3 ⟨⟨y,rfl,-⟩,hb3⟩;have HB3:=Lib.hid (HB2.out.trans (hb3.mono HB2.out.size));clear hb3;go_wp2_with fail
   go_ret3
   exact ⟨rfl,HB3.out⟩
  |some b=>
   have HPB:=Lib.hid HPF.out;rw [hB]at HPB;obtain ⟨bb1,bb2⟩:=q6P _ b hB;have hpo:=HN2 hA hB;clear HN2 HNN hA hB HPF;cases neg with
   |false=>
    rw [if_neg (by decide)]at hpo;have ht:=HT a b hpo;have HTx:=Lib.hid fun W T=>qrL a b W T;clear HT hpo;generalize qcD a b=tt at ht HTx;obtain ⟨t,te⟩:=tt;rcases ht with ⟨e1,rfl⟩|⟨e1,rfl⟩|⟨e1,e2,rfl⟩
    ·obtain ⟨rfl,rfl⟩:=Prod.mk.inj e1;go_enter Tryz.func251,Tryz.ntmps251;go_wp2_with fail;refine (HCP.out _).mono ?_;rintro e w1 ⟨rfl,rfl⟩;go_wp2_with fail;refine (HC.out _).mono ?_;rintro e w1 ⟨rfl,n1,rfl⟩;go_wp2_with fail;refine (HA.out _).mono ?_;rintro e w2 ⟨rfl,hb2⟩;have S2:=(S.drewN n1).below hb2;have HB2:Hid (Below w1.heap.size w1 w2):=(below_drewN (Below.refl _ _) n1).trans hb2;clear hb2;go_wp2_with fail;refine (HPB.out _ S2).mono ?_;rintro e w3 ⟨⟨y,rfl,hy⟩,hb3⟩;obtain rfl:=hy b rfl;have T3:=(S2.below hb3).tab;have HB3:=Lib.hid (HB2.out.trans (hb3.mono HB2.out.size));clear hb3 hy S2;go_wp2_with fail;refine (HTx.out _ T3).mono ?_;rintro e w4 ⟨rfl,hb4⟩;have HB4:=Lib.hid (HB3.out.trans (hb4.mono HB3.out.size));clear hb4;go_wp2_with fail
     go_ret3
     exact ⟨rfl,HB4.out⟩
    ·have e1':(te !=0)=true:=by simpa using e1
     clear e1;go_enter Tryz.func251,Tryz.ntmps251;go_wp2_with fail;refine (HCP.out _).mono ?_;rintro e w1 ⟨rfl,rfl⟩;go_wp2_with fail;refine (HC.out _).mono ?_;rintro e w1 ⟨rfl,n1,rfl⟩;go_wp2_with fail;refine (HA.out _).mono ?_;rintro e w2 ⟨rfl,hb2⟩;have S2:=(S.drewN n1).below hb2;have HB2:Hid (Below w1.heap.size w1 w2):=(below_drewN (Below.refl _ _) n1).trans hb2;clear hb2;go_wp2_with fail;refine (HPB.out _ S2).mono ?_;rintro e w3 ⟨⟨y,rfl,hy⟩,hb3⟩;obtain rfl:=hy b rfl;have T3:=(S2.below hb3).tab;have HB3:=Lib.hid (HB2.out.trans (hb3.mono HB2.out.size));clear hb3 hy S2;go_wp2_with fail;refine (HTx.out _ T3).mono ?_;rintro e w4 ⟨rfl,hb4⟩;have HB4:=Lib.hid (HB3.out.trans (hb4.mono HB3.out.size));clear hb4;go_wp2_with fail
     go_ret3
     exact ⟨rfl,HB4.out⟩
    ·obtain rfl:te=0:=e1;have e2':(t.toList==s.toList)=false:=by rw [qcQ];exact decide_eq_false e2
     clear e2;go_enter Tryz.func251,Tryz.ntmps251;go_wp2_with fail;refine (HCP.out _).mono ?_;rintro e w1 ⟨rfl,rfl⟩;go_wp2_with fail;refine (HC.out _).mono ?_;rintro e w1 ⟨rfl,n1,rfl⟩;go_wp2_with fail;refine (HA.out _).mono ?_;rintro e w2 ⟨rfl,hb2⟩;have S2:=(S.drewN n1).below hb2;have HB2:Hid (Below w1.heap.size w1 w2):=(below_drewN (Below.refl _ _) n1).trans hb2;clear hb2;go_wp2_with fail;refine (HPB.out _ S2).mono ?_;rintro e w3 ⟨⟨y,rfl,hy⟩,hb3⟩;obtain rfl:=hy b rfl;have T3:=(S2.below hb3).tab;have HB3:=Lib.hid (HB2.out.trans (hb3.mono HB2.out.size));clear hb3 hy S2;go_wp2_with fail;refine (HTx.out _ T3).mono ?_;rintro e w4 ⟨rfl,hb4⟩;have HB4:=Lib.hid (HB3.out.trans (hb4.mono HB3.out.size));clear hb4;go_wp2_with fail
     go_ret3
     exact ⟨rfl,HB4.out⟩
   |true=>
    rw [if_pos rfl]at hpo;have hng:=fun W=>qoW a b W ab1 ab2 (by omega) (by omega);generalize negV a b=nn at hpo hng;obtain ⟨a',b'⟩:=nn;have HNg:=Lib.hid hng;have ht:=HT a' b' hpo;have HTx:=Lib.hid fun W T=>qrL a' b' W T;clear HT hpo hng;generalize qcD a' b'=tt at ht HTx;obtain ⟨t,te⟩:=tt;rcases ht with ⟨e1,rfl⟩|⟨e1,rfl⟩|⟨e1,e2,rfl⟩
    ·obtain ⟨rfl,rfl⟩:=Prod.mk.inj e1;go_enter Tryz.func251,Tryz.ntmps251;go_wp2_with fail;refine (HCP.out _).mono ?_;rintro e w1 ⟨rfl,rfl⟩;go_wp2_with fail;refine (HC.out _).mono ?_;rintro e w1 ⟨rfl,n1,rfl⟩;go_wp2_with fail;refine (HA.out _).mono ?_;rintro e w2 ⟨rfl,hb2⟩;have S2:=(S.drewN n1).below hb2;have HB2:Hid (Below w1.heap.size w1 w2):=(below_drewN (Below.refl _ _) n1).trans hb2;clear hb2;go_wp2_with fail;refine (HPB.out _ S2).mono ?_;rintro e w3 ⟨⟨y,rfl,hy⟩,hb3⟩;obtain rfl:=hy b rfl;have T3:=(S2.below hb3).tab;have HB3:=Lib.hid (HB2.out.trans (hb3.mono HB2.out.size));clear hb3 hy S2;go_wp2_with fail;refine (HNg.out _).mono ?_;rintro e w' ⟨rfl,rfl⟩;go_wp2_with fail;refine (HTx.out _ T3).mono ?_;rintro e w4 ⟨rfl,hb4⟩;have HB4:=Lib.hid (HB3.out.trans (hb4.mono HB3.out.size));clear hb4;go_wp2_with fail
     go_ret3
     exact ⟨rfl,HB4.out⟩
    ·have e1':(te !=0)=true:=by simpa using e1
     clear e1;go_enter Tryz.func251,Tryz.ntmps251;go_wp2_with fail;refine (HCP.out _).mono ?_;rintro e w1 ⟨rfl,rfl⟩;go_wp2_with fail;refine (HC.out _).mono ?_;rintro e w1 ⟨rfl,n1,rfl⟩;go_wp2_with fail;refine (HA.out _).mono ?_;rintro e w2 ⟨rfl,hb2⟩;have S2:=(S.drewN n1).below hb2;have HB2:Hid (Below w1.heap.size w1 w2):=(below_drewN (Below.refl _ _) n1).trans hb2;clear hb2;go_wp2_with fail;refine (HPB.out _ S2).mono ?_;rintro e w3 ⟨⟨y,rfl,hy⟩,hb3⟩;obtain rfl:=hy b rfl;have T3:=(S2.below hb3).tab;have HB3:=Lib.hid (HB2.out.trans (hb3.mono HB2.out.size));clear hb3 hy S2;go_wp2_with fail;refine (HNg.out _).mono ?_;rintro e w' ⟨rfl,rfl⟩;go_wp2_with fail;refine (HTx.out _ T3).mono ?_;rintro e w4 ⟨rfl,hb4⟩;have HB4:=Lib.hid (HB3.out.trans (hb4.mono HB3.out.size));clear hb4;go_wp2_with fail
     go_ret3
     exact ⟨rfl,HB4.out⟩
    ·obtain rfl:te=0:=e1;have e2':(t.toList==s.toList)=false:=by rw [qcQ];exact decide_eq_false e2
     clear e2;go_enter Tryz.func251,Tryz.ntmps251;go_wp2_with fail;refine (HCP.out _).mono ?_;rintro e w1 ⟨rfl,rfl⟩;go_wp2_with fail;refine (HC.out _).mono ?_;rintro e w1 ⟨rfl,n1,rfl⟩;go_wp2_with fail;refine (HA.out _).mono ?_;rintro e w2 ⟨rfl,hb2⟩;have S2:=(S.drewN n1).below hb2;have HB2:Hid (Below w1.heap.size w1 w2):=(below_drewN (Below.refl _ _) n1).trans hb2;clear hb2;go_wp2_with fail;refine (HPB.out _ S2).mono ?_;rintro e w3 ⟨⟨y,rfl,hy⟩,hb3⟩;obtain rfl:=hy b rfl;have T3:=(S2.below hb3).tab;have HB3:=Lib.hid (HB2.out.trans (hb3.mono HB2.out.size));clear hb3 hy S2;go_wp2_with fail;refine (HNg.out _).mono ?_;rintro e w' ⟨rfl,rfl⟩;go_wp2_with fail;refine (HTx.out _ T3).mono ?_;rintro e w4 ⟨rfl,hb4⟩;have HB4:=Lib.hid (HB3.out.trans (hb4.mono HB3.out.size));clear hb4;go_wp2_with fail
     go_ret3
     exact ⟨rfl,HB4.out⟩
theorem qeH (l:List UInt8) (a b:Int) (h:refV l=(a,b)):
  (qcD a b=(bs l,0)∧qa8 l=(a,b,0))∨((qcD a b).2≠0∧qa8 l=(0,0,3))∨((qcD a b).2=0∧(qcD a b).1≠bs l∧qa8 l=(0,0,3)):=by
 have hr:=qxV l;rw [h]at hr;cases hi:inT a b
 ·refine .inr (.inl ⟨by rw [qlC hi];decide,?_⟩);rw [hr,if_neg];rintro ⟨x,_⟩;rw [hi]at x;cases x
 ·by_cases he:qc3 a b=l
  ·exact .inl ⟨by rw [qdN hi,he],by rw [hr,if_pos ⟨hi,he⟩]⟩
  ·refine .inr (.inr ⟨by rw [qdN hi],?_,by rw [hr,if_neg (fun x=>he x.2)]⟩);rw [qdN hi];intro e;exact he (congrArg (fun s:ByteArray=>s.data.toList) e)
theorem qeA (R:ByteArray) (k:Nat) (h:k<R.size):R.data.toList.drop k=R[k]::R.data.toList.drop (k+1):=by
 rw [List.drop_eq_getElem_cons (by simpa using h)];rfl
theorem qhN (f acc:Nat) (l:List UInt8) (h: ∀c r,l=c::r→isD c=false):qbL f acc l=(acc,l):=by
 cases f with
 |zero=>rfl
 |succ f=>
  cases l with
  |nil=>rfl
  |cons c r=>rw [qbL,if_neg (by rw [h c r rfl];decide)]
theorem qwJ (k acc:Nat) (c:UInt8) (r:List UInt8) (hk:k<14) (hc:isD c=true):qbL (14-k) acc (c::r)=qbL (14-(k+1)) (10*acc+(c.toNat-48)) r:=by
 rw [show 14-k=(14-(k+1))+1 by omega,qbL,if_pos hc]
theorem qqS {c:UInt8} (h1:48≤c.toNat) (h2:c.toNat≤57):isD c=true:=decide_eq_true ⟨h1,h2⟩
theorem qw1 {c:UInt8} (h: ¬(48≤c.toNat∧c.toNat≤57)):isD c=false:=decide_eq_false h
theorem qdD (j acc:Nat) (l:List UInt8) (h:j=0∨ ∀c r,l=c::r→isD c=false):qdB j acc l=acc:=by
 cases j with
 |zero=>rfl
 |succ j=>
  cases l with
  |nil=>rfl
  |cons c r=>
   rcases h with h|h
   ·cases h
   ·rw [qdB,if_neg (by rw [h c r rfl];decide)]
theorem q07 (j acc:Nat) (l:List UInt8) (h:acc+10^j≤1000000000):qdB j acc l<1000000000:=by
 induction j generalizing acc l with
 |zero=>simp only [qdB];rw [Nat.pow_zero]at h;omega
 |succ j ih=>
  have hp:=qcR j;rw [Nat.pow_succ]at h;cases l with
  |nil=>simp only [qdB];omega
  |cons c r=>
   rw [qdB]
   split
   ·rename_i hc;have hc2:=(of_decide_eq_true hc).2;have:10^j*(c.toNat-48)≤10^j*9:=Nat.mul_le_mul_left _ (by omega);exact ih _ _ (by omega)
   ·omega
theorem q5D (f acc k:Nat) (l:List UInt8) (h:acc<10^k):(qbL f acc l).1<10^(k+f):=by
 induction f generalizing acc k l with
 |zero=>simpa [qbL]using h
 |succ f ih=>
  have hle:10^k≤10^(k+(f+1)):=Nat.pow_le_pow_right (by omega) (by omega);cases l with
  |nil=>simp only [qbL];omega
  |cons c r=>
   rw [qbL]
   split
   ·rename_i hc;have hc2:=(of_decide_eq_true hc).2;have:=ih (10*acc+(c.toNat-48)) (k+1) r (by rw [Nat.pow_succ];omega);rw [show k+1+f=k+(f+1) by omega]at this;exact this
   ·show acc<_;omega
theorem qnS (l:List UInt8):qbK l<1000000000:=by
 cases l with
 |nil=>decide
 |cons c r=>
  rw [qbK];split
  ·exact q07 9 0 r (by decide)
  ·omega
theorem quG {l:List UInt8} {acc:Nat} (hm:qd7 l=true) (h1:(qbL 14 0 (qbD l)).1=acc) (h2:qbK (qbL 14 0 (qbD l)).2=0):refV l=(-(acc:Int),0):=by
 unfold refV;rw [if_pos hm,if_pos h2,h1]
theorem refV_m1 {l:List UInt8} {acc x:Nat} (hm:qd7 l=true) (h1:(qbL 14 0 (qbD l)).1=acc) (h2:qbK (qbL 14 0 (qbD l)).2=x) (hx:1≤x):refV l=(-(acc:Int) -1,1000000000-(x:Int)):=by
 unfold refV;rw [if_pos hm,h2,if_neg (by omega),h1]
theorem q00 {l:List UInt8} {acc x:Nat} (hm:qd7 l=false) (h1:(qbL 14 0 (qbD l)).1=acc) (h2:qbK (qbL 14 0 (qbD l)).2=x):refV l=((acc:Int),(x:Int)):=by
 unfold refV;rw [if_neg (by rw [hm];decide),h1,h2]
set_option maxHeartbeats 4000000 in
theorem quC (s:ByteArray) (w:World) (T:Tab w) (hs:s.size≤maxLen):
  Calls Tryz.prog 175 #[.string s] w fun e w'=>e= .returned (.tuple #[.int .i64 (qa8 s.data.toList).1,.int .i64 (qa8 s.data.toList).2.1,.int .i64 (qa8 s.data.toList).2.2])∧Below w.heap.size w w':=by
 unfold maxLen at hs
 have hlt14:(qbL 14 0 (qbD s.data.toList)).1<100000000000000:=by
  have:=q5D 14 0 0 (qbD s.data.toList) (by decide);rw [show (10:Nat) ^(0+14)=100000000000000 by decide]at this;exact this
 by_cases h0:s.data.toList= []
 ·have e0:s.toList= []:=by rw [ByteArray.toList_eq];exact h0
  have hsz0:s.size=0:=by rw [←qaD,h0];rfl
  have HM:Hid (qd7 s.data.toList=false):=by unfold Hid;rw [h0];rfl
  have hR:Hid (qbL 14 0 (qbD s.data.toList)=((0:Nat), [])):=by unfold Hid;rw [h0];rfl
  have HX:Hid (qbK []=0):=rfl;clear h0;go_enter Tryz.func175,Tryz.ntmps175
  go_upto_block 0 with fail
  go_cut [7,8] (fun s7 s8 wx=>s7= .int .i64 0∧s8= .int .i64 0∧wx=w)
  case first=>
   go_wp2_with fail
   go_loop [7,8] (fun o i=>o= .int .i64 0∧i= .int .i64 0) (fun _ _=>0)
   case atStart=>exact ⟨rfl,rfl⟩
   case round=>
    obtain ⟨rfl,rfl⟩:=hrel;go_wp2_with fail;go_meet;exact ⟨rfl,rfl,rfl⟩
  case rest=>
   obtain ⟨rfl,rfl,rfl⟩:=hcut;clear e0;have hv:refV s.data.toList=(((0:Nat):Int),((0:Nat):Int)):=by unfold refV;rw [if_neg (by rw [HM.out];decide),hR.out];rfl
   have ht:=qeH _ _ _ hv;have HTx:=Lib.hid fun W T=>qbP (((0:Nat):Int)) (((0:Nat):Int)) W T;rw [qcJ]at ht;clear hv;generalize qcD (((0:Nat):Int)) (((0:Nat):Int))=tt at ht HTx;obtain ⟨t,te⟩:=tt;rcases ht with ⟨e1,e3⟩|⟨e1,e3⟩|⟨e1,e2,e3⟩
   ·have HTP:=Lib.hid e3;clear e3;obtain ⟨rfl,rfl⟩:=Prod.mk.inj e1;go_wp2_with fail;refine (HTx.out _ T).mono ?_;rintro e w4 ⟨rfl,hb4⟩;have HB4:=Lib.hid hb4;clear hb4;go_wp2_with fail
    go_ret3
    exact ⟨by rw [HTP.out];rfl,HB4.out⟩
   ·have e1':(te !=0)=true:=by simpa using e1
    have HTP:=Lib.hid e3;clear e1 e3;go_wp2_with fail;refine (HTx.out _ T).mono ?_;rintro e w4 ⟨rfl,hb4⟩;have HB4:=Lib.hid hb4;clear hb4;go_wp2_with fail
    go_ret3
    exact ⟨by rw [HTP.out];rfl,HB4.out⟩
   ·obtain rfl:te=0:=e1;have e2':(t.toList==s.toList)=false:=by rw [qcQ];exact decide_eq_false e2
    have HTP:=Lib.hid e3;clear e2 e3;go_wp2_with fail;refine (HTx.out _ T).mono ?_;rintro e w4 ⟨rfl,hb4⟩;have HB4:=Lib.hid hb4;clear hb4;go_wp2_with fail
    go_ret3
    exact ⟨by rw [HTP.out];rfl,HB4.out⟩
 ·have hs1:1≤s.size:=by
   rcases Nat.eq_zero_or_pos s.size with h|h
   ·exact absurd (List.eq_nil_of_length_eq_zero (by rw [qaD];exact h)) h0
   ·exact h
  have hne:s.toList.isEmpty=false:=by rw [ByteArray.toList_eq,←Bool.not_eq_true,List.isEmpty_iff];exact h0
  have hdc:=qeA s 0 (by omega);rw [List.drop_zero]at hdc;have hq:s[0].toNat<256:=s[0].toNat_lt
  by_cases hm:s[0]=45
  ·have hm':((s[0].toNat:Int)==45)=true:=by rw [hm];rfl
   have hmin:qd7 s.data.toList=true:=by rw [hdc,hm];rfl
   have hsz:qbD s.data.toList=s.data.toList.drop 1:=by unfold qbD;rw [if_pos hmin]
   have HRl0:=Lib.hid ((qcI s 1).trans hsz.symm);obtain ⟨R,HR⟩:=qaA (s.extract 1 s.size);have HRl:Hid (R.data.toList=qbD s.data.toList):=by unfold Hid;rw [←HR.out];exact HRl0.out
   have hRs:R.size≤9223372036854775807:=by rw [←HR.out,ByteArray.size_extract];omega
   have HM:=Lib.hid hmin;clear hdc h0 hm hmin hsz;go_enter Tryz.func175,Tryz.ntmps175;go_upto_region 5 with fail
   rw [HR.out];clear hm' hne hq
   go_upto_block 0 with fail
   go_cut [7,8] (fun s7 s8 wx=> ∃k acc:Nat,s7= .int .i64 (acc:Int)∧s8= .int .i64 (k:Int)∧k≤R.size∧acc<100000000000000∧Hid (qbL 14 0 R.data.toList=(acc,R.data.toList.drop k))∧wx=w)
   case first=>
    go_wp2_with fail
    go_loop [7,8] (fun o i=> ∃k acc:Nat,k≤R.size∧k≤14∧o= .int .i64 (acc:Int)∧i= .int .i64 (k:Int)∧Hid (qbL (14-k) acc (R.data.toList.drop k)=qbL 14 0 R.data.toList)∧Hid (acc<10^k)) (fun _ i=>R.size-(intOf i).toNat)
    case atStart=>exact ⟨0,0,by omega,by omega,rfl,rfl,rfl,(by show 0<10^0;decide)⟩
    case round=>
     obtain ⟨k,acc,hk,hk14,rfl,rfl,hR,hA⟩:=hrel
     have hA14:acc<100000000000000:=by
      have:(10:Nat) ^k≤10^14:=Nat.pow_le_pow_right (by omega) hk14;have e:(10:Nat) ^14=100000000000000:=by decide
      have:=hA.out;omega
     by_cases hlt:k<R.size
     ·have Hd:=Lib.hid (qeA R k hlt)
      by_cases hc:48≤R[k].toNat∧R[k].toNat≤57
      ·by_cases h14:k<14
       ·have hA13:acc<10000000000000:=by
         have:(10:Nat) ^k≤10^13:=Nat.pow_le_pow_right (by omega) (by omega);have e:(10:Nat) ^13=10000000000000:=by decide
         have:=hA.out;omega
        obtain ⟨c1,c2⟩:=hc
        have HN:Hid (qbL (14-(k+1)) (10*acc+(R[k].toNat-48)) (R.data.toList.drop (k+1))=qbL 14 0 R.data.toList):=by
         unfold Hid;rw [←hR.out,Hd.out,qwJ k acc _ _ h14 (qqS c1 c2)]
        have HA2:Hid (10*acc+(R[k].toNat-48)<10^(k+1)):=by
         unfold Hid;rw [Nat.pow_succ];have:=hA.out;omega
        go_wp2_with fail;go_round
        case rel=>exact ⟨k+1,10*acc+(R[k].toNat-48),by omega,by omega,by go_num,by go_num,HN,HA2⟩
        case measure=>simp [intOf];omega
       ·obtain rfl:k=14:=by omega
        obtain ⟨c1,c2⟩:=hc;have HN:Hid (qbL 14 0 R.data.toList=(acc,R.data.toList.drop 14)):=hR.out.symm;go_wp2_with fail;go_meet;exact ⟨14,acc,rfl,rfl,hk,hA14,HN,rfl⟩
      ·have HN:Hid (qbL 14 0 R.data.toList=(acc,R.data.toList.drop k)):=by
        unfold Hid;rw [←hR.out];exact qhN _ _ _ fun c r e=>by rw [Hd.out]at e;injection e with e _;rw [←e];exact qw1 hc
       by_cases h48:48≤R[k].toNat
       ·have h57: ¬R[k].toNat≤57:=fun h=>hc ⟨h48,h⟩;clear hc;go_wp2_with fail;go_meet;exact ⟨k,acc,rfl,rfl,hk,hA14,HN,rfl⟩
       ·clear hc;go_wp2_with fail;go_meet;exact ⟨k,acc,rfl,rfl,hk,hA14,HN,rfl⟩
     ·obtain rfl:k=R.size:=by omega
      have HN:Hid (qbL 14 0 R.data.toList=(acc,R.data.toList.drop R.size)):=by
       unfold Hid;rw [←hR.out];exact qhN _ _ _ fun c r e=>by rw [List.drop_of_length_le (by simp)]at e;cases e
      go_wp2_with fail;go_meet;exact ⟨R.size,acc,rfl,rfl,hk,hA14,HN,rfl⟩
   case rest=>
    obtain ⟨k0,acc,rfl,rfl,hk,hacc,hR,rfl⟩:=hcut;obtain ⟨x,HX⟩:=qaA (qbK (R.data.toList.drop k0));have hx9:x<1000000000:=by rw [←HX.out];exact qnS _
    have hRx:Hid (qbK (qbL 14 0 (qbD s.data.toList)).2=x):=by unfold Hid;rw [←HRl.out,hR.out];exact HX.out
    have H1:Hid ((qbL 14 0 (qbD s.data.toList)).1=acc):=by unfold Hid;rw [←HRl.out,hR.out]
    by_cases hlt:k0<R.size
    ·have Hd:=Lib.hid (qeA R k0 hlt)
     by_cases hc:R[k0]=46
     ·have hc':((R[k0].toNat:Int)==46)=true:=by rw [hc];rfl
      have HX9:Hid (qdB 9 0 (R.data.toList.drop (k0+1))=x):=by
       unfold Hid;rw [←HX.out,Hd.out,qbK,if_pos hc]
      clear hc
      go_upto_block 2 with fail
      go_cut [9] (fun s9 wx=>s9= .int .i64 (x:Int)∧wx=wc)
      case first=>
       go_wp2_with fail
       go_loop [8,9,10] (fun i o u=> ∃k j nn:Nat,k≤R.size∧j≤9∧i= .int .i64 (k:Int)∧o= .int .i64 (nn:Int)∧u= .int .i64 ((10^j/10:Nat):Int)∧Hid (qdB j nn (R.data.toList.drop k)=x)∧Hid (nn+10^j≤1000000000)) (fun i _ _=>R.size-(intOf i).toNat)
       case atStart=>exact ⟨k0+1,9,0,by omega,by omega,by go_num,rfl,rfl,HX9.out,(by show 0+10^9≤1000000000;decide)⟩
       case round=>
        obtain ⟨k,j,nn,hk,hj,rfl,rfl,rfl,hR2,hA⟩:=hrel;have hnn:nn<1000000000:=by have:=hA.out;have:=qcR j;omega
        by_cases hlt2:k<R.size
        ·have Hd:=Lib.hid (qeA R k hlt2)
         by_cases hc:48≤R[k].toNat∧R[k].toNat≤57
         ·by_cases hj0:j=0
          ·subst hj0;obtain ⟨c1,c2⟩:=hc;have HN:Hid (nn=x):=by unfold Hid;rw [←hR2.out];exact (qdD _ _ _ (.inl rfl)).symm
           rw [show 10^0/10=0 by decide];go_wp2_with fail;go_meet;exact ⟨by rw [HN.out],rfl⟩
          ·obtain ⟨i,rfl⟩: ∃i,j=i+1:=⟨j-1,by omega⟩;obtain ⟨c1,c2⟩:=hc;have e1:10^(i+1) /10=10^i:=by rw [Nat.pow_succ,Nat.mul_div_cancel _ (by omega)]
           have hp:=qcR i;have hA2:=hA.out;rw [Nat.pow_succ]at hA2;have hmul:10^i*(R[k].toNat-48)≤10^i*9:=Nat.mul_le_mul_left _ (by omega)
           have HN:Hid (qdB i (nn+10^i*(R[k].toNat-48)) (R.data.toList.drop (k+1))=x):=by
            unfold Hid;rw [←hR2.out,Hd.out,qdB,if_pos (qqS c1 c2)]
           have hi8:i≤8:=by omega
           rw [e1];clear hj hj0 e1;obtain ⟨u,Hu⟩:=qaA (10^i);rw [Hu.out]at hp hA2 hmul HN⊢;have ed:(R[k].toNat:Int) -48=((R[k].toNat-48:Nat):Int):=by omega
           obtain ⟨m,Hm⟩:=qaA (u*(R[k].toNat-48));have em:(u:Int)*((R[k].toNat:Int) -48)=(m:Int):=by rw [ed,←Hm.out,Int.natCast_mul]
           rw [Hm.out]at hmul HN;have HA3:Hid (nn+m+u≤1000000000):=by unfold Hid;omega
           have hm9:m≤1000000000:=by omega
           have hu9:u≤1000000000:=by omega
           have hs9:nn+m≤1000000000:=by omega
           have hmw:IntKind.i64.wrap (m:Int)=(m:Int):=IntWalk.i64_in _ (by omega);clear ed hmul hA2;go_wp2_with fail;go_round
           case rel=>exact ⟨k+1,i,nn+m,by omega,by omega,by go_num,by go_num,by rw [Hu.out];go_num,HN,by rw [Hu.out];exact HA3⟩
           case measure=>simp [intOf];omega
         ·have HN:Hid (nn=x):=by
           unfold Hid;rw [←hR2.out];exact (qdD _ _ _ (.inr fun c r e=>by rw [Hd.out]at e;injection e with e _;rw [←e];exact qw1 hc)).symm
          by_cases h48:48≤R[k].toNat
          ·have h57: ¬R[k].toNat≤57:=fun h=>hc ⟨h48,h⟩;clear hc;go_wp2_with fail;go_meet;exact ⟨by rw [HN.out],rfl⟩
          ·clear hc;go_wp2_with fail;go_meet;exact ⟨by rw [HN.out],rfl⟩
        ·obtain rfl:k=R.size:=by omega
         have HN:Hid (nn=x):=by
          unfold Hid;rw [←hR2.out];exact (qdD _ _ _ (.inr fun c r e=>by rw [List.drop_of_length_le (by simp)]at e;cases e)).symm
         go_wp2_with fail;go_meet;exact ⟨by rw [HN.out],rfl⟩
      case rest=>
       obtain ⟨rfl,rfl⟩:=hcut
       by_cases hx0:x=0
       ·subst hx0;have hv:refV s.data.toList=(-(acc:Int),0):=by exact quG HM.out H1.out hRx.out
        have ht:=qeH _ _ _ hv;have HTx:=Lib.hid fun W T=>qbP (-(acc:Int)) (0) W T;rw [qcJ]at ht;clear hv;generalize qcD (-(acc:Int)) (0)=tt at ht HTx;obtain ⟨t,te⟩:=tt;rcases ht with ⟨e1,e3⟩|⟨e1,e3⟩|⟨e1,e2,e3⟩
        ·have HTP:=Lib.hid e3;clear e3;obtain ⟨rfl,rfl⟩:=Prod.mk.inj e1;go_wp2_with fail;refine (HTx.out _ T).mono ?_;rintro e w4 ⟨rfl,hb4⟩;have HB4:=Lib.hid hb4;clear hb4;go_wp2_with fail
         go_ret3
         exact ⟨by rw [HTP.out];rfl,HB4.out⟩
        ·have e1':(te !=0)=true:=by simpa using e1
         have HTP:=Lib.hid e3;clear e1 e3;go_wp2_with fail;refine (HTx.out _ T).mono ?_;rintro e w4 ⟨rfl,hb4⟩;have HB4:=Lib.hid hb4;clear hb4;go_wp2_with fail
         go_ret3
         exact ⟨by rw [HTP.out];rfl,HB4.out⟩
        ·obtain rfl:te=0:=e1;have e2':(t.toList==s.toList)=false:=by rw [qcQ];exact decide_eq_false e2
         have HTP:=Lib.hid e3;clear e2 e3;go_wp2_with fail;refine (HTx.out _ T).mono ?_;rintro e w4 ⟨rfl,hb4⟩;have HB4:=Lib.hid hb4;clear hb4;go_wp2_with fail
         go_ret3
         exact ⟨by rw [HTP.out];rfl,HB4.out⟩
       ·have hx1:1≤x:=by omega
        clear hx0;have hv:refV s.data.toList=(-(acc:Int) -1,1000000000-(x:Int)):=by exact refV_m1 HM.out H1.out hRx.out hx1
        have ht:=qeH _ _ _ hv;have HTx:=Lib.hid fun W T=>qbP (-(acc:Int) -1) (1000000000-(x:Int)) W T;rw [qcJ]at ht;clear hv;generalize qcD (-(acc:Int) -1) (1000000000-(x:Int))=tt at ht HTx;obtain ⟨t,te⟩:=tt;rcases ht with ⟨e1,e3⟩|⟨e1,e3⟩|⟨e1,e2,e3⟩
        ·have HTP:=Lib.hid e3;clear e3;obtain ⟨rfl,rfl⟩:=Prod.mk.inj e1;go_wp2_with fail;refine (HTx.out _ T).mono ?_;rintro e w4 ⟨rfl,hb4⟩;have HB4:=Lib.hid hb4;clear hb4;go_wp2_with fail
         go_ret3
         exact ⟨by rw [HTP.out];rfl,HB4.out⟩
        ·have e1':(te !=0)=true:=by simpa using e1
         have HTP:=Lib.hid e3;clear e1 e3;go_wp2_with fail;refine (HTx.out _ T).mono ?_;rintro e w4 ⟨rfl,hb4⟩;have HB4:=Lib.hid hb4;clear hb4;go_wp2_with fail
         go_ret3
         exact ⟨by rw [HTP.out];rfl,HB4.out⟩
        ·obtain rfl:te=0:=e1;have e2':(t.toList==s.toList)=false:=by rw [qcQ];exact decide_eq_false e2
         have HTP:=Lib.hid e3;clear e2 e3;go_wp2_with fail;refine (HTx.out _ T).mono ?_;rintro e w4 ⟨rfl,hb4⟩;have HB4:=Lib.hid hb4;clear hb4;go_wp2_with fail
         go_ret3
         exact ⟨by rw [HTP.out];rfl,HB4.out⟩
     ·have hc':((R[k0].toNat:Int)==46)=false:=by
       rw [beq_eq_false_iff_ne];intro h;exact hc (UInt8.toNat_inj.1 (show R[k0].toNat=46 by omega))
      obtain rfl:x=0:=by rw [←HX.out,Hd.out,qbK,if_neg hc]
      clear hc;have hv:refV s.data.toList=(-(acc:Int),0):=by exact quG HM.out H1.out hRx.out
      have ht:=qeH _ _ _ hv;have HTx:=Lib.hid fun W T=>qbP (-(acc:Int)) (0) W T;rw [qcJ]at ht;clear hv;generalize qcD (-(acc:Int)) (0)=tt at ht HTx;obtain ⟨t,te⟩:=tt;rcases ht with ⟨e1,e3⟩|⟨e1,e3⟩|⟨e1,e2,e3⟩
      ·have HTP:=Lib.hid e3;clear e3;obtain ⟨rfl,rfl⟩:=Prod.mk.inj e1;go_wp2_with fail;refine (HTx.out _ T).mono ?_;rintro e w4 ⟨rfl,hb4⟩;have HB4:=Lib.hid hb4;clear hb4;go_wp2_with fail
       go_ret3
       exact ⟨by rw [HTP.out];rfl,HB4.out⟩
      ·have e1':(te !=0)=true:=by simpa using e1
       have HTP:=Lib.hid e3;clear e1 e3;go_wp2_with fail;refine (HTx.out _ T).mono ?_;rintro e w4 ⟨rfl,hb4⟩;have HB4:=Lib.hid hb4;clear hb4;go_wp2_with fail
       go_ret3
       exact ⟨by rw [HTP.out];rfl,HB4.out⟩
      ·obtain rfl:te=0:=e1;have e2':(t.toList==s.toList)=false:=by rw [qcQ];exact decide_eq_false e2
       have HTP:=Lib.hid e3;clear e2 e3;go_wp2_with fail;refine (HTx.out _ T).mono ?_;rintro e w4 ⟨rfl,hb4⟩;have HB4:=Lib.hid hb4;clear hb4;go_wp2_with fail
       go_ret3
       exact ⟨by rw [HTP.out];rfl,HB4.out⟩
    ·obtain rfl:x=0:=by rw [←HX.out,List.drop_of_length_le (by rw [qaD];omega)];rfl
     have hv:refV s.data.toList=(-(acc:Int),0):=by exact quG HM.out H1.out hRx.out
     have ht:=qeH _ _ _ hv;have HTx:=Lib.hid fun W T=>qbP (-(acc:Int)) (0) W T;rw [qcJ]at ht;clear hv;generalize qcD (-(acc:Int)) (0)=tt at ht HTx;obtain ⟨t,te⟩:=tt;rcases ht with ⟨e1,e3⟩|⟨e1,e3⟩|⟨e1,e2,e3⟩
     ·have HTP:=Lib.hid e3;clear e3;obtain ⟨rfl,rfl⟩:=Prod.mk.inj e1;go_wp2_with fail;refine (HTx.out _ T).mono ?_;rintro e w4 ⟨rfl,hb4⟩;have HB4:=Lib.hid hb4;clear hb4;go_wp2_with fail
      go_ret3
      exact ⟨by rw [HTP.out];rfl,HB4.out⟩
     ·have e1':(te !=0)=true:=by simpa using e1
      have HTP:=Lib.hid e3;clear e1 e3;go_wp2_with fail;refine (HTx.out _ T).mono ?_;rintro e w4 ⟨rfl,hb4⟩;have HB4:=Lib.hid hb4;clear hb4;go_wp2_with fail
      go_ret3
      exact ⟨by rw [HTP.out];rfl,HB4.out⟩
     ·obtain rfl:te=0:=e1;have e2':(t.toList==s.toList)=false:=by rw [qcQ];exact decide_eq_false e2
      have HTP:=Lib.hid e3;clear e2 e3;go_wp2_with fail;refine (HTx.out _ T).mono ?_;rintro e w4 ⟨rfl,hb4⟩;have HB4:=Lib.hid hb4;clear hb4;go_wp2_with fail
      go_ret3
      exact ⟨by rw [HTP.out];rfl,HB4.out⟩
  ·have hm':((s[0].toNat:Int)==45)=false:=by
    rw [beq_eq_false_iff_ne];intro h;exact hm (UInt8.toNat_inj.1 (show s[0].toNat=45 by omega))
   have hmin:qd7 s.data.toList=false:=by rw [hdc];show (s[0]==45)=false;simpa using hm
   have hsz:qbD s.data.toList=s.data.toList:=by unfold qbD;rw [if_neg (by rw [hmin];decide)]
   obtain ⟨R,HR⟩: ∃R,Hid (s=R):=⟨s,rfl⟩;have HRl:Hid (R.data.toList=qbD s.data.toList):=by unfold Hid;rw [←HR.out];exact hsz.symm
   have hRs:R.size≤9223372036854775807:=by rw [←HR.out];omega
   have HM:=Lib.hid hmin;clear hdc h0 hm hmin hsz;go_enter Tryz.func175,Tryz.ntmps175;go_upto_region 5 with fail
   go_cut [5,7] (fun s5 s7 wx=>s5= .string R∧s7= .int .i64 0∧wx=w)
   case first=>
    go_wp2_with fail;go_meet;exact ⟨by rw [HR.out],rfl,rfl⟩
   case rest=>
    obtain ⟨rfl,rfl,rfl⟩:=hcut;clear hm' hne hq
    go_upto_block 0 with fail
    go_cut [7,8] (fun s7 s8 wx=> ∃k acc:Nat,s7= .int .i64 (acc:Int)∧s8= .int .i64 (k:Int)∧k≤R.size∧acc<100000000000000∧Hid (qbL 14 0 R.data.toList=(acc,R.data.toList.drop k))∧wx=wc)
    case first=>
     go_wp2_with fail
     go_loop [7,8] (fun o i=> ∃k acc:Nat,k≤R.size∧k≤14∧o= .int .i64 (acc:Int)∧i= .int .i64 (k:Int)∧Hid (qbL (14-k) acc (R.data.toList.drop k)=qbL 14 0 R.data.toList)∧Hid (acc<10^k)) (fun _ i=>R.size-(intOf i).toNat)
     case atStart=>exact ⟨0,0,by omega,by omega,rfl,rfl,rfl,(by show 0<10^0;decide)⟩
     case round=>
      obtain ⟨k,acc,hk,hk14,rfl,rfl,hR,hA⟩:=hrel
      have hA14:acc<100000000000000:=by
       have:(10:Nat) ^k≤10^14:=Nat.pow_le_pow_right (by omega) hk14;have e:(10:Nat) ^14=100000000000000:=by decide
       have:=hA.out;omega
      by_cases hlt:k<R.size
      ·have Hd:=Lib.hid (qeA R k hlt)
       by_cases hc:48≤R[k].toNat∧R[k].toNat≤57
       ·by_cases h14:k<14
        ·have hA13:acc<10000000000000:=by
          have:(10:Nat) ^k≤10^13:=Nat.pow_le_pow_right (by omega) (by omega);have e:(10:Nat) ^13=10000000000000:=by decide
          have:=hA.out;omega
         obtain ⟨c1,c2⟩:=hc
         have HN:Hid (qbL (14-(k+1)) (10*acc+(R[k].toNat-48)) (R.data.toList.drop (k+1))=qbL 14 0 R.data.toList):=by
          unfold Hid;rw [←hR.out,Hd.out,qwJ k acc _ _ h14 (qqS c1 c2)]
         have HA2:Hid (10*acc+(R[k].toNat-48)<10^(k+1)):=by
          unfold Hid;rw [Nat.pow_succ];have:=hA.out;omega
         go_wp2_with fail;go_round
         case rel=>exact ⟨k+1,10*acc+(R[k].toNat-48),by omega,by omega,by go_num,by go_num,HN,HA2⟩
         case measure=>simp [intOf];omega
        ·obtain rfl:k=14:=by omega
         obtain ⟨c1,c2⟩:=hc;have HN:Hid (qbL 14 0 R.data.toList=(acc,R.data.toList.drop 14)):=hR.out.symm;go_wp2_with fail;go_meet;exact ⟨14,acc,rfl,rfl,hk,hA14,HN,rfl⟩
       ·have HN:Hid (qbL 14 0 R.data.toList=(acc,R.data.toList.drop k)):=by
         unfold Hid;rw [←hR.out];exact qhN _ _ _ fun c r e=>by rw [Hd.out]at e;injection e with e _;rw [←e];exact qw1 hc
        by_cases h48:48≤R[k].toNat
        ·have h57: ¬R[k].toNat≤57:=fun h=>hc ⟨h48,h⟩;clear hc;go_wp2_with fail;go_meet;exact ⟨k,acc,rfl,rfl,hk,hA14,HN,rfl⟩
        ·clear hc;go_wp2_with fail;go_meet;exact ⟨k,acc,rfl,rfl,hk,hA14,HN,rfl⟩
      ·obtain rfl:k=R.size:=by omega
       have HN:Hid (qbL 14 0 R.data.toList=(acc,R.data.toList.drop R.size)):=by
        unfold Hid;rw [←hR.out];exact qhN _ _ _ fun c r e=>by rw [List.drop_of_length_le (by simp)]at e;cases e
       go_wp2_with fail;go_meet;exact ⟨R.size,acc,rfl,rfl,hk,hA14,HN,rfl⟩
    case rest=>
     obtain ⟨k0,acc,rfl,rfl,hk,hacc,hR,rfl⟩:=hcut;obtain ⟨x,HX⟩:=qaA (qbK (R.data.toList.drop k0));have hx9:x<1000000000:=by rw [←HX.out];exact qnS _
     have hRx:Hid (qbK (qbL 14 0 (qbD s.data.toList)).2=x):=by unfold Hid;rw [←HRl.out,hR.out];exact HX.out
     have H1:Hid ((qbL 14 0 (qbD s.data.toList)).1=acc):=by unfold Hid;rw [←HRl.out,hR.out]
     by_cases hlt:k0<R.size
     ·have Hd:=Lib.hid (qeA R k0 hlt)
      by_cases hc:R[k0]=46
      ·have hc':((R[k0].toNat:Int)==46)=true:=by rw [hc];rfl
       have HX9:Hid (qdB 9 0 (R.data.toList.drop (k0+1))=x):=by
        unfold Hid;rw [←HX.out,Hd.out,qbK,if_pos hc]
       clear hc
       go_upto_block 2 with fail
       go_cut [9] (fun s9 wx=>s9= .int .i64 (x:Int)∧wx=wc)
       case first=>
        go_wp2_with fail
        go_loop [8,9,10] (fun i o u=> ∃k j nn:Nat,k≤R.size∧j≤9∧i= .int .i64 (k:Int)∧o= .int .i64 (nn:Int)∧u= .int .i64 ((10^j/10:Nat):Int)∧Hid (qdB j nn (R.data.toList.drop k)=x)∧Hid (nn+10^j≤1000000000)) (fun i _ _=>R.size-(intOf i).toNat)
        case atStart=>exact ⟨k0+1,9,0,by omega,by omega,by go_num,rfl,rfl,HX9.out,(by show 0+10^9≤1000000000;decide)⟩
        case round=>
         obtain ⟨k,j,nn,hk,hj,rfl,rfl,rfl,hR2,hA⟩:=hrel;have hnn:nn<1000000000:=by have:=hA.out;have:=qcR j;omega
         by_cases hlt2:k<R.size
         ·have Hd:=Lib.hid (qeA R k hlt2)
          by_cases hc:48≤R[k].toNat∧R[k].toNat≤57
          ·by_cases hj0:j=0
           ·subst hj0;obtain ⟨c1,c2⟩:=hc;have HN:Hid (nn=x):=by unfold Hid;rw [←hR2.out];exact (qdD _ _ _ (.inl rfl)).symm
            rw [show 10^0/10=0 by decide];go_wp2_with fail;go_meet;exact ⟨by rw [HN.out],rfl⟩
           ·obtain ⟨i,rfl⟩: ∃i,j=i+1:=⟨j-1,by omega⟩;obtain ⟨c1,c2⟩:=hc;have e1:10^(i+1) /10=10^i:=by rw [Nat.pow_succ,Nat.mul_div_cancel _ (by omega)]
            have hp:=qcR i;have hA2:=hA.out;rw [Nat.pow_succ]at hA2;have hmul:10^i*(R[k].toNat-48)≤10^i*9:=Nat.mul_le_mul_left _ (by omega)
            have HN:Hid (qdB i (nn+10^i*(R[k].toNat-48)) (R.data.toList.drop (k+1))=x):=by
             unfold Hid;rw [←hR2.out,Hd.out,qdB,if_pos (qqS c1 c2)]
            have hi8:i≤8:=by omega
            rw [e1];clear hj hj0 e1;obtain ⟨u,Hu⟩:=qaA (10^i);rw [Hu.out]at hp hA2 hmul HN⊢;have ed:(R[k].toNat:Int) -48=((R[k].toNat-48:Nat):Int):=by omega
            obtain ⟨m,Hm⟩:=qaA (u*(R[k].toNat-48));have em:(u:Int)*((R[k].toNat:Int) -48)=(m:Int):=by rw [ed,←Hm.out,Int.natCast_mul]
            rw [Hm.out]at hmul HN;have HA3:Hid (nn+m+u≤1000000000):=by unfold Hid;omega
            have hm9:m≤1000000000:=by omega
            have hu9:u≤1000000000:=by omega
            have hs9:nn+m≤1000000000:=by omega
            have hmw:IntKind.i64.wrap (m:Int)=(m:Int):=IntWalk.i64_in _ (by omega);clear ed hmul hA2;go_wp2_with fail;go_round
            case rel=>exact ⟨k+1,i,nn+m,by omega,by omega,by go_num,by go_num,by rw [Hu.out];go_num,HN,by rw [Hu.out];exact HA3⟩
            case measure=>simp [intOf];omega
          ·have HN:Hid (nn=x):=by
            unfold Hid;rw [←hR2.out];exact (qdD _ _ _ (.inr fun c r e=>by rw [Hd.out]at e;injection e with e _;rw [←e];exact qw1 hc)).symm
           by_cases h48:48≤R[k].toNat
           ·have h57: ¬R[k].toNat≤57:=fun h=>hc ⟨h48,h⟩;clear hc;go_wp2_with fail;go_meet;exact ⟨by rw [HN.out],rfl⟩
           ·clear hc;go_wp2_with fail;go_meet;exact ⟨by rw [HN.out],rfl⟩
         ·obtain rfl:k=R.size:=by omega
          have HN:Hid (nn=x):=by
           unfold Hid;rw [←hR2.out];exact (qdD _ _ _ (.inr fun c r e=>by rw [List.drop_of_length_le (by simp)]at e;cases e)).symm
          go_wp2_with fail;go_meet;exact ⟨by rw [HN.out],rfl⟩
       case rest=>
        obtain ⟨rfl,rfl⟩:=hcut;have hv:refV s.data.toList=((acc:Int),(x:Int)):=by exact q00 HM.out H1.out hRx.out
        have ht:=qeH _ _ _ hv;have HTx:=Lib.hid fun W T=>qbP ((acc:Int)) ((x:Int)) W T;rw [qcJ]at ht;clear hv;generalize qcD ((acc:Int)) ((x:Int))=tt at ht HTx;obtain ⟨t,te⟩:=tt;rcases ht with ⟨e1,e3⟩|⟨e1,e3⟩|⟨e1,e2,e3⟩
        ·have HTP:=Lib.hid e3;clear e3;obtain ⟨rfl,rfl⟩:=Prod.mk.inj e1;go_wp2_with fail;refine (HTx.out _ T).mono ?_;rintro e w4 ⟨rfl,hb4⟩;have HB4:=Lib.hid hb4;clear hb4;go_wp2_with fail
         go_ret3
         exact ⟨by rw [HTP.out];rfl,HB4.out⟩
        ·have e1':(te !=0)=true:=by simpa using e1
         have HTP:=Lib.hid e3;clear e1 e3;go_wp2_with fail;refine (HTx.out _ T).mono ?_;rintro e w4 ⟨rfl,hb4⟩;have HB4:=Lib.hid hb4;clear hb4;go_wp2_with fail
         go_ret3
         exact ⟨by rw [HTP.out];rfl,HB4.out⟩
        ·obtain rfl:te=0:=e1;have e2':(t.toList==s.toList)=false:=by rw [qcQ];exact decide_eq_false e2
         have HTP:=Lib.hid e3;clear e2 e3;go_wp2_with fail;refine (HTx.out _ T).mono ?_;rintro e w4 ⟨rfl,hb4⟩;have HB4:=Lib.hid hb4;clear hb4;go_wp2_with fail
         go_ret3
         exact ⟨by rw [HTP.out];rfl,HB4.out⟩
      ·have hc':((R[k0].toNat:Int)==46)=false:=by
        rw [beq_eq_false_iff_ne];intro h;exact hc (UInt8.toNat_inj.1 (show R[k0].toNat=46 by omega))
       obtain rfl:x=0:=by rw [←HX.out,Hd.out,qbK,if_neg hc]
       clear hc;have hv:refV s.data.toList=((acc:Int),0):=by exact q00 HM.out H1.out hRx.out
       have ht:=qeH _ _ _ hv;have HTx:=Lib.hid fun W T=>qbP ((acc:Int)) (0) W T;rw [qcJ]at ht;clear hv;generalize qcD ((acc:Int)) (0)=tt at ht HTx;obtain ⟨t,te⟩:=tt;rcases ht with ⟨e1,e3⟩|⟨e1,e3⟩|⟨e1,e2,e3⟩
       ·have HTP:=Lib.hid e3;clear e3;obtain ⟨rfl,rfl⟩:=Prod.mk.inj e1;go_wp2_with fail;refine (HTx.out _ T).mono ?_;rintro e w4 ⟨rfl,hb4⟩;have HB4:=Lib.hid hb4;clear hb4;go_wp2_with fail
        go_ret3
        exact ⟨by rw [HTP.out];rfl,HB4.out⟩
       ·have e1':(te !=0)=true:=by simpa using e1
        have HTP:=Lib.hid e3;clear e1 e3;go_wp2_with fail;refine (HTx.out _ T).mono ?_;rintro e w4 ⟨rfl,hb4⟩;have HB4:=Lib.hid hb4;clear hb4;go_wp2_with fail
        go_ret3
        exact ⟨by rw [HTP.out];rfl,HB4.out⟩
       ·obtain rfl:te=0:=e1;have e2':(t.toList==s.toList)=false:=by rw [qcQ];exact decide_eq_false e2
        have HTP:=Lib.hid e3;clear e2 e3;go_wp2_with fail;refine (HTx.out _ T).mono ?_;rintro e w4 ⟨rfl,hb4⟩;have HB4:=Lib.hid hb4;clear hb4;go_wp2_with fail
        go_ret3
        exact ⟨by rw [HTP.out];rfl,HB4.out⟩
     ·obtain rfl:x=0:=by rw [←HX.out,List.drop_of_length_le (by rw [qaD];omega)];rfl
      have hv:refV s.data.toList=((acc:Int),0):=by exact q00 HM.out H1.out hRx.out
      have ht:=qeH _ _ _ hv;have HTx:=Lib.hid fun W T=>qbP ((acc:Int)) (0) W T;rw [qcJ]at ht;clear hv;generalize qcD ((acc:Int)) (0)=tt at ht HTx;obtain ⟨t,te⟩:=tt;rcases ht with ⟨e1,e3⟩|⟨e1,e3⟩|⟨e1,e2,e3⟩
      ·have HTP:=Lib.hid e3;clear e3;obtain ⟨rfl,rfl⟩:=Prod.mk.inj e1;go_wp2_with fail;refine (HTx.out _ T).mono ?_;rintro e w4 ⟨rfl,hb4⟩;have HB4:=Lib.hid hb4;clear hb4;go_wp2_with fail
       go_ret3
       exact ⟨by rw [HTP.out];rfl,HB4.out⟩
      ·have e1':(te !=0)=true:=by simpa using e1
       have HTP:=Lib.hid e3;clear e1 e3;go_wp2_with fail;refine (HTx.out _ T).mono ?_;rintro e w4 ⟨rfl,hb4⟩;have HB4:=Lib.hid hb4;clear hb4;go_wp2_with fail
       go_ret3
       exact ⟨by rw [HTP.out];rfl,HB4.out⟩
      ·obtain rfl:te=0:=e1;have e2':(t.toList==s.toList)=false:=by rw [qcQ];exact decide_eq_false e2
       have HTP:=Lib.hid e3;clear e2 e3;go_wp2_with fail;refine (HTx.out _ T).mono ?_;rintro e w4 ⟨rfl,hb4⟩;have HB4:=Lib.hid hb4;clear hb4;go_wp2_with fail
       go_ret3
       exact ⟨by rw [HTP.out];rfl,HB4.out⟩
end Go.Proofs.YtapgoifimhnbdaaGreatDoor
