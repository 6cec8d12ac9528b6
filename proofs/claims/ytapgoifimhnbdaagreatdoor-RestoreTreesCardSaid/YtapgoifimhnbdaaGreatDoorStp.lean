/- qaV of one kind, in one file: Var, StpA, StpB, StpC, Laid. -/
import Derived.Test.YtapgoifimhnbdaaGreatDoorMth
import Derived.Below
import Derived.Test.YtapgoifimhnbdaaGreatDoorMet
import Derived.Test.YtapgoifimhnbdaaGreatDoorShelf
import Derived.LaidLaws
import Derived.Stop.LaidErr
import Derived.Lib.LaidTab
import Derived.IntWalk
import Derived.WalkSmall
import Derived.BigQuiet
import Derived.Deep.QuietTactic
import Derived.RowKitTokens
import Derived.MakeChecks
set_option linter.unusedVariables false
namespace Go.Proofs.YtapgoifimhnbdaaGreatDoor
open Go.RowKit
theorem q2F {P:Program} {w:World} {n:String} {g:Nat} {cs:Array Value} (hg:P.globalNamed n=some g) (h:w.var? P n=some cs):g<w.heap.size:=by
 unfold World.var? at h;rw [hg]at h;rcases Nat.lt_or_ge g w.heap.size with h'|h'
 ·exact h'
 ·simp [Array.getElem?_eq_none h']at h
theorem qz4 {P:Program} {w w':World} {n:String} {g:Nat} {cs:Array Value} (hg:P.globalNamed n=some g) (h:w.var? P n=some cs) (hb:Below w.heap.size w w'):w'.var? P n=some cs:=by
 have hl:=q2F hg h;unfold World.var? at h⊢;rw [hg]at h⊢;simp only [Option.bind_some]at h⊢;rw [hb.block g hl];exact h
end Go.Proofs.YtapgoifimhnbdaaGreatDoor
set_option maxRecDepth 100000
namespace Go.Proofs.YtapgoifimhnbdaaGreatDoor
open Go.RowKit
open Go.OpenShut
open Go.Sort (grow)
theorem qzS (w:World) (q:Nat) (os:Array Obj):Below w.heap.size w (grow (w.drewN q) os):=
 ⟨rfl,rfl,rfl,by simp [grow],fun i hi=>by
  show ((w.drewN q).heap++os)[i]?=_;rw [Array.getElem?_append_left (by show i<w.heap.size;exact hi)]
  rfl⟩
theorem qeR (a b:List UInt8):bs a++bs b=bs (a++b):=by
 apply ByteArray.ext;simp [bs,ByteArray.data_append]
theorem qh7 {s:ByteArray} {l:List UInt8} (h:s.data.toList=l):s=bs l:=by rw [←h,qcJ]
theorem qcI (s:ByteArray) (k:Nat):(s.extract k s.size).data.toList=s.data.toList.drop k:=by
 rw [ByteArray.data_extract,Array.toList_extract];simp [List.extract];rw [List.take_of_length_le (by simp)]
theorem qaD (s:ByteArray):s.data.toList.length=s.size:=by simp
def Tab (w:World):Prop:=Lib.TabIs Tryz.prog w "internal/strconv.uint64pow10" .u64 Lib.pow10Tab
theorem q28:Tryz.prog.globalNamed "internal/strconv.uint64pow10" =some 5:=by kernel_rfl
theorem Tab.below {w w':World} (h:Tab w) (hb:Below w.heap.size w w'):Tab w':=qz4 q28 h hb
theorem qjN (n:Int) (w:World) (T:Tab w) (h0: -9223372036854775808≤n) (h1:n≤9223372036854775807):
  Calls Tryz.prog 184 #[.int .i64 n] w fun e w'=>e= .returned (.string (bs (Lib.itoa n)))∧Below w.heap.size w w':=by
 refine (Tryz.strconv_Itoa n h0 h1 w T).mono ?_;rintro e w' ⟨rfl,k,os,rfl⟩;exact ⟨rfl,qzS w k os⟩
theorem qh1 (n:Nat) (w:World) (T:Tab w) (h1:n≤9223372036854775807):
  Calls Tryz.prog 184 #[.int .i64 (n:Int)] w fun e w'=>e= .returned (.string (bs (Lib.decDigits n)))∧Below w.heap.size w w':=by
 have h:=qjN (n:Int) w T (by omega) (by omega);rw [Lib.itoa_nonneg]at h;exact h
set_option maxHeartbeats 400000 in
theorem qoW (a b:Int) (w:World) (h0: -9223372036854775808≤a) (h1:a≤9223372036854775807) (h2: -1000000000≤b) (h3:b≤1000000000):
  Calls Tryz.prog 226 #[.int .i64 a,.int .i64 b] w fun e w'=>e= .returned (.tuple #[.int .i64 (negV a b).1,.int .i64 (negV a b).2])∧w=w':=by
 by_cases hb:b=0
 ·subst hb
  by_cases ha:a= -9223372036854775808
  ·subst ha;go_enter Tryz.func226,Tryz.ntmps226;go_wp2;go_ret2;exact ⟨qb9 (show wrap64 9223372036854775808= -9223372036854775808 by kernel_rfl) rfl,rfl⟩
  ·have HN:=Lib.hid (show negV a 0=(-a,0) by unfold negV;rw [if_pos rfl,if_neg ha]);have h4: -9223372036854775807≤a:=by omega
   clear ha h0;go_enter Tryz.func226,Tryz.ntmps226;go_wp2;go_ret2;exact ⟨qb9 (by rw [HN.out];try (show wrap64 (wrap64 9223372036854775808-1)=9223372036854775807;kernel_rfl)) (by rw [HN.out]),rfl⟩
 ·have hb':(b==0)=false:=by simpa using hb
  by_cases ha:a= -9223372036854775808
  ·subst ha;have HN:=Lib.hid (show negV (-9223372036854775808) b=(9223372036854775807,1000000000-b) by unfold negV;rw [if_neg hb,if_pos rfl]);clear hb;go_enter Tryz.func226,Tryz.ntmps226;go_wp2;go_ret2;exact ⟨qb9 (by rw [HN.out];try (show wrap64 (wrap64 9223372036854775808-1)=9223372036854775807;kernel_rfl)) (by rw [HN.out]),rfl⟩
  ·have HN:=Lib.hid (show negV a b=(-a-1,1000000000-b) by unfold negV;rw [if_neg hb,if_neg ha]);have h4: -9223372036854775807≤a:=by omega
   clear ha h0 hb;go_enter Tryz.func226,Tryz.ntmps226;go_wp2;go_ret2;exact ⟨qb9 (by rw [HN.out];try (show wrap64 (wrap64 9223372036854775808-1)=9223372036854775807;kernel_rfl)) (by rw [HN.out]),rfl⟩
set_option maxHeartbeats 400000 in
theorem qtC (n:Nat) (w:World) (T:Tab w) (hn:n<1000000000):
  Calls Tryz.prog 227 #[.int .i64 (n:Int)] w fun e w'=>e= .returned (.string (bs (qe9 n)))∧Below w.heap.size w w':=by
 by_cases h0:n=0
 ·subst h0;go_enter Tryz.func227,Tryz.ntmps227;go_wp2;go_ret;exact ⟨rfl,Below.refl _ _⟩
 ·have h0':((n:Int)==0)=false:=by simp [h0]
  have h1:1≤n:=by omega
  have e9:(10:Nat) ^9=1000000000:=by decide
  have hL:=qn2 9 n (by omega);rw [e9]at hL;obtain ⟨X,HX⟩:=qaA (bs (Lib.decDigits (1000000000+n)));have HD:Hid (X.data.toList=49::d10 9 n):=by unfold Hid;rw [←HX.out,qaH,hL]
  have hs:X.size=10:=by rw [←qaD,HD.out,List.length_cons,qpF]
  obtain ⟨Y,HY⟩:=qaA (X.extract 1 X.size);have HYd:Hid (Y.data.toList=d10 9 n):=by unfold Hid;rw [←HY.out,qcI,HD.out];rfl
  have hys:Y.size≤10:=by rw [←qaD,HYd.out,qpF];omega
  have HF:=Lib.hid (show (⟨#[46]⟩:ByteArray)++bs (fr 9 n)=bs (qe9 n) by
   rw [show (⟨#[46]⟩:ByteArray)=bs [46]from rfl,qeR];unfold qe9;rw [if_neg h0];rfl)
  have hfs:(bs (fr 9 n)).size≤9:=by rw [qaB];exact q3B 9 n
  obtain ⟨Z,HZ⟩:=qaA (bs (fr 9 n));rw [HZ.out]at HF hfs
  have HI:Hid (∀W,Tab W→Calls Tryz.prog 184 #[.int .i64 (1000000000+(n:Int))] W fun e w'=>e= .returned (.string X)∧Below W.heap.size W w'):=fun W TW=>by
   have h:=qh1 (1000000000+n) W TW (by omega);rw [HX.out,Int.natCast_add]at h;exact h
  have HT:Hid (∀W,Calls Tryz.prog 273 #[.string Y,.string ⟨#[48]⟩] W fun e w'=>e= .returned (.string Z)∧w'=W):=fun W=>by
   have h:=Tryz.strings_TrimRight_one Y 48 (by decide) W (by omega);rw [HYd.out,qz6 9 n (by omega)]at h;rw [←HZ.out];exact h
  rw [←HF.out];have hs1:1≤X.size:=by omega
  have hs2:X.size≤10:=by omega
  clear hL h0 hs;go_enter Tryz.func227,Tryz.ntmps227;go_wp2_with fail;refine (HI.out _ T).mono ?_;rintro e w1 ⟨rfl,hb1⟩;have HB:=Lib.hid hb1;clear hb1;go_wp2_with fail;rw [HY.out];refine (HT.out _).mono ?_;rintro e w2 ⟨rfl,rfl⟩;go_wp2_with fail;go_ret;exact ⟨rfl,HB.out⟩
end Go.Proofs.YtapgoifimhnbdaaGreatDoor
namespace Go.Proofs.YtapgoifimhnbdaaGreatDoor
open Go.RowKit
open Go.OpenShut
theorem qdN {a b:Int} (h:inT a b=true):qcD a b=(bs (qc3 a b),0):=if_pos h
theorem qlC {a b:Int} (h:inT a b=false):qcD a b=(⟨#[]⟩,4):=if_neg (by rw [h];decide)
theorem qxF (m:Nat) (h:m<10^14):(bs (Lib.decDigits m)).size≤14:=by rw [qaB];exact qcA m 13 h
theorem qtD (n:Nat):(bs (qe9 n)).size≤10:=by rw [qaB];exact qtE n
set_option maxHeartbeats 800000 in
theorem qrL (a b:Int) (w:World) (T:Tab w):
  Calls Tryz.prog 181 #[.int .i64 a,.int .i64 b] w fun e w'=>e= .returned (.tuple #[.string (qcD a b).1,.int .i64 (qcD a b).2])∧Below w.heap.size w w':=by
 cases hi:inT a b
 ·have HF:=Lib.hid (qlC hi);have HC:=Lib.hid fun W=>qjR a b W;rw [hi]at HC;clear hi;go_enter Tryz.func181,Tryz.ntmps181;go_wp2_with fail;refine (HC.out _).mono ?_;rintro e w' ⟨rfl,rfl⟩;go_wp2_with fail;go_ret2;exact ⟨by rw [HF.out];rfl,Below.refl _ _⟩
 ·have HF:=Lib.hid (qdN hi);have HC:=Lib.hid fun W=>qjR a b W;obtain ⟨m,n,hm,hn,hc⟩:=qgK a b hi;have hr:=qw4 hi;have z1:=qxF m hm;have z2:=qtD n;have e14:(10:Nat) ^14=100000000000000:=by decide
  have e9:(10:Nat) ^9=1000000000:=by decide
  rw [hi]at HC;have HI:=Lib.hid fun W T=>qh1 m W T (by omega);have HFr:=Lib.hid fun W T=>qtC n W T (by omega);have HA:=Lib.hid (show bs (Lib.decDigits m)++bs (qe9 n)=bs (absT m n) by rw [qeR];rfl);obtain ⟨X,HX⟩:=qaA (bs (Lib.decDigits m));obtain ⟨Y,HY⟩:=qaA (bs (qe9 n));rw [HX.out]at HA HI z1;rw [HY.out]at HA HFr z2;clear hi e14 e9;rcases hc with ⟨h0,e,e2,e3⟩|⟨h0,e,e2⟩
  ·have HN:=Lib.hid fun W=>qoW a b W (by omega) (by omega) (by omega) (by omega);rw [e3]at HN
   have HE:=Lib.hid (show (⟨#[45]⟩:ByteArray)++X++Y=bs (qc3 a b) by
    rw [e,←HX.out,←HY.out,show (⟨#[45]⟩:ByteArray)=bs [45]from rfl,qeR,qeR];rfl)
   have z3:((⟨#[45]⟩:ByteArray)++X).size≤15:=by rw [ByteArray.size_append];show 1+X.size≤15;omega
   clear e e2 e3 hr;go_enter Tryz.func181,Tryz.ntmps181;go_wp2_with fail;refine (HC.out _).mono ?_;rintro e w' ⟨rfl,rfl⟩;go_wp2_with fail;refine (HN.out _).mono ?_;rintro e w' ⟨rfl,rfl⟩;go_wp2_with fail;refine (HI.out _ T).mono ?_;rintro e w1 ⟨rfl,hb1⟩;have T1:=T.below hb1;have HB1:=Lib.hid hb1;clear hb1;go_wp2_with fail;refine (HFr.out _ T1).mono ?_;rintro e w2 ⟨rfl,hb2⟩;have HB2:=Lib.hid (HB1.out.trans (hb2.mono HB1.out.size));clear hb2;go_wp2_with fail;go_ret2;exact ⟨qaU (by rw [HF.out];exact HE.out) (by rw [HF.out]),HB2.out⟩
  ·obtain ⟨rfl,rfl⟩:=Prod.mk.inj e2
   have HE:=Lib.hid (show (⟨#[]⟩:ByteArray)++X++Y=bs (qc3 m n) by
    rw [e,←HX.out,←HY.out,show (⟨#[]⟩:ByteArray)=bs []from rfl,qeR,qeR];rfl)
   have z3:((⟨#[]⟩:ByteArray)++X).size≤15:=by rw [ByteArray.size_append];show 0+X.size≤15;omega
   clear e e2 hr;go_enter Tryz.func181,Tryz.ntmps181;go_wp2_with fail;refine (HC.out _).mono ?_;rintro e w' ⟨rfl,rfl⟩;go_wp2_with fail;refine (HI.out _ T).mono ?_;rintro e w1 ⟨rfl,hb1⟩;have T1:=T.below hb1;have HB1:=Lib.hid hb1;clear hb1;go_wp2_with fail;refine (HFr.out _ T1).mono ?_;rintro e w2 ⟨rfl,hb2⟩;have HB2:=Lib.hid (HB1.out.trans (hb2.mono HB1.out.size));clear hb2;go_wp2_with fail;go_ret2;exact ⟨qaU (by rw [HF.out];exact HE.out) (by rw [HF.out]),HB2.out⟩
theorem q3U (r:Nat) (h:r<10):(⟨#[48,49,50,51,52,53,54,55,56,57]⟩:ByteArray).extract r (r+1)=bs [UInt8.ofNat (48+r)]:=by
 match r,h with
 |0,_=>rfl
 |1,_=>rfl
 |2,_=>rfl
 |3,_=>rfl
 |4,_=>rfl
 |5,_=>rfl
 |6,_=>rfl
 |7,_=>rfl
 |8,_=>rfl
 |9,_=>rfl
theorem q3A (S:ByteArray) (i m q r u:Nat) (full:List UInt8) (hu:10^i=u) (hq:m/u=q) (hr:m%u=r) (hm:m≠0) (h:S.data.toList++fr (i+1) m=full):
  (S++bs [UInt8.ofNat (48+q)]).data.toList++fr i r=full:=by
 rw [←h,fr,if_neg hm,hu,hq,hr,ByteArray.data_append,Array.toList_append,qaH];simp
set_option maxHeartbeats 1600000 in
theorem qbP (a b:Int) (w:World) (T:Tab w):
  Calls Tryz.prog 221 #[.int .i64 a,.int .i64 b] w fun e w'=>e= .returned (.tuple #[.string (qcD a b).1,.int .i64 (qcD a b).2])∧Below w.heap.size w w':=by
 cases hi:inT a b
 ·have HF:=Lib.hid (qlC hi);have HC:=Lib.hid fun W=>qiE a b W;rw [hi]at HC;clear hi;go_enter Tryz.func221,Tryz.ntmps221;go_wp2_with fail;refine (HC.out _).mono ?_;rintro e w' ⟨rfl,rfl⟩;go_wp2_with fail;go_ret2;exact ⟨by rw [HF.out];rfl,Below.refl _ _⟩
 ·have HF:=Lib.hid (qdN hi);have HC:=Lib.hid fun W=>qiE a b W;obtain ⟨m,n,hm,hn,hc⟩:=qgK a b hi;have hr:=qw4 hi;have z1:=qxF m hm;have z2:=qtD n;have e14:(10:Nat) ^14=100000000000000:=by decide
  have e9:(10:Nat) ^9=1000000000:=by decide
  rw [hi]at HC;have HI:=Lib.hid fun W T=>qh1 m W T (by omega);obtain ⟨X,HX⟩:=qaA (bs (Lib.decDigits m));rw [HX.out]at HI z1;clear hi;rcases hc with ⟨h0,e,e2,e3⟩|⟨h0,e,e2⟩
  ·have hab:(b=0∧a= -(m:Int)∧n=0)∨(1≤b∧a= -(m:Int) -1∧b=1000000000-(n:Int)∧1≤n):=by
    have q1:(negV a b).1=(m:Int):=by rw [e3]
    have q2:(negV a b).2=(n:Int):=by rw [e3]
    unfold negV at q1 q2
    by_cases hb:b=0
    ·rw [if_pos hb,if_neg (by omega)]at q1;rw [if_pos hb]at q2;have q1: -a=(m:Int):=q1;have q2:0=(n:Int):=q2;exact .inl ⟨hb,by omega,by omega⟩
    ·rw [if_neg hb,if_neg (by omega)]at q1;rw [if_neg hb]at q2;have q1: -a-1=(m:Int):=q1;have q2:1000000000-b=(n:Int):=q2;exact .inr ⟨by omega,by omega,by omega,by omega⟩
   rcases hab with ⟨rfl,ha,rfl⟩|⟨hb1,ha,hb2,hn1⟩
   ·have HE:=Lib.hid (show (⟨#[45]⟩:ByteArray)++X=bs (qc3 a 0) by
     rw [e,←HX.out,show (⟨#[45]⟩:ByteArray)=bs [45]from rfl,qeR];unfold absT qe9;rw [if_pos rfl,List.append_nil];rfl)
    have hA: -a=(m:Int):=by omega
    clear e e2 e3 hr e14 e9 ha;go_enter Tryz.func221,Tryz.ntmps221;go_wp2_with fail;refine (HC.out _).mono ?_;rintro e w' ⟨rfl,rfl⟩;go_wp2_with fail;refine (HI.out _ T).mono ?_;rintro e w1 ⟨rfl,hb1⟩;have HB1:=Lib.hid hb1;clear hb1;go_wp2_with fail;go_ret2;exact ⟨qaU (by rw [HF.out];exact HE.out) (by rw [HF.out]),HB1.out⟩
   ·have hz:n≠0:=by omega
    have HE:=Lib.hid (show ((⟨#[45]⟩:ByteArray)++X++⟨#[46]⟩).data.toList++fr 9 n=qc3 a b by
     rw [e,←HX.out,show (⟨#[45]⟩:ByteArray)=bs [45]from rfl,show (⟨#[46]⟩:ByteArray)=bs [46]from rfl,qeR,qeR,qaH];unfold absT qe9;rw [if_neg hz];simp)
    have z3:((⟨#[45]⟩:ByteArray)++X).size≤15:=by rw [ByteArray.size_append];show 1+X.size≤15;omega
    have z4:((⟨#[45]⟩:ByteArray)++X++⟨#[46]⟩).size≤16:=by rw [ByteArray.size_append];show ((⟨#[45]⟩:ByteArray)++X).size+1≤16;omega
    have hA: -(a+1)=(m:Int):=by omega
    have hB:1000000000-b=(n:Int):=by omega
    have hz':((n:Int)==0)=false:=by simp [hz]
    have hm':m<1099511627777:=by omega
    clear e e2 e3 e14 ha hb2 hm;obtain ⟨hr1,hr2,hr3,hr4⟩:=hr;go_enter Tryz.func221,Tryz.ntmps221;go_wp2_with fail;refine (HC.out _).mono ?_;rintro e w' ⟨rfl,rfl⟩;go_wp2_with fail;refine (HI.out _ T).mono ?_;rintro e w1 ⟨rfl,hb1⟩;have HB1:=Lib.hid hb1;clear hb1;go_wp2_with fail;obtain ⟨S0,HS0⟩:=qaA ((⟨#[45]⟩:ByteArray)++X++⟨#[46]⟩);rw [HS0.out]at z4 HE⊢
    go_loopw [1,7,8] (fun o s u wr=> ∃(j x:Nat) (S:ByteArray),x<10^j∧j≤9∧S.size+j≤25∧Hid (S.data.toList++fr j x=qc3 a b)∧o= .int .i64 x∧s= .string S∧u= .int .i64 ((10^j/10:Nat):Int)∧Below w.heap.size w wr)
     (fun _ _ u _=>(intOf u).toNat)
    case atStart=>exact ⟨9,n,S0,hn,by omega,by omega,HE.out,rfl,rfl,rfl,HB1.out⟩
    case round=>
     obtain ⟨j,x,S,hx,hj,hs,hE,rfl,rfl,rfl,hB⟩:=hrel
     by_cases hx0:x=0
     ·subst hx0;rw [qm5,List.append_nil]at hE;go_wp2_with fail;go_ret2;exact ⟨qaU (by rw [HF.out];exact qh7 hE.out) (by rw [HF.out]),hB⟩
     ·obtain ⟨i,rfl⟩: ∃i,j=i+1:=⟨j-1,by
       rcases Nat.eq_zero_or_pos j with h|h
       ·subst h;simp at hx;omega
       ·omega⟩
      have hx1:1≤x:=by omega
      have e1:10^(i+1) /10=10^i:=by rw [Nat.pow_succ,Nat.mul_div_cancel _ (by omega)]
      have hd:=qhV hx;have hp:=qcR i;have hp8:(10:Nat) ^i≤10^8:=Nat.pow_le_pow_right (by omega) (by omega);have e8:(10:Nat) ^8=100000000:=by decide
      have hm2:=qeO x i;rw [e8]at hp8;rw [e1];have hxs:x<1000000000:=Nat.lt_of_lt_of_le hx (Nat.le_trans (Nat.pow_le_pow_right (by omega) hj) (by decide));have HST:=Lib.hid fun q r u (hu:10^i=u) (hq:x/u=q) (hr:x%u=r)=>q3A S i x q r u _ hu hq hr hx0 hE.out;have HU:Hid (10^i/10*10≤10^i):=Nat.div_mul_le_self _ _;obtain ⟨u,Hu⟩:=qaA (10^i);rw [Hu.out]at hd hp hp8 hm2 HU⊢;obtain ⟨q,Hq⟩:=qaA (x/u);obtain ⟨r,Hr⟩:=qaA (x%u);rw [Hq.out]at hd;rw [Hr.out]at hm2;have HDG:=Lib.hid (q3U q hd);have hj':i≤8:=by omega
      clear hx0 e1 e8 hE hx hj;go_wp2_with fail;have hu0: ¬(u:Int)=0:=by omega
      have hu1:((u:Int)==0)=false:=by simp;omega
      have y1:Int.tdiv (x:Int) (u:Int)=(q:Int):=by rw [←Hq.out,Int.ofNat_tdiv]
      have y2:Int.tmod (x:Int) (u:Int)=(r:Int):=by rw [←Hr.out,Int.ofNat_tmod]
      have y3:IntKind.i64.wrap ((q:Int)+1)=(q:Int)+1:=IntWalk.i64_in _ (by omega);have y4:IntKind.i64.wrap (q:Int)=(q:Int):=IntWalk.i64_in _ (by omega);have y5:((q:Int)+1).toNat=q+1:=by omega
      have HS2:=Lib.hid (HST.out q r u Hu.out Hq.out Hr.out);have z5:(bs [UInt8.ofNat (48+q)]).size≤1:=Nat.le_refl 1;have hdg:=HDG.out;obtain ⟨dg,Hdg⟩:=qaA (bs [UInt8.ofNat (48+q)]);rw [Hdg.out]at hdg z5 HS2
      go_region
      go_wp2_with fail;go_roundw
      case rel=>exact ⟨i,r,S++dg,by rw [Hu.out];exact hm2,by omega,by rw [ByteArray.size_append];omega,HS2.out,by go_num,rfl,by rw [Hu.out];go_num,hB.drew⟩
      case measure=>
       clear y2 y1 y5 hdg;simp [intOf];omega
  ·obtain ⟨rfl,rfl⟩:=Prod.mk.inj e2
   by_cases hz:n=0
   ·subst hz
    have HE:=Lib.hid (show (⟨#[]⟩:ByteArray)++X=bs (qc3 m (0:Nat)) by
     rw [e,←HX.out,show (⟨#[]⟩:ByteArray)=bs []from rfl,qeR];unfold absT qe9;rw [if_pos rfl,List.append_nil];rfl)
    clear e e2 hr e14 e9;go_enter Tryz.func221,Tryz.ntmps221;go_wp2_with fail;refine (HC.out _).mono ?_;rintro e w' ⟨rfl,rfl⟩;go_wp2_with fail;refine (HI.out _ T).mono ?_;rintro e w1 ⟨rfl,hb1⟩;have HB1:=Lib.hid hb1;clear hb1;go_wp2_with fail;go_ret2;exact ⟨qaU (by rw [HF.out];exact HE.out) (by rw [HF.out]),HB1.out⟩
   ·have hz':((n:Int)==0)=false:=by simp [hz]
    have HE:=Lib.hid (show ((⟨#[]⟩:ByteArray)++X++⟨#[46]⟩).data.toList++fr 9 n=qc3 m n by
     rw [e,←HX.out,show (⟨#[]⟩:ByteArray)=bs []from rfl,show (⟨#[46]⟩:ByteArray)=bs [46]from rfl,qeR,qeR,qaH];unfold absT qe9;rw [if_neg hz];simp)
    have z3:((⟨#[]⟩:ByteArray)++X).size≤15:=by rw [ByteArray.size_append];show 0+X.size≤15;omega
    have z4:((⟨#[]⟩:ByteArray)++X++⟨#[46]⟩).size≤16:=by rw [ByteArray.size_append];show ((⟨#[]⟩:ByteArray)++X).size+1≤16;omega
    clear e e2 hr e14;go_enter Tryz.func221,Tryz.ntmps221;go_wp2_with fail;refine (HC.out _).mono ?_;rintro e w' ⟨rfl,rfl⟩;go_wp2_with fail;refine (HI.out _ T).mono ?_;rintro e w1 ⟨rfl,hb1⟩;have HB1:=Lib.hid hb1;clear hb1;go_wp2_with fail;obtain ⟨S0,HS0⟩:=qaA ((⟨#[]⟩:ByteArray)++X++⟨#[46]⟩);rw [HS0.out]at z4 HE⊢
    go_loopw [1,7,8] (fun o s u wr=> ∃(j x:Nat) (S:ByteArray),x<10^j∧j≤9∧S.size+j≤25∧Hid (S.data.toList++fr j x=qc3 m n)∧o= .int .i64 x∧s= .string S∧u= .int .i64 ((10^j/10:Nat):Int)∧Below w.heap.size w wr)
     (fun _ _ u _=>(intOf u).toNat)
    case atStart=>exact ⟨9,n,S0,hn,by omega,by omega,HE.out,rfl,rfl,rfl,HB1.out⟩
    case round=>
     obtain ⟨j,x,S,hx,hj,hs,hE,rfl,rfl,rfl,hB⟩:=hrel
     by_cases hx0:x=0
     ·subst hx0;rw [qm5,List.append_nil]at hE;go_wp2_with fail;go_ret2;exact ⟨qaU (by rw [HF.out];exact qh7 hE.out) (by rw [HF.out]),hB⟩
     ·obtain ⟨i,rfl⟩: ∃i,j=i+1:=⟨j-1,by
       rcases Nat.eq_zero_or_pos j with h|h
       ·subst h;simp at hx;omega
       ·omega⟩
      have hx1:1≤x:=by omega
      have e1:10^(i+1) /10=10^i:=by rw [Nat.pow_succ,Nat.mul_div_cancel _ (by omega)]
      have hd:=qhV hx;have hp:=qcR i;have hp8:(10:Nat) ^i≤10^8:=Nat.pow_le_pow_right (by omega) (by omega);have e8:(10:Nat) ^8=100000000:=by decide
      have hm2:=qeO x i;rw [e8]at hp8;rw [e1];have hxs:x<1000000000:=Nat.lt_of_lt_of_le hx (Nat.le_trans (Nat.pow_le_pow_right (by omega) hj) (by decide));have HST:=Lib.hid fun q r u (hu:10^i=u) (hq:x/u=q) (hr:x%u=r)=>q3A S i x q r u _ hu hq hr hx0 hE.out;have HU:Hid (10^i/10*10≤10^i):=Nat.div_mul_le_self _ _;obtain ⟨u,Hu⟩:=qaA (10^i);rw [Hu.out]at hd hp hp8 hm2 HU⊢;obtain ⟨q,Hq⟩:=qaA (x/u);obtain ⟨r,Hr⟩:=qaA (x%u);rw [Hq.out]at hd;rw [Hr.out]at hm2;have HDG:=Lib.hid (q3U q hd);have hj':i≤8:=by omega
      clear hx0 e1 e8 hE hx hj;go_wp2_with fail;have hu0: ¬(u:Int)=0:=by omega
      have hu1:((u:Int)==0)=false:=by simp;omega
      have y1:Int.tdiv (x:Int) (u:Int)=(q:Int):=by rw [←Hq.out,Int.ofNat_tdiv]
      have y2:Int.tmod (x:Int) (u:Int)=(r:Int):=by rw [←Hr.out,Int.ofNat_tmod]
      have y3:IntKind.i64.wrap ((q:Int)+1)=(q:Int)+1:=IntWalk.i64_in _ (by omega);have y4:IntKind.i64.wrap (q:Int)=(q:Int):=IntWalk.i64_in _ (by omega);have y5:((q:Int)+1).toNat=q+1:=by omega
      have HS2:=Lib.hid (HST.out q r u Hu.out Hq.out Hr.out);have z5:(bs [UInt8.ofNat (48+q)]).size≤1:=Nat.le_refl 1;have hdg:=HDG.out;obtain ⟨dg,Hdg⟩:=qaA (bs [UInt8.ofNat (48+q)]);rw [Hdg.out]at hdg z5 HS2
      go_region
      go_wp2_with fail;go_roundw
      case rel=>exact ⟨i,r,S++dg,by rw [Hu.out];exact hm2,by omega,by rw [ByteArray.size_append];omega,HS2.out,by go_num,rfl,by rw [Hu.out];go_num,hB.drew⟩
      case measure=>
       clear y2 y1 y5 hdg;simp [intOf];omega
structure Std (w:World):Prop where
 tab:Tab w
 syn: ∃t p,w.cell? ⟨3,0,none⟩=some (.iface t p)
 rng: ∃t p,w.cell? ⟨4,0,none⟩=some (.iface t p)
theorem qpK {w w':World} {b:Nat} {v:Value} (h:w.cell? ⟨b,0,none⟩=some v) (hb:Below w.heap.size w w'):w'.cell? ⟨b,0,none⟩=some v:=by
 have hl:b<w.heap.size:=by
  rcases Nat.lt_or_ge b w.heap.size with h'|h'
  ·exact h'
  ·simp [World.cell?,Array.getElem?_eq_none h']at h
 exact (hb.cell (show (⟨b,0,none⟩:Addr).block<w.heap.size from hl)).trans h
theorem Std.below {w w':World} (h:Std w) (hb:Below w.heap.size w w'):Std w':=by
 obtain ⟨t1,p1,e1⟩:=h.syn;obtain ⟨t2,p2,e2⟩:=h.rng;exact ⟨h.tab.below hb,⟨t1,p1,qpK e1 hb⟩,⟨t2,p2,qpK e2 hb⟩⟩
theorem Std.drewN {w:World} (h:Std w) (n:Nat):Std (w.drewN n):=h.below (below_drewN (Below.refl _ _) n)
theorem qvX (s:ByteArray) (v:Int) (w:World) (hs:s.size≤281474976710656) (h:numO (Lib.atoiAll s.data.toList)=some v):
  Calls Tryz.prog 174 #[.string s] w fun e w'=>e= .returned (.tuple #[.int .i64 v,.nilIface])∧Below w.heap.size w w':=by
 rcases ha:Lib.atoiAll s.data.toList with x|_|_
 ·rw [ha]at h;obtain rfl:x=v:=Option.some.inj h;refine (Any.strconv_Atoi_ok Tryz.laysC172 s (by omega) x ha w).mono ?_;rintro e w' ⟨rfl,hw⟩;refine ⟨rfl,?_⟩;rcases hw with rfl|⟨t,rfl⟩
  ·exact Below.refl _ _
  ·exact Lib.bytesWorld_below _ _ _
 ·rw [ha]at h;cases h
 ·rw [ha]at h;cases h
theorem q4H (s:ByteArray) (w:World) (S:Std w) (hs:s.size≤281474976710656) (h:numO (Lib.atoiAll s.data.toList)=none):
  Calls Tryz.prog 174 #[.string s] w fun e w'=>(∃(x:Int) (N:Nat),e= .returned (.tuple #[.int .i64 x,.iface 265 (.pointer (some ⟨N,0,none⟩))]))∧Below w.heap.size w w':=by
 rcases ha:Lib.atoiAll s.data.toList with x|_|_
 ·rw [ha]at h;cases h
 ·obtain ⟨t,p,e⟩:=S.syn;refine (Any.strconv_Atoi_syntax Tryz.laysC172 s hs ha _ w e (.inr ⟨_,_,rfl⟩)).mono ?_;rintro e w' ⟨N,rfl,-,-,hb⟩;exact ⟨⟨_,N,rfl⟩,hb⟩
 ·obtain ⟨t,p,e⟩:=S.rng;refine (Any.strconv_Atoi_range Tryz.laysC172 s hs ha _ w e (.inr ⟨_,_,rfl⟩)).mono ?_;rintro e w' ⟨N,rfl,-,-,hb⟩;exact ⟨⟨_,N,rfl⟩,hb⟩
theorem cut_hit (s:ByteArray) (k:Nat):s.extract 0 k=bs (s.data.toList.take k)∧s.extract (k+1) s.size=bs (s.data.toList.drop (k+1)):=by
 constructor
 ·apply ByteArray.ext;apply Array.toList_inj.1;rw [ByteArray.data_extract,Array.toList_extract,qaH];simp [List.extract]
 ·apply ByteArray.ext;apply Array.toList_inj.1;rw [qcI,qaH]
set_option maxHeartbeats 400000 in
theorem q6A (s:ByteArray) (c:UInt8) (w:World) (hs:s.size≤maxLen):
  Calls Tryz.prog 323 #[.string s,.string ⟨#[c]⟩] w fun e w'=>e= .returned (.tuple #[.string (bs (s.data.toList.take (pos c s.data.toList))),.string (bs (s.data.toList.drop (pos c s.data.toList+1))),.bool (hasB c s.data.toList)])∧ ∃n,w'=w.drewN n:=by
 unfold maxLen at hs;have hI:=fun W=>Tryz.stringslite_Index_one s c W;rw [qbZ]at hI;have hp:=qeK c s.data.toList;have hb:=qdA c s.data.toList;rw [qaD]at hp hb;cases hh:hasB c s.data.toList
 ·rw [hh]at hI;have HI:Hid (∀W,Calls Tryz.prog 240 #[.string s,.string ⟨#[c]⟩] W fun e w'=>e= .returned (.int .i64 (-1))∧w'=W):=hI;have e1:pos c s.data.toList=s.size:=by rw [hh]at hb;have:=of_decide_eq_false hb.symm;omega
  have HX:=Lib.hid (show s=bs (s.data.toList.take (pos c s.data.toList)) by rw [e1,←qaD,List.take_length,qcJ]);have HY:=Lib.hid (show (⟨#[]⟩:ByteArray)=bs (s.data.toList.drop (pos c s.data.toList+1)) by rw [e1,←qaD,List.drop_of_length_le (by omega)];rfl);rw [←HX.out,←HY.out];clear hI hb hh e1;go_enter Tryz.func323,Tryz.ntmps323;go_wp2_with fail;refine (HI.out _).mono ?_;rintro e w1 ⟨rfl,rfl⟩;go_wp2_with fail
  go_ret3
  exact ⟨rfl,0,rfl⟩
 ·rw [hh]at hI;have hlt:pos c s.data.toList<s.size:=by rw [hh]at hb;exact of_decide_eq_true hb.symm
  obtain ⟨k,Hk⟩:=qaA (pos c s.data.toList);rw [Hk.out]at hI hlt⊢;have HI:Hid (∀W,Calls Tryz.prog 240 #[.string s,.string ⟨#[c]⟩] W fun e w'=>e= .returned (.int .i64 (k:Int))∧w'=W):=hI;obtain ⟨c1,c2⟩:=cut_hit s k;have h1:(⟨#[c]⟩:ByteArray).size=1:=rfl;clear hI hb hh hp;obtain ⟨X,HX⟩:=qaA (bs (s.data.toList.take k));obtain ⟨Y,HY⟩:=qaA (bs (s.data.toList.drop (k+1)));rw [HX.out]at c1⊢;rw [HY.out]at c2⊢;go_enter Tryz.func323,Tryz.ntmps323;go_wp2_with fail;refine (HI.out _).mono ?_;rintro e w1 ⟨rfl,rfl⟩;go_wp2_with fail
  go_region
  go_wp2_with fail
  go_ret3
  exact ⟨rfl,1,rfl⟩
theorem qrN (s:ByteArray) (c:UInt8) (w:World) (hs:s.size≤maxLen):
  Calls Tryz.prog 294 #[.string s,.string ⟨#[c]⟩] w fun e w'=>e= .returned (.tuple #[.string (bs (s.data.toList.take (pos c s.data.toList))),.string (bs (s.data.toList.drop (pos c s.data.toList+1))),.bool (hasB c s.data.toList)])∧ ∃n,w'=w.drewN n:=by
 have HI:=Lib.hid fun W=>q6A s c W hs;go_enter Tryz.func294,Tryz.ntmps294;go_wp2_with fail;refine (HI.out _).mono ?_;rintro e w1 ⟨rfl,n,rfl⟩;go_wp2_with fail
 go_ret3
 exact ⟨rfl,n,rfl⟩
theorem atoi_bd (l:List UInt8) (hl:l.length≤9) (b:Int) (h:numO (Lib.atoiAll l)=some b): -1000000000<b∧b<1000000000:=by
 rw [Lib.atoiAll_short l (by omega)]at h;cases ha:Lib.atoi l with
 |none=>rw [ha]at h;cases h
 |some v=>
  rw [ha]at h;obtain rfl:v=b:=Option.some.inj h
  have key: ∀(r:List UInt8) (m:Nat),r.length≤9→Lib.decFrom 0 r=some m→m<1000000000:=fun r m hr hm=>by
   have h1:=Lib.decFrom_lt r 0 m hm;have h2:(10:Nat) ^r.length≤10^9:=Nat.pow_le_pow_right (by omega) hr;have e9:(10:Nat) ^9=1000000000:=by decide
   omega
  obtain ⟨b0,r,rfl,⟨-,m,-,hm,rfl⟩|⟨-,m,-,hm,rfl⟩|⟨-,-,m,hm,rfl⟩⟩:=Lib.atoi_cases ha
  ·have:=key r m (by simp at hl;omega) hm;omega
  ·have:=key r m (by simp at hl;omega) hm;omega
  ·have:=key _ m hl hm;omega
theorem q6P (d:List UInt8) (b:Int) (h:qjD d=some b): -1000000000<b∧b<1000000000:=by
 unfold qjD at h
 split at h
 ·exact atoi_bd _ (by rw [List.length_append,List.length_replicate];omega) b h
 ·cases h
set_option maxHeartbeats 400000 in
theorem qj3 (d:ByteArray) (w:World) (S:Std w) (hd:d.size≤maxLen):
  Calls Tryz.prog 298 #[.string d] w fun e w'=>(∃x:Int,e= .returned (.tuple #[.int .i64 x,.bool (qjD d.data.toList).isSome])∧ ∀b,qjD d.data.toList=some b→x=b)∧Below w.heap.size w w':=by
 unfold maxLen at hd;have HL:=Lib.hid (qaD d)
 by_cases hl:d.size≤9
 ·obtain ⟨k,hk⟩: ∃k:Nat,k=9-d.size:=⟨_,rfl⟩;have hk2:(9:Int) -(d.size:Int)=(k:Int):=by omega
  have HR:Hid (∀W,Calls Tryz.prog 56 #[.string ⟨#[48]⟩,.int .i64 (k:Int)] W fun e w'=>e= .returned (.string (bs (List.replicate k 48)))∧Below W.heap.size W w'):=fun W=>by
   have e1:Lib.repeatL (⟨#[48]⟩:ByteArray).data.toList k=List.replicate k 48:=by
    have:=Lib.repeatL_replicate 48 1 k;rw [Nat.mul_one]at this;exact this
   have h:=Tryz.strings_Repeat ⟨#[48]⟩ k W (by omega) (by show 1*k≤_;omega);rw [e1]at h;exact h
  have hrs:(bs (List.replicate k (48:UInt8))).size≤9:=by rw [qaB,List.length_replicate];omega
  have hF:qjD d.data.toList=numO (Lib.atoiAll (d++bs (List.replicate k 48)).data.toList):=by
   unfold qjD;rw [HL.out,if_pos hl,ByteArray.data_append,Array.toList_append,qaH,←hk]
  obtain ⟨R,HR2⟩:=qaA (bs (List.replicate k (48:UInt8)));rw [HR2.out]at HR hrs hF;obtain ⟨D,HD⟩:=qaA (d++R);have hds:D.size≤18:=by rw [←HD.out,ByteArray.size_append];omega
  rw [HD.out]at hF;rw [hF];have hk9:k≤9:=by omega
  clear hk;cases ha:numO (Lib.atoiAll D.data.toList)with
  |none=>
   have HA:=Lib.hid fun W S=>q4H D W S (by omega) ha;clear hF ha;go_enter Tryz.func298,Tryz.ntmps298;go_wp2_with fail;refine (HR.out _).mono ?_;rintro e w1 ⟨rfl,hb1⟩;have S1:=S.below hb1;have HB1:=Lib.hid hb1;clear hb1;go_wp2_with fail;rw [HD.out];refine (HA.out _ S1).mono ?_;rintro e w2 ⟨⟨x,N,rfl⟩,hb2⟩;have HB2:=Lib.hid (HB1.out.trans (hb2.mono HB1.out.size));clear hb2;go_wp2_with fail;go_quiet (fail);go_wp2_with fail;go_ret2;exact ⟨⟨_,rfl,fun b h=>by cases h⟩,below_drewN HB2.out _⟩
  |some v=>
   have HA:=Lib.hid fun W=>qvX D v W (by omega) ha;clear hF ha;go_enter Tryz.func298,Tryz.ntmps298;go_wp2_with fail;refine (HR.out _).mono ?_;rintro e w1 ⟨rfl,hb1⟩;have HB1:=Lib.hid hb1;clear hb1;go_wp2_with fail;rw [HD.out];refine (HA.out _).mono ?_;rintro e w2 ⟨rfl,hb2⟩;have HB2:=Lib.hid (HB1.out.trans (hb2.mono HB1.out.size));clear hb2;go_wp2_with fail;go_quiet (fail);go_wp2_with fail;go_ret2;exact ⟨⟨_,rfl,fun b h=>Option.some.inj h⟩,below_drewN HB2.out _⟩
 ·have HF:=Lib.hid (show qjD d.data.toList=none by unfold qjD;rw [HL.out,if_neg hl]);rw [HF.out];go_enter Tryz.func298,Tryz.ntmps298;go_wp2_with fail;go_ret2;exact ⟨⟨_,rfl,fun b h=>by cases h⟩,Below.refl _ _⟩
end Go.Proofs.YtapgoifimhnbdaaGreatDoor
namespace Go.Proofs.YtapgoifimhnbdaaGreatDoor
open Go.RowKit Go.ChangeShapes
theorem qqQ {P:Program} {l:List (String×DataW Unit)} {w:World} {x:String×DataW Unit} (h:laidMet P l w) (hm:x∈l): ∃r,laidMet P (x::r) w:=by
 induction l with
 |nil=>cases hm
 |cons y l ih=>
  rcases List.mem_cons.1 hm with rfl|hm
  ·exact ⟨l,h⟩
  ·exact ih h.tail hm
theorem q5R:(Rows.laid_internal_strconv_uint64pow10:DataW Unit)=Lib.tabData .u64 Lib.pow10Tab:=by kernel_rfl
theorem quB {l:List (String×DataW Unit)} {w:World} (h:laidMetH Tryz.prog l w) (hp:(l.all fun x=>x.2.handleName?.isNone)=true) (hm:("internal/strconv.uint64pow10",Rows.laid_internal_strconv_uint64pow10)∈l):Tab w:=by
 rw [MakeChecks.laidMetH_plain _ _ _ hp]at h;obtain ⟨r,hr⟩:=qqQ h hm;rw [q5R]at hr;exact Lib.tabIs_of_head q28 (by kernel_rfl) Tryz.underlying321 Tryz.underlying158 (by kernel_rfl) (by kernel_rfl) hr
theorem q0I: "*" ++ "errors.errorString" = "*errors.errorString" :=by decide
theorem q7Q (u:TypeId) (h:Tryz.prog.typeName? 3 u=some "*errors.errorString"):u=316:=
 typeName_ptr_named (nm:= "errors.errorString") (by rw [q0I];kernel_rfl) (by kernel_rfl) (by decide) u (by rw [q0I];exact h)
theorem qlY {l:List (String×DataW Unit)} {w:World} (h:laidMetH Tryz.prog l w) (hp:(l.all fun x=>x.2.handleName?.isNone)=true)
  (hm:("internal/strconv.uint64pow10",Rows.laid_internal_strconv_uint64pow10)∈l) (hs:("strconv.ErrSyntax",Rows.laid_strconv_ErrSyntax)∈l) (hr:("strconv.ErrRange",Rows.laid_strconv_ErrRange)∈l):Std w:=by
 refine ⟨quB h hp hm,?_,?_⟩
 ·rw [MakeChecks.laidMetH_plain _ _ _ hp]at h;obtain ⟨r,hr⟩:=qqQ h hs;obtain ⟨a0,s0,hv0,-,-,-⟩:=laid_sentinel hr (show Tryz.prog.globalNamed "strconv.ErrSyntax" =some 3 by kernel_rfl) (by kernel_rfl) Tryz.underlying117 q7Q Tryz.underlying316 Tryz.underlying318 rfl rfl Tryz.underlying9 (by kernel_rfl) (by kernel_rfl);exact ⟨_,_,by have h0:=World.var?_cell (show Tryz.prog.globalNamed "strconv.ErrSyntax" =some 3 by kernel_rfl) hv0 0;simpa using h0⟩
 ·rw [MakeChecks.laidMetH_plain _ _ _ hp]at h;obtain ⟨r,hr⟩:=qqQ h hr;obtain ⟨a0,s0,hv0,-,-,-⟩:=laid_sentinel hr (show Tryz.prog.globalNamed "strconv.ErrRange" =some 4 by kernel_rfl) (by kernel_rfl) Tryz.underlying117 q7Q Tryz.underlying316 Tryz.underlying318 rfl rfl Tryz.underlying9 (by kernel_rfl) (by kernel_rfl);exact ⟨_,_,by have h0:=World.var?_cell (show Tryz.prog.globalNamed "strconv.ErrRange" =some 4 by kernel_rfl) hv0 0;simpa using h0⟩
end Go.Proofs.YtapgoifimhnbdaaGreatDoor
