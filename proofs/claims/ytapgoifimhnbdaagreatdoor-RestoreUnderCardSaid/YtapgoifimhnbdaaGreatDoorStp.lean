/- qaX of one kind, in one file: Var, StpA, StpB. -/
import Derived.Test.YtapgoifimhnbdaaGreatDoorMth
import Derived.Below
import Derived.Test.YtapgoifimhnbdaaGreatDoorMet
import Derived.Test.YtapgoifimhnbdaaGreatDoorShelf
import Derived.LaidLaws
import Derived.Stop.LaidErr
import Derived.Lib.LaidTab
import Derived.IntWalk
import Derived.WalkSmall
import Derived.BigQuiet
import Derived.Deep.QuietTactic
set_option linter.unusedVariables false
namespace Go.Proofs.YtapgoifimhnbdaaGreatDoor
open Go.RowKit
theorem q5U {P:Program} {w:World} {n:String} {g:Nat} {cs:Array Value} (hg:P.globalNamed n=some g) (h:w.var? P n=some cs):g<w.heap.size:=by
 unfold World.var? at h;rw [hg]at h;rcases Nat.lt_or_ge g w.heap.size with h'|h'
 ·exact h'
 ·simp [Array.getElem?_eq_none h']at h
theorem q29 {P:Program} {w w':World} {n:String} {g:Nat} {cs:Array Value} (hg:P.globalNamed n=some g) (h:w.var? P n=some cs) (hb:Below w.heap.size w w'):w'.var? P n=some cs:=by
 have hl:=q5U hg h;unfold World.var? at h⊢;rw [hg]at h⊢;simp only [Option.bind_some]at h⊢;rw [hb.block g hl];exact h
end Go.Proofs.YtapgoifimhnbdaaGreatDoor
set_option maxRecDepth 100000
namespace Go.Proofs.YtapgoifimhnbdaaGreatDoor
open Go.RowKit
open Go.OpenShut
open Go.Sort (grow)
theorem q2R (w:World) (q:Nat) (os:Array Obj):Below w.heap.size w (grow (w.drewN q) os):=
 ⟨rfl,rfl,rfl,by simp [grow],fun i hi=>by
  show ((w.drewN q).heap++os)[i]?=_;rw [Array.getElem?_append_left (by show i<w.heap.size;exact hi)]
  rfl⟩
theorem qoH (a b:List UInt8):bs a++bs b=bs (a++b):=by
 apply ByteArray.ext;simp [bs,ByteArray.data_append]
theorem qzP {s:ByteArray} {l:List UInt8} (h:s.data.toList=l):s=bs l:=by rw [←h,qgJ]
theorem qd3 (s:ByteArray) (k:Nat):(s.extract k s.size).data.toList=s.data.toList.drop k:=by
 rw [ByteArray.data_extract,Array.toList_extract];simp [List.extract];rw [List.take_of_length_le (by simp)]
theorem qaH (s:ByteArray):s.data.toList.length=s.size:=by simp
def Tab (w:World):Prop:=Lib.TabIs Tryz.prog w "internal/strconv.uint64pow10" .u64 Lib.pow10Tab
theorem q6T:Tryz.prog.globalNamed "internal/strconv.uint64pow10" =some 5:=by kernel_rfl
theorem Tab.below {w w':World} (h:Tab w) (hb:Below w.heap.size w w'):Tab w':=q29 q6T h hb
theorem qs1 (n:Int) (w:World) (T:Tab w) (h0: -9223372036854775808≤n) (h1:n≤9223372036854775807):
  Calls Tryz.prog 184 #[.int .i64 n] w fun e w'=>e= .returned (.string (bs (Lib.itoa n)))∧Below w.heap.size w w':=by
 refine (Tryz.strconv_Itoa n h0 h1 w T).mono ?_;rintro e w' ⟨rfl,k,os,rfl⟩;exact ⟨rfl,q2R w k os⟩
theorem ql7 (n:Nat) (w:World) (T:Tab w) (h1:n≤9223372036854775807):
  Calls Tryz.prog 184 #[.int .i64 (n:Int)] w fun e w'=>e= .returned (.string (bs (Lib.decDigits n)))∧Below w.heap.size w w':=by
 have h:=qs1 (n:Int) w T (by omega) (by omega);rw [Lib.itoa_nonneg]at h;exact h
set_option maxHeartbeats 400000 in
theorem qpV (a b:Int) (w:World) (h0: -9223372036854775808≤a) (h1:a≤9223372036854775807) (h2: -1000000000≤b) (h3:b≤1000000000):
  Calls Tryz.prog 226 #[.int .i64 a,.int .i64 b] w fun e w'=>e= .returned (.tuple #[.int .i64 (negV a b).1,.int .i64 (negV a b).2])∧w=w':=by
 by_cases hb:b=0
 ·subst hb
  by_cases ha:a= -9223372036854775808
  ·subst ha;go_enter Tryz.func226,Tryz.ntmps226;go_wp2;go_ret2;exact ⟨qeY (show wrap64 9223372036854775808= -9223372036854775808 by kernel_rfl) rfl,rfl⟩
  ·have HN:=Lib.hid (show negV a 0=(-a,0) by unfold negV;rw [if_pos rfl,if_neg ha]);have h4: -9223372036854775807≤a:=by omega
   clear ha h0;go_enter Tryz.func226,Tryz.ntmps226;go_wp2;go_ret2;exact ⟨qeY (by rw [HN.out];try (show wrap64 (wrap64 9223372036854775808-1)=9223372036854775807;kernel_rfl)) (by rw [HN.out]),rfl⟩
 ·have hb':(b==0)=false:=by simpa using hb
  by_cases ha:a= -9223372036854775808
  ·subst ha;have HN:=Lib.hid (show negV (-9223372036854775808) b=(9223372036854775807,1000000000-b) by unfold negV;rw [if_neg hb,if_pos rfl]);clear hb;go_enter Tryz.func226,Tryz.ntmps226;go_wp2;go_ret2;exact ⟨qeY (by rw [HN.out];try (show wrap64 (wrap64 9223372036854775808-1)=9223372036854775807;kernel_rfl)) (by rw [HN.out]),rfl⟩
  ·have HN:=Lib.hid (show negV a b=(-a-1,1000000000-b) by unfold negV;rw [if_neg hb,if_neg ha]);have h4: -9223372036854775807≤a:=by omega
   clear ha h0 hb;go_enter Tryz.func226,Tryz.ntmps226;go_wp2;go_ret2;exact ⟨qeY (by rw [HN.out];try (show wrap64 (wrap64 9223372036854775808-1)=9223372036854775807;kernel_rfl)) (by rw [HN.out]),rfl⟩
set_option maxHeartbeats 400000 in
theorem quV (n:Nat) (w:World) (T:Tab w) (hn:n<1000000000):
  Calls Tryz.prog 227 #[.int .i64 (n:Int)] w fun e w'=>e= .returned (.string (bs (qlP n)))∧Below w.heap.size w w':=by
 by_cases h0:n=0
 ·subst h0;go_enter Tryz.func227,Tryz.ntmps227;go_wp2;go_ret;exact ⟨rfl,Below.refl _ _⟩
 ·have h0':((n:Int)==0)=false:=by simp [h0]
  have h1:1≤n:=by omega
  have e9:(10:Nat) ^9=1000000000:=by decide
  have hL:=qoZ 9 n (by omega);rw [e9]at hL;obtain ⟨X,HX⟩:=qaA (bs (Lib.decDigits (1000000000+n)));have HD:Hid (X.data.toList=49::d10 9 n):=by unfold Hid;rw [←HX.out,qaF,hL]
  have hs:X.size=10:=by rw [←qaH,HD.out,List.length_cons,qqE]
  obtain ⟨Y,HY⟩:=qaA (X.extract 1 X.size);have HYd:Hid (Y.data.toList=d10 9 n):=by unfold Hid;rw [←HY.out,qd3,HD.out];rfl
  have hys:Y.size≤10:=by rw [←qaH,HYd.out,qqE];omega
  have HF:=Lib.hid (show (⟨#[46]⟩:ByteArray)++bs (fr 9 n)=bs (qlP n) by
   rw [show (⟨#[46]⟩:ByteArray)=bs [46]from rfl,qoH];unfold qlP;rw [if_neg h0];rfl)
  have hfs:(bs (fr 9 n)).size≤9:=by rw [qaC];exact q6X 9 n
  obtain ⟨Z,HZ⟩:=qaA (bs (fr 9 n));rw [HZ.out]at HF hfs
  have HI:Hid (∀W,Tab W→Calls Tryz.prog 184 #[.int .i64 (1000000000+(n:Int))] W fun e w'=>e= .returned (.string X)∧Below W.heap.size W w'):=fun W TW=>by
   have h:=ql7 (1000000000+n) W TW (by omega);rw [HX.out,Int.natCast_add]at h;exact h
  have HT:Hid (∀W,Calls Tryz.prog 273 #[.string Y,.string ⟨#[48]⟩] W fun e w'=>e= .returned (.string Z)∧w'=W):=fun W=>by
   have h:=Tryz.strings_TrimRight_one Y 48 (by decide) W (by omega);rw [HYd.out,q3K 9 n (by omega)]at h;rw [←HZ.out];exact h
  rw [←HF.out];have hs1:1≤X.size:=by omega
  have hs2:X.size≤10:=by omega
  clear hL h0 hs;go_enter Tryz.func227,Tryz.ntmps227;go_wp2_with fail;refine (HI.out _ T).mono ?_;rintro e w1 ⟨rfl,hb1⟩;have HB:=Lib.hid hb1;clear hb1;go_wp2_with fail;rw [HY.out];refine (HT.out _).mono ?_;rintro e w2 ⟨rfl,rfl⟩;go_wp2_with fail;go_ret;exact ⟨rfl,HB.out⟩
end Go.Proofs.YtapgoifimhnbdaaGreatDoor
namespace Go.Proofs.YtapgoifimhnbdaaGreatDoor
open Go.RowKit
open Go.OpenShut
theorem qiT {a b:Int} (h:inT a b=true):qe8 a b=(bs (qgM a b),0):=if_pos h
theorem qyB {a b:Int} (h:inT a b=false):qe8 a b=(⟨#[]⟩,4):=if_neg (by rw [h];decide)
theorem zcI (m:Nat) (h:m<10^14):(bs (Lib.decDigits m)).size≤14:=by rw [qaC];exact qcX m 13 h
theorem q6V (n:Nat):(bs (qlP n)).size≤10:=by rw [qaC];exact quW n
set_option maxHeartbeats 800000 in
theorem qs0 (a b:Int) (w:World) (T:Tab w):
  Calls Tryz.prog 181 #[.int .i64 a,.int .i64 b] w fun e w'=>e= .returned (.tuple #[.string (qe8 a b).1,.int .i64 (qe8 a b).2])∧Below w.heap.size w w':=by
 cases hi:inT a b
 ·have HF:=Lib.hid (qyB hi);have HC:=Lib.hid fun W=>qjZ a b W;rw [hi]at HC;clear hi;go_enter Tryz.func181,Tryz.ntmps181;go_wp2_with fail;refine (HC.out _).mono ?_;rintro e w' ⟨rfl,rfl⟩;go_wp2_with fail;go_ret2;exact ⟨by rw [HF.out];rfl,Below.refl _ _⟩
 ·have HF:=Lib.hid (qiT hi);have HC:=Lib.hid fun W=>qjZ a b W;obtain ⟨m,n,hm,hn,hc⟩:=qmB a b hi;have hr:=q6D hi;have z1:=zcI m hm;have z2:=q6V n;have e14:(10:Nat) ^14=100000000000000:=by decide
  have e9:(10:Nat) ^9=1000000000:=by decide
  rw [hi]at HC;have HI:=Lib.hid fun W T=>ql7 m W T (by omega);have HFr:=Lib.hid fun W T=>quV n W T (by omega);have HA:=Lib.hid (show bs (Lib.decDigits m)++bs (qlP n)=bs (absT m n) by rw [qoH];rfl);obtain ⟨X,HX⟩:=qaA (bs (Lib.decDigits m));obtain ⟨Y,HY⟩:=qaA (bs (qlP n));rw [HX.out]at HA HI z1;rw [HY.out]at HA HFr z2;clear hi e14 e9;rcases hc with ⟨h0,e,e2,e3⟩|⟨h0,e,e2⟩
  ·have HN:=Lib.hid fun W=>qpV a b W (by omega) (by omega) (by omega) (by omega);rw [e3]at HN
   have HE:=Lib.hid (show (⟨#[45]⟩:ByteArray)++X++Y=bs (qgM a b) by
    rw [e,←HX.out,←HY.out,show (⟨#[45]⟩:ByteArray)=bs [45]from rfl,qoH,qoH];rfl)
   have z3:((⟨#[45]⟩:ByteArray)++X).size≤15:=by rw [ByteArray.size_append];show 1+X.size≤15;omega
   clear e e2 e3 hr;go_enter Tryz.func181,Tryz.ntmps181;go_wp2_with fail;refine (HC.out _).mono ?_;rintro e w' ⟨rfl,rfl⟩;go_wp2_with fail;refine (HN.out _).mono ?_;rintro e w' ⟨rfl,rfl⟩;go_wp2_with fail;refine (HI.out _ T).mono ?_;rintro e w1 ⟨rfl,hb1⟩;have T1:=T.below hb1;have HB1:=Lib.hid hb1;clear hb1;go_wp2_with fail;refine (HFr.out _ T1).mono ?_;rintro e w2 ⟨rfl,hb2⟩;have HB2:=Lib.hid (HB1.out.trans (hb2.mono HB1.out.size));clear hb2;go_wp2_with fail;go_ret2;exact ⟨qcJ (by rw [HF.out];exact HE.out) (by rw [HF.out]),HB2.out⟩
  ·obtain ⟨rfl,rfl⟩:=Prod.mk.inj e2
   have HE:=Lib.hid (show (⟨#[]⟩:ByteArray)++X++Y=bs (qgM m n) by
    rw [e,←HX.out,←HY.out,show (⟨#[]⟩:ByteArray)=bs []from rfl,qoH,qoH];rfl)
   have z3:((⟨#[]⟩:ByteArray)++X).size≤15:=by rw [ByteArray.size_append];show 0+X.size≤15;omega
   clear e e2 hr;go_enter Tryz.func181,Tryz.ntmps181;go_wp2_with fail;refine (HC.out _).mono ?_;rintro e w' ⟨rfl,rfl⟩;go_wp2_with fail;refine (HI.out _ T).mono ?_;rintro e w1 ⟨rfl,hb1⟩;have T1:=T.below hb1;have HB1:=Lib.hid hb1;clear hb1;go_wp2_with fail;refine (HFr.out _ T1).mono ?_;rintro e w2 ⟨rfl,hb2⟩;have HB2:=Lib.hid (HB1.out.trans (hb2.mono HB1.out.size));clear hb2;go_wp2_with fail;go_ret2;exact ⟨qcJ (by rw [HF.out];exact HE.out) (by rw [HF.out]),HB2.out⟩
end Go.Proofs.YtapgoifimhnbdaaGreatDoor
