/- qaX of one kind, in one file: Tim, MetA, MetO. -/
import Derived.Test.YtapgoifimhnbdaaGreatDoorMth
import Derived.WalkSmall
import Derived.Test.YtapgoifimhnbdaaGreatDoorFld
import Derived.Below
import Derived.Test.YtapgoifimhnbdaaGreatDoorArb
set_option linter.unusedVariables false
set_option maxRecDepth 100000
namespace Go.Proofs.YtapgoifimhnbdaaGreatDoor
open Go.RowKit
open Go.OpenShut
set_option maxHeartbeats 400000 in
theorem qjZ (a b:Int) (w:World):Calls Tryz.prog 162 #[.int .i64 a,.int .i64 b] w fun e w'=>e= .returned (.int .i64 (if inT a b=true then 0 else 4))∧w=w':=by
 by_cases h: -1099511627776≤a∧a≤1099511627776∧0≤b∧b≤999999999
 ·rw [if_pos (zd1 h)];obtain ⟨h1,h2,h3,h4⟩:=h;go_enter Tryz.func162,Tryz.ntmps162;go_wp2;go_ret;exact ⟨rfl,rfl⟩
 ·rw [if_neg (by rw [inT_no h];decide)];rcases (show a< -1099511627776∨(¬a< -1099511627776∧1099511627776<a)∨(¬a< -1099511627776∧ ¬1099511627776<a∧b<0)∨(¬a< -1099511627776∧ ¬1099511627776<a∧ ¬b<0∧999999999<b) by omega)with h1|⟨h1,h2⟩|⟨h1,h2,h3⟩|⟨h1,h2,h3,h4⟩
  all_goals
   clear h;go_enter Tryz.func162,Tryz.ntmps162;go_wp2;go_ret;exact ⟨rfl,rfl⟩
set_option maxHeartbeats 400000 in
theorem q1X (n:Int) (w:World):Calls Tryz.prog 159 #[.int .i64 n] w fun e w'=>e= .returned (.bool (mdB n))∧w=w':=by
 by_cases h0:0≤n
 ·by_cases h1:n≤4095
  ·rw [q5Q ⟨h0,h1⟩];go_enter Tryz.func159,Tryz.ntmps159;go_wp2;go_ret;exact ⟨rfl,rfl⟩
  ·rw [zdY (by omega)];go_enter Tryz.func159,Tryz.ntmps159;go_wp2;go_ret;exact ⟨rfl,rfl⟩
 ·rw [zdY (by omega)];go_enter Tryz.func159,Tryz.ntmps159;go_wp2;go_ret;exact ⟨rfl,rfl⟩
set_option maxHeartbeats 400000 in
theorem qy5 (n:Int) (w:World):Calls Tryz.prog 160 #[.int .i64 n] w fun e w'=>e= .returned (.bool (idB n))∧w=w':=by
 by_cases h0:0≤n
 ·by_cases h1:n≤1125899906842624
  ·rw [qxC ⟨h0,h1⟩];go_enter Tryz.func160,Tryz.ntmps160;go_wp2;go_ret;exact ⟨rfl,rfl⟩
  ·rw [zd4 (by omega)];go_enter Tryz.func160,Tryz.ntmps160;go_wp2;go_ret;exact ⟨rfl,rfl⟩
 ·rw [zd4 (by omega)];go_enter Tryz.func160,Tryz.ntmps160;go_wp2;go_ret;exact ⟨rfl,rfl⟩
set_option maxHeartbeats 400000 in
theorem qnM (s:ByteArray) (w:World) (hs:s.size≤maxLen):Calls Tryz.prog 161 #[.string s] w fun e w'=>e= .returned (.bool (hasB 0 s.data.toList))∧w=w':=by
 have hl:=qgE 0 s.data.toList;rw [show s.data.toList.length=s.size by simp]at hl;unfold maxLen at hs;cases hz:hasB 0 s.data.toList
 ·have HI:=Lib.hid (qbY s w hz);clear hz;go_enter Tryz.func161,Tryz.ntmps161;go_wp2_with fail;refine HI.out.mono ?_;rintro e w' ⟨rfl,rfl⟩;go_wp2_with fail;go_ret;exact ⟨rfl,rfl⟩
 ·have HI:=Lib.hid (qb4 s w hz);clear hz;go_enter Tryz.func161,Tryz.ntmps161;go_wp2_with fail;refine HI.out.mono ?_;rintro e w' ⟨rfl,rfl⟩;go_wp2_with fail;go_ret;exact ⟨rfl,rfl⟩
def metA (m:MetaV):Array Value:= #[.int .i64 m.mode,.int .i64 m.uid,.int .i64 m.gid,.string (bs m.user),.string (bs m.group),.int .i64 m.second,.int .i64 m.nano]
def MetaV.sz (m:MetaV):Prop:=m.user.length≤140737488351232∧m.group.length≤140737488351232
theorem qw4 (a b:Int) (w:World):Calls Tryz.prog 162 #[.int .i64 a,.int .i64 b] w fun e w'=>e= .returned (.int .i64 (inE a b))∧w=w':=qjZ a b w
set_option maxHeartbeats 1000000 in
theorem qlB (m:MetaV) (hm:m.sz) (w:World):Calls Tryz.prog 105 #[.agg (metA m)] w fun e w'=>e= .returned (.int .i64 (metE m))∧Below w.heap.size w w':=by
 obtain ⟨mode,uid,gid,user,group,sec,nano⟩:=m;obtain ⟨z1,z2⟩:=hm;simp only at z1 z2;unfold metA;simp only;have s1:=qaC user;have s2:=qaC group;have i1:=fun W=>q1X mode W;have i2:=fun W=>qy5 uid W;have i3:=fun W=>qy5 gid W;have i4:=fun W=>qnM (bs user) W (by rw [s1];unfold maxLen;omega);have i5:=fun W=>qnM (bs group) W (by rw [s2];unfold maxLen;omega);have I6:=Lib.hid fun W=>qw4 sec nano W;rw [qaF]at i4 i5;cases c1:mdB mode
 ·have HX:=Lib.hid (qkD (m:=⟨mode,uid,gid,user,group,sec,nano⟩) (by simp only [c1];rfl));rw [HX.out];rw [c1]at i1;have I1:=Lib.hid i1;clear i1 i2 i3 i4 i5 c1 HX;go_enter Tryz.func105,Tryz.ntmps105;go_wp2_with fail;refine (I1.out _).mono ?_;rintro e w' ⟨rfl,rfl⟩;go_wp2_with fail;go_ret;exact ⟨rfl,(Below.refl _ _).alloc (Nat.le_refl _) _⟩
 rw [c1]at i1;have I1:=Lib.hid i1;cases c2:idB uid
 ·have HX:=Lib.hid (qkD (m:=⟨mode,uid,gid,user,group,sec,nano⟩) (by simp only [c1,c2];rfl));rw [HX.out];rw [c2]at i2;have I2:=Lib.hid i2;clear i1 i2 i3 i4 i5 c1 c2 HX;go_enter Tryz.func105,Tryz.ntmps105;go_wp2_with fail;refine (I1.out _).mono ?_;rintro e w' ⟨rfl,rfl⟩;go_wp2_with fail;refine (I2.out _).mono ?_;rintro e w' ⟨rfl,rfl⟩;go_wp2_with fail;go_ret;exact ⟨rfl,(Below.refl _ _).alloc (Nat.le_refl _) _⟩
 rw [c2]at i2;have I2:=Lib.hid i2;cases c3:idB gid
 ·have HX:=Lib.hid (qkD (m:=⟨mode,uid,gid,user,group,sec,nano⟩) (by simp only [c1,c2,c3];rfl));rw [HX.out];rw [c3]at i3;have I3:=Lib.hid i3;clear i1 i2 i3 i4 i5 c1 c2 c3 HX;go_enter Tryz.func105,Tryz.ntmps105;go_wp2_with fail;refine (I1.out _).mono ?_;rintro e w' ⟨rfl,rfl⟩;go_wp2_with fail;refine (I2.out _).mono ?_;rintro e w' ⟨rfl,rfl⟩;go_wp2_with fail;refine (I3.out _).mono ?_;rintro e w' ⟨rfl,rfl⟩;go_wp2_with fail;go_ret;exact ⟨rfl,(Below.refl _ _).alloc (Nat.le_refl _) _⟩
 rw [c3]at i3;have I3:=Lib.hid i3;have HR:=Lib.hid (show (mdB mode&&idB uid&&idB gid)=true by simp only [c1,c2,c3];rfl);clear i1 i2 i3 c1 c2 c3
 by_cases h1:60<(bs user).size
 ·have HX:=Lib.hid (quE (m:=⟨mode,uid,gid,user,group,sec,nano⟩) HR.out (.inl (by rw [←s1];exact h1)));rw [HX.out];clear i4 i5 HX HR s1 s2;go_enter Tryz.func105,Tryz.ntmps105;go_wp2_with fail;refine (I1.out _).mono ?_;rintro e w' ⟨rfl,rfl⟩;go_wp2_with fail;refine (I2.out _).mono ?_;rintro e w' ⟨rfl,rfl⟩;go_wp2_with fail;refine (I3.out _).mono ?_;rintro e w' ⟨rfl,rfl⟩;go_wp2_with fail;go_ret;exact ⟨rfl,(Below.refl _ _).alloc (Nat.le_refl _) _⟩
 by_cases h2:60<(bs group).size
 ·have HX:=Lib.hid (quE (m:=⟨mode,uid,gid,user,group,sec,nano⟩) HR.out (.inr (by rw [←s2];exact h2)));rw [HX.out];clear i4 i5 HX HR s1 s2;go_enter Tryz.func105,Tryz.ntmps105;go_wp2_with fail;refine (I1.out _).mono ?_;rintro e w' ⟨rfl,rfl⟩;go_wp2_with fail;refine (I2.out _).mono ?_;rintro e w' ⟨rfl,rfl⟩;go_wp2_with fail;refine (I3.out _).mono ?_;rintro e w' ⟨rfl,rfl⟩;go_wp2_with fail;go_ret;exact ⟨rfl,(Below.refl _ _).alloc (Nat.le_refl _) _⟩
 have HS:=Lib.hid (show¬(60<user.length∨60<group.length) by rw [←s1,←s2];omega);have g1:(bs user).size≤60:=by omega
 have g2:(bs group).size≤60:=by omega
 clear s1 s2 h1 h2 z1 z2;cases c4:hasB 0 user
 ·cases c5:hasB 0 group
  ·have HX:=Lib.hid (quD (m:=⟨mode,uid,gid,user,group,sec,nano⟩) HR.out HS.out (by simp only [c4,c5];rfl));rw [HX.out];rw [c4]at i4;rw [c5]at i5;have I4:=Lib.hid i4;have I5:=Lib.hid i5;clear i4 i5 c4 c5 HX HR HS;go_enter Tryz.func105,Tryz.ntmps105;go_wp2_with fail;refine (I1.out _).mono ?_;rintro e w' ⟨rfl,rfl⟩;go_wp2_with fail;refine (I2.out _).mono ?_;rintro e w' ⟨rfl,rfl⟩;go_wp2_with fail;refine (I3.out _).mono ?_;rintro e w' ⟨rfl,rfl⟩;go_wp2_with fail;refine (I4.out _).mono ?_;rintro e w' ⟨rfl,rfl⟩;go_wp2_with fail;refine (I5.out _).mono ?_;rintro e w' ⟨rfl,rfl⟩;go_wp2_with fail;refine (I6.out _).mono ?_;rintro e w' ⟨rfl,rfl⟩;go_wp2_with fail;go_ret;exact ⟨rfl,(Below.refl _ _).alloc (Nat.le_refl _) _⟩
  ·have HX:=Lib.hid (quF (m:=⟨mode,uid,gid,user,group,sec,nano⟩) HR.out HS.out (by simp only [c4,c5];rfl));rw [HX.out];rw [c4]at i4;rw [c5]at i5;have I4:=Lib.hid i4;have I5:=Lib.hid i5;clear i4 i5 c4 c5 HX HR HS;go_enter Tryz.func105,Tryz.ntmps105;go_wp2_with fail;refine (I1.out _).mono ?_;rintro e w' ⟨rfl,rfl⟩;go_wp2_with fail;refine (I2.out _).mono ?_;rintro e w' ⟨rfl,rfl⟩;go_wp2_with fail;refine (I3.out _).mono ?_;rintro e w' ⟨rfl,rfl⟩;go_wp2_with fail;refine (I4.out _).mono ?_;rintro e w' ⟨rfl,rfl⟩;go_wp2_with fail;refine (I5.out _).mono ?_;rintro e w' ⟨rfl,rfl⟩;go_wp2_with fail;go_ret;exact ⟨rfl,(Below.refl _ _).alloc (Nat.le_refl _) _⟩
 ·have HX:=Lib.hid (quF (m:=⟨mode,uid,gid,user,group,sec,nano⟩) HR.out HS.out (by simp only [c4];rfl));rw [HX.out];rw [c4]at i4;have I4:=Lib.hid i4;clear i4 i5 c4 HX HR HS;go_enter Tryz.func105,Tryz.ntmps105;go_wp2_with fail;refine (I1.out _).mono ?_;rintro e w' ⟨rfl,rfl⟩;go_wp2_with fail;refine (I2.out _).mono ?_;rintro e w' ⟨rfl,rfl⟩;go_wp2_with fail;refine (I3.out _).mono ?_;rintro e w' ⟨rfl,rfl⟩;go_wp2_with fail;refine (I4.out _).mono ?_;rintro e w' ⟨rfl,rfl⟩;go_wp2_with fail;go_ret;exact ⟨rfl,(Below.refl _ _).alloc (Nat.le_refl _) _⟩
end Go.Proofs.YtapgoifimhnbdaaGreatDoor
namespace Go.Proofs.YtapgoifimhnbdaaGreatDoor
open Go.RowKit
open Go.OpenShut
open Go.ChangeShapes Go.WideShapes Go.Deep
section
variable {H:Type} {enc:TypeId×Value→H} {w:World} {base:Nat} {spare:Nat→Bool} {held:Bool}
def MetaV.wf (m:MetaV):Prop:=m.sz∧
 (Lit.int .i64 m.mode).wf=true∧(Lit.int .i64 m.uid).wf=true∧(Lit.int .i64 m.gid).wf=true∧(Lit.int .i64 m.second).wf=true∧(Lit.int .i64 m.nano).wf=true
end
end Go.Proofs.YtapgoifimhnbdaaGreatDoor
