/- qaV of one kind, in one file: Tim, MetA, MetO. -/
import Derived.Test.YtapgoifimhnbdaaGreatDoorMth
import Derived.WalkSmall
import Derived.Test.YtapgoifimhnbdaaGreatDoorFld
import Derived.Test.YtapgoifimhnbdaaGreatDoorArb
import Derived.Below
set_option linter.unusedVariables false
set_option maxRecDepth 100000
namespace Go.Proofs.YtapgoifimhnbdaaGreatDoor
open Go.RowKit
open Go.OpenShut
set_option maxHeartbeats 400000 in
theorem qjR (a b:Int) (w:World):Calls Tryz.prog 162 #[.int .i64 a,.int .i64 b] w fun e w'=>e= .returned (.int .i64 (if inT a b=true then 0 else 4))∧w=w':=by
 by_cases h: -1099511627776≤a∧a≤1099511627776∧0≤b∧b≤999999999
 ·rw [if_pos (q7W h)];obtain ⟨h1,h2,h3,h4⟩:=h;go_enter Tryz.func162,Tryz.ntmps162;go_wp2;go_ret;exact ⟨rfl,rfl⟩
 ·rw [if_neg (by rw [q7V h];decide)];rcases (show a< -1099511627776∨(¬a< -1099511627776∧1099511627776<a)∨(¬a< -1099511627776∧ ¬1099511627776<a∧b<0)∨(¬a< -1099511627776∧ ¬1099511627776<a∧ ¬b<0∧999999999<b) by omega)with h1|⟨h1,h2⟩|⟨h1,h2,h3⟩|⟨h1,h2,h3,h4⟩
  all_goals
   clear h;go_enter Tryz.func162,Tryz.ntmps162;go_wp2;go_ret;exact ⟨rfl,rfl⟩
set_option maxHeartbeats 400000 in
theorem qiE (a b:Int) (w:World):Calls Tryz.prog 179 #[.int .i64 a,.int .i64 b] w fun e w'=>e= .returned (.int .i64 (if inT a b=true then 0 else 4))∧w=w':=by
 by_cases h: -1099511627776≤a∧a≤1099511627776∧0≤b∧b≤999999999
 ·rw [if_pos (q7W h)];obtain ⟨h1,h2,h3,h4⟩:=h;go_enter Tryz.func179,Tryz.ntmps179;go_wp2;go_ret;exact ⟨rfl,rfl⟩
 ·rw [if_neg (by rw [q7V h];decide)];rcases (show a< -1099511627776∨(¬a< -1099511627776∧1099511627776<a)∨(¬a< -1099511627776∧ ¬1099511627776<a∧b<0)∨(¬a< -1099511627776∧ ¬1099511627776<a∧ ¬b<0∧1000000000≤b) by omega)with h1|⟨h1,h2⟩|⟨h1,h2,h3⟩|⟨h1,h2,h3,h4⟩
  all_goals
   clear h;go_enter Tryz.func179,Tryz.ntmps179;go_wp2;go_ret;exact ⟨rfl,rfl⟩
set_option maxHeartbeats 400000 in
theorem qzC (n:Int) (w:World):Calls Tryz.prog 159 #[.int .i64 n] w fun e w'=>e= .returned (.bool (mdB n))∧w=w':=by
 by_cases h0:0≤n
 ·by_cases h1:n≤4095
  ·rw [mdB_yes ⟨h0,h1⟩];go_enter Tryz.func159,Tryz.ntmps159;go_wp2;go_ret;exact ⟨rfl,rfl⟩
  ·rw [q7S (by omega)];go_enter Tryz.func159,Tryz.ntmps159;go_wp2;go_ret;exact ⟨rfl,rfl⟩
 ·rw [q7S (by omega)];go_enter Tryz.func159,Tryz.ntmps159;go_wp2;go_ret;exact ⟨rfl,rfl⟩
set_option maxHeartbeats 400000 in
theorem qw0 (n:Int) (w:World):Calls Tryz.prog 160 #[.int .i64 n] w fun e w'=>e= .returned (.bool (idB n))∧w=w':=by
 by_cases h0:0≤n
 ·by_cases h1:n≤1125899906842624
  ·rw [idB_yes ⟨h0,h1⟩];go_enter Tryz.func160,Tryz.ntmps160;go_wp2;go_ret;exact ⟨rfl,rfl⟩
  ·rw [q70 (by omega)];go_enter Tryz.func160,Tryz.ntmps160;go_wp2;go_ret;exact ⟨rfl,rfl⟩
 ·rw [q70 (by omega)];go_enter Tryz.func160,Tryz.ntmps160;go_wp2;go_ret;exact ⟨rfl,rfl⟩
set_option maxHeartbeats 400000 in
theorem qm1 (s:ByteArray) (w:World) (hs:s.size≤maxLen):Calls Tryz.prog 161 #[.string s] w fun e w'=>e= .returned (.bool (hasB 0 s.data.toList))∧w=w':=by
 have hl:=qeK 0 s.data.toList;rw [show s.data.toList.length=s.size by simp]at hl;unfold maxLen at hs;cases hz:hasB 0 s.data.toList
 ·have HI:=Lib.hid (qb1 s w hz);clear hz;go_enter Tryz.func161,Tryz.ntmps161;go_wp2_with fail;refine HI.out.mono ?_;rintro e w' ⟨rfl,rfl⟩;go_wp2_with fail;go_ret;exact ⟨rfl,rfl⟩
 ·have HI:=Lib.hid (qcB s w hz);clear hz;go_enter Tryz.func161,Tryz.ntmps161;go_wp2_with fail;refine HI.out.mono ?_;rintro e w' ⟨rfl,rfl⟩;go_wp2_with fail;go_ret;exact ⟨rfl,rfl⟩
def metA (m:MetaV):Array Value:= #[.int .i64 m.mode,.int .i64 m.uid,.int .i64 m.gid,.string (bs m.user),.string (bs m.group),.int .i64 m.second,.int .i64 m.nano]
def MetaV.sz (m:MetaV):Prop:=m.user.length≤140737488351232∧m.group.length≤140737488351232
theorem quY (a b:Int) (w:World):Calls Tryz.prog 162 #[.int .i64 a,.int .i64 b] w fun e w'=>e= .returned (.int .i64 (inE a b))∧w=w':=qjR a b w
set_option maxHeartbeats 1000000 in
theorem qs0 (m:MetaV) (hm:m.sz) (w:World):Calls Tryz.prog 105 #[.agg (metA m)] w fun e w'=>e= .returned (.int .i64 (metE m))∧Below w.heap.size w w':=by
 obtain ⟨mode,uid,gid,user,group,sec,nano⟩:=m;obtain ⟨z1,z2⟩:=hm;simp only at z1 z2;unfold metA;simp only;have s1:=qaB user;have s2:=qaB group;have i1:=fun W=>qzC mode W;have i2:=fun W=>qw0 uid W;have i3:=fun W=>qw0 gid W;have i4:=fun W=>qm1 (bs user) W (by rw [s1];unfold maxLen;omega);have i5:=fun W=>qm1 (bs group) W (by rw [s2];unfold maxLen;omega);have I6:=Lib.hid fun W=>quY sec nano W;rw [qaH]at i4 i5;cases c1:mdB mode
 ·have HX:=Lib.hid (qhR (m:=⟨mode,uid,gid,user,group,sec,nano⟩) (by simp only [c1];rfl));rw [HX.out];rw [c1]at i1;have I1:=Lib.hid i1;clear i1 i2 i3 i4 i5 c1 HX;go_enter Tryz.func105,Tryz.ntmps105;go_wp2_with fail;refine (I1.out _).mono ?_;rintro e w' ⟨rfl,rfl⟩;go_wp2_with fail;go_ret;exact ⟨rfl,(Below.refl _ _).alloc (Nat.le_refl _) _⟩
 rw [c1]at i1;have I1:=Lib.hid i1;cases c2:idB uid
 ·have HX:=Lib.hid (qhR (m:=⟨mode,uid,gid,user,group,sec,nano⟩) (by simp only [c1,c2];rfl));rw [HX.out];rw [c2]at i2;have I2:=Lib.hid i2;clear i1 i2 i3 i4 i5 c1 c2 HX;go_enter Tryz.func105,Tryz.ntmps105;go_wp2_with fail;refine (I1.out _).mono ?_;rintro e w' ⟨rfl,rfl⟩;go_wp2_with fail;refine (I2.out _).mono ?_;rintro e w' ⟨rfl,rfl⟩;go_wp2_with fail;go_ret;exact ⟨rfl,(Below.refl _ _).alloc (Nat.le_refl _) _⟩
 rw [c2]at i2;have I2:=Lib.hid i2;cases c3:idB gid
 ·have HX:=Lib.hid (qhR (m:=⟨mode,uid,gid,user,group,sec,nano⟩) (by simp only [c1,c2,c3];rfl));rw [HX.out];rw [c3]at i3;have I3:=Lib.hid i3;clear i1 i2 i3 i4 i5 c1 c2 c3 HX;go_enter Tryz.func105,Tryz.ntmps105;go_wp2_with fail;refine (I1.out _).mono ?_;rintro e w' ⟨rfl,rfl⟩;go_wp2_with fail;refine (I2.out _).mono ?_;rintro e w' ⟨rfl,rfl⟩;go_wp2_with fail;refine (I3.out _).mono ?_;rintro e w' ⟨rfl,rfl⟩;go_wp2_with fail;go_ret;exact ⟨rfl,(Below.refl _ _).alloc (Nat.le_refl _) _⟩
 rw [c3]at i3;have I3:=Lib.hid i3;have HR:=Lib.hid (show (mdB mode&&idB uid&&idB gid)=true by simp only [c1,c2,c3];rfl);clear i1 i2 i3 c1 c2 c3
 by_cases h1:60<(bs user).size
 ·have HX:=Lib.hid (qi7 (m:=⟨mode,uid,gid,user,group,sec,nano⟩) HR.out (.inl (by rw [←s1];exact h1)));rw [HX.out];clear i4 i5 HX HR s1 s2;go_enter Tryz.func105,Tryz.ntmps105;go_wp2_with fail;refine (I1.out _).mono ?_;rintro e w' ⟨rfl,rfl⟩;go_wp2_with fail;refine (I2.out _).mono ?_;rintro e w' ⟨rfl,rfl⟩;go_wp2_with fail;refine (I3.out _).mono ?_;rintro e w' ⟨rfl,rfl⟩;go_wp2_with fail;go_ret;exact ⟨rfl,(Below.refl _ _).alloc (Nat.le_refl _) _⟩
 by_cases h2:60<(bs group).size
 ·have HX:=Lib.hid (qi7 (m:=⟨mode,uid,gid,user,group,sec,nano⟩) HR.out (.inr (by rw [←s2];exact h2)));rw [HX.out];clear i4 i5 HX HR s1 s2;go_enter Tryz.func105,Tryz.ntmps105;go_wp2_with fail;refine (I1.out _).mono ?_;rintro e w' ⟨rfl,rfl⟩;go_wp2_with fail;refine (I2.out _).mono ?_;rintro e w' ⟨rfl,rfl⟩;go_wp2_with fail;refine (I3.out _).mono ?_;rintro e w' ⟨rfl,rfl⟩;go_wp2_with fail;go_ret;exact ⟨rfl,(Below.refl _ _).alloc (Nat.le_refl _) _⟩
 have HS:=Lib.hid (show¬(60<user.length∨60<group.length) by rw [←s1,←s2];omega);have g1:(bs user).size≤60:=by omega
 have g2:(bs group).size≤60:=by omega
 clear s1 s2 h1 h2 z1 z2;cases c4:hasB 0 user
 ·cases c5:hasB 0 group
  ·have HX:=Lib.hid (qsZ (m:=⟨mode,uid,gid,user,group,sec,nano⟩) HR.out HS.out (by simp only [c4,c5];rfl));rw [HX.out];rw [c4]at i4;rw [c5]at i5;have I4:=Lib.hid i4;have I5:=Lib.hid i5;clear i4 i5 c4 c5 HX HR HS;go_enter Tryz.func105,Tryz.ntmps105;go_wp2_with fail;refine (I1.out _).mono ?_;rintro e w' ⟨rfl,rfl⟩;go_wp2_with fail;refine (I2.out _).mono ?_;rintro e w' ⟨rfl,rfl⟩;go_wp2_with fail;refine (I3.out _).mono ?_;rintro e w' ⟨rfl,rfl⟩;go_wp2_with fail;refine (I4.out _).mono ?_;rintro e w' ⟨rfl,rfl⟩;go_wp2_with fail;refine (I5.out _).mono ?_;rintro e w' ⟨rfl,rfl⟩;go_wp2_with fail;refine (I6.out _).mono ?_;rintro e w' ⟨rfl,rfl⟩;go_wp2_with fail;go_ret;exact ⟨rfl,(Below.refl _ _).alloc (Nat.le_refl _) _⟩
  ·have HX:=Lib.hid (qi8 (m:=⟨mode,uid,gid,user,group,sec,nano⟩) HR.out HS.out (by simp only [c4,c5];rfl));rw [HX.out];rw [c4]at i4;rw [c5]at i5;have I4:=Lib.hid i4;have I5:=Lib.hid i5;clear i4 i5 c4 c5 HX HR HS;go_enter Tryz.func105,Tryz.ntmps105;go_wp2_with fail;refine (I1.out _).mono ?_;rintro e w' ⟨rfl,rfl⟩;go_wp2_with fail;refine (I2.out _).mono ?_;rintro e w' ⟨rfl,rfl⟩;go_wp2_with fail;refine (I3.out _).mono ?_;rintro e w' ⟨rfl,rfl⟩;go_wp2_with fail;refine (I4.out _).mono ?_;rintro e w' ⟨rfl,rfl⟩;go_wp2_with fail;refine (I5.out _).mono ?_;rintro e w' ⟨rfl,rfl⟩;go_wp2_with fail;go_ret;exact ⟨rfl,(Below.refl _ _).alloc (Nat.le_refl _) _⟩
 ·have HX:=Lib.hid (qi8 (m:=⟨mode,uid,gid,user,group,sec,nano⟩) HR.out HS.out (by simp only [c4];rfl));rw [HX.out];rw [c4]at i4;have I4:=Lib.hid i4;clear i4 i5 c4 HX HR HS;go_enter Tryz.func105,Tryz.ntmps105;go_wp2_with fail;refine (I1.out _).mono ?_;rintro e w' ⟨rfl,rfl⟩;go_wp2_with fail;refine (I2.out _).mono ?_;rintro e w' ⟨rfl,rfl⟩;go_wp2_with fail;refine (I3.out _).mono ?_;rintro e w' ⟨rfl,rfl⟩;go_wp2_with fail;refine (I4.out _).mono ?_;rintro e w' ⟨rfl,rfl⟩;go_wp2_with fail;go_ret;exact ⟨rfl,(Below.refl _ _).alloc (Nat.le_refl _) _⟩
theorem qyW (a b:Int) (w:World):Calls Tryz.prog 179 #[.int .i64 a,.int .i64 b] w fun e w'=>e= .returned (.int .i64 (inE a b))∧w=w':=qiE a b w
set_option maxHeartbeats 1000000 in
theorem qnV (m:MetaV) (hm:m.sz) (w:World):Calls Tryz.prog 126 #[.agg (metA m)] w fun e w'=>e= .returned (.int .i64 (metE m))∧Below w.heap.size w w':=by
 obtain ⟨mode,uid,gid,user,group,sec,nano⟩:=m;obtain ⟨z1,z2⟩:=hm;simp only at z1 z2;unfold metA;simp only;have s1:=qaB user;have s2:=qaB group;have i4:=fun W=>qb5 (bs user) 0 0 W (by rw [s1];unfold maxLen;omega) rfl;have i5:=fun W=>qb5 (bs group) 0 0 W (by rw [s2];unfold maxLen;omega) rfl;have I6:=Lib.hid fun W=>qyW sec nano W;rw [qaH]at i4 i5;cases c0:(mdB mode&&idB uid&&idB gid)
 ·have HX:=Lib.hid (qhR (m:=⟨mode,uid,gid,user,group,sec,nano⟩) c0);rw [HX.out]
  have d: ¬(0≤mode∧mode≤4095)∨ ¬(0≤uid∧uid≤1125899906842624)∨ ¬(0≤gid∧gid≤1125899906842624):=by
   rcases h1:mdB mode with _|_
   ·exact .inl (mdB_off h1)
   ·rcases h2:idB uid with _|_
    ·exact .inr (.inl (q2X h2))
    ·refine .inr (.inr (q2X ?_));rw [h1,h2]at c0;simpa using c0
  clear i4 i5 c0 HX s1 s2;rcases (show mode<0∨(¬mode<0∧4096≤mode)∨(¬mode<0∧ ¬4096≤mode∧uid<0)∨(¬mode<0∧ ¬4096≤mode∧ ¬uid<0∧1125899906842624<uid)∨(¬mode<0∧ ¬4096≤mode∧ ¬uid<0∧ ¬1125899906842624<uid∧gid<0)∨(¬mode<0∧ ¬4096≤mode∧ ¬uid<0∧ ¬1125899906842624<uid∧ ¬gid<0∧1125899906842624<gid) by omega)with h1|⟨h1,h2⟩|⟨h1,h2,h3⟩|⟨h1,h2,h3,h4⟩|⟨h1,h2,h3,h4,h5⟩|⟨h1,h2,h3,h4,h5,h6⟩
  all_goals
   clear d;go_enter Tryz.func126,Tryz.ntmps126;go_wp2_with fail;go_ret;exact ⟨rfl,(Below.refl _ _).alloc (Nat.le_refl _) _⟩
 have HR:=Lib.hid c0;rw [Bool.and_eq_true,Bool.and_eq_true]at c0;obtain ⟨k1,k2⟩:=mdB_of c0.1.1;obtain ⟨k3,k4⟩:=q7Z c0.1.2;obtain ⟨k5,k6⟩:=q7Z c0.2;have j1: ¬mode<0:=by omega
 have j2: ¬4096≤mode:=by omega
 have j3: ¬uid<0:=by omega
 have j4: ¬1125899906842624<uid:=by omega
 have j5: ¬gid<0:=by omega
 have j6: ¬1125899906842624<gid:=by omega
 clear c0 k1 k2 k3 k4 k5 k6
 by_cases h1:60<(bs user).size
 ·have HX:=Lib.hid (qi7 (m:=⟨mode,uid,gid,user,group,sec,nano⟩) HR.out (.inl (by rw [←s1];exact h1)));rw [HX.out];clear i4 i5 HX HR s1 s2;go_enter Tryz.func126,Tryz.ntmps126;go_wp2_with fail;go_ret;exact ⟨rfl,(Below.refl _ _).alloc (Nat.le_refl _) _⟩
 by_cases h2:60<(bs group).size
 ·have HX:=Lib.hid (qi7 (m:=⟨mode,uid,gid,user,group,sec,nano⟩) HR.out (.inr (by rw [←s2];exact h2)));rw [HX.out];clear i4 i5 HX HR s1 s2;go_enter Tryz.func126,Tryz.ntmps126;go_wp2_with fail;go_ret;exact ⟨rfl,(Below.refl _ _).alloc (Nat.le_refl _) _⟩
 have HS:=Lib.hid (show¬(60<user.length∨60<group.length) by rw [←s1,←s2];omega);have g1:(bs user).size≤60:=by omega
 have g2:(bs group).size≤60:=by omega
 clear s1 s2 h1 h2 z1 z2;cases c4:hasB 0 user
 ·cases c5:hasB 0 group
  ·have HX:=Lib.hid (qsZ (m:=⟨mode,uid,gid,user,group,sec,nano⟩) HR.out HS.out (by simp only [c4,c5];rfl));rw [HX.out];rw [c4]at i4;rw [c5]at i5;have I4:=Lib.hid i4;have I5:=Lib.hid i5;clear i4 i5 c4 c5 HX HR HS;go_enter Tryz.func126,Tryz.ntmps126;go_wp2_with fail;refine (I4.out _).mono ?_;rintro e w' ⟨rfl,rfl⟩;go_wp2_with fail;refine (I5.out _).mono ?_;rintro e w' ⟨rfl,rfl⟩;go_wp2_with fail;refine (I6.out _).mono ?_;rintro e w' ⟨rfl,rfl⟩;go_wp2_with fail;go_ret;exact ⟨rfl,(Below.refl _ _).alloc (Nat.le_refl _) _⟩
  ·have HX:=Lib.hid (qi8 (m:=⟨mode,uid,gid,user,group,sec,nano⟩) HR.out HS.out (by simp only [c4,c5];rfl));rw [HX.out];rw [c4]at i4;rw [c5]at i5;have I4:=Lib.hid i4;have I5:=Lib.hid i5;clear i4 i5 c4 c5 HX HR HS;go_enter Tryz.func126,Tryz.ntmps126;go_wp2_with fail;refine (I4.out _).mono ?_;rintro e w' ⟨rfl,rfl⟩;go_wp2_with fail;refine (I5.out _).mono ?_;rintro e w' ⟨rfl,rfl⟩;go_wp2_with fail;go_ret;exact ⟨rfl,(Below.refl _ _).alloc (Nat.le_refl _) _⟩
 ·have HX:=Lib.hid (qi8 (m:=⟨mode,uid,gid,user,group,sec,nano⟩) HR.out HS.out (by simp only [c4];rfl));rw [HX.out];rw [c4]at i4;have I4:=Lib.hid i4;clear i4 i5 c4 HX HR HS;go_enter Tryz.func126,Tryz.ntmps126;go_wp2_with fail;refine (I4.out _).mono ?_;rintro e w' ⟨rfl,rfl⟩;go_wp2_with fail;go_ret;exact ⟨rfl,(Below.refl _ _).alloc (Nat.le_refl _) _⟩
end Go.Proofs.YtapgoifimhnbdaaGreatDoor
namespace Go.Proofs.YtapgoifimhnbdaaGreatDoor
open Go.RowKit
open Go.OpenShut
open Go.ChangeShapes Go.WideShapes Go.Deep
section
variable {H:Type} {enc:TypeId×Value→H} {w:World} {base:Nat} {spare:Nat→Bool} {held:Bool}
def MetaV.wf (m:MetaV):Prop:=m.sz∧
 (Lit.int .i64 m.mode).wf=true∧(Lit.int .i64 m.uid).wf=true∧(Lit.int .i64 m.gid).wf=true∧(Lit.int .i64 m.second).wf=true∧(Lit.int .i64 m.nano).wf=true
end
end Go.Proofs.YtapgoifimhnbdaaGreatDoor
