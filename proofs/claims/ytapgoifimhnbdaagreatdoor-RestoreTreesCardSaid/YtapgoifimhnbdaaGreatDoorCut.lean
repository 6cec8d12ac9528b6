/- qaV of one kind, in one file: CutA, CutB. -/
import Derived.Test.YtapgoifimhnbdaaGreatDoorMth
import Derived.Test.YtapgoifimhnbdaaGreatDoorFld
import Derived.Test.YtapgoifimhnbdaaGreatDoorPth
import Derived.Deep.RegionWith
import Derived.IntWalk
import Derived.Deep.DeepCutAuto
import Derived.Deep.CutBlock
import Derived.Deep.Cut
import Derived.Deep.LoopGhost
set_option linter.unusedVariables false
set_option maxRecDepth 100000
namespace Go.Proofs.YtapgoifimhnbdaaGreatDoor
open Go.RowKit
open Go.OpenShut
theorem q27 (s:ByteArray) (k:Nat) (h:k<s.size):s.data.toList.getD k 0=s[k]:=qg3 s k h 0
set_option maxHeartbeats 400000 in
theorem qh6 (s:ByteArray) (w:World) (hs:s.size≤maxLen) (h1:100<s.size):Calls Tryz.prog 228 #[.string s] w fun e w'=>e= .returned (.int .i64 (qiP s.data.toList))∧w=w':=by
 unfold maxLen at hs;have HL:=Lib.hid (show s.data.toList.length=s.size by simp);rcases (show s.size≤102∨(¬s.size≤102∧s.size<157)∨(157≤s.size∧ ¬s.size≤102) by omega)with hm|⟨hm,hm2⟩|⟨hm2,hm⟩
 all_goals
  skip
  all_goals
   go_enter Tryz.func228,Tryz.ntmps228;go_wp2
   go_loop [3] (fun i=> ∃k:Nat,1≤k∧s.size≤k+101∧(k≤156∨k+101=s.size)∧(k+1≤s.size)∧i= .int .i64 k∧Hid (qqJ s.data.toList k)) (fun i=>s.size-(intOf i).toNat)
   case atStart=>
    refine ⟨if s.size≤102 then 1 else s.size-101,?_,?_,?_,?_,?_,?_⟩
    ·split<;>omega
    ·split<;>omega
    ·split<;>omega
    ·split<;>omega
    ·first
      |(rw [if_pos hm];first|rfl|(congr 1;omega))
      |(rw [if_neg hm];congr 1;omega)
    ·intro j hj;refine qq2 ?_;rw [HL.out]
     split at hj<;>omega
   case round=>
    obtain ⟨k,hk1,hk2,hk3,hk4,rfl,hz⟩:=hrel
    by_cases hlt:k≤155∧k+2≤s.size
    ·obtain ⟨hA,hB⟩:=hlt;have hk:k<s.size:=by omega
     have hg:=q27 s k hk
     by_cases hc:s[k]=47
     ·have hc':((s[k].toNat:Int)==47)=true:=by rw [hc];rfl
      have HF:=Lib.hid (show qiP s.data.toList=(k:Int) by
       rw [qiP,qpG hz.out (q3H (by rw [HL.out];omega) (by rw [hg,hc]))])
      clear hc hg;go_wp2;go_ret;exact ⟨qaR HF.out.symm,rfl⟩
     ·have hc':((s[k].toNat:Int)==47)=false:=by
       rw [beq_eq_false_iff_ne];intro h;exact hc (UInt8.toNat_inj.1 (show s[k].toNat=47 by omega))
      have HF:Hid (qqJ s.data.toList (k+1)):=qj8 hz.out (q3G (by rw [hg];exact hc));clear hc hg;go_wp2;go_round
      case rel=>exact ⟨k+1,by omega,by omega,by omega,by omega,by go_num,HF⟩
      case measure=>simp [intOf];omega
    ·have HF:=Lib.hid (show qiP s.data.toList= -1 by
      rw [qiP,qpH hz.out (by rw [HL.out];omega)])
     by_cases hA:k≤155
     ·have hB: ¬k+2≤s.size:=fun h=>hlt ⟨hA,h⟩;clear hlt
      first
       |(exfalso;omega)
       |(go_wp2;go_ret;exact ⟨qaR HF.out.symm,rfl⟩)
     ·clear hlt
      first
       |(exfalso;omega)
       |(go_wp2;go_ret;exact ⟨qaR HF.out.symm,rfl⟩)
set_option maxHeartbeats 400000 in
theorem qx9 (s:ByteArray) (w:World) (hs:s.size≤100):Calls Tryz.prog 218 #[.string s] w fun e w'=>e= .returned (.tuple #[.string (bs (cutV s.data.toList).1),.string (bs (cutV s.data.toList).2.1),.int .i64 (cutV s.data.toList).2.2])∧w=w':=by
 have HL:=Lib.hid (show s.data.toList.length=s.size by simp);have hm:s.size≤maxLen:=by unfold maxLen;omega
 by_cases h0:s.data.toList= []
 ·have HF:=Lib.hid (qfE (.inl h0));have e0:s.toList= []:=by rw [ByteArray.toList_eq];exact h0
  clear h0;go_enter Tryz.func218,Tryz.ntmps218;go_wp2_with fail
  go_ret3
  exact ⟨by rw [HF.out];rfl,rfl⟩
 ·have e0:s.toList.isEmpty=false:=by rw [ByteArray.toList_eq,←Bool.not_eq_true,List.isEmpty_iff];exact h0
  cases hz:hasB 0 s.data.toList
  ·have HF:=Lib.hid (qkP h0 hz (by rw [HL.out];exact hs));have HZ:=Lib.hid hz;clear h0 hz;go_enter Tryz.func218,Tryz.ntmps218;go_wp2_with fail;refine (qb5 s 0 0 _ hm rfl).mono ?_;rintro e w' ⟨rfl,rfl⟩;rw [HZ.out];go_wp2_with fail
   go_ret3
   exact ⟨by rw [HF.out,qcJ];rfl,rfl⟩
  ·have HF:=Lib.hid (qfE (.inr hz));have HZ:=Lib.hid hz;clear h0 hz;go_enter Tryz.func218,Tryz.ntmps218;go_wp2_with fail;refine (qb5 s 0 0 _ hm rfl).mono ?_;rintro e w' ⟨rfl,rfl⟩;rw [HZ.out];go_wp2_with fail
   go_ret3
   exact ⟨by rw [HF.out];rfl,rfl⟩
theorem qo9 (s:ByteArray) (k:Nat):s.extract 0 k=bs (s.data.toList.take k)∧s.extract (k+1) s.size=bs (s.data.toList.drop (k+1)):=by
 constructor
 ·apply ByteArray.ext;apply Array.toList_inj.1;rw [ByteArray.data_extract,Array.toList_extract,qaH];simp [List.extract]
 ·apply ByteArray.ext;apply Array.toList_inj.1;rw [ByteArray.data_extract,Array.toList_extract,qaH];simp [List.extract];rw [List.take_of_length_le (by simp)]
set_option maxHeartbeats 800000 in
theorem q1B (s:ByteArray) (w:World) (hs:s.size≤maxLen) (h1:100<s.size):Calls Tryz.prog 218 #[.string s] w fun e w'=>e= .returned (.tuple #[.string (bs (cutV s.data.toList).1),.string (bs (cutV s.data.toList).2.1),.int .i64 (cutV s.data.toList).2.2])∧ ∃n,w'=w.drewN n:=by
 have HL:=Lib.hid (show s.data.toList.length=s.size by simp);have hm:s.size≤maxLen:=hs;unfold maxLen at hs
 have e0:s.toList.isEmpty=false:=by
  rw [ByteArray.toList_eq,←Bool.not_eq_true,List.isEmpty_iff];intro a;have:=HL.out;rw [a]at this;simp at this;omega
 cases hz:hasB 0 s.data.toList
 ·have HZ:=Lib.hid hz;clear hz;go_enter Tryz.func218,Tryz.ntmps218;go_wp2_with fail;refine (qb5 s 0 0 _ hm rfl).mono ?_;rintro e w' ⟨rfl,rfl⟩;rw [HZ.out];go_wp2_with fail
  go_loop [5] (fun i=> ∃k:Nat,1≤k∧k≤156∧k+1≤s.size∧i= .int .i64 k∧Hid (qqJ s.data.toList k)) (fun i=>s.size-(intOf i).toNat)
  case atStart=>exact ⟨1,by omega,by omega,by omega,rfl,fun j hj=>qq2 (by omega)⟩
  case round=>
   obtain ⟨k,hk1,hk2,hk4,rfl,hz⟩:=hrel
   by_cases hlt:k≤155∧k+2≤s.size
   ·obtain ⟨hA,hB⟩:=hlt;have hk:k<s.size:=by omega
    have hg:=q27 s k hk
    by_cases hc:s[k]=47
    ·have hc':((s[k].toNat:Int)==47)=true:=by rw [hc];rfl
     by_cases hd:s.size≤k+101
     ·have HC:=qpG hz.out (q3H (by rw [HL.out];omega) (by rw [hg,hc]));have HF:=Lib.hid (qnJ HZ.out (by rw [HL.out];exact h1) HC);have HE:=Lib.hid (qo9 s k);clear hc hg HC;go_wp2_with fail
      go_region
      go_wp2_with fail
      go_ret3
      exact ⟨by rw [HF.out,HE.out.1,HE.out.2];rfl,1,rfl⟩
     ·have HF:Hid (qqJ s.data.toList (k+1)):=qj8 hz.out (qq2 (by rw [HL.out];omega));clear hc hg;go_wp2_with fail;go_round
      case rel=>exact ⟨k+1,by omega,by omega,by omega,by go_num,HF⟩
      case measure=>simp [intOf];omega
    ·have hc':((s[k].toNat:Int)==47)=false:=by
      rw [beq_eq_false_iff_ne];intro h;exact hc (UInt8.toNat_inj.1 (show s[k].toNat=47 by omega))
     have HF:Hid (qqJ s.data.toList (k+1)):=qj8 hz.out (q3G (by rw [hg];exact hc));clear hc hg;go_wp2_with fail;go_round
     case rel=>exact ⟨k+1,by omega,by omega,by omega,by go_num,HF⟩
     case measure=>simp [intOf];omega
   ·have HF:=Lib.hid (qnK HZ.out (by rw [HL.out];exact h1) (qpH hz.out (by rw [HL.out];omega)))
    by_cases hB:k+2≤s.size
    ·have hA: ¬k≤155:=fun h=>hlt ⟨h,hB⟩;clear hlt;go_wp2_with fail
     go_ret3
     exact ⟨by rw [HF.out];rfl,0,rfl⟩
    ·clear hlt;go_wp2_with fail
     go_ret3
     exact ⟨by rw [HF.out];rfl,0,rfl⟩
 ·have HF:=Lib.hid (qfE (.inr hz));have HZ:=Lib.hid hz;clear hz;go_enter Tryz.func218,Tryz.ntmps218;go_wp2_with fail;refine (qb5 s 0 0 _ hm rfl).mono ?_;rintro e w' ⟨rfl,rfl⟩;rw [HZ.out];go_wp2_with fail
  go_ret3
  exact ⟨by rw [HF.out];rfl,0,rfl⟩
theorem qp9 (s:ByteArray) (w:World) (hs:s.size≤maxLen):Calls Tryz.prog 218 #[.string s] w fun e w'=>e= .returned (.tuple #[.string (bs (cutV s.data.toList).1),.string (bs (cutV s.data.toList).2.1),.int .i64 (cutV s.data.toList).2.2])∧ ∃n,w'=w.drewN n:=by
 by_cases h:s.size≤100
 ·exact (qx9 s w h).mono fun _ _ ⟨a,b⟩=>⟨a,0,b.symm⟩
 ·exact q1B s w hs (by omega)
set_option maxHeartbeats 1600000 in
theorem q4E (s:ByteArray) (w:World) (hs:s.size≤maxLen) (hs':s.size≤281474976710656) (hx:s.size≤100∨hasB 0 s.data.toList=true):Calls Tryz.prog 182 #[.string s] w fun e w'=>e= .returned (.tuple #[.string (bs (cutV s.data.toList).1),.string (bs (cutV s.data.toList).2.1),.int .i64 (cutV s.data.toList).2.2])∧Below w.heap.size w w':=by
 have HL:=Lib.hid (show s.data.toList.length=s.size by simp);have hm:s.size≤maxLen:=hs;unfold maxLen at hs
 by_cases h0:s.data.toList= []
 ·have HF:=Lib.hid (qfE (.inl h0));have e0:s.toList= []:=by rw [ByteArray.toList_eq];exact h0
  clear h0;go_enter Tryz.func182,Tryz.ntmps182;go_wp2_with fail
  go_ret3
  exact ⟨by rw [HF.out];rfl,Below.refl _ _⟩
 ·have e0:s.toList.isEmpty=false:=by rw [ByteArray.toList_eq,←Bool.not_eq_true,List.isEmpty_iff];exact h0
  cases hz:hasB 0 s.data.toList
  ·have h1:s.size≤100:=by
    rcases hx with h|h
    ·exact h
    ·rw [hz]at h;cases h
   have HF:=Lib.hid (qkP h0 hz (by rw [HL.out];exact h1));have HZ:=Lib.hid hz;clear h0 hz hx;go_enter Tryz.func182,Tryz.ntmps182;go_wp2_with fail;refine (qb1 s _ HZ.out).mono ?_;rintro e w' ⟨rfl,rfl⟩;go_wp2_with fail;refine (qaY _ _ (by omega)).mono ?_;rintro e w1 ⟨rfl,hb⟩;go_wp2_with fail
   go_ret3
   exact ⟨by rw [HF.out,qcJ];rfl,hb⟩
  ·have HF:=Lib.hid (qfE (.inr hz));have HZ:=Lib.hid hz;clear h0 hz hx;go_enter Tryz.func182,Tryz.ntmps182;go_wp2_with fail;refine (qcB s _ HZ.out).mono ?_;rintro e w' ⟨rfl,rfl⟩;go_wp2_with fail
   go_ret3
   exact ⟨by rw [HF.out];rfl,Below.refl _ _⟩
set_option maxHeartbeats 4000000 in
theorem q7E (s:ByteArray) (w:World) (hs:s.size≤maxLen) (hs':s.size≤281474976710656) (h1:100<s.size) (hz:hasB 0 s.data.toList=false):Calls Tryz.prog 182 #[.string s] w fun e w'=>e= .returned (.tuple #[.string (bs (cutV s.data.toList).1),.string (bs (cutV s.data.toList).2.1),.int .i64 (cutV s.data.toList).2.2])∧Below w.heap.size w w':=by
 have HL:=Lib.hid (show s.data.toList.length=s.size by simp);have hm:s.size≤maxLen:=hs;unfold maxLen at hs
 have e0:s.toList.isEmpty=false:=by
  rw [ByteArray.toList_eq,←Bool.not_eq_true,List.isEmpty_iff];intro a;have:=HL.out;rw [a]at this;simp at this;omega
 have HZ:=Lib.hid hz;clear hz;cases hc:qk9 s.data.toList with
 |none=>
  have HF:=Lib.hid (qnK HZ.out (by rw [HL.out];exact h1) hc);have HS:=Lib.hid (show qiP s.data.toList= -1 by rw [qiP,hc]);clear hc;go_enter Tryz.func182,Tryz.ntmps182;go_wp2_with fail;refine (qb1 s _ HZ.out).mono ?_;rintro e w' ⟨rfl,rfl⟩;go_wp2_with fail;refine (qh6 s _ hm h1).mono ?_;rintro e w' ⟨rfl,rfl⟩;rw [HS.out];go_wp2_with fail
  go_ret3
  exact ⟨by rw [HF.out];rfl,Below.refl _ _⟩
 |some k=>
  have HF:=Lib.hid (qnJ HZ.out (by rw [HL.out];exact h1) hc);have HS:=Lib.hid (show qiP s.data.toList=(k:Int) by rw [qiP,hc]);have hb:=qq3 (qrE hc);rw [HL.out]at hb;obtain ⟨b1,b2,b3,b4⟩:=hb;have HE:=Lib.hid (qo9 s k);have z1:(bs (s.data.toList.take k)).size≤281474976710656:=by rw [qaB,List.length_take];omega
  have z2:(bs (s.data.toList.drop (k+1))).size≤281474976710656:=by rw [qaB,List.length_drop,HL.out];omega
  clear hc;obtain ⟨p,Hp⟩:=qaA (bs (s.data.toList.take k));obtain ⟨n,Hn⟩:=qaA (bs (s.data.toList.drop (k+1)));rw [Hp.out]at z1;rw [Hn.out]at z2;have y0:(0:Int)≤(k:Int):=by omega
  have y1:(k:Int)≤(s.size:Int):=by omega
  have y3:k<s.size:=by omega
  have y7:(0:Int)≤(k:Int)+1:=by omega
  have ya:((k:Int)+1).toNat=k+1:=by omega
  have yb:IntKind.i64.wrap ((k:Int)+1)=(k:Int)+1:=IntWalk.i64_in _ (by omega);have y2:(k:Int)+1≤(s.size:Int):=by omega
  have x1:=Lib.hid (show s.extract 0 k=p from HE.out.1.trans Hp.out);have x2:=Lib.hid (show s.extract (k+1) s.size=n from HE.out.2.trans Hn.out);clear hs';have w1:(s.extract 0 k).size≤281474976710656:=by rw [x1.out];exact z1
  have w2:(s.extract (k+1) s.size).size≤281474976710656:=by rw [x2.out];exact z2
  go_enter Tryz.func182,Tryz.ntmps182;go_wp2_with fail;refine (qb1 s _ HZ.out).mono ?_;rintro e w' ⟨rfl,rfl⟩;go_wp2_with fail;refine (qh6 s _ hm h1).mono ?_;rintro e w' ⟨rfl,rfl⟩;rw [HS.out];go_wp2_with fail;go_upto_region 8 with fail
  go_region_with
   (first
    |(go_at_call 110;(have F1:=hb1);refine (qaY _ _ (by assumption)).mono ?_;rintro e w2 ⟨rfl,hb2⟩)
    |(go_at_call 110;refine (qaY _ _ (by assumption)).mono ?_;rintro e w1 ⟨rfl,hb1⟩))
  all_goals
   go_wp2_with fail
   go_ret3
   exact ⟨by rw [HF.out,←HE.out.1,←HE.out.2];rfl,((Below.refl w.heap.size w).drew.trans (show Below w.heap.size w.drew w1 from hb1)).trans (hb2.mono (show w.heap.size≤w1.heap.size from hb1.size))⟩
theorem qvP (s:ByteArray) (w:World) (hs:s.size≤maxLen) (hs':s.size≤281474976710656):Calls Tryz.prog 182 #[.string s] w fun e w'=>e= .returned (.tuple #[.string (bs (cutV s.data.toList).1),.string (bs (cutV s.data.toList).2.1),.int .i64 (cutV s.data.toList).2.2])∧Below w.heap.size w w':=by
 by_cases h:s.size≤100∨hasB 0 s.data.toList=true
 ·exact q4E s w hs hs' h
 ·exact q7E s w hs hs' (by omega) (by rw [←Bool.not_eq_true];exact fun a=>h (.inr a))
theorem join_bs (p n:ByteArray):p++⟨#[47]⟩++n=bs (p.data.toList++ [47]++n.data.toList):=by
 apply ByteArray.ext;apply Array.toList_inj.1;simp [bs,ByteArray.data_append]
theorem qxI {p n:ByteArray} (h:p.data.toList= []):bs (qcP p.data.toList n.data.toList)=n:=by rw [qcP,if_pos h,qcJ]
theorem qxH {p n:ByteArray} (h:p.data.toList≠ []):p++⟨#[47]⟩++n=bs (qcP p.data.toList n.data.toList):=by rw [qcP,if_neg h,join_bs]
theorem q2U (p n:ByteArray) (hp:p.size≤155) (hn:n.size≤100):(bs (qcP p.data.toList n.data.toList)).size≤256:=by
 rw [qaB,qcP];split
 ·have:n.data.toList.length=n.size:=by simp
  omega
 ·simp;omega
theorem qoU {p n:List UInt8} {q m:ByteArray} {f:Int} (h: ¬(n.length<1∨100<n.length∨155<p.length)) (hq:bs (cutV (qcP p n)).1=q) (hm:bs (cutV (qcP p n)).2.1=m) (hf:(cutV (qcP p n)).2.2=f)
  (hx:f≠0∨q.data.toList≠p∨m.data.toList≠n):oneV p n=([],3):=by
 refine q10 h fun e=> ?_;rw [e]at hq hm hf;subst hq hm hf;rcases hx with a|a|a
 ·exact a rfl
 ·exact a rfl
 ·exact a rfl
theorem q1X {p n:List UInt8} {q m:ByteArray} {f:Int} (h: ¬(n.length<1∨100<n.length∨155<p.length)) (hq:bs (cutV (qcP p n)).1=q) (hm:bs (cutV (qcP p n)).2.1=m) (hf:(cutV (qcP p n)).2.2=f)
  (h1:f=0) (h2:q.data.toList=p) (h3:m.data.toList=n):oneV p n=(qcP p n,0):=by
 refine q1Y h ?_;rw [←hq]at h2;rw [←hm]at h3;exact Prod.ext h2 (Prod.ext h3 (hf.trans h1))
theorem q6F (p n:ByteArray) (w:World) (hp:p.size≤155) (hn:n.size≤100):Calls Tryz.prog 250 #[.string p,.string n] w fun e w'=>e= .returned (.string (bs (qcP p.data.toList n.data.toList)))∧Below w.heap.size w w':=by
 by_cases h0:p.data.toList= []
 ·have e0:p.toList= []:=by rw [ByteArray.toList_eq];exact h0
  have HJ:=Lib.hid (qxI (n:=n) h0);clear h0;go_enter Tryz.func250,Tryz.ntmps250;go_wp2_with fail;refine (qaY _ _ (by omega)).mono ?_;rintro e w1 ⟨rfl,hb⟩;go_wp2_with fail;go_ret;exact ⟨by rw [HJ.out];rfl,hb⟩
 ·have e0:p.toList.isEmpty=false:=by rw [ByteArray.toList_eq,←Bool.not_eq_true,List.isEmpty_iff];exact h0
  have HJ:=Lib.hid (qxH (n:=n) h0);clear h0;go_enter Tryz.func250,Tryz.ntmps250;go_wp2_with fail;go_ret;exact ⟨by rw [←HJ.out];rfl,Below.refl _ _⟩
set_option maxHeartbeats 800000 in
theorem q5H (p n:ByteArray) (w:World) (hp:p.size≤maxLen) (hn:n.size≤maxLen):Calls Tryz.prog 173 #[.string p,.string n] w fun e w'=>e= .returned (.tuple #[.string (bs (oneV p.data.toList n.data.toList).1),.int .i64 (oneV p.data.toList n.data.toList).2])∧ ∃k,w'=w.drewN k:=by
 have HP:=Lib.hid (show p.data.toList.length=p.size by simp);have HN:=Lib.hid (show n.data.toList.length=n.size by simp);unfold maxLen at hp hn
 by_cases h0:n.data.toList= []
 ·have HF:=Lib.hid (qe6 (p:=p.data.toList) (n:=n.data.toList) (.inl (by rw [h0];decide)));have e0:n.toList= []:=by rw [ByteArray.toList_eq];exact h0
  clear h0;go_enter Tryz.func173,Tryz.ntmps173;go_wp2_with fail;go_ret2;exact ⟨by rw [HF.out];rfl,0,rfl⟩
 ·have hn1:1≤n.size:=by rw [←HN.out];exact List.length_pos_iff.2 h0
  have e0:n.toList.isEmpty=false:=by rw [ByteArray.toList_eq,←Bool.not_eq_true,List.isEmpty_iff];exact h0
  clear h0
  by_cases h1:100<n.size
  ·have HF:=Lib.hid (qe6 (p:=p.data.toList) (n:=n.data.toList) (.inr (.inl (by rw [HN.out];exact h1))));go_enter Tryz.func173,Tryz.ntmps173;go_wp2_with fail;go_ret2;exact ⟨by rw [HF.out];rfl,0,rfl⟩
  ·by_cases h2:155<p.size
   ·have HF:=Lib.hid (qe6 (p:=p.data.toList) (n:=n.data.toList) (.inr (.inr (by rw [HP.out];exact h2))));go_enter Tryz.func173,Tryz.ntmps173;go_wp2_with fail;go_ret2;exact ⟨by rw [HF.out];rfl,0,rfl⟩
   ·have hz: ¬(n.data.toList.length<1∨100<n.data.toList.length∨155<p.data.toList.length):=by rw [HN.out,HP.out];omega
    have HZ:=Lib.hid hz;clear hz;have hjl:=q2U p n (by omega) (by omega);obtain ⟨q,Hq⟩:=qaA (bs (cutV (qcP p.data.toList n.data.toList)).1);obtain ⟨m,Hm⟩:=qaA (bs (cutV (qcP p.data.toList n.data.toList)).2.1);obtain ⟨f,Hf⟩:=qaA (cutV (qcP p.data.toList n.data.toList)).2.2
    have HC:Hid (∀W,Calls Tryz.prog 218 #[.string (bs (qcP p.data.toList n.data.toList))] W fun e w'=>e= .returned (.tuple #[.string q,.string m,.int .i64 f])∧ ∃k,w'=W.drewN k):=fun W=>by
     rw [←Hq.out,←Hm.out,←Hf.out];exact qp9 _ W (by unfold maxLen;omega)
    obtain ⟨S,HS⟩:=qaA (bs (qcP p.data.toList n.data.toList));rw [HS.out]at HC hjl;have t1:=qjS q p;have t2:=qjS m n;have HE:=Lib.hid fun h=>qxI (p:=p) (n:=n) h;have HJ:=Lib.hid fun h=>qxH (p:=p) (n:=n) h;have hpp:(p++⟨#[47]⟩).size≤156:=by rw [ByteArray.size_append];show p.size+1≤156;omega
    go_enter Tryz.func173,Tryz.ntmps173;go_upto_if 27 with fail
    go_cut [6] (fun s6 wx=>s6= .string S∧wx=w)
    case first=>
     by_cases h0:p.data.toList= []
     ·have e1:p.toList.isEmpty=true:=by rw [ByteArray.toList_eq,List.isEmpty_iff];exact h0
      have HE1:=Lib.hid ((HE.out h0).symm.trans HS.out);clear h0;rw [e1];go_wp2_with fail;go_meet;exact ⟨by rw [HE1.out],rfl⟩
     ·have e1:p.toList.isEmpty=false:=by rw [ByteArray.toList_eq,←Bool.not_eq_true,List.isEmpty_iff];exact h0
      have HE1:=Lib.hid ((HJ.out h0).trans HS.out);clear h0;rw [e1];go_wp2_with fail;go_meet;exact ⟨by rw [HE1.out],rfl⟩
    case rest=>
     obtain ⟨rfl,rfl⟩:=hcut;clear e0;go_wp2_with fail;refine (HC.out _).mono ?_;rintro e w' ⟨rfl,k,hw1⟩
     by_cases hf:f=0
     ·have hf':(f !=0)=false:=by simp [hf]
      by_cases hq:q.data.toList=p.data.toList
      ·rw [decide_eq_true hq]at t1
       by_cases hm:m.data.toList=n.data.toList
       ·rw [decide_eq_true hm]at t2;have HF:=Lib.hid (q1X HZ.out Hq.out Hm.out Hf.out hf hq hm);clear hf hq hm;go_wp2_with fail;go_ret2;exact ⟨by rw [HF.out,HS.out];rfl,k,by first|exact hw1|rfl⟩
       ·rw [decide_eq_false hm]at t2;have HF:=Lib.hid (qoU HZ.out Hq.out Hm.out Hf.out (.inr (.inr hm)));clear hf hq hm;go_wp2_with fail;go_ret2;exact ⟨by rw [HF.out];rfl,k,by first|exact hw1|rfl⟩
      ·rw [decide_eq_false hq]at t1;have HF:=Lib.hid (qoU HZ.out Hq.out Hm.out Hf.out (.inr (.inl hq)));clear hf hq t2;go_wp2_with fail;go_ret2;exact ⟨by rw [HF.out];rfl,k,by first|exact hw1|rfl⟩
     ·have hf':(f !=0)=true:=by simp [hf]
      have HF:=Lib.hid (qoU HZ.out Hq.out Hm.out Hf.out (.inl hf));clear hf t1 t2;go_wp2_with fail;go_ret2;exact ⟨by rw [HF.out];rfl,k,by first|exact hw1|rfl⟩
set_option maxHeartbeats 1600000 in
theorem One_any (p n:ByteArray) (w:World) (hp:p.size≤maxLen) (hn:n.size≤maxLen):Calls Tryz.prog 211 #[.string p,.string n] w fun e w'=>e= .returned (.tuple #[.string (bs (oneV p.data.toList n.data.toList).1),.int .i64 (oneV p.data.toList n.data.toList).2])∧Below w.heap.size w w':=by
 have HP:=Lib.hid (show p.data.toList.length=p.size by simp);have HN:=Lib.hid (show n.data.toList.length=n.size by simp);unfold maxLen at hp hn
 by_cases h0:n.size<1
 ·have HF:=Lib.hid (qe6 (p:=p.data.toList) (n:=n.data.toList) (.inl (by rw [HN.out];exact h0)));go_enter Tryz.func211,Tryz.ntmps211;go_wp2_with fail;go_ret2;exact ⟨by rw [HF.out];rfl,Below.refl _ _⟩
 ·by_cases h1:100<n.size
  ·have HF:=Lib.hid (qe6 (p:=p.data.toList) (n:=n.data.toList) (.inr (.inl (by rw [HN.out];exact h1))));go_enter Tryz.func211,Tryz.ntmps211;go_wp2_with fail;go_ret2;exact ⟨by rw [HF.out];rfl,Below.refl _ _⟩
  ·by_cases h2:155<p.size
   ·have HF:=Lib.hid (qe6 (p:=p.data.toList) (n:=n.data.toList) (.inr (.inr (by rw [HP.out];exact h2))));go_enter Tryz.func211,Tryz.ntmps211;go_wp2_with fail;go_ret2;exact ⟨by rw [HF.out];rfl,Below.refl _ _⟩
   ·have hz: ¬(n.data.toList.length<1∨100<n.data.toList.length∨155<p.data.toList.length):=by rw [HN.out,HP.out];omega
    have HZ:=Lib.hid hz;clear hz;have hjl:=q2U p n (by omega) (by omega);obtain ⟨q,Hq⟩:=qaA (bs (cutV (qcP p.data.toList n.data.toList)).1);obtain ⟨m,Hm⟩:=qaA (bs (cutV (qcP p.data.toList n.data.toList)).2.1);obtain ⟨f,Hf⟩:=qaA (cutV (qcP p.data.toList n.data.toList)).2.2
    have HC:Hid (∀W,Calls Tryz.prog 182 #[.string (bs (qcP p.data.toList n.data.toList))] W fun e w'=>e= .returned (.tuple #[.string q,.string m,.int .i64 f])∧Below W.heap.size W w'):=fun W=>by
     rw [←Hq.out,←Hm.out,←Hf.out];exact qvP _ W (by unfold maxLen;omega) (by omega)
    obtain ⟨S,HS⟩:=qaA (bs (qcP p.data.toList n.data.toList));rw [HS.out]at HC hjl;have t1:=qjS q p;have t2:=qjS m n;go_enter Tryz.func211,Tryz.ntmps211;go_wp2_with fail;refine (q6F p n _ (by omega) (by omega)).mono ?_;rintro e w1 ⟨rfl,hb1⟩;have HB1:=Lib.hid hb1;clear hb1;rw [HS.out];go_wp2_with fail;refine (HC.out _).mono ?_;rintro e w2 ⟨rfl,hb2⟩;have HB2:=Lib.hid (HB1.out.trans (hb2.mono HB1.out.size));clear hb2
    by_cases hf:f=0
    ·have hf':(f !=0)=false:=by simp [hf]
     by_cases hq:q.data.toList=p.data.toList
     ·rw [decide_eq_true hq]at t1
      by_cases hm:m.data.toList=n.data.toList
      ·rw [decide_eq_true hm]at t2;have HF:=Lib.hid (q1X HZ.out Hq.out Hm.out Hf.out hf hq hm);clear hf hq hm;go_wp2_with fail;go_ret2;exact ⟨by rw [HF.out,HS.out];rfl,HB2.out⟩
      ·rw [decide_eq_false hm]at t2;have HF:=Lib.hid (qoU HZ.out Hq.out Hm.out Hf.out (.inr (.inr hm)));clear hf hq hm;go_wp2_with fail;go_ret2;exact ⟨by rw [HF.out];rfl,HB2.out⟩
     ·rw [decide_eq_false hq]at t1;have HF:=Lib.hid (qoU HZ.out Hq.out Hm.out Hf.out (.inr (.inl hq)));clear hf hq t2;go_wp2_with fail;go_ret2;exact ⟨by rw [HF.out];rfl,HB2.out⟩
    ·have hf':(f !=0)=true:=by simp [hf]
     have HF:=Lib.hid (qoU HZ.out Hq.out Hm.out Hf.out (.inl hf));clear hf t1 t2;go_wp2_with fail;go_ret2;exact ⟨by rw [HF.out];rfl,HB2.out⟩
end Go.Proofs.YtapgoifimhnbdaaGreatDoor
