/- qaX of one kind, in one file: CutA, CutB. -/
import Derived.Test.YtapgoifimhnbdaaGreatDoorMth
import Derived.Test.YtapgoifimhnbdaaGreatDoorFld
import Derived.Test.YtapgoifimhnbdaaGreatDoorPts
import Derived.Deep.RegionWith
import Derived.IntWalk
import Derived.Deep.DeepCutAuto
import Derived.Deep.CutBlock
import Derived.Deep.Cut
import Derived.Deep.LoopGhost
set_option linter.unusedVariables false
set_option maxRecDepth 100000
namespace Go.Proofs.YtapgoifimhnbdaaGreatDoor
open Go.RowKit
open Go.OpenShut
theorem getD_is (s:ByteArray) (k:Nat) (h:k<s.size):s.data.toList.getD k 0=s[k]:=quT s k h 0
set_option maxHeartbeats 400000 in
theorem qh4 (s:ByteArray) (w:World) (hs:s.size≤maxLen) (h1:100<s.size):Calls Tryz.prog 228 #[.string s] w fun e w'=>e= .returned (.int .i64 (qiV s.data.toList))∧w=w':=by
 unfold maxLen at hs;have HL:=Lib.hid (show s.data.toList.length=s.size by simp);rcases (show s.size≤102∨(¬s.size≤102∧s.size<157)∨(157≤s.size∧ ¬s.size≤102) by omega)with hm|⟨hm,hm2⟩|⟨hm2,hm⟩
 all_goals
  skip
  all_goals
   go_enter Tryz.func228,Tryz.ntmps228;go_wp2
   go_loop [3] (fun i=> ∃k:Nat,1≤k∧s.size≤k+101∧(k≤156∨k+101=s.size)∧(k+1≤s.size)∧i= .int .i64 k∧Hid (q1D s.data.toList k)) (fun i=>s.size-(intOf i).toNat)
   case atStart=>
    refine ⟨if s.size≤102 then 1 else s.size-101,?_,?_,?_,?_,?_,?_⟩
    ·split<;>omega
    ·split<;>omega
    ·split<;>omega
    ·split<;>omega
    ·first
      |(rw [if_pos hm];first|rfl|(congr 1;omega))
      |(rw [if_neg hm];congr 1;omega)
    ·intro j hj;refine q62 ?_;rw [HL.out]
     split at hj<;>omega
   case round=>
    obtain ⟨k,hk1,hk2,hk3,hk4,rfl,hz⟩:=hrel
    by_cases hlt:k≤155∧k+2≤s.size
    ·obtain ⟨hA,hB⟩:=hlt;have hk:k<s.size:=by omega
     have hg:=getD_is s k hk
     by_cases hc:s[k]=47
     ·have hc':((s[k].toNat:Int)==47)=true:=by rw [hc];rfl
      have HF:=Lib.hid (show qiV s.data.toList=(k:Int) by
       rw [qiV,q2M hz.out (fits_mk (by rw [HL.out];omega) (by rw [hg,hc]))])
      clear hc hg;go_wp2;go_ret;exact ⟨qaV HF.out.symm,rfl⟩
     ·have hc':((s[k].toNat:Int)==47)=false:=by
       rw [beq_eq_false_iff_ne];intro h;exact hc (UInt8.toNat_inj.1 (show s[k].toNat=47 by omega))
      have HF:Hid (q1D s.data.toList (k+1)):=q1C hz.out (fits_ne (by rw [hg];exact hc));clear hc hg;go_wp2;go_round
      case rel=>exact ⟨k+1,by omega,by omega,by omega,by omega,by go_num,HF⟩
      case measure=>simp [intOf];omega
    ·have HF:=Lib.hid (show qiV s.data.toList= -1 by
      rw [qiV,q2N hz.out (by rw [HL.out];omega)])
     by_cases hA:k≤155
     ·have hB: ¬k+2≤s.size:=fun h=>hlt ⟨hA,h⟩;clear hlt
      first
       |(exfalso;omega)
       |(go_wp2;go_ret;exact ⟨qaV HF.out.symm,rfl⟩)
     ·clear hlt
      first
       |(exfalso;omega)
       |(go_wp2;go_ret;exact ⟨qaV HF.out.symm,rfl⟩)
theorem q2F (s:ByteArray) (k:Nat):s.extract 0 k=bs (s.data.toList.take k)∧s.extract (k+1) s.size=bs (s.data.toList.drop (k+1)):=by
 constructor
 ·apply ByteArray.ext;apply Array.toList_inj.1;rw [ByteArray.data_extract,Array.toList_extract,qaF];simp [List.extract]
 ·apply ByteArray.ext;apply Array.toList_inj.1;rw [ByteArray.data_extract,Array.toList_extract,qaF];simp [List.extract];rw [List.take_of_length_le (by simp)]
set_option maxHeartbeats 1600000 in
theorem q8P (s:ByteArray) (w:World) (hs:s.size≤maxLen) (hs':s.size≤281474976710656) (hx:s.size≤100∨hasB 0 s.data.toList=true):Calls Tryz.prog 182 #[.string s] w fun e w'=>e= .returned (.tuple #[.string (bs (cutV s.data.toList).1),.string (bs (cutV s.data.toList).2.1),.int .i64 (cutV s.data.toList).2.2])∧Below w.heap.size w w':=by
 have HL:=Lib.hid (show s.data.toList.length=s.size by simp);have hm:s.size≤maxLen:=hs;unfold maxLen at hs
 by_cases h0:s.data.toList= []
 ·have HF:=Lib.hid (qoB (.inl h0));have e0:s.toList= []:=by rw [ByteArray.toList_eq];exact h0
  clear h0;go_enter Tryz.func182,Tryz.ntmps182;go_wp2_with fail
  go_ret3
  exact ⟨by rw [HF.out];rfl,Below.refl _ _⟩
 ·have e0:s.toList.isEmpty=false:=by rw [ByteArray.toList_eq,←Bool.not_eq_true,List.isEmpty_iff];exact h0
  cases hz:hasB 0 s.data.toList
  ·have h1:s.size≤100:=by
    rcases hx with h|h
    ·exact h
    ·rw [hz]at h;cases h
   have HF:=Lib.hid (qqF h0 hz (by rw [HL.out];exact h1));have HZ:=Lib.hid hz;clear h0 hz hx;go_enter Tryz.func182,Tryz.ntmps182;go_wp2_with fail;refine (qbY s _ HZ.out).mono ?_;rintro e w' ⟨rfl,rfl⟩;go_wp2_with fail;refine (qa5 _ _ (by omega)).mono ?_;rintro e w1 ⟨rfl,hb⟩;go_wp2_with fail
   go_ret3
   exact ⟨by rw [HF.out,qgJ];rfl,hb⟩
  ·have HF:=Lib.hid (qoB (.inr hz));have HZ:=Lib.hid hz;clear h0 hz hx;go_enter Tryz.func182,Tryz.ntmps182;go_wp2_with fail;refine (qb4 s _ HZ.out).mono ?_;rintro e w' ⟨rfl,rfl⟩;go_wp2_with fail
   go_ret3
   exact ⟨by rw [HF.out];rfl,Below.refl _ _⟩
set_option maxHeartbeats 4000000 in
theorem zdB (s:ByteArray) (w:World) (hs:s.size≤maxLen) (hs':s.size≤281474976710656) (h1:100<s.size) (hz:hasB 0 s.data.toList=false):Calls Tryz.prog 182 #[.string s] w fun e w'=>e= .returned (.tuple #[.string (bs (cutV s.data.toList).1),.string (bs (cutV s.data.toList).2.1),.int .i64 (cutV s.data.toList).2.2])∧Below w.heap.size w w':=by
 have HL:=Lib.hid (show s.data.toList.length=s.size by simp);have hm:s.size≤maxLen:=hs;unfold maxLen at hs
 have e0:s.toList.isEmpty=false:=by
  rw [ByteArray.toList_eq,←Bool.not_eq_true,List.isEmpty_iff];intro a;have:=HL.out;rw [a]at this;simp at this;omega
 have HZ:=Lib.hid hz;clear hz;cases hc:qlR s.data.toList with
 |none=>
  have HF:=Lib.hid (qvD HZ.out (by rw [HL.out];exact h1) hc);have HS:=Lib.hid (show qiV s.data.toList= -1 by rw [qiV,hc]);clear hc;go_enter Tryz.func182,Tryz.ntmps182;go_wp2_with fail;refine (qbY s _ HZ.out).mono ?_;rintro e w' ⟨rfl,rfl⟩;go_wp2_with fail;refine (qh4 s _ hm h1).mono ?_;rintro e w' ⟨rfl,rfl⟩;rw [HS.out];go_wp2_with fail
  go_ret3
  exact ⟨by rw [HF.out];rfl,Below.refl _ _⟩
 |some k=>
  have HF:=Lib.hid (qvC HZ.out (by rw [HL.out];exact h1) hc);have HS:=Lib.hid (show qiV s.data.toList=(k:Int) by rw [qiV,hc]);have hb:=qr8 (qsO hc);rw [HL.out]at hb;obtain ⟨b1,b2,b3,b4⟩:=hb;have HE:=Lib.hid (q2F s k);have z1:(bs (s.data.toList.take k)).size≤281474976710656:=by rw [qaC,List.length_take];omega
  have z2:(bs (s.data.toList.drop (k+1))).size≤281474976710656:=by rw [qaC,List.length_drop,HL.out];omega
  clear hc;obtain ⟨p,Hp⟩:=qaA (bs (s.data.toList.take k));obtain ⟨n,Hn⟩:=qaA (bs (s.data.toList.drop (k+1)));rw [Hp.out]at z1;rw [Hn.out]at z2;have y0:(0:Int)≤(k:Int):=by omega
  have y1:(k:Int)≤(s.size:Int):=by omega
  have y3:k<s.size:=by omega
  have y7:(0:Int)≤(k:Int)+1:=by omega
  have ya:((k:Int)+1).toNat=k+1:=by omega
  have yb:IntKind.i64.wrap ((k:Int)+1)=(k:Int)+1:=IntWalk.i64_in _ (by omega);have y2:(k:Int)+1≤(s.size:Int):=by omega
  have x1:=Lib.hid (show s.extract 0 k=p from HE.out.1.trans Hp.out);have x2:=Lib.hid (show s.extract (k+1) s.size=n from HE.out.2.trans Hn.out);clear hs';have w1:(s.extract 0 k).size≤281474976710656:=by rw [x1.out];exact z1
  have w2:(s.extract (k+1) s.size).size≤281474976710656:=by rw [x2.out];exact z2
  go_enter Tryz.func182,Tryz.ntmps182;go_wp2_with fail;refine (qbY s _ HZ.out).mono ?_;rintro e w' ⟨rfl,rfl⟩;go_wp2_with fail;refine (qh4 s _ hm h1).mono ?_;rintro e w' ⟨rfl,rfl⟩;rw [HS.out];go_wp2_with fail;go_upto_region 8 with fail
  go_region_with
   (first
    |(go_at_call 110;(have F1:=hb1);refine (qa5 _ _ (by assumption)).mono ?_;rintro e w2 ⟨rfl,hb2⟩)
    |(go_at_call 110;refine (qa5 _ _ (by assumption)).mono ?_;rintro e w1 ⟨rfl,hb1⟩))
  all_goals
   go_wp2_with fail
   go_ret3
   exact ⟨by rw [HF.out,←HE.out.1,←HE.out.2];rfl,((Below.refl w.heap.size w).drew.trans (show Below w.heap.size w.drew w1 from hb1)).trans (hb2.mono (show w.heap.size≤w1.heap.size from hb1.size))⟩
theorem qx3 (s:ByteArray) (w:World) (hs:s.size≤maxLen) (hs':s.size≤281474976710656):Calls Tryz.prog 182 #[.string s] w fun e w'=>e= .returned (.tuple #[.string (bs (cutV s.data.toList).1),.string (bs (cutV s.data.toList).2.1),.int .i64 (cutV s.data.toList).2.2])∧Below w.heap.size w w':=by
 by_cases h:s.size≤100∨hasB 0 s.data.toList=true
 ·exact q8P s w hs hs' h
 ·exact zdB s w hs hs' (by omega) (by rw [←Bool.not_eq_true];exact fun a=>h (.inr a))
theorem join_bs (p n:ByteArray):p++⟨#[47]⟩++n=bs (p.data.toList++ [47]++n.data.toList):=by
 apply ByteArray.ext;apply Array.toList_inj.1;simp [bs,ByteArray.data_append]
theorem zcS {p n:ByteArray} (h:p.data.toList= []):bs (qdE p.data.toList n.data.toList)=n:=by rw [qdE,if_pos h,qgJ]
theorem zcR {p n:ByteArray} (h:p.data.toList≠ []):p++⟨#[47]⟩++n=bs (qdE p.data.toList n.data.toList):=by rw [qdE,if_neg h,join_bs]
theorem join_le (p n:ByteArray) (hp:p.size≤155) (hn:n.size≤100):(bs (qdE p.data.toList n.data.toList)).size≤256:=by
 rw [qaC,qdE];split
 ·have:n.data.toList.length=n.size:=by simp
  omega
 ·simp;omega
theorem q5D {p n:List UInt8} {q m:ByteArray} {f:Int} (h: ¬(n.length<1∨100<n.length∨155<p.length)) (hq:bs (cutV (qdE p n)).1=q) (hm:bs (cutV (qdE p n)).2.1=m) (hf:(cutV (qdE p n)).2.2=f)
  (hx:f≠0∨q.data.toList≠p∨m.data.toList≠n):oneV p n=([],3):=by
 refine q5F h fun e=> ?_;rw [e]at hq hm hf;subst hq hm hf;rcases hx with a|a|a
 ·exact a rfl
 ·exact a rfl
 ·exact a rfl
theorem one_yes {p n:List UInt8} {q m:ByteArray} {f:Int} (h: ¬(n.length<1∨100<n.length∨155<p.length)) (hq:bs (cutV (qdE p n)).1=q) (hm:bs (cutV (qdE p n)).2.1=m) (hf:(cutV (qdE p n)).2.2=f)
  (h1:f=0) (h2:q.data.toList=p) (h3:m.data.toList=n):oneV p n=(qdE p n,0):=by
 refine q5E h ?_;rw [←hq]at h2;rw [←hm]at h3;exact Prod.ext h2 (Prod.ext h3 (hf.trans h1))
theorem zbP (p n:ByteArray) (w:World) (hp:p.size≤155) (hn:n.size≤100):Calls Tryz.prog 250 #[.string p,.string n] w fun e w'=>e= .returned (.string (bs (qdE p.data.toList n.data.toList)))∧Below w.heap.size w w':=by
 by_cases h0:p.data.toList= []
 ·have e0:p.toList= []:=by rw [ByteArray.toList_eq];exact h0
  have HJ:=Lib.hid (zcS (n:=n) h0);clear h0;go_enter Tryz.func250,Tryz.ntmps250;go_wp2_with fail;refine (qa5 _ _ (by omega)).mono ?_;rintro e w1 ⟨rfl,hb⟩;go_wp2_with fail;go_ret;exact ⟨by rw [HJ.out];rfl,hb⟩
 ·have e0:p.toList.isEmpty=false:=by rw [ByteArray.toList_eq,←Bool.not_eq_true,List.isEmpty_iff];exact h0
  have HJ:=Lib.hid (zcR (n:=n) h0);clear h0;go_enter Tryz.func250,Tryz.ntmps250;go_wp2_with fail;go_ret;exact ⟨by rw [←HJ.out];rfl,Below.refl _ _⟩
set_option maxHeartbeats 1600000 in
theorem One_any (p n:ByteArray) (w:World) (hp:p.size≤maxLen) (hn:n.size≤maxLen):Calls Tryz.prog 211 #[.string p,.string n] w fun e w'=>e= .returned (.tuple #[.string (bs (oneV p.data.toList n.data.toList).1),.int .i64 (oneV p.data.toList n.data.toList).2])∧Below w.heap.size w w':=by
 have HP:=Lib.hid (show p.data.toList.length=p.size by simp);have HN:=Lib.hid (show n.data.toList.length=n.size by simp);unfold maxLen at hp hn
 by_cases h0:n.size<1
 ·have HF:=Lib.hid (qm7 (p:=p.data.toList) (n:=n.data.toList) (.inl (by rw [HN.out];exact h0)));go_enter Tryz.func211,Tryz.ntmps211;go_wp2_with fail;go_ret2;exact ⟨by rw [HF.out];rfl,Below.refl _ _⟩
 ·by_cases h1:100<n.size
  ·have HF:=Lib.hid (qm7 (p:=p.data.toList) (n:=n.data.toList) (.inr (.inl (by rw [HN.out];exact h1))));go_enter Tryz.func211,Tryz.ntmps211;go_wp2_with fail;go_ret2;exact ⟨by rw [HF.out];rfl,Below.refl _ _⟩
  ·by_cases h2:155<p.size
   ·have HF:=Lib.hid (qm7 (p:=p.data.toList) (n:=n.data.toList) (.inr (.inr (by rw [HP.out];exact h2))));go_enter Tryz.func211,Tryz.ntmps211;go_wp2_with fail;go_ret2;exact ⟨by rw [HF.out];rfl,Below.refl _ _⟩
   ·have hz: ¬(n.data.toList.length<1∨100<n.data.toList.length∨155<p.data.toList.length):=by rw [HN.out,HP.out];omega
    have HZ:=Lib.hid hz;clear hz;have hjl:=join_le p n (by omega) (by omega);obtain ⟨q,Hq⟩:=qaA (bs (cutV (qdE p.data.toList n.data.toList)).1);obtain ⟨m,Hm⟩:=qaA (bs (cutV (qdE p.data.toList n.data.toList)).2.1);obtain ⟨f,Hf⟩:=qaA (cutV (qdE p.data.toList n.data.toList)).2.2
    have HC:Hid (∀W,Calls Tryz.prog 182 #[.string (bs (qdE p.data.toList n.data.toList))] W fun e w'=>e= .returned (.tuple #[.string q,.string m,.int .i64 f])∧Below W.heap.size W w'):=fun W=>by
     rw [←Hq.out,←Hm.out,←Hf.out];exact qx3 _ W (by unfold maxLen;omega) (by omega)
    obtain ⟨S,HS⟩:=qaA (bs (qdE p.data.toList n.data.toList));rw [HS.out]at HC hjl;have t1:=qq1 q p;have t2:=qq1 m n;go_enter Tryz.func211,Tryz.ntmps211;go_wp2_with fail;refine (zbP p n _ (by omega) (by omega)).mono ?_;rintro e w1 ⟨rfl,hb1⟩;have HB1:=Lib.hid hb1;clear hb1;rw [HS.out];go_wp2_with fail;refine (HC.out _).mono ?_;rintro e w2 ⟨rfl,hb2⟩;have HB2:=Lib.hid (HB1.out.trans (hb2.mono HB1.out.size));clear hb2
    by_cases hf:f=0
    ·have hf':(f !=0)=false:=by simp [hf]
     by_cases hq:q.data.toList=p.data.toList
     ·rw [decide_eq_true hq]at t1
      by_cases hm:m.data.toList=n.data.toList
      ·rw [decide_eq_true hm]at t2;have HF:=Lib.hid (one_yes HZ.out Hq.out Hm.out Hf.out hf hq hm);clear hf hq hm;go_wp2_with fail;go_ret2;exact ⟨by rw [HF.out,HS.out];rfl,HB2.out⟩
      ·rw [decide_eq_false hm]at t2;have HF:=Lib.hid (q5D HZ.out Hq.out Hm.out Hf.out (.inr (.inr hm)));clear hf hq hm;go_wp2_with fail;go_ret2;exact ⟨by rw [HF.out];rfl,HB2.out⟩
     ·rw [decide_eq_false hq]at t1;have HF:=Lib.hid (q5D HZ.out Hq.out Hm.out Hf.out (.inr (.inl hq)));clear hf hq t2;go_wp2_with fail;go_ret2;exact ⟨by rw [HF.out];rfl,HB2.out⟩
    ·have hf':(f !=0)=true:=by simp [hf]
     have HF:=Lib.hid (q5D HZ.out Hq.out Hm.out Hf.out (.inl hf));clear hf t1 t2;go_wp2_with fail;go_ret2;exact ⟨by rw [HF.out];rfl,HB2.out⟩
end Go.Proofs.YtapgoifimhnbdaaGreatDoor
