/- qaV of one kind, in one file: RecD, RecE. -/
import Derived.Test.YtapgoifimhnbdaaGreatDoorRca
import Derived.Test.YtapgoifimhnbdaaGreatDoorMth
import Derived.BigRegion
import Derived.Deep.RegionWith
set_option linter.unusedVariables false
set_option maxRecDepth 100000
namespace Go.Proofs.YtapgoifimhnbdaaGreatDoor
open Go.RowKit
open Go.OpenShut
theorem q7U (c:UInt8):isD c=true↔(48:Int)≤(c.toNat:Int)∧(c.toNat:Int)≤57:=by
 unfold isD;rw [decide_eq_true_eq];omega
set_option maxHeartbeats 1000000 in
theorem qk1 (s:ByteArray) (w:World) (hs:s.size≤maxLen):Calls Tryz.prog 295 #[.string s] w fun e w'=>e= .returned (.bool (numB s.data.toList))∧w=w':=by
 unfold maxLen at hs
 by_cases h0:s.size=0
 ·obtain rfl:=qiO h0;clear h0;go_enter Tryz.func295,Tryz.ntmps295;go_wp2_with fail;go_ret;exact ⟨rfl,rfl⟩
 ·have hemp:=qlD h0
  by_cases h4:4<s.size
  ·have HX:=Lib.hid (show false=numB s.data.toList from (by unfold numB;rw [decide_eq_false (by rw [qaD];omega),Bool.false_and]));rw [←HX.out];clear h0;go_enter Tryz.func295,Tryz.ntmps295;go_wp2_with fail;go_ret;exact ⟨rfl,rfl⟩
  ·have hlt0:0<s.size:=by omega
   have hh:s.data.toList.head?=some (s[0]'hlt0):=by
    rw [List.head?_eq_getElem?];exact Lib.data_getElem? s 0 hlt0
   by_cases hz:s[0]'hlt0=48
   ·have hz':(((s[0]'hlt0).toNat:Int)==48)=true:=by rw [hz];rfl
    have HX:=Lib.hid (show false=numB s.data.toList from (by unfold numB;rw [decide_eq_false (by rw [hh,hz];exact fun a=>a.2.2 rfl),Bool.false_and]));rw [←HX.out];clear h0 hz hh;go_enter Tryz.func295,Tryz.ntmps295;go_wp2_with fail;go_ret;exact ⟨rfl,rfl⟩
   ·have hz':(((s[0]'hlt0).toNat:Int)==48)=false:=by
     rw [beq_eq_false_iff_ne];intro a;exact hz (UInt8.toNat_inj.1 (by show _=48;omega))
    have HN:=Lib.hid (show 1≤s.data.toList.length∧s.data.toList.length≤4∧s.data.toList.head?≠some 48 from ⟨by rw [qaD];omega,by rw [qaD];omega,by rw [hh];exact fun a=>hz (Option.some.inj a)⟩);clear h0 hz hh;go_enter Tryz.func295,Tryz.ntmps295;go_wp2_with fail
    go_loop [18] (fun i=> ∃k:Nat,k≤s.size∧i= .int .i64 k∧Hid (∀c∈s.data.toList.take k,isD c=true)) (fun i=>s.size-(intOf i).toNat)
    case atStart=>exact ⟨0,Nat.zero_le _,rfl,fun c hc=>by simp at hc⟩
    case round=>
     obtain ⟨k,hk,rfl,HD⟩:=hrel
     by_cases hlt:k<s.size
     ·have Hs:=Lib.hid (qc4 s k hlt);obtain ⟨c,hc⟩: ∃c:UInt8,s[k]=c:=⟨_,rfl⟩;have hcu:=qlU c
      by_cases hd:isD c=true
      ·have HD2:Hid (∀c∈s.data.toList.take (k+1),isD c=true):=by
        unfold Hid;rw [Hs.out,hc];intro x hx;rcases List.mem_append.1 hx with hx|hx
        ·exact HD.out x hx
        ·rw [List.mem_singleton.1 hx];exact hd
       obtain ⟨h1,h2⟩:=(q7U c).1 hd;clear hd;go_wp2_with fail;go_round
       case rel=>exact ⟨k+1,by omega,by go_num,HD2⟩
       case measure=>simp [intOf];omega
      ·have HX:=Lib.hid (show false=numB s.data.toList from (by
        cases e:numB s.data.toList
        ·rfl
        ·have:=(qfV e).2 c (by rw [←hc];exact Array.getElem_mem_toList (xs:=s.data) hlt)
         exact absurd this hd))
       rw [q7U]at hd;rcases (show (c.toNat:Int)<48∨(¬(c.toNat:Int)<48∧57<(c.toNat:Int)) by omega)with h1|⟨h1,h2⟩
       all_goals
        clear hd;go_wp2_with fail;go_ret;exact ⟨qa7 HX.out,rfl⟩
     ·obtain rfl:k=s.size:=by omega
      have HX:=Lib.hid (show true=numB s.data.toList from (q13 HN.out (by have:=HD.out;rw [←qaD,List.take_length]at this;exact this)).symm);go_wp2_with fail;go_ret;exact ⟨qa7 HX.out,rfl⟩
def recZ:Array Value:= #[.string ⟨#[]⟩,.string ⟨#[]⟩]
structure Spl (t:ByteArray) (st:Nat) (B X K V:ByteArray) (e f:Bool):Prop where
 hB:t.extract st t.size=B
 hs: ∀W:World,Calls Tryz.prog 324 #[.string B,.string ⟨#[10]⟩] W fun e' w'=>e'= .returned (.tuple #[.string X,.bool e])∧W=w'
 hc: ∀W:World,Calls Tryz.prog 294 #[.string X,.string ⟨#[61]⟩] W fun e' w'=>e'= .returned (.tuple #[.string K,.string V,.bool f])∧ ∃n,w'=W.drewN n
 hX:X.size≤t.size
 hK:K.size≤t.size
 hV:V.size≤t.size
theorem q7O (t:ByteArray) (st:Nat) (ht:t.size≤100000): ∃B X,Spl t st B X (bs (splK t.data.toList st)) (bs (splV t.data.toList st)) (Lib.hasSuffix (t.data.toList.drop st) [10]) (hasB 61 (splB t.data.toList st)):=by
 have hBl:(t.extract st t.size).data.toList=t.data.toList.drop st:=qcI t st
 have hXl:(splB t.data.toList st).length≤t.size:=by
  unfold splB Lib.trimSuffix
  split
  ·rw [List.length_take,List.length_drop,qaD];omega
  ·rw [List.length_drop,qaD];omega
 refine ⟨_,bs (splB t.data.toList st),rfl,fun W=> ?_,fun W=> ?_,by rw [qaB];exact hXl,?_,?_⟩
 ·refine (Tryz.strings_CutSuffix (t.extract st t.size) ⟨#[10]⟩ W (by rw [ByteArray.size_extract];omega)).mono ?_;rintro e w' ⟨rfl,rfl⟩;rw [hBl];exact ⟨rfl,rfl⟩
 ·have h:=qrN (bs (splB t.data.toList st)) 61 W (by rw [qaB];unfold maxLen;omega);rw [qaH]at h;exact h
 ·rw [qaB];unfold splK;rw [List.length_take];omega
 ·rw [qaB];unfold splV;rw [List.length_drop];omega
set_option maxHeartbeats 1000000 in
theorem qxZ (t:ByteArray) (st:Nat) (w:World) (hst:st≤100) (ht:t.size≤100000) (h:splO t.data.toList st=false):
  Calls Tryz.prog 296 #[.string t,.int .i64 st] w fun e w'=>e= .returned (.tuple #[recV ⟨#[]⟩ ⟨#[]⟩,.bool false])∧Below w.heap.size w w':=by
 unfold recV
 by_cases hl:t.size≤st
 ·clear h;go_enter Tryz.func296,Tryz.ntmps296;go_wp2_with fail;exact bodyPost_ret (v:= .tuple #[.agg #[.string ⟨#[]⟩,.string ⟨#[]⟩],.bool false]) (by simp [results,Tryz.results296,go_sem, *]) rfl ⟨rfl,(Below.refl _ _).alloc (Nat.le_refl _) _⟩
 ·obtain ⟨B,X,hS⟩:=q7O t st ht
  have hef:(Lib.hasSuffix (t.data.toList.drop st) [10] &&hasB 61 (splB t.data.toList st))=false:=by
   unfold splO at h;rw [decide_eq_true (by rw [qaD];omega),Bool.true_and]at h;exact h
  obtain ⟨K,HK⟩:=qaA (bs (splK t.data.toList st));obtain ⟨V,HV⟩:=qaA (bs (splV t.data.toList st));obtain ⟨e,He⟩:=qaA (Lib.hasSuffix (t.data.toList.drop st) [10]);obtain ⟨f,Hf⟩:=qaA (hasB 61 (splB t.data.toList st));rw [He.out,Hf.out]at hef;rw [HK.out,HV.out,He.out,Hf.out]at hS;have HS:=Lib.hid hS.hs;have HC:=Lib.hid hS.hc;have HB:=Lib.hid hS.hB;have hst1:st<t.size:=by omega
  clear h hS;cases e
  all_goals
   cases f
   all_goals
    first
     |(exfalso;revert hef;decide)
     |(clear hef;go_enter Tryz.func296,Tryz.ntmps296;go_wp2_with fail;rw [HB.out];refine (HS.out _).mono ?_;rintro e1 w1 ⟨rfl,rfl⟩;go_wp2_with fail;refine (HC.out _).mono ?_;rintro e1 w1 ⟨rfl,n1,rfl⟩;go_wp2_with fail;exact bodyPost_ret (v:= .tuple #[.agg #[.string ⟨#[]⟩,.string ⟨#[]⟩],.bool false]) (by simp [results,Tryz.results296,go_sem, *]) rfl ⟨rfl,Below.set2 (below_drewN ((Below.refl _ _).alloc (Nat.le_refl _) _) _) (Nat.le_refl _) _ _⟩)
set_option maxHeartbeats 1000000 in
theorem qjT (t:ByteArray) (st:Nat) (w:World) (hst:st≤100) (ht:t.size≤100000) (h:splO t.data.toList st=true):
  Calls Tryz.prog 296 #[.string t,.int .i64 st] w fun e w'=>e= .returned (.tuple #[recV (bs (splK t.data.toList st)) (bs (splV t.data.toList st)),.bool true])∧Below w.heap.size w w':=by
 unfold recV;unfold splO at h;rw [Bool.and_eq_true,Bool.and_eq_true,decide_eq_true_eq,qaD]at h;obtain ⟨hst1,he,hf⟩:=h;obtain ⟨B,X,hS⟩:=q7O t st ht;rw [he,hf]at hS;obtain ⟨K,HK⟩:=qaA (bs (splK t.data.toList st));obtain ⟨V,HV⟩:=qaA (bs (splV t.data.toList st));rw [HK.out,HV.out]at hS⊢;have HS:=Lib.hid hS.hs;have HC:=Lib.hid hS.hc;have HB:=Lib.hid hS.hB;have HK1:=Lib.hid hS.hK;have HV1:=Lib.hid hS.hV;clear he hf hS;go_enter Tryz.func296,Tryz.ntmps296;go_wp2_with fail;rw [HB.out];refine (HS.out _).mono ?_;rintro e1 w1 ⟨rfl,rfl⟩;go_wp2_with fail;refine (HC.out _).mono ?_;rintro e1 w1 ⟨rfl,n1,rfl⟩;have hb0:=Blk.drewN (Blk.new w 190 recZ) n1;have hw0:Below w.heap.size w ((w.alloc (.cells recZ 190)).drewN n1):=below_drewN ((Below.refl _ _).alloc (Nat.le_refl _) _) _;unfold recZ at hb0 hw0;go_wp2_with fail;refine (qaY K _ (by have:=HK1.out;omega)).mono ?_;rintro e1 w1 ⟨rfl,hb1⟩;have hb1':=hb0.below hb1 hb0.lt;have hw1:=hw0.trans (hb1.mono (Nat.le_of_lt hb0.lt));clear hb0 hw0 hb1;go_wp2_with fail;refine (qaY V _ (by have:=HV1.out;omega)).mono ?_;rintro e1 w2 ⟨rfl,hb2⟩;have hb2':=hb1'.below hb2 hb1'.lt;have HW2:=Lib.hid (hw1.trans (hb2.mono (Nat.le_of_lt hb1'.lt)));clear hb1' hw1 hb2;obtain ⟨⟨c0,c1⟩,f0,f1⟩:=blk2 hb2';have HP:=Lib.hid (Blk.put2 hb2' (.string K) (.string V));clear hb2';go_wp2_with fail;obtain ⟨⟨c0',c1'⟩,f0',f1'⟩:=blk2 HP.out
 exact bodyPost_ret (v:= .tuple #[.agg #[.string K,.string V],.bool true]) (by simp [results,Tryz.results296,go_sem, *]) rfl ⟨rfl,Below.set2 HW2.out (Nat.le_refl _) _ _⟩
def rdV (r:List UInt8×List UInt8×List UInt8×Int):Value:= .tuple #[recV (bs r.1) (bs r.2.1),.string (bs r.2.2.1),.int .i64 r.2.2.2]
theorem qsD (c:Int):rdV ([], [], [],c)= .tuple #[.agg #[.string ⟨#[]⟩,.string ⟨#[]⟩],.string ⟨#[]⟩,.int .i64 c]:=rfl
theorem qd9 (s:ByteArray) (k:Nat):(s.extract 0 k).data.toList=s.data.toList.take k:=by
 rw [ByteArray.data_extract,Array.toList_extract];simp [List.extract]
set_option maxHeartbeats 1000000 in
theorem qzY (s:ByteArray) (w:World) (hs:s.size≤281474976710656) (h: ¬(hasB 32 s.data.toList=true∧numB (s.data.toList.take (pos 32 s.data.toList))=true)):
  Calls Tryz.prog 249 #[.string s] w fun e w'=>e= .returned (rdV (recR s.data.toList))∧Below w.heap.size w w':=by
 rw [qx5 h,qsD];have HC:=Lib.hid fun W=>qrN s 32 W (by unfold maxLen;omega);have HN:=Lib.hid fun W=>qk1 (bs (s.data.toList.take (pos 32 s.data.toList))) W (by rw [qaB,List.length_take];unfold maxLen;rw [qaD];omega);rw [qaH]at HN;obtain ⟨A,HA⟩:=qaA (bs (s.data.toList.take (pos 32 s.data.toList)));obtain ⟨B,HB⟩:=qaA (bs (s.data.toList.drop (pos 32 s.data.toList+1)));obtain ⟨f,Hf⟩:=qaA (hasB 32 s.data.toList);obtain ⟨b,Hb⟩:=qaA (numB (s.data.toList.take (pos 32 s.data.toList)));rw [HA.out,HB.out,Hf.out]at HC;rw [HA.out,Hb.out]at HN;rw [Hf.out,Hb.out]at h;cases f
 ·clear h;go_enter Tryz.func249,Tryz.ntmps249;go_wp2_with fail;refine (HC.out _).mono ?_;rintro e1 w1 ⟨rfl,n1,rfl⟩;go_wp2_with fail;exact bodyPost_ret (v:= .tuple #[.agg #[.string ⟨#[]⟩,.string ⟨#[]⟩],.string ⟨#[]⟩,.int .i64 3]) (by simp [results,Tryz.results249,go_sem, *]) rfl ⟨rfl,Below.set2 (below_drewN ((Below.refl _ _).alloc (Nat.le_refl _) _) _) (Nat.le_refl _) _ _⟩
 ·cases b
  ·clear h;go_enter Tryz.func249,Tryz.ntmps249;go_wp2_with fail;refine (HC.out _).mono ?_;rintro e1 w1 ⟨rfl,n1,rfl⟩;go_wp2_with fail;refine (HN.out _).mono ?_;rintro e1 w1 ⟨rfl,rfl⟩;go_wp2_with fail;exact bodyPost_ret (v:= .tuple #[.agg #[.string ⟨#[]⟩,.string ⟨#[]⟩],.string ⟨#[]⟩,.int .i64 3]) (by simp [results,Tryz.results249,go_sem, *]) rfl ⟨rfl,Below.set2 (below_drewN ((Below.refl _ _).alloc (Nat.le_refl _) _) _) (Nat.le_refl _) _ _⟩
  ·exact absurd ⟨rfl,rfl⟩ h
structure Fro (s:ByteArray) (n:Nat) (A B:ByteArray):Prop where
 hc: ∀W:World,Calls Tryz.prog 294 #[.string s,.string ⟨#[32]⟩] W fun e w'=>e= .returned (.tuple #[.string A,.string B,.bool true])∧ ∃n,w'=W.drewN n
 hn: ∀W:World,Calls Tryz.prog 295 #[.string A] W fun e w'=>e= .returned (.bool true)∧W=w'
 ha: ∀W:World,Calls Tryz.prog 174 #[.string A] W fun e w'=>e= .returned (.tuple #[.int .i64 (n:Int),.nilIface])∧Below W.heap.size W w'
theorem qtB (s:ByteArray) (hs:s.size≤281474976710656) (hb:hasB 32 s.data.toList=true) (hn:numB (s.data.toList.take (pos 32 s.data.toList))=true):
  Fro s (dVal (s.data.toList.take (pos 32 s.data.toList))) (bs (s.data.toList.take (pos 32 s.data.toList))) (bs (s.data.toList.drop (pos 32 s.data.toList+1))):=by
 have hAs:(bs (s.data.toList.take (pos 32 s.data.toList))).size≤s.size:=by rw [qaB,List.length_take,qaD];omega
 refine ⟨fun W=> ?_,fun W=> ?_,fun W=> ?_⟩
 ·have h:=qrN s 32 W (by unfold maxLen;omega);rw [hb]at h;exact h
 ·have h:=qk1 (bs (s.data.toList.take (pos 32 s.data.toList))) W (by unfold maxLen;omega);rw [qaH,hn]at h;exact h
 ·exact qvX _ _ W (by omega) (by rw [qaH,q65 _ hn];rfl)
set_option maxHeartbeats 1000000 in
theorem qzX (s:ByteArray) (w:World) (hs:s.size≤281474976710656) (hb:hasB 32 s.data.toList=true) (hn:numB (s.data.toList.take (pos 32 s.data.toList))=true) (h:s.size<dVal (s.data.toList.take (pos 32 s.data.toList))):
  Calls Tryz.prog 249 #[.string s] w fun e w'=>e= .returned (rdV (recR s.data.toList))∧Below w.heap.size w w':=by
 rw [qx4 hb hn rfl (by rw [qaD];exact h),qsD];have hF:=qtB s hs hb hn;have hd:=(qjK _ hn).2;obtain ⟨A,HA⟩:=qaA (bs (s.data.toList.take (pos 32 s.data.toList)));obtain ⟨B,HB⟩:=qaA (bs (s.data.toList.drop (pos 32 s.data.toList+1)));obtain ⟨n,Hn⟩:=qaA (dVal (s.data.toList.take (pos 32 s.data.toList)));rw [HA.out,HB.out,Hn.out]at hF;rw [Hn.out]at h hd;have HC:=Lib.hid hF.hc;have HN:=Lib.hid hF.hn;have HI:=Lib.hid hF.ha;clear hb hn hF;go_enter Tryz.func249,Tryz.ntmps249;go_wp2_with fail;refine (HC.out _).mono ?_;rintro e1 w1 ⟨rfl,n1,rfl⟩;go_wp2_with fail;refine (HN.out _).mono ?_;rintro e1 w1 ⟨rfl,rfl⟩;have hb0:=Blk.drewN (Blk.new w 190 recZ) n1;have hw0:Below w.heap.size w ((w.alloc (.cells recZ 190)).drewN n1):=below_drewN ((Below.refl _ _).alloc (Nat.le_refl _) _) _;unfold recZ at hb0 hw0;go_wp2_with fail;refine (HI.out _).mono ?_;rintro e1 w2 ⟨rfl,hb2⟩;have hb2':=hb0.below hb2 hb0.lt;have HW2:=Lib.hid (hw0.trans (hb2.mono (Nat.le_of_lt hb0.lt)));clear hb0 hw0 hb2;obtain ⟨⟨c0,c1⟩,f0,f1⟩:=blk2 hb2';have HP:=Lib.hid (Blk.put2 hb2' (.string ⟨#[]⟩) (.string ⟨#[]⟩));clear hb2';go_wp2_with fail;obtain ⟨⟨c0',c1'⟩,f0',f1'⟩:=blk2 HP.out;exact bodyPost_ret (v:= .tuple #[.agg #[.string ⟨#[]⟩,.string ⟨#[]⟩],.string ⟨#[]⟩,.int .i64 7]) (by simp [results,Tryz.results249,go_sem, *]) rfl ⟨rfl,Below.set2 HW2.out (Nat.le_refl _) _ _⟩
set_option maxHeartbeats 1000000 in
theorem qzW (s:ByteArray) (w:World) (hs:s.size≤281474976710656) (hb:hasB 32 s.data.toList=true) (hn:numB (s.data.toList.take (pos 32 s.data.toList))=true) (h:dVal (s.data.toList.take (pos 32 s.data.toList))≤s.size)
  (h2:splO (s.data.toList.take (dVal (s.data.toList.take (pos 32 s.data.toList)))) (pos 32 s.data.toList+1)=false):
  Calls Tryz.prog 249 #[.string s] w fun e w'=>e= .returned (rdV (recR s.data.toList))∧Below w.heap.size w w':=by
 rw [qx3 hb hn rfl rfl (by rw [qaD];exact h) h2,qsD];have hF:=qtB s hs hb hn;have hd:=qjK _ hn
 have hA:(bs (s.data.toList.take (pos 32 s.data.toList))).size=pos 32 s.data.toList:=by
  rw [qaB,List.length_take];have:=qeK 32 s.data.toList;omega
 have hp4:pos 32 s.data.toList≤4:=by
  have:=(qfV hn).1.2.1;rw [List.length_take]at this;have:=qeK 32 s.data.toList;omega
 obtain ⟨A,HA⟩:=qaA (bs (s.data.toList.take (pos 32 s.data.toList)));obtain ⟨B,HB⟩:=qaA (bs (s.data.toList.drop (pos 32 s.data.toList+1)));obtain ⟨n,Hn⟩:=qaA (dVal (s.data.toList.take (pos 32 s.data.toList)));rw [HA.out,HB.out,Hn.out]at hF;rw [Hn.out]at h hd h2;rw [HA.out]at hA;rw [←hA]at h2 hp4;have HC:=Lib.hid hF.hc;have HN:=Lib.hid hF.hn;have HI:=Lib.hid hF.ha;have HPl:=Lib.hid (qd9 s n);have hPs:(s.extract 0 n).size≤n:=by rw [ByteArray.size_extract];omega
 obtain ⟨P,HP⟩:=qaA (s.extract 0 n);rw [HP.out]at HPl hPs;rw [←HPl.out]at h2;have HS:=Lib.hid fun W=>qxZ P (A.size+1) W (by omega) (by omega) h2;rw [Int.natCast_add]at HS;unfold recV at HS;clear hb hn hF h2 hA;go_enter Tryz.func249,Tryz.ntmps249;go_wp2_with fail;refine (HC.out _).mono ?_;rintro e1 w1 ⟨rfl,n1,rfl⟩;go_wp2_with fail;refine (HN.out _).mono ?_;rintro e1 w1 ⟨rfl,rfl⟩;have hb0:=Blk.drewN (Blk.new w 190 recZ) n1;have hw0:Below w.heap.size w ((w.alloc (.cells recZ 190)).drewN n1):=below_drewN ((Below.refl _ _).alloc (Nat.le_refl _) _) _;unfold recZ at hb0 hw0;go_wp2_with fail;refine (HI.out _).mono ?_;rintro e1 w2 ⟨rfl,hb2⟩;have hb2':=hb0.below hb2 hb0.lt;have hw2:=hw0.trans (hb2.mono (Nat.le_of_lt hb0.lt));clear hb0 hw0 hb2;go_wp2_with fail;rw [HP.out];refine (HS.out _).mono ?_;rintro e1 w3 ⟨rfl,hb3⟩;have hb3':=hb2'.below hb3 hb2'.lt;have HW3:=Lib.hid (hw2.trans (hb3.mono (Nat.le_of_lt hb2'.lt)));clear hb2' hw2 hb3;have hb4:=hb3'.alloc (.cells #[.string ⟨#[]⟩,.string ⟨#[]⟩] 190);obtain ⟨⟨c0,c1⟩,f0,f1⟩:=blk2 hb4;have HP4:=Lib.hid (Blk.put2 hb4 (.string ⟨#[]⟩) (.string ⟨#[]⟩));clear hb3' hb4;go_wp2_with fail;obtain ⟨⟨c0',c1'⟩,f0',f1'⟩:=blk2 HP4.out;exact bodyPost_ret (v:= .tuple #[.agg #[.string ⟨#[]⟩,.string ⟨#[]⟩],.string ⟨#[]⟩,.int .i64 3]) (by simp [results,Tryz.results249,go_sem, *]) rfl ⟨rfl,Below.set2 (HW3.out.alloc HW3.out.size _) (Nat.le_refl _) _ _⟩
theorem qlZ (l:List UInt8) (st:Nat):(splK l st).length≤l.length∧(splV l st).length≤l.length:=by
 have:(splB l st).length≤l.length:=by
  unfold splB Lib.trimSuffix
  split
  ·rw [List.length_take,List.length_drop];omega
  ·rw [List.length_drop];omega
 unfold splK splV;rw [List.length_take,List.length_drop];omega
set_option maxHeartbeats 1000000 in
theorem q7H (s:ByteArray) (w:World) (T:Tab w) (hs:s.size≤281474976710656) (hb:hasB 32 s.data.toList=true) (hn:numB (s.data.toList.take (pos 32 s.data.toList))=true) (h:dVal (s.data.toList.take (pos 32 s.data.toList))≤s.size)
  (h2:splO (s.data.toList.take (dVal (s.data.toList.take (pos 32 s.data.toList)))) (pos 32 s.data.toList+1)=true)
  (h3:chkR (splK (s.data.toList.take (dVal (s.data.toList.take (pos 32 s.data.toList)))) (pos 32 s.data.toList+1)) (splV (s.data.toList.take (dVal (s.data.toList.take (pos 32 s.data.toList)))) (pos 32 s.data.toList+1))≠0):
  Calls Tryz.prog 249 #[.string s] w fun e w'=>e= .returned (rdV (recR s.data.toList))∧Below w.heap.size w w':=by
 rw [q5A hb hn rfl rfl (by rw [qaD];exact h) h2 h3,qsD];have hF:=qtB s hs hb hn;have hd:=qjK _ hn
 have hA:(bs (s.data.toList.take (pos 32 s.data.toList))).size=pos 32 s.data.toList:=by
  rw [qaB,List.length_take];have:=qeK 32 s.data.toList;omega
 have hp4:pos 32 s.data.toList≤4:=by
  have:=(qfV hn).1.2.1;rw [List.length_take]at this;have:=qeK 32 s.data.toList;omega
 obtain ⟨A,HA⟩:=qaA (bs (s.data.toList.take (pos 32 s.data.toList)));obtain ⟨B,HB⟩:=qaA (bs (s.data.toList.drop (pos 32 s.data.toList+1)));obtain ⟨n,Hn⟩:=qaA (dVal (s.data.toList.take (pos 32 s.data.toList)));rw [HA.out,HB.out,Hn.out]at hF;rw [Hn.out]at h hd h2 h3⊢;rw [HA.out]at hA;rw [←hA]at h2 h3 hp4⊢;have HC:=Lib.hid hF.hc;have HN:=Lib.hid hF.hn;have HI:=Lib.hid hF.ha;have HPl:=Lib.hid (qd9 s n);have hPs:(s.extract 0 n).size≤n:=by rw [ByteArray.size_extract];omega
 obtain ⟨P,HP⟩:=qaA (s.extract 0 n);rw [HP.out]at HPl hPs;rw [←HPl.out]at h2 h3⊢;have HS:=Lib.hid fun W=>qjT P (A.size+1) W (by omega) (by omega) h2;rw [Int.natCast_add]at HS;unfold recV at HS;obtain ⟨z1,z2⟩:=qlZ P.data.toList (A.size+1);rw [qaD]at z1 z2;have HWr:=Lib.hid fun W (TW:Tab W)=>qhO (bs (splK P.data.toList (A.size+1))) (bs (splV P.data.toList (A.size+1))) W TW (by rw [qaB];unfold maxLen;omega) (by rw [qaB];unfold maxLen;omega);rw [qaH,qaH,qp5 h3]at HWr;unfold recV at HWr;obtain ⟨K,HK⟩:=qaA (bs (splK P.data.toList (A.size+1)));obtain ⟨V,HV⟩:=qaA (bs (splV P.data.toList (A.size+1)));obtain ⟨c,Hc⟩:=qaA (chkR (splK P.data.toList (A.size+1)) (splV P.data.toList (A.size+1)));rw [HK.out,HV.out]at HS HWr;rw [Hc.out]at HWr h3⊢;have hc0:(c !=0)=true:=by simpa using h3
 clear hb hn hF h2 hA h3 z1 z2;go_enter Tryz.func249,Tryz.ntmps249;go_wp2_with fail;refine (HC.out _).mono ?_;rintro e1 w1 ⟨rfl,n1,rfl⟩;go_wp2_with fail;refine (HN.out _).mono ?_;rintro e1 w1 ⟨rfl,rfl⟩;have hb0:=Blk.drewN (Blk.new w 190 recZ) n1;have hw0:Below w.heap.size w ((w.alloc (.cells recZ 190)).drewN n1):=below_drewN ((Below.refl _ _).alloc (Nat.le_refl _) _) _;unfold recZ at hb0 hw0;go_wp2_with fail;refine (HI.out _).mono ?_;rintro e1 w2 ⟨rfl,hb2⟩;have hb2':=hb0.below hb2 hb0.lt;have hw2:=hw0.trans (hb2.mono (Nat.le_of_lt hb0.lt));clear hb0 hw0 hb2;go_wp2_with fail;rw [HP.out];refine (HS.out _).mono ?_;rintro e1 w3 ⟨rfl,hb3⟩;have hb3':=hb2'.below hb3 hb2'.lt;have hw3:=hw2.trans (hb3.mono (Nat.le_of_lt hb2'.lt));clear hb2' hw2 hb3;have hb4:=hb3'.alloc (.cells #[.string K,.string V] 190);have hw4:Below w.heap.size w (w3.alloc (.cells #[.string K,.string V] 190)):=hw3.alloc hw3.size _;go_wp2_with fail;refine (HWr.out _ (T.below hw4)).mono ?_;rintro e1 w5 ⟨rfl,hb5⟩;have hb5':=hb4.below hb5 hb4.lt;have HW5:=Lib.hid (hw4.trans (hb5.mono hw4.size));obtain ⟨⟨c0,c1⟩,f0,f1⟩:=blk2 hb5';have HP5:=Lib.hid (Blk.put2 hb5' (.string ⟨#[]⟩) (.string ⟨#[]⟩));clear hb3' hb4 hb5' hw3 hw4 hb5;go_wp2_with fail;obtain ⟨⟨c0',c1'⟩,f0',f1'⟩:=blk2 HP5.out;exact bodyPost_ret (v:= .tuple #[.agg #[.string ⟨#[]⟩,.string ⟨#[]⟩],.string ⟨#[]⟩,.int .i64 c]) (by simp [results,Tryz.results249,go_sem, *]) rfl ⟨rfl,Below.set2 HW5.out (Nat.le_refl _) _ _⟩
set_option maxHeartbeats 1000000 in
theorem q7G (s:ByteArray) (w:World) (T:Tab w) (hs:s.size≤281474976710656) (hb:hasB 32 s.data.toList=true) (hn:numB (s.data.toList.take (pos 32 s.data.toList))=true) (h:dVal (s.data.toList.take (pos 32 s.data.toList))≤s.size)
  (h2:splO (s.data.toList.take (dVal (s.data.toList.take (pos 32 s.data.toList)))) (pos 32 s.data.toList+1)=true)
  (h3:chkR (splK (s.data.toList.take (dVal (s.data.toList.take (pos 32 s.data.toList)))) (pos 32 s.data.toList+1)) (splV (s.data.toList.take (dVal (s.data.toList.take (pos 32 s.data.toList)))) (pos 32 s.data.toList+1))=0)
  (h4:recL (splK (s.data.toList.take (dVal (s.data.toList.take (pos 32 s.data.toList)))) (pos 32 s.data.toList+1)) (splV (s.data.toList.take (dVal (s.data.toList.take (pos 32 s.data.toList)))) (pos 32 s.data.toList+1))≠s.data.toList.take (dVal (s.data.toList.take (pos 32 s.data.toList)))):
  Calls Tryz.prog 249 #[.string s] w fun e w'=>e= .returned (rdV (recR s.data.toList))∧Below w.heap.size w w':=by
 rw [q49 hb hn rfl rfl (by rw [qaD];exact h) h2 h3 h4,qsD];have hF:=qtB s hs hb hn;have hd:=qjK _ hn
 have hA:(bs (s.data.toList.take (pos 32 s.data.toList))).size=pos 32 s.data.toList:=by
  rw [qaB,List.length_take];have:=qeK 32 s.data.toList;omega
 have hp4:pos 32 s.data.toList≤4:=by
  have:=(qfV hn).1.2.1;rw [List.length_take]at this;have:=qeK 32 s.data.toList;omega
 obtain ⟨A,HA⟩:=qaA (bs (s.data.toList.take (pos 32 s.data.toList)));obtain ⟨B,HB⟩:=qaA (bs (s.data.toList.drop (pos 32 s.data.toList+1)));obtain ⟨n,Hn⟩:=qaA (dVal (s.data.toList.take (pos 32 s.data.toList)));rw [HA.out,HB.out,Hn.out]at hF;rw [Hn.out]at h hd h2 h3 h4;rw [HA.out]at hA;rw [←hA]at h2 h3 h4 hp4;have HC:=Lib.hid hF.hc;have HN:=Lib.hid hF.hn;have HI:=Lib.hid hF.ha;have HPl:=Lib.hid (qd9 s n);have hPs:(s.extract 0 n).size≤n:=by rw [ByteArray.size_extract];omega
 obtain ⟨P,HP⟩:=qaA (s.extract 0 n);rw [HP.out]at HPl hPs;rw [←HPl.out]at h2 h3 h4;have HS:=Lib.hid fun W=>qjT P (A.size+1) W (by omega) (by omega) h2;rw [Int.natCast_add]at HS;unfold recV at HS;obtain ⟨z1,z2⟩:=qlZ P.data.toList (A.size+1);rw [qaD]at z1 z2;have HWr:=Lib.hid fun W (TW:Tab W)=>qhO (bs (splK P.data.toList (A.size+1))) (bs (splV P.data.toList (A.size+1))) W TW (by rw [qaB];unfold maxLen;omega) (by rw [qaB];unfold maxLen;omega);rw [qaH,qaH,qiC h3]at HWr;unfold recV at HWr
 have hne:((bs (recL (splK P.data.toList (A.size+1)) (splV P.data.toList (A.size+1)))).toList==P.toList)=false:=by
  rw [qcQ];exact decide_eq_false fun e=>h4 (congrArg (fun x:ByteArray=>x.data.toList) e)
 obtain ⟨K,HK⟩:=qaA (bs (splK P.data.toList (A.size+1)));obtain ⟨V,HV⟩:=qaA (bs (splV P.data.toList (A.size+1)));obtain ⟨X,HX⟩:=qaA (bs (recL (splK P.data.toList (A.size+1)) (splV P.data.toList (A.size+1))));rw [HK.out,HV.out]at HS HWr;rw [HX.out]at HWr hne;have hne2:(X.toList==(s.extract 0 n).toList)=false:=by rw [HP.out];exact hne
 clear hb hn hF h2 hA h3 h4 z1 z2;go_enter Tryz.func249,Tryz.ntmps249;go_wp2_with fail;refine (HC.out _).mono ?_;rintro e1 w1 ⟨rfl,n1,rfl⟩;go_wp2_with fail;refine (HN.out _).mono ?_;rintro e1 w1 ⟨rfl,rfl⟩;have hb0:=Blk.drewN (Blk.new w 190 recZ) n1;have hw0:Below w.heap.size w ((w.alloc (.cells recZ 190)).drewN n1):=below_drewN ((Below.refl _ _).alloc (Nat.le_refl _) _) _;unfold recZ at hb0 hw0;go_wp2_with fail;refine (HI.out _).mono ?_;rintro e1 w2 ⟨rfl,hb2⟩;have hb2':=hb0.below hb2 hb0.lt;have hw2:=hw0.trans (hb2.mono (Nat.le_of_lt hb0.lt));clear hb0 hw0 hb2;go_wp2_with fail;rw [HP.out];refine (HS.out _).mono ?_;rintro e1 w3 ⟨rfl,hb3⟩;have hb3':=hb2'.below hb3 hb2'.lt;have hw3:=hw2.trans (hb3.mono (Nat.le_of_lt hb2'.lt));clear hb2' hw2 hb3;have hb4:=hb3'.alloc (.cells #[.string K,.string V] 190);have hw4:Below w.heap.size w (w3.alloc (.cells #[.string K,.string V] 190)):=hw3.alloc hw3.size _;go_wp2_with fail;refine (HWr.out _ (T.below hw4)).mono ?_;rintro e1 w5 ⟨rfl,hb5⟩;have hb5':=hb4.below hb5 hb4.lt;have HW5:=Lib.hid (hw4.trans (hb5.mono hw4.size));obtain ⟨⟨c0,c1⟩,f0,f1⟩:=blk2 hb5';have HP5:=Lib.hid (Blk.put2 hb5' (.string ⟨#[]⟩) (.string ⟨#[]⟩));clear hb3' hb4 hb5' hw3 hw4 hb5;go_wp2_with fail;obtain ⟨⟨c0',c1'⟩,f0',f1'⟩:=blk2 HP5.out;exact bodyPost_ret (v:= .tuple #[.agg #[.string ⟨#[]⟩,.string ⟨#[]⟩],.string ⟨#[]⟩,.int .i64 3]) (by simp [results,Tryz.results249,go_sem, *]) rfl ⟨rfl,Below.set2 HW5.out (Nat.le_refl _) _ _⟩
set_option maxHeartbeats 2000000 in
theorem q7F (s:ByteArray) (w:World) (T:Tab w) (hs:s.size≤281474976710656) (hb:hasB 32 s.data.toList=true) (hn:numB (s.data.toList.take (pos 32 s.data.toList))=true) (h:dVal (s.data.toList.take (pos 32 s.data.toList))≤s.size)
  (h2:splO (s.data.toList.take (dVal (s.data.toList.take (pos 32 s.data.toList)))) (pos 32 s.data.toList+1)=true)
  (h3:chkR (splK (s.data.toList.take (dVal (s.data.toList.take (pos 32 s.data.toList)))) (pos 32 s.data.toList+1)) (splV (s.data.toList.take (dVal (s.data.toList.take (pos 32 s.data.toList)))) (pos 32 s.data.toList+1))=0)
  (h4:recL (splK (s.data.toList.take (dVal (s.data.toList.take (pos 32 s.data.toList)))) (pos 32 s.data.toList+1)) (splV (s.data.toList.take (dVal (s.data.toList.take (pos 32 s.data.toList)))) (pos 32 s.data.toList+1))=s.data.toList.take (dVal (s.data.toList.take (pos 32 s.data.toList)))):
  Calls Tryz.prog 249 #[.string s] w fun e w'=>e= .returned (rdV (recR s.data.toList))∧Below w.heap.size w w':=by
 rw [q48 hb hn rfl rfl (by rw [qaD];exact h) h2 h3 h4];unfold rdV recV;simp only;have hF:=qtB s hs hb hn;have hd:=qjK _ hn
 have hA:(bs (s.data.toList.take (pos 32 s.data.toList))).size=pos 32 s.data.toList:=by
  rw [qaB,List.length_take];have:=qeK 32 s.data.toList;omega
 have hp4:pos 32 s.data.toList≤4:=by
  have:=(qfV hn).1.2.1;rw [List.length_take]at this;have:=qeK 32 s.data.toList;omega
 obtain ⟨A,HA⟩:=qaA (bs (s.data.toList.take (pos 32 s.data.toList)));obtain ⟨B,HB⟩:=qaA (bs (s.data.toList.drop (pos 32 s.data.toList+1)));obtain ⟨n,Hn⟩:=qaA (dVal (s.data.toList.take (pos 32 s.data.toList)));rw [HA.out,HB.out,Hn.out]at hF;rw [Hn.out]at h hd h2 h3 h4⊢;rw [HA.out]at hA;rw [←hA]at h2 h3 h4 hp4⊢;have HC:=Lib.hid hF.hc;have HN:=Lib.hid hF.hn;have HI:=Lib.hid hF.ha;have HPl:=Lib.hid (qd9 s n);have hPs:(s.extract 0 n).size≤n:=by rw [ByteArray.size_extract];omega
 obtain ⟨P,HP⟩:=qaA (s.extract 0 n);rw [HP.out]at HPl hPs;rw [←HPl.out]at h2 h3 h4⊢;have HS:=Lib.hid fun W=>qjT P (A.size+1) W (by omega) (by omega) h2;rw [Int.natCast_add]at HS;unfold recV at HS;obtain ⟨z1,z2⟩:=qlZ P.data.toList (A.size+1);rw [qaD]at z1 z2;have HWr:=Lib.hid fun W (TW:Tab W)=>qhO (bs (splK P.data.toList (A.size+1))) (bs (splV P.data.toList (A.size+1))) W TW (by rw [qaB];unfold maxLen;omega) (by rw [qaB];unfold maxLen;omega);rw [qaH,qaH,qiC h3]at HWr;unfold recV at HWr
 have hne:((bs (recL (splK P.data.toList (A.size+1)) (splV P.data.toList (A.size+1)))).toList==P.toList)=true:=by
  rw [qcQ];exact decide_eq_true (by rw [h4];exact qcJ P)
 obtain ⟨K,HK⟩:=qaA (bs (splK P.data.toList (A.size+1)));obtain ⟨V,HV⟩:=qaA (bs (splV P.data.toList (A.size+1)));obtain ⟨X,HX⟩:=qaA (bs (recL (splK P.data.toList (A.size+1)) (splV P.data.toList (A.size+1))));rw [HK.out,HV.out]at HS HWr⊢;rw [HX.out]at HWr hne;have hne2:(X.toList==(s.extract 0 n).toList)=true:=by rw [HP.out];exact hne
 have HQ:Hid (s.extract n s.size=bs (s.data.toList.drop n)):=qh7 (qcI s n);obtain ⟨Q,HQn⟩:=qaA (bs (s.data.toList.drop n));have hQs:Q.size≤281474976710656:=by rw [←HQn.out,qaB,List.length_drop,qaD];omega
 rw [HQn.out]at HQ⊢;have HCl:=Lib.hid fun W=>qaY Q W hQs;clear hb hn hF h2 hA h3 h4 z1 z2 hQs;go_enter Tryz.func249,Tryz.ntmps249;go_wp2_with fail;refine (HC.out _).mono ?_;rintro e1 w1 ⟨rfl,n1,rfl⟩;go_wp2_with fail;refine (HN.out _).mono ?_;rintro e1 w1 ⟨rfl,rfl⟩;have hb0:=Blk.drewN (Blk.new w 190 recZ) n1;have hw0:Below w.heap.size w ((w.alloc (.cells recZ 190)).drewN n1):=below_drewN ((Below.refl _ _).alloc (Nat.le_refl _) _) _;unfold recZ at hb0 hw0;go_wp2_with fail;refine (HI.out _).mono ?_;rintro e1 w2 ⟨rfl,hb2⟩;have hb2':=hb0.below hb2 hb0.lt;have hw2:=hw0.trans (hb2.mono (Nat.le_of_lt hb0.lt));clear hb0 hw0 hb2;go_wp2_with fail;rw [HP.out];refine (HS.out _).mono ?_;rintro e1 w3 ⟨rfl,hb3⟩;have hb3':=hb2'.below hb3 hb2'.lt;have hw3:=hw2.trans (hb3.mono (Nat.le_of_lt hb2'.lt));clear hb2' hw2 hb3;have hb4:=hb3'.alloc (.cells #[.string K,.string V] 190);have hw4:Below w.heap.size w (w3.alloc (.cells #[.string K,.string V] 190)):=hw3.alloc hw3.size _;go_wp2_with fail;refine (HWr.out _ (T.below hw4)).mono ?_;rintro e1 w5 ⟨rfl,hb5⟩;have hb5':=hb4.below hb5 hb4.lt;have hr5:Blk w5 w3.heap.size 190 #[.string K,.string V]:=(Blk.new w3 190 #[.string K,.string V]).below hb5 (by simp);have HW5:=Lib.hid (hw4.trans (hb5.mono hw4.size));have hg:w.heap.size<w3.heap.size:=hb3'.lt;have hsz:w3.heap.size≤w5.heap.size:=Nat.le_of_lt hr5.lt;have hne3:w3.heap.size≠w.heap.size:=by omega
 have r0: ∀W:World,Blk W w3.heap.size 190 #[.string K,.string V]→W.cell? ⟨w3.heap.size,0,none⟩=some (.string K):=fun W h=>(blk2 h).1.1;have r1: ∀W:World,Blk W w3.heap.size 190 #[.string K,.string V]→W.cell? ⟨w3.heap.size,1,none⟩=some (.string V):=fun W h=>(blk2 h).1.2;have hns:(n:Int)≤(s.size:Int):=by omega
 clear hb3' hb4 hw3 hw4 hb5;go_upto_region 15 with fail
 go_region_held3 (fun W=>Blk W w3.heap.size 190 #[.string K,.string V])
  (first
   |(with_reducible assumption)
   |(with_reducible refine Blk.drew_ ?_;with_reducible assumption)
   |(with_reducible exact Blk.below (by with_reducible assumption) hb6 (Blk.lt (by with_reducible assumption)))
   |(with_reducible refine Blk.far2 ?_ hne3 _ _;with_reducible assumption))
  (first|(go_at_call 110;rw [HQ.out];refine (HCl.out _).mono ?_;rintro e6 w6 ⟨rfl,hb6⟩;have hG6:=(Blk.drew_ hb5').below hb6 (Blk.drew_ hb5').lt;obtain ⟨⟨g0,g1⟩,y0,y1⟩:=blk2 hG6))
 all_goals
  have hput:=Blk.put2 hG6 (.string K) (.string V);obtain ⟨⟨k0,k1⟩,-⟩:=blk2 hput;go_wp2_with fail;exact bodyPost_ret (v:= .tuple #[.agg #[.string K,.string V],.string Q,.int .i64 0]) (by simp [results,Tryz.results249,go_sem, *]) rfl ⟨rfl,Below.set2 (HW5.out.drew.trans (hb6.mono HW5.out.size)) (Nat.le_refl _) _ _⟩
end Go.Proofs.YtapgoifimhnbdaaGreatDoor
