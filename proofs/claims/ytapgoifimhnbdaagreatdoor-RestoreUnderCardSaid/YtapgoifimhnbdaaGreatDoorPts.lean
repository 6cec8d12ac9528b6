/- qaX of one kind, in one file: PthA, PrtA, SplA, SplB. -/
import Derived.Test.YtapgoifimhnbdaaGreatDoorMth
import Derived.BigQuiet
import Derived.Deep.QuietTactic
import Derived.WalkLawsBesides
import Derived.IntWalk
import Derived.WalkSmall
import Derived.Below
import Derived.Laws.OwnMore
import Derived.Laws.AppendOwn
import Derived.Deep.AppendLies
import Derived.StillTailTactics
import Derived.OwnWalk
import Derived.Test.YtapgoifimhnbdaaGreatDoorFld
import Derived.Test.YtapgoifimhnbdaaGreatDoorShelf
import Derived.Shelf.Strings.SplitCore
set_option linter.unusedVariables false
set_option maxRecDepth 100000
namespace Go.Proofs.YtapgoifimhnbdaaGreatDoor
open Go.RowKit
open Go.OpenShut
theorem qeF {s:ByteArray} (h:s.data.toList= []):s.toList= []:=by rw [ByteArray.toList_eq];exact h
theorem qe6 {s:ByteArray} (h:s.data.toList≠ []):s.toList.isEmpty=false:=by
 rw [ByteArray.toList_eq,←Bool.not_eq_true,List.isEmpty_iff];exact h
theorem ext0L (s:ByteArray) (k:Nat):(s.extract 0 k).data.toList=s.data.toList.take k:=by
 rw [ByteArray.data_extract,Array.toList_extract];simp [List.extract]
theorem qq1 (a b:ByteArray):(a.toList==b.toList)=decide (a.data.toList=b.data.toList):=by
 rw [ByteArray.toList_eq,ByteArray.toList_eq,Bool.eq_iff_iff,beq_iff_eq,decide_eq_true_eq]
theorem zbS (s d:ByteArray) (h:d.size<s.size):d.data.toList++ [47]<+:s.data.toList↔(s.data.toList.take d.size=d.data.toList∧s[d.size]=47):=
 zaN d.data.toList s.data.toList 47 (by simpa using h)
theorem zbT (s d:ByteArray) (h: ¬d.size<s.size): ¬(d.data.toList++ [47]<+:s.data.toList):=q41 _ _ _ (by simpa using h)
theorem q78 (b c:UInt8):((b.toNat:Int)==(c.toNat:Int))=decide (b=c):=by
 rw [Bool.eq_iff_iff,beq_iff_eq,decide_eq_true_eq];exact ⟨fun e=>UInt8.toNat_inj.1 (by omega),fun e=>by rw [e]⟩
theorem qnI (x:Int) (w:World):Calls Tryz.prog 163 #[.int .i64 x] w fun e w'=>e= .returned (.bool false)∧w=w':=by
 go_enter Tryz.func163,Tryz.ntmps163;go_wp2;go_ret;exact ⟨rfl,rfl⟩
theorem qlL (x y:Int) (w:World):Calls Tryz.prog 108 #[.int .i64 x,.int .i64 y] w fun e w'=>e= .returned (.int .i64 (sgn x y))∧w=w':=by
 by_cases h1:x<y
 ·have hs:=Lib.hid (qk7 h1);go_enter Tryz.func108,Tryz.ntmps108;go_wp2_with (go_at_call 163;refine (qnI _ _).mono ?_;rintro e w' ⟨rfl,rfl⟩);go_ret;exact ⟨qaV hs.out.symm,rfl⟩
 ·by_cases h2:y<x
  ·have hs:=Lib.hid (qpD h2);go_enter Tryz.func108,Tryz.ntmps108;go_wp2_with (go_at_call 163;refine (qnI _ _).mono ?_;rintro e w' ⟨rfl,rfl⟩);go_ret;exact ⟨qaV hs.out.symm,rfl⟩
  ·have hs:=Lib.hid (zdR h1 h2);go_enter Tryz.func108,Tryz.ntmps108;go_wp2_with (go_at_call 163;refine (qnI _ _).mono ?_;rintro e w' ⟨rfl,rfl⟩);go_ret;exact ⟨qaV hs.out.symm,rfl⟩
theorem zaH (b:UInt8) (w:World):Calls Tryz.prog 109 #[.int .u8 (b.toNat:Int)] w fun e w'=>e= .returned (.int .i64 (rk b))∧w=w':=by
 have hb:=q88 b
 by_cases h:b=47
 ·subst h;go_enter Tryz.func109,Tryz.ntmps109;go_wp2;go_ret;exact ⟨rfl,rfl⟩
 ·have h':((b.toNat:Int)==47)=false:=by
   rw [beq_eq_false_iff_ne];intro e;exact h (UInt8.toNat_inj.1 (show b.toNat=47 by omega))
  have hr:=Lib.hid (show rk b=(b.toNat:Int)from if_neg h);clear h;go_enter Tryz.func109,Tryz.ntmps109;go_wp2;go_ret;exact ⟨qaV hr.out.symm,rfl⟩
set_option maxHeartbeats 400000 in
theorem qvR (s d:ByteArray) (w:World) (hs:s.size≤maxLen) (hd:d.size≤maxLen):Calls Tryz.prog 24 #[.string s,.string d] w fun e w'=>e= .returned (.bool (inB s.data.toList d.data.toList))∧w=w':=by
 unfold maxLen at hs hd
 by_cases h0:d.data.toList= []
 ·have e0:=qeF h0;rw [h0,inB_nil];clear h0
  by_cases h1:s.data.toList= []
  ·have e1:=qeF h1;have H1:=Lib.hid h1;clear h1;go_enter Tryz.func24,Tryz.ntmps24;go_wp2;go_ret;exact ⟨qcA (by rw [H1.out];rfl),rfl⟩
  ·have e1:=qe6 h1;have H1:=Lib.hid h1;clear h1;go_enter Tryz.func24,Tryz.ntmps24;go_wp2;go_ret;exact ⟨qcA (by simp [H1.out]),rfl⟩
 ·have e0:=qe6 h0;rw [zd2 h0];clear h0
  by_cases hl:d.size<s.size
  ·have hp:=Lib.hid (zbS s d hl);have hE:=qq1 (s.extract 0 d.size) d;rw [ext0L]at hE
   by_cases he:s.data.toList.take d.size=d.data.toList
   ·rw [decide_eq_true he]at hE;have HE:=Lib.hid he;clear he;go_enter Tryz.func24,Tryz.ntmps24;go_wp2;go_ret;exact ⟨qcA (by simp only [hp.out,HE.out,true_and];exact q78 s[d.size] 47),rfl⟩
   ·rw [decide_eq_false he]at hE;have HE:=Lib.hid he;clear he;go_enter Tryz.func24,Tryz.ntmps24;go_wp2;go_ret;exact ⟨qcA (by simp only [hp.out,HE.out,false_and,decide_false]),rfl⟩
  ·have hp:=Lib.hid (zbT s d hl);go_enter Tryz.func24,Tryz.ntmps24;go_wp2;go_ret;exact ⟨qcA (by simp only [hp.out,decide_false]),rfl⟩
set_option maxHeartbeats 400000 in
theorem qiR (a b:ByteArray) (w:World) (ha:a.size≤maxLen) (hb:b.size≤maxLen):Calls Tryz.prog 65 #[.string a,.string b] w fun e w'=>e= .returned (.int .i64 (pcmp a.data.toList b.data.toList))∧ ∃n,w'=w.drewN n:=by
 unfold maxLen at ha hb
 by_cases hm:a.size≤b.size
 all_goals
  go_enter Tryz.func65,Tryz.ntmps65;go_wp2
  go_loopw [11] (fun i wr=> ∃k n:Nat,k≤a.size∧k≤b.size∧i= .int .i64 k∧Hid (a.data.toList.take k=b.data.toList.take k)∧Hid (wr=w.drewN n)) (fun i _=>a.size-(intOf i).toNat)
  case atStart=>exact ⟨0,0,Nat.zero_le _,Nat.zero_le _,rfl,rfl,rfl⟩
  case round=>
   obtain ⟨k,n,hk,hk',rfl,hz,hw⟩:=hrel
   by_cases hlt:k<a.size∧k<b.size
   ·obtain ⟨h1,h2⟩:=hlt;have hq:=q78 a[k] b[k]
    by_cases hc:a[k]=b[k]
    ·rw [decide_eq_true hc]at hq;have hq':((a[k].toNat:Int) !=(b[k].toNat:Int))=false:=by simp [bne,hq]
     have HN:Hid (a.data.toList.take (k+1)=b.data.toList.take (k+1)):=by
      unfold Hid;rw [qe7 _ _ h1,qe7 _ _ h2,hz.out,hc]
     clear hc hq;go_wp2;go_quiet (fail);go_wp2;go_roundw
     case rel=>exact ⟨k+1,n+nq,by omega,by omega,by go_num,HN,by unfold Hid;rw [hw.out,World.drewN_drewN]⟩
     case measure=>simp [intOf];omega
    ·rw [decide_eq_false hc]at hq;have hq':((a[k].toNat:Int) !=(b[k].toNat:Int))=true:=by simp [bne,hq]
     have HP:=Lib.hid (pcmp_at a.data.toList b.data.toList k hz.out (by simpa using h1) (by simpa using h2) hc);clear hc hq;go_wp2;go_quiet (fail);obtain ⟨w1,hw1⟩:=qaA (wr.drewN nq);rw [hw1.out];go_wp2;go_quiet ((first|(go_at_call 109;exact Calls.quiet_of_same (qfG (zaH _ _)))|(go_at_call 108;exact Calls.quiet_of_same (qfG (qlL _ _ _)))));go_wp2;go_ret;exact ⟨qaV HP.out.symm,_,by rw [←hw1.out,hw.out,World.drewN_drewN,World.drewN_drewN]⟩
   ·have HP:=Lib.hid (zaR a.data.toList b.data.toList k hz.out (by simpa using hk) (by simpa using hk') (by simp;omega));go_wp2_with (go_at_call 108;refine (qlL _ _ _).mono ?_;rintro e w' ⟨rfl,rfl⟩);go_ret;exact ⟨qaV (by rw [HP.out];simp),_,hw.out⟩
theorem qn6 {B:Nat} {a w:World} (h:Below B a w) (n:Nat):Below B a (w.drewN n):=⟨h.os,h.tape,h.output,h.size,h.block⟩
theorem zbR:(Tryz.prog.info? 9).map (fun i=>(i.zero,i.size,i.bytes))=some (some (.string ⟨#[]⟩),1,16):=by kernel_rfl
def qaX (w:World) (B:Nat) (v:Value) (ls:List (List UInt8)):Prop:=w.ownsRow B 9 1 v ls.length (strC ls)
theorem qaX.form {w:World} {B:Nat} {v:Value} {ls:List (List UInt8)} (h:qaX w B v ls) (hn:1≤ls.length): ∃g cap,v= .slice (some ⟨g,0,none⟩) ls.length cap∧B≤g∧g<w.heap.size:=World.ownsRow.form h hn
theorem qaX.cell {w:World} {B g cap n:Nat} {ls:List (List UInt8)} (h:qaX w B (.slice (some ⟨g,0,none⟩) n cap) ls) (hn:ls.length=n) (j:Nat) (hj:j<n):w.cell? ⟨g,j,none⟩=some (strV (ls.getD j [])):=by
 subst hn;unfold qaX at h;rw [h.cellAt j (by omega),q9H _ _ hj]
theorem qnO {a w:World} (h:Below a.heap.size a w) (row:Option Nat):a.grownBy w row:=⟨h.os,h.tape,h.output,h.size,fun i hi _=>h.block i hi⟩
theorem qaX.below {w w':World} {B:Nat} {v:Value} {ls:List (List UInt8)} (h:qaX w B v ls) (hb:Below w.heap.size w w'):qaX w' B v ls:=
 World.ownsRow.kept h (qnO hb none) (by
  by_cases e:v.ownBlock=none
  ·exact .inl e
  ·exact .inr e)
theorem qaX.nil (w:World) (B:Nat):qaX w B (.slice none 0 0) []:=World.ownsRow_nil w B 9 1
theorem qaX.any {w:World} {B:Nat} {v:Value} {ls:List (List UInt8)} (h:qaX w B v ls): ∃A cap,v= .slice A ls.length cap∧(∀j,j<ls.length→ ∃g,A=some ⟨g,0,none⟩∧B≤g∧g<w.heap.size∧w.cell? ⟨g,j,none⟩=some (strV (ls.getD j []))):=by
 by_cases hn:1≤ls.length
 ·obtain ⟨g,cap,rfl,hB,hlt⟩:=h.form hn;exact ⟨_,cap,rfl,fun j hj=>⟨g,rfl,hB,hlt,h.cell rfl j hj⟩⟩
 ·have h0:ls.length=0:=by omega
  have h':=h;unfold qaX World.ownsRow at h';rcases h'.2 with ⟨rfl,_⟩|⟨g,cap,cur,rfl,_⟩
  ·exact ⟨none,0,by rw [h0],fun j hj=>by omega⟩
  ·exact ⟨_,cap,rfl,fun j hj=>by omega⟩
theorem qaX.mono {w:World} {B B':Nat} {v:Value} {ls:List (List UInt8)} (h:qaX w B v ls) (hB:B'≤B):qaX w B' v ls:=by
 unfold qaX World.ownsRow at*;refine ⟨h.1,?_⟩;rcases h.2 with h|⟨g,cap,cur,e1,e2,h⟩
 ·exact .inl h
 ·exact .inr ⟨g,cap,cur,e1,by omega,h⟩
theorem qaX.lit {w:World} (ls:List (List UInt8)) (hm:ls.length≤maxLen):qaX (w.alloc (.cells (strC ls).toArray 9)) w.heap.size (.slice (some ⟨w.heap.size,0,none⟩) ls.length ls.length) ls:=by
 have:=World.ownsRow_lit (base:=w.heap.size) (e:=9) (size:=1) w (strC ls).toArray ls.length (Nat.le_refl _) hm (by simp);unfold qaX;simpa using this
theorem qoX (s:ByteArray) (w:World) (hs:s.size<4294967281):
  Calls Tryz.prog 152 #[.string s,.string ⟨#[47]⟩,.int .i64 0,.int .i64 (-1)] w fun e w'=>
   e= .returned (.slice (some ⟨w.heap.size,0,none⟩) (qaI 47 s.data.toList).length (qaI 47 s.data.toList).length)∧w'=w.alloc (.cells (strC (qaI 47 s.data.toList)).toArray 9):=by
 have hc:=qvG s;have hl:=qd9 47 s.data.toList;have hle:=List.count_le_length (l:=s.data.toList) (a:=47);have hsz:s.data.toList.length=s.size:=by simp
 have h:=Any.strings_genSplit_core Tryz.lays221 (by kernel_rfl) s ⟨#[47]⟩ 0 (-1) (Lib.countB s ⟨#[47]⟩+1) w hs (by decide) (Nat.zero_le _)
  (fun x c _=>(Tryz.strings_Index_one x 47 _).mono fun e w' ⟨a,b⟩=>⟨by rw [a];exact congrArg (fun z=>Ending.returned (.int .i64 z)) (Lib.index_one x.data.toList 47).symm,b⟩)
  ((Tryz.strings_Count_one s 47 w).mono fun e w' ⟨a,b⟩=>⟨by rw [a,hc];rfl,b⟩) (by decide) (by decide) (by rw [if_pos (by decide),hc];omega)
 have hb:=qtI s _ rfl
 have hlen:(Lib.splitB ⟨#[47]⟩ 0 (s.data.toList.count 47) s).length=(qaI 47 s.data.toList).length:=by
  have:=congrArg List.length hb;simpa using this
 rw [Nat.add_sub_cancel,hc,hlen,←hl]at h
 have hcell:Lib.cellsOf (Lib.splitB ⟨#[47]⟩ 0 (s.data.toList.count 47) s) (qaI 47 s.data.toList).length=(strC (qaI 47 s.data.toList)).toArray:=by
  rw [←hlen,Lib.cellsOf_full,hb]
 rw [hcell]at h;exact h
theorem qiQ (s:ByteArray) (w:World) (hs:s.size<4294967281):
  Calls Tryz.prog 100 #[.string s,.string ⟨#[47]⟩] w fun e w'=>
   e= .returned (.slice (some ⟨w.heap.size,0,none⟩) (qaI 47 s.data.toList).length (qaI 47 s.data.toList).length)∧w'=w.alloc (.cells (strC (qaI 47 s.data.toList)).toArray 9):=by
 go_enter Tryz.func100,Tryz.ntmps100;go_wp2_with fail;refine (qoX s _ hs).mono ?_;rintro e w' ⟨rfl,rfl⟩;go_wp2_with fail;go_ret;exact ⟨rfl,rfl⟩
theorem q8S (s:ByteArray) (w:World) (hs:s.size<4294967281):
  Calls Tryz.prog 157 #[.string s] w fun e w'=> ∃v,e= .returned v∧qaX w' w.heap.size v (pp s.data.toList)∧Below w.heap.size w w':=by
 by_cases h0:s.data.toList= []
 ·have e0:=qeF h0;rw [h0,pp_nil];clear h0;go_enter Tryz.func157,Tryz.ntmps157;go_wp2_with fail;go_ret;exact ⟨_,rfl,qaX.nil _ _,Below.refl _ _⟩
 ·have e0:=qe6 h0;rw [pp_ne h0];clear h0
  have hm:(qaI 47 s.data.toList).length≤maxLen:=by
   have h1:=qi4 47 s.data.toList;have h2:s.data.toList.length=s.size:=by simp
   unfold maxLen;omega
  go_enter Tryz.func157,Tryz.ntmps157;go_wp2_with fail;refine (qa5 s _ (by omega)).mono ?_;rintro e w1 ⟨rfl,hB1⟩;go_wp2_with fail;refine (qiQ s _ hs).mono ?_;rintro e w2 ⟨rfl,rfl⟩;have HB:=Lib.hid (hB1.alloc hB1.size (.cells (strC (qaI 47 s.data.toList)).toArray 9));have HT:=Lib.hid ((qaX.lit (w:=w1) _ hm).mono hB1.size);clear hB1 hm;go_wp2_with fail;go_ret;exact ⟨_,rfl,HT.out,HB.out⟩
theorem qfP (s:ByteArray) (w:World) (hs:s.size≤281474976710656):Calls Tryz.prog 111 #[.string s,.int .u8 47] w fun e w'=>e= .returned (.int .i64 (Lib.lastIndexByte s 47))∧w=w':=
 (Tryz.strings_LastIndexByte s 47 (by omega) w).mono fun e w' ⟨a,b⟩=>⟨a,b.symm⟩
theorem q7B (s:ByteArray) (k:Nat):s.extract 0 k=⟨(s.data.toList.take k).toArray⟩:=by
 apply ByteArray.ext;apply Array.toList_inj.1;rw [ByteArray.data_extract,Array.toList_extract];simp [List.extract]
theorem qnZ (s:ByteArray) (a b:Nat):(s.extract a b).size≤s.size:=by rw [ByteArray.size_extract];omega
theorem q8O (s:ByteArray) (w:World) (hs:s.size≤281474976710656):Calls Tryz.prog 66 #[.string s] w fun e w'=>e= .returned (.string ⟨(upL s.data.toList).toArray⟩)∧Below w.heap.size w w':=by
 rcases q1O s with ⟨h1,h2,-,-⟩|⟨i,hi,h1,h2,-,-⟩
 ·have H1:=Lib.hid h1;rw [h2];clear h1 h2;go_enter Tryz.func66,Tryz.ntmps66;go_wp2_with fail;refine (qfP s _ hs).mono ?_;rintro e w' ⟨rfl,rfl⟩;rw [H1.out];go_wp2_with fail;rw [show (max (-1:Int) 0).toNat=0 from rfl];have hx:=qnZ s 0 0;refine (qa5 _ _ (by omega)).mono ?_;rintro e w1 ⟨rfl,hB1⟩;have HB:=Lib.hid hB1;clear hB1 hx;go_wp2_with fail;go_ret;exact ⟨qwM rfl,HB.out⟩
 ·have H1:=Lib.hid h1;rw [h2,←q7B];have hx:=qnZ s 0 i;clear h1 h2;go_enter Tryz.func66,Tryz.ntmps66;go_wp2_with fail;refine (qfP s _ hs).mono ?_;rintro e w' ⟨rfl,rfl⟩;rw [H1.out];go_wp2_with fail;refine (qa5 _ _ (by omega)).mono ?_;rintro e w1 ⟨rfl,hB1⟩;go_wp2_with fail;go_ret;exact ⟨rfl,hB1⟩
theorem qp1 (s:ByteArray) (w:World):Calls Tryz.prog 158 #[.string s] w fun e w'=>e= .returned (.bool (qgI s.data.toList))∧w=w':=by
 by_cases h0:s.data.toList= []
 ·have e0:=qeF h0;rw [qiG _ (.inl h0)];clear h0;go_enter Tryz.func158,Tryz.ntmps158;go_wp2_with fail;go_ret;exact ⟨rfl,rfl⟩
 ·have e0:=qe6 h0;have e0':(!s.toList.isEmpty)=true:=by rw [e0];rfl
  by_cases h1:s.data.toList= [46]
  ·rw [qiG _ (.inr (.inl h1))];rw [←qsG]at h1;clear h0 e0 e0';go_enter Tryz.func158,Tryz.ntmps158;go_wp2_with fail;go_ret;exact ⟨rfl,rfl⟩
  ·by_cases h2:s.data.toList= [46,46]
   ·rw [qiG _ (.inr (.inr h2))];rw [←qsG]at h2;clear h0 h1 e0 e0';go_enter Tryz.func158,Tryz.ntmps158;go_wp2_with fail;go_ret;exact ⟨rfl,rfl⟩
   ·rw [q1G _ h0 h1 h2];rw [←qsG]at h1 h2;have d1:(s.toList== [46])=false:=by simpa using h1
    have d2:(s.toList== [46,46])=false:=by simpa using h2
    clear h0;go_enter Tryz.func158,Tryz.ntmps158;go_wp2_with fail;go_ret;exact ⟨rfl,rfl⟩
theorem q24 (s:ByteArray) (w:World) (hs:s.size≤maxLen) (h:s.size<1∨400<s.size):Calls Tryz.prog 104 #[.string s] w fun e w'=>e= .returned (.int .i64 1)∧w=w':=by
 unfold maxLen at hs;rcases h with h|h
 all_goals
  go_enter Tryz.func104,Tryz.ntmps104;go_wp2_with fail;go_ret;exact ⟨rfl,rfl⟩
theorem q25 (s:ByteArray) (w:World) (h1:1≤s.size) (h2:s.size≤400) (h:hasB 0 s.data.toList=true):Calls Tryz.prog 104 #[.string s] w fun e w'=>e= .returned (.int .i64 3)∧w=w':=by
 have HB:=Lib.hid h;clear h;go_enter Tryz.func104,Tryz.ntmps104;go_wp2_with fail;refine (qb4 _ _ HB.out).mono ?_;rintro e w' ⟨rfl,rfl⟩;go_wp2_with fail;go_ret;exact ⟨rfl,rfl⟩
set_option maxHeartbeats 1000000 in
theorem qx6 (s:ByteArray) (w:World) (h1:1≤s.size) (h2:s.size≤400) (h:hasB 0 s.data.toList=false):
  Calls Tryz.prog 104 #[.string s] w fun e w'=>e= .returned (.int .i64 (allE (qaI 47 s.data.toList)))∧Below w.heap.size w w':=by
 have hne:s.data.toList≠ []:=fun e=>by
  have h3:s.data.toList.length=s.size:=by simp
  rw [e]at h3;simp at h3;omega
 have hpp:=Lib.hid (pp_ne hne);have HB:=Lib.hid h;obtain ⟨ls,Hls⟩:=qaA (qaI 47 s.data.toList)
 have hll:ls.length≤401:=by
  have h3:=qi4 47 s.data.toList;have h4:s.data.toList.length=s.size:=by simp
  rw [Hls.out]at h3;omega
 obtain ⟨n,Hn⟩:=qaA ls.length;rw [Hn.out]at hll;rw [Hls.out];clear h hne;go_enter Tryz.func104,Tryz.ntmps104;go_wp2_with fail;refine (qbY _ _ HB.out).mono ?_;rintro e w' ⟨rfl,rfl⟩;go_wp2_with fail;refine (q8S _ _ (by omega)).mono ?_;rintro e w1 ⟨v,rfl,hT,hB⟩;rw [hpp.out,Hls.out]at hT;obtain ⟨A,ca,rfl,hA⟩:=hT.any;have HA:=Lib.hid hA;have HB1:=Lib.hid hB;clear hA hT hB;rw [Hn.out];go_wp2_with fail
 go_loopw [19] (fun i wr=> ∃k m:Nat,i= .int .i64 k∧k≤n∧Hid ((ls.take k).all qgI=true)∧Hid (wr=w1.drewN m)) (fun i _=>n-(intOf i).toNat)
 case atStart=>exact ⟨0,0,rfl,Nat.zero_le _,rfl,rfl⟩
 case round=>
  obtain ⟨k,m,rfl,hk,HE,HW⟩:=hrel
  by_cases hlt:k<n
  ·obtain ⟨g,rfl,_,_,hc⟩:=HA.out k (by rw [Hn.out];exact hlt);have hc':wr.cell? ⟨g,k,none⟩=some (strV (ls.getD k [])):=by rw [HW.out];exact hc
   clear hc;unfold strV at hc';obtain ⟨sx,Hsx⟩:=qaA (⟨(ls.getD k []).toArray⟩:ByteArray);rw [Hsx.out]at hc';have Hx:Hid (sx.data.toList=ls.getD k []):=by unfold Hid;rw [←Hsx.out]
   cases hn:qgI sx.data.toList
   ·have HR:=Lib.hid (q8K (qx0 ls qgI k (by rw [Hn.out];exact hlt) (by rw [←Hx.out];exact hn)));have HN:=Lib.hid hn;clear hn;go_wp2_with fail;refine (qp1 _ _).mono ?_;rintro e w' ⟨rfl,rfl⟩;rw [HN.out];go_wp2_with fail;go_ret;exact ⟨qaV HR.out.symm,by rw [HW.out];exact qn6 HB1.out _⟩
   ·have HR:=Lib.hid (qsV ls qgI k (by rw [Hn.out];exact hlt) HE.out (by rw [←Hx.out];exact hn));have HN:=Lib.hid hn;clear hn;go_wp2_with fail;refine (qp1 _ _).mono ?_;rintro e w' ⟨rfl,rfl⟩;rw [HN.out];go_wp2_with fail;go_roundw
    case rel=>exact ⟨k+1,m,by go_num,by omega,HR,HW⟩
    case measure=>simp [intOf];omega
  ·obtain rfl:k=n:=by omega
   have HR:Hid (allE ls=0):=by have:=HE.out;rw [←Hn.out,List.take_length]at this;exact qzW this
   go_wp2_with fail;go_ret;exact ⟨qaV HR.out.symm,by rw [HW.out];exact qn6 HB1.out _⟩
theorem qoR (s:ByteArray) (w:World) (hs:s.size≤maxLen):Calls Tryz.prog 104 #[.string s] w fun e w'=>e= .returned (.int .i64 (qa6 s.data.toList))∧Below w.heap.size w w':=by
 have hl:s.data.toList.length=s.size:=by simp
 by_cases h:s.data.toList.length<1∨400<s.data.toList.length
 ·rw [qhK h];rw [hl]at h;exact (q24 s w hs h).mono fun e w' ⟨a,b⟩=>⟨a,b▸Below.refl _ _⟩
 ·cases h2:hasB 0 s.data.toList
  ·have hc:=qx6 s w (by omega) (by omega) h2;cases h3:(qaI 47 s.data.toList).all qgI
   ·rw [zaV h h2 h3];rw [q8K h3]at hc;exact hc
   ·rw [qi2 h h2 h3];rw [qzW h3]at hc;exact hc
  ·rw [q04 h h2];exact (q25 s w (by omega) (by omega) h2).mono fun e w' ⟨a,b⟩=>⟨a,b▸Below.refl _ _⟩
end Go.Proofs.YtapgoifimhnbdaaGreatDoor
