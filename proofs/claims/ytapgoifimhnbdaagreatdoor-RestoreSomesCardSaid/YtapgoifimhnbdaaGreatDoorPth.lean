/- qaV of one kind, in one file: PthA, PrtA. -/
import Derived.Test.YtapgoifimhnbdaaGreatDoorMth
import Derived.BigQuiet
import Derived.Deep.QuietTactic
import Derived.WalkLawsBesides
import Derived.IntWalk
import Derived.WalkSmall
import Derived.Below
import Derived.Laws.OwnMore
import Derived.Laws.AppendOwn
import Derived.Deep.AppendLies
import Derived.StillTailTactics
import Derived.OwnWalk
set_option linter.unusedVariables false
set_option maxRecDepth 100000
namespace Go.Proofs.YtapgoifimhnbdaaGreatDoor
open Go.RowKit
open Go.OpenShut
theorem qcN {s:ByteArray} (h:s.data.toList= []):s.toList= []:=by rw [ByteArray.toList_eq];exact h
theorem qcG {s:ByteArray} (h:s.data.toList≠ []):s.toList.isEmpty=false:=by
 rw [ByteArray.toList_eq,←Bool.not_eq_true,List.isEmpty_iff];exact h
theorem ext0L (s:ByteArray) (k:Nat):(s.extract 0 k).data.toList=s.data.toList.take k:=by
 rw [ByteArray.data_extract,Array.toList_extract];simp [List.extract]
theorem qjS (a b:ByteArray):(a.toList==b.toList)=decide (a.data.toList=b.data.toList):=by
 rw [ByteArray.toList_eq,ByteArray.toList_eq,Bool.eq_iff_iff,beq_iff_eq,decide_eq_true_eq]
theorem qw2 (s d:ByteArray) (h:d.size<s.size):d.data.toList++ [47]<+:s.data.toList↔(s.data.toList.take d.size=d.data.toList∧s[d.size]=47):=
 q5Q d.data.toList s.data.toList 47 (by simpa using h)
theorem qw3 (s d:ByteArray) (h: ¬d.size<s.size): ¬(d.data.toList++ [47]<+:s.data.toList):=q1K _ _ _ (by simpa using h)
theorem qrG (b c:UInt8):((b.toNat:Int)==(c.toNat:Int))=decide (b=c):=by
 rw [Bool.eq_iff_iff,beq_iff_eq,decide_eq_true_eq];exact ⟨fun e=>UInt8.toNat_inj.1 (by omega),fun e=>by rw [e]⟩
theorem qmS (x:Int) (w:World):Calls Tryz.prog 163 #[.int .i64 x] w fun e w'=>e= .returned (.bool false)∧w=w':=by
 go_enter Tryz.func163,Tryz.ntmps163;go_wp2;go_ret;exact ⟨rfl,rfl⟩
theorem qk6 (x y:Int) (w:World):Calls Tryz.prog 108 #[.int .i64 x,.int .i64 y] w fun e w'=>e= .returned (.int .i64 (sgn x y))∧w=w':=by
 by_cases h1:x<y
 ·have hs:=Lib.hid (ql2 h1);go_enter Tryz.func108,Tryz.ntmps108;go_wp2_with (go_at_call 163;refine (qmS _ _).mono ?_;rintro e w' ⟨rfl,rfl⟩);go_ret;exact ⟨qaR hs.out.symm,rfl⟩
 ·by_cases h2:y<x
  ·have hs:=Lib.hid (qoE h2);go_enter Tryz.func108,Tryz.ntmps108;go_wp2_with (go_at_call 163;refine (qmS _ _).mono ?_;rintro e w' ⟨rfl,rfl⟩);go_ret;exact ⟨qaR hs.out.symm,rfl⟩
  ·have hs:=Lib.hid (q7P h1 h2);go_enter Tryz.func108,Tryz.ntmps108;go_wp2_with (go_at_call 163;refine (qmS _ _).mono ?_;rintro e w' ⟨rfl,rfl⟩);go_ret;exact ⟨qaR hs.out.symm,rfl⟩
theorem q5E (b:UInt8) (w:World):Calls Tryz.prog 109 #[.int .u8 (b.toNat:Int)] w fun e w'=>e= .returned (.int .i64 (rk b))∧w=w':=by
 have hb:=qlU b
 by_cases h:b=47
 ·subst h;go_enter Tryz.func109,Tryz.ntmps109;go_wp2;go_ret;exact ⟨rfl,rfl⟩
 ·have h':((b.toNat:Int)==47)=false:=by
   rw [beq_eq_false_iff_ne];intro e;exact h (UInt8.toNat_inj.1 (show b.toNat=47 by omega))
  have hr:=Lib.hid (show rk b=(b.toNat:Int)from if_neg h);clear h;go_enter Tryz.func109,Tryz.ntmps109;go_wp2;go_ret;exact ⟨qaR hr.out.symm,rfl⟩
set_option maxHeartbeats 400000 in
theorem q75 (s d:ByteArray) (w:World) (hs:s.size≤maxLen) (hd:d.size≤maxLen):Calls Tryz.prog 24 #[.string s,.string d] w fun e w'=>e= .returned (.bool (inB s.data.toList d.data.toList))∧w=w':=by
 unfold maxLen at hs hd
 by_cases h0:d.data.toList= []
 ·have e0:=qcN h0;rw [h0,q2W];clear h0
  by_cases h1:s.data.toList= []
  ·have e1:=qcN h1;have H1:=Lib.hid h1;clear h1;go_enter Tryz.func24,Tryz.ntmps24;go_wp2;go_ret;exact ⟨qa7 (by rw [H1.out];rfl),rfl⟩
  ·have e1:=qcG h1;have H1:=Lib.hid h1;clear h1;go_enter Tryz.func24,Tryz.ntmps24;go_wp2;go_ret;exact ⟨qa7 (by simp [H1.out]),rfl⟩
 ·have e0:=qcG h0;rw [q7X h0];clear h0
  by_cases hl:d.size<s.size
  ·have hp:=Lib.hid (qw2 s d hl);have hE:=qjS (s.extract 0 d.size) d;rw [ext0L]at hE
   by_cases he:s.data.toList.take d.size=d.data.toList
   ·rw [decide_eq_true he]at hE;have HE:=Lib.hid he;clear he;go_enter Tryz.func24,Tryz.ntmps24;go_wp2;go_ret;exact ⟨qa7 (by simp only [hp.out,HE.out,true_and];exact qrG s[d.size] 47),rfl⟩
   ·rw [decide_eq_false he]at hE;have HE:=Lib.hid he;clear he;go_enter Tryz.func24,Tryz.ntmps24;go_wp2;go_ret;exact ⟨qa7 (by simp only [hp.out,HE.out,false_and,decide_false]),rfl⟩
  ·have hp:=Lib.hid (qw3 s d hl);go_enter Tryz.func24,Tryz.ntmps24;go_wp2;go_ret;exact ⟨qa7 (by simp only [hp.out,decide_false]),rfl⟩
set_option maxHeartbeats 400000 in
theorem q1E (s d:ByteArray) (w:World) (hs:s.size≤maxLen) (hd:d.size≤maxLen):Calls Tryz.prog 44 #[.string s,.string d] w fun e w'=>e= .returned (.bool (inB s.data.toList d.data.toList))∧w=w':=by
 unfold maxLen at hs hd
 by_cases h0:d.data.toList= []
 ·have e0:=qcN h0;rw [h0,q2W];clear h0
  by_cases h1:s.data.toList= []
  ·have e1:=qcN h1;have H1:=Lib.hid h1;clear h1;go_enter Tryz.func44,Tryz.ntmps44;go_wp2;go_ret;exact ⟨qa7 (by rw [H1.out];rfl),rfl⟩
  ·have e1:=qcG h1;have H1:=Lib.hid h1;clear h1;go_enter Tryz.func44,Tryz.ntmps44;go_wp2;go_ret;exact ⟨qa7 (by simp [H1.out]),rfl⟩
 ·have e0:=qcG h0;rw [q7X h0];clear h0
  by_cases hl:d.size<s.size
  ·have hp:=Lib.hid (qw2 s d hl);have hE:=qjS (s.extract 0 d.size) d;rw [ext0L]at hE
   by_cases he:s.data.toList.take d.size=d.data.toList
   ·rw [decide_eq_true he]at hE;have HE:=Lib.hid he;clear he;go_enter Tryz.func44,Tryz.ntmps44;go_wp2;go_ret;exact ⟨qa7 (by simp only [hp.out,HE.out,true_and];exact qrG s[d.size] 47),rfl⟩
   ·rw [decide_eq_false he]at hE;have HE:=Lib.hid he;clear he;go_enter Tryz.func44,Tryz.ntmps44;go_wp2;go_ret;exact ⟨qa7 (by simp only [hp.out,HE.out,false_and,decide_false]),rfl⟩
  ·have hp:=Lib.hid (qw3 s d hl);go_enter Tryz.func44,Tryz.ntmps44;go_wp2;go_ret;exact ⟨qa7 (by simp only [hp.out,decide_false]),rfl⟩
set_option maxHeartbeats 400000 in
theorem qvV (a b:ByteArray) (w:World) (ha:a.size≤maxLen) (hb:b.size≤maxLen):Calls Tryz.prog 65 #[.string a,.string b] w fun e w'=>e= .returned (.int .i64 (pcmp a.data.toList b.data.toList))∧ ∃n,w'=w.drewN n:=by
 unfold maxLen at ha hb
 by_cases hm:a.size≤b.size
 all_goals
  go_enter Tryz.func65,Tryz.ntmps65;go_wp2
  go_loopw [11] (fun i wr=> ∃k n:Nat,k≤a.size∧k≤b.size∧i= .int .i64 k∧Hid (a.data.toList.take k=b.data.toList.take k)∧Hid (wr=w.drewN n)) (fun i _=>a.size-(intOf i).toNat)
  case atStart=>exact ⟨0,0,Nat.zero_le _,Nat.zero_le _,rfl,rfl,rfl⟩
  case round=>
   obtain ⟨k,n,hk,hk',rfl,hz,hw⟩:=hrel
   by_cases hlt:k<a.size∧k<b.size
   ·obtain ⟨h1,h2⟩:=hlt;have hq:=qrG a[k] b[k]
    by_cases hc:a[k]=b[k]
    ·rw [decide_eq_true hc]at hq;have hq':((a[k].toNat:Int) !=(b[k].toNat:Int))=false:=by simp [bne,hq]
     have HN:Hid (a.data.toList.take (k+1)=b.data.toList.take (k+1)):=by
      unfold Hid;rw [qc4 _ _ h1,qc4 _ _ h2,hz.out,hc]
     clear hc hq;go_wp2;go_quiet (fail);go_wp2;go_roundw
     case rel=>exact ⟨k+1,n+nq,by omega,by omega,by go_num,HN,by unfold Hid;rw [hw.out,World.drewN_drewN]⟩
     case measure=>simp [intOf];omega
    ·rw [decide_eq_false hc]at hq;have hq':((a[k].toNat:Int) !=(b[k].toNat:Int))=true:=by simp [bne,hq]
     have HP:=Lib.hid (pcmp_at a.data.toList b.data.toList k hz.out (by simpa using h1) (by simpa using h2) hc);clear hc hq;go_wp2;go_quiet (fail);obtain ⟨w1,hw1⟩:=qaA (wr.drewN nq);rw [hw1.out];go_wp2;go_quiet ((first|(go_at_call 109;exact Calls.quiet_of_same (qbO (q5E _ _)))|(go_at_call 108;exact Calls.quiet_of_same (qbO (qk6 _ _ _)))));go_wp2;go_ret;exact ⟨qaR HP.out.symm,_,by rw [←hw1.out,hw.out,World.drewN_drewN,World.drewN_drewN]⟩
   ·have HP:=Lib.hid (q5U a.data.toList b.data.toList k hz.out (by simpa using hk) (by simpa using hk') (by simp;omega));go_wp2_with (go_at_call 108;refine (qk6 _ _ _).mono ?_;rintro e w' ⟨rfl,rfl⟩);go_ret;exact ⟨qaR (by rw [HP.out];simp),_,hw.out⟩
theorem qa2 {B:Nat} {a w:World} (h:Below B a w) (n:Nat):Below B a (w.drewN n):=⟨h.os,h.tape,h.output,h.size,h.block⟩
theorem q6H:(Tryz.prog.info? 9).map (fun i=>(i.zero,i.size,i.bytes))=some (some (.string ⟨#[]⟩),1,16):=by kernel_rfl
def qaV (w:World) (B:Nat) (v:Value) (ls:List (List UInt8)):Prop:=w.ownsRow B 9 1 v ls.length (strC ls)
theorem qaV.form {w:World} {B:Nat} {v:Value} {ls:List (List UInt8)} (h:qaV w B v ls) (hn:1≤ls.length): ∃g cap,v= .slice (some ⟨g,0,none⟩) ls.length cap∧B≤g∧g<w.heap.size:=World.ownsRow.form h hn
theorem qaV.cell {w:World} {B g cap n:Nat} {ls:List (List UInt8)} (h:qaV w B (.slice (some ⟨g,0,none⟩) n cap) ls) (hn:ls.length=n) (j:Nat) (hj:j<n):w.cell? ⟨g,j,none⟩=some (strV (ls.getD j [])):=by
 subst hn;unfold qaV at h;rw [h.cellAt j (by omega),q4R _ _ hj]
theorem qu9 {a w:World} (h:Below a.heap.size a w) (row:Option Nat):a.grownBy w row:=⟨h.os,h.tape,h.output,h.size,fun i hi _=>h.block i hi⟩
theorem qaV.below {w w':World} {B:Nat} {v:Value} {ls:List (List UInt8)} (h:qaV w B v ls) (hb:Below w.heap.size w w'):qaV w' B v ls:=
 World.ownsRow.kept h (qu9 hb none) (by
  by_cases e:v.ownBlock=none
  ·exact .inl e
  ·exact .inr e)
theorem qaV.nil (w:World) (B:Nat):qaV w B (.slice none 0 0) []:=World.ownsRow_nil w B 9 1
theorem qaV.any {w:World} {B:Nat} {v:Value} {ls:List (List UInt8)} (h:qaV w B v ls): ∃A cap,v= .slice A ls.length cap∧(∀j,j<ls.length→ ∃g,A=some ⟨g,0,none⟩∧B≤g∧g<w.heap.size∧w.cell? ⟨g,j,none⟩=some (strV (ls.getD j []))):=by
 by_cases hn:1≤ls.length
 ·obtain ⟨g,cap,rfl,hB,hlt⟩:=h.form hn;exact ⟨_,cap,rfl,fun j hj=>⟨g,rfl,hB,hlt,h.cell rfl j hj⟩⟩
 ·have h0:ls.length=0:=by omega
  have h':=h;unfold qaV World.ownsRow at h';rcases h'.2 with ⟨rfl,_⟩|⟨g,cap,cur,rfl,_⟩
  ·exact ⟨none,0,by rw [h0],fun j hj=>by omega⟩
  ·exact ⟨_,cap,rfl,fun j hj=>by omega⟩
theorem q7B (l:List UInt8) (s:ByteArray) (k:Nat) (h:k<s.size):Value.string ((⟨l.toArray⟩:ByteArray)++s.extract k (k+1))=strV (l++ [s[k]]):=by
 have:s.extract k (k+1)=⟨[s[k]].toArray⟩:=by
  apply ByteArray.ext;apply Array.toList_inj.1;rw [ByteArray.data_extract,Array.toList_extract];simp only [List.extract,Nat.add_sub_cancel_left];rw [List.drop_eq_getElem_cons (by simpa using h),List.take_succ_cons,List.take_zero];rfl
 rw [this,qdC];rfl
set_option maxHeartbeats 1000000 in
theorem qmG (s:ByteArray) (c:Int) (b:UInt8) (w:World) (hs:s.size≤8000000000000) (hc:(b.toNat:Int)=c):
  Calls Tryz.prog 129 #[.string s,.int .u8 c] w fun e w'=> ∃v,e= .returned v∧qaV w' w.heap.size v (qaK b s.data.toList)∧Below w.heap.size w w':=by
 subst hc;have hb:=qlU b;obtain ⟨i0,hi,hz0,hz1,hz2⟩:=info_parts q6H;go_enter Tryz.func129,Tryz.ntmps129;go_wp2;have ho:=World.ownsRow_lit (e:=9) (size:=1) w #[.string ⟨#[]⟩] 1 (Nat.le_refl _) (by decide) rfl
 go_loopw [5,6] (fun v i wr=> ∃k n g cap:Nat,i= .int .i64 k∧v= .slice (some ⟨g,0,none⟩) n cap∧k≤s.size∧1≤n∧n≤k+1∧w.heap.size≤g∧Hid ((qaK b (s.data.toList.take k)).length=n)∧
   Hid (qaV wr w.heap.size (.slice (some ⟨g,0,none⟩) n cap) (qaK b (s.data.toList.take k)))∧Hid (Below w.heap.size w wr)) (fun _ i _=>s.size-(intOf i).toNat)
 case atStart=>exact ⟨0,1,_,_,rfl,rfl,Nat.zero_le _,Nat.le_refl _,by omega,Nat.le_refl _,rfl,ho,(Below.refl _ _).alloc (Nat.le_refl _) _⟩
 case round=>
  obtain ⟨k,n,g,cap,rfl,rfl,hk,hn1,hn2,hg,HN,HT,HB⟩:=hrel;clear ho
  by_cases hlt:k<s.size
  ·have hq:=qrG s[k] b;have HS:=Lib.hid (qc4 s k hlt);have hBw:w.heap.size≤wr.heap.size:=HB.out.size
   by_cases he:s[k]=b
   ·rw [decide_eq_true he]at hq
    have HP:Hid (qaK b (s.data.toList.take (k+1))=qaK b (s.data.toList.take k)++ [[]]):=by
     unfold Hid;rw [HS.out,he,qnX]
    clear he;have hT:wr.ownsRow w.heap.size 9 1 (.slice (some ⟨g,0,none⟩) n cap) n (strC (qaK b (s.data.toList.take k))):=by have:=HT.out;unfold qaV at this;rwa [HN.out]at this
    have HO:=Lib.hid hT;clear hT;go_wp2_with (at_builtin;refine wpList_append_lies _ rfl (.tmp 19) (.tmp 20) 76 rfl w.heap.size 9 i0 _ 1 16 Tryz.underlying76 hi hz0 hz1 hz2 rfl (by decide) (.slice (some ⟨g,0,none⟩) n cap) n _ rfl (HO.out.alloc _) ⟨wr.heap.size,0,none⟩ 1 1 [.string ⟨#[]⟩] rfl rfl (World.news_of_block (cs:= #[.string ⟨#[]⟩]) (t:=9) (fr:=(0,0)) (heap_alloc_new wr _)) (by simp [Value.oneCell']) (by omega) (by unfold maxLen;omega) (by omega) (by simp;omega) (wr.heap.size+1) (by simp) ?_;intro g' cap' w1 hown1 hgrow1 hat1 hlt1);have hBg:w.heap.size≤g':=(hown1.lt g' rfl).1;have HB1:Hid (Below w.heap.size w w1):=(HB.out.alloc hBw _).grown hgrow1 (by simp;omega) (fun k hk=>by cases hk;exact hg)
    have HT1:Hid (qaV w1 w.heap.size (.slice (some ⟨g',0,none⟩) (n+1) cap') (qaK b (s.data.toList.take (k+1)))):=by
     unfold Hid qaV;rw [HP.out,List.length_append,HN.out,q4S];exact hown1
    have HN1:Hid ((qaK b (s.data.toList.take (k+1))).length=n+1):=by unfold Hid;rw [HP.out,List.length_append,HN.out];rfl
    clear hown1 hgrow1 hat1 hlt1;go_roundw
    case rel=>exact ⟨k+1,n+1,g',cap',by go_num,rfl,by omega,by omega,by omega,hBg,HN1,HT1,HB1⟩
    case measure=>simp [intOf];omega
   ·rw [decide_eq_false he]at hq
    have HP:Hid (qaK b (s.data.toList.take (k+1))=qdV s[k] (qaK b (s.data.toList.take k))):=by
     unfold Hid;rw [HS.out,qnW _ _ _ he]
    clear he;have hT:wr.ownsRow w.heap.size 9 1 (.slice (some ⟨g,0,none⟩) n cap) n (strC (qaK b (s.data.toList.take k))):=by have:=HT.out;unfold qaV at this;rwa [HN.out]at this
    have HO:=Lib.hid hT;clear hT;have hcell:wr.cell? ⟨g,n-1,none⟩=some (.string ⟨((qaK b (s.data.toList.take k)).getD (n-1) []).toArray⟩):=HT.out.cell HN.out (n-1) (by omega)
    have htl:(⟨((qaK b (s.data.toList.take k)).getD (n-1) []).toArray⟩:ByteArray).size≤8000000000000:=by
     have:=qmH b (s.data.toList.take k) (n-1);rw [List.length_take]at this;have h2:s.data.toList.length=s.size:=by simp
     rw [qjU];omega
    have hxs:(s.extract k (k+1)).size≤1:=by rw [ByteArray.size_extract];omega
    obtain ⟨t,Ht⟩:=qaA (⟨((qaK b (s.data.toList.take k)).getD (n-1) []).toArray⟩:ByteArray);rw [Ht.out]at hcell htl;have hfro:=HO.out.frozenAt (n-1);have b0:(0:Int)≤(n:Int) -1:=by omega
    have b0':(1:Int)≤(n:Int):=by omega
    have b1:(n:Int) -1<(n:Int):=by omega
    have b2:IntKind.i64.wrap ((n:Int) -1)=(n:Int) -1:=IntWalk.i64_in _ (by omega);have b7:((n:Int) -1).toNat=n-1:=by omega
    have b3:(0:Int)≤(k:Int):=by omega
    have b4:(k:Int)≤(k:Int)+1:=by omega
    have b5:(k:Int)+1≤(s.size:Int):=by omega
    have b6:IntKind.i64.wrap ((k:Int)+1)=(k:Int)+1:=IntWalk.i64_in _ (by omega);have b8:((k:Int)+1).toNat=k+1:=by omega
    go_wp2;have hadd:=fun W=>run_string_add_sum (P:=Tryz.prog) (w:=W) t (s.extract k (k+1)) (by omega)
    go_still_tail 13,(by kernel_rfl)
    change wpList _ _ _ _ _ wr.drew;go_wp2;have hl:(qaK b (s.data.toList.take k)).length=(n-1)+1:=by have:=HN.out;omega
    have HN1:Hid ((qaK b (s.data.toList.take (k+1))).length=n):=by
     unfold Hid;rw [HP.out,qk0 _ _ (n-1) hl,List.length_set];exact HN.out
    have HT1:Hid (qaV (wr.setCell ⟨g,n-1,none⟩ (.string (t++s.extract k (k+1)))).drew w.heap.size (.slice (some ⟨g,0,none⟩) n cap) (qaK b (s.data.toList.take (k+1)))):=by
     unfold Hid qaV;rw [HN1.out,HP.out,qk0 _ _ (n-1) hl,←q4Q,←q7B _ s k hlt,Ht.out];exact (HO.out.stored (n-1) _).1.drew
    have HB1:Hid (Below w.heap.size w (wr.setCell ⟨g,n-1,none⟩ (.string (t++s.extract k (k+1)))).drew):=(HB.out.setCell hg _).drew;clear hl hadd;go_roundw
    case rel=>exact ⟨k+1,n,g,cap,by go_num,rfl,by omega,by omega,by omega,hg,HN1,HT1,HB1⟩
    case measure=>simp [intOf];omega
  ·obtain rfl:k=s.size:=by omega
   have hfin:s.data.toList.take s.size=s.data.toList:=by
    have h2:s.data.toList.length=s.size:=by simp
    rw [←h2,List.take_length]
   have HT1:=HT.out;rw [hfin]at HT1;have HT2:=Lib.hid HT1;clear hfin HT1;go_wp2;go_ret;exact ⟨_,rfl,HT2.out,HB.out⟩
theorem qoK (s:ByteArray) (w:World) (hs:s.size≤8000000000000):
  Calls Tryz.prog 128 #[.string s] w fun e w'=> ∃v,e= .returned v∧qaV w' w.heap.size v (pp s.data.toList)∧Below w.heap.size w w':=by
 by_cases h0:s.data.toList= []
 ·have e0:=qcN h0;rw [h0,qwK];clear h0;go_enter Tryz.func128,Tryz.ntmps128;go_wp2_with fail;go_ret;exact ⟨_,rfl,qaV.nil _ _,Below.refl _ _⟩
 ·have e0:=qcG h0;rw [pp_ne h0];clear h0;go_enter Tryz.func128,Tryz.ntmps128;go_wp2_with fail;refine (qmG s 47 47 _ hs rfl).mono ?_;rintro e w1 ⟨v,rfl,hT,hB⟩;have HT:=Lib.hid hT;have HB:=Lib.hid hB;clear hT hB;go_wp2_with fail;go_ret;exact ⟨_,rfl,HT.out,HB.out⟩
set_option maxHeartbeats 1000000 in
theorem qyF (a b:ByteArray) (w:World) (ha:a.size≤8000000000000) (hb:b.size≤8000000000000):
  Calls Tryz.prog 83 #[.string a,.string b] w fun e w'=>e= .returned (.int .i64 (pcmp a.data.toList b.data.toList))∧Below w.heap.size w w':=by
 have hP:=lcmp_pp a.data.toList b.data.toList;rw [←hP];clear hP
 have hx:(pp a.data.toList).length≤8000000000001:=by
  unfold pp;split
  ·simp
  ·have:=qe4 47 a.data.toList;have h2:a.data.toList.length=a.size:=by simp
   omega
 have hy:(pp b.data.toList).length≤8000000000001:=by
  unfold pp;split
  ·simp
  ·have:=qe4 47 b.data.toList;have h2:b.data.toList.length=b.size:=by simp
   omega
 obtain ⟨xs,Hxs⟩:=qaA (pp a.data.toList);obtain ⟨ys,Hys⟩:=qaA (pp b.data.toList);rw [Hxs.out]at hx⊢;rw [Hys.out]at hy⊢;obtain ⟨nx,Hx⟩:=qaA xs.length;obtain ⟨ny,Hy⟩:=qaA ys.length;rw [Hx.out]at hx;rw [Hy.out]at hy;go_enter Tryz.func83,Tryz.ntmps83;go_wp2_with fail;refine (qoK a _ ha).mono ?_;rintro e w1 ⟨v,rfl,hT1,hB1⟩;rw [Hxs.out]at hT1;obtain ⟨A,ca,rfl,hA⟩:=hT1.any;clear hA;have HT1:=Lib.hid hT1;have HB1:=Lib.hid hB1;clear hT1 hB1;go_wp2_with fail;refine (qoK b _ hb).mono ?_;rintro e w2 ⟨v,rfl,hT2,hB2⟩;rw [Hys.out]at hT2;have HT1':=Lib.hid (HT1.out.below hB2);have HB2:=Lib.hid (HB1.out.trans (hB2.mono HB1.out.size));clear HT1;obtain ⟨B,cb,rfl,hB⟩:=hT2.any;obtain ⟨A',ca',eA,hA⟩:=HT1'.out.any;obtain ⟨rfl,rfl⟩:A=A'∧ca=ca':=by simpa using eA
 have HA:=Lib.hid hA;have HB:=Lib.hid hB;clear hA hB eA hT2 hB2 HB1 HT1';rw [Hx.out,Hy.out];go_wp2_with fail
 go_loopw [7] (fun i wr=> ∃k n:Nat,i= .int .i64 k∧k≤nx∧k≤ny∧Hid (xs.take k=ys.take k)∧Hid (wr=w2.drewN n)) (fun i _=>nx-(intOf i).toNat)
 case atStart=>exact ⟨0,0,rfl,Nat.zero_le _,Nat.zero_le _,rfl,rfl⟩
 case round=>
  obtain ⟨k,n,rfl,hk1,hk2,HE,HW⟩:=hrel
  by_cases hlt1:k<nx
  ·by_cases hlt2:k<ny
   ·obtain ⟨ga,rfl,_,_,hca⟩:=HA.out k (by rw [Hx.out];exact hlt1);obtain ⟨gb,rfl,_,_,hcb⟩:=HB.out k (by rw [Hy.out];exact hlt2);obtain ⟨st1,st2,st3⟩:=q2O xs ys k HE.out (by rw [Hx.out];exact hlt1) (by rw [Hy.out];exact hlt2);have hca':wr.cell? ⟨ga,k,none⟩=some (strV (xs.getD k [])):=by rw [HW.out];exact hca
    have hcb':wr.cell? ⟨gb,k,none⟩=some (strV (ys.getD k [])):=by rw [HW.out];exact hcb
    clear hca hcb;unfold strV at hca' hcb';obtain ⟨sx,Hsx⟩:=qaA (⟨(xs.getD k []).toArray⟩:ByteArray);obtain ⟨sy,Hsy⟩:=qaA (⟨(ys.getD k []).toArray⟩:ByteArray);have ex:sx.toList=xs.getD k []:=by rw [ByteArray.toList_eq,←Hsx.out]
    have ey:sy.toList=ys.getD k []:=by rw [ByteArray.toList_eq,←Hsy.out]
    rw [Hsx.out]at hca';rw [Hsy.out]at hcb';rw [←ex,←ey]at st1 st2 st3;clear ex ey;cases hl:qfG sx.toList sy.toList
    ·have hl':Op.bytesLess sx.toList sy.toList=false:=hl
     by_cases heq:sx.toList=sy.toList
     ·have he':(sx.toList==sy.toList)=true:=by simpa using heq
      have HE1:=Lib.hid (st3 heq);clear st1 st2 st3 hl heq;go_wp2;go_quiet (fail);obtain ⟨w3,Hw3⟩:=qaA (wr.drewN nq);have hca3:w3.cell? ⟨ga,k,none⟩=some (.string sx):=by rw [←Hw3.out];exact hca'
      have hcb3:w3.cell? ⟨gb,k,none⟩=some (.string sy):=by rw [←Hw3.out];exact hcb'
      rw [Hw3.out];clear hca' hcb';go_wp2;go_quiet (fail);go_wp2;go_roundw
      case rel=>exact ⟨k+1,_,by go_num,by omega,by omega,HE1,by unfold Hid;rw [←Hw3.out,HW.out,World.drewN_drewN,World.drewN_drewN]⟩
      case measure=>simp [intOf];omega
     ·have he':(sx.toList==sy.toList)=false:=by simpa using heq
      have HR:=Lib.hid (st2 hl heq);clear st1 st2 st3 hl heq;go_wp2;go_quiet (fail);obtain ⟨w3,Hw3⟩:=qaA (wr.drewN nq);have hca3:w3.cell? ⟨ga,k,none⟩=some (.string sx):=by rw [←Hw3.out];exact hca'
      have hcb3:w3.cell? ⟨gb,k,none⟩=some (.string sy):=by rw [←Hw3.out];exact hcb'
      rw [Hw3.out];clear hca' hcb';go_wp2;go_quiet (fail);go_wp2;go_ret;exact ⟨qaR HR.out.symm,by rw [←Hw3.out,HW.out];exact qa2 (qa2 (qa2 HB2.out _) _) _⟩
    ·have hl':Op.bytesLess sx.toList sy.toList=true:=hl;have HR:=Lib.hid (st1 hl);clear st1 st2 st3 hl;go_wp2;go_quiet (fail);go_wp2;go_ret;exact ⟨qaR HR.out.symm,by rw [HW.out];exact qa2 (qa2 HB2.out _) _⟩
   ·obtain rfl:k=ny:=by omega
    have HR:=Lib.hid (qwW xs ys k HE.out (by rw [Hx.out];exact hk1) (by rw [Hy.out];exact Nat.le_refl _) (.inr Hy.out.symm));go_wp2;go_ret;exact ⟨qaR (by rw [HR.out,Hx.out,Hy.out,qoE (by omega)]),by rw [HW.out];exact qa2 HB2.out _⟩
  ·obtain rfl:k=nx:=by omega
   have HR:=Lib.hid (qwW xs ys k HE.out (by rw [Hx.out];exact Nat.le_refl _) (by rw [Hy.out];exact hk2) (.inl Hx.out.symm))
   by_cases hlt2:k<ny
   ·go_wp2;go_ret;exact ⟨qaR (by rw [HR.out,Hx.out,Hy.out,ql2 (by omega)]),by rw [HW.out];exact qa2 HB2.out _⟩
   ·go_wp2;go_ret;exact ⟨qaR (by rw [HR.out,Hx.out,Hy.out,q7P (by omega) (by omega)]),by rw [HW.out];exact qa2 HB2.out _⟩
end Go.Proofs.YtapgoifimhnbdaaGreatDoor
