/- qaX of one kind, in one file: FltP, FltQ, FltN. -/
import Derived.Test.YtapgoifimhnbdaaGreatDoorFlb
import Derived.Test.YtapgoifimhnbdaaGreatDoorGlb
import Derived.Test.YtapgoifimhnbdaaGreatDoorPts
import Derived.RangeFuncNested
import Derived.RangeFuncBound
import Derived.RangeFuncCalls
import Derived.RangeFuncLeaves
import Derived.RangeFuncFrom
import Derived.Shelf.Abstract
import Derived.Shelf.RegionOpen
import Derived.WalkKit
import Derived.OwnWalkIn
import Derived.TacticsInMore
import Derived.LoopNIn
import Derived.LoopIn
import Derived.Test.YtapgoifimhnbdaaGreatDoorTrb
import Derived.Deep.RegionWith
import Derived.Test.YtapgoifimhnbdaaGreatDoorPal
import Derived.Test.YtapgoifimhnbdaaGreatDoorTrg
set_option linter.unusedVariables false
set_option maxRecDepth 100000
namespace Go.Proofs.YtapgoifimhnbdaaGreatDoor
open Go.RowKit
open Go.OpenShut
def q21:Prop:=(∀(p:ByteArray) (w:World),p.size≤maxLen→Calls Tryz.prog 153 #[.string p] w fun e w'=>e= .returned (.int .i64 (qr5 p.data.toList))∧Below w.heap.size w w')∧(∀(p s:ByteArray) (w:World),p.size≤maxLen→s.size≤maxLen→Calls Tryz.prog 155 #[.string p,.string s] w fun e w'=>e= .returned (.tuple #[.bool (qlQ p.data.toList s.data.toList),.int .i64 (fitsE p.data.toList s.data.toList)])∧Below w.heap.size w w')
set_option maxHeartbeats 2000000 in
theorem qu7 (A:Option Addr) (n c:Nat) (qs:List qb1) (hn:qs.length=n) (hn2:n≤140737488355328) (hok:okR qs) (HX:qs≠ []→q21) (w:World) (hA:qdV w A qs):
  Calls Tryz.prog 101 #[.slice A n c] w fun e w'=>e= .returned (.int .i64 (qh0 qs))∧Below w.heap.size w w':=by
 by_cases h12:12<n
 ·rw [show qh0 qs=1 from if_pos (by rw [hn];exact h12)];have h12':(12:Int)<(n:Int):=by omega
  clear hn hA hok;go_enter Tryz.func101,Tryz.ntmps101;go_wp2_with fail;go_ret;exact ⟨rfl,Below.refl _ _⟩
 ·rw [show qh0 qs=qk8 qs from if_neg (by rw [hn];exact h12)];have h12': ¬(12:Int)<(n:Int):=by omega
  have HN:=Lib.hid hn;have HA:=Lib.hid hA;have HOk:=Lib.hid hok;clear hn hA hok;go_enter Tryz.func101,Tryz.ntmps101;go_wp2_with fail
  go_loopw [11] (fun iv wr=> ∃k:Nat,k≤n∧iv= .int .i64 k∧Hid (qk8 qs=qk8 (qs.drop k))∧Hid (Below w.heap.size w wr)) (fun iv _=>n-(intOf iv).toNat)
  case atStart=>exact ⟨0,Nat.zero_le _,rfl,rfl,Below.refl _ _⟩
  case round=>
   obtain ⟨k,hk,rfl,HE,HB⟩:=hrel
   by_cases hlt:k<n
   ·have hkq:k<qs.length:=by rw [HN.out];exact hlt
    obtain ⟨r,Hr⟩:=qaA qs[k];obtain ⟨P,HP⟩:=qaA (⟨r.2.toArray⟩:ByteArray);obtain ⟨b,o,rfl,hc1,hc2⟩:=qpG (HA.out.below HB.out) hkq Hr.out HP.out;have hE:=HE.out;rw [List.drop_eq_getElem_cons hkq,Hr.out,qwG]at hE;have hPl:P.data.toList=r.2:=by rw [←HP.out]
    have hsz:P.size≤maxLen:=by
     have h1:=HOk.out r (by rw [←Hr.out];exact List.getElem_mem _);have h2:P.data.toList.length=P.size:=by simp
     rw [hPl]at h2;unfold maxLen;omega
    have hgf:=fun W=>(HX (fun e=>by rw [e]at hkq;exact absurd hkq (Nat.not_lt_zero _))).1 P W hsz;rw [hPl]at hgf;have HG:=Lib.hid hgf;have HB1:=Lib.hid (qaL HB.out (.cells #[.bool r.1,.string P] 174));have HBk:=Lib.hid (Blk.new wr 174 #[.bool r.1,.string P]);clear hPl hsz hgf;go_upto_region 6 with fail
    clear hc1 hc2;have d1:(wr.alloc (.cells #[.bool r.1,.string P] 174)).cell? ⟨wr.heap.size,1,none⟩=some (.string P):=HBk.out.cell 1
    by_cases h0:qr5 r.2=0
    ·rw [if_pos h0]at hE;rw [h0]at HG;have HE1:=Lib.hid hE;clear hE h0;go_wp2_with fail;refine (HG.out _).mono ?_;rintro e w2 ⟨rfl,hb⟩;have HB2:=Lib.hid (HB1.out.trans (hb.mono HB1.out.size));clear hb d1;go_wp2_with fail;go_roundw
     case rel=>exact ⟨k+1,by omega,by go_num,HE1.out,HB2.out⟩
     case measure=>simp [intOf];omega
    ·rw [if_neg h0]at hE;obtain ⟨E,HEE⟩:=qaA (qr5 r.2);rw [HEE.out]at hE h0 HG;have hne:(E==0)=false:=by simpa using h0
     have HE1:=Lib.hid hE;clear hE h0;go_wp2_with fail;refine (HG.out _).mono ?_;rintro e w2 ⟨rfl,hb⟩;have HB2:=Lib.hid (HB1.out.trans (hb.mono HB1.out.size));clear hb d1;go_wp2_with fail;go_ret;exact ⟨qaV HE1.out.symm,HB2.out⟩
   ·obtain rfl:k=n:=by omega
    have HR:Hid (qk8 qs=0):=by
     have:=HE.out
     rwa [List.drop_eq_nil_of_le (by rw [HN.out];exact Nat.le_refl _)]at this
    go_wp2_with fail;go_ret;exact ⟨qaV HR.out.symm,HB.out⟩
abbrev AlR:Type:= {x:Nat×qb1//x.2.2.length≤140737488351232}
def encR (x:AlR):Array Value:= #[.int .i64 (x.1.1:Int),.agg #[.bool x.1.2.1,strV x.1.2.2]]
section
attribute [local go_sem] Oper.semAt_some
set_option maxHeartbeats 2000000 in
theorem zcU (l Bs n₀ m:Nat) (hm:1≤m) (A:Option Addr) (n c:Nat) (qs:List qb1) (hn:qs.length=n) (hn2:n≤140737488355328) (f:Nat→AlR) (hf: ∀j (h:j<qs.length),(f j).1=(j,qs[j])) (J Jx:List AlR→World→Prop)
  (hY: ∀pre x W,J pre W→pre.length<n→YieldAt Fence.wide (m-1) Tryz.prog l (encR x) W fun e W'=>
   (e= .returned (.bool true)∧J (pre++ [x]) W'∧Below n₀ W W')∨(e= .returned (.bool false)∧Jx (pre++ [x]) W'))
  (W:World) (hBs:W.cell? ⟨Bs,0,none⟩=some (.slice A n c)) (hB0:Bs<n₀) (hA: ∀W',Below n₀ W W'→qdV W' A qs) (h0:J [] W):
  CallsIn Fence.wide m Tryz.prog 203 #[.func (.yield l) #[] #[],.pointer (some ⟨Bs,0,none⟩)] W fun e W'=>(∃v,e= .returned v)∧
   ((∃ys,ys=qhZ f n 0∧J ys W')∨(∃pre,(∃k,k<n∧pre=qhZ f n k)∧Jx pre W')):=by
 have HN:=Lib.hid hn;have HA:=Lib.hid hA;have HF:=Lib.hid hf;clear hn hA hf;refine callsIn_of_wp Tryz.func203 rfl trivial ?_ rfl;simp only [Tryz.ntmps203,List.size_toArray,List.length_cons,List.length_nil,Nat.reduceAdd,Nat.reduceSub,Array.replicate_succ,Array.replicate_zero,List.push_toArray,List.append_toArray,List.nil_append,List.cons_append]
 gi_wp2
 gi_loopw [3] (fun i wr=> ∃k:Nat,k≤n∧i= .int .i64 ((k:Int) -1)∧J (qhZ f n k) wr∧Hid (Below n₀ W wr)) (fun i _=>(intOf i+1).toNat)
 case atStart=>exact ⟨n,Nat.le_refl _,by first|rfl|(simp;done)|(congr 1;omega),by rw [q2I];exact h0,Below.refl _ _⟩
 case round=>
  obtain ⟨k,hk,rfl,hJs,HB⟩:=hrel;have hcs:wr.cell? ⟨Bs,0,none⟩=some (.slice A n c):=(HB.out.cell (p:=⟨Bs,0,none⟩) hB0).trans hBs;cases k with
  |zero=>
   rw [show (((0:Nat):Int) -1)= -1 by rfl]
   gi_wp2
   go_end0
   exact ⟨⟨_,rfl⟩,.inl ⟨_,rfl,hJs⟩⟩
  |succ j=>
   rw [show (((j+1:Nat):Int) -1)=(j:Int) by omega];have hjq:j<qs.length:=by rw [HN.out];omega
   have hlj:j<n:=by omega
   obtain ⟨fn,tmps,assign,body,hy,hR⟩:=hY _ (f j) wr hJs (by rw [q7P];omega);have hAr:qdV wr A qs:=HA.out wr HB.out;obtain ⟨r,Hr⟩:=qaA qs[j];obtain ⟨P,HP⟩:=qaA (⟨r.2.toArray⟩:ByteArray);obtain ⟨b,o,rfl,hc1,hc2⟩:=qpG hAr hjq Hr.out HP.out
   have hx:encR (f j)= #[.int .i64 (j:Int),.agg #[.bool r.1,.string P]]:=by
    unfold encR;rw [HF.out j hjq,Hr.out];show #[Value.int .i64 ((j:Nat):Int),.agg #[.bool r.1,strV r.2]]=_;unfold strV;rw [HP.out]
   rw [hx]at hy;clear hx hAr
   gi_wp2
   refine hR.mono ?_;rintro e W3 (⟨rfl,hJ3,hk3⟩|⟨rfl,hJx3⟩)
   ·gi_wp2
    go_roundw
    case rel=>exact ⟨j,by omega,by simp,by rw [qkT f hlj];exact hJ3,HB.out.trans hk3⟩
    case measure=>simp [intOf]
   ·gi_wp2
    refine bodyPost_ret (results_none rfl _ _ _) rfl ?_;exact ⟨⟨_,rfl⟩,.inr ⟨_,⟨j,hlj,(qkT f hlj).symm⟩,hJx3⟩⟩
set_option maxHeartbeats 1000000 in
theorem back_in (m:Nat) (A:Option Addr) (n c:Nat) (w:World):
  CallsIn Fence.wide m Tryz.prog 154 #[.slice A n c] w fun e w'=>e= .returned (.func (.func 203) #[] #[.pointer (some ⟨w.heap.size,0,none⟩)])∧w'=w.alloc (.cells #[.slice A n c] 86):=by
 refine callsIn_of_wp Tryz.func154 rfl trivial ?_ rfl;simp only [Tryz.ntmps154,List.size_toArray,List.length_cons,List.length_nil,Nat.reduceAdd,Nat.reduceSub,Array.replicate_succ,Array.replicate_zero,List.push_toArray,List.append_toArray,List.nil_append,List.cons_append]
 gi_wp2
 go_ret;exact ⟨rfl,rfl⟩
theorem q2S (Bs m:Nat) (hm:1≤m) (A:Option Addr) (n c:Nat) (qs:List qb1) (hn:qs.length=n) (hn2:n≤140737488355328) (f:Nat→AlR) (hf: ∀j (h:j<qs.length),(f j).1=(j,qs[j])) (w0:World)
  (hBs:Blk w0 Bs 86 #[.slice A n c]) (hA: ∀W',Below w0.heap.size w0 W'→qdV W' A qs):
  SeqStopsK Fence.wide m Tryz.prog 203 #[.pointer (some ⟨Bs,0,none⟩)] encR (Below w0.heap.size) (fun ys=>ys=qhZ f n 0) (fun pre=> ∃k,k<n∧pre=qhZ f n k) n w0:=fun l J Jx W hW _ _ hY h0=>
 zcU l Bs w0.heap.size m hm A n c qs hn hn2 f hf J Jx hY W ((hW.cell (p:=⟨Bs,0,none⟩) hBs.lt).trans (hBs.cell 0)) hBs.lt (fun W' h=>hA W' (hW.trans h)) h0
def qkB (s:List UInt8) (pre:List AlR):Prop:= ∀x∈pre,qlQ x.1.2.2 s=false
theorem qt9 {s:List UInt8} {pre:List AlR} {x:AlR} (h:qkB s pre) (hx:qlQ x.1.2.2 s=false):qkB s (pre++ [x]):=fun y hy=>by
 rcases List.mem_append.1 hy with a|a
 ·exact h y a
 ·obtain rfl:y=x:=by simpa using a
  exact hx
theorem qoJ {B:Nat} {W W':World} (h:Below W.heap.size W W'):KeepsFrom B W W':=⟨h.size,fun k o _ hk _=>(h.block k (Array.getElem?_eq_some_iff.1 hk).1).trans hk⟩
theorem qkW {B:Nat} {t:TypeId} {cs:Array Value} {X Y:World} {row:Option Nat} (h:Blk X B t cs) (hg:X.grownBy Y row) (hr: ∀r,row=some r→ ∃o:Obj,X.heap[r]?=some o∧o.isCells=false):Blk Y B t cs:=
 h.grown hg fun e=>by
  obtain ⟨o,ho,hc⟩:=hr B e.symm;rw [show X.heap[B]?=_ from h]at ho;cases ho;cases hc
set_option maxHeartbeats 4000000 in
theorem q1U (A:Option Addr) (n c:Nat) (qs:List qb1) (hn:qs.length=n) (hn2:n≤140737488355328) (hok:okR qs) (HX:qs≠ []→q21) (s:ByteArray) (hs:s.size≤maxLen) (w:World) (hA:qdV w A qs):
  Calls Tryz.prog 103 #[.slice A n c,.string s] w fun e w'=>e= .returned (.bool (qeK qs s.data.toList))∧Below w.heap.size w w':=by
 obtain ⟨f,hf⟩: ∃f:Nat→AlR,∀j (h:j<qs.length),(f j).1=(j,qs[j]):=
  ⟨fun j=>if h:j<qs.length then ⟨(j,qs[j]),hok qs[j] (List.getElem_mem h)⟩else ⟨(0,(false, [])),Nat.zero_le _⟩,fun j h=>by simp [h]⟩
 have HNone:Hid (qkB s.data.toList (qhZ f n 0)→qeK qs s.data.toList=true):=fun h=>qv8 fun r hr=>by
  obtain ⟨j,hj,rfl⟩:=List.mem_iff_getElem.1 hr;have:=h (f j) (qvB.2 ⟨j,Nat.zero_le _,by omega,rfl⟩)
  rwa [hf j hj]at this
 have HLast:Hid (∀k,k<n→ ∀fr x,qhZ f n k=fr++ [x]→qkB s.data.toList fr→qlQ x.1.2.2 s.data.toList=true→qeK qs s.data.toList=x.1.2.1):=fun k hk fr x he hno hfi=>by
  rw [qkT f hk]at he;obtain ⟨h1,h2⟩:=List.append_inj' he rfl;obtain rfl:f k=x:=by simpa using h2
  subst h1;have hkq:k<qs.length:=by omega
  rw [hf k hkq]at hfi⊢;refine qv9 k hkq hfi fun j hj hkj=> ?_;have:=hno (f j) (qvB.2 ⟨j,hkj,by omega,rfl⟩)
  rwa [hf j hj]at this
 refine (callsIn_wide (n:=9)).1 ?_;refine callsIn_of_wp_marks Tryz.func103 rfl trivial ?_ rfl;simp only [Tryz.ntmps103,List.size_toArray,List.length_cons,List.length_nil,Nat.reduceAdd,Nat.reduceSub,Array.replicate_succ,Array.replicate_zero,List.push_toArray,List.append_toArray,List.nil_append,List.cons_append]
 gi_wp2_with (refine ⟨trivial,?_⟩;gi_at_call 154;refine (back_in _ _ _ _ _).mono ?_;rintro e w' ⟨rfl,rfl⟩)
 have bS:Blk (((w.alloc (.cells #[.string s] 9)).alloc (.cells #[.bool false] 4)).alloc (.cells #[.slice A n c] 86)) w.heap.size 9 #[.string s]:=((Blk.new w 9 #[.string s]).alloc _).alloc _
 have bR:Blk (((w.alloc (.cells #[.string s] 9)).alloc (.cells #[.bool false] 4)).alloc (.cells #[.slice A n c] 86)) (w.heap.size+1) 4 #[.bool false]:=by
  have:=(Blk.new (w.alloc (.cells #[.string s] 9)) 4 #[.bool false]).alloc (.cells #[.slice A n c] 86)
  rwa [World.size_alloc]at this
 have bL:Blk (((w.alloc (.cells #[.string s] 9)).alloc (.cells #[.bool false] 4)).alloc (.cells #[.slice A n c] 86)) (w.heap.size+1+1) 86 #[.slice A n c]:=by
  have:=Blk.new ((w.alloc (.cells #[.string s] 9)).alloc (.cells #[.bool false] 4)) 86 #[.slice A n c]
  rwa [World.size_alloc,World.size_alloc]at this
 have hB0:Below w.heap.size w (((w.alloc (.cells #[.string s] 9)).alloc (.cells #[.bool false] 4)).alloc (.cells #[.slice A n c] 86)):=qaL (qaL (qaL (Below.refl _ w) _) _) _;have hsz:(((w.alloc (.cells #[.string s] 9)).alloc (.cells #[.bool false] 4)).alloc (.cells #[.slice A n c] 86)).heap.size=w.heap.size+3:=by simp
 obtain ⟨W0,hW0⟩: ∃W0,((w.alloc (.cells #[.string s] 9)).alloc (.cells #[.bool false] 4)).alloc (.cells #[.slice A n c] 86)=W0:=⟨_,rfl⟩;rw [hW0]at bS bR bL hB0 hsz⊢;clear hW0
 refine wpIn_rangeFunc_ownH rfl (by omega) (gf:=203) (lb:= #[.pointer (some ⟨w.heap.size+1+1,0,none⟩)]) rfl trivial (enters_of Tryz.func203 (by kernel_rfl) rfl)
  (q2S (w.heap.size+1+1) _ (by omega) A n c qs hn hn2 f hf W0 bL (fun W' h=>hA.below (hB0.trans (h.mono hB0.size)))) belowK_t (belowK_b (Nat.le_refl _)) (Below.refl _ _) (fun _=>rfl)
  (fun pre W=>(Blk W w.heap.size 9 #[.string s]∧Blk W (w.heap.size+1) 4 #[.bool false])∧(Below w.heap.size w W∧Below W0.heap.size W0 W)∧qkB s.data.toList pre)
  (fun cd pre W=>(cd= .ret∧ ∃fr x,pre=fr++ [x]∧qkB s.data.toList fr∧qlQ x.1.2.2 s.data.toList=true∧Blk W (w.heap.size+1) 4 #[.bool x.1.2.1])∧Below w.heap.size w W)
  (OwnFrom.and (fun s' X Y row h hg hr=>⟨qkW h.1 hg (fun r e=>(hr r e).2),qkW h.2 hg (fun r e=>(hr r e).2)⟩) (OwnFrom.and (OwnFrom.and (ownFrom_below (Nat.le_refl _) hB0.size) (ownFrom_below (Nat.le_refl _) (Nat.le_refl _))) (ownFrom_pure _ _)))
  (fun cd=>OwnFrom.and (fun s' X Y row h hg hr=>⟨h.1,by obtain ⟨fr,x,h1,h2,h3,h4⟩:=h.2;exact ⟨fr,x,h1,h2,h3,qkW h4 hg (fun r e=>(hr r e).2)⟩⟩) (ownFrom_below (Nat.le_refl _) hB0.size))
  ⟨⟨bS,bR⟩,⟨hB0,Below.refl _ _⟩,(fun y hy=>by cases hy)⟩
  (fun x a' W=> ∃Bx,w.heap.size+1<Bx∧Blk W Bx 174 #[.bool x.1.2.1,strV x.1.2.2]∧a'= {tmps:= #[.slice A n c,.string s,undef,.pointer (some ⟨w.heap.size,0,none⟩),.pointer (some ⟨w.heap.size+1,0,none⟩),undef,.pointer (some ⟨Bx,0,none⟩),undef,undef,.slice A n c,.func (.func 203) #[] #[.pointer (some ⟨w.heap.size+1+1,0,none⟩)],.int .i64 (x.1.1:Int),.agg #[.bool x.1.2.1,strV x.1.2.2],undef,undef,undef,undef,undef,undef,undef,undef,undef,undef],defers:= [] })
  (fun x a' _ X Y row h hg hr=>by obtain ⟨Bx,h1,h2,h3⟩:=h;exact ⟨Bx,h1,qkW h2 hg (fun r e=>(hr r e).2),h3⟩)
  ?assign ?body ?done ?stop
 case assign=>
  rintro l pre x W K ⟨⟨b1,b2⟩,⟨hB1,hB2⟩,hno⟩ hK;obtain ⟨⟨xi,xb,xp⟩,hxl⟩:=x;obtain ⟨P,HP⟩:=qaA (⟨xp.toArray⟩:ByteArray);have he:encR ⟨(xi,xb,xp),hxl⟩= #[.int .i64 (xi:Int),.agg #[.bool xb,.string P]]:=by unfold encR strV;rw [HP.out]
  rw [he];simp only [strV,HP.out]at hK;clear he
  gi_wp2
  exact hK _ _ ((KeepsOthers.alloc _ _).from _) ((Below.refl _ W).alloc hB2.size _) ⟨⟨b1.alloc _,b2.alloc _⟩,⟨hB1.alloc hB1.size _,hB2.alloc hB2.size _⟩,hno⟩ ⟨W.heap.size,(by have:=b2.lt;omega),Blk.new W _ _,rfl⟩
 case body=>
  rintro l pre x a' W hl ⟨r,hr⟩ ⟨⟨b1,b2⟩,⟨hB1,hB2⟩,hno⟩ ⟨Bx,hBx,bX,rfl⟩ hlt;have hsW:=hB2.size;obtain ⟨⟨xi,xb,xp⟩,hxl⟩:=x;simp only at bX hxl⊢;obtain ⟨P,HP⟩:=qaA (⟨xp.toArray⟩:ByteArray);have hPl:P.data.toList=xp:=by rw [←HP.out]
  have hPs:P.size≤maxLen:=by
   have h2:P.data.toList.length=P.size:=by simp
   rw [hPl]at h2;unfold maxLen;omega
  unfold strV at bX⊢;rw [HP.out]at bX⊢
  have hX:=HX (fun e=>by
   have h0:=congrArg List.length e;rw [hn]at h0;have h1:n=0:=h0
   omega)
  have hG:=fun W=>hX.2 P s W hPs hs;rw [hPl]at hG;generalize fitsE xp s.data.toList=E at hG;have d0:W.cell? ⟨Bx,1,none⟩=some (.string P):=bX.cell 1;have d1:W.cell? ⟨w.heap.size,0,none⟩=some (.string s):=b1.cell 0;cases hfi:qlQ xp s.data.toList with
  |true=>
   rw [hfi]at hG;have HG1:=Lib.hid hG;clear hG HP hPl
   gi_wp2_with (refine ⟨trivial,?_⟩;gi_at_call 155;refine (CallsIn.inRound l (callsIn_wide.2 (HG1.out _))).mono ?_;rintro e w' ⟨rfl,hb⟩;have e0:w'.cell? ⟨Bx,0,none⟩=some (.bool xb):=(bX.below hb bX.lt).cell 0;have e1:=(b2.below hb b2.lt).cell 0;have e2:=(b2.below hb b2.lt).frozen 0)
   have b3:Blk _ (w.heap.size+1) 4 #[.bool xb]:=(b2.below hb b2.lt).set_ 0 (.bool xb);exact ⟨(qoJ hb).trans ((KeepsOthers.setCell _ _ _).from _),⟨rfl,pre,⟨(xi,xb,xp),hxl⟩,rfl,hno,hfi,b3⟩,(hB1.trans (hb.mono hB1.size)).setCell (p:=⟨w.heap.size+1,0,none⟩) (by simp) _⟩
  |false=>
   rw [hfi]at hG;have HG1:=Lib.hid hG;clear hG HP hPl
   gi_wp2_with (refine ⟨trivial,?_⟩;gi_at_call 155;refine (CallsIn.inRound l (callsIn_wide.2 (HG1.out _))).mono ?_;rintro e w' ⟨rfl,hb⟩)
   exact ⟨(qoJ hb),hb.mono hsW,⟨b1.below hb b1.lt,b2.below hb b2.lt⟩,⟨hB1.trans (hb.mono hB1.size),hB2.trans (hb.mono hB2.size)⟩,qt9 hno hfi⟩
 case done=>
  rintro D ys W hD rfl ⟨⟨b1,b2⟩,⟨hB1,hB2⟩,hno⟩ hK;have e1:=b2.cell 0;have e2:=b2.frozen 0
  gi_wp2
  have hK':=(KeepsOthers.setCell W ⟨w.heap.size+1,0,none⟩ (.bool true)).same D _ hK rfl;refine ⟨by simp,.inl ⟨_,_,rfl,run_takeDeferred hK',?_⟩⟩;have b3:Blk (W.setCell ⟨w.heap.size+1,0,none⟩ (.bool true)) (w.heap.size+1) 4 #[.bool true]:=b2.set_ 0 (.bool true);have hc5:=(qkW b3 (grownBy_putObj' _ D (.deferred none)) (fun r e=>by cases e;exact ⟨_,hK',rfl⟩)).cell 0;refine ⟨.bool true,?_,by rw [HNone.out hno],(hB1.setCell (p:=⟨w.heap.size+1,0,none⟩) (by simp) _).trans (belowK_b (w:=w) (Nat.le_refl _) _ D _ _ (by omega) hK' rfl rfl)⟩;simp [results,Tryz.results103,go_sem,hc5]
 case stop=>
  rintro D cd pre W hD ⟨k,hk,hpre⟩ ⟨⟨rfl,fr,x,h1,h2,h3,h4⟩,hB⟩ hK;have e1:=h4.cell 0
  gi_wp2
  refine ⟨by simp,.inl ⟨_,_,rfl,run_takeDeferred hK,?_⟩⟩;have hc5:=(qkW h4 (grownBy_putObj' _ D (.deferred none)) (fun r e=>by cases e;exact ⟨_,hK,rfl⟩)).cell 0;refine ⟨.bool x.1.2.1,?_,by rw [HLast.out k hk fr x (hpre.symm.trans h1) h2 h3],hB.trans (belowK_b (w:=w) (Nat.le_refl _) W D _ _ (by omega) hK rfl rfl)⟩;simp [results,Tryz.results103,go_sem,hc5]
end
end Go.Proofs.YtapgoifimhnbdaaGreatDoor
namespace Go.Proofs.YtapgoifimhnbdaaGreatDoor
open Go.RowKit
open Go.OpenShut
theorem q6M (A:Option Addr) (n c:Nat) (l:List NodeV) (s:ByteArray) (hs:s.size≤1000) (hn:l.length=n) (hm:n≤140737488355328) (hsz: ∀x∈l,x.sz) (w:World) (hA:qaJ w A l):
  Calls Tryz.prog 102 #[.slice A n c,.string s] w fun e w'=>e= .returned (.bool (decide (upL s.data.toList= [])||decide (qaR l (upL s.data.toList)<n)))∧Below w.heap.size w w':=by
 have HU:=Lib.hid fun W=>q8O s W (by omega);have HF:=Lib.hid fun (U:ByteArray) W (h:Below w.heap.size w W)=>qgD A n c l U hn hm hsz W (hA.below h);clear hn hsz hA;obtain ⟨U,hU⟩:=qaA (⟨(upL s.data.toList).toArray⟩:ByteArray);rw [hU.out]at HU;have hUl:upL s.data.toList=U.data.toList:=by rw [←hU.out]
 rw [hUl];have HF1:=Lib.hid (HF.out U);clear HF
 by_cases h0:U.data.toList= []
 ·rw [decide_eq_true h0,Bool.true_or];have f0:U.toList= []:=qeF h0;clear HF1 hUl h0;go_enter Tryz.func102,Tryz.ntmps102;go_wp2_with fail;refine (HU.out _).mono ?_;rintro e w1 ⟨rfl,hb⟩;have HB1:=Lib.hid hb;clear hb;go_wp2_with fail;go_ret;exact ⟨rfl,HB1.out⟩
 ·rw [decide_eq_false h0,Bool.false_or];have f0:U.toList.isEmpty=false:=qe6 h0;obtain ⟨k,hk⟩: ∃k,k=qaR l U.data.toList:=⟨_,rfl⟩;rw [←hk]at HF1⊢;clear hUl h0 hk
  by_cases hlt:k<n
  ·rw [if_pos hlt]at HF1;rw [decide_eq_true hlt];clear hlt;go_enter Tryz.func102,Tryz.ntmps102;go_wp2_with fail;refine (HU.out _).mono ?_;rintro e w1 ⟨rfl,hb⟩;have HB1:=Lib.hid hb;clear hb;go_wp2_with fail;refine (HF1.out _ HB1.out).mono ?_;rintro e w2 ⟨rfl,hb⟩;have HB2:=Lib.hid (HB1.out.trans (hb.mono HB1.out.size));clear hb;go_wp2_with fail;go_ret;exact ⟨rfl,HB2.out⟩
  ·rw [if_neg hlt]at HF1;rw [decide_eq_false hlt];clear hlt;go_enter Tryz.func102,Tryz.ntmps102;go_wp2_with fail;refine (HU.out _).mono ?_;rintro e w1 ⟨rfl,hb⟩;have HB1:=Lib.hid hb;clear hb;go_wp2_with fail;refine (HF1.out _ HB1.out).mono ?_;rintro e w2 ⟨rfl,hb⟩;have HB2:=Lib.hid (HB1.out.trans (hb.mono HB1.out.size));clear hb;go_wp2_with fail;go_ret;exact ⟨rfl,HB2.out⟩
set_option maxHeartbeats 8000000 in
theorem fRun_ok (A:Option Addr) (n c:Nat) (l:List NodeV) (hn:l.length=n) (hc:SlOk A n c) (hsz: ∀x∈l,x.sz) (h40:n≤40) (hp: ∀x∈l,x.path.length≤1000) (A1:Option Addr) (n1 c1:Nat) (qs:List qb1) (hn1:qs.length=n1) (hn12:n1≤140737488355328) (hok:okR qs) (HX:qs≠ []→q21) (w:World) (hA:qaJ w A l) (hA1:qdV w A1 qs) (ht:qaO l=0) (hr:qh0 qs=0):
  Calls Tryz.prog 62 #[.slice A n c,.slice A1 n1 c1] w fun e w'=> ∃v xs,e= .returned (.tuple #[v,.int .i64 0])∧xs.map (·.1)=l.filter (fun x=>allF qs x.path)∧OwnN w' w.heap.size v xs∧Below w.heap.size w w':=by
 have H1:=Lib.hid fun W (h:Below w.heap.size w W)=>qcR A n c l hn hc hsz W (hA.below h);rw [ht]at H1;have H2:=Lib.hid fun W (h:Below w.heap.size w W)=>qu7 A1 n1 c1 qs hn1 hn12 hok HX W (hA1.below h);rw [hr]at H2;have H3:=Lib.hid fun (s:ByteArray) (hs:s.size≤1000) W (h:Below w.heap.size w W)=>q1U A1 n1 c1 qs hn1 hn12 hok HX s (by unfold maxLen;omega) W (hA1.below h);have HS:=Lib.hid ((qaT l).1 ht).2;have HSz:=Lib.hid hsz
 have HFin:Hid (∀(v:Value) (xs:List NodP) (W:World),RowN W w.heap.size v xs→xs.map (·.1)=l.filter (fun x=>allF qs x.path)→(∀y∈xs,qcZ w y.2 y.1.data)→Below w.heap.size w W→Calls Tryz.prog 73 #[v] W fun e w'=> ∃v xs,e= .returned v∧xs.map (·.1)=l.filter (fun x=>allF qs x.path)∧OwnN w' w.heap.size v xs∧Below w.heap.size w w'):=fun v xs W hR hmap hdy hB=>by
  obtain ⟨A9,c9,rfl,hs9,hN9⟩:=hR.at fun y hy=>(hdy y hy).below hB
  have hxl:xs.length≤40:=by
   have h1:=congrArg List.length hmap;rw [List.length_map]at h1;have:=List.length_filter_le (fun x:NodeV=>allF qs x.path) l;omega
  refine (qjX A9 xs.length c9 (xs.map (·.1)) (by rw [List.length_map]) (by omega) (fun x hx9=>by
   rw [hmap]at hx9
   exact hsz x (List.mem_filter.1 hx9).1) W hN9).mono ?_
  rintro e w' ⟨v,zs,rfl,h1,h2,h3⟩;exact ⟨v,zs,rfl,by rw [h1,hmap],h2.mono hB.size,hB.trans (h3.mono hB.size)⟩
 have HUp:Hid (∀(v:Value) (xs:List NodP) (W:World) (k:Nat) (hk:k<l.length) (s:ByteArray),s.size≤1000→s.data.toList=l[k].path→RowN W w.heap.size v xs→xs.map (·.1)=(l.take k).filter (fun x=>allF qs x.path)→(∀y∈xs,qcZ w y.2 y.1.data)→Below w.heap.size w W→
   Calls Tryz.prog 102 #[v,.string s] W fun e w'=>e= .returned (.bool (allF qs (upL l[k].path)))∧Below W.heap.size W w'):=fun v xs W k hk s hs1 hs2 hR hmap hdy hB=>by
  obtain ⟨A9,c9,rfl,hs9,hN9⟩:=hR.at fun y hy=>(hdy y hy).below hB;have hlen:xs.length=((l.take k).filter fun x=>allF qs x.path).length:=by rw [←hmap,List.length_map]
  have hle:((l.take k).filter fun x=>allF qs x.path).length≤l.length:=Nat.le_trans (List.length_filter_le _ _) (by rw [List.length_take];omega)
  refine (q6M A9 xs.length c9 (xs.map (·.1)) s hs1 (by rw [List.length_map]) (by omega) (fun x hx9=>by
   rw [hmap]at hx9
   exact hsz x (List.mem_of_mem_take (List.mem_filter.1 hx9).1)) W hN9).mono ?_
  rintro e w' ⟨rfl,h3⟩;refine ⟨?_,h3⟩;rw [hs2,hmap]
  by_cases hu:upL l[k].path= []
  ·rw [decide_eq_true hu,Bool.true_or,hu,qsX]
  ·rw [kept_up HS.out qs k hk hu _ hlen.symm,decide_eq_false hu,Bool.false_or]
 have HN:=Lib.hid hn;have HA:=Lib.hid hA;have HP:=Lib.hid hp;clear hn hc hsz hp hn1 hok hA hA1 ht hr;go_enter Tryz.func62,Tryz.ntmps62;go_wp2_with fail;refine (H1.out _ (Below.refl _ _)).mono ?_;rintro e x1 ⟨rfl,hb⟩;have HB1:=Lib.hid hb;clear hb;go_wp2_with fail;refine (H2.out _ HB1.out).mono ?_;rintro e x2 ⟨rfl,hb⟩;have HB2:=Lib.hid (HB1.out.trans (hb.mono HB1.out.size));clear hb HB1;go_wp2_with fail
 go_loopw [8,23] (fun ov iv wr=> ∃(k:Nat) (xs:List NodP),k≤n∧iv= .int .i64 k∧xs.length≤k∧Hid (RowN wr w.heap.size ov xs)∧Hid (xs.map (·.1)=(l.take k).filter fun x=>allF qs x.path)∧Hid (∀y∈xs,qcZ w y.2 y.1.data)∧Hid (Below w.heap.size w wr)) (fun _ iv _=>n-(intOf iv).toNat)
 case atStart=>exact ⟨0, [],Nat.zero_le _,rfl,Nat.zero_le _,RowN.nil _ _,(by unfold Hid;rw [List.take_zero];rfl),(fun y hy=>by cases hy),HB2.out⟩
 case round=>
  obtain ⟨k,xs,hk,rfl,hxl,HR,HM,HDT,HB⟩:=hrel
  by_cases hlt:k<n
  ·have hk1:k<l.length:=by rw [HN.out];exact hlt
   obtain ⟨b,o,E,cc,hbo,hb1,hSl,hE,hcl⟩:=HA.out.cells2 k hk1;subst hbo;obtain ⟨c0,c1,c2',c3,⟨c4,c5,c6,c7,c8,c9,cA⟩,cB⟩:=hcl wr HB.out;have hfs:=qxO (fun x:NodeV=>allF qs x.path) l k hk1;have hpl:=HP.out _ (List.getElem_mem hk1);have hU2:=fun W s h1 h2 h3 h4=>HUp.out u8 xs W k hk1 s h1 h2 h3 HM.out HDT.out h4
   have hne:l[k].path≠ []:=fun h=>by
    have h1:=qnB (HS.out.node _ (List.getElem_mem hk1));rw [h]at h1;exact absurd h1 (by decide+kernel)
   have hst:=qoN qs hne;generalize hy:l[k]=y at*;have HFs:=Lib.hid hfs;have HST:=Lib.hid hst;have HU2:=Lib.hid hU2;have HYD:Hid (qcZ w (.slice E y.data.length cc) y.data):=⟨E,cc,rfl,hSl,hE⟩;clear hy hcl hSl hE hb1 hfs hU2 hst hne;go_upto_region 11 with fail
   have HBl:=Lib.hid (Blk.new wr 49 #[.string (bs y.path),.int .i64 y.kind,.int .i64 y.same,.string (bs y.target),.int .i64 y.md.mode,.int .i64 y.md.uid,.int .i64 y.md.gid,.string (bs y.md.user),.string (bs y.md.group),.int .i64 y.md.second,.int .i64 y.md.nano,.slice E y.data.length cc]);have HBa:=Lib.hid (qaL HB.out (.cells #[.string (bs y.path),.int .i64 y.kind,.int .i64 y.same,.string (bs y.target),.int .i64 y.md.mode,.int .i64 y.md.uid,.int .i64 y.md.gid,.string (bs y.md.user),.string (bs y.md.group),.int .i64 y.md.second,.int .i64 y.md.nano,.slice E y.data.length cc] 49));have HRa:=Lib.hid (RowN.alloc HR.out (.cells #[.string (bs y.path),.int .i64 y.kind,.int .i64 y.same,.string (bs y.target),.int .i64 y.md.mode,.int .i64 y.md.uid,.int .i64 y.md.gid,.string (bs y.md.user),.string (bs y.md.group),.int .i64 y.md.second,.int .i64 y.md.nano,.slice E y.data.length cc] 49));generalize hwa:wr.alloc _=wa at HBl HBa HRa⊢;obtain ⟨g,hg⟩: ∃g,g=wr.heap.size:=⟨_,rfl⟩;rw [←hg]at HBl⊢;have hps:(bs y.path).size≤1000:=by rw [qaC];exact hpl
   have HU3:=Lib.hid fun W (h:Below wa.heap.size wa W)=>HU2.out W (bs y.path) hps (by rw [qaF]) (HRa.out.below h) (HBa.out.trans (h.mono HBa.out.size));have HT3:=Lib.hid fun W (h:Below wa.heap.size wa W)=>H3.out (bs y.path) hps W (HBa.out.trans (h.mono HBa.out.size));rw [qaF]at HT3;have hd0: ∀W,Below wa.heap.size wa W→W.cell? ⟨g,0,none⟩=some (.string (bs y.path)):=fun W h=>(HBl.out.below h HBl.out.lt).cell 0;have HD0:=Lib.hid hd0;obtain ⟨Y,HY⟩:=qaA (bs y.path);obtain ⟨q,hq⟩: ∃q,q=allF qs y.path:=⟨_,rfl⟩;rw [←hq]at HST HFs;obtain ⟨u,hu⟩: ∃u,u=allF qs (upL y.path):=⟨_,rfl⟩;rw [←hu]at HST HU3;obtain ⟨tk,htk⟩: ∃tk,tk=qeK qs y.path:=⟨_,rfl⟩;rw [←htk]at HST HT3;rw [HY.out]at HD0 HU3 HT3;clear hwa hg c0 c1 c2' c3 c4 c5 c6 c7 c8 c9 cA cB hd0 hq hu htk hps;have d0:=HD0.out wa (Below.refl _ _);cases u with
   |false=>
    have hq:q=false:=by have:=HST.out;rw [Bool.and_false]at this;exact this
    subst hq;have hfs:=HFs.out;rw [if_neg (by decide),List.append_nil]at hfs;have HM7:Hid (xs.map (·.1)=(l.take (k+1)).filter fun x=>allF qs x.path):=by unfold Hid;rw [hfs,HM.out]
    clear HST HFs HT3 hfs;go_wp2_with fail;refine (HU3.out _ (Below.refl _ _)).mono ?_;rintro e w6 ⟨rfl,hb6⟩;have HB6:=Lib.hid (HBa.out.trans (hb6.mono HBa.out.size));have HR6:=Lib.hid (HRa.out.below hb6);clear hb6 d0;go_wp2_with fail;go_roundw
    case rel=>exact ⟨k+1,xs,by omega,by go_num,by omega,HR6.out,HM7.out,HDT.out,HB6.out⟩
    case measure=>simp [intOf];omega
   |true=>
    have hq:q=tk:=by have:=HST.out;rw [Bool.and_true]at this;exact this
    subst hq;cases q with
    |false=>
     have hfs:=HFs.out;rw [if_neg (by decide),List.append_nil]at hfs;have HM7:Hid (xs.map (·.1)=(l.take (k+1)).filter fun x=>allF qs x.path):=by unfold Hid;rw [hfs,HM.out]
     clear HST HFs hfs;go_wp2_with fail;refine (HU3.out _ (Below.refl _ _)).mono ?_;rintro e w6 ⟨rfl,hb6⟩;have HBx:=Lib.hid hb6;have d1:=HD0.out w6 hb6;clear hb6 d0;go_wp2_with fail;refine (HT3.out _ HBx.out).mono ?_;rintro e w7 ⟨rfl,hb7⟩;have HBy:=Lib.hid (HBx.out.trans (hb7.mono HBx.out.size));have HB6:=Lib.hid (HBa.out.trans (HBy.out.mono HBa.out.size));have HR6:=Lib.hid (HRa.out.below HBy.out);clear hb7 d1;go_wp2_with fail;go_roundw
     case rel=>exact ⟨k+1,xs,by omega,by go_num,by omega,HR6.out,HM7.out,HDT.out,HB6.out⟩
     case measure=>simp [intOf];omega
    |true=>
     have hfs:=HFs.out;rw [if_pos rfl]at hfs;have HST:=Lib.hid hfs;clear HFs hfs;go_wp2_with fail;refine (HU3.out _ (Below.refl _ _)).mono ?_;rintro e w6 ⟨rfl,hb6⟩;have HBx:=Lib.hid hb6;have d1:=HD0.out w6 hb6;clear hb6 d0;go_wp2_with fail;refine (HT3.out _ HBx.out).mono ?_;rintro e w7 ⟨rfl,hb7⟩;have HBy:=Lib.hid (HBx.out.trans (hb7.mono HBx.out.size));have HB6:=Lib.hid (HBa.out.trans (HBy.out.mono HBa.out.size));have HR6:=Lib.hid (HRa.out.below HBy.out);have HBl6:=Lib.hid (HBl.out.below HBy.out HBl.out.lt);clear hb7 d1;obtain ⟨⟨e0,e1,e2,e3,e4,e5,e6,e7,e8,e9,eA,eB⟩,-⟩:=qbC HBl6.out;go_wp2_with (at_builtin;refine Stay.go ?_);refine Stay.on ?_;refine qcH rfl (.tmp 37) (.tmp 39) rfl w.heap.size _ xs rfl (HR6.out.alloc _) (some ⟨w7.heap.size,0,none⟩) 1 1 [(y,.slice E y.data.length cc)] rfl rfl (qg9 w7 (y,.slice E y.data.length cc)) (by simp [Value.oneCell']) (fun e=>by cases e) (by omega) (by simp;have:=HB6.out.size;omega) ?_;intro v8 w8 ho7 hg7;have HR7:=Lib.hid ho7;have HB7:Hid (Below w.heap.size w w8):=(HB6.out.alloc HB6.out.size _).grown hg7 (by rw [hszA];have:=HB6.out.size;omega) HR6.out.above
     have HM7:Hid ((xs++ [((y,.slice E y.data.length cc):NodP)]).map (·.1)=(l.take (k+1)).filter fun x=>allF qs x.path):=by
      unfold Hid;rw [HST.out,List.map_append,HM.out];rfl
     have HD7:Hid (∀z∈xs++ [((y,.slice E y.data.length cc):NodP)],qcZ w z.2 z.1.data):=fun z hz=>by
      rcases List.mem_append.1 hz with a|a
      ·exact HDT.out z a
      ·obtain rfl:z=(y,.slice E y.data.length cc):=by simpa using a
       exact HYD.out
     have hl7:(xs++ [((y,.slice E y.data.length cc):NodP)]).length≤k+1:=by rw [List.length_append,List.length_singleton];omega
     clear ho7 hg7 e0 e1 e2 e3 e4 e5 e6 e7 e8 e9 eA eB;go_wp2_with fail;go_roundw
     case rel=>exact ⟨k+1,_,by omega,by go_num,hl7,HR7.out,HM7.out,HD7.out,HB7.out⟩
     case measure=>simp [intOf];omega
  ·obtain rfl:k=n:=by omega
   have hm9:=HM.out;rw [List.take_of_length_le (by rw [HN.out];omega)]at hm9;have HC:=Lib.hid (HFin.out _ xs _ HR.out hm9 HDT.out HB.out);clear hm9;go_wp2_with fail;refine HC.out.mono ?_;rintro e w9 ⟨v,xs,rfl,h1,h2,h3⟩;have HV:=Lib.hid (And.intro h1 (And.intro h2 h3));clear h1 h2 h3;go_wp2_with fail;refine bodyPost_ret (v:= .tuple #[v,.int .i64 0]) (by simp [results,Tryz.results62,go_sem, *]) rfl ?_;exact ⟨v,xs,rfl,HV.out.1,HV.out.2.1,HV.out.2.2⟩
theorem q69 (A:Option Addr) (n c:Nat) (l:List NodeV) (hn:l.length=n) (hc:SlOk A n c) (hsz: ∀x∈l,x.sz) (A1:Option Addr) (n1 c1:Nat) (qs:List qb1) (hn1:qs.length=n1) (hn12:n1≤140737488355328) (hok:okR qs) (HX:qs≠ []→q21) (w:World) (hA:qaJ w A l) (hA1:qdV w A1 qs):
  Calls Tryz.prog 62 #[.slice A n c,.slice A1 n1 c1] w fun e w'=> ∃v xs,e= .returned (.tuple #[v,.int .i64 (runE l qs)])∧xs.map (·.1)=runL l qs∧OwnN w' w.heap.size v xs∧Below w.heap.size w w':=by
 have H1:=Lib.hid fun W (h:Below w.heap.size w W)=>qcR A n c l hn hc hsz W (hA.below h);have H2:=Lib.hid fun W (h:Below w.heap.size w W)=>qu7 A1 n1 c1 qs hn1 hn12 hok HX W (hA1.below h)
 by_cases ht:qaO l=0
 ·by_cases hr:qh0 qs=0
  ·have hE:runE l qs=0:=by unfold runE;rw [if_pos ht,hr]
   rw [hE,show runL l qs=l.filter (fun x=>allF qs x.path)from if_pos hE];obtain ⟨s1,s2⟩:=q0I ht;exact fRun_ok A n c l hn hc hsz (by omega) (fun x hx=>by have:=(s2 x hx).2;omega) A1 n1 c1 qs hn1 hn12 hok HX w hA hA1 ht hr
  ·have hE:runE l qs=qh0 qs:=by unfold runE;rw [if_pos ht]
   rw [hE,show runL l qs= []from if_neg (by rw [hE];exact hr)];rw [ht]at H1;obtain ⟨E,HEE⟩:=qaA (qh0 qs);rw [HEE.out]at H2 hr⊢;have hne:(E==0)=false:=by simpa using hr
   clear hn hc hsz hn1 hok hA hA1 ht hr hE;go_enter Tryz.func62,Tryz.ntmps62;go_wp2_with fail;refine (H1.out _ (Below.refl _ _)).mono ?_;rintro e x1 ⟨rfl,hb⟩;have HB1:=Lib.hid hb;clear hb;go_wp2_with fail;refine (H2.out _ HB1.out).mono ?_;rintro e x2 ⟨rfl,hb⟩;have HB2:=Lib.hid (HB1.out.trans (hb.mono HB1.out.size));clear hb HB1;go_wp2_with fail;refine bodyPost_ret (v:= .tuple #[.slice none 0 0,.int .i64 E]) (by simp [results,Tryz.results62,go_sem, *]) rfl ?_;exact ⟨_, [],rfl,rfl,OwnN.nil _ _,HB2.out⟩
 ·have hE:runE l qs=qaO l:=by unfold runE;rw [if_neg ht]
  rw [hE,show runL l qs= []from if_neg (by rw [hE];exact ht)];obtain ⟨E,HEE⟩:=qaA (qaO l);rw [HEE.out]at H1 ht⊢;have hne:(E==0)=false:=by simpa using ht
  clear hn hc hsz hn1 hok hA hA1 ht hE;go_enter Tryz.func62,Tryz.ntmps62;go_wp2_with fail;refine (H1.out _ (Below.refl _ _)).mono ?_;rintro e x1 ⟨rfl,hb⟩;have HB1:=Lib.hid hb;clear hb;go_wp2_with fail;refine bodyPost_ret (v:= .tuple #[.slice none 0 0,.int .i64 E]) (by simp [results,Tryz.results62,go_sem, *]) rfl ?_;exact ⟨_, [],rfl,rfl,OwnN.nil _ _,HB1.out⟩
end Go.Proofs.YtapgoifimhnbdaaGreatDoor
namespace Go.Proofs.YtapgoifimhnbdaaGreatDoor
open Go.RowKit
def selF (l:List NodeV) (qs:List qb1):List NodeV:=l.filter fun x=>allF qs x.path
theorem zaU {s:List UInt8} (h:qa6 s=0):upL s= []∨qa6 (upL s)=0:=by
 by_cases hu:upL s= []
 ·exact .inl hu
 ·right;have e:=qqV hu;obtain ⟨h1,h2,h3⟩:=qeN h;rw [e]at h2 h3
  have hl:(upL s).length≤s.length:=by
   conv=>rhs;rw [e]
   rw [List.length_append];omega
  rw [qdN,List.all_append,Bool.and_eq_true]at h3;rw [qiK,Bool.or_eq_false_iff]at h2;exact qi2 (by have:=List.length_pos_iff.2 hu;omega) h2.1 h3.1
theorem zc7 (qs:List qb1) (h: ∀s,qa6 s=0→qeK qs s=true): ∀(k:Nat) (s:List UInt8),s.length≤k→(s= []∨qa6 s=0)→allF qs s=true:=by
 intro k
 induction k with
 |zero=>
  intro s hs _;rw [List.eq_nil_of_length_eq_zero (Nat.le_zero.1 hs),qsX]
 |succ k ih=>
  intro s hs hp
  by_cases hn:s= []
  ·rw [hn,qsX]
  ·rcases hp with hp|hp
   ·exact absurd hp hn
   ·rw [qoN qs hn,h s hp,Bool.true_and];have:=qv4 hn;exact ih _ (by omega) (zaU hp)
theorem sel_all {l:List NodeV} (qs:List qb1) (hl: ∀x∈l,nodE x=0) (h: ∀s,qa6 s=0→qeK qs s=true):selF l qs=l:=by
 unfold selF;rw [List.filter_eq_self];intro x hx;exact zc7 qs h _ _ (Nat.le_refl _) (.inr (qnB (hl x hx)))
theorem qtO {l:List NodeV} (h:qeW l) (f:NodeV→Bool):qeW (l.filter f):=List.Pairwise.sublist List.filter_sublist h
theorem q4B {l:List NodeV} (h:Sound l) (qs:List qb1):Sound (selF l qs):=by
 refine ⟨qtO h.rises _,fun n hn=>h.node n (List.mem_filter.1 hn).1,fun n hn=> ?_,fun x hx y hy=>h.link x (List.mem_filter.1 hx).1 y (List.mem_filter.1 hy).1⟩;obtain ⟨hn1,hn2⟩:=List.mem_filter.1 hn;rcases h.up n hn1 with e|⟨d,hd,e1,e2⟩
 ·exact .inl e
 ·right;refine ⟨d,List.mem_filter.2 ⟨hd,?_⟩,e1,e2⟩;have hp:=qnB (h.node n hn1)
  have hne:n.path≠ []:=fun e=>by
   have:=(qeN hp).1;rw [e]at this;simp at this
  have hn3:allF qs n.path=true:=hn2;rw [qoN qs hne,Bool.and_eq_true]at hn3;show allF qs d.path=true;rw [e1];exact hn3.2
theorem q9R {l:List NodeV} (h:qaO l=0) (qs:List qb1):qaO (selF l qs)=0:=by
 obtain ⟨h1,h2⟩:=(qaT l).1 h;exact (qaT _).2 ⟨Nat.le_trans (List.length_filter_le _ _) h1,q4B h2 qs⟩
end Go.Proofs.YtapgoifimhnbdaaGreatDoor
