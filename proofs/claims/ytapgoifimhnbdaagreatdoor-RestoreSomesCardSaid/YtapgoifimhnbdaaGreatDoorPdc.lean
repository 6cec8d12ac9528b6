/- qaV of one kind, in one file: PadC, PadD. -/
import Derived.Test.YtapgoifimhnbdaaGreatDoorPda
import Derived.Deep.RegionWith
import Derived.Deep.RegionHeld3
import Derived.Deep.DeepCutAuto
import Derived.Deep.QuietTactic
set_option linter.unusedVariables false
set_option maxRecDepth 100000
namespace Go.Proofs.YtapgoifimhnbdaaGreatDoor
open Go.RowKit
open Go.OpenShut
theorem qkN:Tryz.prog.underlying 22=some (.slice (Tryz.prog.elem 22)):=by kernel_rfl
theorem quD: ∀W,(sizeOf (Tryz.prog.elem 22)).run Tryz.prog W= .ok 1 W:=by
 intro W;have e:Tryz.prog.elem 22=5:=by kernel_rfl
 rw [e];exact Tryz.sizeOf5 W
theorem qeI (W:World) (A:Option Addr) (n c k:Nat) (h:k≤c):(Instr.slice 22 (.slice A n c) none (some (.int .i64 (k:Int))) none).run Tryz.prog W= .ok (.slice A k c) W:=by
 rw [run_slice_h W 22 A n c qkN .i64 (k:Int) (by omega) (by omega),quD];have e:=q3Z A c;unfold cutA at e;simp [Result.andThen,sliced]at e⊢;exact e
theorem qbX (W:World) (A:Option Addr) (n c k:Nat) (h:k≤n):(Instr.slice 22 (.slice A n c) (some (.int .i64 (k:Int))) none none).run Tryz.prog W= .ok (.slice (cutA A c k) (n-k) (c-k)) W:=by
 rw [run_slice_l W 22 A n c qkN .i64 (k:Int) (by omega) (by omega),quD];simp [Result.andThen,sliced,cutA]
theorem ql1 (W:World) (A:Option Addr) (n c k e:Nat) (h:k≤e) (he:e≤c):(Instr.slice 22 (.slice A n c) (some (.int .i64 (k:Int))) (some (.int .i64 (e:Int))) none).run Tryz.prog W= .ok (.slice (cutA A c k) (e-k) (c-k)) W:=by
 rw [run_slice_lh W 22 A n c qkN .i64 .i64 (k:Int) (e:Int) (by omega) (by omega) (by omega),quD];simp [Result.andThen,sliced,cutA]
set_option maxHeartbeats 1000000 in
theorem Cut_any (A:Option Addr) (n c:Nat) (l:List UInt8) (x:Int) (hn:l.length=n) (hn2:n≤140737488351232) (hc:SlOk A n c) (w:World) (hA:qaE w A l):
  Calls Tryz.prog 209 #[.slice A n c,.int .i64 x] w fun e w'=> ∃v1 v2,e= .returned (.tuple #[v1,v2,.int .i64 (padC l x).2])∧OwnB w' w.heap.size v1 (padC l x).1.1∧OwnB w' w.heap.size v2 (padC l x).1.2∧Below w.heap.size w w':=by
 by_cases h:0≤x∧x<8589934592
 ·obtain ⟨k,rfl⟩:=Int.eq_ofNat_of_zero_le h.1;have hB:=Lib.hid fun W=>qkV (k:Int) W;rw [qiG h]at hB;have HR:=Lib.hid (qj4 (l:=l) h);have HF:=Lib.hid (qgU (l:=l) h);have HO:=Lib.hid (qj5 (l:=l) h);rw [Int.toNat_natCast]at hB HR HF HO;have hge:=qgT k;have hlt:=qdE k;obtain ⟨p,hp⟩:=qaA (padN k);rw [hp.out]at hB HR HF HO hge hlt;simp only at hB;have hk:k<8589934592:=by omega
  have hmul:IntKind.i64.wrap ((p:Int)*512)=((512*p:Nat):Int):=by rw [IntKind.wrap_i64];omega
  obtain ⟨e,he⟩: ∃e:Nat,e=512*p:=⟨_,rfl⟩;rw [←he]at HR HF HO hge hlt hmul;clear h he
  by_cases hs:n<e
  ·have HX:=Lib.hid (HR.out (by rw [hn];exact hs));rw [HX.out];go_enter Tryz.func209,Tryz.ntmps209;go_wp2_with fail;refine (hB.out _).mono ?_;rintro e' w' ⟨rfl,rfl⟩;go_wp2_with fail
   go_ret3
   exact ⟨_,_,rfl,OwnB.nil _ _,OwnB.nil _ _,Below.refl _ _⟩
  ·have hs':e≤n:=by omega
   have hnc:=hc.1;have s1:=fun W=>ql1 W A n c k e hge (by omega);have hlm:((l.take e).drop k).length=e-k:=by rw [List.length_drop,List.length_take];omega
   have hAt: ∀W,qaE W A l→qaE W (cutA A c k) ((l.take e).drop k):=fun W h=>by
    rw [List.drop_take];exact (h.cut (by omega) k (by omega)).take _
   have HZ:=Lib.hid (qh3 (cutA A c k) (e-k) (c-k) _ hlm (by omega) w (hAt w hA));cases hz:allZ ((l.take e).drop k)
   ·have HX:=Lib.hid (HF.out (by rw [hn];exact hs') hz);rw [HX.out];rw [hz]at HZ;obtain ⟨a1,ha1⟩:=qaA (cutA A c k);obtain ⟨n1,hn1⟩:=qaA (e-k);obtain ⟨c1,hc1⟩:=qaA (c-k);rw [ha1.out,hn1.out,hc1.out]at HZ;simp only [ha1.out,hn1.out,hc1.out]at s1;clear hz hAt hlm hn hA hge hlt hk hs' hnc hn2 hc;go_enter Tryz.func209,Tryz.ntmps209;go_wp2_with fail;refine (hB.out _).mono ?_;rintro e' w' ⟨rfl,rfl⟩;go_wp2_with fail;refine HZ.out.mono ?_;rintro e' w' ⟨rfl,rfl⟩;go_wp2_with fail
    go_ret3
    exact ⟨_,_,rfl,OwnB.nil _ _,OwnB.nil _ _,Below.refl _ _⟩
   ·have HX:=Lib.hid (HO.out (by rw [hn];exact hs') hz);rw [HX.out];rw [hz]at HZ;have s2:=fun W=>qeI W A n c k (by omega);have s3:=fun W=>qbX W A n c e hs';have HC1:Hid (∀W,qaE W A l→Calls Tryz.prog 169 #[.slice A k c] W fun e w'=> ∃v,e= .returned v∧OwnB w' W.heap.size v (l.take k)∧Below W.heap.size W w'):=fun W h=>qhE A k c (l.take k) (by rw [List.length_take];omega) (by omega) W (h.take k);have HC2:Hid (∀W,qaE W A l→Calls Tryz.prog 169 #[.slice (cutA A c e) (n-e) (c-e)] W fun e' w'=> ∃v,e'= .returned v∧OwnB w' W.heap.size v (l.drop e)∧Below W.heap.size W w'):=fun W h=>qhE (cutA A c e) (n-e) (c-e) (l.drop e) (by rw [List.length_drop];omega) (by omega) W (h.cut (by omega) e (by omega));have HA:=Lib.hid fun W (h:Below w.heap.size w W)=>hA.below h;obtain ⟨a1,ha1⟩:=qaA (cutA A c k);obtain ⟨n1,hn1⟩:=qaA (e-k);obtain ⟨c1,hc1⟩:=qaA (c-k);obtain ⟨a2,ha2⟩:=qaA (cutA A c e);obtain ⟨n2,hn2⟩:=qaA (n-e);obtain ⟨c2,hc2⟩:=qaA (c-e);rw [ha1.out,hn1.out,hc1.out]at HZ;rw [ha2.out,hn2.out,hc2.out]at HC2;simp only [ha1.out,hn1.out,hc1.out]at s1;simp only [ha2.out,hn2.out,hc2.out]at s3;clear hz hAt hlm hn hA hge hlt hk hs' hnc hn2 hc;go_enter Tryz.func209,Tryz.ntmps209;go_wp2_with fail;refine (hB.out _).mono ?_;rintro e' w' ⟨rfl,rfl⟩;go_wp2_with fail;refine HZ.out.mono ?_;rintro e' w' ⟨rfl,rfl⟩;go_upto_region 9 with fail
    have hD:qaE w.drew A l:=HA.out _ (Below.refl _ _).drew
    go_region_with
     (first
      |(go_at_call 169;(have F1:=hb1);refine (HC2.out _ (HA.out _ F1)).mono ?_;rintro e' w2 ⟨v2,rfl,hO2,hb2⟩)
      |(go_at_call 169;refine (HC1.out _ hD).mono ?_;rintro e' w1 ⟨v1,rfl,hO1,hb1'⟩;have hb1:Below w.heap.size w w1:=((Below.refl w.heap.size w).drew.trans (show Below w.heap.size w.drew w1 from hb1'));clear hb1'))
    all_goals
     go_wp2_with fail
     go_ret3
     exact ⟨_,_,rfl,hO1.below hb2,hO2.mono hb1.size,hb1.trans (hb2.mono hb1.size)⟩
 ·rw [qe5 h];have hB:=Lib.hid fun W=>qkV x W;rw [qmI h]at hB;clear h;go_enter Tryz.func209,Tryz.ntmps209;go_wp2_with fail;refine (hB.out _).mono ?_;rintro e w' ⟨rfl,rfl⟩;go_wp2_with fail
  go_ret3
  exact ⟨_,_,rfl,OwnB.nil _ _,OwnB.nil _ _,Below.refl _ _⟩
theorem q4B (l:List UInt8) (k i:Nat) (hi:k≤i) (hl:i<l.length) (h:allZ ((l.take i).drop k)=true) (hz:l[i]=0):allZ ((l.take (i+1)).drop k)=true:=by
 rw [List.take_succ_eq_append_getElem hl,List.drop_append_of_le_length (by rw [List.length_take];omega),qnR,h,hz];rfl
theorem q4A (l:List UInt8) (k e i:Nat) (hi:k≤i) (he:i<e) (hl:i<l.length) (hz:l[i]≠0):allZ ((l.take e).drop k)=false:=by
 refine qkS _ (i-k) (by rw [List.length_drop,List.length_take];omega) ?_;rw [List.getElem_drop,List.getElem_take];simpa only [show k+(i-k)=i by omega]using hz
theorem qzU {W:World} {o:Obj} {g:Nat} (h:g=W.heap.size):(W.alloc o).heap[g]?=some o:=by subst h;exact heap_alloc_new W o
theorem alloc_old {W:World} {o x:Obj} {g:Nat} (h:W.heap[g]?=some x):(W.alloc o).heap[g]?=some x:=by
 have hlt:g<W.heap.size:=(Array.getElem?_eq_some_iff.1 h).1;exact ((World.grownBy_alloc W o none).block g hlt (by simp)).trans h
def qgB (g:Nat) (W:World):Prop:=W.heap[g]?=some (.cells #[] 5 (0,0))
theorem qgB.new {g:Nat} {W:World} (h:g=W.heap.size):qgB g (W.alloc (.cells #[] 5)):=qzU h
theorem qgB.old {g:Nat} {W:World} (h:qgB g W) (o:Obj):qgB g (W.alloc o):=alloc_old h
theorem qgB.drew {g:Nat} {W:World} (h:qgB g W):qgB g W.drew:=h
theorem qgB.kept {g g1:Nat} {W W':World} (h:qgB g W) (hk: ∀k,k<W.heap.size→k≠g1→W'.heap[k]?=W.heap[k]?) (hne:g≠g1):qgB g W':=
 (hk g (Array.getElem?_eq_some_iff.1 h).1 hne).trans h
theorem qe0 {w:World} {ops:Array Oper} {o:Oper} {a:Act} {K:Act→World→Prop} {Q:Exit→Act→World→Prop} {E:Prop} (hgd:o.guard=none) (s x:Operand)
  (ho:o.op= .call {callee:= .builtin .append,args:= #[s,x],argTypes:= #[22,22] }) (B g:Nat) (hs:a.eval s= .slice (some ⟨g,0,none⟩) 0 0) (hg:qgB g w) (hBg:B≤g)
  (A:Option Addr) (m c:Nat) (l:List UInt8) (hx:a.eval x= .slice A m c) (hl:l.length=m) (hA:qaE w A l) (hc:A=none→c=0) (hbig:m≤140737488355328) (hB:B≤w.heap.size)
  (h: ∀v' w',OwnB w' B v' l→(∀w0,Below B w0 w→Below B w0 w')→(∀k,k<w.heap.size→k≠g→w'.heap[k]?=w.heap[k]?)→(v'.ownBlock=some g∨v'.ownBlock=some w.heap.size)→K (a.put o.dst v') w'):
  if Region.wanted o (yielded ops a.tmps)=true then Oper.wp Tryz.prog o a w K Q else E:=by
 have hw:Region.wanted o (yielded ops a.tmps)=true:=by simp [Region.wanted,hgd]
 rw [if_pos hw];obtain ⟨i0,hi,hz0,hz1,hz2⟩:=info_parts qeM;have hown:w.ownsRow B 5 1 (.slice (some ⟨g,0,none⟩) 0 0) 0 []:=⟨by simp,.inr ⟨g,0, #[],rfl,hBg,hg,Nat.le_refl _,by decide,rfl,rfl⟩⟩;cases A with
 |none=>
  obtain rfl:=hA.none_nil;obtain rfl:m=0:=by rw [←hl];rfl
  obtain rfl:=hc rfl;have hrun:=run_append_owned_none (P:=Tryz.prog) (w:=w) B 22 o.type 5 i0 1 Tryz.underlying22 hi _ _ _ hown;unfold Oper.wp;simp [execOp,ho,resolve,invoke,builtin,hs,hx,hrun,Result.andThen];exact h _ w hown (fun _ h=>h) (fun _ _ _=>rfl) (.inl rfl)
 |some ad=>
  obtain ⟨v6,w6,hrun,hown6,hgrow,_,h5⟩:=run_append_own_at (P:=Tryz.prog) w B 22 o.type 5 i0 _ 1 1 Tryz.underlying22 hi hz0 hz1 hz2 rfl (by decide) _ _ _ hown ad m c (qaX l) (by rw [bCells_length,hl,Nat.mul_one]) hA.news (qfI _) (by unfold maxLen;omega) (by omega) hB;unfold Oper.wp execOp;simp only [ho,resolve,invoke,builtin,Sem.run_bind,Sem.run_pure,Result.andThen_ok,List.map_toArray,List.map_cons,List.map_nil,hs,hx,hrun];exact h v6 w6 (by unfold OwnB;simpa [hl]using hown6) (fun w0 hb=>hb.grown hgrow hB (fun g e=>(World.ownsRow.lt hown g e).1)) (fun k hk hne=>hgrow.block k hk (by simp [Value.ownBlock];omega)) h5
theorem OwnB.kept {w w':World} {B g:Nat} {v:Value} {l:List UInt8} (h:OwnB w B v l) (hk: ∀k,k<w.heap.size→k≠g→w'.heap[k]?=w.heap[k]?) (hne: ∀k,v.ownBlock=some k→k≠g):OwnB w' B v l:=
 qc7 h fun k e=>hk k (World.ownsRow.lt h k e).2 (hne k e)
set_option maxHeartbeats 1000000 in
theorem q5P (A:Option Addr) (n c:Nat) (l:List UInt8) (x:Int) (hn:l.length=n) (hn2:n≤140737488351232) (hc:SlOk A n c) (w:World) (hA:qaE w A l):
  Calls Tryz.prog 214 #[.slice A n c,.int .i64 x] w fun e w'=> ∃v1 v2,e= .returned (.tuple #[v1,v2,.int .i64 (padC l x).2])∧OwnB w' w.heap.size v1 (padC l x).1.1∧OwnB w' w.heap.size v2 (padC l x).1.2∧Below w.heap.size w w':=by
 by_cases h:0≤x∧x<8589934592
 ·obtain ⟨k,rfl⟩:=Int.eq_ofNat_of_zero_le h.1;have hB:=Lib.hid fun W=>qmC (k:Int) W;rw [qiG h]at hB;have HR:=Lib.hid (qj4 (l:=l) h);have HF:=Lib.hid (qgU (l:=l) h);have HO:=Lib.hid (qj5 (l:=l) h);rw [Int.toNat_natCast]at hB HR HF HO;obtain ⟨R,hRR⟩:=qaA (padC l (k:Int));rw [hRR.out]at HR HF HO⊢;clear hRR;have hge:=qgT k;have hlt:=qdE k;obtain ⟨p,hp⟩:=qaA (padN k);rw [hp.out]at hB HR HF HO hge hlt;simp only at hB;have hmul:IntKind.i64.wrap (512*(p:Int))=((512*p:Nat):Int):=by rw [IntKind.wrap_i64];omega
  obtain ⟨e,he⟩: ∃e:Nat,e=512*p:=⟨_,rfl⟩;rw [←he]at HR HF HO hge hlt hmul;obtain ⟨m,hm⟩: ∃m:Nat,n/512=m:=⟨_,rfl⟩;have hdv:(n:Int) /512=(m:Int):=by omega
  have hmb:m≤274877906944:=by omega
  by_cases hs:n<e
  ·have HX:=Lib.hid (HR.out (by rw [hn];exact hs));have hq:m<p:=by omega
   rw [HX.out];clear h he hs hge hlt hm hn2;go_enter Tryz.func214,Tryz.ntmps214;go_wp2_with fail;refine (hB.out _).mono ?_;rintro e' w' ⟨rfl,rfl⟩;go_wp2_with fail
   go_ret3
   exact ⟨_,_,rfl,OwnB.nil _ _,OwnB.nil _ _,Below.refl _ _⟩
  ·have hq: ¬m<p:=by omega
   have hen:e≤n:=by omega
   have hnc:=hc.1;have HF2:=Lib.hid (HF.out (by omega));have HO2:=Lib.hid (HO.out (by omega));have HN:=Lib.hid hn;have HA:=Lib.hid hA;have HC:=Lib.hid hc;have s2:=fun W=>qeI W A n c k (by omega);have s3:=fun W=>qbX W A n c e (by omega);obtain ⟨a2,ha2⟩:=qaA (cutA A c e);obtain ⟨n2,hn2'⟩:=qaA (n-e);obtain ⟨c2,hc2⟩:=qaA (c-e);simp only [ha2.out,hn2'.out,hc2.out]at s3;clear h he hs hn hA hc HR HF HO hnc hm;go_enter Tryz.func214,Tryz.ntmps214;go_wp2_with fail;refine (hB.out _).mono ?_;rintro e' w' ⟨rfl,rfl⟩;go_wp2_with fail
   go_loop [9] (fun i=> ∃j:Nat,k≤j∧j≤e∧i= .int .i64 j∧Hid (allZ ((l.take j).drop k)=true)) (fun i=>e-(intOf i).toNat)
   case atStart=>exact ⟨k,Nat.le_refl _,hge,rfl,by unfold Hid;rw [List.drop_take,Nat.sub_self,List.take_zero];rfl⟩
   case round=>
    obtain ⟨j,hkj,hje,rfl,hz⟩:=hrel
    by_cases hlt':j<e
    ·have hjl:j<l.length:=by rw [HN.out];omega
     obtain ⟨b,o,rfl,hcell⟩:=HA.out j hjl;have h8:=l[j].toNat_lt
     by_cases h0:l[j]=0
     ·have h00:(l[j].toNat:Int)=0:=by rw [h0];rfl
      have H1:=Lib.hid (q4B l k j hkj hjl hz.out h0);rw [h00]at hcell;clear h00 h0 h8;go_wp2_with fail;go_round
      case rel=>exact ⟨j+1,by omega,by omega,by go_num,H1⟩
      case measure=>simp [intOf];omega
     ·have hne: ¬(l[j].toNat:Int)=0:=fun e=>h0 (by apply UInt8.toNat_inj.1;rw [show (0:UInt8).toNat=0 from rfl];omega);have HV:=Lib.hid (HF2.out (q4A l k e j hkj hlt' hjl h0));obtain ⟨x,hx⟩: ∃x:Int,x=(l[j].toNat:Int):=⟨_,rfl⟩;rw [←hx]at hcell hne;clear hx h0 h8;go_wp2_with fail
      go_ret3
      rw [HV.out];exact ⟨_,_,rfl,OwnB.nil _ _,OwnB.nil _ _,Below.refl _ _⟩
    ·obtain rfl:j=e:=by omega
     have hjn:=hen;have HV:=Lib.hid (HO2.out hz.out);go_upto_region 11 with fail
     have hc0:A=none→c=0:=HC.out.2.2
     have hc2':a2=none→c2=0:=by
      have h1:=HC.out.cut j hjn 0 (by have:=HC.out.1;omega);rw [ha2.out,hc2.out]at h1;exact h1.2.2
     have L1:Hid ((l.take k).length=k):=by unfold Hid;rw [List.length_take,HN.out];omega
     have L2:Hid ((l.drop j).length=n2):=by unfold Hid;rw [List.length_drop,HN.out];exact hn2'.out
     have M1:k≤140737488355328:=by omega
     have M2:n2≤140737488355328:=by have:=hn2'.out;omega
     have B1:Hid (∀W,Below w.heap.size w W→qaE W A (l.take k)):=fun W h=>(HA.out.below h).take k;have B2:Hid (∀W,Below w.heap.size w W→qaE W a2 (l.drop j)):=fun W h=>by rw [←ha2.out];exact (HA.out.below h).cut (by have:=HC.out.1;rw [HN.out];exact this) j (by rw [HN.out];exact hjn)
     have hS0:Below w.heap.size w w:=Below.refl _ _
     go_region_held3 (fun W=>Below w.heap.size w W)
      (repeat (first|(with_reducible assumption)|(with_reducible exact Below.refl _ _)|(with_reducible refine Below.drew ?_)|(with_reducible refine qbF ?_ _)))
      (first
       |(refine qe0 rfl (.tmp 35) (.tmp 38) rfl w.heap.size _ rfl (by repeat (first|(with_reducible refine qgB.drew ?_)|exact qgB.new (by first|omega|(simp only [hszA];done)|(simp only [hszA];omega))|(with_reducible refine qgB.old ?_ _))) (by first|omega|(simp only [hszA,hszD];done)|(simp only [hszA,hszD];omega)) A k c (l.take k) rfl L1.out (B1.out _ (by repeat (first|(with_reducible assumption)|(with_reducible exact Below.refl _ _)|(with_reducible refine Below.drew ?_)|(with_reducible refine qbF ?_ _)))) hc0 M1 (by first|omega|(simp only [hszA,hszD];done)|(simp only [hszA,hszD];omega)) ?_;intro v1 w1 ho1 hb1 hk1 hv1;have hB1:Below w.heap.size w w1:=hb1 w (by repeat (first|(with_reducible assumption)|(with_reducible exact Below.refl _ _)|(with_reducible refine Below.drew ?_)|(with_reducible refine qbF ?_ _))))
       |(have hsz1:=hB1.size;refine qe0 rfl (.tmp 40) (.tmp 44) rfl w.heap.size _ rfl (by repeat (first|(with_reducible refine qgB.drew ?_)|exact qgB.new (by first|omega|(simp only [hszA];done)|(simp only [hszA];omega))|(with_reducible refine qgB.old ?_ _)|(refine qgB.kept ?_ hk1 (by first|omega|(simp only [hszA,hszD];done)|(simp only [hszA,hszD];omega))))) (by first|omega|(simp only [hszA,hszD];done)|(simp only [hszA,hszD];omega)) a2 n2 c2 (l.drop j) rfl L2.out (B2.out _ (by repeat (first|(with_reducible assumption)|(with_reducible exact Below.refl _ _)|(with_reducible refine Below.drew ?_)|(with_reducible refine qbF ?_ _)))) hc2' M2 (by first|omega|(simp only [hszA];done)|(simp only [hszA];omega)) ?_;intro v2 w2 ho2 hb2 hk2 hv2;have hB2:Below w.heap.size w w2:=hb2 w (by repeat (first|(with_reducible assumption)|(with_reducible exact Below.refl _ _)|(with_reducible refine Below.drew ?_)|(with_reducible refine qbF ?_ _)));have ho3:OwnB w2 w.heap.size v1 (l.take k):=OwnB.kept (by repeat (first|exact ho1|(with_reducible refine OwnB.drew ?_)|(with_reducible refine OwnB.alloc ?_ _))) hk2 (by intro q hq;have hlt:=(World.ownsRow.lt ho1 q hq).2;rcases hv1 with e|e<;>(rw [hq]at e;injection e with e;(try simp only [hszA,hszD]at e);(try simp only [hszA,hszD]at hlt);first|omega|(simp only [hszA,hszD];omega)))))
     all_goals
      go_wp2_with fail
      go_ret3
      rw [HV.out];exact ⟨_,_,rfl,ho3,ho2,hB2⟩
 ·rw [qe5 h];have hB:=Lib.hid fun W=>qmC x W;rw [qmI h]at hB;clear h;go_enter Tryz.func214,Tryz.ntmps214;go_wp2_with fail;refine (hB.out _).mono ?_;rintro e w' ⟨rfl,rfl⟩;go_wp2_with fail
  go_ret3
  exact ⟨_,_,rfl,OwnB.nil _ _,OwnB.nil _ _,Below.refl _ _⟩
end Go.Proofs.YtapgoifimhnbdaaGreatDoor
