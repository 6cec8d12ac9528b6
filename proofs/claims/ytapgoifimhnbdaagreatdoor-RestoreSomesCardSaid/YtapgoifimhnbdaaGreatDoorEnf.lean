/- qaV of one kind, in one file: EntF, NodF, TrgE, EntT, NodG, EntG, TrgF, EntI. -/
import Derived.Test.YtapgoifimhnbdaaGreatDoorEne
import Derived.Deep.DeepCutAuto
import Derived.Test.YtapgoifimhnbdaaGreatDoorFld
import Derived.Laws.MakeOwn
import Derived.Below
import Derived.Test.YtapgoifimhnbdaaGreatDoorEnc
import Derived.Test.YtapgoifimhnbdaaGreatDoorPth
import Derived.Deep.RegionHeld3
import Derived.Deep.QuietTactic
import Derived.BigQuiet
set_option linter.unusedVariables false
set_option maxRecDepth 100000
namespace Go.Proofs.YtapgoifimhnbdaaGreatDoor
open Go.RowKit
open Go.OpenShut
set_option maxHeartbeats 4000000 in
theorem qrM (f:Nat) (hf: ∀(x y:NodeV) (D E:Option Addr) (c d:Nat) (w:World),qaE w D x.data→qaE w E y.data→Calls Tryz.prog f #[.agg (nodC x D c).toArray,.agg (nodC y E d).toArray] w fun e w'=>e= .returned (.bool (decide (x=y)))∧Below w.heap.size w w')
  (ef: ∀args w,(callFunc f args).run Tryz.prog w= .ok (.enter f args) w)
  (A A2:Option Addr) (n c n2 c2:Nat) (l l2:List NodeV) (hn:l.length=n) (hn2:l2.length=n2) (hm:n≤140737488355328) (hm2:n2≤140737488355328) (w:World) (hA:qb3 w A l) (hA2:qb3 w A2 l2):
  Calls Tryz.prog 30 #[.slice A n c,.slice A2 n2 c2,.func (.func f) #[] #[]] w fun e w'=>e= .returned (.bool (decide (l=l2)))∧Below w.heap.size w w':=by
 have HN:=Lib.hid hn;have HN2:=Lib.hid hn2;have HA:=Lib.hid hA;have HA2:=Lib.hid hA2;have HF:=Lib.hid hf;clear hn hn2 hA hA2 hf
 by_cases hne:n=n2
 ·subst hne;go_enter Tryz.func30,Tryz.ntmps30;go_wp2_with fail
  go_loopw [17] (fun i wr=> ∃k:Nat,k≤n∧i= .int .i64 k∧Hid (l.take k=l2.take k)∧Hid (Below w.heap.size w wr)) (fun i _=>n-(intOf i).toNat)
  case atStart=>exact ⟨0,Nat.zero_le _,rfl,by unfold Hid;simp,Below.refl _ _⟩
  case round=>
   obtain ⟨k,hk,rfl,HE,HB⟩:=hrel
   by_cases hlt:k<n
   ·have hk1:k<l.length:=by rw [HN.out];exact hlt
    have hk2:k<l2.length:=by rw [HN2.out];exact hlt
    obtain ⟨b,o,D,cc,rfl,c0,c1,c2',c3,⟨c4,c5,c6,c7,c8,c9,cA⟩,cB,-,hD⟩:=(HA.out.below HB.out).cells k hk1;obtain ⟨b2,o2,D2,cc2,rfl,d0,d1,d2,d3,⟨d4,d5,d6,d7,d8,d9,dA⟩,dB,-,hD2⟩:=(HA2.out.below HB.out).cells k hk2;have hb1:b<wr.heap.size:=World.block_lt_of_cell? wr _ c0;have hb2:b2<wr.heap.size:=World.block_lt_of_cell? wr _ d0;have hne1:b2≠wr.heap.size:=by omega
    generalize hx:l[k]=x at*;generalize hy:l2[k]=y at*;have HC:=Lib.hid fun W h h'=>HF.out x y D D2 cc cc2 W h h';unfold nodC at HC;have HD:=Lib.hid hD;have HD2:=Lib.hid hD2;clear hD hD2
    by_cases e:x=y
    ·have HE2:Hid (l.take (k+1)=l2.take (k+1)):=by
      unfold Hid;rw [List.take_succ_eq_append_getElem hk1,List.take_succ_eq_append_getElem hk2,HE.out,hx,hy,e]
     rw [decide_eq_true e]at HC;clear e hx hy;go_upto_region 7 with fail
     generalize hwa:(wr.alloc _).alloc _=wa;have HBa:Hid (Below wr.heap.size wr wa):=by rw [←hwa];exact qbF (qbF (Below.refl _ _) _) _
     have HBl1:=Blk.alloc (Blk.new wr 49 #[.string (bs x.path),.int .i64 x.kind,.int .i64 x.same,.string (bs x.target),.int .i64 x.md.mode,.int .i64 x.md.uid,.int .i64 x.md.gid,.string (bs x.md.user),.string (bs x.md.group),.int .i64 x.md.second,.int .i64 x.md.nano,.slice D x.data.length cc]) (.cells #[.string (bs y.path),.int .i64 y.kind,.int .i64 y.same,.string (bs y.target),.int .i64 y.md.mode,.int .i64 y.md.uid,.int .i64 y.md.gid,.string (bs y.md.user),.string (bs y.md.group),.int .i64 y.md.second,.int .i64 y.md.nano,.slice D2 y.data.length cc2] 49);have HBl2:=Blk.new (wr.alloc (.cells #[.string (bs x.path),.int .i64 x.kind,.int .i64 x.same,.string (bs x.target),.int .i64 x.md.mode,.int .i64 x.md.uid,.int .i64 x.md.gid,.string (bs x.md.user),.string (bs x.md.group),.int .i64 x.md.second,.int .i64 x.md.nano,.slice D x.data.length cc] 49)) 49 #[.string (bs y.path),.int .i64 y.kind,.int .i64 y.same,.string (bs y.target),.int .i64 y.md.mode,.int .i64 y.md.uid,.int .i64 y.md.gid,.string (bs y.md.user),.string (bs y.md.group),.int .i64 y.md.second,.int .i64 y.md.nano,.slice D2 y.data.length cc2];rw [hwa]at HBl1 HBl2;rw [hszA]at HBl2;obtain ⟨e0,e1,e2,e3,e4,e5,e6,e7,e8,e9,eA,eB⟩:=qeX HBl1;obtain ⟨g0,g1,g2,g3,g4,g5,g6,g7,g8,g9,gA,gB⟩:=qeX HBl2;clear hwa c0 c1 c2' c3 c4 c5 c6 c7 c8 c9 cA cB d0 d1 d2 d3 d4 d5 d6 d7 d8 d9 dA dB HBl1 HBl2;go_wp2_with fail;refine (HC.out _ (HD.out.below HBa.out) (HD2.out.below HBa.out)).mono ?_;rintro e' w4 ⟨rfl,hb4⟩
     have HB4:=Lib.hid (HB.out.trans ((HBa.out.trans (hb4.mono HBa.out.size)).mono HB.out.size));clear hb4 e0 e1 e2 e3 e4 e5 e6 e7 e8 e9 eA eB g0 g1 g2 g3 g4 g5 g6 g7 g8 g9 gA gB;go_wp2_with fail;go_roundw
     case rel=>exact ⟨k+1,by omega,by go_num,HE2,HB4⟩
     case measure=>simp [intOf];omega
    ·have HV:Hid (decide (l=l2)=false):=decide_eq_false (fun e2=>e (by rw [←hx,←hy];subst e2;rfl));rw [decide_eq_false e]at HC;clear e hx hy;go_upto_region 7 with fail
     generalize hwa:(wr.alloc _).alloc _=wa;have HBa:Hid (Below wr.heap.size wr wa):=by rw [←hwa];exact qbF (qbF (Below.refl _ _) _) _
     have HBl1:=Blk.alloc (Blk.new wr 49 #[.string (bs x.path),.int .i64 x.kind,.int .i64 x.same,.string (bs x.target),.int .i64 x.md.mode,.int .i64 x.md.uid,.int .i64 x.md.gid,.string (bs x.md.user),.string (bs x.md.group),.int .i64 x.md.second,.int .i64 x.md.nano,.slice D x.data.length cc]) (.cells #[.string (bs y.path),.int .i64 y.kind,.int .i64 y.same,.string (bs y.target),.int .i64 y.md.mode,.int .i64 y.md.uid,.int .i64 y.md.gid,.string (bs y.md.user),.string (bs y.md.group),.int .i64 y.md.second,.int .i64 y.md.nano,.slice D2 y.data.length cc2] 49);have HBl2:=Blk.new (wr.alloc (.cells #[.string (bs x.path),.int .i64 x.kind,.int .i64 x.same,.string (bs x.target),.int .i64 x.md.mode,.int .i64 x.md.uid,.int .i64 x.md.gid,.string (bs x.md.user),.string (bs x.md.group),.int .i64 x.md.second,.int .i64 x.md.nano,.slice D x.data.length cc] 49)) 49 #[.string (bs y.path),.int .i64 y.kind,.int .i64 y.same,.string (bs y.target),.int .i64 y.md.mode,.int .i64 y.md.uid,.int .i64 y.md.gid,.string (bs y.md.user),.string (bs y.md.group),.int .i64 y.md.second,.int .i64 y.md.nano,.slice D2 y.data.length cc2];rw [hwa]at HBl1 HBl2;rw [hszA]at HBl2;obtain ⟨e0,e1,e2,e3,e4,e5,e6,e7,e8,e9,eA,eB⟩:=qeX HBl1;obtain ⟨g0,g1,g2,g3,g4,g5,g6,g7,g8,g9,gA,gB⟩:=qeX HBl2;clear hwa c0 c1 c2' c3 c4 c5 c6 c7 c8 c9 cA cB d0 d1 d2 d3 d4 d5 d6 d7 d8 d9 dA dB HBl1 HBl2;go_wp2_with fail;refine (HC.out _ (HD.out.below HBa.out) (HD2.out.below HBa.out)).mono ?_;rintro e' w4 ⟨rfl,hb4⟩
     have HB4:=Lib.hid (HB.out.trans ((HBa.out.trans (hb4.mono HBa.out.size)).mono HB.out.size));clear hb4 e0 e1 e2 e3 e4 e5 e6 e7 e8 e9 eA eB g0 g1 g2 g3 g4 g5 g6 g7 g8 g9 gA gB;go_wp2_with fail;go_ret;exact ⟨qa7 HV.out.symm,HB4.out⟩
   ·obtain rfl:k=n:=by omega
    have HV:Hid (decide (l=l2)=true):=by
     have:=HE.out;rw [List.take_of_length_le (by rw [HN.out];omega),List.take_of_length_le (by rw [HN2.out];omega)]at this;exact decide_eq_true this
    go_wp2_with fail;go_ret;exact ⟨qa7 HV.out.symm,HB.out⟩
 ·have HV:Hid (decide (l=l2)=false):=decide_eq_false (fun e=>hne (by rw [←HN.out,←HN2.out,e]));have hne2:((n:Int) !=(n2:Int))=true:=by simp;omega
  clear hne;go_enter Tryz.func30,Tryz.ntmps30;go_wp2_with fail;go_ret;exact ⟨qa7 HV.out.symm,Below.refl _ _⟩
theorem qkY (A A2:Option Addr) (n c n2 c2:Nat) (l l2:List NodeV) (hn:l.length=n) (hn2:l2.length=n2) (hm:n≤140737488355328) (hm2:n2≤140737488355328) (w:World) (hA:qb3 w A l) (hA2:qb3 w A2 l2):
  Calls Tryz.prog 11 #[.slice A n c,.slice A2 n2 c2] w fun e w'=>e= .returned (.bool (decide (l=l2)))∧Below w.heap.size w w':=by
 go_enter Tryz.func11,Tryz.ntmps11;go_wp2_with fail;refine (qrM 31 (fun x y D E c d w=>qr8 x y D E c d w) (enters_of Tryz.func31 (by kernel_rfl) rfl) A A2 n c n2 c2 l l2 hn hn2 hm hm2 _ hA hA2).mono ?_;rintro e w1 ⟨rfl,hb⟩;go_wp2_with fail;go_ret;exact ⟨rfl,hb⟩
end Go.Proofs.YtapgoifimhnbdaaGreatDoor
namespace Go.Proofs.YtapgoifimhnbdaaGreatDoor
open Go.RowKit
open Go.OpenShut
open Go.Deep
def qeF:Array Value:= #[.string ⟨#[]⟩,.int .i64 0,.int .i64 0,.string ⟨#[]⟩,.int .i64 0,.int .i64 0,.int .i64 0,.string ⟨#[]⟩,.string ⟨#[]⟩,.int .i64 0,.int .i64 0,.slice none 0 0]
theorem zinfo:(Tryz.prog.info? 49).map (fun i=>(i.zero,i.size,i.bytes))=some (some (.agg qeF),12,144):=by kernel_rfl
theorem q15 (x:NodeV) (v:Value) (hv:v.oneCell'=true): ∀u∈nodV x v,u.oneCell'=true:=by
 intro u hu;unfold nodV at hu;simp only [List.mem_cons,List.not_mem_nil,or_false]at hu;rcases hu with rfl|rfl|rfl|rfl|rfl|rfl|rfl|rfl|rfl|rfl|rfl|rfl
 all_goals first|rfl|exact hv
theorem q0U (ys:List NodP) (h: ∀y∈ys,y.2.oneCell'=true): ∀u∈rowN ys,u.oneCell'=true:=by
 intro u hu;unfold rowN at hu;obtain ⟨y,hy,hu⟩:=List.mem_flatMap.1 hu;exact q15 y.1 y.2 (h y hy) u hu
def qpR (w:World) (A:Option Addr) (ys:List NodP):Prop:= ∀ad,A=some ad→ ∀j u,(rowN ys)[j]?=some u→w.cell? (ad.add j)=some u
theorem qb3.cells2 {w:World} {A:Option Addr} {l:List NodeV} (h:qb3 w A l) (j:Nat) (hj:j<l.length): ∃(b o:Nat) (D:Option Addr) (c:Nat),A=some ⟨b,o,none⟩∧b<w.heap.size∧SlOk D l[j].data.length c∧qaE w D l[j].data∧ ∀W:World,Below w.heap.size w W→
  W.cell? ⟨b,o+j*12,none⟩=some (.string (bs l[j].path))∧W.cell? ⟨b,o+j*12+1,none⟩=some (.int .i64 l[j].kind)∧W.cell? ⟨b,o+j*12+2,none⟩=some (.int .i64 l[j].same)∧W.cell? ⟨b,o+j*12+3,none⟩=some (.string (bs l[j].target))∧
  (W.cell? ⟨b,o+j*12+4,none⟩=some (.int .i64 l[j].md.mode)∧W.cell? ⟨b,o+j*12+5,none⟩=some (.int .i64 l[j].md.uid)∧W.cell? ⟨b,o+j*12+6,none⟩=some (.int .i64 l[j].md.gid)∧W.cell? ⟨b,o+j*12+7,none⟩=some (.string (bs l[j].md.user))∧W.cell? ⟨b,o+j*12+8,none⟩=some (.string (bs l[j].md.group))∧W.cell? ⟨b,o+j*12+9,none⟩=some (.int .i64 l[j].md.second)∧W.cell? ⟨b,o+j*12+10,none⟩=some (.int .i64 l[j].md.nano))∧
  W.cell? ⟨b,o+j*12+11,none⟩=some (.slice D l[j].data.length c):=by
 obtain ⟨b,o,D,c,e,c0,c1,c2,c3,⟨c4,c5,c6,c7,c8,c9,cA⟩,cB,hs,hd⟩:=h.cells j hj;have hlt:b<w.heap.size:=World.block_lt_of_cell? w _ c0;refine ⟨b,o,D,c,e,hlt,hs,hd,fun W hb=> ?_⟩;have hc: ∀i,W.cell? ⟨b,i,none⟩=w.cell? ⟨b,i,none⟩:=fun i=>hb.cell (p:=⟨b,i,none⟩) hlt;simp only [hc];exact ⟨c0,c1,c2,c3,⟨c4,c5,c6,c7,c8,c9,cA⟩,cB⟩
theorem qcL {w:World} {ops:Array Oper} {rest:List Oper} {o:Oper} {a:Act} {Q:Exit→Act→World→Prop} (hgd:o.guard=none) (s x:Operand)
  (ho:o.op= .call {callee:= .builtin .append,args:= #[s,x],argTypes:= #[23,23] }) (B:Nat) (v:Value) (xs:List NodP) (hs:a.eval s=v) (hown:RowN w B v xs)
  (A:Option Addr) (m c:Nat) (ys:List NodP) (hx:a.eval x= .slice A m c) (hl:ys.length=m) (hA:qpR w A ys) (hy1: ∀y∈ys,y.2.oneCell'=true) (hc:A=none→c=0∧m=0) (hbig:(xs.length+m)*144≤140737488355328) (hB:B≤w.heap.size)
  (h: ∀v' w',RowN w' B v' (xs++ys)→w.grownBy w' v.ownBlock→wpList Tryz.prog ops Q rest (a.put o.dst v') w'):wpList Tryz.prog ops Q (o::rest) a w:=by
 obtain ⟨i0,hi,hz0,hz1,hz2⟩:=info_parts zinfo;cases A with
 |none=>
  obtain ⟨rfl,rfl⟩:=hc rfl;obtain rfl:=List.eq_nil_of_length_eq_zero hl;refine wpList_append_own_none hgd s x 23 ho B 49 i0 12 Tryz.underlying23 hi v _ _ hs hown hx ?_;exact h v w (by rw [List.append_nil];exact hown) ⟨rfl,rfl,rfl,Nat.le_refl _,fun _ _ _=>rfl⟩
 |some ad=>
  refine wpList_append_own _ hgd s x 23 ho B 49 i0 _ 12 144 Tryz.underlying23 hi hz0 hz1 hz2 rfl (by decide) v _ _ hs hown ad m c (rowN ys) hx (by rw [qcH,hl]) (hA ad rfl) (q0U ys hy1) (by unfold maxLen;omega) hbig hB ?_;intro v6 w6 hown6 hgrow _;exact h v6 w6 (by unfold RowN;rw [List.length_append,qv6,hl];exact hown6) hgrow
theorem qeD (w:World) (y:NodP):qpR (w.alloc (.cells (nodV y.1 y.2).toArray 49)) (some ⟨w.heap.size,0,none⟩) [y]:=fun ad ha j u hu=>by
 injection ha with ha
 subst ha;rw [q41]at hu;rw [Addr.add_lit,Nat.zero_add];have:=(Blk.new w 49 (nodV y.1 y.2).toArray).cell j;rw [this,List.getElem?_toArray];exact hu
theorem OwnN.push {w w':World} {B:Nat} {v v':Value} {xs:List NodP} {y:NodP} (h:OwnN w B v xs) (hy:OwnB w B y.2 y.1.data) (hr:RowN w' B v' (xs++ [y])) (hg:w.grownBy w' v.ownBlock):OwnN w' B v' (xs++ [y]):=by
 refine ⟨hr,fun x hx=> ?_⟩;rcases List.mem_append.1 hx with a|a
 ·exact (h.2 x a).grown hg fun g e e2=>qgV (h.2 x a) h.1 g e e2
 ·obtain rfl:x=y:=by simpa using a
  exact hy.grown hg fun g e e2=>qgV hy h.1 g e e2
theorem OwnN.alloc {w:World} {B:Nat} {v:Value} {xs:List NodP} (h:OwnN w B v xs) (o:Obj):OwnN (w.alloc o) B v xs:=⟨h.1.alloc o,fun x hx=>(h.2 x hx).alloc o⟩
theorem RowN.above {w:World} {B:Nat} {v:Value} {xs:List NodP} (h:RowN w B v xs): ∀g,v.ownBlock=some g→B≤g:=fun g e=>(World.ownsRow.lt h g e).1
theorem qoY (w:World) (n:Nat) (hn:n*144≤140737488355328) (i0:TypeInfo) (hi:Tryz.prog.info? 49=some i0) (hz0:i0.zero=some (.agg qeF)) (hz1:i0.size=12) (hz2:i0.bytes=144):
  ∃M:Array Value,(∀W:World,(Instr.makeSlice 23 (.int .i64 0) (.int .i64 (n:Int))).run Tryz.prog W= .ok (.slice (some ⟨W.heap.size,0,none⟩) 0 n) (W.alloc (.cells M 49)))∧
   ∀(W:World) (B:Nat),B≤W.heap.size→OwnN (W.alloc (.cells M 49)) B (.slice (some ⟨W.heap.size,0,none⟩) 0 n) []:=by
 obtain ⟨M,hM⟩: ∃M,M=madeCells (Value.agg qeF).cells (((n:Nat):Int).toNat*i0.size):=⟨_,rfl⟩;have hMs:M.size=n*12:=by rw [hM,hz1,Int.toNat_natCast];simp [madeCells]
 refine ⟨M,fun W=> ?_,fun W B hB=>⟨?_,fun x hx=>by simp at hx⟩⟩
 ·have h:=run_make (P:=Tryz.prog) W 23 49 i0 (.agg qeF) Tryz.underlying23 hi hz0 .i64 .i64 0 (n:Int) (by omega) (by omega) (by rw [hz2];omega) (by omega);rw [←hM]at h;simpa using h
 ·exact ⟨rfl,.inr ⟨W.heap.size,n,M,rfl,hB,heap_alloc_new W _,Nat.zero_le _,by unfold maxLen;omega,hMs,rfl⟩⟩
theorem OwnB.setBelow {w:World} {B:Nat} {v:Value} {l:List UInt8} (h:OwnB w B v l) {g:Nat} (hg:g<B) (i:Nat) (u:Value):OwnB (w.setCell ⟨g,i,none⟩ u) B v l:=ownsRow_setCell_below h (a:=⟨g,i,none⟩) hg u
def CpS (w:World) (cs:Array Value) (W:World):Prop:=Blk W w.heap.size 49 cs∧Blk W (w.heap.size+1) 49 qeF∧Below w.heap.size w W
theorem CpS.start (w:World) (cs:Array Value):CpS w cs ((w.alloc (.cells cs 49)).alloc (.cells qeF 49)):=by
 refine ⟨(Blk.new w 49 cs).alloc _,?_,qbF (qbF (Below.refl _ _) _) _⟩;have:=Blk.new (w.alloc (.cells cs 49)) 49 qeF
 rwa [hszA]at this
theorem CpS.below {w W W':World} {cs:Array Value} (h:CpS w cs W) (hb:Below W.heap.size W W'):CpS w cs W':=⟨h.1.below hb h.1.lt,h.2.1.below hb h.2.1.lt,h.2.2.trans (hb.mono h.2.2.size)⟩
theorem CpS.set {w W:World} {cs:Array Value} (h:CpS w cs W) (i:Nat) (v:Value):CpS w (cs.setIfInBounds i v) (W.setCell ⟨w.heap.size,i,none⟩ v):=
 ⟨h.1.set_ i v,h.2.1.far (p:=⟨w.heap.size,i,none⟩) (by show w.heap.size+1≠w.heap.size;omega) v,Below.set1 h.2.2 (Nat.le_refl _) i v⟩
set_option maxHeartbeats 8000000 in
theorem qzP (x:NodeV) (D:Option Addr) (c:Nat) (hx:x.sz) (w:World) (hD:qaE w D x.data):
  Calls Tryz.prog 118 #[.agg (nodC x D c).toArray] w fun e w'=> ∃v,e= .returned (.agg (nodV x v).toArray)∧OwnB w' w.heap.size v x.data∧Below w.heap.size w w':=by
 obtain ⟨path,kind,same,target,⟨m0,m1,m2,m3,m4,m5,m6⟩,data⟩:=x;obtain ⟨⟨z1,z2,z3⟩,z4,z5⟩:=hx;simp only at z1 z2 z3 z4 z5 hD;unfold nodC nodV;simp only;have k1:(bs path).size≤281474976710656:=by rw [qaB];omega
 have k2:(bs target).size≤281474976710656:=by rw [qaB];omega
 have k3:(bs m3).size≤281474976710656:=by rw [qaB];omega
 have k4:(bs m4).size≤281474976710656:=by rw [qaB];omega
 obtain ⟨P,hP⟩:=qaA (bs path);obtain ⟨T,hT⟩:=qaA (bs target);obtain ⟨U,hU⟩:=qaA (bs m3);obtain ⟨G,hG⟩:=qaA (bs m4);rw [hP.out,hT.out,hU.out,hG.out];rw [hP.out]at k1;rw [hT.out]at k2;rw [hU.out]at k3;rw [hG.out]at k4;have h0:=CpS.start w #[.string P,.int .i64 kind,.int .i64 same,.string T,.int .i64 m0,.int .i64 m1,.int .i64 m2,.string U,.string G,.int .i64 m5,.int .i64 m6,.slice D data.length c];have HD:=Lib.hid hD;have HL:Hid (data.length≤140737488351232):=z3;obtain ⟨L,hL⟩:=qaA data.length;rw [hL.out]at h0⊢;clear hP hT hU hG hD z1 z2 z3 z4 z5;go_enter Tryz.func118,Tryz.ntmps118;go_wp2_with fail;refine (qaY P _ k1).mono ?_;rintro e w1 ⟨rfl,hb⟩;have h1:=h0.below hb;clear h0 hb;obtain ⟨⟨c0,c1,c2,c3,c4,c5,c6,c7,c8,c9,cA,cB⟩,f0,f1,f2,f3,f4,f5,f6,f7,f8,f9,fA,fB⟩:=qeX h1.1;have s1:=h1.set 0 (.string P);simp only [List.setIfInBounds_toArray,List.set_cons_zero]at s1;clear h1;go_wp2_with fail;clear c0 c1 c2 c3 c4 c5 c6 c7 c8 c9 cA cB f0 f1 f2 f3 f4 f5 f6 f7 f8 f9 fA fB;refine (qaY T _ k2).mono ?_;rintro e w2 ⟨rfl,hb⟩;have h2:=s1.below hb;clear s1 hb;obtain ⟨⟨c0,c1,c2,c3,c4,c5,c6,c7,c8,c9,cA,cB⟩,f0,f1,f2,f3,f4,f5,f6,f7,f8,f9,fA,fB⟩:=qeX h2.1;have s2:=h2.set 3 (.string T);simp only [List.setIfInBounds_toArray,List.set_cons_zero,List.set_cons_succ]at s2;clear h2;go_wp2_with fail;clear c0 c1 c2 c3 c4 c5 c6 c7 c8 c9 cA cB f0 f1 f2 f3 f4 f5 f6 f7 f8 f9 fA fB;refine (qaY U _ k3).mono ?_;rintro e w3 ⟨rfl,hb⟩;have h3:=s2.below hb;clear s2 hb
 obtain ⟨⟨c0,c1,c2,c3,c4,c5,c6,c7,c8,c9,cA,cB⟩,f0,f1,f2,f3,f4,f5,f6,f7,f8,f9,fA,fB⟩:=qeX h3.1;have s3:=h3.set 7 (.string U);simp only [List.setIfInBounds_toArray,List.set_cons_zero,List.set_cons_succ]at s3;clear h3;go_wp2_with fail;clear c0 c1 c2 c3 c4 c5 c6 c7 c8 c9 cA cB f0 f1 f2 f3 f4 f5 f6 f7 f8 f9 fA fB;refine (qaY G _ k4).mono ?_;rintro e w4 ⟨rfl,hb⟩;have h4:=s3.below hb;clear s3 hb;obtain ⟨⟨c0,c1,c2,c3,c4,c5,c6,c7,c8,c9,cA,cB⟩,f0,f1,f2,f3,f4,f5,f6,f7,f8,f9,fA,fB⟩:=qeX h4.1;have s4:=h4.set 8 (.string G);simp only [List.setIfInBounds_toArray,List.set_cons_zero,List.set_cons_succ]at s4;clear h4;go_wp2_with fail;clear c0 c1 c2 c3 c4 c5 c6 c7 c8 c9 cA cB f0 f1 f2 f3 f4 f5 f6 f7 f8 f9 fA fB;refine (qhE D L c data hL.out (by rw [←hL.out];exact HL.out) _ (HD.out.below s4.2.2)).mono ?_;rintro e w5 ⟨v,rfl,hO,hb⟩;have h5:=s4.below hb;obtain ⟨Av,cv,rfl,-,-⟩:=hO.form;rw [hL.out]at hO⊢;have HO:=Lib.hid hO;have HB:Hid (w.heap.size+1<(w4.setCell ⟨w.heap.size,8,none⟩ (.string G)).heap.size):=s4.2.1.lt;have s5:=h5.set 11 (.slice Av L cv);simp only [List.setIfInBounds_toArray,List.set_cons_zero,List.set_cons_succ]at s5;obtain ⟨⟨c0,c1,c2,c3,c4,c5,c6,c7,c8,c9,cA,cB⟩,f0,f1,f2,f3,f4,f5,f6,f7,f8,f9,fA,fB⟩:=qeX h5.1;obtain ⟨⟨y0,y1,y2,y3,y4,y5,y6,y7,y8,y9,yA,yB⟩,g0,g1,g2,g3,g4,g5,g6,g7,g8,g9,gA,gB⟩:=qeX h5.2.1;have HS:=Lib.hid h5;clear s4 hO hb s5 h5;go_wp2_with fail
 refine bodyPost_ret (v:= .agg #[.string P,.int .i64 kind,.int .i64 same,.string T,.int .i64 m0,.int .i64 m1,.int .i64 m2,.string U,.string G,.int .i64 m5,.int .i64 m6,.slice Av L cv]) (by simp [results,Tryz.results118,go_sem, *]) rfl ⟨_,rfl,?_,?_⟩
 ·refine OwnB.mono (B:=(w4.setCell ⟨w.heap.size,8,none⟩ (.string G)).heap.size) ?_ (by have:=HB.out;omega);have hB1:=HB.out;have hB0:w.heap.size<(w4.setCell ⟨w.heap.size,8,none⟩ (.string G)).heap.size:=by omega
  iterate 12 refine OwnB.setBelow ?_ hB1 _ _
  refine OwnB.setBelow ?_ hB0 _ _;exact HO.out
 ·exact Below.set12 (Below.set1 HS.out.2.2 (Nat.le_refl _) 11 _) (by omega) _ _ _ _ _ _ _ _ _ _ _ _
def zeroE:Array Value:= #[.string ⟨#[]⟩,.int .i64 0,.string ⟨#[]⟩,.int .i64 0,.int .i64 0,.int .i64 0,.string ⟨#[]⟩,.string ⟨#[]⟩,.int .i64 0,.int .i64 0,.slice none 0 0]
theorem zinfoE:(Tryz.prog.info? 73).map (fun i=>(i.zero,i.size,i.bytes))=some (some (.agg zeroE),11,136):=by kernel_rfl
theorem q3R (x:EntV) (v:Value) (hv:v.oneCell'=true): ∀u∈entV x v,u.oneCell'=true:=by
 intro u hu;unfold entV at hu;simp only [List.mem_cons,List.not_mem_nil,or_false]at hu;rcases hu with rfl|rfl|rfl|rfl|rfl|rfl|rfl|rfl|rfl|rfl|rfl
 all_goals first|rfl|exact hv
theorem q0V (ys:List EntP) (h: ∀y∈ys,y.2.oneCell'=true): ∀u∈rowE ys,u.oneCell'=true:=by
 intro u hu;unfold rowE at hu;obtain ⟨y,hy,hu⟩:=List.mem_flatMap.1 hu;exact q3R y.1 y.2 (h y hy) u hu
def qxQ (w:World) (A:Option Addr) (ys:List EntP):Prop:= ∀ad,A=some ad→ ∀j u,(rowE ys)[j]?=some u→w.cell? (ad.add j)=some u
theorem qcO.cells2 {w:World} {A:Option Addr} {l:List EntV} (h:qcO w A l) (j:Nat) (hj:j<l.length): ∃(b o:Nat) (D:Option Addr) (c:Nat),A=some ⟨b,o,none⟩∧b<w.heap.size∧SlOk D l[j].data.length c∧qaE w D l[j].data∧ ∀W:World,Below w.heap.size w W→
  W.cell? ⟨b,o+j*11,none⟩=some (.string (bs l[j].path))∧W.cell? ⟨b,o+j*11+1,none⟩=some (.int .i64 l[j].kind)∧W.cell? ⟨b,o+j*11+2,none⟩=some (.string (bs l[j].target))∧
  (W.cell? ⟨b,o+j*11+3,none⟩=some (.int .i64 l[j].md.mode)∧W.cell? ⟨b,o+j*11+4,none⟩=some (.int .i64 l[j].md.uid)∧W.cell? ⟨b,o+j*11+5,none⟩=some (.int .i64 l[j].md.gid)∧W.cell? ⟨b,o+j*11+6,none⟩=some (.string (bs l[j].md.user))∧W.cell? ⟨b,o+j*11+7,none⟩=some (.string (bs l[j].md.group))∧W.cell? ⟨b,o+j*11+8,none⟩=some (.int .i64 l[j].md.second)∧W.cell? ⟨b,o+j*11+9,none⟩=some (.int .i64 l[j].md.nano))∧
  W.cell? ⟨b,o+j*11+10,none⟩=some (.slice D l[j].data.length c):=by
 obtain ⟨b,o,D,c,e,c0,c1,c3,⟨c4,c5,c6,c7,c8,c9,cA⟩,cB,hs,hd⟩:=h.cells j hj;have hlt:b<w.heap.size:=World.block_lt_of_cell? w _ c0;refine ⟨b,o,D,c,e,hlt,hs,hd,fun W hb=> ?_⟩;have hc: ∀i,W.cell? ⟨b,i,none⟩=w.cell? ⟨b,i,none⟩:=fun i=>hb.cell (p:=⟨b,i,none⟩) hlt;simp only [hc];exact ⟨c0,c1,c3,⟨c4,c5,c6,c7,c8,c9,cA⟩,cB⟩
theorem qnP {w:World} {ops:Array Oper} {rest:List Oper} {o:Oper} {a:Act} {Q:Exit→Act→World→Prop} (hgd:o.guard=none) (s x:Operand)
  (ho:o.op= .call {callee:= .builtin .append,args:= #[s,x],argTypes:= #[34,34] }) (B:Nat) (v:Value) (xs:List EntP) (hs:a.eval s=v) (hown:RowE w B v xs)
  (A:Option Addr) (m c:Nat) (ys:List EntP) (hx:a.eval x= .slice A m c) (hl:ys.length=m) (hA:qxQ w A ys) (hy1: ∀y∈ys,y.2.oneCell'=true) (hc:A=none→c=0∧m=0) (hbig:(xs.length+m)*136≤140737488355328) (hB:B≤w.heap.size)
  (h: ∀v' w',RowE w' B v' (xs++ys)→w.grownBy w' v.ownBlock→wpList Tryz.prog ops Q rest (a.put o.dst v') w'):wpList Tryz.prog ops Q (o::rest) a w:=by
 obtain ⟨i0,hi,hz0,hz1,hz2⟩:=info_parts zinfoE;cases A with
 |none=>
  obtain ⟨rfl,rfl⟩:=hc rfl;obtain rfl:=List.eq_nil_of_length_eq_zero hl;refine wpList_append_own_none hgd s x 34 ho B 73 i0 11 Tryz.underlying34 hi v _ _ hs hown hx ?_;exact h v w (by rw [List.append_nil];exact hown) ⟨rfl,rfl,rfl,Nat.le_refl _,fun _ _ _=>rfl⟩
 |some ad=>
  refine wpList_append_own _ hgd s x 34 ho B 73 i0 _ 11 136 Tryz.underlying34 hi hz0 hz1 hz2 rfl (by decide) v _ _ hs hown ad m c (rowE ys) hx (by rw [quE,hl]) (hA ad rfl) (q0V ys hy1) (by unfold maxLen;omega) hbig hB ?_;intro v6 w6 hown6 hgrow _;exact h v6 w6 (by unfold RowE;rw [List.length_append,q44,hl];exact hown6) hgrow
theorem qpI (w:World) (y:EntP):qxQ (w.alloc (.cells (entV y.1 y.2).toArray 73)) (some ⟨w.heap.size,0,none⟩) [y]:=fun ad ha j u hu=>by
 injection ha with ha
 subst ha;rw [q42]at hu;rw [Addr.add_lit,Nat.zero_add];have:=(Blk.new w 73 (entV y.1 y.2).toArray).cell j;rw [this,List.getElem?_toArray];exact hu
theorem OwnE.push {w w':World} {B:Nat} {v v':Value} {xs:List EntP} {y:EntP} (h:OwnE w B v xs) (hy:OwnB w B y.2 y.1.data) (hr:RowE w' B v' (xs++ [y])) (hg:w.grownBy w' v.ownBlock):OwnE w' B v' (xs++ [y]):=by
 refine ⟨hr,fun x hx=> ?_⟩;rcases List.mem_append.1 hx with a|a
 ·exact (h.2 x a).grown hg fun g e e2=>qoT (h.2 x a) h.1 g e e2
 ·obtain rfl:x=y:=by simpa using a
  exact hy.grown hg fun g e e2=>qoT hy h.1 g e e2
theorem OwnE.alloc {w:World} {B:Nat} {v:Value} {xs:List EntP} (h:OwnE w B v xs) (o:Obj):OwnE (w.alloc o) B v xs:=⟨h.1.alloc o,fun x hx=>(h.2 x hx).alloc o⟩
theorem RowE.above {w:World} {B:Nat} {v:Value} {xs:List EntP} (h:RowE w B v xs): ∀g,v.ownBlock=some g→B≤g:=fun g e=>(World.ownsRow.lt h g e).1
end Go.Proofs.YtapgoifimhnbdaaGreatDoor
namespace Go.Proofs.YtapgoifimhnbdaaGreatDoor
open Go.RowKit
open Go.OpenShut
def nodA (x:NodeV) (D:Option Addr) (c:Nat):Array Value:= #[.string (bs x.path),.int .i64 x.kind,.int .i64 x.same,.string (bs x.target),.int .i64 x.md.mode,.int .i64 x.md.uid,.int .i64 x.md.gid,.string (bs x.md.user),.string (bs x.md.group),.int .i64 x.md.second,.int .i64 x.md.nano,.slice D x.data.length c]
def RdS (w wr:World) (g:Nat) (x:NodeV) (D:Option Addr) (c:Nat) (W:World):Prop:=Blk W g 49 (nodA x D c)∧Below wr.heap.size wr W
def RdP (w wr:World) (g:Nat) (x:NodeV) (D:Option Addr) (c b q:Nat) (P:ByteArray) (W:World):Prop:=RdS w wr g x D c W∧W.cell? ⟨b,q,none⟩=some (.string P)
def entA (x:EntV) (D:Option Addr) (c:Nat):Array Value:= #[.string (bs x.path),.int .i64 x.kind,.string (bs x.target),.int .i64 x.md.mode,.int .i64 x.md.uid,.int .i64 x.md.gid,.string (bs x.md.user),.string (bs x.md.group),.int .i64 x.md.second,.int .i64 x.md.nano,.slice D x.data.length c]
def RdE (wr:World) (g:Nat) (x:EntV) (D:Option Addr) (c:Nat) (W:World):Prop:=Blk W g 73 (entA x D c)∧Below wr.heap.size wr W
theorem RdE.below {wr W W':World} {g:Nat} {x:EntV} {D:Option Addr} {c:Nat} (h:RdE wr g x D c W) (hb:Below W.heap.size W W'):RdE wr g x D c W':=⟨h.1.below hb h.1.lt,h.2.trans (hb.mono h.2.size)⟩
theorem RdE.drew {wr W:World} {g:Nat} {x:EntV} {D:Option Addr} {c:Nat} (h:RdE wr g x D c W):RdE wr g x D c W.drew:=⟨h.1.drew_,h.2.drew⟩
theorem RdE.drewN {wr W:World} {g:Nat} {x:EntV} {D:Option Addr} {c:Nat} (h:RdE wr g x D c W) (q:Nat):RdE wr g x D c (W.drewN q):=⟨h.1.drewN q,below_drewN h.2 q⟩
def RdF (wr:World) (g:Nat) (x:EntV) (D:Option Addr) (c b q:Nat) (P:ByteArray) (W:World):Prop:=RdE wr g x D c W∧W.cell? ⟨b,q,none⟩=some (.string P)
theorem RdF.below {wr W W':World} {g:Nat} {x:EntV} {D:Option Addr} {c b q:Nat} {P:ByteArray} (h:RdF wr g x D c b q P W) (hb:Below W.heap.size W W'):RdF wr g x D c b q P W':=
 ⟨h.1.below hb,(hb.cell (p:=⟨b,q,none⟩) (World.block_lt_of_cell? W _ h.2)).trans h.2⟩
theorem RdF.drew {wr W:World} {g:Nat} {x:EntV} {D:Option Addr} {c b q:Nat} {P:ByteArray} (h:RdF wr g x D c b q P W):RdF wr g x D c b q P W.drew:=⟨h.1.drew,h.2⟩
theorem qtN {t:List EntV} (h:qbQ [] t=0): ∀x∈t,entE x=0:=fun x hx=>by
 obtain ⟨j,hj,rfl⟩:=List.getElem_of_mem hx;exact ((qfC _ _).1 ((qhT t []).1 h j hj)).1
theorem qe2 {p:List UInt8} (h:qc6 p=0):p.length≤400:=by
 unfold qc6 at h
 split at h
 ·exact absurd h (by decide)
 ·omega
theorem qtS {t:List EntV} {n:EntV} (h:entE n≠0):eatE t n=entE n:=if_pos h
theorem qpE {t:List EntV} {n:EntV} (h:entE n=0) (x:EntV) (hl:t.getLast?=some x) (h2:pcmp x.path n.path≠ -1):eatE t n=6:=by
 unfold eatE;rw [if_neg (by simp [h]),hl];simp only;rw [if_pos (by simp [h2])]
theorem q3S {t:List EntV} {n:EntV} (h:entE n=0) (hl: ∀x,t.getLast?=some x→pcmp x.path n.path= -1) (hu:upE t n.path=false):eatE t n=10:=by
 unfold eatE;rw [if_neg (by simp [h]),if_neg,if_pos hu];cases e:t.getLast? with
 |none=>simp
 |some x=>simp [hl x e]
theorem qtT {t:List EntV} {n:EntV} (h:entE n=0) (hl: ∀x,t.getLast?=some x→pcmp x.path n.path= -1) (hu:upE t n.path=true) (hk:aimE t n=false):eatE t n=11:=by
 unfold eatE;rw [if_neg (by simp [h]),if_neg,if_neg (by simp [hu]),if_pos hk];cases e:t.getLast? with
 |none=>simp
 |some x=>simp [hl x e]
theorem qpD (l:List EntV) (k:Nat) (hk:k<l.length) (x:EntV):(l.take k).getLast?=some x↔ ∃h:0<k,l[k-1]=x:=by
 cases k with
 |zero=>simp
 |succ k=>
  rw [List.take_succ_eq_append_getElem (by omega),List.getLast?_append];simp
set_option maxHeartbeats 8000000 in
theorem qmB (A:Option Addr) (n c:Nat) (l:List EntV) (hn:l.length=n) (hc:SlOk A n c) (hsz: ∀x∈l,x.sz) (w:World) (hA:qcO w A l):
  Calls Tryz.prog 76 #[.slice A n c] w fun e w'=>e= .returned (.int .i64 (qbE l))∧Below w.heap.size w w':=by
 have HN:=Lib.hid hn;have HA:=Lib.hid hA;have HSZ:=Lib.hid hsz;have hcap:=hc.1;have hmx:=hc.2.1;unfold maxLen at hmx;clear hn hA hsz hc
 by_cases h40:40<n
 ·have HV:Hid (qbE l=1):=by unfold Hid qbE;rw [HN.out,if_pos h40]
  go_enter Tryz.func76,Tryz.ntmps76;go_wp2_with fail;go_ret;exact ⟨qaR (by rw [HV.out]),Below.refl _ _⟩
 ·have HT:Hid (qbE l=qbQ [] l):=by unfold Hid qbE;rw [HN.out,if_neg h40]
  have h41:n≤40:=by omega
  go_enter Tryz.func76,Tryz.ntmps76;go_wp2_with fail
  go_loopw [15] (fun i wr=> ∃k:Nat,k≤n∧i= .int .i64 k∧Hid (qbQ [] (l.take k)=0)∧Hid (Below w.heap.size w wr)) (fun i _=>n-(intOf i).toNat)
  case atStart=>exact ⟨0,Nat.zero_le _,rfl,by unfold Hid;rw [List.take_zero];rfl,Below.refl _ _⟩
  case round=>
   obtain ⟨k,hk,rfl,HW,HB⟩:=hrel
   by_cases hlt:k<n
   ·have hk1:k<l.length:=by rw [HN.out];exact hlt
    obtain ⟨b,o,D,cc,rfl,c0,c1,c3,⟨c4,c5,c6,c7,c8,c9,cA⟩,cB,-,-⟩:=(HA.out.below HB.out).cells k hk1;have hb1:b<wr.heap.size:=World.block_lt_of_cell? wr _ c0;have hxsz:=HSZ.out _ (List.getElem_mem hk1);have HST:=Lib.hid fun he=>qnC l k hk1 HW.out he;have HSP:=Lib.hid fun he=>qnD l k hk1 HW.out he;generalize hx:l[k]=x at*;have HNd:=Lib.hid fun W=>qqB x D cc hxsz W;unfold entC at HNd;have hps:(bs x.path).size≤140737488351232:=by rw [qaB];exact hxsz.1.1
    clear hxsz;go_upto_region 6 with fail
    have HBl:=Lib.hid (Blk.new wr 73 (entA x D cc));have HBa:Hid (Below wr.heap.size wr (wr.alloc (.cells (entA x D cc) 73))):=(Below.refl _ _).alloc (Nat.le_refl _) _;unfold entA at HBl HBa;generalize hwa:wr.alloc _=wa at HBl HBa⊢;obtain ⟨⟨e0,e1,e3,e4,e5,e6,e7,e8,e9,eA,eB⟩,-⟩:=qaF HBl.out;clear hwa c0 c1 c3 c4 c5 c6 c7 c8 c9 cA cB
    by_cases hne:entE x=0
    ·rw [hne]at HNd;go_wp2_with fail;refine (HNd.out _).mono ?_;rintro e' w4 ⟨rfl,hb4⟩;have HS4:Hid (RdE wr wr.heap.size x D cc w4):=⟨HBl.out.below hb4 HBl.out.lt,HBa.out.trans (hb4.mono HBa.out.size)⟩;clear hb4 e0 e1 e3 e4 e5 e6 e7 e8 e9 eA eB;go_upto_region 9 with fail
     obtain ⟨q,hq⟩: ∃q:Bool,q=(match (l.take k).getLast? with|some y=> !decide (pcmp y.path x.path= -1)|none=>false):=⟨_,rfl⟩;have HQ:=Lib.hid hq;clear hq
     go_cut [38] (fun s38 wx=>s38= .bool q∧RdE wr wr.heap.size x D cc wx)
     case first=>
      by_cases hk0:0<k
      ·have hd0:decide (0<k)=true:=decide_eq_true hk0;obtain ⟨k1,hk1'⟩: ∃k1,k1=k-1:=⟨_,rfl⟩;have hsub:IntKind.i64.wrap ((k:Int) -1)=(k1:Int):=by rw [IntKind.wrap_i64];omega
       have hk2:k1<l.length:=by omega
       obtain ⟨b',o',D',cc',e',f0,-⟩:=(HA.out.below (HB.out.trans (HS4.out.2.mono HB.out.size))).cells k1 hk2;injection e' with e'
       injection e' with e1' e2' _
       subst e1' e2';have hlast:(l.take k).getLast?=some l[k1]:=(qpD l k (by omega) l[k1]).2 ⟨hk0,by simp only [hk1']⟩;have hps2:(bs l[k1].path).size≤400:=by rw [qaB];exact qe2 (qdF (qtN HW.out _ (List.mem_take_iff_getElem.2 ⟨k1,by omega,rfl⟩))).1
       have hps3:(bs x.path).size≤400:=by rw [qaB];exact qe2 (qdF hne).1
       have HO:=Lib.hid fun W=>qyF (bs l[k1].path) (bs x.path) W;rw [qaH,qaH]at HO;have hq2:=HQ.out;rw [hlast]at hq2;simp only at hq2;have hpb:=quR l[k1].path x.path;obtain ⟨pc,hpc⟩: ∃pc,pc=pcmp l[k1].path x.path:=⟨_,rfl⟩;rw [←hpc]at HO hq2 hpb
       have HQ2:Hid (decide (0≤pc)=q):=by
        unfold Hid;rw [hq2];rcases (show pc= -1∨0≤pc by omega)with e|e
        ·subst e;rfl
        ·have e2:pc≠ -1:=by omega
         simp [e,e2]
       obtain ⟨P,hP⟩:=qaA (bs l[k1].path);obtain ⟨X,hX⟩:=qaA (bs x.path);rw [hP.out,hX.out]at HO;rw [hP.out]at f0 hps2;rw [hX.out]at hps hps3;have hS0:RdF wr wr.heap.size x D cc b (o+k1*11) P w4:=⟨HS4.out,f0⟩;have r0: ∀W:World,RdF wr wr.heap.size x D cc b (o+k1*11) P W→W.cell? ⟨wr.heap.size,0,none⟩=some (.string X):=fun W h=>by rw [←hX.out];exact (qaF h.1.1).1.1
       have r1: ∀W:World,RdF wr wr.heap.size x D cc b (o+k1*11) P W→W.cell? ⟨b,o+k1*11,none⟩=some (.string P):=fun W h=>h.2;have hk1n:(k1:Int)<(n:Int):=by omega
       have hk10:(0:Int)≤(k1:Int):=by omega
       have HOr:=Lib.hid fun W=>HO.out W (by omega) (by omega);clear hq2 hlast hpc hpb hk1' f0 HO
       go_region_held3 (fun W=>RdF wr wr.heap.size x D cc b (o+k1*11) P W)
        (first
         |(with_reducible assumption)
         |(with_reducible refine RdF.drew ?_;with_reducible assumption)
         |(with_reducible exact RdF.below (by with_reducible assumption) (by with_reducible assumption)))
        (first
         |(go_at_call 83;refine (HOr.out _).mono ?_;rintro e w5 ⟨rfl,hbO⟩))
       all_goals
        go_wp2_with fail;go_meet;exact ⟨by rw [HQ2.out],(RdF.below hS0.drew hbO).1⟩
      ·have hd0:decide (0<k)=false:=decide_eq_false hk0;have hq2:=HQ.out;have hk00:k=0:=by omega
       rw [show (l.take k).getLast?=none by rw [hk00];simp]at hq2;simp only at hq2;subst hq2;clear hk00;go_quiet (fail);go_wp2_with fail;go_meet;exact ⟨rfl,HS4.out.drewN _⟩
     case rest=>
      obtain ⟨rfl,hSc⟩:=hcut;have HSc:=Lib.hid hSc;clear hSc HS4;cases q with
      |true=>
       have HV:Hid (qbE l=6):=by
        unfold Hid
        have ha:eatE (l.take k) x=6:=by
         have h0:=HQ.out;cases e:(l.take k).getLast? with
         |none=>rw [e]at h0;cases h0
         |some y=>rw [e]at h0;exact qpE hne y e (by simpa using h0)
        rw [HT.out,HST.out (by rw [ha];decide),ha]
       go_wp2_with fail;go_ret;exact ⟨qaR (by rw [HV.out]),HB.out.trans (HSc.out.2.mono HB.out.size)⟩
      |false=>
       have HL:Hid (∀y,(l.take k).getLast?=some y→pcmp y.path x.path= -1):=fun y e=>by
        have h0:=HQ.out;rw [e]at h0;simpa using h0.symm
       have hx4:=qe2 (qdF hne).1;have HPs:=Lib.hid fun W=>qyA (bs x.path) W (by rw [qaB];omega);rw [qaH]at HPs;have HFd:=Lib.hid fun W h=>qjZ (some ⟨b,o,none⟩) k c (l.take k) (upL x.path) (by rw [List.length_take];omega) (by omega) W h;unfold bs at HFd;have hfl:=qf5 (l.take k) (upL x.path);rw [List.length_take,Nat.min_eq_left (by omega)]at hfl;obtain ⟨f,hf⟩: ∃f,f=qaQ (l.take k) (upL x.path):=⟨_,rfl⟩;rw [←hf]at HFd hfl
       have HU:Hid (upE (l.take k) x.path=(decide (upL x.path= [])||if hk:f<(l.take k).length then decide (((l.take k)[f]'hk).kind=2)else false)):=by
        unfold Hid upE;subst hf;rfl
       clear hf;obtain ⟨X,hX⟩:=qaA (bs x.path);rw [hX.out]at HPs;obtain ⟨⟨c0,-⟩,-⟩:=qaF HSc.out.1;rw [hX.out]at c0;go_upto_region 11 with fail
       go_wp2_with fail;refine (HPs.out _).mono ?_;rintro e' w5 ⟨rfl,hb5⟩;have HS5:=Lib.hid (HSc.out.below hb5);clear hb5 c0;obtain ⟨U,hU⟩:=qaA (⟨(upL x.path).toArray⟩:ByteArray);rw [hU.out]at HFd;rw [hU.out];have HAk:=Lib.hid ((HA.out.below (HB.out.trans (HS5.out.2.mono HB.out.size))).take k);go_wp2_with fail;refine (HFd.out _ HAk.out).mono ?_;rintro e' w6 ⟨rfl,rfl⟩;go_upto_region 13 with fail
       obtain ⟨q2,hq2⟩: ∃q2:Bool,upE (l.take k) x.path= !q2:=⟨!upE (l.take k) x.path,by simp⟩;have HQ2:=Lib.hid hq2;rw [hq2]at HU;clear hq2
       go_cut [64] (fun s64 wx=>s64= .bool q2∧wx=w5)
       case first=>
        by_cases hu0:upL x.path= []
        ·have hu1:=HU.out;rw [decide_eq_true hu0,Bool.true_or]at hu1;obtain rfl:q2=false:=by revert hu1;cases q2<;>decide
         obtain rfl:U=⟨#[]⟩:=by rw [←hU.out,hu0]
         clear hu1 hu0;go_wp2_with fail;go_meet;exact ⟨rfl,rfl⟩
        ·have hu1:=HU.out;rw [decide_eq_false hu0,Bool.false_or]at hu1;have hun: ¬U.toList= []:=fun e=>hu0 (by rw [←hU.out,ByteArray.toList_eq]at e;exact e);have hun2:(U.toList== [])=false:=by simpa using hun
         by_cases hfk:f=k
         ·rw [dif_neg (by rw [List.length_take];omega)]at hu1;obtain rfl:q2=true:=by revert hu1;cases q2<;>decide
          have hfk2:((f:Int)==(k:Int))=true:=by simp [hfk]
          clear hu1 hu0 hfk;go_wp2_with fail;go_meet;exact ⟨rfl,rfl⟩
         ·have hfk2:((f:Int)==(k:Int))=false:=by simp;omega
          have hfl2:f<(l.take k).length:=by rw [List.length_take];omega
          have hfln:f<n:=by omega
          rw [dif_pos hfl2]at hu1;obtain ⟨b',o',D',cc',e',-,f1,-⟩:=HAk.out.cells f hfl2;injection e' with e'
          injection e' with e1' e2' _
          subst e1' e2';generalize (l.take k)[f].kind=kd at f1 hu1;clear hfk hu0
          by_cases hkd:kd=2
          ·rw [decide_eq_true hkd]at hu1;obtain rfl:q2=false:=by revert hu1;cases q2<;>decide
           subst hkd;clear hu1;go_wp2_with fail;go_meet;exact ⟨rfl,rfl⟩
          ·rw [decide_eq_false hkd]at hu1;obtain rfl:q2=true:=by revert hu1;cases q2<;>decide
           have hkd2:(kd !=2)=true:=by simpa using hkd
           clear hu1 hkd;go_wp2_with fail;go_meet;exact ⟨rfl,rfl⟩
       case rest=>
        obtain ⟨rfl,rfl⟩:=hcut;cases q2 with
        |true=>
         have HV:Hid (qbE l=10):=by
          unfold Hid;have ha:eatE (l.take k) x=10:=q3S hne HL.out (by rw [HQ2.out];rfl);rw [HT.out,HST.out (by rw [ha];decide),ha]
         go_wp2_with fail;go_ret;exact ⟨qaR (by rw [HV.out]),HB.out.trans (HS5.out.2.mono HB.out.size)⟩
        |false=>
         have HUp:Hid (upE (l.take k) x.path=true):=by unfold Hid;rw [HQ2.out];rfl
         clear HFd HU HQ2 hfl hU;have HFd:=Lib.hid fun W h=>qjZ (some ⟨b,o,none⟩) k c (l.take k) x.target (by rw [List.length_take];omega) (by omega) W h;have hfl:=qf5 (l.take k) x.target;rw [List.length_take,Nat.min_eq_left (by omega)]at hfl;obtain ⟨f2,hf⟩: ∃f2,f2=qaQ (l.take k) x.target:=⟨_,rfl⟩;rw [←hf]at HFd hfl
         have HU:Hid (aimE (l.take k) x=(decide (x.kind≠4)||if hk:f2<(l.take k).length then decide (((l.take k)[f2]'hk).kind=1) &&decide (((l.take k)[f2]'hk).md=x.md)else false)):=by
          unfold Hid aimE;subst hf;rfl
         clear hf;obtain ⟨Tg,hTg⟩:=qaA (bs x.target);rw [hTg.out]at HFd;obtain ⟨⟨-,-,c2,-⟩,-⟩:=qaF HS5.out.1;rw [hTg.out]at c2;go_upto_region 15 with fail
         go_cut [9] (fun s9 wx=>s9= .int .i64 (f2:Int)∧RdE wr wr.heap.size x D cc wx)
         case first=>
          go_quiet ((go_at_call 77;exact Calls.quiet_of_same (qbO (HFd.out _ HAk.out))));go_wp2_with fail;go_meet;exact ⟨rfl,HS5.out.drewN _⟩
         case rest=>
          obtain ⟨rfl,hSd⟩:=hcut;have HSd:=Lib.hid hSd;clear hSd HS5 c2;have HAm:=Lib.hid ((HA.out.below (HB.out.trans (HSd.out.2.mono HB.out.size))).take k);obtain ⟨q3,hq3⟩: ∃q3:Bool,aimE (l.take k) x= !q3:=⟨!aimE (l.take k) x,by simp⟩;have HQ3:=Lib.hid hq3;rw [hq3]at HU;clear hq3 HAk;obtain ⟨⟨c0,c1,c2,c4,c5,c6,c7,c8,c9,cA,cB⟩,-⟩:=qaF HSd.out.1;go_upto_region 16 with fail
          go_cut [96] (fun s96 wx=>s96= .bool q3∧RdE wr wr.heap.size x D cc wx)
          case first=>
           by_cases hk4:x.kind=4
           ·have hu1:=HU.out;rw [decide_eq_false (by simp [hk4]),Bool.false_or]at hu1;have hk4b:(x.kind==4)=true:=by simp [hk4]
            by_cases hfk:f2=k
            ·rw [dif_neg (by rw [List.length_take];omega)]at hu1;obtain rfl:q3=true:=by revert hu1;cases q3<;>decide
             have hfk2:((f2:Int)==(k:Int))=true:=by simp [hfk]
             clear hu1 hfk hk4;go_quiet (fail);go_wp2_with fail;go_meet;exact ⟨rfl,HSd.out.drewN _⟩
            ·have hfk2:((f2:Int)==(k:Int))=false:=by simp;omega
             have hfl2:f2<(l.take k).length:=by rw [List.length_take];omega
             have hfln:f2<n:=by omega
             rw [dif_pos hfl2]at hu1;obtain ⟨b',o',D',cc',e',-,f1,-,⟨g4,g5,g6,g7,g8,g9,gA⟩,-⟩:=HAm.out.cells f2 hfl2;injection e' with e'
             injection e' with e1' e2' _
             subst e1' e2';generalize (l.take k)[f2]=y at f1 hu1 g4 g5 g6 g7 g8 g9 gA;clear hfk hk4
             by_cases hkd:y.kind=1
             ·rw [decide_eq_true hkd,Bool.true_and]at hu1;rw [hkd]at f1;have hq:=qwU y.md x.md;unfold metB at hq;rw [←hu1]at hq;unfold metA at hq;simp only [Bool.not_not]at hq;clear hu1 hkd;go_quiet (fail);go_wp2_with fail;go_meet;exact ⟨rfl,HSd.out.drewN _⟩
             ·rw [decide_eq_false hkd,Bool.false_and]at hu1;obtain rfl:q3=true:=by revert hu1;cases q3<;>decide
              have hkd2:(y.kind !=1)=true:=by simpa using hkd
              clear hu1 hkd;go_quiet (fail);go_wp2_with fail;go_meet;exact ⟨rfl,HSd.out.drewN _⟩
           ·have hu1:=HU.out;rw [decide_eq_true hk4,Bool.true_or]at hu1;obtain rfl:q3=false:=by revert hu1;cases q3<;>decide
            have hk4b:(x.kind==4)=false:=by simpa using hk4
            clear hu1 hk4;go_quiet (fail);go_wp2_with fail;go_meet;exact ⟨rfl,HSd.out.drewN _⟩
          case rest=>
           obtain ⟨rfl,hSf⟩:=hcut;have HSf:=Lib.hid hSf;clear hSf HSd c0 c1 c2 c4 c5 c6 c7 c8 c9 cA cB;cases q3 with
           |true=>
            have HV:Hid (qbE l=11):=by
             unfold Hid;have ha:eatE (l.take k) x=11:=qtT hne HL.out HUp.out (by rw [HQ3.out];rfl);rw [HT.out,HST.out (by rw [ha];decide),ha]
            go_wp2_with fail;go_ret;exact ⟨qaR (by rw [HV.out]),HB.out.trans (HSf.out.2.mono HB.out.size)⟩
           |false=>
            have HV:Hid (qbQ [] (l.take (k+1))=0):=HSP.out ((qfC _ _).2 ⟨hne,HL.out,HUp.out,by rw [HQ3.out];rfl⟩);go_wp2_with fail;go_roundw
            case rel=>exact ⟨k+1,by omega,by go_num,HV,HB.out.trans (HSf.out.2.mono HB.out.size)⟩
            case measure=>simp [intOf];omega
    ·have hne2:(entE x !=0)=true:=by simpa using hne
     have HV:Hid (qbE l=entE x):=by
      unfold Hid;have ha:=qtS (t:=l.take k) hne;rw [HT.out,HST.out (by rw [ha];exact hne),ha]
     generalize entE x=ex at*;clear hne;go_wp2_with fail;refine (HNd.out _).mono ?_;rintro e' w4 ⟨rfl,hb4⟩;have HB4:=Lib.hid (HB.out.trans ((HBa.out.trans (hb4.mono HBa.out.size)).mono HB.out.size));clear hb4 e0 e1 e3 e4 e5 e6 e7 e8 e9 eA eB;go_wp2_with fail;go_ret;exact ⟨qaR (by rw [HV.out]),HB4.out⟩
   ·obtain rfl:k=n:=by omega
    have HV:Hid (qbE l=0):=by
     have:=HW.out;rw [List.take_of_length_le (by rw [HN.out];omega)]at this;unfold Hid;rw [HT.out,this]
    go_wp2_with fail;go_ret;exact ⟨qaR (by rw [HV.out]),HB.out⟩
theorem RowN.row {w:World} {B:Nat} {v:Value} {xs:List NodP} (h:RowN w B v xs) (hx:0<xs.length): ∃g cap,v= .slice (some ⟨g,0,none⟩) xs.length cap∧B≤g∧g<w.heap.size∧xs.length≤cap∧cap≤maxLen:=by
 have h':=h;unfold RowN World.ownsRow at h;rcases h.2 with ⟨rfl,h0⟩|⟨g,cap,cur,rfl,hB,hg,hcap,hm,hs,ht⟩
 ·omega
 ·exact ⟨g,cap,rfl,hB,(World.ownsRow.lt h' g rfl).2,hcap,hm⟩
theorem RowN.setData {w:World} {B g cap n:Nat} {xs:List NodP} (h:RowN w B (.slice (some ⟨g,0,none⟩) n cap) xs) (hn:n=xs.length) (j:Nat) (hj:j<xs.length) (v:Value):
  RowN (w.setCell ⟨g,j*12+11,none⟩ v) B (.slice (some ⟨g,0,none⟩) n cap) (xs.set j (xs[j].1,v))∧w.grownBy (w.setCell ⟨g,j*12+11,none⟩ v) (some g):=by
 subst hn;unfold RowN at h⊢;obtain ⟨h1,h2⟩:=World.ownsRow.stored h (j*12+11) v;rw [q40 xs j v hj]at h1;rw [List.length_set];exact ⟨h1,h2⟩
theorem q4X (xs:List NodP) (y z:NodP):(xs++ [y]).set xs.length z=xs++ [z]:=by
 rw [List.set_append_right _ _ (Nat.le_refl _),Nat.sub_self];rfl
theorem qw8 (xs:List NodP) (y:NodP) (h:xs.length<(xs++ [y]).length):(xs++ [y])[xs.length]=y:=by simp
theorem qi9 {l:List NodeV} {xs:List NodP} {k:Nat} (hk:k<l.length) (h:xs.map (·.1)=l.take k) (v:Value):(xs++ [(l[k],v)]).map (·.1)=l.take (k+1):=by
 rw [List.map_append,h,List.take_succ_eq_append_getElem hk];rfl
theorem q2B {l:List NodeV} {xs:List NodP} {k:Nat} (hk:k≤l.length) (h:xs.map (·.1)=l.take k):xs.length=k:=by
 have:=congrArg List.length h;rw [List.length_map,List.length_take]at this;omega
set_option maxHeartbeats 4000000 in
theorem q7L (A:Option Addr) (n c:Nat) (l:List NodeV) (hn:l.length=n) (hm:n*144≤140737488351232) (hsz: ∀x∈l,x.sz) (w:World) (hA:qb3 w A l):
  Calls Tryz.prog 73 #[.slice A n c] w fun e w'=> ∃v xs,e= .returned v∧xs.map (·.1)=l∧OwnN w' w.heap.size v xs∧Below w.heap.size w w':=by
 obtain ⟨i0,hi,hz0,hz1,hz2⟩:=info_parts zinfo;obtain ⟨M,hmk,hown⟩:=qoY w n (by omega) i0 hi hz0 hz1 hz2;have HO:=Lib.hid (hown w w.heap.size (Nat.le_refl _));have HB0:Hid (Below w.heap.size w (w.alloc (.cells M 49))):=(Below.refl _ _).alloc (Nat.le_refl _) _;have HN:=Lib.hid hn;have HA:=Lib.hid hA;have HSZ:=Lib.hid hsz;clear hn hA hsz hown hi hz0 hz1 hz2;go_enter Tryz.func73,Tryz.ntmps73;go_wp2_with fail
 go_loopw [3,11] (fun ov i wr=> ∃k:Nat,k≤n∧i= .int .i64 k∧ ∃xs:List NodP,Hid (OwnN wr w.heap.size ov xs)∧Hid (xs.map (·.1)=l.take k)∧Hid (Below w.heap.size w wr)) (fun _ i _=>n-(intOf i).toNat)
 case atStart=>exact ⟨0,Nat.zero_le _,rfl, [],HO.out,by unfold Hid;rw [List.take_zero];rfl,HB0.out⟩
 case round=>
  obtain ⟨k,hk,rfl,xs,HX,HT,HB⟩:=hrel
  by_cases hlt:k<n
  ·have hk1:k<l.length:=by rw [HN.out];exact hlt
   obtain ⟨b,o,D,cc,rfl,c0,c1,c2',c3,⟨c4,c5,c6,c7,c8,c9,cA⟩,cB,-,hD⟩:=(HA.out.below HB.out).cells k hk1;have hxsz:=HSZ.out _ (List.getElem_mem hk1);have HT2:=Lib.hid fun v=>qi9 hk1 HT.out v;have hlen:=q2B (by omega) HT.out;generalize hx:l[k]=x at*;have HC:=Lib.hid fun W h=>qzP x D cc hxsz W h;unfold nodC at HC;have HD:=Lib.hid hD;clear hD hxsz hx;go_upto_region 5 with fail
   have HBl:=Blk.new wr 49 #[.string (bs x.path),.int .i64 x.kind,.int .i64 x.same,.string (bs x.target),.int .i64 x.md.mode,.int .i64 x.md.uid,.int .i64 x.md.gid,.string (bs x.md.user),.string (bs x.md.group),.int .i64 x.md.second,.int .i64 x.md.nano,.slice D x.data.length cc];have hBa: ∀o,Below wr.heap.size wr (wr.alloc o):=fun o=>qbF (Below.refl _ _) o;generalize hwa:wr.alloc _=wa at HBl⊢;have HBa:Hid (Below wr.heap.size wr wa):=by rw [←hwa];exact hBa _
   obtain ⟨⟨e0,e1,e2,e3,e4,e5,e6,e7,e8,e9,eA,eB⟩,-⟩:=qeX HBl;clear hwa c0 c1 c2' c3 c4 c5 c6 c7 c8 c9 cA cB HBl hBa;go_wp2_with fail;refine (HC.out _ (HD.out.below HBa.out)).mono ?_;rintro e w5 ⟨v,rfl,hO,hb⟩;have HBr:Hid (Below wr.heap.size wr w5):=HBa.out.trans (hb.mono HBa.out.size);have HOv:=Lib.hid (hO.mono (B':=w.heap.size) (Nat.le_trans HB.out.size HBa.out.size));obtain ⟨Av,cv,rfl,-,-⟩:=hO.form;have HX5:=Lib.hid (HX.out.below HBr.out);have HB5:=Lib.hid (HB.out.trans (HBr.out.mono HB.out.size));unfold nodV;clear hO hb e0 e1 e2 e3 e4 e5 e6 e7 e8 e9 eA eB;go_wp2_with (at_builtin;refine Stay.go ?_);refine Stay.on ?_;refine qcL rfl (.tmp 15) (.tmp 18) rfl w.heap.size _ xs rfl (HX5.out.1.alloc _) (some ⟨w5.heap.size,0,none⟩) 1 1 [(x,.slice Av x.data.length cv)] rfl rfl (qeD w5 (x,.slice Av x.data.length cv)) (by simp [Value.oneCell']) (fun e=>by cases e) (by omega) (by simp;have:=HB5.out.size;omega) ?_;intro v6 w6 hown6 hgrow;have HX6:=Lib.hid (OwnN.push (HX5.out.alloc _) (HOv.out.below (qbF (Below.refl w5.heap.size w5) _)|>.mono (Nat.le_refl _)) hown6 hgrow);have HB6:Hid (Below w.heap.size w w6):=(HB5.out.alloc HB5.out.size _).grown hgrow (by simp;have:=HB5.out.size;omega) HX5.out.1.above;have HT6:=Lib.hid (HT2.out (.slice Av x.data.length cv));clear hown6 hgrow;go_wp2_with fail;go_roundw
   case rel=>exact ⟨k+1,by omega,by go_num,_,HX6.out,HT6.out,HB6.out⟩
   case measure=>simp [intOf];omega
  ·obtain rfl:k=n:=by omega
   have HV:Hid (xs.map (·.1)=l):=by
    have:=HT.out
    rwa [List.take_of_length_le (by rw [HN.out];omega)]at this
   go_wp2_with fail;go_ret;exact ⟨_,xs,rfl,HV.out,HX.out,HB.out⟩
set_option maxHeartbeats 4000000 in
theorem qsO (A:Option Addr) (n c:Nat) (l:List NodeV) (hn:l.length=n) (hm:n*144≤140737488351232) (hsz: ∀x∈l,x.sz) (w:World) (hA:qb3 w A l):
  Calls Tryz.prog 45 #[.slice A n c] w fun e w'=> ∃v xs,e= .returned v∧xs.map (·.1)=l∧OwnN w' w.heap.size v xs∧Below w.heap.size w w':=by
 have HN:=Lib.hid hn;have HA:=Lib.hid hA;have HSZ:=Lib.hid hsz;clear hn hA hsz;go_enter Tryz.func45,Tryz.ntmps45;go_wp2_with fail
 go_loopw [3,4] (fun ov i wr=> ∃k:Nat,k≤n∧i= .int .i64 k∧ ∃xs:List NodP,Hid (OwnN wr w.heap.size ov xs)∧Hid (xs.map (·.1)=l.take k)∧Hid (Below w.heap.size w wr)) (fun _ i _=>n-(intOf i).toNat)
 case atStart=>exact ⟨0,Nat.zero_le _,rfl, [],OwnN.nil _ _,by unfold Hid;rw [List.take_zero];rfl,Below.refl _ _⟩
 case round=>
  obtain ⟨k,hk,rfl,xs,HX,HT,HB⟩:=hrel
  by_cases hlt:k<n
  ·have hk1:k<l.length:=by rw [HN.out];exact hlt
   obtain ⟨b,o,D,cc,rfl,hb1,hSl,hD,hcl⟩:=HA.out.cells2 k hk1;have hxsz:=HSZ.out _ (List.getElem_mem hk1);have HT2:=Lib.hid fun v=>qi9 hk1 HT.out v;have hlen:=q2B (by omega) HT.out;generalize hx:l[k]=x at*;have hdl:=hxsz.1.2.2;have HD:=Lib.hid hD;have hcn:=hSl.2.2;have HCL:=Lib.hid hcl;obtain ⟨c0,c1,c2',c3,⟨c4,c5,c6,c7,c8,c9,cA⟩,cB⟩:=hcl wr HB.out;clear hD hxsz hx hSl hcl;go_wp2_with (at_builtin;refine Stay.go ?_);refine Stay.on ?_;refine qcL rfl (.tmp 11) (.tmp 16) rfl w.heap.size _ xs rfl (HX.out.1.alloc _) (some ⟨wr.heap.size,0,none⟩) 1 1 [(x,.slice D x.data.length cc)] rfl rfl (qeD wr (x,.slice D x.data.length cc)) (by simp [Value.oneCell']) (fun e=>by cases e) (by omega) (by simp;have:=HB.out.size;omega) ?_;intro v6 w6 hown6 hgrow;have HB6:Hid (Below w.heap.size w w6):=(HB.out.alloc HB.out.size _).grown hgrow (by simp;have:=HB.out.size;omega) HX.out.1.above;have HX6:Hid (∀y∈xs,OwnB w6 w.heap.size y.2 y.1.data):=fun y hy=>((HX.out.2 y hy).alloc _).grown hgrow fun g e e2=>qgV (HX.out.2 y hy) HX.out.1 g e e2;have hl6:(xs++ [((x,.slice D x.data.length cc):NodP)]).length=k+1:=by rw [List.length_append,hlen];rfl
   obtain ⟨g,cap,rfl,hgB,hgl,hcap1,hcap2⟩:=hown6.row (by omega);rw [hl6]at hcap1 hown6⊢;have HR6:=Lib.hid hown6;have HBa:Hid (Below w6.heap.size w6 (w6.alloc (.cells #[] 5))):=(Below.refl _ _).alloc (Nat.le_refl _) _;have HO0:Hid (OwnB (w6.alloc (.cells #[] 5)) w6.heap.size (.slice (some ⟨w6.heap.size,0,none⟩) 0 0) []):=World.ownsRow_lit (e:=5) (size:=1) w6 #[] 0 (Nat.le_refl _) (by decide) rfl;have hB6a:=HB6.out.trans (HBa.out.mono HB6.out.size);have hcell:=(HCL.out _ hB6a).2.2.2.2.2;have HD6:=Lib.hid (HD.out.below hB6a);clear hown6 hgrow c0 c1 c2' c3 c4 c5 c6 c7 c8 c9 cA cB;go_wp2_with (at_builtin;refine Stay.go ?_);refine Stay.on ?_;refine qgA rfl (.tmp 20) (.tmp 25) rfl w6.heap.size _ [] rfl HO0.out D _ cc x.data rfl rfl HD6.out hcn (by simp;omega) (by simp) ?_;intro v7 w7 ho7 hb7;have HB7:Hid (Below w6.heap.size w6 w7):=hb7 _ HBa.out;have HO7:Hid (OwnB w7 w6.heap.size v7 x.data):=ho7;have HR7:=Lib.hid (HR6.out.below HB7.out)
   have hcl7:w7.cell? ⟨g,k*12+11,none⟩=some (.slice D x.data.length cc):=by
    have h1:=HR7.out;unfold RowN at h1;rw [hl6]at h1;rw [World.ownsRow.cellAt h1 (k*12+11) (by omega),qfO _ k 11 (by rw [hl6];omega) (by omega)];have h2:=qw8 xs (x,.slice D x.data.length cc) (by rw [hl6,hlen];omega);simp only [hlen]at h2;rw [h2];rfl
   have hfr7:w7.frozen? ⟨g,k*12+11,none⟩=false:=by
    have h1:=HR7.out;unfold RowN at h1;rw [hl6]at h1;exact World.ownsRow.frozenAt h1 _
   obtain ⟨Av,cv,rfl,-,-⟩:=ho7.form;obtain ⟨h8,hg8⟩:=HR7.out.setData hl6.symm k (by rw [hl6];omega) (.slice Av x.data.length cv);have hgl':=qw8 xs (x,.slice D x.data.length cc) (by rw [hl6,hlen];omega);have hst:=q4X xs (x,.slice D x.data.length cc) (x,.slice Av x.data.length cv);simp only [hlen]at hgl' hst;rw [hgl',hst]at h8
   have HX8:Hid (OwnN (w7.setCell ⟨g,k*12+11,none⟩ (.slice Av x.data.length cv)) w.heap.size (.slice (some ⟨g,0,none⟩) (k+1) cap) (xs++ [(x,.slice Av x.data.length cv)])):=by
    refine ⟨h8,fun y hy=> ?_⟩;rcases List.mem_append.1 hy with a|a
    ·have h9:=(HX6.out y a).below HB7.out;exact h9.grown hg8 fun g' e e2=>qgV h9 HR7.out g' e e2
    ·obtain rfl:y=(x,.slice Av x.data.length cv):=by simpa using a
     exact (HO7.out.setBelow hgl _ _).mono HB6.out.size
   have HB8:Hid (Below w.heap.size w (w7.setCell ⟨g,k*12+11,none⟩ (.slice Av x.data.length cv))):=Below.set1 (HB6.out.trans (HB7.out.mono HB6.out.size)) hgB _ _;have HT8:=Lib.hid (HT2.out (.slice Av x.data.length cv));clear ho7 hb7 h8 hg8 hgl' hst hcell;go_wp2_with fail;go_roundw
   case rel=>exact ⟨k+1,by omega,by go_num,_,HX8.out,HT8.out,HB8.out⟩
   case measure=>simp [intOf];omega
  ·obtain rfl:k=n:=by omega
   have HV:Hid (xs.map (·.1)=l):=by
    have:=HT.out
    rwa [List.take_of_length_le (by rw [HN.out];omega)]at this
   go_wp2_with fail;go_ret;exact ⟨_,xs,rfl,HV.out,HX.out,HB.out⟩
theorem qkM (l:List EntV):qbE l=0↔l.length≤40∧ ∀k (hk:k<l.length),eatE (l.take k) l[k]=0:=by
 unfold qbE
 by_cases h:40<l.length
 ·rw [if_pos h];exact ⟨fun e=>absurd e (by decide),fun e=>by omega⟩
 ·rw [if_neg h,qhT];simp only [List.nil_append];exact ⟨fun e=>⟨by omega,e⟩,fun e=>e.2⟩
theorem qzM {l:List EntV} {s:List UInt8} {k:Nat} (h:qaQ (l.take k) s<(l.take k).length):qaQ l s=qaQ (l.take k) s:=by
 have h1:qaQ (l.take k) s<l.length:=by rw [List.length_take]at h;omega
 have h2:=qdL (l.take k) s h;rw [List.getElem_take]at h2;refine qd3 l s _ h1 ?_ h2;apply Classical.byContradiction;intro hc;have h3:qaQ l s<qaQ (l.take k) s:=by omega
 have h4:qaQ l s<l.length:=by omega
 have h5:=qdL l s h4;refine qjI (l.take k) s (qaQ l s) h3 (by omega) ?_;rw [List.getElem_take];exact h5
theorem qxN {l:List EntV} (h:qbE l=0) {i:Nat} (hi:i<l.length) (hk:l[i].kind=4): ∃hf:qaQ l l[i].target<l.length,qaQ l l[i].target<i∧(l[qaQ l l[i].target]'hf).kind=1∧(l[qaQ l l[i].target]'hf).md=l[i].md:=by
 have h1:=((qfC _ _).1 (((qkM l).1 h).2 i hi)).2.2.2;unfold aimE at h1;rw [decide_eq_false (by simp [hk]),Bool.false_or]at h1
 split at h1
 ·rename_i hf;have e:=qzM hf;rw [List.length_take]at hf;rw [Bool.and_eq_true,decide_eq_true_eq,decide_eq_true_eq,List.getElem_take]at h1;refine ⟨by omega,by omega,?_,?_⟩
  ·simp only [e];exact h1.1
  ·simp only [e];exact h1.2
 ·cases h1
def anyE (l:List EntV) (p:List UInt8):Bool:=l.any fun y=>decide (y.kind=4) &&decide (y.target=p)
def smE (l:List EntV) (i:Nat) (x:EntV):Int:=if x.kind=1∧anyE l x.path=true then (i:Int)+1 else 0
theorem qp3 (l:List EntV) (i:Nat) (x:EntV) (k:Nat) (hk:k<l.length) (q:Bool) (hq:q=(decide (l[k].kind=4) &&decide (l[k].target=x.path) &&decide (x.kind=1))):
  smE (l.take (k+1)) i x=if q=true then (i:Int)+1 else smE (l.take k) i x:=by
 have e:anyE (l.take (k+1)) x.path=(anyE (l.take k) x.path||(decide (l[k].kind=4) &&decide (l[k].target=x.path))):=by
  unfold anyE;rw [List.take_succ_eq_append_getElem hk,List.any_append,List.any_cons,List.any_nil,Bool.or_false]
 unfold smE;rw [e,hq];generalize (decide (l[k].kind=4) &&decide (l[k].target=x.path))=r
 by_cases h:x.kind=1
 ·rw [decide_eq_true h];cases r
  ·simp [h]
  ·simp [h]
 ·rw [decide_eq_false h];simp [h]
theorem EntV.sz.grow {l:List EntV} (h: ∀x∈l,x.sz) {i:Nat} (hi:i<l.length):(qdS l i l[i]).sz:=by
 have hx:=h _ (List.getElem_mem hi);unfold qdS
 by_cases hk:l[i].kind=4
 ·rw [if_pos hk];refine ⟨⟨hx.1.1,Nat.zero_le _,?_⟩,hx.2⟩;simp only;cases hd:l[qaQ l l[i].target]? with
  |none=>exact Nat.zero_le _
  |some y=>exact (h y (List.mem_of_getElem? hd)).1.2.2
 ·rw [if_neg hk];exact ⟨⟨hx.1.1,hx.1.2.1,hx.1.2.2⟩,hx.2⟩
def qs9 (l:List EntV):List NodeV:=if qbE l=0 then qeG l else []
set_option maxHeartbeats 8000000 in
theorem q5O (A:Option Addr) (n c:Nat) (l:List EntV) (hn:l.length=n) (hc:SlOk A n c) (hsz: ∀x∈l,x.sz) (w:World) (hA:qcO w A l) (hE:qbE l=0):
  Calls Tryz.prog 29 #[.slice A n c] w fun e w'=> ∃v xs,e= .returned (.tuple #[v,.int .i64 0])∧xs.map (·.1)=qeG l∧OwnN w' w.heap.size v xs∧Below w.heap.size w w':=by
 have H1:=Lib.hid (qmB A n c l hn hc hsz w hA);rw [hE]at H1;have h40:n≤40:=by have:=((qkM l).1 hE).1;omega
 have HFd:=Lib.hid fun (s:List UInt8) W (h:Below w.heap.size w W)=>qjZ A n c l s hn (by omega) W (hA.below h);have HAim:=Lib.hid fun i (hi:i<l.length) (hk:l[i].kind=4)=>qxN hE hi hk
 have HFin:Hid (∀(v:Value) (xs:List NodP) (W:World),RowN W w.heap.size v xs→xs.map (·.1)=qeG l→(∀y∈xs,qd1 w y.2 y.1.data)→Below w.heap.size w W→Calls Tryz.prog 45 #[v] W fun e w'=> ∃v xs,e= .returned v∧xs.map (·.1)=qeG l∧OwnN w' w.heap.size v xs∧Below w.heap.size w w'):=fun v xs W hR hmap hdy hB=>by
  obtain ⟨A9,c9,rfl,hs9,hN9⟩:=hR.at fun y hy=>(hdy y hy).below hB
  have hxl:xs.length≤40:=by
   have h1:=congrArg List.length hmap;rw [List.length_map,qbT]at h1;omega
  refine (qsO A9 xs.length c9 (xs.map (·.1)) (by rw [List.length_map]) (by omega) (fun x hx9=>by
   rw [hmap]at hx9;obtain ⟨i,hi,rfl⟩:=List.getElem_of_mem hx9;rw [qbT]at hi;rw [qeQ l i hi]
   exact EntV.sz.grow hsz hi) W hN9).mono ?_
  rintro e w' ⟨v,zs,rfl,h1,h2,h3⟩;exact ⟨v,zs,rfl,by rw [h1,hmap],h2.mono hB.size,hB.trans (h3.mono hB.size)⟩
 have HN:=Lib.hid hn;have HA:=Lib.hid hA;have hcap:=hc.1;have hmx:=hc.2.1;unfold maxLen at hmx;clear hn hc hsz hA hE;go_enter Tryz.func29,Tryz.ntmps29;go_wp2_with fail;refine H1.out.mono ?_;rintro e w1 ⟨rfl,hB⟩;have HB1:=Lib.hid hB;clear hB H1;go_wp2_with fail
 go_loopw [5,19] (fun ov iv wr=> ∃(i:Nat) (xs:List NodP),i≤n∧iv= .int .i64 i∧xs.length=i∧Hid (RowN wr w.heap.size ov xs)∧Hid (xs.map (·.1)=(qeG l).take i)∧Hid (∀y∈xs,qd1 w y.2 y.1.data)∧Hid (Below w.heap.size w wr)) (fun _ iv _=>n-(intOf iv).toNat)
 case atStart=>exact ⟨0, [],Nat.zero_le _,rfl,rfl,RowN.nil _ _,(by unfold Hid;rw [List.take_zero];rfl),(fun y hy=>by cases hy),HB1.out⟩
 case round=>
  obtain ⟨i,xs,hi,rfl,hxl,HR,HM,HDT,HB⟩:=hrel
  by_cases hlt:i<n
  ·have hi1:i<l.length:=by rw [HN.out];exact hlt
   obtain ⟨b,o,E,cc,hbo,hb1,hSl,hE,hcl⟩:=HA.out.cells2 i hi1;subst hbo;obtain ⟨c0,c1,c3,⟨c4,c5,c6,c7,c8,c9x,cA⟩,cB⟩:=hcl wr HB.out;have hga:=qeQ l i hi1;have hai:=HAim.out i hi1;generalize hx:l[i]=x at*;have HYD:Hid (qd1 w (.slice E x.data.length cc) x.data):=⟨E,cc,rfl,hSl,hE⟩;have HGa:=Lib.hid hga;have HAi:=Lib.hid hai;clear hx hcl hSl hE hb1 hga hai;go_upto_region 8 with fail
   have HBl:=Lib.hid (Blk.new wr 73 #[.string (bs x.path),.int .i64 x.kind,.string (bs x.target),.int .i64 x.md.mode,.int .i64 x.md.uid,.int .i64 x.md.gid,.string (bs x.md.user),.string (bs x.md.group),.int .i64 x.md.second,.int .i64 x.md.nano,.slice E x.data.length cc]);have HBa:=Lib.hid (qbF (Below.refl _ wr) (.cells #[.string (bs x.path),.int .i64 x.kind,.string (bs x.target),.int .i64 x.md.mode,.int .i64 x.md.uid,.int .i64 x.md.gid,.string (bs x.md.user),.string (bs x.md.group),.int .i64 x.md.second,.int .i64 x.md.nano,.slice E x.data.length cc] 73));generalize hwa:wr.alloc _=wa at HBl HBa⊢;obtain ⟨g,hg⟩: ∃g,g=wr.heap.size:=⟨_,rfl⟩;have hga:g<wa.heap.size:=by rw [hg];exact HBl.out.lt
   have hgw:wr.heap.size≤g:=by omega
   rw [←hg]at HBl⊢;clear hg;obtain ⟨⟨e0,e1,e3,e4,e5,e6,e7,e8,e9,eA,eB⟩,-⟩:=qaF HBl.out;clear hwa c0 c1 c3 c4 c5 c6 c7 c8 c9x cA cB;go_upto_region 9 with fail
   have HBx:=Lib.hid (Blk.new wa 49 #[.string (bs x.path),.int .i64 x.kind,.int .i64 0,.string (bs x.target),.int .i64 x.md.mode,.int .i64 x.md.uid,.int .i64 x.md.gid,.string (bs x.md.user),.string (bs x.md.group),.int .i64 x.md.second,.int .i64 x.md.nano,.slice E x.data.length cc]);have HBl2:=Lib.hid (HBl.out.alloc (.cells #[.string (bs x.path),.int .i64 x.kind,.int .i64 0,.string (bs x.target),.int .i64 x.md.mode,.int .i64 x.md.uid,.int .i64 x.md.gid,.string (bs x.md.user),.string (bs x.md.group),.int .i64 x.md.second,.int .i64 x.md.nano,.slice E x.data.length cc] 49));have HBb:=Lib.hid (qbF HBa.out (.cells #[.string (bs x.path),.int .i64 x.kind,.int .i64 0,.string (bs x.target),.int .i64 x.md.mode,.int .i64 x.md.uid,.int .i64 x.md.gid,.string (bs x.md.user),.string (bs x.md.group),.int .i64 x.md.second,.int .i64 x.md.nano,.slice E x.data.length cc] 49));generalize hwb:wa.alloc _=wb at HBx HBl2 HBb⊢;obtain ⟨gx,hgx⟩: ∃gx,gx=wa.heap.size:=⟨_,rfl⟩;rw [←hgx]at HBx⊢;have hgx1:wr.heap.size≤gx:=by omega
   have hgg:g≠gx:=by omega
   clear hwb hgx HBl HBa hga e0 e1 e3 e4 e5 e6 e7 e8 e9 eA eB;go_wp2_with fail
   go_loopw [37] (fun jv wy=> ∃(k:Nat) (sm:Int),k≤n∧jv= .int .i64 (k:Int)∧Hid (sm=smE (l.take k) i x)∧
    Hid (Blk wy g 73 #[.string (bs x.path),.int .i64 x.kind,.string (bs x.target),.int .i64 x.md.mode,.int .i64 x.md.uid,.int .i64 x.md.gid,.string (bs x.md.user),.string (bs x.md.group),.int .i64 x.md.second,.int .i64 x.md.nano,.slice E x.data.length cc])∧
    Hid (Blk wy gx 49 #[.string (bs x.path),.int .i64 x.kind,.int .i64 sm,.string (bs x.target),.int .i64 x.md.mode,.int .i64 x.md.uid,.int .i64 x.md.gid,.string (bs x.md.user),.string (bs x.md.group),.int .i64 x.md.second,.int .i64 x.md.nano,.slice E x.data.length cc])∧Hid (Below wr.heap.size wr wy)) (fun jv _=>n-(intOf jv).toNat)
   case atStart=>exact ⟨0,0,Nat.zero_le _,rfl,(by unfold Hid smE anyE;simp),HBl2.out,HBx.out,HBb.out⟩
   case round=>
    obtain ⟨k,sm,hk,rfl,HSM,HX,HNx,HY⟩:=hrel;rename World=>wy
    by_cases hkn:k<n
    ·have hk1:k<l.length:=by rw [HN.out];exact hkn
     obtain ⟨b',o',E',cc',hbo',hb1',-,-,hcl'⟩:=HA.out.cells2 k hk1;injection hbo' with hbo'
     injection hbo' with q1 q2 _
     subst q1 q2;obtain ⟨c0,c1,c3,⟨c4,c5,c6,c7,c8,c9x,cA⟩,cB⟩:=hcl' wy (HB.out.trans (HY.out.mono HB.out.size));obtain ⟨q,hq⟩: ∃q,q=(decide (l[k].kind=4) &&decide (l[k].target=x.path) &&decide (x.kind=1)):=⟨_,rfl⟩;have HSn:=Lib.hid (qp3 l i x k hk1 q hq);generalize hz:l[k]=z at*;have HQ:=Lib.hid hq;clear hz hcl' hb1' hq;go_upto_region 12 with fail
     have HBz:=Lib.hid (Blk.new wy 73 #[.string (bs z.path),.int .i64 z.kind,.string (bs z.target),.int .i64 z.md.mode,.int .i64 z.md.uid,.int .i64 z.md.gid,.string (bs z.md.user),.string (bs z.md.group),.int .i64 z.md.second,.int .i64 z.md.nano,.slice E' z.data.length cc']);have HXz:=Lib.hid (HX.out.alloc (.cells #[.string (bs z.path),.int .i64 z.kind,.string (bs z.target),.int .i64 z.md.mode,.int .i64 z.md.uid,.int .i64 z.md.gid,.string (bs z.md.user),.string (bs z.md.group),.int .i64 z.md.second,.int .i64 z.md.nano,.slice E' z.data.length cc'] 73));have HNz:=Lib.hid (HNx.out.alloc (.cells #[.string (bs z.path),.int .i64 z.kind,.string (bs z.target),.int .i64 z.md.mode,.int .i64 z.md.uid,.int .i64 z.md.gid,.string (bs z.md.user),.string (bs z.md.group),.int .i64 z.md.second,.int .i64 z.md.nano,.slice E' z.data.length cc'] 73));have HYz:=Lib.hid (qbF HY.out (.cells #[.string (bs z.path),.int .i64 z.kind,.string (bs z.target),.int .i64 z.md.mode,.int .i64 z.md.uid,.int .i64 z.md.gid,.string (bs z.md.user),.string (bs z.md.group),.int .i64 z.md.second,.int .i64 z.md.nano,.slice E' z.data.length cc'] 73));generalize hwz:wy.alloc _=wz at HBz HXz HNz HYz⊢;obtain ⟨gz,hgz⟩: ∃gz,gz=wy.heap.size:=⟨_,rfl⟩;rw [←hgz]at HBz⊢;clear hwz hgz c0 c1 c3 c4 c5 c6 c7 c8 c9x cA cB
     go_cut [55] (fun s55 wx=>s55= .bool q∧wx=wz)
     case first=>
      obtain ⟨⟨-,d1,d2,-⟩,-⟩:=qaF HBz.out;obtain ⟨⟨e0,e1,-⟩,-⟩:=qaF HXz.out;have hq:=HQ.out;have hst:=qn3 (a:=z.target) (b:=x.path);obtain ⟨X,hX⟩:=qaA (bs x.path);obtain ⟨Z,hZ⟩:=qaA (bs z.target);rw [hX.out]at e0 hst;rw [hZ.out]at d2 hst
      by_cases h4:z.kind=4
      ·have h4b:(z.kind==4)=true:=by simp [h4]
       rw [decide_eq_true h4,Bool.true_and]at hq
       by_cases h5:z.target=x.path
       ·rw [decide_eq_true h5]at hst;rw [decide_eq_true h5,Bool.true_and]at hq
        by_cases h6:x.kind=1
        ·have h6b:(x.kind==1)=true:=by simp [h6]
         rw [decide_eq_true h6]at hq;subst hq;clear h4 h5 h6;go_wp2_with fail;go_meet;exact ⟨rfl,rfl⟩
        ·have h6b:(x.kind==1)=false:=by simpa using h6
         rw [decide_eq_false h6]at hq;subst hq;clear h4 h5 h6;go_wp2_with fail;go_meet;exact ⟨rfl,rfl⟩
       ·rw [decide_eq_false h5]at hst;rw [decide_eq_false h5,Bool.false_and]at hq;subst hq;clear h4 h5;go_wp2_with fail;go_meet;exact ⟨rfl,rfl⟩
      ·have h4b:(z.kind==4)=false:=by simpa using h4
       rw [decide_eq_false h4,Bool.false_and,Bool.false_and]at hq;subst hq;clear h4;go_wp2_with fail;go_meet;exact ⟨rfl,rfl⟩
     case rest=>
      obtain ⟨rfl,rfl⟩:=hcut;rename World=>wz
      cases q with
      |true=>
       have hsn:=HSn.out;rw [if_pos rfl]at hsn;have HSn2:Hid ((i:Int)+1=smE (l.take (k+1)) i x):=hsn.symm;clear hsn;obtain ⟨⟨-,-,f2,-⟩,⟨-,-,r2,-⟩⟩:=qeX HNz.out;have hw:IntKind.i64.wrap ((i:Int)+1)=((i:Int)+1):=by rw [IntKind.wrap_i64];omega
       have HN3:Hid (Blk (wz.setCell ⟨gx,2,none⟩ (.int .i64 ((i:Int)+1))) gx 49 #[.string (bs x.path),.int .i64 x.kind,.int .i64 ((i:Int)+1),.string (bs x.target),.int .i64 x.md.mode,.int .i64 x.md.uid,.int .i64 x.md.gid,.string (bs x.md.user),.string (bs x.md.group),.int .i64 x.md.second,.int .i64 x.md.nano,.slice E x.data.length cc]):=HNz.out.set_ 2 (.int .i64 ((i:Int)+1));have HX3:=Lib.hid (HXz.out.far (p:=⟨gx,2,none⟩) hgg (.int .i64 ((i:Int)+1)));have HY3:=Lib.hid (HYz.out.setCell (p:=⟨gx,2,none⟩) hgx1 (.int .i64 ((i:Int)+1)));go_wp2_with fail;go_roundw
       case rel=>exact ⟨k+1,_,by omega,by go_num,HSn2.out,HX3.out,HN3.out,HY3.out⟩
       case measure=>simp [intOf];omega
      |false=>
       have hsn:=HSn.out;rw [if_neg (by decide)]at hsn;have HSn2:Hid (sm=smE (l.take (k+1)) i x):=by unfold Hid;rw [hsn,HSM.out]
       clear hsn;go_wp2_with fail;go_roundw
       case rel=>exact ⟨k+1,sm,by omega,by go_num,HSn2.out,HXz.out,HNz.out,HYz.out⟩
       case measure=>simp [intOf];omega
    ·obtain rfl:k=n:=by omega
     have hsm:=HSM.out;rw [List.take_of_length_le (by rw [HN.out];omega)]at hsm;have HSm:=Lib.hid hsm;have HB6:=Lib.hid (HB.out.trans (HY.out.mono HB.out.size));clear hsm;obtain ⟨y,hy⟩: ∃y,y=qdS l i x:=⟨_,rfl⟩
     by_cases hk4:x.kind=4
     ·obtain ⟨hf,hf2,-,-⟩:=HAi.out hk4;obtain ⟨f,hfe⟩: ∃f,f=qaQ l x.target:=⟨_,rfl⟩;have hk4b:(x.kind==4)=true:=by simp [hk4]
      have hyx:y=⟨x.path,1,(f:Int)+1, [],x.md,(l[f]'(by rw [hfe];exact hf)).data⟩:=by
       rw [hy];subst hfe;unfold qdS;rw [if_pos hk4,List.getElem?_eq_getElem hf];rfl
      have HF:=Lib.hid (HFd.out x.target wy HB6.out);rw [←hfe]at HF;have hf9:f<l.length:=by rw [hfe];exact hf
      have hfi:f<i:=by rw [hfe];exact hf2
      obtain ⟨b',o',E',cc',hbo',hb1',hSl',hE',hcl'⟩:=HA.out.cells2 f hf9;injection hbo' with hbo'
      injection hbo' with q1 q2 _
      subst q1 q2;obtain ⟨-,-,-,-,cB⟩:=hcl' wy HB6.out;generalize hz:l[f]=z at*;have HZD:Hid (qd1 w (.slice E' z.data.length cc') z.data):=⟨E',cc',rfl,hSl',hE'⟩;have hbg:b≠gx:=by have:=HB.out.size;omega
      have hfw:IntKind.i64.wrap ((f:Int)+1)=((f:Int)+1):=by rw [IntKind.wrap_i64];omega
      have hf8:(f:Int)<(k:Int):=by omega
      have hf7:(0:Int)≤(f:Int):=by omega
      have HCN:Hid (∀W:World,qpR (W.alloc (.cells #[.string (bs x.path),.int .i64 1,.int .i64 ((f:Int)+1),.string ⟨#[]⟩,.int .i64 x.md.mode,.int .i64 x.md.uid,.int .i64 x.md.gid,.string (bs x.md.user),.string (bs x.md.group),.int .i64 x.md.second,.int .i64 x.md.nano,.slice E' z.data.length cc'] 49)) (some ⟨W.heap.size,0,none⟩) [(y,.slice E' z.data.length cc')]):=fun W=>by
       have h1:=qeD W (y,.slice E' z.data.length cc');rw [hyx]at h1⊢;exact h1
      have HDY:Hid (qd1 w (.slice E' z.data.length cc') y.data):=by unfold Hid;rw [hyx];exact HZD.out
      have HY0:=Lib.hid hy;have hi9:i≤40:=by omega
      obtain ⟨⟨e0,e1,e2,e3,e4,e5,e6,e7,e8,e9,eA,eB⟩,⟨-,r1,r2,r3,-,-,-,-,-,-,-,rB⟩⟩:=qeX HNx.out;obtain ⟨⟨-,x1,x2,-⟩,-⟩:=qaF HX.out
      have HN3:Hid (Blk ((((wy.setCell ⟨gx,1,none⟩ (.int .i64 1)).setCell ⟨gx,3,none⟩ (.string ⟨#[]⟩)).setCell ⟨gx,2,none⟩ (.int .i64 ((f:Int)+1))).setCell ⟨gx,11,none⟩ (.slice E' z.data.length cc')) gx 49 #[.string (bs x.path),.int .i64 1,.int .i64 ((f:Int)+1),.string ⟨#[]⟩,.int .i64 x.md.mode,.int .i64 x.md.uid,.int .i64 x.md.gid,.string (bs x.md.user),.string (bs x.md.group),.int .i64 x.md.second,.int .i64 x.md.nano,.slice E' z.data.length cc']):=
       (((HNx.out.set_ 1 (.int .i64 1)).set_ 3 (.string ⟨#[]⟩)).set_ 2 (.int .i64 ((f:Int)+1))).set_ 11 (.slice E' z.data.length cc')
      have HY3:=Lib.hid ((((HY.out.setCell (p:=⟨gx,1,none⟩) hgx1 (.int .i64 1)).setCell (p:=⟨gx,3,none⟩) hgx1 (.string ⟨#[]⟩)).setCell (p:=⟨gx,2,none⟩) hgx1 (.int .i64 ((f:Int)+1))).setCell (p:=⟨gx,11,none⟩) hgx1 (.slice E' z.data.length cc'));have HR3:=Lib.hid (HR.out.below HY3.out);have HB3:=Lib.hid (HB.out.trans (HY3.out.mono HB.out.size));clear hy hyx hk4 hz hcl' hfe hb1' hSl' hE' hf hf9 hfi;go_wp2_with fail;refine HF.out.mono ?_;rintro e' w6 ⟨rfl,rfl⟩;go_upto_region 21 with fail
      generalize hwm:(((wy.setCell ⟨gx,1,none⟩ (.int .i64 1)).setCell ⟨gx,3,none⟩ (.string ⟨#[]⟩)).setCell ⟨gx,2,none⟩ (.int .i64 ((f:Int)+1))).setCell ⟨gx,11,none⟩ (.slice E' z.data.length cc')=wm at HN3 HR3 HB3⊢;clear hwm e0 e1 e2 e3 e4 e5 e6 e7 e8 e9 eA eB r1 r2 r3 rB x1 x2 cB;obtain ⟨⟨e0,e1,e2,e3,e4,e5,e6,e7,e8,e9,eA,eB⟩,-⟩:=qeX HN3.out;go_wp2_with (at_builtin;refine Stay.go ?_);refine Stay.on ?_;refine qcL rfl (.tmp 78) (.tmp 80) rfl w.heap.size _ xs rfl (HR3.out.alloc _) (some ⟨wm.heap.size,0,none⟩) 1 1 [(y,.slice E' z.data.length cc')] rfl rfl (HCN.out wm) (by simp [Value.oneCell']) (fun e=>by cases e) (by omega) (by simp;have:=HB3.out.size;omega) ?_;intro v7 w7 ho7 hg7;have HR7:=Lib.hid ho7;have HB7:Hid (Below w.heap.size w w7):=(HB3.out.alloc HB3.out.size _).grown hg7 (by rw [hszA];have:=HB3.out.size;omega) HR3.out.above
      have HM7:Hid ((xs++ [((y,.slice E' z.data.length cc'):NodP)]).map (·.1)=(qeG l).take (i+1)):=by
       unfold Hid;rw [List.map_append,HM.out,List.take_succ_eq_append_getElem (by rw [qbT];exact hi1),HGa.out,←HY0.out];rfl
      have HD7:Hid (∀u∈xs++ [((y,.slice E' z.data.length cc'):NodP)],qd1 w u.2 u.1.data):=fun u hu=>by
       rcases List.mem_append.1 hu with a|a
       ·exact HDT.out u a
       ·obtain rfl:u=(y,.slice E' z.data.length cc'):=by simpa using a
        exact HDY.out
      have hl7:(xs++ [((y,.slice E' z.data.length cc'):NodP)]).length=i+1:=by rw [List.length_append,List.length_singleton];omega
      clear ho7 hg7 e0 e1 e2 e3 e4 e5 e6 e7 e8 e9 eA eB;go_wp2_with fail;go_roundw
      case rel=>exact ⟨i+1,_,by omega,by go_num,hl7,HR7.out,HM7.out,HD7.out,HB7.out⟩
      case measure=>simp [intOf];omega
     ·have hk4b:(x.kind==4)=false:=by simpa using hk4
      have hyx:y=⟨x.path,x.kind,sm,x.target,x.md,x.data⟩:=by
       rw [hy,HSm.out];unfold qdS;rw [if_neg hk4];rfl
      have HCN:Hid (∀W:World,qpR (W.alloc (.cells #[.string (bs x.path),.int .i64 x.kind,.int .i64 sm,.string (bs x.target),.int .i64 x.md.mode,.int .i64 x.md.uid,.int .i64 x.md.gid,.string (bs x.md.user),.string (bs x.md.group),.int .i64 x.md.second,.int .i64 x.md.nano,.slice E x.data.length cc] 49)) (some ⟨W.heap.size,0,none⟩) [(y,.slice E x.data.length cc)]):=fun W=>by
       have h1:=qeD W (y,.slice E x.data.length cc);rw [hyx]at h1⊢;exact h1
      have HDY:Hid (qd1 w (.slice E x.data.length cc) y.data):=by unfold Hid;rw [hyx];exact HYD.out
      have HY0:=Lib.hid hy;have hi9:i≤40:=by omega
      obtain ⟨⟨e0,e1,e2,e3,e4,e5,e6,e7,e8,e9,eA,eB⟩,-⟩:=qeX HNx.out;obtain ⟨⟨-,x1,-⟩,-⟩:=qaF HX.out;have HR6:=Lib.hid (HR.out.below HY.out);clear hy hyx hk4;go_wp2_with (at_builtin;refine Stay.go ?_);refine Stay.on ?_;refine qcL rfl (.tmp 78) (.tmp 80) rfl w.heap.size _ xs rfl (HR6.out.alloc _) (some ⟨wy.heap.size,0,none⟩) 1 1 [(y,.slice E x.data.length cc)] rfl rfl (HCN.out wy) (by simp [Value.oneCell']) (fun e=>by cases e) (by omega) (by simp;have:=HB6.out.size;omega) ?_;intro v7 w7 ho7 hg7;have HR7:=Lib.hid ho7;have HB7:Hid (Below w.heap.size w w7):=(HB6.out.alloc HB6.out.size _).grown hg7 (by rw [hszA];have:=HB6.out.size;omega) HR6.out.above
      have HM7:Hid ((xs++ [((y,.slice E x.data.length cc):NodP)]).map (·.1)=(qeG l).take (i+1)):=by
       unfold Hid;rw [List.map_append,HM.out,List.take_succ_eq_append_getElem (by rw [qbT];exact hi1),HGa.out,←HY0.out];rfl
      have HD7:Hid (∀z∈xs++ [((y,.slice E x.data.length cc):NodP)],qd1 w z.2 z.1.data):=fun z hz=>by
       rcases List.mem_append.1 hz with a|a
       ·exact HDT.out z a
       ·obtain rfl:z=(y,.slice E x.data.length cc):=by simpa using a
        exact HDY.out
      have hl7:(xs++ [((y,.slice E x.data.length cc):NodP)]).length=i+1:=by rw [List.length_append,List.length_singleton];omega
      clear ho7 hg7 e0 e1 e2 e3 e4 e5 e6 e7 e8 e9 eA eB;go_wp2_with fail;go_roundw
      case rel=>exact ⟨i+1,_,by omega,by go_num,hl7,HR7.out,HM7.out,HD7.out,HB7.out⟩
      case measure=>simp [intOf];omega
  ·obtain rfl:i=n:=by omega
   have hm9:=HM.out;rw [List.take_of_length_le (by rw [qbT,HN.out];omega)]at hm9;have HC:=Lib.hid (HFin.out _ xs _ HR.out hm9 HDT.out HB.out);clear hm9;go_wp2_with fail;refine HC.out.mono ?_;rintro e w9 ⟨v,xs,rfl,h1,h2,h3⟩;have HV:=Lib.hid (And.intro h1 (And.intro h2 h3));clear h1 h2 h3;go_wp2_with fail;refine bodyPost_ret (v:= .tuple #[v,.int .i64 0]) (by simp [results,Tryz.results29,go_sem, *]) rfl ?_;exact ⟨v,xs,rfl,HV.out.1,HV.out.2.1,HV.out.2.2⟩
theorem q1H (A:Option Addr) (n c:Nat) (l:List EntV) (hn:l.length=n) (hc:SlOk A n c) (hsz: ∀x∈l,x.sz) (w:World) (hA:qcO w A l):
  Calls Tryz.prog 29 #[.slice A n c] w fun e w'=> ∃v xs,e= .returned (.tuple #[v,.int .i64 (qbE l)])∧xs.map (·.1)=qs9 l∧OwnN w' w.heap.size v xs∧Below w.heap.size w w':=by
 by_cases hE:qbE l=0
 ·have:=q5O A n c l hn hc hsz w hA hE;unfold qs9;rw [if_pos hE,hE];exact this
 ·have H1:=Lib.hid (qmB A n c l hn hc hsz w hA);unfold qs9;rw [if_neg hE];obtain ⟨E,HEE⟩:=qaA (qbE l);rw [HEE.out]at H1 hE⊢;have hne:(E==0)=false:=by simpa using hE
  clear hn hc hsz hA hE;go_enter Tryz.func29,Tryz.ntmps29;go_wp2_with fail;refine H1.out.mono ?_;rintro e w1 ⟨rfl,hB⟩;have HB1:=Lib.hid hB;clear hB H1;go_wp2_with fail;refine bodyPost_ret (v:= .tuple #[.slice none 0 0,.int .i64 E]) (by simp [results,Tryz.results29,go_sem, *]) rfl ?_;exact ⟨_, [],rfl,rfl,OwnN.nil _ _,HB1.out⟩
end Go.Proofs.YtapgoifimhnbdaaGreatDoor
