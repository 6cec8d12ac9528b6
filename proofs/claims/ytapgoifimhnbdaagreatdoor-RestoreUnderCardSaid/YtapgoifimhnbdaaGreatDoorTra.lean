/- qaX of one kind, in one file: TrgE, TrgF. -/
import Derived.Test.YtapgoifimhnbdaaGreatDoorNod
import Derived.Test.YtapgoifimhnbdaaGreatDoorFld
import Derived.Laws.MakeOwn
import Derived.Below
import Derived.Deep.DeepCutAuto
set_option linter.unusedVariables false
set_option maxRecDepth 100000
namespace Go.Proofs.YtapgoifimhnbdaaGreatDoor
open Go.RowKit
open Go.OpenShut
open Go.Deep
def qdZ:Array Value:= #[.string ⟨#[]⟩,.int .i64 0,.int .i64 0,.string ⟨#[]⟩,.int .i64 0,.int .i64 0,.int .i64 0,.string ⟨#[]⟩,.string ⟨#[]⟩,.int .i64 0,.int .i64 0,.slice none 0 0]
theorem q80:(Tryz.prog.info? 49).map (fun i=>(i.zero,i.size,i.bytes))=some (some (.agg qdZ),12,144):=by kernel_rfl
theorem q5J (x:NodeV) (v:Value) (hv:v.oneCell'=true): ∀u∈nodV x v,u.oneCell'=true:=by
 intro u hu;unfold nodV at hu;simp only [List.mem_cons,List.not_mem_nil,or_false]at hu;rcases hu with rfl|rfl|rfl|rfl|rfl|rfl|rfl|rfl|rfl|rfl|rfl|rfl
 all_goals first|rfl|exact hv
theorem q4F (ys:List NodP) (h: ∀y∈ys,y.2.oneCell'=true): ∀u∈rowN ys,u.oneCell'=true:=by
 intro u hu;unfold rowN at hu;obtain ⟨y,hy,hu⟩:=List.mem_flatMap.1 hu;exact q5J y.1 y.2 (h y hy) u hu
theorem qcZ.one {w:World} {v:Value} {l:List UInt8} (h:qcZ w v l):v.oneCell'=true:=by
 obtain ⟨D,c,rfl,-⟩:=h;rfl
def qdK (w:World) (A:Option Addr) (ys:List NodP):Prop:= ∀ad,A=some ad→ ∀j u,(rowN ys)[j]?=some u→w.cell? (ad.add j)=some u
theorem qaJ.row {w:World} {A:Option Addr} {l:List NodeV} (h:qaJ w A l): ∃ys:List NodP,ys.map (·.1)=l∧qdK w A ys∧ ∀y∈ys,qcZ w y.2 y.1.data:=by
 have key: ∀j,j<l.length→ ∃v:Value,qcZ w v (l[j]!).data∧ ∀ad,A=some ad→ ∀i,i<12→w.cell? (ad.add (j*12+i))=(nodV (l[j]!) v)[i]?:=fun j hj=>by
  obtain ⟨b,o,D,c,e,h12,hs,hd⟩:=h j hj;rw [getElem!_pos l j hj];refine ⟨.slice D l[j].data.length c,⟨D,c,rfl,hs,hd⟩,fun ad ha i hi=> ?_⟩;rw [e]at ha;injection ha with ha
  subst ha;rw [Addr.add_lit,←nodC_eq,←h12 i hi,Nat.add_assoc]
 obtain ⟨f,hf⟩:=choose_lt key;refine ⟨(List.range l.length).map fun j=>(l[j]!,f j),?_,fun ad ha j u hu=> ?_,fun y hy=> ?_⟩
 ·rw [List.map_map];apply List.ext_getElem
  ·simp
  ·intro i h1 h2;simp at h1;simp [h1]
 ·have hj:j<l.length*12:=by
   have:=(List.getElem?_eq_some_iff.1 hu).1
   rwa [qbT,List.length_map,List.length_range]at this
  have hq:j/12<l.length:=by omega
  have h1:=qeX ((List.range l.length).map fun j=>((l[j]!,f j):NodP)) (j/12) (j%12) (by simpa using hq) (by omega);rw [show j/12*12+j%12=j by omega,hu]at h1;have h2:=(hf (j/12) hq).2 ad ha (j%12) (by omega);rw [show j/12*12+j%12=j by omega]at h2;rw [h2,h1];simp
 ·obtain ⟨j,hj,rfl⟩:=List.mem_map.1 hy;exact (hf j (List.mem_range.1 hj)).1
theorem qaJ.cells2 {w:World} {A:Option Addr} {l:List NodeV} (h:qaJ w A l) (j:Nat) (hj:j<l.length): ∃(b o:Nat) (D:Option Addr) (c:Nat),A=some ⟨b,o,none⟩∧b<w.heap.size∧SlOk D l[j].data.length c∧qaE w D l[j].data∧ ∀W:World,Below w.heap.size w W→
  W.cell? ⟨b,o+j*12,none⟩=some (.string (bs l[j].path))∧W.cell? ⟨b,o+j*12+1,none⟩=some (.int .i64 l[j].kind)∧W.cell? ⟨b,o+j*12+2,none⟩=some (.int .i64 l[j].same)∧W.cell? ⟨b,o+j*12+3,none⟩=some (.string (bs l[j].target))∧
  (W.cell? ⟨b,o+j*12+4,none⟩=some (.int .i64 l[j].md.mode)∧W.cell? ⟨b,o+j*12+5,none⟩=some (.int .i64 l[j].md.uid)∧W.cell? ⟨b,o+j*12+6,none⟩=some (.int .i64 l[j].md.gid)∧W.cell? ⟨b,o+j*12+7,none⟩=some (.string (bs l[j].md.user))∧W.cell? ⟨b,o+j*12+8,none⟩=some (.string (bs l[j].md.group))∧W.cell? ⟨b,o+j*12+9,none⟩=some (.int .i64 l[j].md.second)∧W.cell? ⟨b,o+j*12+10,none⟩=some (.int .i64 l[j].md.nano))∧
  W.cell? ⟨b,o+j*12+11,none⟩=some (.slice D l[j].data.length c):=by
 obtain ⟨b,o,D,c,e,c0,c1,c2,c3,⟨c4,c5,c6,c7,c8,c9,cA⟩,cB,hs,hd⟩:=h.cells j hj;have hlt:b<w.heap.size:=World.block_lt_of_cell? w _ c0;refine ⟨b,o,D,c,e,hlt,hs,hd,fun W hb=> ?_⟩;have hc: ∀i,W.cell? ⟨b,i,none⟩=w.cell? ⟨b,i,none⟩:=fun i=>hb.cell (p:=⟨b,i,none⟩) hlt;simp only [hc];exact ⟨c0,c1,c2,c3,⟨c4,c5,c6,c7,c8,c9,cA⟩,cB⟩
theorem qcH {w:World} {ops:Array Oper} {rest:List Oper} {o:Oper} {a:Act} {Q:Exit→Act→World→Prop} (hgd:o.guard=none) (s x:Operand)
  (ho:o.op= .call {callee:= .builtin .append,args:= #[s,x],argTypes:= #[23,23] }) (B:Nat) (v:Value) (xs:List NodP) (hs:a.eval s=v) (hown:RowN w B v xs)
  (A:Option Addr) (m c:Nat) (ys:List NodP) (hx:a.eval x= .slice A m c) (hl:ys.length=m) (hA:qdK w A ys) (hy1: ∀y∈ys,y.2.oneCell'=true) (hc:A=none→c=0∧m=0) (hbig:(xs.length+m)*144≤140737488355328) (hB:B≤w.heap.size)
  (h: ∀v' w',RowN w' B v' (xs++ys)→w.grownBy w' v.ownBlock→wpList Tryz.prog ops Q rest (a.put o.dst v') w'):wpList Tryz.prog ops Q (o::rest) a w:=by
 obtain ⟨i0,hi,hz0,hz1,hz2⟩:=info_parts q80;cases A with
 |none=>
  obtain ⟨rfl,rfl⟩:=hc rfl;obtain rfl:=List.eq_nil_of_length_eq_zero hl;refine wpList_append_own_none hgd s x 23 ho B 49 i0 12 Tryz.underlying23 hi v _ _ hs hown hx ?_;exact h v w (by rw [List.append_nil];exact hown) ⟨rfl,rfl,rfl,Nat.le_refl _,fun _ _ _=>rfl⟩
 |some ad=>
  refine wpList_append_own _ hgd s x 23 ho B 49 i0 _ 12 144 Tryz.underlying23 hi hz0 hz1 hz2 rfl (by decide) v _ _ hs hown ad m c (rowN ys) hx (by rw [qbT,hl]) (hA ad rfl) (q4F ys hy1) (by unfold maxLen;omega) hbig hB ?_;intro v6 w6 hown6 hgrow _;exact h v6 w6 (by unfold RowN;rw [List.length_append,qlW,hl];exact hown6) hgrow
theorem qg9 (w:World) (y:NodP):qdK (w.alloc (.cells (nodV y.1 y.2).toArray 49)) (some ⟨w.heap.size,0,none⟩) [y]:=fun ad ha j u hu=>by
 injection ha with ha
 subst ha;rw [qyJ]at hu;rw [Addr.add_lit,Nat.zero_add];have:=(Blk.new w 49 (nodV y.1 y.2).toArray).cell j;rw [this,List.getElem?_toArray];exact hu
theorem OwnN.push {w w':World} {B:Nat} {v v':Value} {xs:List NodP} {y:NodP} (h:OwnN w B v xs) (hy:OwnB w B y.2 y.1.data) (hr:RowN w' B v' (xs++ [y])) (hg:w.grownBy w' v.ownBlock):OwnN w' B v' (xs++ [y]):=by
 refine ⟨hr,fun x hx=> ?_⟩;rcases List.mem_append.1 hx with a|a
 ·exact (h.2 x a).grown hg fun g e e2=>qgU (h.2 x a) h.1 g e e2
 ·obtain rfl:x=y:=by simpa using a
  exact hy.grown hg fun g e e2=>qgU hy h.1 g e e2
theorem OwnN.alloc {w:World} {B:Nat} {v:Value} {xs:List NodP} (h:OwnN w B v xs) (o:Obj):OwnN (w.alloc o) B v xs:=⟨h.1.alloc o,fun x hx=>(h.2 x hx).alloc o⟩
theorem RowN.above {w:World} {B:Nat} {v:Value} {xs:List NodP} (h:RowN w B v xs): ∀g,v.ownBlock=some g→B≤g:=fun g e=>(World.ownsRow.lt h g e).1
theorem qpX (w:World) (n:Nat) (hn:n*144≤140737488355328) (i0:TypeInfo) (hi:Tryz.prog.info? 49=some i0) (hz0:i0.zero=some (.agg qdZ)) (hz1:i0.size=12) (hz2:i0.bytes=144):
  ∃M:Array Value,(∀W:World,(Instr.makeSlice 23 (.int .i64 0) (.int .i64 (n:Int))).run Tryz.prog W= .ok (.slice (some ⟨W.heap.size,0,none⟩) 0 n) (W.alloc (.cells M 49)))∧
   ∀(W:World) (B:Nat),B≤W.heap.size→OwnN (W.alloc (.cells M 49)) B (.slice (some ⟨W.heap.size,0,none⟩) 0 n) []:=by
 obtain ⟨M,hM⟩: ∃M,M=madeCells (Value.agg qdZ).cells (((n:Nat):Int).toNat*i0.size):=⟨_,rfl⟩;have hMs:M.size=n*12:=by rw [hM,hz1,Int.toNat_natCast];simp [madeCells]
 refine ⟨M,fun W=> ?_,fun W B hB=>⟨?_,fun x hx=>by simp at hx⟩⟩
 ·have h:=run_make (P:=Tryz.prog) W 23 49 i0 (.agg qdZ) Tryz.underlying23 hi hz0 .i64 .i64 0 (n:Int) (by omega) (by omega) (by rw [hz2];omega) (by omega);rw [←hM]at h;simpa using h
 ·exact ⟨rfl,.inr ⟨W.heap.size,n,M,rfl,hB,heap_alloc_new W _,Nat.zero_le _,by unfold maxLen;omega,hMs,rfl⟩⟩
theorem OwnB.setBelow {w:World} {B:Nat} {v:Value} {l:List UInt8} (h:OwnB w B v l) {g:Nat} (hg:g<B) (i:Nat) (u:Value):OwnB (w.setCell ⟨g,i,none⟩ u) B v l:=ownsRow_setCell_below h (a:=⟨g,i,none⟩) hg u
def CpS (w:World) (cs:Array Value) (W:World):Prop:=Blk W w.heap.size 49 cs∧Blk W (w.heap.size+1) 49 qdZ∧Below w.heap.size w W
theorem CpS.start (w:World) (cs:Array Value):CpS w cs ((w.alloc (.cells cs 49)).alloc (.cells qdZ 49)):=by
 refine ⟨(Blk.new w 49 cs).alloc _,?_,qaL (qaL (Below.refl _ _) _) _⟩;have:=Blk.new (w.alloc (.cells cs 49)) 49 qdZ
 rwa [hszA]at this
theorem CpS.below {w W W':World} {cs:Array Value} (h:CpS w cs W) (hb:Below W.heap.size W W'):CpS w cs W':=⟨h.1.below hb h.1.lt,h.2.1.below hb h.2.1.lt,h.2.2.trans (hb.mono h.2.2.size)⟩
theorem CpS.set {w W:World} {cs:Array Value} (h:CpS w cs W) (i:Nat) (v:Value):CpS w (cs.setIfInBounds i v) (W.setCell ⟨w.heap.size,i,none⟩ v):=
 ⟨h.1.set_ i v,h.2.1.far (p:=⟨w.heap.size,i,none⟩) (by show w.heap.size+1≠w.heap.size;omega) v,Below.set1 h.2.2 (Nat.le_refl _) i v⟩
set_option maxHeartbeats 8000000 in
theorem q2O (x:NodeV) (D:Option Addr) (c:Nat) (hx:x.sz) (w:World) (hD:qaE w D x.data):
  Calls Tryz.prog 118 #[.agg (nodC x D c).toArray] w fun e w'=> ∃v,e= .returned (.agg (nodV x v).toArray)∧OwnB w' w.heap.size v x.data∧Below w.heap.size w w':=by
 obtain ⟨path,kind,same,target,⟨m0,m1,m2,m3,m4,m5,m6⟩,data⟩:=x;obtain ⟨⟨z1,z2,z3⟩,z4,z5⟩:=hx;simp only at z1 z2 z3 z4 z5 hD;unfold nodC nodV;simp only;have k1:(bs path).size≤281474976710656:=by rw [qaC];omega
 have k2:(bs target).size≤281474976710656:=by rw [qaC];omega
 have k3:(bs m3).size≤281474976710656:=by rw [qaC];omega
 have k4:(bs m4).size≤281474976710656:=by rw [qaC];omega
 obtain ⟨P,hP⟩:=qaA (bs path);obtain ⟨T,hT⟩:=qaA (bs target);obtain ⟨U,hU⟩:=qaA (bs m3);obtain ⟨G,hG⟩:=qaA (bs m4);rw [hP.out,hT.out,hU.out,hG.out];rw [hP.out]at k1;rw [hT.out]at k2;rw [hU.out]at k3;rw [hG.out]at k4;have h0:=CpS.start w #[.string P,.int .i64 kind,.int .i64 same,.string T,.int .i64 m0,.int .i64 m1,.int .i64 m2,.string U,.string G,.int .i64 m5,.int .i64 m6,.slice D data.length c];have HD:=Lib.hid hD;have HL:Hid (data.length≤140737488351232):=z3;obtain ⟨L,hL⟩:=qaA data.length;rw [hL.out]at h0⊢;clear hP hT hU hG hD z1 z2 z3 z4 z5;go_enter Tryz.func118,Tryz.ntmps118;go_wp2_with fail;refine (qa5 P _ k1).mono ?_;rintro e w1 ⟨rfl,hb⟩;have h1:=h0.below hb;clear h0 hb;obtain ⟨⟨c0,c1,c2,c3,c4,c5,c6,c7,c8,c9,cA,cB⟩,f0,f1,f2,f3,f4,f5,f6,f7,f8,f9,fA,fB⟩:=qbC h1.1;have s1:=h1.set 0 (.string P);simp only [List.setIfInBounds_toArray,List.set_cons_zero]at s1;clear h1;go_wp2_with fail;clear c0 c1 c2 c3 c4 c5 c6 c7 c8 c9 cA cB f0 f1 f2 f3 f4 f5 f6 f7 f8 f9 fA fB;refine (qa5 T _ k2).mono ?_;rintro e w2 ⟨rfl,hb⟩;have h2:=s1.below hb;clear s1 hb;obtain ⟨⟨c0,c1,c2,c3,c4,c5,c6,c7,c8,c9,cA,cB⟩,f0,f1,f2,f3,f4,f5,f6,f7,f8,f9,fA,fB⟩:=qbC h2.1;have s2:=h2.set 3 (.string T);simp only [List.setIfInBounds_toArray,List.set_cons_zero,List.set_cons_succ]at s2;clear h2;go_wp2_with fail;clear c0 c1 c2 c3 c4 c5 c6 c7 c8 c9 cA cB f0 f1 f2 f3 f4 f5 f6 f7 f8 f9 fA fB;refine (qa5 U _ k3).mono ?_;rintro e w3 ⟨rfl,hb⟩;have h3:=s2.below hb;clear s2 hb
 obtain ⟨⟨c0,c1,c2,c3,c4,c5,c6,c7,c8,c9,cA,cB⟩,f0,f1,f2,f3,f4,f5,f6,f7,f8,f9,fA,fB⟩:=qbC h3.1;have s3:=h3.set 7 (.string U);simp only [List.setIfInBounds_toArray,List.set_cons_zero,List.set_cons_succ]at s3;clear h3;go_wp2_with fail;clear c0 c1 c2 c3 c4 c5 c6 c7 c8 c9 cA cB f0 f1 f2 f3 f4 f5 f6 f7 f8 f9 fA fB;refine (qa5 G _ k4).mono ?_;rintro e w4 ⟨rfl,hb⟩;have h4:=s3.below hb;clear s3 hb;obtain ⟨⟨c0,c1,c2,c3,c4,c5,c6,c7,c8,c9,cA,cB⟩,f0,f1,f2,f3,f4,f5,f6,f7,f8,f9,fA,fB⟩:=qbC h4.1;have s4:=h4.set 8 (.string G);simp only [List.setIfInBounds_toArray,List.set_cons_zero,List.set_cons_succ]at s4;clear h4;go_wp2_with fail;clear c0 c1 c2 c3 c4 c5 c6 c7 c8 c9 cA cB f0 f1 f2 f3 f4 f5 f6 f7 f8 f9 fA fB;refine (qhA D L c data hL.out (by rw [←hL.out];exact HL.out) _ (HD.out.below s4.2.2)).mono ?_;rintro e w5 ⟨v,rfl,hO,hb⟩;have h5:=s4.below hb;obtain ⟨Av,cv,rfl,-,-⟩:=hO.form;rw [hL.out]at hO⊢;have HO:=Lib.hid hO;have HB:Hid (w.heap.size+1<(w4.setCell ⟨w.heap.size,8,none⟩ (.string G)).heap.size):=s4.2.1.lt;have s5:=h5.set 11 (.slice Av L cv);simp only [List.setIfInBounds_toArray,List.set_cons_zero,List.set_cons_succ]at s5;obtain ⟨⟨c0,c1,c2,c3,c4,c5,c6,c7,c8,c9,cA,cB⟩,f0,f1,f2,f3,f4,f5,f6,f7,f8,f9,fA,fB⟩:=qbC h5.1;obtain ⟨⟨y0,y1,y2,y3,y4,y5,y6,y7,y8,y9,yA,yB⟩,g0,g1,g2,g3,g4,g5,g6,g7,g8,g9,gA,gB⟩:=qbC h5.2.1;have HS:=Lib.hid h5;clear s4 hO hb s5 h5;go_wp2_with fail
 refine bodyPost_ret (v:= .agg #[.string P,.int .i64 kind,.int .i64 same,.string T,.int .i64 m0,.int .i64 m1,.int .i64 m2,.string U,.string G,.int .i64 m5,.int .i64 m6,.slice Av L cv]) (by simp [results,Tryz.results118,go_sem, *]) rfl ⟨_,rfl,?_,?_⟩
 ·refine OwnB.mono (B:=(w4.setCell ⟨w.heap.size,8,none⟩ (.string G)).heap.size) ?_ (by have:=HB.out;omega);have hB1:=HB.out;have hB0:w.heap.size<(w4.setCell ⟨w.heap.size,8,none⟩ (.string G)).heap.size:=by omega
  iterate 12 refine OwnB.setBelow ?_ hB1 _ _
  refine OwnB.setBelow ?_ hB0 _ _;exact HO.out
 ·exact Below.set12 (Below.set1 HS.out.2.2 (Nat.le_refl _) 11 _) (by omega) _ _ _ _ _ _ _ _ _ _ _ _
end Go.Proofs.YtapgoifimhnbdaaGreatDoor
namespace Go.Proofs.YtapgoifimhnbdaaGreatDoor
open Go.RowKit
open Go.OpenShut
theorem RowN.row {w:World} {B:Nat} {v:Value} {xs:List NodP} (h:RowN w B v xs) (hx:0<xs.length): ∃g cap,v= .slice (some ⟨g,0,none⟩) xs.length cap∧B≤g∧g<w.heap.size∧xs.length≤cap∧cap≤maxLen:=by
 have h':=h;unfold RowN World.ownsRow at h;rcases h.2 with ⟨rfl,h0⟩|⟨g,cap,cur,rfl,hB,hg,hcap,hm,hs,ht⟩
 ·omega
 ·exact ⟨g,cap,rfl,hB,(World.ownsRow.lt h' g rfl).2,hcap,hm⟩
theorem qrQ {l:List NodeV} {xs:List NodP} {k:Nat} (hk:k<l.length) (h:xs.map (·.1)=l.take k) (v:Value):(xs++ [(l[k],v)]).map (·.1)=l.take (k+1):=by
 rw [List.map_append,h,List.take_succ_eq_append_getElem hk];rfl
theorem map_len {l:List NodeV} {xs:List NodP} {k:Nat} (hk:k≤l.length) (h:xs.map (·.1)=l.take k):xs.length=k:=by
 have:=congrArg List.length h;rw [List.length_map,List.length_take]at this;omega
set_option maxHeartbeats 4000000 in
theorem qjX (A:Option Addr) (n c:Nat) (l:List NodeV) (hn:l.length=n) (hm:n*144≤140737488351232) (hsz: ∀x∈l,x.sz) (w:World) (hA:qaJ w A l):
  Calls Tryz.prog 73 #[.slice A n c] w fun e w'=> ∃v xs,e= .returned v∧xs.map (·.1)=l∧OwnN w' w.heap.size v xs∧Below w.heap.size w w':=by
 obtain ⟨i0,hi,hz0,hz1,hz2⟩:=info_parts q80;obtain ⟨M,hmk,hown⟩:=qpX w n (by omega) i0 hi hz0 hz1 hz2;have HO:=Lib.hid (hown w w.heap.size (Nat.le_refl _));have HB0:Hid (Below w.heap.size w (w.alloc (.cells M 49))):=(Below.refl _ _).alloc (Nat.le_refl _) _;have HN:=Lib.hid hn;have HA:=Lib.hid hA;have HSZ:=Lib.hid hsz;clear hn hA hsz hown hi hz0 hz1 hz2;go_enter Tryz.func73,Tryz.ntmps73;go_wp2_with fail
 go_loopw [3,11] (fun ov i wr=> ∃k:Nat,k≤n∧i= .int .i64 k∧ ∃xs:List NodP,Hid (OwnN wr w.heap.size ov xs)∧Hid (xs.map (·.1)=l.take k)∧Hid (Below w.heap.size w wr)) (fun _ i _=>n-(intOf i).toNat)
 case atStart=>exact ⟨0,Nat.zero_le _,rfl, [],HO.out,by unfold Hid;rw [List.take_zero];rfl,HB0.out⟩
 case round=>
  obtain ⟨k,hk,rfl,xs,HX,HT,HB⟩:=hrel
  by_cases hlt:k<n
  ·have hk1:k<l.length:=by rw [HN.out];exact hlt
   obtain ⟨b,o,D,cc,rfl,c0,c1,c2',c3,⟨c4,c5,c6,c7,c8,c9,cA⟩,cB,-,hD⟩:=(HA.out.below HB.out).cells k hk1;have hxsz:=HSZ.out _ (List.getElem_mem hk1);have HT2:=Lib.hid fun v=>qrQ hk1 HT.out v;have hlen:=map_len (by omega) HT.out;generalize hx:l[k]=x at*;have HC:=Lib.hid fun W h=>q2O x D cc hxsz W h;unfold nodC at HC;have HD:=Lib.hid hD;clear hD hxsz hx;go_upto_region 5 with fail
   have HBl:=Blk.new wr 49 #[.string (bs x.path),.int .i64 x.kind,.int .i64 x.same,.string (bs x.target),.int .i64 x.md.mode,.int .i64 x.md.uid,.int .i64 x.md.gid,.string (bs x.md.user),.string (bs x.md.group),.int .i64 x.md.second,.int .i64 x.md.nano,.slice D x.data.length cc];have hBa: ∀o,Below wr.heap.size wr (wr.alloc o):=fun o=>qaL (Below.refl _ _) o;generalize hwa:wr.alloc _=wa at HBl⊢;have HBa:Hid (Below wr.heap.size wr wa):=by rw [←hwa];exact hBa _
   obtain ⟨⟨e0,e1,e2,e3,e4,e5,e6,e7,e8,e9,eA,eB⟩,-⟩:=qbC HBl;clear hwa c0 c1 c2' c3 c4 c5 c6 c7 c8 c9 cA cB HBl hBa;go_wp2_with fail;refine (HC.out _ (HD.out.below HBa.out)).mono ?_;rintro e w5 ⟨v,rfl,hO,hb⟩;have HBr:Hid (Below wr.heap.size wr w5):=HBa.out.trans (hb.mono HBa.out.size);have HOv:=Lib.hid (hO.mono (B':=w.heap.size) (Nat.le_trans HB.out.size HBa.out.size));obtain ⟨Av,cv,rfl,-,-⟩:=hO.form;have HX5:=Lib.hid (HX.out.below HBr.out);have HB5:=Lib.hid (HB.out.trans (HBr.out.mono HB.out.size));unfold nodV;clear hO hb e0 e1 e2 e3 e4 e5 e6 e7 e8 e9 eA eB;go_wp2_with (at_builtin;refine Stay.go ?_);refine Stay.on ?_;refine qcH rfl (.tmp 15) (.tmp 18) rfl w.heap.size _ xs rfl (HX5.out.1.alloc _) (some ⟨w5.heap.size,0,none⟩) 1 1 [(x,.slice Av x.data.length cv)] rfl rfl (qg9 w5 (x,.slice Av x.data.length cv)) (by simp [Value.oneCell']) (fun e=>by cases e) (by omega) (by simp;have:=HB5.out.size;omega) ?_;intro v6 w6 hown6 hgrow;have HX6:=Lib.hid (OwnN.push (HX5.out.alloc _) (HOv.out.below (qaL (Below.refl w5.heap.size w5) _)|>.mono (Nat.le_refl _)) hown6 hgrow);have HB6:Hid (Below w.heap.size w w6):=(HB5.out.alloc HB5.out.size _).grown hgrow (by simp;have:=HB5.out.size;omega) HX5.out.1.above;have HT6:=Lib.hid (HT2.out (.slice Av x.data.length cv));clear hown6 hgrow;go_wp2_with fail;go_roundw
   case rel=>exact ⟨k+1,by omega,by go_num,_,HX6.out,HT6.out,HB6.out⟩
   case measure=>simp [intOf];omega
  ·obtain rfl:k=n:=by omega
   have HV:Hid (xs.map (·.1)=l):=by
    have:=HT.out
    rwa [List.take_of_length_le (by rw [HN.out];omega)]at this
   go_wp2_with fail;go_ret;exact ⟨_,xs,rfl,HV.out,HX.out,HB.out⟩
end Go.Proofs.YtapgoifimhnbdaaGreatDoor
