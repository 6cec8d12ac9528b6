/- qaV of one kind, in one file: MemA, MemB. -/
import Derived.Test.YtapgoifimhnbdaaGreatDoorMth
import Derived.Test.YtapgoifimhnbdaaGreatDoorEnc
import Derived.Test.YtapgoifimhnbdaaGreatDoorStp
import Derived.Test.YtapgoifimhnbdaaGreatDoorCut
import Derived.Test.YtapgoifimhnbdaaGreatDoorPxa
import Derived.StillTailTactics
import Derived.Deep.DeepCutAuto
import Derived.Test.YtapgoifimhnbdaaGreatDoorHdb
set_option linter.unusedVariables false
set_option maxRecDepth 100000
namespace Go.Proofs.YtapgoifimhnbdaaGreatDoor
open Go.RowKit
open Go.OpenShut
theorem qpO {w:World} {ops:Array Oper} {rest:List Oper} {o:Oper} {a:Act} {Q:Exit→Act→World→Prop} (hgd:o.guard=none) (s x:Operand)
  (ho:o.op= .call {callee:= .builtin .append,args:= #[s,x],argTypes:= #[145,145] }) (B:Nat) (v:Value) (l:List Rc) (hs:a.eval s=v) (hown:Own w B v l.length l)
  (g c:Nat) (r:Rc) (hx:a.eval x= .slice (some ⟨g,0,none⟩) 1 c) (hc:Blk w g 190 #[.string (bs r.1),.string (bs r.2)]) (hbig:l.length≤1000000) (hB:B≤w.heap.size)
  (h: ∀v' w',Own w' B v' (l++ [r]).length (l++ [r])→w.grownBy w' v.ownBlock→wpList Tryz.prog ops Q rest (a.put o.dst v') w'):wpList Tryz.prog ops Q (o::rest) a w:=by
 obtain ⟨i0,hi,hz0,hz1,hz2⟩:=info_parts qqU;refine wpList_append_own _ hgd s x 145 ho B 190 i0 _ 2 32 Tryz.underlying145 hi hz0 hz1 hz2 rfl (by decide) v _ _ hs hown.2 ⟨g,0,none⟩ 1 c [.string (bs r.1),.string (bs r.2)] hx rfl (fun j q hq=> ?_) (fun q hq=> ?_) (by unfold maxLen;omega) (by omega) hB ?_
 ·rw [Addr.add_lit,Nat.zero_add,hc.cell j,List.getElem?_toArray];exact hq
 ·simp only [List.mem_cons,List.not_mem_nil,or_false]at hq;rcases hq with rfl|rfl<;>rfl
 ·intro v6 w6 hown6 hgrow _;refine h v6 w6 ⟨rfl,?_⟩ hgrow;rw [qwG,qwE,List.length_append];exact hown6
def Ad (u:World) (mc:Array Value) (L:List Rc) (w:World):Prop:=
 (∃v,Blk w u.heap.size 145 #[v]∧Own w (u.heap.size+1) v L.length L)∧Blk w (u.heap.size+1) 47 mc∧Below u.heap.size u w
theorem Ad.below {u w w':World} {mc:Array Value} {L:List Rc} (h:Ad u mc L w) (hb:Below w.heap.size w w'):Ad u mc L w':=by
 obtain ⟨⟨v,h1,h2⟩,h3,h5⟩:=h;exact ⟨⟨v,h1.below hb h1.lt,h2.below hb⟩,h3.below hb h3.lt,h5.trans (hb.mono (Nat.le_of_lt h1.lt))⟩
theorem Ad.drew_ {u w:World} {mc:Array Value} {L:List Rc} (h:Ad u mc L w):Ad u mc L w.drew:=h.below (Below.refl _ _).drew
theorem Ad.drewN {u w:World} {mc:Array Value} {L:List Rc} (h:Ad u mc L w) (n:Nat):Ad u mc L (w.drewN n):=h.below (below_drewN (Below.refl _ _) n)
theorem Ad.tab {u w:World} {mc:Array Value} {L:List Rc} (h:Ad u mc L w) (T:Tab u):Tab w:=T.below h.2.2
theorem Ad.blk {u w:World} {mc cs:Array Value} {L:List Rc} {b t:Nat} (h:Ad u mc L w) (hb:Blk u b t cs):Blk w b t cs:=hb.below h.2.2 hb.lt
theorem Ad.new {u:World} {mc:Array Value} :Ad u mc [] ((u.alloc (.cells #[.slice none 0 0] 145)).alloc (.cells mc 47)):=by
 have h1:=Blk.new u 145 #[.slice none 0 0];have h2:=Blk.new (u.alloc (.cells #[.slice none 0 0] 145)) 47 mc;rw [hszA]at h2;exact ⟨⟨_,h1.alloc _,⟨rfl,World.ownsRow_nil _ _ _ _⟩⟩,h2,((Below.refl _ _).alloc (Nat.le_refl _) _).alloc (by rw [hszA];exact Nat.le_succ _) _⟩
def AdX (u:World) (mc:Array Value) (w:World):Prop:= ∃L,Ad u mc L w
theorem Ad.x {u w:World} {mc:Array Value} {L:List Rc} (h:Ad u mc L w):AdX u mc w:=⟨L,h⟩
theorem AdX.drew_ {u w:World} {mc:Array Value} (h:AdX u mc w):AdX u mc w.drew:=by obtain ⟨L,h⟩:=h;exact ⟨L,h.drew_⟩
theorem AdX.below {u w w':World} {mc:Array Value} (h:AdX u mc w) (hb:Below w.heap.size w w'):AdX u mc w':=by obtain ⟨L,h⟩:=h;exact ⟨L,h.below hb⟩
set_option maxHeartbeats 2000000 in
theorem qd0 {u w:World} {mc:Array Value} {L:List Rc} (H:Ad u mc L w) (hL:L.length≤7) (b:Bool) (K V:ByteArray):
  Calls Tryz.prog 269 #[.bool b,.string K,.string V,.pointer (some ⟨u.heap.size,0,none⟩)] w fun e w'=>e= .returned (.tuple #[])∧Ad u mc (L++qaP b K.data.toList V.data.toList) w':=by
 obtain ⟨⟨v,h1,h2⟩,h3,h5⟩:=H;obtain ⟨g,hg'⟩: ∃g,g=u.heap.size:=⟨_,rfl⟩;unfold Ad;rw [←hg']at h1 h2 h3 h5⊢;clear hg';have e0:=h1.cell 0;simp only [List.getElem?_toArray,List.getElem?_cons_zero]at e0;have f0:w.frozen? ⟨g,0,none⟩=false:=Lib.frozen_of_heap h1 0;cases b with
 |false=>
  have HA:Hid ((∃v,Blk w g 145 #[v]∧Own w (g+1) v (L++qaP false K.data.toList V.data.toList).length (L++qaP false K.data.toList V.data.toList))∧Blk w (g+1) 47 mc∧Below g u w):=by
   unfold Hid qaP;rw [if_neg (by decide),List.append_nil];exact ⟨⟨v,h1,h2⟩,h3,h5⟩
  clear h1 h2 h3 h5 e0 f0;go_enter Tryz.func269,Tryz.ntmps269;go_wp2_with fail
  go_end0
  exact ⟨rfl,HA.out⟩
 |true=>
  have hg:=h1.lt;have H1:=Lib.hid h1;have H2:=Lib.hid h2;have H3:=Lib.hid h3;have H5:=Lib.hid h5;have HR:Hid (L++qaP true K.data.toList V.data.toList=L++ [(K.data.toList,V.data.toList)]):=by unfold Hid qaP;rw [if_pos rfl]
  rw [HR.out];clear h1 h2 h3 h5 HR;go_enter Tryz.func269,Tryz.ntmps269;go_wp2_with (at_builtin;refine Stay.go ?_);refine Stay.on ?_;have hbn:=Blk.new w 190 #[.string (bs K.data.toList),.string (bs V.data.toList)];rw [qcJ,qcJ]at hbn;refine qpO rfl (.tmp 8) (.tmp 12) rfl (g+1) v L rfl (H2.out.alloc _) w.heap.size 1 (K.data.toList,V.data.toList) rfl (by simp only [qcJ];exact hbn) (by omega) (by rw [hszA];omega) ?_;intro v7 w7 ho7 hg7;obtain ⟨A7,c7,rfl⟩:=ho7.form
  have hne:some g≠v.ownBlock:=fun e=>by
   have:=(H2.out.above g e.symm);omega
  have b1:=(H1.out.alloc (.cells #[.string K,.string V] 190)).grown hg7 hne
  have hnm:some (g+1)≠v.ownBlock:=fun e=>by
   obtain ⟨-,cur,hc⟩:=qcS H2.out.2 (g+1) e.symm;have h3:=H3.out;unfold Blk at h3;rw [hc]at h3;simp only [Option.some.injEq,Obj.cells.injEq]at h3;exact absurd h3.2.1 (by decide)
  have b3:=(H3.out.alloc (.cells #[.string K,.string V] 190)).grown hg7 hnm;have b5:Below g u w7:=((H5.out.alloc (Nat.le_of_lt hg) _).grown hg7 (by rw [hszA];omega) fun g0 e=>by have:=(H2.out.above g0 e);omega);have c0:=b1.cell 0;simp only [List.getElem?_toArray,List.getElem?_cons_zero]at c0;have d0:w7.frozen? ⟨g,0,none⟩=false:=Lib.frozen_of_heap b1 0
  have HA:Hid ((∃v,Blk (w7.setCell ⟨g,0,none⟩ (.slice A7 (L++ [(K.data.toList,V.data.toList)]).length c7)) g 145 #[v]∧Own (w7.setCell ⟨g,0,none⟩ (.slice A7 (L++ [(K.data.toList,V.data.toList)]).length c7)) (g+1) v (L++ [(K.data.toList,V.data.toList)]).length (L++ [(K.data.toList,V.data.toList)]))∧Blk (w7.setCell ⟨g,0,none⟩ (.slice A7 (L++ [(K.data.toList,V.data.toList)]).length c7)) (g+1) 47 mc∧Below g u (w7.setCell ⟨g,0,none⟩ (.slice A7 (L++ [(K.data.toList,V.data.toList)]).length c7))):=by
   refine ⟨⟨.slice A7 (L++ [(K.data.toList,V.data.toList)]).length c7,?_,ho7.1,?_⟩,?_,b5.setCell (p:=⟨g,0,none⟩) (Nat.le_refl _) _⟩
   ·exact b1.set_ 0 _
   ·exact ownsRow_setCell_below ho7.2 (a:=⟨g,0,none⟩) (Nat.lt_succ_self g) _
   ·exact (Below.heap_setCell w7 ⟨g,0,none⟩ _ (g+1) (by show g+1≠g;omega)).trans b3
  clear ho7 hg7 b1 b3 b5 hbn hne hnm;go_wp2_with fail
  go_end0
  refine ⟨rfl,?_⟩;have h:=HA.out;simp only [List.length_append,List.length_cons,List.length_nil,Nat.zero_add]at h⊢;exact h
theorem Own.mono {w:World} {B B':Nat} {v:Value} {n:Nat} {l:List Rc} (h:Own w B v n l) (hB:B'≤B):Own w B' v n l:=⟨h.1,qqH h.2 hB⟩
theorem qeJ (b:Bool) (k v:List UInt8):(qaP b k v).length≤1:=by rw [q03];split<;>omega
theorem qgH {L:List Rc} {n:Nat} (h:L.length≤n) (b:Bool) (k v:List UInt8):(L++qaP b k v).length≤n+1:=by rw [List.length_append];have:=qeJ b k v;omega
theorem late_eq (a b:Int):decide (b≠0∨a<0∨8589934592≤a)=((b !=0)||(decide (a<0)||decide (8589934592≤a))):=by
 rw [Bool.eq_iff_iff,decide_eq_true_eq,Bool.or_eq_true,Bool.or_eq_true,bne_iff_ne,decide_eq_true_eq,decide_eq_true_eq]
set_option maxHeartbeats 8000000 in
theorem qqA (x:EntV) (D:Option Addr) (c:Nat) (hx:x.sz) (h0:entE x=0) (w:World) (T:Tab w):
  Calls Tryz.prog 223 #[.agg (entC x D c).toArray] w fun e w'=> ∃v,e= .returned (.tuple #[v,.int .i64 0])∧Own w' w.heap.size v (qaN x).length (qaN x)∧Below w.heap.size w w':=by
 have g:=qbU h0;have H1:=Lib.hid fun W=>qqB x D c hx W;rw [h0]at H1;have HTm:=Lib.hid fun W TW=>qbP x.md.second x.md.nano W TW;have HCt:=Lib.hid fun W=>qp9 (bs x.path) W (by rw [qaB];unfold maxLen;have:=g.path;omega);rw [qaH]at HCt;have HIg:=Lib.hid fun W TW=>qjN x.md.gid W TW (by have:=g.gid;omega) (by have:=g.gid;omega);have HIu:=Lib.hid fun W TW=>qjN x.md.uid W TW (by have:=g.uid;omega) (by have:=g.uid;omega)
 have HR:Hid (∀M:ByteArray,(qcD x.md.second x.md.nano).1=M→(((((((([]:List Rc)++qaP (decide (2097152≤x.md.gid)) kGid (bs (Lib.itoa x.md.gid)).data.toList)++qaP (decide (31<x.md.group.length)) qaO (bs x.md.group).data.toList)++qaP (decide (100<x.target.length)) qa6 (bs x.target).data.toList)++
  qaP (qkE x) qaM M.data.toList)++qaP (decide ((cutV x.path).2.2≠0)) qaZ (bs x.path).data.toList)++qaP (decide (2097152≤x.md.uid)) kUid (bs (Lib.itoa x.md.uid)).data.toList)++qaP (decide (31<x.md.user.length)) qaS (bs x.md.user).data.toList)=qaN x):=by
  rintro M rfl;unfold qaN;simp only [List.nil_append,List.append_assoc,qaH]
 obtain ⟨path,kind,target,⟨m0,m1,m2,m3,m4,m5,m6⟩,data⟩:=x;have hlate:qkE ⟨path,kind,target,⟨m0,m1,m2,m3,m4,m5,m6⟩,data⟩=((m6 !=0)||(decide (m5<0)||decide (8589934592≤m5))):=late_eq m5 m6;have z1:=g.path.2.1;have z2:=g.target.1;have z3:=g.user.1;have z4:=g.group.1;rw [hlate]at HR;unfold entC at H1⊢;simp only at H1 HTm HCt HIg HIu HR z1 z2 z3 z4⊢;generalize qaN _=RS at HR⊢;clear g h0 hx hlate;have s2:=qaB target;have s3:=qaB m3;have s4:=qaB m4;obtain ⟨TM,HTM⟩:=qaA (qcD m5 m6).1;rw [HTM.out]at HTm;replace HR:=Lib.hid (HR.out TM HTM.out);generalize (qcD m5 m6).2=te at HTm;generalize (cutV path).2.2=ce at HCt HR;generalize bs (cutV path).1=cp at HCt;generalize bs (cutV path).2.1=cn at HCt;obtain ⟨IG,HIG⟩:=qaA (bs (Lib.itoa m2));obtain ⟨IU,HIU⟩:=qaA (bs (Lib.itoa m1));rw [HIG.out]at HIg HR;rw [HIU.out]at HIu HR;obtain ⟨P,HP⟩:=qaA (bs path);obtain ⟨TG,HTG⟩:=qaA (bs target);obtain ⟨US,HUS⟩:=qaA (bs m3);obtain ⟨GR,HGR⟩:=qaA (bs m4);rw [HP.out]at HCt HR H1⊢;rw [HTG.out]at HR H1 s2⊢;rw [HUS.out]at HR H1 s3⊢;rw [HGR.out]at HR H1 s4⊢;rw [←s2,←s3,←s4]at HR;have y2:TG.size≤400:=by omega
 have y3:US.size≤60:=by omega
 have y4:GR.size≤60:=by omega
 clear HTM HIG HIU HP HTG HUS HGR s2 s3 s4 z1 z2 z3 z4;generalize hdl:data.length=dl at H1⊢;clear hdl;have HE0:=Lib.hid (Blk.new w 73 #[.string P,.int .i64 kind,.string TG,.int .i64 m0,.int .i64 m1,.int .i64 m2,.string US,.string GR,.int .i64 m5,.int .i64 m6,.slice D dl c]);have HW0:Hid (Below w.heap.size w (w.alloc (.cells #[.string P,.int .i64 kind,.string TG,.int .i64 m0,.int .i64 m1,.int .i64 m2,.string US,.string GR,.int .i64 m5,.int .i64 m6,.slice D dl c] 73))):=(Below.refl _ _).alloc (Nat.le_refl _) _;go_enter Tryz.func223,Tryz.ntmps223;go_wp2_with fail;refine (H1.out _).mono ?_;rintro e u ⟨rfl,hb⟩;have HE:=Lib.hid (HE0.out.below hb HE0.out.lt);have HWu:=Lib.hid (HW0.out.trans (hb.mono HW0.out.size));have HT:=Lib.hid (T.below HWu.out);clear hb HE0 HW0 H1;obtain ⟨mc,HMC⟩: ∃mc:Array Value,Hid (mc= #[.int .i64 m0,.int .i64 m1,.int .i64 m2,.string US,.string GR,.int .i64 m5,.int .i64 m6]):=⟨_,rfl⟩;have HA4:=Lib.hid (Ad.new (u:=u) (mc:=mc));obtain ⟨E0,E1,E2,E3,E4,E5,E6,E7,E8,E9,EA⟩:=qaF (HE.out.alloc (.cells #[.slice none 0 0] 145));go_upto_region 7 with fail
 rw [←HMC.out];generalize (u.alloc (.cells #[.slice none 0 0] 145)).alloc (.cells mc 47)=w4 at HA4⊢;clear E0 E1 E2 E3 E4 E5 E6 E7 E8 E9 EA;have hM: ∀(W:World) (L:List Rc),Ad u mc L W→Blk W (u.heap.size+1) 47 #[.int .i64 m0,.int .i64 m1,.int .i64 m2,.string US,.string GR,.int .i64 m5,.int .i64 m6]:=fun W L h=>by have:=h.2.1;rwa [HMC.out]at this
 have HM:=Lib.hid hM;have HEb:=Lib.hid fun (W:World) (L:List Rc) (h:Ad u mc L W)=>h.blk HE.out;clear hM;obtain ⟨⟨E0,E1,E2,E3,E4,E5,E6⟩,-⟩:=blk7 (HM.out _ _ HA4.out);go_wp2_with fail;refine (HTm.out _ (HA4.out.tab HT.out)).mono ?_;rintro e w5 ⟨rfl,hb5⟩;have HA5:=Lib.hid (HA4.out.below hb5);clear hb5 E0 E1 E2 E3 E4 E5 E6 HA4;obtain ⟨⟨E0,E1,E2,-⟩,-⟩:=qaF (HEb.out _ _ HA5.out);go_wp2_with fail;refine (HCt.out _).mono ?_;rintro e w6 ⟨rfl,n6,rfl⟩;have HA6:=Lib.hid (HA5.out.drewN n6);generalize w5.drewN n6=w6 at HA6⊢;clear E0 E1 E2 HA5;go_upto_region 9 with fail
 go_cut [43] (fun s wx=>Ad u mc ([]++qaP (decide (2097152≤m2)) kGid IG.data.toList) wx)
 case first=>
  have r0: ∀W:World,AdX u mc W→W.cell? ⟨u.heap.size+1,2,none⟩=some (.int .i64 m2):=fun W h=>by obtain ⟨L,h⟩:=h;exact (blk7 (HM.out _ _ h)).1.2.2.1
  have HI:=Lib.hid fun W (h:AdX u mc W)=>HIg.out W (by obtain ⟨L,h⟩:=h;exact h.tab HT.out);have HAd:=Lib.hid fun W (h:Ad u mc [] W)=>qd0 h (by decide) (decide (2097152≤m2)) ⟨#[103,105,100]⟩ IG;have hA:=HA6.out;have hS:=hA.x
  go_region_held3 (fun W=>AdX u mc W)
   (first
    |(with_reducible assumption)
    |(with_reducible exact Ad.x (by with_reducible assumption))
    |(with_reducible refine AdX.drew_ ?_;with_reducible assumption)
    |(with_reducible exact AdX.below (by with_reducible assumption) (by with_reducible assumption)))
   (first
    |(go_at_call 184;refine (HI.out _ (by first|with_reducible assumption|with_reducible exact AdX.drew_ (by with_reducible assumption))).mono ?_;rintro e w2 ⟨rfl,hb2⟩)
    |(go_at_call 269;refine (HAd.out _ (by first|with_reducible assumption|with_reducible exact Ad.drew_ (by with_reducible assumption)|with_reducible exact Ad.below (by with_reducible assumption) (by with_reducible assumption)|with_reducible exact Ad.below (Ad.drew_ (by with_reducible assumption)) (by with_reducible assumption))).mono ?_;rintro e w3 ⟨rfl,hA3⟩))
  all_goals
   go_wp2_with fail;go_meet;exact hA3
 case rest=>
  have hA9:=hcut;have hl9:(([]:List Rc)++qaP (decide (2097152≤m2)) kGid IG.data.toList).length≤1:=qgH (n:=0) (Nat.le_refl _) _ _ _;generalize hL9:([]:List Rc)++qaP (decide (2097152≤m2)) kGid IG.data.toList=L9 at hA9 hl9 HR;have HA9:=Lib.hid hA9;clear hcut hA9 hL9 HA6;obtain ⟨⟨E0,E1,E2,E3,E4,E5,E6⟩,-⟩:=blk7 (HM.out _ _ HA9.out);go_wp2_with fail;refine (qd0 HA9.out (Nat.le_trans hl9 (by decide)) _ _ _).mono ?_;rintro e w10 ⟨rfl,hA⟩;have hl10:=qgH hl9 (decide (31<GR.size)) qaO GR.data.toList
  have HA10:Hid (Ad u mc (L9++qaP (decide (31<GR.size)) qaO GR.data.toList) w10):=by
   refine cast (congrArg (fun b=>Ad u mc (L9++qaP b qaO GR.data.toList) w10) ?_) hA;exact decide_eq_decide.2 (by omega)
  generalize L9++qaP (decide (31<GR.size)) qaO GR.data.toList=L10 at HA10 hl10 HR;clear hA E0 E1 E2 E3 E4 E5 E6 HA9 hl9;obtain ⟨⟨E0,E1,E2,-⟩,-⟩:=qaF (HEb.out _ _ HA10.out);go_wp2_with fail;refine (qd0 HA10.out (Nat.le_trans hl10 (by decide)) _ _ _).mono ?_;rintro e w11 ⟨rfl,hA⟩;have hl11:=qgH hl10 (decide (100<TG.size)) qa6 TG.data.toList
  have HA11:Hid (Ad u mc (L10++qaP (decide (100<TG.size)) qa6 TG.data.toList) w11):=by
   refine cast (congrArg (fun b=>Ad u mc (L10++qaP b qa6 TG.data.toList) w11) ?_) hA;exact decide_eq_decide.2 (by omega)
  generalize L10++qaP (decide (100<TG.size)) qa6 TG.data.toList=L11 at HA11 hl11 HR;clear hA E0 E1 E2 HA10 hl10;obtain ⟨⟨E0,E1,E2,E3,E4,E5,E6⟩,-⟩:=blk7 (HM.out _ _ HA11.out);have hl12:=qgH hl11 (m6 !=0||(decide (m5<0)||decide (8589934592≤m5))) qaM TM.data.toList;generalize hbl:(m6 !=0||(decide (m5<0)||decide (8589934592≤m5)))=bl at hl12 HR;go_upto_region 12 with fail
  go_cut [75] (fun s wx=>Ad u mc (L11++qaP bl qaM TM.data.toList) wx)
  case first=>
   by_cases k6:m6=0
   ·subst k6
    by_cases k5:m5<0
    ·obtain rfl:bl=true:=by rw [←hbl];simp [k5]
     have HAd:=Lib.hid (qd0 HA11.out (Nat.le_trans hl11 (by decide)) (true) ⟨#[109,116,105,109,101]⟩ TM);go_wp2_with fail;refine HAd.out.mono ?_;rintro e w12 ⟨rfl,hA⟩;go_wp2_with fail;go_meet;exact hA
    ·obtain rfl:bl=decide (8589934592≤m5):=by rw [←hbl];simp [k5]
     have HAd:=Lib.hid (qd0 HA11.out (Nat.le_trans hl11 (by decide)) (decide (8589934592≤m5)) ⟨#[109,116,105,109,101]⟩ TM);go_wp2_with fail;refine HAd.out.mono ?_;rintro e w12 ⟨rfl,hA⟩;go_wp2_with fail;go_meet;exact hA
   ·obtain rfl:bl=true:=by rw [←hbl];simp [k6]
    have k6':(m6 !=0)=true:=by simpa using k6
    have HAd:=Lib.hid (qd0 HA11.out (Nat.le_trans hl11 (by decide)) (true) ⟨#[109,116,105,109,101]⟩ TM);go_wp2_with fail;refine HAd.out.mono ?_;rintro e w12 ⟨rfl,hA⟩;go_wp2_with fail;go_meet;exact hA
  case rest=>
   have HA12:=Lib.hid hcut;clear hcut hbl E0 E1 E2 E3 E4 E5 E6 HA11 hl11;generalize L11++qaP bl qaM TM.data.toList=L12 at HA12 hl12 HR;obtain ⟨⟨E0,E1,E2,-⟩,-⟩:=qaF (HEb.out _ _ HA12.out);go_wp2_with fail;refine (qd0 HA12.out (Nat.le_trans hl12 (by decide)) _ _ _).mono ?_;rintro e w13 ⟨rfl,hA⟩;have hl13:=qgH hl12 (decide (ce≠0)) qaZ P.data.toList
   have HA13:Hid (Ad u mc (L12++qaP (decide (ce≠0)) qaZ P.data.toList) w13):=by
    refine cast (congrArg (fun b=>Ad u mc (L12++qaP b qaZ P.data.toList) w13) ?_) hA;rw [Bool.eq_iff_iff,bne_iff_ne,decide_eq_true_eq]
   generalize L12++qaP (decide (ce≠0)) qaZ P.data.toList=L13 at HA13 hl13 HR;clear hA E0 E1 E2 HA12 hl12;go_upto_region 14 with fail
   go_cut [89] (fun s wx=>Ad u mc (L13++qaP (decide (2097152≤m1)) kUid IU.data.toList) wx)
   case first=>
    have r0: ∀W:World,AdX u mc W→W.cell? ⟨u.heap.size+1,1,none⟩=some (.int .i64 m1):=fun W h=>by obtain ⟨L,h⟩:=h;exact (blk7 (HM.out _ _ h)).1.2.1
    have HI:=Lib.hid fun W (h:AdX u mc W)=>HIu.out W (by obtain ⟨L,h⟩:=h;exact h.tab HT.out);have HAd:=Lib.hid fun W (h:Ad u mc L13 W)=>qd0 h (Nat.le_trans hl13 (by decide)) (decide (2097152≤m1)) ⟨#[117,105,100]⟩ IU;have hA:=HA13.out;have hS:=hA.x
    go_region_held3 (fun W=>AdX u mc W)
     (first
      |(with_reducible assumption)
      |(with_reducible exact Ad.x (by with_reducible assumption))
      |(with_reducible refine AdX.drew_ ?_;with_reducible assumption)
      |(with_reducible exact AdX.below (by with_reducible assumption) (by with_reducible assumption)))
     (first
      |(go_at_call 184;refine (HI.out _ (by first|with_reducible assumption|with_reducible exact AdX.drew_ (by with_reducible assumption))).mono ?_;rintro e w2 ⟨rfl,hb2⟩)
      |(go_at_call 269;refine (HAd.out _ (by first|with_reducible assumption|with_reducible exact Ad.drew_ (by with_reducible assumption)|with_reducible exact Ad.below (by with_reducible assumption) (by with_reducible assumption)|with_reducible exact Ad.below (Ad.drew_ (by with_reducible assumption)) (by with_reducible assumption))).mono ?_;rintro e w3 ⟨rfl,hA3⟩))
    all_goals
     go_wp2_with fail;go_meet;exact hA3
   case rest=>
    have HA14:=Lib.hid hcut;have hl14:=qgH hl13 (decide (2097152≤m1)) kUid IU.data.toList;generalize L13++qaP (decide (2097152≤m1)) kUid IU.data.toList=L14 at HA14 hl14 HR;clear hcut HA13 hl13;obtain ⟨⟨E0,E1,E2,E3,E4,E5,E6⟩,-⟩:=blk7 (HM.out _ _ HA14.out);go_wp2_with fail;refine (qd0 HA14.out (Nat.le_trans hl14 (by decide)) _ _ _).mono ?_;rintro e w15 ⟨rfl,hA⟩
    have HA15:Hid (Ad u mc (L14++qaP (decide (31<US.size)) qaS US.data.toList) w15):=by
     refine cast (congrArg (fun b=>Ad u mc (L14++qaP b qaS US.data.toList) w15) ?_) hA;exact decide_eq_decide.2 (by omega)
    rw [HR.out]at HA15;clear hA E0 E1 E2 E3 E4 E5 E6 HA14 hl14 HR;obtain ⟨⟨v,hv1,hv2⟩,-,hv3⟩:=HA15.out;obtain ⟨A9,c9,rfl⟩:=hv2.form;have e0:=hv1.cell 0;simp only [List.getElem?_toArray,List.getElem?_cons_zero]at e0;have HO:=Lib.hid (hv2.mono (Nat.le_trans HWu.out.size (Nat.le_succ _)));have HB:=Lib.hid (HWu.out.trans (hv3.mono HWu.out.size));generalize hn9:RS.length=n9 at e0 HO;clear hv1 hv2 hv3 HA15;go_wp2_with fail;refine bodyPost_ret (v:= .tuple #[.slice A9 n9 c9,.int .i64 0]) (by simp [results,Tryz.results223,go_sem, *]) rfl ?_;exact ⟨_,rfl,by rw [hn9];exact HO.out,HB.out⟩
def hdR (h:HeadV) (r:Rc):HeadV:=
 if r.1=kGid then {h with gid:=0} else if r.1=qaO then {h with group:= [] } else if r.1=qa6 then {h with link:=qfK} else if r.1=qaM then {h with time:=0}
 else if r.1=qaZ then {h with name:=qfK} else if r.1=kUid then {h with uid:=0} else if r.1=qaS then {h with user:= [] } else h
theorem qu7 (h:HeadV) (v:List UInt8):hdR h (kGid,v)= {h with gid:=0} :=if_pos rfl
theorem qm0 (h:HeadV) (v:List UInt8):hdR h (qaO,v)= {h with group:= [] } :=by rw [hdR,if_neg (by show¬qaO=kGid;decide),if_pos rfl]
theorem qqZ (h:HeadV) (v:List UInt8):hdR h (qa6,v)= {h with link:=qfK} :=by rw [hdR,if_neg (by show¬qa6=kGid;decide),if_neg (by show¬qa6=qaO;decide),if_pos rfl]
theorem qmZ (h:HeadV) (v:List UInt8):hdR h (qaM,v)= {h with time:=0} :=by
 rw [hdR,if_neg (by show¬qaM=kGid;decide),if_neg (by show¬qaM=qaO;decide),if_neg (by show¬qaM=qa6;decide),if_pos rfl]
theorem qqY (h:HeadV) (v:List UInt8):hdR h (qaZ,v)= {h with name:=qfK} :=by
 rw [hdR,if_neg (by show¬qaZ=kGid;decide),if_neg (by show¬qaZ=qaO;decide),if_neg (by show¬qaZ=qa6;decide),if_neg (by show¬qaZ=qaM;decide),if_pos rfl]
theorem qu6 (h:HeadV) (v:List UInt8):hdR h (kUid,v)= {h with uid:=0} :=by
 rw [hdR,if_neg (by show¬kUid=kGid;decide),if_neg (by show¬kUid=qaO;decide),if_neg (by show¬kUid=qa6;decide),if_neg (by show¬kUid=qaM;decide),if_neg (by show¬kUid=qaZ;decide),if_pos rfl]
theorem qmY (h:HeadV) (v:List UInt8):hdR h (qaS,v)= {h with user:= [] } :=by
 rw [hdR,if_neg (by show¬qaS=kGid;decide),if_neg (by show¬qaS=qaO;decide),if_neg (by show¬qaS=qa6;decide),if_neg (by show¬qaS=qaM;decide),if_neg (by show¬qaS=qaZ;decide),if_neg (by show¬qaS=kUid;decide),if_pos rfl]
theorem q6S (b:Bool) (h:HeadV) (v:List UInt8):(qaP b kGid v).foldl hdR h= {h with gid:=if b=true then 0 else h.gid} :=by
 unfold qaP;cases b
 ·rfl
 ·exact qu7 h v
theorem qzL (b:Bool) (h:HeadV) (v:List UInt8):(qaP b qaO v).foldl hdR h= {h with group:=if b=true then []else h.group} :=by
 unfold qaP;cases b
 ·rfl
 ·exact qm0 h v
theorem q3F (b:Bool) (h:HeadV) (v:List UInt8):(qaP b qa6 v).foldl hdR h= {h with link:=if b=true then qfK else h.link} :=by
 unfold qaP;cases b
 ·rfl
 ·exact qqZ h v
theorem qzK (b:Bool) (h:HeadV) (v:List UInt8):(qaP b qaM v).foldl hdR h= {h with time:=if b=true then 0 else h.time} :=by
 unfold qaP;cases b
 ·rfl
 ·exact qmZ h v
theorem q3E (b:Bool) (h:HeadV) (v:List UInt8):(qaP b qaZ v).foldl hdR h= {h with name:=if b=true then qfK else h.name} :=by
 unfold qaP;cases b
 ·rfl
 ·exact qqY h v
theorem q6R (b:Bool) (h:HeadV) (v:List UInt8):(qaP b kUid v).foldl hdR h= {h with uid:=if b=true then 0 else h.uid} :=by
 unfold qaP;cases b
 ·rfl
 ·exact qu6 h v
theorem qzJ (b:Bool) (h:HeadV) (v:List UInt8):(qaP b qaS v).foldl hdR h= {h with user:=if b=true then []else h.user} :=by
 unfold qaP;cases b
 ·rfl
 ·exact qmY h v
def qzD (x:EntV):HeadV:= {name:=(cutV x.path).2.1,pre:=(cutV x.path).1,link:=x.target,mode:=x.md.mode,uid:=x.md.uid,gid:=x.md.gid,size:=x.data.length,time:=x.md.second,typ:=typM x.kind,user:=x.md.user,group:=x.md.group}
theorem qw7 (x:EntV):(qaN x).foldl hdR (qzD x)=qbN x:=by
 unfold qaN;simp only [List.foldl_append,q6S,qzL,q3F,qzK,q3E,q6R,qzJ];unfold qbN qzD;simp only [decide_eq_true_eq]
def qu1:List (List UInt8):= [kGid,qaO,qa6,qaM,qaZ,kUid,qaS]
theorem qdO {b:Bool} {k v:List UInt8} {r:Rc} (h:r∈qaP b k v):r.1=k:=by
 unfold qaP at h
 split at h
 ·simp at h;rw [h]
 ·cases h
theorem qv9 {x:EntV} {r:Rc} (h:r∈qaN x):r.1∈qu1:=by
 unfold qaN at h;simp only [List.mem_append]at h;unfold qu1;simp only [List.mem_cons,List.not_mem_nil,or_false];rcases h with h|h|h|h|h|h|h
 ·exact .inl (qdO h)
 ·exact .inr (.inl (qdO h))
 ·exact .inr (.inr (.inl (qdO h)))
 ·exact .inr (.inr (.inr (.inl (qdO h))))
 ·exact .inr (.inr (.inr (.inr (.inl (qdO h)))))
 ·exact .inr (.inr (.inr (.inr (.inr (.inl (qdO h))))))
 ·exact .inr (.inr (.inr (.inr (.inr (.inr (qdO h))))))
theorem qhM (x:EntV):(qaN x).length≤7:=by
 unfold qaN;simp only [List.length_append];have h1:=qeJ (decide (2097152≤x.md.gid)) kGid (Lib.itoa x.md.gid);have h2:=qeJ (decide (31<x.md.group.length)) qaO x.md.group;have h3:=qeJ (decide (100<x.target.length)) qa6 x.target;have h4:=qeJ (qkE x) qaM (qcD x.md.second x.md.nano).1.data.toList;have h5:=qeJ (decide ((cutV x.path).2.2≠0)) qaZ x.path;have h6:=qeJ (decide (2097152≤x.md.uid)) kUid (Lib.itoa x.md.uid);have h7:=qeJ (decide (31<x.md.user.length)) qaS x.md.user;omega
def recO (x:EntV):List Rc:=if entE x=0 then qaN x else []
theorem q1C (x:EntV) (D:Option Addr) (c:Nat) (hx:x.sz) (w:World) (T:Tab w):
  Calls Tryz.prog 223 #[.agg (entC x D c).toArray] w fun e w'=> ∃v,e= .returned (.tuple #[v,.int .i64 (entE x)])∧Own w' w.heap.size v (recO x).length (recO x)∧Below w.heap.size w w':=by
 unfold recO
 by_cases h0:entE x=0
 ·rw [if_pos h0,h0];exact qqA x D c hx h0 w T
 ·rw [if_neg h0];have H1:=Lib.hid fun W=>qqB x D c hx W;obtain ⟨E,HE⟩:=qaA (entE x);rw [HE.out]at H1 h0⊢;have hne:(E !=0)=true:=by simpa using h0
  have hw0:Hid (Below w.heap.size w (w.alloc (.cells (entC x D c).toArray 73))):=(Below.refl _ _).alloc (Nat.le_refl _) _;unfold entC at H1 hw0⊢;clear h0 HE;obtain ⟨path,kind,target,⟨m0,m1,m2,m3,m4,m5,m6⟩,data⟩:=x;simp only at H1 hw0⊢;go_enter Tryz.func223,Tryz.ntmps223;go_wp2_with fail;refine (H1.out _).mono ?_;rintro e u ⟨rfl,hb⟩;have HB:=Lib.hid (hw0.out.trans (hb.mono hw0.out.size));clear hb;go_wp2_with fail;refine bodyPost_ret (v:= .tuple #[.slice none 0 0,.int .i64 E]) (by simp [results,Tryz.results223,go_sem, *]) rfl ?_;exact ⟨_,rfl,Own.nil _ _,HB.out⟩
set_option maxHeartbeats 8000000 in
theorem qsM (x:EntV) (D:Option Addr) (c:Nat) (hx:x.sz) (h0:entE x=0) (w:World) (T:Tab w):
  Calls Tryz.prog 222 #[.agg (entC x D c).toArray] w fun e w'=>e= .returned (.tuple #[.agg (qaG (qbN x)),.int .i64 0])∧Below w.heap.size w w':=by
 have g:=qbU h0;have HRc:=Lib.hid fun W TW=>qqA x D c hx h0 W TW;have HCt:=Lib.hid fun W=>qp9 (bs x.path) W (by rw [qaB];unfold maxLen;have:=g.path;omega);rw [qaH]at HCt;have HF:=qw7 x;have HK:Hid (∀(k:Nat) (h:k<(qaN x).length),((qaN x)[k]).1∈qu1):=fun k h=>qv9 (List.getElem_mem h);have hn7:=qhM x;have hdl:=g.data;obtain ⟨k,hk,hk4⟩: ∃k:Nat,x.kind=(k:Int)+1∧k<4:=⟨(x.kind-1).toNat,by have:=g.kind;omega,by have:=g.kind;omega⟩;have hsub:IntKind.i64.wrap ((k:Int)+1-1)=(k:Int):=by rw [IntKind.wrap_i64];omega
 have HTy:Hid (∀W:World,(W.alloc (.cells #[.int .u8 48,.int .u8 53,.int .u8 50,.int .u8 49] 5)).cell? ⟨W.heap.size,k,none⟩=some (.int .u8 ((typM x.kind).toNat:Int))):=fun W=>by
  rw [(Blk.new W _ _).cell k,hk]
  match k,hk4 with
  |0,_=>rfl
  |1,_=>rfl
  |2,_=>rfl
  |3,_=>rfl
 unfold qzD at HF;obtain ⟨path,kind,target,⟨m0,m1,m2,m3,m4,m5,m6⟩,data⟩:=x;unfold entC at HRc⊢;simp only at HRc HCt HF HTy hk hdl⊢;subst hk;obtain ⟨RS,hRS⟩: ∃RS,RS=qaN ⟨path,(k:Int)+1,target,⟨m0,m1,m2,m3,m4,m5,m6⟩,data⟩:=⟨_,rfl⟩;rw [←hRS]at HRc HF HK hn7;generalize qbN _=H9 at HF⊢;generalize (cutV path).2.2=ce at HCt;obtain ⟨cp,hcp⟩: ∃cp,cp=(cutV path).1:=⟨_,rfl⟩;obtain ⟨cn,hcn⟩: ∃cn,cn=(cutV path).2.1:=⟨_,rfl⟩;rw [←hcp,←hcn]at HCt HF;obtain ⟨ty,hty⟩: ∃ty,ty=typM ((k:Int)+1):=⟨_,rfl⟩;rw [←hty]at HTy HF;clear hRS hcp hcn hty g h0 hx;obtain ⟨hh0,hhh0⟩: ∃hh0:HeadV,hh0= {name:=cn,pre:=cp,link:=target,mode:=m0,uid:=m1,gid:=m2,size:=(data.length:Int),time:=m5,typ:=ty,user:=m3,group:=m4} :=⟨_,rfl⟩;rw [←hhh0]at HF;have HH0:Hid (qaG hh0= #[.string (bs cn),.string (bs cp),.string (bs target),.int .i64 m0,.int .i64 m1,.int .i64 m2,.int .i64 (data.length:Int),.int .i64 m5,.int .u8 (ty.toNat:Int),.string (bs m3),.string (bs m4)]):=by unfold Hid;rw [hhh0];rfl
 have HF:=Lib.hid HF;generalize data.length=dl at HRc HH0 hdl⊢;clear hhh0;obtain ⟨P,HP⟩:=qaA (bs path);rw [HP.out]at HCt HRc⊢;have HE0:=Lib.hid ((Blk.new w 73 #[.string P,.int .i64 ((k:Int)+1),.string (bs target),.int .i64 m0,.int .i64 m1,.int .i64 m2,.string (bs m3),.string (bs m4),.int .i64 m5,.int .i64 m6,.slice D dl c]).alloc (.cells (qaG qaT) 152));have HZ0:=Lib.hid (Blk.new (w.alloc (.cells #[.string P,.int .i64 ((k:Int)+1),.string (bs target),.int .i64 m0,.int .i64 m1,.int .i64 m2,.string (bs m3),.string (bs m4),.int .i64 m5,.int .i64 m6,.slice D dl c] 73)) 152 (qaG qaT));have HB0:Hid (Below w.heap.size w ((w.alloc (.cells #[.string P,.int .i64 ((k:Int)+1),.string (bs target),.int .i64 m0,.int .i64 m1,.int .i64 m2,.string (bs m3),.string (bs m4),.int .i64 m5,.int .i64 m6,.slice D dl c] 73)).alloc (.cells (qaG qaT) 152))):=((Below.refl _ _).alloc (Nat.le_refl _) _).alloc (by rw [hszA];omega) _;have ez:qaG qaT= #[.string ⟨#[]⟩,.string ⟨#[]⟩,.string ⟨#[]⟩,.int .i64 0,.int .i64 0,.int .i64 0,.int .i64 0,.int .i64 0,.int .u8 0,.string ⟨#[]⟩,.string ⟨#[]⟩]:=rfl;rw [hszA]at HZ0;rw [ez]at HE0 HZ0 HB0;clear ez;go_enter Tryz.func222,Tryz.ntmps222;go_wp2_with fail;refine (HRc.out _ (T.below HB0.out)).mono ?_;rintro e x3 ⟨v,rfl,ho,hb⟩;have HE:=Lib.hid (HE0.out.below hb HE0.out.lt);have HZ:=Lib.hid (HZ0.out.below hb HZ0.out.lt);have HBx:=Lib.hid (HB0.out.trans (hb.mono HB0.out.size));obtain ⟨A,cA,rfl⟩:=ho.form;have HR:=Lib.hid ho.at;generalize hnn:RS.length=n at hn7 HR⊢
 clear ho hb HE0 HZ0 HB0 HRc;obtain ⟨⟨E0,E1,E2,E3,E4,E5,E6,E7,E8,E9,EA⟩,-⟩:=qaF HE.out;go_upto_region 5 with fail
 have hH4:=Blk.new x3 152 #[.string ⟨#[]⟩,.string ⟨#[]⟩,.string (bs target),.int .i64 m0,.int .i64 m1,.int .i64 m2,.int .i64 (dl:Int),.int .i64 m5,.int .u8 0,.string (bs m3),.string (bs m4)];have hE4:=HE.out.alloc (.cells #[.string ⟨#[]⟩,.string ⟨#[]⟩,.string (bs target),.int .i64 m0,.int .i64 m1,.int .i64 m2,.int .i64 (dl:Int),.int .i64 m5,.int .u8 0,.string (bs m3),.string (bs m4)] 152);have hB4:=(Below.refl x3.heap.size x3).alloc (Nat.le_refl _) (.cells #[.string ⟨#[]⟩,.string ⟨#[]⟩,.string (bs target),.int .i64 m0,.int .i64 m1,.int .i64 m2,.int .i64 (dl:Int),.int .i64 m5,.int .u8 0,.string (bs m3),.string (bs m4)] 152);have hs4:(x3.alloc (.cells #[.string ⟨#[]⟩,.string ⟨#[]⟩,.string (bs target),.int .i64 m0,.int .i64 m1,.int .i64 m2,.int .i64 (dl:Int),.int .i64 m5,.int .u8 0,.string (bs m3),.string (bs m4)] 152)).heap.size=x3.heap.size+1:=hszA _ _;generalize x3.alloc (.cells #[.string ⟨#[]⟩,.string ⟨#[]⟩,.string (bs target),.int .i64 m0,.int .i64 m1,.int .i64 m2,.int .i64 (dl:Int),.int .i64 m5,.int .u8 0,.string (bs m3),.string (bs m4)] 152)=x4 at hH4 hE4 hB4 hs4⊢;have hTy:=HTy.out x4;rw [hs4]at hTy;obtain ⟨⟨G0,G1,G2,-⟩,-⟩:=qaF (hE4.alloc (.cells #[.int .u8 48,.int .u8 53,.int .u8 50,.int .u8 49] 5));obtain ⟨⟨q0,q1,q2,q3,q4,q5,q6,q7,q8,q9,qA⟩,f0,f1,f2,f3,f4,f5,f6,f7,f8,f9,fA⟩:=qaF (hH4.alloc (.cells #[.int .u8 48,.int .u8 53,.int .u8 50,.int .u8 49] 5))
 have HH5:=Lib.hid ((hH4.set_ 8 (.int .u8 (ty.toNat:Int))).alloc (.cells #[.int .u8 48,.int .u8 53,.int .u8 50,.int .u8 49] 5));have hB5:=hB4.setCell (p:=⟨x3.heap.size,8,none⟩) (Nat.le_refl _) (.int .u8 (ty.toNat:Int));have HB5:=Lib.hid (hB5.alloc hB5.size (.cells #[.int .u8 48,.int .u8 53,.int .u8 50,.int .u8 49] 5));clear E0 E1 E2 E3 E4 E5 E6 E7 E8 E9 EA hH4 hE4 hB4 HTy;go_upto_region 6 with fail
 generalize hx6:(x4.setCell ⟨x3.heap.size,8,none⟩ (.int .u8 (ty.toNat:Int))).alloc (.cells #[.int .u8 48,.int .u8 53,.int .u8 50,.int .u8 49] 5)=x6 at HH5 HB5⊢;clear hB5 hx6 hTy G0 G1 G2 q0 q1 q2 q3 q4 q5 q6 q7 q8 q9 qA f0 f1 f2 f3 f4 f5 f6 f7 f8 f9 fA;obtain ⟨⟨E0,E1,E2,-⟩,-⟩:=qaF (HE.out.below HB5.out HE.out.lt);go_wp2_with fail;refine (HCt.out _).mono ?_;rintro e x7 ⟨rfl,n6,rfl⟩;have hH7:Blk (x6.drewN n6) x3.heap.size 152 #[.string ⟨#[]⟩,.string ⟨#[]⟩,.string (bs target),.int .i64 m0,.int .i64 m1,.int .i64 m2,.int .i64 (dl:Int),.int .i64 m5,.int .u8 (ty.toNat:Int),.string (bs m3),.string (bs m4)]:=HH5.out.drewN n6;have HB7:=Lib.hid (below_drewN HB5.out n6);generalize x6.drewN n6=x7 at hH7 HB7⊢;clear E0 E1 E2 HH5 HB5 HCt;obtain ⟨⟨q0,q1,q2,q3,q4,q5,q6,q7,q8,q9,qA⟩,f0,f1,f2,f3,f4,f5,f6,f7,f8,f9,fA⟩:=qaF hH7
 have HH8:Hid (Blk ((x7.setCell ⟨x3.heap.size,1,none⟩ (.string (bs cp))).setCell ⟨x3.heap.size,0,none⟩ (.string (bs cn))) x3.heap.size 152 (qaG hh0)):=by
  unfold Hid;rw [HH0.out];exact (hH7.set_ 1 (.string (bs cp))).set_ 0 (.string (bs cn))
 have HB8:=Lib.hid ((HB7.out.setCell (p:=⟨x3.heap.size,1,none⟩) (Nat.le_refl _) (.string (bs cp))).setCell (p:=⟨x3.heap.size,0,none⟩) (Nat.le_refl _) (.string (bs cn)));clear hH7 HB7 HH0;go_wp2_with fail
 go_loopw [60] (fun iv wr=> ∃i:Nat,i≤n∧iv= .int .i64 i∧Hid (Blk wr x3.heap.size 152 (qaG ((RS.take i).foldl hdR hh0)))∧Hid (Below x3.heap.size x3 wr)) (fun iv _=>n-(intOf iv).toNat)
 case atStart=>exact ⟨0,Nat.zero_le _,rfl,HH8.out,HB8.out⟩
 case round=>
  obtain ⟨i,hi,rfl,HBk,HB⟩:=hrel
  by_cases hlt:i<n
  ·have i1:i<RS.length:=by rw [hnn];exact hlt
   obtain ⟨b,o,rfl,c0,c1⟩:=(HR.out.below HB.out) i i1
   have HSt:Hid ((RS.take (i+1)).foldl hdR hh0=hdR ((RS.take i).foldl hdR hh0) RS[i]):=by
    unfold Hid;rw [List.take_succ_eq_append_getElem i1,List.foldl_append];rfl
   have hkey:=HK.out i i1;have hsz:x3.heap.size<wr.heap.size:=HBk.out.lt;generalize RS[i]=r at c0 c1 HSt hkey;obtain ⟨K,V⟩:=r;simp only at c0 c1 hkey;generalize (RS.take i).foldl hdR hh0=hi0 at HBk HSt;unfold qu1 at hkey;simp only [List.mem_cons,List.not_mem_nil,or_false]at hkey;rcases hkey with rfl|rfl|rfl|rfl|rfl|rfl|rfl
   ·replace c0:wr.cell? ⟨b,o+i*2,none⟩=some (.string ⟨#[103,105,100]⟩):=c0
    have HN:Hid (Blk ((wr.setCell ⟨x3.heap.size,5,none⟩ (.int .i64 0)).alloc (.cells #[.string ⟨#[103,105,100]⟩,.string (bs V)] 190)) x3.heap.size 152 (qaG ((RS.take (i+1)).foldl hdR hh0))):=by
     unfold Hid;rw [HSt.out,qu7];exact (HBk.out.set_ 5 (.int .i64 0)).alloc _
    have hB2:=HB.out.setCell (p:=⟨x3.heap.size,5,none⟩) (Nat.le_refl _) (.int .i64 0);have HB2:=Lib.hid (hB2.alloc hB2.size (.cells #[.string ⟨#[103,105,100]⟩,.string (bs V)] 190));clear hB2;generalize bs V=VS at c1 HN HB2;obtain ⟨⟨q0,q1,q2,q3,q4,q5,q6,q7,q8,q9,qA⟩,f0,f1,f2,f3,f4,f5,f6,f7,f8,f9,fA⟩:=qaF (HBk.out.alloc (.cells #[.string ⟨#[103,105,100]⟩,.string VS] 190));clear HSt;go_wp2_with fail;go_roundw
    case rel=>exact ⟨i+1,by omega,by go_num,HN.out,HB2.out⟩
    case measure=>simp [intOf];omega
   ·replace c0:wr.cell? ⟨b,o+i*2,none⟩=some (.string ⟨#[103,110,97,109,101]⟩):=c0
    have HN:Hid (Blk ((wr.setCell ⟨x3.heap.size,10,none⟩ (.string ⟨#[]⟩)).alloc (.cells #[.string ⟨#[103,110,97,109,101]⟩,.string (bs V)] 190)) x3.heap.size 152 (qaG ((RS.take (i+1)).foldl hdR hh0))):=by
     unfold Hid;rw [HSt.out,qm0];exact (HBk.out.set_ 10 (.string ⟨#[]⟩)).alloc _
    have hB2:=HB.out.setCell (p:=⟨x3.heap.size,10,none⟩) (Nat.le_refl _) (.string ⟨#[]⟩);have HB2:=Lib.hid (hB2.alloc hB2.size (.cells #[.string ⟨#[103,110,97,109,101]⟩,.string (bs V)] 190));clear hB2;generalize bs V=VS at c1 HN HB2;obtain ⟨⟨q0,q1,q2,q3,q4,q5,q6,q7,q8,q9,qA⟩,f0,f1,f2,f3,f4,f5,f6,f7,f8,f9,fA⟩:=qaF (HBk.out.alloc (.cells #[.string ⟨#[103,110,97,109,101]⟩,.string VS] 190));clear HSt;go_wp2_with fail;go_roundw
    case rel=>exact ⟨i+1,by omega,by go_num,HN.out,HB2.out⟩
    case measure=>simp [intOf];omega
   ·replace c0:wr.cell? ⟨b,o+i*2,none⟩=some (.string ⟨#[108,105,110,107,112,97,116,104]⟩):=c0
    have HN:Hid (Blk ((wr.setCell ⟨x3.heap.size,2,none⟩ (.string ⟨#[64,108,111,110,103]⟩)).alloc (.cells #[.string ⟨#[108,105,110,107,112,97,116,104]⟩,.string (bs V)] 190)) x3.heap.size 152 (qaG ((RS.take (i+1)).foldl hdR hh0))):=by
     unfold Hid;rw [HSt.out,qqZ];exact (HBk.out.set_ 2 (.string ⟨#[64,108,111,110,103]⟩)).alloc _
    have hB2:=HB.out.setCell (p:=⟨x3.heap.size,2,none⟩) (Nat.le_refl _) (.string ⟨#[64,108,111,110,103]⟩);have HB2:=Lib.hid (hB2.alloc hB2.size (.cells #[.string ⟨#[108,105,110,107,112,97,116,104]⟩,.string (bs V)] 190));clear hB2;generalize bs V=VS at c1 HN HB2;obtain ⟨⟨q0,q1,q2,q3,q4,q5,q6,q7,q8,q9,qA⟩,f0,f1,f2,f3,f4,f5,f6,f7,f8,f9,fA⟩:=qaF (HBk.out.alloc (.cells #[.string ⟨#[108,105,110,107,112,97,116,104]⟩,.string VS] 190));clear HSt;go_wp2_with fail;go_roundw
    case rel=>exact ⟨i+1,by omega,by go_num,HN.out,HB2.out⟩
    case measure=>simp [intOf];omega
   ·replace c0:wr.cell? ⟨b,o+i*2,none⟩=some (.string ⟨#[109,116,105,109,101]⟩):=c0
    have HN:Hid (Blk ((wr.setCell ⟨x3.heap.size,7,none⟩ (.int .i64 0)).alloc (.cells #[.string ⟨#[109,116,105,109,101]⟩,.string (bs V)] 190)) x3.heap.size 152 (qaG ((RS.take (i+1)).foldl hdR hh0))):=by
     unfold Hid;rw [HSt.out,qmZ];exact (HBk.out.set_ 7 (.int .i64 0)).alloc _
    have hB2:=HB.out.setCell (p:=⟨x3.heap.size,7,none⟩) (Nat.le_refl _) (.int .i64 0);have HB2:=Lib.hid (hB2.alloc hB2.size (.cells #[.string ⟨#[109,116,105,109,101]⟩,.string (bs V)] 190));clear hB2;generalize bs V=VS at c1 HN HB2;obtain ⟨⟨q0,q1,q2,q3,q4,q5,q6,q7,q8,q9,qA⟩,f0,f1,f2,f3,f4,f5,f6,f7,f8,f9,fA⟩:=qaF (HBk.out.alloc (.cells #[.string ⟨#[109,116,105,109,101]⟩,.string VS] 190));clear HSt;go_wp2_with fail;go_roundw
    case rel=>exact ⟨i+1,by omega,by go_num,HN.out,HB2.out⟩
    case measure=>simp [intOf];omega
   ·replace c0:wr.cell? ⟨b,o+i*2,none⟩=some (.string ⟨#[112,97,116,104]⟩):=c0
    have HN:Hid (Blk ((wr.setCell ⟨x3.heap.size,0,none⟩ (.string ⟨#[64,108,111,110,103]⟩)).alloc (.cells #[.string ⟨#[112,97,116,104]⟩,.string (bs V)] 190)) x3.heap.size 152 (qaG ((RS.take (i+1)).foldl hdR hh0))):=by
     unfold Hid;rw [HSt.out,qqY];exact (HBk.out.set_ 0 (.string ⟨#[64,108,111,110,103]⟩)).alloc _
    have hB2:=HB.out.setCell (p:=⟨x3.heap.size,0,none⟩) (Nat.le_refl _) (.string ⟨#[64,108,111,110,103]⟩);have HB2:=Lib.hid (hB2.alloc hB2.size (.cells #[.string ⟨#[112,97,116,104]⟩,.string (bs V)] 190));clear hB2;generalize bs V=VS at c1 HN HB2;obtain ⟨⟨q0,q1,q2,q3,q4,q5,q6,q7,q8,q9,qA⟩,f0,f1,f2,f3,f4,f5,f6,f7,f8,f9,fA⟩:=qaF (HBk.out.alloc (.cells #[.string ⟨#[112,97,116,104]⟩,.string VS] 190));clear HSt;go_wp2_with fail;go_roundw
    case rel=>exact ⟨i+1,by omega,by go_num,HN.out,HB2.out⟩
    case measure=>simp [intOf];omega
   ·replace c0:wr.cell? ⟨b,o+i*2,none⟩=some (.string ⟨#[117,105,100]⟩):=c0
    have HN:Hid (Blk ((wr.setCell ⟨x3.heap.size,4,none⟩ (.int .i64 0)).alloc (.cells #[.string ⟨#[117,105,100]⟩,.string (bs V)] 190)) x3.heap.size 152 (qaG ((RS.take (i+1)).foldl hdR hh0))):=by
     unfold Hid;rw [HSt.out,qu6];exact (HBk.out.set_ 4 (.int .i64 0)).alloc _
    have hB2:=HB.out.setCell (p:=⟨x3.heap.size,4,none⟩) (Nat.le_refl _) (.int .i64 0);have HB2:=Lib.hid (hB2.alloc hB2.size (.cells #[.string ⟨#[117,105,100]⟩,.string (bs V)] 190));clear hB2;generalize bs V=VS at c1 HN HB2;obtain ⟨⟨q0,q1,q2,q3,q4,q5,q6,q7,q8,q9,qA⟩,f0,f1,f2,f3,f4,f5,f6,f7,f8,f9,fA⟩:=qaF (HBk.out.alloc (.cells #[.string ⟨#[117,105,100]⟩,.string VS] 190));clear HSt;go_wp2_with fail;go_roundw
    case rel=>exact ⟨i+1,by omega,by go_num,HN.out,HB2.out⟩
    case measure=>simp [intOf];omega
   ·replace c0:wr.cell? ⟨b,o+i*2,none⟩=some (.string ⟨#[117,110,97,109,101]⟩):=c0
    have HN:Hid (Blk ((wr.setCell ⟨x3.heap.size,9,none⟩ (.string ⟨#[]⟩)).alloc (.cells #[.string ⟨#[117,110,97,109,101]⟩,.string (bs V)] 190)) x3.heap.size 152 (qaG ((RS.take (i+1)).foldl hdR hh0))):=by
     unfold Hid;rw [HSt.out,qmY];exact (HBk.out.set_ 9 (.string ⟨#[]⟩)).alloc _
    have hB2:=HB.out.setCell (p:=⟨x3.heap.size,9,none⟩) (Nat.le_refl _) (.string ⟨#[]⟩);have HB2:=Lib.hid (hB2.alloc hB2.size (.cells #[.string ⟨#[117,110,97,109,101]⟩,.string (bs V)] 190));clear hB2;generalize bs V=VS at c1 HN HB2;obtain ⟨⟨q0,q1,q2,q3,q4,q5,q6,q7,q8,q9,qA⟩,f0,f1,f2,f3,f4,f5,f6,f7,f8,f9,fA⟩:=qaF (HBk.out.alloc (.cells #[.string ⟨#[117,110,97,109,101]⟩,.string VS] 190));clear HSt;go_wp2_with fail;go_roundw
    case rel=>exact ⟨i+1,by omega,by go_num,HN.out,HB2.out⟩
    case measure=>simp [intOf];omega
  ·obtain rfl:i=n:=by omega
   have hH:=HBk.out;rw [List.take_of_length_le (by omega),HF.out]at hH;have HZ9:=HZ.out.below HB.out HZ.out.lt;obtain ⟨⟨z0,z1,z2,z3,z4,z5,z6,z7,z8,z9,zA⟩,g0,g1,g2,g3,g4,g5,g6,g7,g8,g9,gA⟩:=qaF HZ9;unfold qaG at hH;obtain ⟨⟨q0,q1,q2,q3,q4,q5,q6,q7,q8,q9,qA⟩,f0,f1,f2,f3,f4,f5,f6,f7,f8,f9,fA⟩:=qaF hH;have HB9:=Lib.hid (HBx.out.trans (HB.out.mono HBx.out.size));clear hH HZ9;unfold qaG;go_wp2_with fail;refine bodyPost_ret (v:= .tuple #[.agg #[.string (bs H9.name),.string (bs H9.pre),.string (bs H9.link),.int .i64 H9.mode,.int .i64 H9.uid,.int .i64 H9.gid,.int .i64 H9.size,.int .i64 H9.time,.int .u8 (H9.typ.toNat:Int),.string (bs H9.user),.string (bs H9.group)],.int .i64 0]) (by simp [results,Tryz.results222,go_sem, *]) rfl ⟨rfl,?_⟩
   repeat (with_reducible refine Below.setCell ?_ (Nat.le_succ _) _)
   exact HB9.out
theorem qyG (x:EntV) (D:Option Addr) (c:Nat) (hx:x.sz) (w:World) (T:Tab w):
  Calls Tryz.prog 222 #[.agg (entC x D c).toArray] w fun e w'=>e= .returned (.tuple #[.agg (qaG (if entE x=0 then qbN x else qaT)),.int .i64 (entE x)])∧Below w.heap.size w w':=by
 by_cases h0:entE x=0
 ·rw [if_pos h0,h0];exact qsM x D c hx h0 w T
 ·rw [if_neg h0];have H1:=Lib.hid fun W TW=>q1C x D c hx W TW;unfold recO at H1;rw [if_neg h0]at H1;obtain ⟨E,HE⟩:=qaA (entE x);rw [HE.out]at H1 h0⊢;have hne:(E !=0)=true:=by simpa using h0
  have HW:Hid (Below w.heap.size w ((w.alloc (.cells (entC x D c).toArray 73)).alloc (.cells (qaG qaT) 152))):=((Below.refl _ _).alloc (Nat.le_refl _) _).alloc (by rw [hszA];omega) _;have HZ0:=Lib.hid (Blk.new (w.alloc (.cells (entC x D c).toArray 73)) 152 (qaG qaT));have ez:qaG qaT= #[.string ⟨#[]⟩,.string ⟨#[]⟩,.string ⟨#[]⟩,.int .i64 0,.int .i64 0,.int .i64 0,.int .i64 0,.int .i64 0,.int .u8 0,.string ⟨#[]⟩,.string ⟨#[]⟩]:=rfl;rw [ez]at HW HZ0⊢;rw [hszA]at HZ0;unfold entC at H1 HW HZ0⊢;clear h0 HE ez;obtain ⟨path,kind,target,⟨m0,m1,m2,m3,m4,m5,m6⟩,data⟩:=x;simp only at H1 HW HZ0⊢;go_enter Tryz.func222,Tryz.ntmps222;go_wp2_with fail;refine (H1.out _ (T.below HW.out)).mono ?_;rintro e u ⟨v,rfl,-,hb⟩;have HB:=Lib.hid (HW.out.trans (hb.mono HW.out.size));obtain ⟨⟨z0,z1,z2,z3,z4,z5,z6,z7,z8,z9,zA⟩,g0,g1,g2,g3,g4,g5,g6,g7,g8,g9,gA⟩:=qaF (HZ0.out.below hb HZ0.out.lt);clear hb;go_wp2_with fail;refine bodyPost_ret (v:= .tuple #[.agg #[.string ⟨#[]⟩,.string ⟨#[]⟩,.string ⟨#[]⟩,.int .i64 0,.int .i64 0,.int .i64 0,.int .i64 0,.int .i64 0,.int .u8 0,.string ⟨#[]⟩,.string ⟨#[]⟩],.int .i64 E]) (by simp [results,Tryz.results222,go_sem, *]) rfl ⟨rfl,?_⟩
  repeat (with_reducible refine Below.setCell ?_ (Nat.le_succ _) _)
  exact HB.out
end Go.Proofs.YtapgoifimhnbdaaGreatDoor
