/- qaX of one kind, in one file: MemG, MemH. -/
import Derived.Test.YtapgoifimhnbdaaGreatDoorMea
import Derived.Test.YtapgoifimhnbdaaGreatDoorEnt
import Derived.Test.YtapgoifimhnbdaaGreatDoorCut
import Derived.Test.YtapgoifimhnbdaaGreatDoorTrm
import Derived.Test.YtapgoifimhnbdaaGreatDoorFld
import Derived.StillTailTactics
import Derived.Deep.DeepCutAuto
import Derived.Deep.RegionHeld3
import Derived.Test.YtapgoifimhnbdaaGreatDoorArb
set_option linter.unusedVariables false
set_option maxRecDepth 100000
namespace Go.Proofs.YtapgoifimhnbdaaGreatDoor
open Go.RowKit
open Go.OpenShut
theorem zd7 (n:Int) (w:World):Calls Tryz.prog 183 #[.int .i64 n,.int .i64 8] w fun e w'=>e= .returned (.bool (decide (0≤n) &&decide (n≤2097151)))∧w=w':=by
 have HM:Hid (∀W,Calls Tryz.prog 229 #[.int .i64 8] W fun e w'=>e= .returned (.tuple #[.int .i64 2097151,.int .i64 0])∧W=w'):=fun W=>qzZ 8 W
 by_cases h:0≤n
 ·go_enter Tryz.func183,Tryz.ntmps183;go_wp2_with fail;refine (HM.out _).mono ?_;rintro e w1 ⟨rfl,rfl⟩;go_wp2_with fail;go_ret;exact ⟨by simp [h],rfl⟩
 ·go_enter Tryz.func183,Tryz.ntmps183;go_wp2_with fail;refine (HM.out _).mono ?_;rintro e w1 ⟨rfl,rfl⟩;go_wp2_with fail;go_ret;exact ⟨by simp;intro _;omega,rfl⟩
theorem fits_12 (n:Int) (w:World):Calls Tryz.prog 183 #[.int .i64 n,.int .i64 12] w fun e w'=>e= .returned (.bool (decide (0≤n) &&decide (n≤8589934591)))∧w=w':=by
 have HM:Hid (∀W,Calls Tryz.prog 229 #[.int .i64 12] W fun e w'=>e= .returned (.tuple #[.int .i64 8589934591,.int .i64 0])∧W=w'):=fun W=>qzZ 12 W
 by_cases h:0≤n
 ·go_enter Tryz.func183,Tryz.ntmps183;go_wp2_with fail;refine (HM.out _).mono ?_;rintro e w1 ⟨rfl,rfl⟩;go_wp2_with fail;go_ret;exact ⟨by simp [h],rfl⟩
 ·go_enter Tryz.func183,Tryz.ntmps183;go_wp2_with fail;refine (HM.out _).mono ?_;rintro e w1 ⟨rfl,rfl⟩;go_wp2_with fail;go_ret;exact ⟨by simp;intro _;omega,rfl⟩
set_option maxHeartbeats 2000000 in
theorem qd1 {u w:World} {mc:Array Value} {L:List Rc} (H:Ad u mc L w) (hL:L.length≤7) (b:Bool) (K V:ByteArray):
  Calls Tryz.prog 180 #[.bool b,.string K,.string V,.pointer (some ⟨u.heap.size,0,none⟩)] w fun e w'=>e= .returned (.tuple #[])∧Ad u mc (L++qbB b K.data.toList V.data.toList) w':=by
 obtain ⟨⟨v,h1,h2⟩,h3,h5⟩:=H;obtain ⟨g,hg'⟩: ∃g,g=u.heap.size:=⟨_,rfl⟩;unfold Ad;rw [←hg']at h1 h2 h3 h5⊢;clear hg';have e0:=h1.cell 0;simp only [List.getElem?_toArray,List.getElem?_cons_zero]at e0;have f0:w.frozen? ⟨g,0,none⟩=false:=Lib.frozen_of_heap h1 0;cases b with
 |false=>
  have HA:Hid ((∃v,Blk w g 145 #[v]∧Own w (g+1) v (L++qbB false K.data.toList V.data.toList).length (L++qbB false K.data.toList V.data.toList))∧Blk w (g+1) 47 mc∧Below g u w):=by
   unfold Hid qbB;rw [if_neg (by decide),List.append_nil];exact ⟨⟨v,h1,h2⟩,h3,h5⟩
  clear h1 h2 h3 h5 e0 f0;go_enter Tryz.func180,Tryz.ntmps180;go_wp2_with fail
  go_end0
  exact ⟨rfl,HA.out⟩
 |true=>
  have hg:=h1.lt;have H1:=Lib.hid h1;have H2:=Lib.hid h2;have H3:=Lib.hid h3;have H5:=Lib.hid h5;have HR:Hid (L++qbB true K.data.toList V.data.toList=L++ [(K.data.toList,V.data.toList)]):=by unfold Hid qbB;rw [if_pos rfl]
  rw [HR.out];clear h1 h2 h3 h5 HR;go_enter Tryz.func180,Tryz.ntmps180;go_wp2_with (at_builtin;refine Stay.go ?_);refine Stay.on ?_;have hbn:=Blk.new w 190 #[.string (bs K.data.toList),.string (bs V.data.toList)];rw [qgJ,qgJ]at hbn;refine q2U rfl (.tmp 8) (.tmp 12) rfl (g+1) v L rfl (H2.out.alloc _) w.heap.size 1 (K.data.toList,V.data.toList) rfl (by simp only [qgJ];exact hbn) (by omega) (by rw [hszA];omega) ?_;intro v7 w7 ho7 hg7;obtain ⟨A7,c7,rfl⟩:=ho7.form
  have hne:some g≠v.ownBlock:=fun e=>by
   have:=(H2.out.above g e.symm);omega
  have b1:=(H1.out.alloc (.cells #[.string K,.string V] 190)).grown hg7 hne
  have hnm:some (g+1)≠v.ownBlock:=fun e=>by
   obtain ⟨-,cur,hc⟩:=qa2 H2.out.2 (g+1) e.symm;have h3:=H3.out;unfold Blk at h3;rw [hc]at h3;simp only [Option.some.injEq,Obj.cells.injEq]at h3;exact absurd h3.2.1 (by decide)
  have b3:=(H3.out.alloc (.cells #[.string K,.string V] 190)).grown hg7 hnm;have b5:Below g u w7:=((H5.out.alloc (Nat.le_of_lt hg) _).grown hg7 (by rw [hszA];omega) fun g0 e=>by have:=(H2.out.above g0 e);omega);have c0:=b1.cell 0;simp only [List.getElem?_toArray,List.getElem?_cons_zero]at c0;have d0:w7.frozen? ⟨g,0,none⟩=false:=Lib.frozen_of_heap b1 0
  have HA:Hid ((∃v,Blk (w7.setCell ⟨g,0,none⟩ (.slice A7 (L++ [(K.data.toList,V.data.toList)]).length c7)) g 145 #[v]∧Own (w7.setCell ⟨g,0,none⟩ (.slice A7 (L++ [(K.data.toList,V.data.toList)]).length c7)) (g+1) v (L++ [(K.data.toList,V.data.toList)]).length (L++ [(K.data.toList,V.data.toList)]))∧Blk (w7.setCell ⟨g,0,none⟩ (.slice A7 (L++ [(K.data.toList,V.data.toList)]).length c7)) (g+1) 47 mc∧Below g u (w7.setCell ⟨g,0,none⟩ (.slice A7 (L++ [(K.data.toList,V.data.toList)]).length c7))):=by
   refine ⟨⟨.slice A7 (L++ [(K.data.toList,V.data.toList)]).length c7,?_,ho7.1,?_⟩,?_,b5.setCell (p:=⟨g,0,none⟩) (Nat.le_refl _) _⟩
   ·exact b1.set_ 0 _
   ·exact ownsRow_setCell_below ho7.2 (a:=⟨g,0,none⟩) (Nat.lt_succ_self g) _
   ·exact (Below.heap_setCell w7 ⟨g,0,none⟩ _ (g+1) (by show g+1≠g;omega)).trans b3
  clear ho7 hg7 b1 b3 b5 hbn hne hnm;go_wp2_with fail
  go_end0
  refine ⟨rfl,?_⟩;have h:=HA.out;simp only [List.length_append,List.length_cons,List.length_nil,Nat.zero_add]at h⊢;exact h
theorem q65 {n:Int} (h:0≤n):decide (2097152≤n)= !(decide (0≤n) &&decide (n≤2097151)):=by
 rw [Bool.eq_iff_iff,decide_eq_true_eq,Bool.not_eq_true',Bool.and_eq_false_iff,decide_eq_false_iff_not,decide_eq_false_iff_not];omega
theorem q64 (a b:Int):decide (b≠0∨a<0∨8589934592≤a)=((b !=0)|| !(decide (0≤a) &&decide (a≤8589934591))):=by
 rw [Bool.eq_iff_iff,decide_eq_true_eq,Bool.or_eq_true,Bool.not_eq_true',Bool.and_eq_false_iff,decide_eq_false_iff_not,decide_eq_false_iff_not,bne_iff_ne];omega
set_option maxHeartbeats 8000000 in
theorem qrS (x:EntV) (D:Option Addr) (c:Nat) (hx:x.sz) (h0:entE x=0) (w:World) (T:Tab w):
  Calls Tryz.prog 131 #[.agg (entC x D c).toArray] w fun e w'=> ∃v,e= .returned (.tuple #[v,.int .i64 0])∧Own w' w.heap.size v (qa1 x).length (qa1 x)∧Below w.heap.size w w':=by
 have g:=qcP h0;have H1:=Lib.hid fun W=>qj9 x D c hx W;rw [h0]at H1;have HTm:=Lib.hid fun W TW=>qs0 x.md.second x.md.nano W TW;have HCt:=Lib.hid fun W=>qx3 (bs x.path) W (by rw [qaC];unfold maxLen;have:=g.path;omega) (by rw [qaC];have:=g.path;omega);rw [qaF]at HCt;have HIg:=Lib.hid fun W TW=>qs1 x.md.gid W TW (by have:=g.gid;omega) (by have:=g.gid;omega);have HIu:=Lib.hid fun W TW=>qs1 x.md.uid W TW (by have:=g.uid;omega) (by have:=g.uid;omega)
 have HR:Hid (∀M:ByteArray,(qe8 x.md.second x.md.nano).1=M→(((((((([]:List Rc)++qbB (decide (2097152≤x.md.gid)) kGid (bs (Lib.itoa x.md.gid)).data.toList)++qbB (decide ((31:Int)<((bs x.md.group).size:Int))) qaY (bs x.md.group).data.toList)++qbB (decide ((100:Int)<((bs x.target).size:Int))) qbM (bs x.target).data.toList)++
  qbB (qnH x) qaW M.data.toList)++qbB (decide ((cutV x.path).2.2≠0)) qbF (bs x.path).data.toList)++qbB (decide (2097152≤x.md.uid)) kUid (bs (Lib.itoa x.md.uid)).data.toList)++qbB (decide ((31:Int)<((bs x.md.user).size:Int))) qaZ (bs x.md.user).data.toList)=qa1 x):=by
  rintro M rfl;have a1:decide ((31:Int)<((bs x.md.group).size:Int))=decide (31<x.md.group.length):=decide_eq_decide.2 (by rw [qaC];omega);have a2:decide ((100:Int)<((bs x.target).size:Int))=decide (100<x.target.length):=decide_eq_decide.2 (by rw [qaC];omega);have a3:decide ((31:Int)<((bs x.md.user).size:Int))=decide (31<x.md.user.length):=decide_eq_decide.2 (by rw [qaC];omega);rw [a1,a2,a3];unfold qa1;simp only [List.nil_append,List.append_assoc,qaF]
 rw [q65 g.gid.1,q65 g.uid.1]at HR;have HFg:=Lib.hid fun W=>zd7 x.md.gid W;have HFu:=Lib.hid fun W=>zd7 x.md.uid W;have HFs:=Lib.hid fun W=>fits_12 x.md.second W;obtain ⟨path,kind,target,⟨m0,m1,m2,m3,m4,m5,m6⟩,data⟩:=x;have hlate:qnH ⟨path,kind,target,⟨m0,m1,m2,m3,m4,m5,m6⟩,data⟩=((m6 !=0)|| !(decide (0≤m5) &&decide (m5≤8589934591))):=q64 m5 m6;have z1:=g.path.2.1;have z2:=g.target.1;have z3:=g.user.1;have z4:=g.group.1;rw [hlate]at HR;unfold entC at H1⊢;simp only at H1 HTm HCt HIg HIu HR HFg HFu HFs z1 z2 z3 z4⊢;generalize qa1 _=RS at HR⊢;clear g h0 hx hlate;generalize (decide (0≤m2) &&decide (m2≤2097151))=fg at HFg HR;generalize (decide (0≤m1) &&decide (m1≤2097151))=fu at HFu HR;generalize (decide (0≤m5) &&decide (m5≤8589934591))=fs at HFs HR;have s2:=qaC target;have s3:=qaC m3;have s4:=qaC m4;have s5:=qaC path;obtain ⟨TM,HTM⟩:=qaA (qe8 m5 m6).1;rw [HTM.out]at HTm;replace HR:=Lib.hid (HR.out TM HTM.out);generalize (qe8 m5 m6).2=te at HTm;generalize (cutV path).2.2=ce at HCt HR;generalize bs (cutV path).1=cp at HCt;generalize bs (cutV path).2.1=cn at HCt;obtain ⟨IG,HIG⟩:=qaA (bs (Lib.itoa m2));obtain ⟨IU,HIU⟩:=qaA (bs (Lib.itoa m1));rw [HIG.out]at HIg HR;rw [HIU.out]at HIu HR;obtain ⟨P,HP⟩:=qaA (bs path);obtain ⟨TG,HTG⟩:=qaA (bs target);obtain ⟨US,HUS⟩:=qaA (bs m3);obtain ⟨GR,HGR⟩:=qaA (bs m4);rw [HP.out]at HCt HR H1 s5⊢;rw [HTG.out]at HR H1 s2⊢;rw [HUS.out]at HR H1 s3⊢;rw [HGR.out]at HR H1 s4⊢;have HClG:=Lib.hid fun W=>qa5 GR W (by omega)
 have HClT:=Lib.hid fun W=>qa5 TG W (by omega);have HClU:=Lib.hid fun W=>qa5 US W (by omega);have HClP:=Lib.hid fun W=>qa5 P W (by omega);have y2:TG.size≤400:=by omega
 have y3:US.size≤60:=by omega
 have y4:GR.size≤60:=by omega
 clear HTM HIG HIU HP HTG HUS HGR s2 s3 s4 s5 z1 z2 z3 z4;generalize hdl:data.length=dl at H1⊢;clear hdl;have HE0:=Lib.hid (Blk.new w 73 #[.string P,.int .i64 kind,.string TG,.int .i64 m0,.int .i64 m1,.int .i64 m2,.string US,.string GR,.int .i64 m5,.int .i64 m6,.slice D dl c]);have HW0:Hid (Below w.heap.size w (w.alloc (.cells #[.string P,.int .i64 kind,.string TG,.int .i64 m0,.int .i64 m1,.int .i64 m2,.string US,.string GR,.int .i64 m5,.int .i64 m6,.slice D dl c] 73))):=(Below.refl _ _).alloc (Nat.le_refl _) _;go_enter Tryz.func131,Tryz.ntmps131;go_wp2_with fail;refine (H1.out _).mono ?_;rintro e u ⟨rfl,hb⟩;have HE:=Lib.hid (HE0.out.below hb HE0.out.lt);have HWu:=Lib.hid (HW0.out.trans (hb.mono HW0.out.size));have HT:=Lib.hid (T.below HWu.out);clear hb HE0 HW0 H1;obtain ⟨mc,HMC⟩: ∃mc:Array Value,Hid (mc= #[.int .i64 m0,.int .i64 m1,.int .i64 m2,.string US,.string GR,.int .i64 m5,.int .i64 m6]):=⟨_,rfl⟩;have HA4:=Lib.hid (Ad.new (u:=u) (mc:=mc));obtain ⟨E0,E1,E2,E3,E4,E5,E6,E7,E8,E9,EA⟩:=qaP (HE.out.alloc (.cells #[.slice none 0 0] 145));go_upto_region 7 with fail
 rw [←HMC.out];generalize (u.alloc (.cells #[.slice none 0 0] 145)).alloc (.cells mc 47)=w4 at HA4⊢;clear E0 E1 E2 E3 E4 E5 E6 E7 E8 E9 EA;have hM: ∀(W:World) (L:List Rc),Ad u mc L W→Blk W (u.heap.size+1) 47 #[.int .i64 m0,.int .i64 m1,.int .i64 m2,.string US,.string GR,.int .i64 m5,.int .i64 m6]:=fun W L h=>by have:=h.2.1;rwa [HMC.out]at this
 have HM:=Lib.hid hM;have HEb:=Lib.hid fun (W:World) (L:List Rc) (h:Ad u mc L W)=>h.blk HE.out;clear hM;obtain ⟨⟨E0,E1,E2,E3,E4,E5,E6⟩,-⟩:=blk7 (HM.out _ _ HA4.out);go_wp2_with fail;refine (HTm.out _ (HA4.out.tab HT.out)).mono ?_;rintro e w5 ⟨rfl,hb5⟩;have HA5:=Lib.hid (HA4.out.below hb5);clear hb5 E0 E1 E2 E3 E4 E5 E6 HA4;obtain ⟨⟨E0,E1,E2,-⟩,-⟩:=qaP (HEb.out _ _ HA5.out);go_wp2_with fail;refine (HCt.out _).mono ?_;rintro e w6 ⟨rfl,hb6⟩;have HAcur:=Lib.hid (HA5.out.below hb6);clear E0 E1 E2 HA5 hb6;go_upto_region 9 with fail
 go_cut [45] (fun s wx=>Ad u mc (([]:List Rc)++qbB (!fg) kGid IG.data.toList) wx)
 case first=>
  have r0: ∀W:World,AdX u mc W→W.cell? ⟨u.heap.size+1,2,none⟩=some (.int .i64 m2):=fun W h=>by obtain ⟨L,h⟩:=h;exact (blk7 (HM.out _ _ h)).1.2.2.1
  have HI:=Lib.hid fun W (h:AdX u mc W)=>HIg.out W (by obtain ⟨L,h⟩:=h;exact h.tab HT.out);have HFt:=HFg;have HAd:=Lib.hid fun W (h:Ad u mc (([]:List Rc)) W)=>qd1 h (by first|decide|(refine Nat.le_trans (by assumption) (by decide))) (!fg) ⟨#[103,105,100]⟩ IG;have hA:=HAcur.out;have hS:=hA.x
  go_region_held3 (fun W=>AdX u mc W)
   (first
    |(with_reducible assumption)
    |(with_reducible exact Ad.x (by with_reducible assumption))
    |(with_reducible refine AdX.drew_ ?_;with_reducible assumption)
    |(with_reducible exact AdX.below (by with_reducible assumption) (by with_reducible assumption)))
   (first
    |(go_at_call 183;refine (HFt.out _).mono ?_;rintro e w9 ⟨rfl,rfl⟩)
    |(go_at_call 184;refine (HI.out _ (by first|with_reducible assumption|with_reducible exact AdX.drew_ (by with_reducible assumption))).mono ?_;rintro e w2 ⟨rfl,hb2⟩)
    |(go_at_call 180;refine (HAd.out _ (by first|with_reducible assumption|with_reducible exact Ad.drew_ (by with_reducible assumption)|with_reducible exact Ad.below (by with_reducible assumption) (by with_reducible assumption)|with_reducible exact Ad.below (Ad.drew_ (by with_reducible assumption)) (by with_reducible assumption))).mono ?_;rintro e w3 ⟨rfl,hA3⟩))
  all_goals
   go_wp2_with fail;go_meet;exact hA3
 case rest=>
  have hA:=hcut;have L9l:=qqL (n:=0) (L:=([]:List Rc)) (Nat.le_refl _) (!fg) kGid IG.data.toList;generalize ([]:List Rc)++qbB (!fg) kGid IG.data.toList=L9 at hA L9l HR;replace HAcur:=Lib.hid hA;clear hA hcut;go_upto_region 10 with fail
  go_cut [54] (fun s wx=>Ad u mc (L9++qbB (decide ((31:Int)<(GR.size:Int))) qaY GR.data.toList) wx)
  case first=>
   have r0: ∀W:World,AdX u mc W→W.cell? ⟨u.heap.size+1,4,none⟩=some (.string GR):=fun W h=>by obtain ⟨L,h⟩:=h;exact (blk7 (HM.out _ _ h)).1.2.2.2.2.1
   have HCl:=HClG;have HAd:=Lib.hid fun W (h:Ad u mc (L9) W)=>qd1 h (by first|decide|(refine Nat.le_trans (by assumption) (by decide))) (decide ((31:Int)<(GR.size:Int))) ⟨#[103,110,97,109,101]⟩ GR;have hA:=HAcur.out;have hS:=hA.x
   go_region_held3 (fun W=>AdX u mc W)
    (first
     |(with_reducible assumption)
     |(with_reducible exact Ad.x (by with_reducible assumption))
     |(with_reducible refine AdX.drew_ ?_;with_reducible assumption)
     |(with_reducible exact AdX.below (by with_reducible assumption) (by with_reducible assumption)))
    (first
     |(go_at_call 110;refine (HCl.out _).mono ?_;rintro e w2 ⟨rfl,hb2⟩)
     |(go_at_call 180;refine (HAd.out _ (by first|with_reducible assumption|with_reducible exact Ad.drew_ (by with_reducible assumption)|with_reducible exact Ad.below (by with_reducible assumption) (by with_reducible assumption)|with_reducible exact Ad.below (Ad.drew_ (by with_reducible assumption)) (by with_reducible assumption))).mono ?_;rintro e w3 ⟨rfl,hA3⟩))
   all_goals
    go_wp2_with fail;go_meet;exact hA3
  case rest=>
   have hA:=hcut;have L10l:=qqL L9l (decide ((31:Int)<(GR.size:Int))) qaY GR.data.toList;generalize L9++qbB (decide ((31:Int)<(GR.size:Int))) qaY GR.data.toList=L10 at hA L10l HR;replace HAcur:=Lib.hid hA;clear hA hcut L9l;go_upto_region 11 with fail
   go_cut [63] (fun s wx=>Ad u mc (L10++qbB (decide ((100:Int)<(TG.size:Int))) qbM TG.data.toList) wx)
   case first=>
    have r0: ∀W:World,AdX u mc W→W.cell? ⟨w.heap.size,2,none⟩=some (.string TG):=fun W h=>by obtain ⟨L,h⟩:=h;exact (qaP (HEb.out _ _ h)).1.2.2.1
    have HCl:=HClT;have HAd:=Lib.hid fun W (h:Ad u mc (L10) W)=>qd1 h (by first|decide|(refine Nat.le_trans (by assumption) (by decide))) (decide ((100:Int)<(TG.size:Int))) ⟨#[108,105,110,107,112,97,116,104]⟩ TG;have hA:=HAcur.out;have hS:=hA.x
    go_region_held3 (fun W=>AdX u mc W)
     (first
      |(with_reducible assumption)
      |(with_reducible exact Ad.x (by with_reducible assumption))
      |(with_reducible refine AdX.drew_ ?_;with_reducible assumption)
      |(with_reducible exact AdX.below (by with_reducible assumption) (by with_reducible assumption)))
     (first
      |(go_at_call 110;refine (HCl.out _).mono ?_;rintro e w2 ⟨rfl,hb2⟩)
      |(go_at_call 180;refine (HAd.out _ (by first|with_reducible assumption|with_reducible exact Ad.drew_ (by with_reducible assumption)|with_reducible exact Ad.below (by with_reducible assumption) (by with_reducible assumption)|with_reducible exact Ad.below (Ad.drew_ (by with_reducible assumption)) (by with_reducible assumption))).mono ?_;rintro e w3 ⟨rfl,hA3⟩))
    all_goals
     go_wp2_with fail;go_meet;exact hA3
   case rest=>
    have hA:=hcut;have L11l:=qqL L10l (decide ((100:Int)<(TG.size:Int))) qbM TG.data.toList;generalize L10++qbB (decide ((100:Int)<(TG.size:Int))) qbM TG.data.toList=L11 at hA L11l HR;replace HAcur:=Lib.hid hA;clear hA hcut L10l;generalize hbl:(m6 !=0|| !fs)=bl at HR;obtain ⟨⟨E0,E1,E2,E3,E4,E5,E6⟩,-⟩:=blk7 (HM.out _ _ HAcur.out);go_upto_region 12 with fail
    go_cut [75] (fun s wx=>Ad u mc (L11++qbB bl qaW TM.data.toList) wx)
    case first=>
     by_cases k6:m6=0
     ·subst k6;obtain rfl:bl= !fs:=by rw [←hbl];rfl
      have HAd:=Lib.hid (qd1 HAcur.out (Nat.le_trans L11l (by decide)) (!fs) ⟨#[109,116,105,109,101]⟩ TM);go_wp2_with fail;refine (HFs.out _).mono ?_;rintro e w9 ⟨rfl,rfl⟩;go_wp2_with fail;refine HAd.out.mono ?_;rintro e w12 ⟨rfl,hA⟩;go_wp2_with fail;go_meet;exact hA
     ·have k6':(m6 !=0)=true:=by simpa using k6
      obtain rfl:bl=true:=by rw [←hbl,k6'];rfl
      have HAd:=Lib.hid (qd1 HAcur.out (Nat.le_trans L11l (by decide)) (true) ⟨#[109,116,105,109,101]⟩ TM);go_wp2_with fail;refine HAd.out.mono ?_;rintro e w12 ⟨rfl,hA⟩;go_wp2_with fail;go_meet;exact hA
    case rest=>
     have hA:=hcut;have L12l:=qqL L11l bl qaW TM.data.toList;generalize L11++qbB bl qaW TM.data.toList=L12 at hA L12l HR;replace HAcur:=Lib.hid hA;clear hA hcut hbl E0 E1 E2 E3 E4 E5 E6 L11l;obtain ⟨⟨E0,E1,E2,-⟩,-⟩:=qaP (HEb.out _ _ HAcur.out);go_wp2_with fail;refine (HClP.out _).mono ?_;rintro e w12 ⟨rfl,hb12⟩;replace HAcur:=Lib.hid (HAcur.out.below hb12);clear E0 E1 E2 hb12;go_wp2_with fail;refine (qd1 HAcur.out (Nat.le_trans L12l (by decide)) _ _ _).mono ?_;rintro e w13 ⟨rfl,hA⟩;have L13l:=qqL L12l (decide (ce≠0)) qbF P.data.toList
     have HA13:Hid (Ad u mc (L12++qbB (decide (ce≠0)) qbF P.data.toList) w13):=by
      refine cast (congrArg (fun b=>Ad u mc (L12++qbB b qbF P.data.toList) w13) ?_) hA;rw [Bool.eq_iff_iff,bne_iff_ne,decide_eq_true_eq]
     generalize L12++qbB (decide (ce≠0)) qbF P.data.toList=L13 at HA13 L13l HR;replace HAcur:=HA13;clear hA L12l HA13;go_upto_region 14 with fail
     go_cut [91] (fun s wx=>Ad u mc (L13++qbB (!fu) kUid IU.data.toList) wx)
     case first=>
      have r0: ∀W:World,AdX u mc W→W.cell? ⟨u.heap.size+1,1,none⟩=some (.int .i64 m1):=fun W h=>by obtain ⟨L,h⟩:=h;exact (blk7 (HM.out _ _ h)).1.2.1
      have HI:=Lib.hid fun W (h:AdX u mc W)=>HIu.out W (by obtain ⟨L,h⟩:=h;exact h.tab HT.out);have HFt:=HFu;have HAd:=Lib.hid fun W (h:Ad u mc (L13) W)=>qd1 h (by first|decide|(refine Nat.le_trans (by assumption) (by decide))) (!fu) ⟨#[117,105,100]⟩ IU;have hA:=HAcur.out;have hS:=hA.x
      go_region_held3 (fun W=>AdX u mc W)
       (first
        |(with_reducible assumption)
        |(with_reducible exact Ad.x (by with_reducible assumption))
        |(with_reducible refine AdX.drew_ ?_;with_reducible assumption)
        |(with_reducible exact AdX.below (by with_reducible assumption) (by with_reducible assumption)))
       (first
        |(go_at_call 183;refine (HFt.out _).mono ?_;rintro e w9 ⟨rfl,rfl⟩)
        |(go_at_call 184;refine (HI.out _ (by first|with_reducible assumption|with_reducible exact AdX.drew_ (by with_reducible assumption))).mono ?_;rintro e w2 ⟨rfl,hb2⟩)
        |(go_at_call 180;refine (HAd.out _ (by first|with_reducible assumption|with_reducible exact Ad.drew_ (by with_reducible assumption)|with_reducible exact Ad.below (by with_reducible assumption) (by with_reducible assumption)|with_reducible exact Ad.below (Ad.drew_ (by with_reducible assumption)) (by with_reducible assumption))).mono ?_;rintro e w3 ⟨rfl,hA3⟩))
      all_goals
       go_wp2_with fail;go_meet;exact hA3
     case rest=>
      have hA:=hcut;have L14l:=qqL L13l (!fu) kUid IU.data.toList;generalize L13++qbB (!fu) kUid IU.data.toList=L14 at hA L14l HR;replace HAcur:=Lib.hid hA;clear hA hcut L13l;go_upto_region 15 with fail
      go_cut [100] (fun s wx=>Ad u mc (L14++qbB (decide ((31:Int)<(US.size:Int))) qaZ US.data.toList) wx)
      case first=>
       have r0: ∀W:World,AdX u mc W→W.cell? ⟨u.heap.size+1,3,none⟩=some (.string US):=fun W h=>by obtain ⟨L,h⟩:=h;exact (blk7 (HM.out _ _ h)).1.2.2.2.1
       have HCl:=HClU;have HAd:=Lib.hid fun W (h:Ad u mc (L14) W)=>qd1 h (by first|decide|(refine Nat.le_trans (by assumption) (by decide))) (decide ((31:Int)<(US.size:Int))) ⟨#[117,110,97,109,101]⟩ US;have hA:=HAcur.out;have hS:=hA.x
       go_region_held3 (fun W=>AdX u mc W)
        (first
         |(with_reducible assumption)
         |(with_reducible exact Ad.x (by with_reducible assumption))
         |(with_reducible refine AdX.drew_ ?_;with_reducible assumption)
         |(with_reducible exact AdX.below (by with_reducible assumption) (by with_reducible assumption)))
        (first
         |(go_at_call 110;refine (HCl.out _).mono ?_;rintro e w2 ⟨rfl,hb2⟩)
         |(go_at_call 180;refine (HAd.out _ (by first|with_reducible assumption|with_reducible exact Ad.drew_ (by with_reducible assumption)|with_reducible exact Ad.below (by with_reducible assumption) (by with_reducible assumption)|with_reducible exact Ad.below (Ad.drew_ (by with_reducible assumption)) (by with_reducible assumption))).mono ?_;rintro e w3 ⟨rfl,hA3⟩))
       all_goals
        go_wp2_with fail;go_meet;exact hA3
      case rest=>
       have HA15:=Lib.hid hcut;rw [HR.out]at HA15;clear hcut HAcur L14l HR;obtain ⟨⟨v,hv1,hv2⟩,-,hv3⟩:=HA15.out;obtain ⟨A9,c9,rfl⟩:=hv2.form;have e0:=hv1.cell 0;simp only [List.getElem?_toArray,List.getElem?_cons_zero]at e0;have HO:=Lib.hid (hv2.mono (Nat.le_trans HWu.out.size (Nat.le_succ _)));have HB:=Lib.hid (HWu.out.trans (hv3.mono HWu.out.size));generalize hn9:RS.length=n9 at e0 HO;clear hv1 hv2 hv3 HA15;go_wp2_with fail;refine bodyPost_ret (v:= .tuple #[.slice A9 n9 c9,.int .i64 0]) (by simp [results,Tryz.results131,go_sem, *]) rfl ?_;exact ⟨_,rfl,by rw [hn9];exact HO.out,HB.out⟩
theorem q5S (x:EntV) (D:Option Addr) (c:Nat) (hx:x.sz) (w:World) (T:Tab w):
  Calls Tryz.prog 131 #[.agg (entC x D c).toArray] w fun e w'=> ∃v,e= .returned (.tuple #[v,.int .i64 (entE x)])∧Own w' w.heap.size v (recO x).length (recO x)∧Below w.heap.size w w':=by
 unfold recO
 by_cases h0:entE x=0
 ·rw [if_pos h0,h0];exact qrS x D c hx h0 w T
 ·rw [if_neg h0];have H1:=Lib.hid fun W=>qj9 x D c hx W;obtain ⟨E,HE⟩:=qaA (entE x);rw [HE.out]at H1 h0⊢;have hne:(E !=0)=true:=by simpa using h0
  have hw0:Hid (Below w.heap.size w (w.alloc (.cells (entC x D c).toArray 73))):=(Below.refl _ _).alloc (Nat.le_refl _) _;unfold entC at H1 hw0⊢;clear h0 HE;obtain ⟨path,kind,target,⟨m0,m1,m2,m3,m4,m5,m6⟩,data⟩:=x;simp only at H1 hw0⊢;go_enter Tryz.func131,Tryz.ntmps131;go_wp2_with fail;refine (H1.out _).mono ?_;rintro e u ⟨rfl,hb⟩;have HB:=Lib.hid (hw0.out.trans (hb.mono hw0.out.size));clear hb;go_wp2_with fail;refine bodyPost_ret (v:= .tuple #[.slice none 0 0,.int .i64 E]) (by simp [results,Tryz.results131,go_sem, *]) rfl ?_;exact ⟨_,rfl,Own.nil _ _,HB.out⟩
def hdP (h:HeadV) (r:Rc):HeadV:=if r.1=qbF then {hdR h r with pre:= [] } else hdR h r
theorem q6K (h:HeadV) (r:Rc):(hdR h r).pre=h.pre:=by
 unfold hdR
 split
 ·rfl
 ·split
  ·rfl
  ·split
   ·rfl
   ·split
    ·rfl
    ·split
     ·rfl
     ·split
      ·rfl
      ·split<;>rfl
theorem foldP: ∀(l:List Rc) (h:HeadV),(∀r∈l,r.1=qbF→h.pre= [])→l.foldl hdP h=l.foldl hdR h
 | [],h,_=>rfl
 |r::l,h,hp=>by
  have e:hdP h r=hdR h r:=by
   unfold hdP
   split
   ·rename_i hk;have h1:=hp r (List.mem_cons_self ..) hk;have h2:=q6K h r;rw [h1]at h2;generalize hdR h r=y at h2⊢;obtain ⟨n0,n1,n2,n3,n4,n5,n6,n7,n8,n9,nA⟩:=y;simp only at h2;rw [h2]
   ·rfl
  rw [List.foldl_cons,List.foldl_cons,e];exact foldP l _ fun q hq hk=>by rw [q6K];exact hp q (List.mem_cons_of_mem _ hq) hk
theorem qfU {b:Bool} {k v:List UInt8} {r:Rc} (h:r∈qbB b k v):b=true∧r.1=k:=by
 cases b with
 |false=>cases h
 |true=>exact ⟨rfl,qd0 h⟩
theorem q97 (x:EntV): ∀r∈qa1 x,r.1=qbF→(q6I x).pre= []:=by
 intro r hr hk;show (cutV x.path).1= [];unfold qa1 at hr;simp only [List.mem_append]at hr;rcases hr with h|h|h|h|h|h|h
 ·exact absurd ((qfU h).2.symm.trans hk) (by decide)
 ·exact absurd ((qfU h).2.symm.trans hk) (by decide)
 ·exact absurd ((qfU h).2.symm.trans hk) (by decide)
 ·exact absurd ((qfU h).2.symm.trans hk) (by decide)
 ·exact (cut_bad (of_decide_eq_true (qfU h).1)).1
 ·exact absurd ((qfU h).2.symm.trans hk) (by decide)
 ·exact absurd ((qfU h).2.symm.trans hk) (by decide)
theorem zb0 (x:EntV):(qa1 x).foldl hdP (q6I x)=qb9 x:=(foldP _ _ (q97 x)).trans (zbZ x)
theorem qfE {h:HeadV} {k v:List UInt8} (hk:k≠qbF):hdP h (k,v)=hdR h (k,v):=if_neg hk
theorem zb1 (h:HeadV) (v:List UInt8):hdP h (qbF,v)= {h with name:=qfO,pre:= [] } :=by rw [hdP,if_pos rfl,qzB]
set_option maxHeartbeats 2000000 in
theorem q5Z {w:World} {g:Nat} (h:HeadV) (K V:List UInt8) (hK:K∈q58) (hB:Blk w g 152 (qaN h)):
  Calls Tryz.prog 189 #[.pointer (some ⟨g,0,none⟩),.string (bs K)] w fun e w'=>e= .returned (.tuple #[])∧Blk w' g 152 (qaN (hdP h (K,V)))∧Below g w w':=by
 obtain ⟨⟨q0,q1,q2,q3,q4,q5,q6,q7,q8,q9,qA⟩,f0,f1,f2,f3,f4,f5,f6,f7,f8,f9,fA⟩:=qaP hB;unfold q58 at hK;simp only [List.mem_cons,List.not_mem_nil,or_false]at hK;rcases hK with rfl|rfl|rfl|rfl|rfl|rfl|rfl
 ·rw [qfE (by decide),q6L];have HN:Hid (Blk (w.setCell ⟨g,5,none⟩ (.int .i64 0)) g 152 (qaN ({h with gid:=0} :HeadV))):=hB.set_ 5 (.int .i64 0);have HB2:=Lib.hid ((Below.refl g w).setCell (p:=⟨g,5,none⟩) (Nat.le_refl _) (.int .i64 0));rw [show bs kGid=⟨#[103,105,100]⟩from rfl];generalize ({h with gid:=0} :HeadV)=h2 at HN⊢;clear hB;go_enter Tryz.func189,Tryz.ntmps189;go_wp2_with fail
  go_end0
  exact ⟨rfl,HN.out,HB2.out⟩
 ·rw [qfE (by decide),quR];have HN:Hid (Blk (w.setCell ⟨g,10,none⟩ (.string ⟨#[]⟩)) g 152 (qaN ({h with group:= [] } :HeadV))):=hB.set_ 10 (.string ⟨#[]⟩);have HB2:=Lib.hid ((Below.refl g w).setCell (p:=⟨g,10,none⟩) (Nat.le_refl _) (.string ⟨#[]⟩));rw [show bs qaY=⟨#[103,110,97,109,101]⟩from rfl];generalize ({h with group:= [] } :HeadV)=h2 at HN⊢;clear hB;go_enter Tryz.func189,Tryz.ntmps189;go_wp2_with fail
  go_end0
  exact ⟨rfl,HN.out,HB2.out⟩
 ·rw [qfE (by decide),qzC];have HN:Hid (Blk (w.setCell ⟨g,2,none⟩ (.string ⟨#[64,108,111,110,103]⟩)) g 152 (qaN ({h with link:=qfO} :HeadV))):=hB.set_ 2 (.string ⟨#[64,108,111,110,103]⟩);have HB2:=Lib.hid ((Below.refl g w).setCell (p:=⟨g,2,none⟩) (Nat.le_refl _) (.string ⟨#[64,108,111,110,103]⟩));rw [show bs qbM=⟨#[108,105,110,107,112,97,116,104]⟩from rfl];generalize ({h with link:=qfO} :HeadV)=h2 at HN⊢;clear hB;go_enter Tryz.func189,Tryz.ntmps189;go_wp2_with fail
  go_end0
  exact ⟨rfl,HN.out,HB2.out⟩
 ·rw [qfE (by decide),quQ];have HN:Hid (Blk (w.setCell ⟨g,7,none⟩ (.int .i64 0)) g 152 (qaN ({h with time:=0} :HeadV))):=hB.set_ 7 (.int .i64 0);have HB2:=Lib.hid ((Below.refl g w).setCell (p:=⟨g,7,none⟩) (Nat.le_refl _) (.int .i64 0));rw [show bs qaW=⟨#[109,116,105,109,101]⟩from rfl];generalize ({h with time:=0} :HeadV)=h2 at HN⊢;clear hB;go_enter Tryz.func189,Tryz.ntmps189;go_wp2_with fail
  go_end0
  exact ⟨rfl,HN.out,HB2.out⟩
 ·rw [zb1];have HN:Hid (Blk ((w.setCell ⟨g,1,none⟩ (.string ⟨#[]⟩)).setCell ⟨g,0,none⟩ (.string ⟨#[64,108,111,110,103]⟩)) g 152 (qaN ({h with name:=qfO,pre:= [] } :HeadV))):=(hB.set_ 1 (.string ⟨#[]⟩)).set_ 0 (.string ⟨#[64,108,111,110,103]⟩);have HB2:=Lib.hid (((Below.refl g w).setCell (p:=⟨g,1,none⟩) (Nat.le_refl _) (.string ⟨#[]⟩)).setCell (p:=⟨g,0,none⟩) (Nat.le_refl _) (.string ⟨#[64,108,111,110,103]⟩));rw [show bs qbF=⟨#[112,97,116,104]⟩from rfl];generalize ({h with name:=qfO,pre:= [] } :HeadV)=h2 at HN⊢;clear hB;go_enter Tryz.func189,Tryz.ntmps189;go_wp2_with fail
  go_end0
  exact ⟨rfl,HN.out,HB2.out⟩
 ·rw [qfE (by decide),q6J];have HN:Hid (Blk (w.setCell ⟨g,4,none⟩ (.int .i64 0)) g 152 (qaN ({h with uid:=0} :HeadV))):=hB.set_ 4 (.int .i64 0);have HB2:=Lib.hid ((Below.refl g w).setCell (p:=⟨g,4,none⟩) (Nat.le_refl _) (.int .i64 0));rw [show bs kUid=⟨#[117,105,100]⟩from rfl];generalize ({h with uid:=0} :HeadV)=h2 at HN⊢;clear hB;go_enter Tryz.func189,Tryz.ntmps189;go_wp2_with fail
  go_end0
  exact ⟨rfl,HN.out,HB2.out⟩
 ·rw [qfE (by decide),quP];have HN:Hid (Blk (w.setCell ⟨g,9,none⟩ (.string ⟨#[]⟩)) g 152 (qaN ({h with user:= [] } :HeadV))):=hB.set_ 9 (.string ⟨#[]⟩);have HB2:=Lib.hid ((Below.refl g w).setCell (p:=⟨g,9,none⟩) (Nat.le_refl _) (.string ⟨#[]⟩));rw [show bs qaZ=⟨#[117,110,97,109,101]⟩from rfl];generalize ({h with user:= [] } :HeadV)=h2 at HN⊢;clear hB;go_enter Tryz.func189,Tryz.ntmps189;go_wp2_with fail
  go_end0
  exact ⟨rfl,HN.out,HB2.out⟩
end Go.Proofs.YtapgoifimhnbdaaGreatDoor
