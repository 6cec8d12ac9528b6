/- Package member: Head. -/
import Derived.Test.YtapgoifimhnbdaaGreatDoorMgh
set_option linter.unusedVariables false
set_option maxRecDepth 100000
namespace Go.Proofs.YtapgoifimhnbdaaGreatDoor
open Go.RowKit
open Go.OpenShut
theorem qkL {x W W':World} (h:Below x.heap.size x W) (hb:Below W.heap.size W W'):Below x.heap.size x W':=h.trans (hb.mono h.size)
theorem keepN {x W:World} (h:Below x.heap.size x W) (o:Obj):Below x.heap.size x (W.alloc o):=h.alloc h.size o
theorem zdX {W w':World} {cs:Array Value} {t:TypeId} (hb:Below (W.alloc (.cells cs t)).heap.size (W.alloc (.cells cs t)) w'):Blk w' W.heap.size t cs:=(Blk.new W t cs).below hb (by rw [hszA];exact Nat.lt_succ_self _)
theorem new_ofD {W w':World} {cs:Array Value} {t:TypeId} (hb:Below (W.alloc (.cells cs t)).drew.heap.size (W.alloc (.cells cs t)).drew w'):Blk w' W.heap.size t cs:=((Blk.new W t cs).drew_).below hb (by show W.heap.size<(W.alloc (.cells cs t)).heap.size;rw [hszA];exact Nat.lt_succ_self _)
def Newt (w:World) (g:Nat):Prop:=Blk w g 152 #[.string ⟨#[]⟩,.string ⟨#[]⟩,.string ⟨#[]⟩,.int .i64 0,.int .i64 0,.int .i64 0,.int .i64 0,.int .i64 0,.int .u8 0,.string ⟨#[]⟩,.string ⟨#[]⟩]
theorem newt {w:World} {g:Nat} (h:Newt w g):((w.cell? ⟨g,0,none⟩=some (.string ⟨#[]⟩)∧w.cell? ⟨g,1,none⟩=some (.string ⟨#[]⟩)∧w.cell? ⟨g,2,none⟩=some (.string ⟨#[]⟩)∧w.cell? ⟨g,3,none⟩=some (.int .i64 0)∧w.cell? ⟨g,4,none⟩=some (.int .i64 0)∧w.cell? ⟨g,5,none⟩=some (.int .i64 0)∧w.cell? ⟨g,6,none⟩=some (.int .i64 0)∧w.cell? ⟨g,7,none⟩=some (.int .i64 0)∧w.cell? ⟨g,8,none⟩=some (.int .u8 0)∧w.cell? ⟨g,9,none⟩=some (.string ⟨#[]⟩)∧w.cell? ⟨g,10,none⟩=some (.string ⟨#[]⟩))∧w.frozen? ⟨g,0,none⟩=false∧w.frozen? ⟨g,1,none⟩=false∧w.frozen? ⟨g,2,none⟩=false∧w.frozen? ⟨g,3,none⟩=false∧w.frozen? ⟨g,4,none⟩=false∧w.frozen? ⟨g,5,none⟩=false∧w.frozen? ⟨g,6,none⟩=false∧w.frozen? ⟨g,7,none⟩=false∧w.frozen? ⟨g,8,none⟩=false∧w.frozen? ⟨g,9,none⟩=false∧w.frozen? ⟨g,10,none⟩=false):=by
 obtain ⟨⟨q0,q1,q2,q3,q4,q5,q6,q7,q8,q9,qA⟩,f0,f1,f2,f3,f4,f5,f6,f7,f8,f9,fA⟩:=qaP h;exact ⟨⟨q0,q1,q2,q3,q4,q5,q6,q7,q8,q9,qA⟩,f0,f1,f2,f3,f4,f5,f6,f7,f8,f9,fA⟩
set_option maxHeartbeats 8000000 in
theorem zbE (x:EntV) (D:Option Addr) (c:Nat) (hx:x.sz) (h0:entE x=0) (w:World) (T:Tab w):
  Calls Tryz.prog 134 #[.agg (entC x D c).toArray] w fun e w'=>e= .returned (.tuple #[.agg (qaN (qb9 x)),.int .i64 0])∧Below w.heap.size w w':=by
 have g:=qcP h0;have HRc:=Lib.hid fun W TW=>qrS x D c hx h0 W TW;have HCt:=Lib.hid fun W=>qx3 (bs x.path) W (by rw [qaC];unfold maxLen;have:=g.path;omega) (by rw [qaC];have:=g.path;omega);rw [qaF]at HCt;have HF:=zb0 x;have HK:Hid (∀(k:Nat) (h:k<(qa1 x).length),((qa1 x)[k]).1∈q58):=fun k h=>q98 (List.getElem_mem h);have hn7:=qq9 x;have hdl:=g.data;have hkd:=g.kind;unfold q6I at HF;obtain ⟨path,kind,target,⟨m0,m1,m2,m3,m4,m5,m6⟩,data⟩:=x;unfold entC at HRc⊢;simp only at HRc HCt HF hkd hdl⊢;obtain ⟨RS,hRS⟩: ∃RS,RS=qa1 ⟨path,kind,target,⟨m0,m1,m2,m3,m4,m5,m6⟩,data⟩:=⟨_,rfl⟩;rw [←hRS]at HRc HF HK hn7;generalize qb9 _=H9 at HF⊢;generalize (cutV path).2.2=ce at HCt;obtain ⟨cp,hcp⟩: ∃cp,cp=(cutV path).1:=⟨_,rfl⟩;obtain ⟨cn,hcn⟩: ∃cn,cn=(cutV path).2.1:=⟨_,rfl⟩;rw [←hcp,←hcn]at HCt HF;obtain ⟨ty,hty⟩: ∃ty,ty=typM kind:=⟨_,rfl⟩;rw [←hty]at HF;have z2:target.length≤400:=g.target.1;have z3:m3.length≤60:=g.user.1;have z4:m4.length≤60:=g.group.1;obtain ⟨k,hk⟩: ∃k:Nat,kind=(k:Int)+1:=⟨(kind-1).toNat,by omega⟩;subst hk;have hk4:k<4:=by omega
 have hk5:(k=0∧ty=48)∨(k=1∧ty=53)∨(k=2∧ty=50)∨(k=3∧ty=49):=by
  have hk5:k=0∨k=1∨k=2∨k=3:=by omega
  rcases hk5 with rfl|rfl|rfl|rfl
  ·exact .inl ⟨rfl,hty⟩
  ·exact .inr (.inl ⟨rfl,hty⟩)
  ·exact .inr (.inr (.inl ⟨rfl,hty⟩))
  ·exact .inr (.inr (.inr ⟨rfl,hty⟩))
 have HK5:Hid (∀h:k<(⟨#[48,53,50,49]⟩:ByteArray).size,(((⟨#[48,53,50,49]⟩:ByteArray)[k]'h).toNat:Int)=(ty.toNat:Int)):=by
  intro h;rcases hk5 with ⟨rfl,rfl⟩|⟨rfl,rfl⟩|⟨rfl,rfl⟩|⟨rfl,rfl⟩<;>rfl
 clear hRS hcp hcn hty g h0 hx hk5 hkd;obtain ⟨hh0,hhh0⟩: ∃hh0:HeadV,hh0= {name:=cn,pre:=cp,link:=target,mode:=m0,uid:=m1,gid:=m2,size:=(data.length:Int),time:=m5,typ:=ty,user:=m3,group:=m4} :=⟨_,rfl⟩;rw [←hhh0]at HF;have HH0:Hid (qaN hh0= #[.string (bs cn),.string (bs cp),.string (bs target),.int .i64 m0,.int .i64 m1,.int .i64 m2,.int .i64 (data.length:Int),.int .i64 m5,.int .u8 (ty.toNat:Int),.string (bs m3),.string (bs m4)]):=by unfold Hid;rw [hhh0];rfl
 have HF:=Lib.hid HF;generalize data.length=dl at HRc HH0 hdl⊢;clear hhh0;have HClT:=Lib.hid fun W=>qa5 (bs target) W (by rw [qaC];omega);have HClU:=Lib.hid fun W=>qa5 (bs m3) W (by rw [qaC];omega);have HClG:=Lib.hid fun W=>qa5 (bs m4) W (by rw [qaC];omega);obtain ⟨P,HP⟩:=qaA (bs path);rw [HP.out]at HCt HRc⊢;have HE0:=Lib.hid ((Blk.new w 73 #[.string P,.int .i64 ((k:Int)+1),.string (bs target),.int .i64 m0,.int .i64 m1,.int .i64 m2,.string (bs m3),.string (bs m4),.int .i64 m5,.int .i64 m6,.slice D dl c]).alloc (.cells (qaN qbE) 152));have HZ0:=Lib.hid (Blk.new (w.alloc (.cells #[.string P,.int .i64 ((k:Int)+1),.string (bs target),.int .i64 m0,.int .i64 m1,.int .i64 m2,.string (bs m3),.string (bs m4),.int .i64 m5,.int .i64 m6,.slice D dl c] 73)) 152 (qaN qbE));have HB0:Hid (Below w.heap.size w ((w.alloc (.cells #[.string P,.int .i64 ((k:Int)+1),.string (bs target),.int .i64 m0,.int .i64 m1,.int .i64 m2,.string (bs m3),.string (bs m4),.int .i64 m5,.int .i64 m6,.slice D dl c] 73)).alloc (.cells (qaN qbE) 152))):=((Below.refl _ _).alloc (Nat.le_refl _) _).alloc (by rw [hszA];omega) _;have ez:qaN qbE= #[.string ⟨#[]⟩,.string ⟨#[]⟩,.string ⟨#[]⟩,.int .i64 0,.int .i64 0,.int .i64 0,.int .i64 0,.int .i64 0,.int .u8 0,.string ⟨#[]⟩,.string ⟨#[]⟩]:=rfl;rw [hszA]at HZ0;rw [ez]at HE0 HZ0 HB0;clear ez;go_enter Tryz.func134,Tryz.ntmps134;go_wp2_with fail;refine (HRc.out _ (T.below HB0.out)).mono ?_;rintro e x3 ⟨v,rfl,ho,hb⟩;have HE:=Lib.hid (HE0.out.below hb HE0.out.lt)
 have HZ:=Lib.hid (HZ0.out.below hb HZ0.out.lt);have HBx:=Lib.hid (HB0.out.trans (hb.mono HB0.out.size));obtain ⟨A,cA,rfl⟩:=ho.form;have HR:=Lib.hid ho.at;generalize hnn:RS.length=n at hn7 HR⊢;clear ho hb HE0 HZ0 HB0 HRc;obtain ⟨⟨E0,E1,E2,E3,E4,E5,E6,E7,E8,E9,EA⟩,-⟩:=qaP HE.out;go_upto_region 5 with fail
 have hM4:=Blk.new x3 47 #[.int .i64 m0,.int .i64 m1,.int .i64 m2,.string (bs m3),.string (bs m4),.int .i64 m5,.int .i64 m6];have hE4:=HE.out.alloc (.cells #[.int .i64 m0,.int .i64 m1,.int .i64 m2,.string (bs m3),.string (bs m4),.int .i64 m5,.int .i64 m6] 47);have hB4:=(Below.refl x3.heap.size x3).alloc (Nat.le_refl _) (.cells #[.int .i64 m0,.int .i64 m1,.int .i64 m2,.string (bs m3),.string (bs m4),.int .i64 m5,.int .i64 m6] 47);generalize x3.alloc (.cells #[.int .i64 m0,.int .i64 m1,.int .i64 m2,.string (bs m3),.string (bs m4),.int .i64 m5,.int .i64 m6] 47)=x4 at hM4 hE4 hB4⊢;have HM4:=Lib.hid hM4;have HE4:=Lib.hid hE4;have HB4:=Lib.hid hB4;clear E0 E1 E2 E3 E4 E5 E6 E7 E8 E9 EA hM4 hE4 hB4;obtain ⟨gM,hgM⟩:=qaA x3.heap.size;rw [hgM.out]at HM4⊢
 go_cut [7] (fun s wx=> ∃gh tn,s= .pointer (some ⟨gh,0,none⟩)∧tn=(ty.toNat:Int)∧x4.heap.size≤gh∧Blk wx gh 152 #[.string ⟨#[]⟩,.string ⟨#[]⟩,.string (bs target),.int .i64 m0,.int .i64 m1,.int .i64 m2,.int .i64 (dl:Int),.int .i64 m5,.int .u8 tn,.string (bs m3),.string (bs m4)]∧Below x4.heap.size x4 wx)
 case first=>
  have r0: ∀W:World,Below x4.heap.size x4 W→W.cell? ⟨gM,0,none⟩=some (.int .i64 m0):=fun W h=>(blk7 (HM4.out.below h HM4.out.lt)).1.1;have r1: ∀W:World,Below x4.heap.size x4 W→W.cell? ⟨gM,1,none⟩=some (.int .i64 m1):=fun W h=>(blk7 (HM4.out.below h HM4.out.lt)).1.2.1;have r2: ∀W:World,Below x4.heap.size x4 W→W.cell? ⟨gM,2,none⟩=some (.int .i64 m2):=fun W h=>(blk7 (HM4.out.below h HM4.out.lt)).1.2.2.1;have r3: ∀W:World,Below x4.heap.size x4 W→W.cell? ⟨gM,3,none⟩=some (.string (bs m3)):=fun W h=>(blk7 (HM4.out.below h HM4.out.lt)).1.2.2.2.1;have r4: ∀W:World,Below x4.heap.size x4 W→W.cell? ⟨gM,4,none⟩=some (.string (bs m4)):=fun W h=>(blk7 (HM4.out.below h HM4.out.lt)).1.2.2.2.2.1;have r5: ∀W:World,Below x4.heap.size x4 W→W.cell? ⟨gM,5,none⟩=some (.int .i64 m5):=fun W h=>(blk7 (HM4.out.below h HM4.out.lt)).1.2.2.2.2.2.1;have e1: ∀W:World,Below x4.heap.size x4 W→W.cell? ⟨w.heap.size,1,none⟩=some (.int .i64 ((k:Int)+1)):=fun W h=>(qaP (HE4.out.below h HE4.out.lt)).1.2.1;have e2: ∀W:World,Below x4.heap.size x4 W→W.cell? ⟨w.heap.size,2,none⟩=some (.string (bs target)):=fun W h=>(qaP (HE4.out.below h HE4.out.lt)).1.2.2.1
  have eA: ∀W:World,Below x4.heap.size x4 W→W.cell? ⟨w.heap.size,10,none⟩=some (.slice D dl c):=fun W h=>by
   have:=(HE4.out.below h HE4.out.lt).cell 10;exact this
  have hS:=Below.refl x4.heap.size x4;have hsub:IntKind.i64.wrap ((k:Int)+1-1)=(k:Int):=by rw [IntKind.wrap_i64];omega
  have hsub2:IntKind.i64.wrap (k:Int)=(k:Int):=by rw [IntKind.wrap_i64];omega
  have hk40:(0:Int)≤(k:Int):=by omega
  have hk41:(k:Int)<4:=by omega
  go_region_held3 (fun W=>Below x4.heap.size x4 W)
   (first
    |(with_reducible assumption)
    |(with_reducible refine Below.drew ?_;with_reducible assumption)
    |(with_reducible exact keepN (by with_reducible assumption) _)
    |(with_reducible exact Below.drew (keepN (Below.refl _ _) _))
    |(with_reducible exact qa0 (by with_reducible assumption) (Nat.le_refl _) _ _ _ _ _ _ _ _ _ _ _)
    |(with_reducible exact qa0 (by with_reducible assumption) (Below.size (qkL (Below.drew (Below.refl _ _)) hb5)) _ _ _ _ _ _ _ _ _ _ _)
    |(with_reducible exact qa0 (by with_reducible assumption) (Below.size (qkL (qkL (Below.drew (Below.refl _ _)) hb5) hb6)) _ _ _ _ _ _ _ _ _ _ _)
    |(with_reducible exact keepN (qkL (qkL (qkL (Below.drew (Below.refl _ _)) hb5) hb6) hb7) _)
    |(with_reducible exact qkL (by with_reducible assumption) (by with_reducible assumption)))
   (first
    |(go_at_call 110;refine (HClT.out _).mono ?_;rintro e w5 ⟨rfl,hb5⟩;first|(have hN:Blk w5 x4.heap.size 152 #[.string ⟨#[]⟩,.string ⟨#[]⟩,.string ⟨#[]⟩,.int .i64 0,.int .i64 0,.int .i64 0,.int .i64 0,.int .i64 0,.int .u8 0,.string ⟨#[]⟩,.string ⟨#[]⟩]:=(by with_reducible exact new_ofD hb5);obtain ⟨⟨q0,q1,q2,q3,q4,q5,q6,q7,q8,q9,qA⟩,f0,f1,f2,f3,f4,f5,f6,f7,f8,f9,fA⟩:=newt hN)|skip)
    |(go_at_call 110;refine (HClU.out _).mono ?_;rintro e w6 ⟨rfl,hb6⟩;first|(have hN6:Blk w6 w5.heap.size 152 #[.string ⟨#[]⟩,.string ⟨#[]⟩,.string ⟨#[]⟩,.int .i64 0,.int .i64 0,.int .i64 0,.int .i64 0,.int .i64 0,.int .u8 0,.string ⟨#[]⟩,.string ⟨#[]⟩]:=(by with_reducible exact zdX hb6);obtain ⟨⟨q0,q1,q2,q3,q4,q5,q6,q7,q8,q9,qA⟩,f0,f1,f2,f3,f4,f5,f6,f7,f8,f9,fA⟩:=newt hN6)|(have hN6:Blk w6 x4.heap.size 152 #[.string ⟨#[]⟩,.string ⟨#[]⟩,.string ⟨#[]⟩,.int .i64 0,.int .i64 0,.int .i64 0,.int .i64 0,.int .i64 0,.int .u8 0,.string ⟨#[]⟩,.string ⟨#[]⟩]:=(by with_reducible exact Blk.below hN hb6 (Blk.lt hN));obtain ⟨⟨q0,q1,q2,q3,q4,q5,q6,q7,q8,q9,qA⟩,f0,f1,f2,f3,f4,f5,f6,f7,f8,f9,fA⟩:=newt hN6)|skip)
    |(go_at_call 110;refine (HClG.out _).mono ?_;rintro e w7 ⟨rfl,hb7⟩;first|(have hN7:Blk w7 w6.heap.size 152 #[.string ⟨#[]⟩,.string ⟨#[]⟩,.string ⟨#[]⟩,.int .i64 0,.int .i64 0,.int .i64 0,.int .i64 0,.int .i64 0,.int .u8 0,.string ⟨#[]⟩,.string ⟨#[]⟩]:=(by with_reducible exact zdX hb7);obtain ⟨⟨q0,q1,q2,q3,q4,q5,q6,q7,q8,q9,qA⟩,f0,f1,f2,f3,f4,f5,f6,f7,f8,f9,fA⟩:=newt hN7)|(have hN7:Blk w7 w5.heap.size 152 #[.string ⟨#[]⟩,.string ⟨#[]⟩,.string ⟨#[]⟩,.int .i64 0,.int .i64 0,.int .i64 0,.int .i64 0,.int .i64 0,.int .u8 0,.string ⟨#[]⟩,.string ⟨#[]⟩]:=(by with_reducible exact Blk.below hN6 hb7 (Blk.lt hN6));obtain ⟨⟨q0,q1,q2,q3,q4,q5,q6,q7,q8,q9,qA⟩,f0,f1,f2,f3,f4,f5,f6,f7,f8,f9,fA⟩:=newt hN7)|(have hN7:Blk w7 x4.heap.size 152 #[.string ⟨#[]⟩,.string ⟨#[]⟩,.string ⟨#[]⟩,.int .i64 0,.int .i64 0,.int .i64 0,.int .i64 0,.int .i64 0,.int .u8 0,.string ⟨#[]⟩,.string ⟨#[]⟩]:=(by with_reducible exact Blk.below hN6 hb7 (Blk.lt hN6));obtain ⟨⟨q0,q1,q2,q3,q4,q5,q6,q7,q8,q9,qA⟩,f0,f1,f2,f3,f4,f5,f6,f7,f8,f9,fA⟩:=newt hN7)|skip))
  all_goals
   go_wp2_with fail;go_meet
   first
    |exact ⟨_,_,rfl,HK5.out _,Below.size (qkL (qkL (qkL (Below.drew (Below.refl _ _)) hb5) hb6) hb7),Blk.new _ _ _,by assumption⟩
    |exact ⟨_,_,rfl,HK5.out _,Below.size (qkL (qkL (Below.drew (Below.refl _ _)) hb5) hb6),qjS hN7 _ _ _ _ _ _ _ _ _ _ _,by assumption⟩
    |exact ⟨_,_,rfl,HK5.out _,Below.size (qkL (Below.drew (Below.refl _ _)) hb5),qjS hN7 _ _ _ _ _ _ _ _ _ _ _,by assumption⟩
    |exact ⟨_,_,rfl,HK5.out _,Nat.le_refl _,qjS hN7 _ _ _ _ _ _ _ _ _ _ _,by assumption⟩
 case rest=>
  obtain ⟨gh,tn,rfl,rfl,hgh,hH5,hB5⟩:=hcut;rename World=>x5
  have hE5:=HE4.out.below hB5 HE4.out.lt;have HH5:=Lib.hid hH5;have HB5:=Lib.hid hB5;obtain ⟨⟨E0,E1,E2,-⟩,-⟩:=qaP hE5;clear hE5 hH5 hB5 HM4 HE4 HClT HClU HClG HK5 hgM;go_wp2_with fail;refine (HCt.out _).mono ?_;rintro e x6 ⟨rfl,hb6⟩;have hH6:=HH5.out.below hb6 HH5.out.lt;obtain ⟨⟨q0,q1,q2,q3,q4,q5,q6,q7,q8,q9,qA⟩,f0,f1,f2,f3,f4,f5,f6,f7,f8,f9,fA⟩:=qaP hH6;have hle:x3.heap.size≤gh:=Nat.le_trans HB4.out.size hgh;have hX6:Below x3.heap.size x3 x6:=(HB4.out.trans (HB5.out.mono HB4.out.size)).trans (hb6.mono (HB4.out.trans (HB5.out.mono HB4.out.size)).size);have hX8:=(hX6.setCell (p:=⟨gh,1,none⟩) hle (.string (bs cp))).setCell (p:=⟨gh,0,none⟩) hle (.string (bs cn))
  have hH8:Blk ((x6.setCell ⟨gh,1,none⟩ (.string (bs cp))).setCell ⟨gh,0,none⟩ (.string (bs cn))) gh 152 (qaN hh0):=by
   rw [HH0.out];exact (hH6.set_ 1 (.string (bs cp))).set_ 0 (.string (bs cn))
  have HX8:=Lib.hid hX8;have HH8:=Lib.hid hH8;have HLE:=Lib.hid hle;clear E0 E1 E2 hH6 hX6 hX8 hH8 hle HB4 HB5 HH5 HH0 HCt hb6 hgh;go_wp2_with fail
  go_loopw [57] (fun iv wr=> ∃i:Nat,i≤n∧iv= .int .i64 i∧Hid (Blk wr gh 152 (qaN ((RS.take i).foldl hdP hh0)))∧Hid (Below x3.heap.size x3 wr)) (fun iv _=>n-(intOf iv).toNat)
  case atStart=>exact ⟨0,Nat.zero_le _,rfl,HH8.out,HX8.out⟩
  case round=>
   obtain ⟨i,hi,rfl,HBk,HB⟩:=hrel
   by_cases hlt:i<n
   ·have i1:i<RS.length:=by rw [hnn];exact hlt
    obtain ⟨b,o,rfl,c0,c1⟩:=(HR.out.below HB.out) i i1
    have HSt:Hid ((RS.take (i+1)).foldl hdP hh0=hdP ((RS.take i).foldl hdP hh0) RS[i]):=by
     unfold Hid;rw [List.take_succ_eq_append_getElem i1,List.foldl_append];rfl
    have hkey:=HK.out i i1;generalize RS[i]=r at c0 c1 HSt hkey;obtain ⟨K,V⟩:=r;simp only at c0 c1 hkey;generalize (RS.take i).foldl hdP hh0=hi0 at HBk HSt;have HL:=Lib.hid (q5Z hi0 K V hkey (HBk.out.alloc (.cells #[.string (bs K),.string (bs V)] 190)));have HB2:=Lib.hid (HB.out.alloc HB.out.size (.cells #[.string (bs K),.string (bs V)] 190));generalize bs V=VS at c1 HL HB2;generalize bs K=KS at c0 HL HB2;clear hkey;go_wp2_with fail;refine HL.out.mono ?_;rintro e w10 ⟨rfl,hN,hb⟩;have HN:Hid (Blk w10 gh 152 (qaN ((RS.take (i+1)).foldl hdP hh0))):=by unfold Hid;rw [HSt.out];exact hN
    have HB3:=Lib.hid (HB2.out.trans (hb.mono HLE.out));clear hN hb HSt HL HB2;go_wp2_with fail;go_roundw
    case rel=>exact ⟨i+1,by omega,by go_num,HN.out,HB3.out⟩
    case measure=>simp [intOf];omega
   ·obtain rfl:i=n:=by omega
    have hH:=HBk.out;rw [List.take_of_length_le (by omega),HF.out]at hH;have HZ9:=HZ.out.below HB.out HZ.out.lt;obtain ⟨⟨z0,z1,z2,z3,z4,z5,z6,z7,z8,z9,zA⟩,g0,g1,g2,g3,g4,g5,g6,g7,g8,g9,gA⟩:=qaP HZ9;unfold qaN at hH;obtain ⟨⟨q0,q1,q2,q3,q4,q5,q6,q7,q8,q9,qA⟩,f0,f1,f2,f3,f4,f5,f6,f7,f8,f9,fA⟩:=qaP hH;have HB9:=Lib.hid (HBx.out.trans (HB.out.mono HBx.out.size));clear hH HZ9;unfold qaN;go_wp2_with fail;refine bodyPost_ret (v:= .tuple #[.agg #[.string (bs H9.name),.string (bs H9.pre),.string (bs H9.link),.int .i64 H9.mode,.int .i64 H9.uid,.int .i64 H9.gid,.int .i64 H9.size,.int .i64 H9.time,.int .u8 (H9.typ.toNat:Int),.string (bs H9.user),.string (bs H9.group)],.int .i64 0]) (by simp [results,Tryz.results134,go_sem, *]) rfl ⟨rfl,?_⟩;exact qa0 HB9.out (Nat.le_succ _) _ _ _ _ _ _ _ _ _ _ _
end Go.Proofs.YtapgoifimhnbdaaGreatDoor
