/- qaX of one kind, in one file: EntH, EntK. -/
import Derived.Test.YtapgoifimhnbdaaGreatDoorEna
import Derived.Test.YtapgoifimhnbdaaGreatDoorFlb
import Derived.Test.YtapgoifimhnbdaaGreatDoorEng
import Derived.Test.YtapgoifimhnbdaaGreatDoorFlq
import Derived.Test.YtapgoifimhnbdaaGreatDoorLnp
import Derived.Deep.DeepCutAuto
import Derived.BigRegion
set_option linter.unusedVariables false
set_option maxRecDepth 100000
namespace Go.Proofs.YtapgoifimhnbdaaGreatDoor
open Go.RowKit
open Go.OpenShut
def qvS (w:World) (B:Nat) (v:Value) (xs:List EntP):Prop:=RowE w B v xs∧ ∀y∈xs,qcZ w y.2 y.1.data
theorem qvS.nil (w:World) (B:Nat):qvS w B (.slice none 0 0) []:=⟨RowE.nil _ _,fun x hx=>by simp at hx⟩
theorem qvS.at {w:World} {B:Nat} {v:Value} {xs:List EntP} (h:qvS w B v xs): ∃A c,v= .slice A xs.length c∧SlOk A xs.length c∧qdJ w A (xs.map (·.1)):=h.1.at h.2
def eqP (t:List NodeV) (i k:Nat):Bool:=decide (0<qaG t i) &&decide (qaG t k=qaG t i)
def aimK (t:List NodeV) (i:Nat):Nat→Option Nat
 |0=>none
 |d+1=>if eqP t i (i-(d+1))=true then some (i-(d+1))else aimK t i d
def LnkSt (t:List NodeV) (x:NodeV) (v:Value) (o:Option Nat) (kd:Int) (tg:List UInt8) (dv:Value):Prop:=
 match o with
 |none=>kd=x.kind∧tg=x.target∧dv=v
 |some j=>kd=4∧tg=((t[j]?).map NodeV.path).getD []∧dv= .slice none 0 0
theorem qwW {t:List NodeV} (hp: ∀i,0≤qaG t i) {i:Nat} (hi:i<t.length) (hf:qaB t i<i):qcW t i t[i]=⟨t[i].path,4,(t[qaB t i]'(by omega)).path,t[i].md, []⟩:=by
 have h0:0<t[i].same:=by
  apply Classical.byContradiction;intro hc;have:=qnX (t:=t) (i:=i) (by rw [qbL hi];exact hc) (hp i);omega
 unfold qcW;rw [if_pos ⟨h0,hf⟩,List.getElem?_eq_getElem (by omega)]
 rfl
theorem qwV {t:List NodeV} {i:Nat} (hi:i<t.length) (hf: ¬qaB t i<i):qcW t i t[i]=t[i].ent:=by
 unfold qcW;rw [if_neg fun h=>hf h.2]
set_option maxHeartbeats 8000000 in
theorem za1 (A:Option Addr) (n c:Nat) (l:List NodeV) (hn:l.length=n) (hc:SlOk A n c) (hsz: ∀x∈l,x.sz) (h40:n≤40) (A1:Option Addr) (n1 c1:Nat) (qs:List qb1) (hn1:qs.length=n1) (hn12:n1≤140737488355328) (hok:okR qs) (HX:qs≠ []→q21) (w:World) (hA:qaJ w A l) (hA1:qdV w A1 qs) (hE:runE l qs=0):
  Calls Tryz.prog 21 #[.slice A n c,.slice A1 n1 c1] w fun e w'=> ∃v xs,e= .returned (.tuple #[v,.int .i64 0])∧xs.map (·.1)=qaM (runL l qs)∧qvS w' w.heap.size v xs∧Below w.heap.size w w':=by
 have H1:=Lib.hid (q69 A n c l hn hc hsz A1 n1 c1 qs hn1 hn12 hok HX w hA hA1);rw [hE]at H1
 have hTl:qaO l=0:=by
  unfold runE at hE
  by_cases ht:qaO l=0
  ·exact ht
  ·rw [if_neg ht]at hE;exact absurd hE ht
 have hTf:runL l qs=l.filter (fun x=>allF qs x.path):=if_pos hE
 have hT40:(runL l qs).length≤40:=by
  rw [hTf];have:=List.length_filter_le (fun x:NodeV=>allF qs x.path) l;omega
 have hT0:qaO (runL l qs)=0:=by rw [hTf];exact q9R hTl qs
 have hTsz: ∀x∈runL l qs,x.sz:=fun x hx=>by
  rw [hTf]at hx;exact hsz x (List.mem_filter.1 hx).1
 generalize runL l qs=T at H1 hT40 hT0 hTsz;clear hn hc hsz hn1 hok hA hA1 hE h40 hTl hTf;have HPos:=Lib.hid fun i=>((qaT T).1 hT0).2.pos i;obtain ⟨i0,hi,hz0,hz1,hz2⟩:=info_parts zdM;obtain ⟨M,hmk,hown⟩:=q1H w T.length (by omega) i0 hi hz0 hz1 hz2;have HK:=Lib.hid hmk;have HO0:=Lib.hid hown;clear hmk hown hi hz0 hz1 hz2;go_enter Tryz.func21,Tryz.ntmps21;go_wp2_with fail;refine H1.out.mono ?_;rintro e w1 ⟨v,xs0,rfl,hm,hO,hB⟩;have HB1:=Lib.hid hB;obtain ⟨A9,c9,rfl,hs9,hN9⟩:=hO.at;rw [hm]at hN9;have hl9:xs0.length=T.length:=by rw [←hm,List.length_map]
 rw [hl9]at hs9⊢;have HF:=Lib.hid (qhO A9 T.length c9 T rfl hs9 hTsz hT40 w1 hN9 hT0);obtain ⟨m,hm0⟩: ∃m,T.length=m:=⟨_,rfl⟩;rw [hm0]at hT40 HF HK HO0⊢;have HM0:=Lib.hid hm0;have HN9:=Lib.hid hN9;clear hB hO hm hs9 hN9 hl9 hm0 H1 hT0 hTsz;go_wp2_with fail;refine HF.out.mono ?_;rintro e w2 ⟨v,rfl,hO,hB⟩;have HB2:=Lib.hid (HB1.out.trans (hB.mono HB1.out.size));have HN2:=Lib.hid (HN9.out.below hB);obtain ⟨A2,c2,hv2,hM2⟩:=hO.at;rw [qr7,HM0.out]at hv2;subst hv2;have HM2:=Lib.hid hM2;have hk3:=HK.out w2;have ho3:=(HO0.out w2 w2.heap.size (Nat.le_refl _)).1;have hb3:=HB2.out.alloc HB2.out.size (.cells M 73);have hc3:=(Below.refl w2.heap.size w2).alloc (Nat.le_refl _) (.cells M 73);generalize hv1:Value.slice (some ⟨w2.heap.size,0,none⟩) 0 m=v1 at hk3 ho3;generalize w2.alloc (.cells M 73)=x3 at hk3 ho3 hb3 hc3;have HO3:=Lib.hid ho3;have HB3:=Lib.hid hb3;have HC3:=Lib.hid hc3;clear hB hO hM2 ho3 hb3 hc3 hv1 HF HN9 HB1 HK HO0;go_wp2_with fail
 go_loopw [9,36] (fun ov iv wr=> ∃(i:Nat) (xs:List EntP),i≤m∧iv= .int .i64 i∧xs.length=i∧Hid (RowE wr w2.heap.size ov xs)∧Hid (xs.map (·.1)=(qaM T).take i)∧Hid (∀y∈xs,qcZ w2 y.2 y.1.data)∧Hid (Below w2.heap.size w2 wr)) (fun _ iv _=>m-(intOf iv).toNat)
 case atStart=>exact ⟨0, [],Nat.zero_le _,rfl,rfl,HO3.out,(by unfold Hid;rw [List.take_zero];rfl),(fun y hy=>by cases hy),HC3.out⟩
 case round=>
  obtain ⟨i,xs,hi,rfl,hxl,HR,HM,HDT,HB⟩:=hrel
  by_cases hlt:i<m
  ·have hi1:i<T.length:=by rw [HM0.out];exact hlt
   obtain ⟨b,o,E,cc,hbo,hb1,hSl,hE,hcl⟩:=HN2.out.cells2 i hi1;subst hbo;obtain ⟨c0,c1,c2',c3,⟨c4,c5,c6,c7,c8,c9x,cA⟩,cB⟩:=hcl wr HB.out;have hpa:=qcV T i hi1;have HPl:=Lib.hid fun hf=>qwW HPos.out hi1 hf;have HPs:=Lib.hid fun hf=>qwV hi1 hf;generalize hx:T[i]=x at*;have HYD:Hid (qcZ w2 (.slice E x.data.length cc) x.data):=⟨E,cc,rfl,hSl,hE⟩;have HPa:=Lib.hid hpa;clear hx hcl hSl hE hb1 hpa;go_upto_region 11 with fail
   have HBl:=Lib.hid (Blk.new wr 49 #[.string (bs x.path),.int .i64 x.kind,.int .i64 x.same,.string (bs x.target),.int .i64 x.md.mode,.int .i64 x.md.uid,.int .i64 x.md.gid,.string (bs x.md.user),.string (bs x.md.group),.int .i64 x.md.second,.int .i64 x.md.nano,.slice E x.data.length cc]);have HBa:=Lib.hid (qaL (Below.refl _ wr) (.cells #[.string (bs x.path),.int .i64 x.kind,.int .i64 x.same,.string (bs x.target),.int .i64 x.md.mode,.int .i64 x.md.uid,.int .i64 x.md.gid,.string (bs x.md.user),.string (bs x.md.group),.int .i64 x.md.second,.int .i64 x.md.nano,.slice E x.data.length cc] 49));generalize hwa:wr.alloc _=wa at HBl HBa⊢;obtain ⟨g,hg⟩: ∃g,g=wr.heap.size:=⟨_,rfl⟩;have hga:g<wa.heap.size:=by rw [hg];exact HBl.out.lt
   have hgw:wr.heap.size≤g:=by omega
   rw [←hg]at HBl⊢;clear hg;obtain ⟨⟨e0,e1,e2,e3,e4,e5,e6,e7,e8,e9,eA,eB⟩,-⟩:=qbC HBl.out;clear hwa c0 c1 c2' c3 c4 c5 c6 c7 c8 c9x cA cB;go_upto_region 12 with fail
   have HBx:=Lib.hid (Blk.new wa 73 #[.string (bs x.path),.int .i64 x.kind,.string (bs x.target),.int .i64 x.md.mode,.int .i64 x.md.uid,.int .i64 x.md.gid,.string (bs x.md.user),.string (bs x.md.group),.int .i64 x.md.second,.int .i64 x.md.nano,.slice E x.data.length cc]);have HBb:=Lib.hid (qaL HBa.out (.cells #[.string (bs x.path),.int .i64 x.kind,.string (bs x.target),.int .i64 x.md.mode,.int .i64 x.md.uid,.int .i64 x.md.gid,.string (bs x.md.user),.string (bs x.md.group),.int .i64 x.md.second,.int .i64 x.md.nano,.slice E x.data.length cc] 73));generalize hwb:wa.alloc _=wb at HBx HBb⊢;obtain ⟨gx,hgx⟩: ∃gx,gx=wa.heap.size:=⟨_,rfl⟩;rw [←hgx]at HBx⊢;have hgx1:wr.heap.size≤gx:=by omega
   have HRb:=Lib.hid (HR.out.below HBb.out);have HB6:=Lib.hid (HB.out.trans (HBb.out.mono HB.out.size));have HGN:Hid (∀q,u9.ownBlock=some q→q<wr.heap.size):=fun q e=>(World.ownsRow.lt HR.out q e).2;clear hwb hgx HBl HBa hga hgw e0 e1 e2 e3 e4 e5 e6 e7 e8 e9 eA eB;have hi9:i≤40:=by omega
   obtain ⟨b1,o1,rfl,e1'⟩:=ql2 (HM2.out.below HB6.out) i hi1;have hfi:qaB T i≤i:=(qbU T i).1;obtain ⟨F,hF⟩: ∃F:Nat,F=qaB T i:=⟨_,rfl⟩;have HF:=Lib.hid hF;rw [←hF]at e1' hfi;have h1:(i:Int)<(m:Int):=by omega
   have h2:(0:Int)≤(i:Int):=by omega
   by_cases hlk:F<i
   ·have hFT:F<T.length:=by omega
    have hpl:=HPl.out (by rw [←hF];exact hlk);simp only [←hF]at hpl;obtain ⟨b',o',E',cc',hbo',hb1',-,-,hcl'⟩:=HN2.out.cells2 F hFT;injection hbo' with hbo'
    injection hbo' with q1 q2 _
    subst q1 q2;obtain ⟨f0,-⟩:=hcl' wb HB6.out;generalize T[F]=z at*;have HPL:=Lib.hid hpl;have hbg:b≠gx:=by have:=HB.out.size;omega
    have h3:(F:Int)<(m:Int):=by omega
    have h4:(0:Int)≤(F:Int):=by omega
    have h5:(F:Int)<(i:Int):=by omega
    have hgw2:w2.heap.size≤gx:=by have:=HB.out.size;omega
    obtain ⟨⟨y0,y1,y3,y4,y5,y6,y7,y8,y9,yA,yB⟩,⟨-,r1,r2,-,-,-,-,-,-,-,rB⟩⟩:=qaP HBx.out;have HN3:Hid (Blk (((wb.setCell ⟨gx,1,none⟩ (.int .i64 4)).setCell ⟨gx,2,none⟩ (.string (bs z.path))).setCell ⟨gx,10,none⟩ (.slice none 0 0)) gx 73 #[.string (bs x.path),.int .i64 4,.string (bs z.path),.int .i64 x.md.mode,.int .i64 x.md.uid,.int .i64 x.md.gid,.string (bs x.md.user),.string (bs x.md.group),.int .i64 x.md.second,.int .i64 x.md.nano,.slice none 0 0]):=((HBx.out.set_ 1 (.int .i64 4)).set_ 2 (.string (bs z.path))).set_ 10 (.slice none 0 0)
    have HR3:Hid (RowE (((wb.setCell ⟨gx,1,none⟩ (.int .i64 4)).setCell ⟨gx,2,none⟩ (.string (bs z.path))).setCell ⟨gx,10,none⟩ (.slice none 0 0)) w2.heap.size u9 xs):=
     qcB HRb.out fun q e=>by
      have hq:q≠gx:=by have:=HGN.out q e;omega
      exact (Below.heap_setCell _ ⟨gx,10,none⟩ _ _ hq).trans ((Below.heap_setCell _ ⟨gx,2,none⟩ _ _ hq).trans (Below.heap_setCell _ ⟨gx,1,none⟩ _ _ hq))
    have HB3:Hid (Below w2.heap.size w2 (((wb.setCell ⟨gx,1,none⟩ (.int .i64 4)).setCell ⟨gx,2,none⟩ (.string (bs z.path))).setCell ⟨gx,10,none⟩ (.slice none 0 0))):=Below.set1 (Below.set1 (Below.set1 HB6.out hgw2 1 _) hgw2 2 _) hgw2 10 _;clear hpl hcl' hF hb1';go_upto_region 14 with fail
    go_cut [9] (fun s9 wx=>s9=u9∧wx=(((wb.setCell ⟨gx,1,none⟩ (.int .i64 4)).setCell ⟨gx,2,none⟩ (.string (bs z.path))).setCell ⟨gx,10,none⟩ (.slice none 0 0)).drew)
    case first=>
     go_big_region
     all_goals
      go_wp2_with fail;go_meet;exact ⟨rfl,rfl⟩
    case rest=>
     obtain ⟨rfl,rfl⟩:=hcut;generalize hwm:(((wb.setCell ⟨gx,1,none⟩ (.int .i64 4)).setCell ⟨gx,2,none⟩ (.string (bs z.path))).setCell ⟨gx,10,none⟩ (.slice none 0 0))=wm at HN3 HR3 HB3⊢;have HNd:=Lib.hid HN3.out.drew_;have HRd:Hid (RowE wm.drew w2.heap.size u9 xs):=HR3.out;have HBd:=Lib.hid HB3.out.drew;generalize wm.drew=wd at HNd HRd HBd⊢
     have HCN:Hid (∀W:World,qvX (W.alloc (.cells #[.string (bs x.path),.int .i64 4,.string (bs z.path),.int .i64 x.md.mode,.int .i64 x.md.uid,.int .i64 x.md.gid,.string (bs x.md.user),.string (bs x.md.group),.int .i64 x.md.second,.int .i64 x.md.nano,.slice none 0 0] 73)) (some ⟨W.heap.size,0,none⟩) [(qcW T i x,.slice none 0 0)]):=fun W=>by
      have h1:=qkU W (qcW T i x,.slice none 0 0);rw [HPL.out]at h1⊢;exact h1
     have HDY:Hid (qcZ w2 (.slice none 0 0) (qcW T i x).data):=by unfold Hid;rw [HPL.out];exact qcZ.nil _
     clear hwm HN3 HR3 HB3 y0 y1 y3 y4 y5 y6 y7 y8 y9 yA yB r1 r2 rB f0 e1';obtain ⟨⟨e0,e1,e3,e4,e5,e6,e7,e8,e9,eA,eB⟩,-⟩:=qaP HNd.out;go_wp2_with (at_builtin;refine Stay.go ?_);refine Stay.on ?_;refine qiO rfl (.tmp 67) (.tmp 69) rfl w2.heap.size _ xs rfl (HRd.out.alloc _) (some ⟨wd.heap.size,0,none⟩) 1 1 [(qcW T i x,.slice none 0 0)] rfl rfl (HCN.out wd) (by simp [Value.oneCell']) (fun e=>by cases e) (by omega) (by rw [hszA];have:=HBd.out.size;omega) ?_;intro v7 w7 ho7 hg7;have HR7:=Lib.hid ho7;have HB7:Hid (Below w2.heap.size w2 w7):=(HBd.out.alloc HBd.out.size _).grown hg7 (by rw [hszA];have:=HBd.out.size;omega) HRd.out.above
     have HM7:Hid ((xs++ [((qcW T i x,.slice none 0 0):EntP)]).map (·.1)=(qaM T).take (i+1)):=by
      unfold Hid;rw [List.map_append,HM.out,List.take_succ_eq_append_getElem (by rw [qaQ];exact hi1),HPa.out];rfl
     have HD7:Hid (∀u∈xs++ [((qcW T i x,.slice none 0 0):EntP)],qcZ w2 u.2 u.1.data):=fun u hu=>by
      rcases List.mem_append.1 hu with a|a
      ·exact HDT.out u a
      ·obtain rfl:u=(qcW T i x,.slice none 0 0):=by simpa using a
       exact HDY.out
     have hl7:(xs++ [((qcW T i x,.slice none 0 0):EntP)]).length=i+1:=by rw [List.length_append,List.length_singleton];omega
     clear ho7 hg7 e0 e1 e3 e4 e5 e6 e7 e8 e9 eA eB;go_wp2_with fail;go_roundw
     case rel=>exact ⟨i+1,_,by omega,by go_num,hl7,HR7.out,HM7.out,HD7.out,HB7.out⟩
     case measure=>simp [intOf];omega
   ·have hpl:=HPs.out (by rw [←hF];exact hlk);have HPL:=Lib.hid hpl;have h5: ¬(F:Int)<(i:Int):=by omega
    have HCN:Hid (∀W:World,qvX (W.alloc (.cells #[.string (bs x.path),.int .i64 x.kind,.string (bs x.target),.int .i64 x.md.mode,.int .i64 x.md.uid,.int .i64 x.md.gid,.string (bs x.md.user),.string (bs x.md.group),.int .i64 x.md.second,.int .i64 x.md.nano,.slice E x.data.length cc] 73)) (some ⟨W.heap.size,0,none⟩) [(qcW T i x,.slice E x.data.length cc)]):=fun W=>by
     have h1:=qkU W (qcW T i x,.slice E x.data.length cc);rw [HPL.out]at h1⊢;exact h1
    have HDY:Hid (qcZ w2 (.slice E x.data.length cc) (qcW T i x).data):=by unfold Hid;rw [HPL.out];exact HYD.out
    clear hpl hF;obtain ⟨⟨e0,e1,e3,e4,e5,e6,e7,e8,e9,eA,eB⟩,-⟩:=qaP HBx.out;go_wp2_with (at_builtin;refine Stay.go ?_);refine Stay.on ?_;refine qiO rfl (.tmp 67) (.tmp 69) rfl w2.heap.size _ xs rfl (HRb.out.alloc _) (some ⟨wb.heap.size,0,none⟩) 1 1 [(qcW T i x,.slice E x.data.length cc)] rfl rfl (HCN.out wb) (by simp [Value.oneCell']) (fun e=>by cases e) (by omega) (by rw [hszA];have:=HB6.out.size;omega) ?_;intro v7 w7 ho7 hg7;have HR7:=Lib.hid ho7;have HB7:Hid (Below w2.heap.size w2 w7):=(HB6.out.alloc HB6.out.size _).grown hg7 (by rw [hszA];have:=HB6.out.size;omega) HRb.out.above
    have HM7:Hid ((xs++ [((qcW T i x,.slice E x.data.length cc):EntP)]).map (·.1)=(qaM T).take (i+1)):=by
     unfold Hid;rw [List.map_append,HM.out,List.take_succ_eq_append_getElem (by rw [qaQ];exact hi1),HPa.out];rfl
    have HD7:Hid (∀u∈xs++ [((qcW T i x,.slice E x.data.length cc):EntP)],qcZ w2 u.2 u.1.data):=fun u hu=>by
     rcases List.mem_append.1 hu with a|a
     ·exact HDT.out u a
     ·obtain rfl:u=(qcW T i x,.slice E x.data.length cc):=by simpa using a
      exact HDY.out
    have hl7:(xs++ [((qcW T i x,.slice E x.data.length cc):EntP)]).length=i+1:=by rw [List.length_append,List.length_singleton];omega
    clear ho7 hg7 e0 e1 e3 e4 e5 e6 e7 e8 e9 eA eB;go_wp2_with fail;go_roundw
    case rel=>exact ⟨i+1,_,by omega,by go_num,hl7,HR7.out,HM7.out,HD7.out,HB7.out⟩
    case measure=>simp [intOf];omega
  ·obtain rfl:i=m:=by omega
   have hm9:=HM.out;rw [List.take_of_length_le (by rw [qaQ,HM0.out];omega)]at hm9;have HV:Hid (qvS wr w.heap.size u9 xs∧Below w.heap.size w wr):=⟨⟨HR.out.mono HB2.out.size,fun y hy=>(HDT.out y hy).below HB.out⟩,HB2.out.trans (HB.out.mono HB2.out.size)⟩;have HM9:=Lib.hid hm9;clear hm9;go_wp2_with fail;refine bodyPost_ret (v:= .tuple #[u9,.int .i64 0]) (by simp [results,Tryz.results21,go_sem, *]) rfl ?_;exact ⟨u9,xs,rfl,HM9.out,HV.out.1,HV.out.2⟩
theorem qrK (A:Option Addr) (n c:Nat) (l:List NodeV) (hn:l.length=n) (hc:SlOk A n c) (hsz: ∀x∈l,x.sz) (A1:Option Addr) (n1 c1:Nat) (qs:List qb1) (hn1:qs.length=n1) (hn12:n1≤140737488355328) (hok:okR qs) (HX:qs≠ []→q21) (w:World) (hA:qaJ w A l) (hA1:qdV w A1 qs):
  Calls Tryz.prog 21 #[.slice A n c,.slice A1 n1 c1] w fun e w'=> ∃v xs,e= .returned (.tuple #[v,.int .i64 (runE l qs)])∧xs.map (·.1)=qaM (runL l qs)∧qvS w' w.heap.size v xs∧Below w.heap.size w w':=by
 by_cases hE:runE l qs=0
 ·have h40:n≤40:=by
   unfold runE at hE
   by_cases ht:qaO l=0
   ·have:=((qaT l).1 ht).1;omega
   ·rw [if_neg ht]at hE;exact absurd hE ht
  have:=za1 A n c l hn hc hsz h40 A1 n1 c1 qs hn1 hn12 hok HX w hA hA1 hE;rw [hE];exact this
 ·have H1:=Lib.hid (q69 A n c l hn hc hsz A1 n1 c1 qs hn1 hn12 hok HX w hA hA1);have hL:runL l qs= []:=if_neg hE;rw [hL]at H1⊢;obtain ⟨E,HEE⟩:=qaA (runE l qs);rw [HEE.out]at H1 hE⊢;have hne:(E==0)=false:=by simpa using hE
  clear hn hc hsz hn1 hok hA hA1 hE hL;go_enter Tryz.func21,Tryz.ntmps21;go_wp2_with fail;refine H1.out.mono ?_;rintro e w1 ⟨v,xs,rfl,h1,h2,hB⟩;have HB1:=Lib.hid hB;clear hB h1 h2 H1;go_wp2_with fail;refine bodyPost_ret (v:= .tuple #[.slice none 0 0,.int .i64 E]) (by simp [results,Tryz.results21,go_sem, *]) rfl ?_;exact ⟨_, [],rfl,rfl,qvS.nil _ _,HB1.out⟩
end Go.Proofs.YtapgoifimhnbdaaGreatDoor
