/- The drawing of trees: the walk. -/
import Derived.Test.YtapgoifimhnbdaaGreatDoorTrd
import Derived.Deep.RegionLaw
import Derived.Deep.RegionWith
set_option linter.unusedVariables false
set_option maxRecDepth 100000
namespace Go.Proofs.YtapgoifimhnbdaaGreatDoor
open Go.RowKit
open Go.OpenShut
attribute [local go_sem ↓] Go.wp_at_zero Go.wp_at_succ
set_option maxHeartbeats 60000000 in
theorem qzX (A:Option Addr) (n c:Nat) (rs:List RawV) (hn:rs.length=n) (hn2:n≤140737488355328) (hwf: ∀r∈rs,r.wf) (m:Nat) (hm:m≤1000) (w:World) (hA:qd6 w A rs):
  Calls Tryz.prog 19 #[.slice A n c,.int .i64 m] w fun e w'=> ∃v ys,e= .returned v∧qsZ w m rs v ys w':=by
 have HN:=Lib.hid hn;have HW:=Lib.hid hwf;have HA:=Lib.hid hA;clear hn hwf hA;go_enter Tryz.func19,Tryz.ntmps19;go_wp2_with fail
 go_loopw [6,17] (fun dv i wr=> ∃(k:Nat) (xs:List qa3) (ds:List (List UInt8)) (tv:Value),i= .int .i64 k∧k≤n∧Hid (TL w m rs k xs ds tv dv wr)) (fun _ i _=>n-(intOf i).toNat)
 case atStart=>exact ⟨0, [], [[]],_,rfl,Nat.zero_le _,zdC w m rs⟩
 case round=>
  obtain ⟨k,xs,ds,tv,rfl,hk,HT⟩:=hrel
  by_cases hlt:k<n
  ·have hkr:k<rs.length:=by rw [HN.out];exact hlt
   obtain ⟨b,o,rfl,hraw⟩:=HA.out k hkr;obtain ⟨r,Hr⟩:=qaA rs[k];rw [Hr.out]at hraw;obtain ⟨e0,e1,e2,e3⟩:=zaG hraw;have hbw:b<w.heap.size:=World.block_lt_of_cell? w _ e0;have hBw:=HT.out.2.2.2.2.2.2.2.2;rw [←hBw.cell (p:=⟨b,o+k*4,none⟩) hbw]at e0;rw [←hBw.cell (p:=⟨b,o+k*4+1,none⟩) hbw]at e1;rw [←hBw.cell (p:=⟨b,o+k*4+2,none⟩) hbw]at e2;rw [←hBw.cell (p:=⟨b,o+k*4+3,none⟩) hbw]at e3;have hws:w.heap.size≤wr.heap.size:=hBw.size;obtain ⟨G,cap,rfl⟩:=HT.out.2.1.form;have ht5:wr.cell? ⟨w.heap.size,0,none⟩=some (.slice (adr G) xs.length cap):=HT.out.1.cell 0;obtain ⟨gd,cd,rfl,_,hgd⟩:=HT.out.2.2.1.form HT.out.2.2.2.2.2.1;have hds:=HT.out.2.2.2.2.2.1;have hds2:=HT.out.2.2.2.2.2.2.1;obtain ⟨nx,Hnx⟩:=qaA xs.length;obtain ⟨nd,Hnd⟩:=qaA ds.length;rw [Hnx.out]at ht5 hds2;rw [Hnd.out]at hds hds2⊢;have hwt:=HT.out.1.lt;have hrw:=Lib.hid (HW.out r (by rw [←Hr.out];exact List.getElem_mem hkr));obtain ⟨HK,HAA,HBB,HTX⟩:=hrw.out;have HKK:=Lib.hid HK;have HAB:=Lib.hid HAA;have HBC:=Lib.hid HBB;clear hraw hBw HK HAA HBB
   by_cases hfull:m≤nx
   ·have hfull':(m:Int)≤(nx:Int):=by omega
    clear hgd
    have HTx:Hid (TL w m rs k xs ds (.slice (adr G) nx cap) (.slice (some ⟨gd,0,none⟩) ds.length cd) wr):=by
     have h9:=HT.out;rw [Hnx.out]at h9;exact h9
    have HTy:=Lib.hid (HTx.out.below (al (Below.refl wr.heap.size wr) (.cells #[.int .i64 r.kind,.int .i64 r.a,.int .i64 r.b,.string r.text] 43)));have HF:=Lib.hid (qz6 m rs k (by rw [←HT.out.2.2.2.2.1];show m≤(xs.map (·.1)).length;rw [List.length_map,Hnx.out];exact hfull));have hxm:=HT.out.len;go_wp2_with fail;refine (qqO _ _ _ xs HTy.out.2.1 (by omega)).mono ?_;rintro e wS ⟨rfl,ys,hp,hs,hn5,hg5⟩;obtain ⟨hE,t6⟩:=zeA HTy.out HF.out hp hs hn5 hg5;have HE:=Lib.hid hE;clear hp hs hn5 hg5 hE;go_wp2_with fail;go_ret;exact ⟨_,ys,rfl,HE.out⟩
   ·obtain ⟨pb,Hpb⟩: ∃q:Nat,Hid (pick r.b nd=q):=⟨(pick r.b nd).toNat,by have:=qbG r.b nd (by omega);show _=_;omega⟩;have hpb:pb<nd:=by have:=qbG r.b nd (by omega);have:=Hpb.out;omega
    obtain ⟨d,Hd⟩:=qaA (⟨(ds.getD pb []).toArray⟩:ByteArray)
    have hdc:wr.cell? ⟨gd,pb,none⟩=some (.string d):=by
     have:=HT.out.2.2.1.cell rfl pb (by rw [Hnd.out];exact hpb);rw [this,←Hd.out];rfl
    have hd4:d.size≤400:=by
     rw [←Hd.out,qeL];have hpl:pb<ds.length:=by rw [Hnd.out];exact hpb
     rw [List.getD_eq_getElem?_getD,List.getElem?_eq_getElem hpl];exact HT.out.2.2.2.2.2.2.2.1 _ (List.getElem_mem hpl)
    obtain ⟨p0,Hp0⟩:=qaA (⟨(if ds.getD pb []= []then []else ds.getD pb []++ [47]).toArray⟩:ByteArray)
    have hp4:p0.size≤401:=by
     have hds4:(ds.getD pb []).length=d.size:=by rw [←Hd.out,qeL]
     rw [←Hp0.out,qeL];split
     ·simp
     ·rw [List.length_append,hds4];simp;omega
    have HD0:Hid (d.data.toList=ds.getD pb []):=by unfold Hid;rw [←Hd.out]
    go_upto_if 34 with (go_at_call 22;refine (qbR _ _ _ HBC.out (by omega)).mono ?_;rintro e w' ⟨rfl,rfl⟩;rw [Hpb.out])
    go_cut [10] (fun s10 wx=>s10= .string p0∧wx=wr.alloc (.cells #[.int .i64 r.kind,.int .i64 r.a,.int .i64 r.b,.string r.text] 43))
    case first=>
     by_cases hd0:d.data.toList= []
     ·have g0:=qeF hd0
      have Hpe:Hid (d=p0):=by
       unfold Hid;rw [←Hp0.out,←HD0.out,if_pos hd0];apply ByteArray.ext;apply Array.toList_inj.1;exact hd0
      clear hd0;rw [show (!d.toList.isEmpty)=false by rw [g0];rfl];go_wp2_with fail;go_meet;exact ⟨by rw [Hpe.out],rfl⟩
     ·have g0:=qe6 hd0;have g1:(!d.toList.isEmpty)=true:=by rw [g0];rfl
      have Hpe:Hid (d++⟨#[47]⟩=p0):=by
       unfold Hid;rw [←Hp0.out,←HD0.out,if_neg hd0];rw [←qq2,qjU]
      clear hd0;rw [g1];go_wp2_with fail;go_meet;exact ⟨by rw [Hpe.out],rfl⟩
    case rest=>
     obtain ⟨rfl,rfl⟩:=hcut;have hb01:Below wr.heap.size wr (wr.alloc (.cells #[.int .i64 r.kind,.int .i64 r.a,.int .i64 r.b,.string r.text] 43)):=(Below.refl _ _).alloc (Nat.le_refl _) _;have HT1:=Lib.hid (HT.out.below hb01);have hbx:=Blk.new wr 43 #[.int .i64 r.kind,.int .i64 r.a,.int .i64 r.b,.string r.text];obtain ⟨gr,Hgr⟩:=qaA wr.heap.size;obtain ⟨wr1,Hw1⟩:=qaA (wr.alloc (.cells #[.int .i64 r.kind,.int .i64 r.a,.int .i64 r.b,.string r.text] 43));have hgr1:w.heap.size<gr:=by have:=Hgr.out;omega
     rw [Hgr.out]at hbx⊢;rw [Hw1.out]at hbx HT1 hb01⊢;have HBX:=Lib.hid hbx;have hgr2:gr<wr1.heap.size:=hbx.lt;clear e0 e1 e2 e3 hb01 hdc ht5 hbx hwt hgd hws;obtain ⟨pa,Hpa⟩: ∃q:Nat,Hid (pick r.a 11=q):=⟨(pick r.a 11).toNat,by have:=qbG r.a 11 (by omega);show _=_;omega⟩;have hpa:pa<11:=by have:=qbG r.a 11 (by omega);have:=Hpa.out;omega
     have hpa0:(0:Int)≤(pa:Int):=by omega
     have hpa1:(pa:Int)<11:=by omega
     obtain ⟨nm,Hnm⟩:=qaA (⟨(qd5.getD pa []).toArray⟩:ByteArray)
     have hnm4:nm.size≤130:=by
      rw [←Hnm.out,qeL];have: ∀q,q<11→(qd5.getD q []).length≤130:=by decide
      exact this pa hpa
     have hadd:=fun W=>run_string_add_sum (P:=Tryz.prog) (w:=W) p0 nm (by omega)
     have HP:Hid ((p0++nm).data.toList=qbO ds r):=by
      unfold Hid qbO;rw [qzU,←Hp0.out,←Hnm.out,Hnd.out,Hpb.out,Hpa.out,Int.toNat_natCast,Int.toNat_natCast]
     have hpsz:(p0++nm).size≤531:=by rw [ByteArray.size_append];omega
     obtain ⟨p,Hp⟩:=qaA (p0++nm);rw [Hp.out]at hadd HP hpsz;go_upto_region 11 with fail
     go_cut [10] (fun s10 wx=>s10= .string p∧Below wr1.heap.size wr1 wx)
     case first=>
      as_aux_lemma=>
      have r1: ∀W:World,Blk W gr 43 #[.int .i64 r.kind,.int .i64 r.a,.int .i64 r.b,.string r.text]→W.cell? ⟨gr,1,none⟩=some (.int .i64 r.a):=fun W h=>(blk4 h).2.1;have hbx:=HBX.out
      go_region_with
       (first
        |(go_at_call 54;(have F0:=F1);refine (quB _).mono ?_;rintro e w2 ⟨g2,rfl,hT2,hbB⟩;have F2:w2.cell? ⟨g1,pa,none⟩=some (.string nm):=(hbB.cell (World.block_lt_of_cell? _ _ F1)).trans F1;have hbx2:=Blk.below hbx1 hbB hbx1.lt)
        |(go_at_call 54;refine (quB _).mono ?_;rintro e w1 ⟨g1,rfl,hT1,hbA⟩;(have F1:w1.cell? ⟨g1,pa,none⟩=some (.string nm):=by (rw [hT1.cell rfl pa hpa];unfold strV;rw [Hnm.out]));have hbx1:=Blk.below (Blk.drew_ hbx) hbA (Blk.lt (Blk.drew_ hbx)))
        |(go_at_call 22;refine (qbR _ _ _ HAB.out (by omega)).mono ?_;rintro e w' ⟨rfl,rfl⟩;rw [Hpa.out]))
      all_goals
       go_wp2_with fail;go_meet;exact ⟨rfl,((Below.refl wr1.heap.size wr1).drew.trans (show Below wr1.heap.size wr1.drew w1 from hbA)).trans (hbB.mono (show wr1.heap.size≤w1.heap.size from hbA.size))⟩
     case rest=>
      obtain ⟨rfl,hbw1⟩:=hcut;obtain ⟨wr2,Hw2⟩:=qaA wc;rw [Hw2.out]at hbw1⊢;have HT2:=Lib.hid (HT1.out.below hbw1);have HBX2:=Lib.hid (HBX.out.below hbw1 HBX.out.lt);have hgr3:gr<wr2.heap.size:=HBX2.out.lt;clear hbw1 hadd hgr2;have ht5:wr2.cell? ⟨w.heap.size,0,none⟩=some (.slice (adr G) xs.length cap):=HT2.out.1.cell 0;have hxl:xs.length≤1000:=by rw [Hnx.out];omega
      by_cases hpl:400<p.size
      ·have HS:Hid (qbV m (xs.map (·.1),ds) rs[k]=(xs.map (·.1),ds)):=by
        unfold Hid;rw [Hr.out];refine q3Y m _ r (by rw [List.length_map,Hnx.out];exact hfull) ?_;show 400<(qbO ds r).length;rw [←HP.out];simpa using hpl
       go_wp2_with fail;go_roundw
       case rel=>exact ⟨k+1,xs,ds,_,by go_num,by omega,by have:=HT2.out.next hkr HS.out;rw [Hnd.out]at this;exact this⟩
       case measure=>simp [intOf];omega
      ·have HAT:=Lib.hid (at_any p w.heap.size _ xs wr2 ht5 _ HT2.out.2.1 (by omega));clear ht5;go_wp2_with fail;refine HAT.out.mono ?_;rintro e w3 ⟨q,rfl,hq,hb3⟩;have HB3:=Lib.hid hb3;have HQ:=Lib.hid hq;clear hb3 hq
       by_cases hh:0≤q
       ·have HS:Hid (qbV m (xs.map (·.1),ds) rs[k]=(xs.map (·.1),ds)):=by
         unfold Hid;rw [Hr.out];refine q9L m _ r (by rw [List.length_map,Hnx.out];exact hfull) ?_;show ((xs.map (·.1)).any fun n=>decide (n.path=qbO ds r))=true;rw [←HP.out,←qzF xs _ (fun x hx=>(HT2.out.2.2.2.1 x hx).2.1),←HQ.out,decide_eq_true hh]
        go_wp2_with fail;go_roundw
        case rel=>exact ⟨k+1,xs,ds,_,by go_num,by omega,by have:=(HT2.out.below HB3.out).next hkr HS.out;rw [Hnd.out]at this;exact this⟩
        case measure=>simp [intOf];omega
       ·have HT3:=Lib.hid (HT2.out.below HB3.out);have HBX3:=Lib.hid (HBX2.out.below HB3.out HBX2.out.lt);have HNQ:Hid (hasK xs p.data.toList=false):=by unfold Hid;rw [←HQ.out,decide_eq_false hh]
        obtain ⟨md,Hmd⟩:=qaA (qeQ r);have hme: ∀W,Calls Tryz.prog 55 #[.agg #[.int .i64 r.kind,.int .i64 r.a,.int .i64 r.b,.string r.text]] W fun e w'=>e= .returned (.agg #[.int .i64 md.mode,.int .i64 md.uid,.int .i64 md.gid,.string ⟨md.user.toArray⟩,.string ⟨md.group.toArray⟩,.int .i64 md.second,.int .i64 md.nano])∧Below W.heap.size W w':=fun W=>by rw [←Hmd.out];exact zdG r hrw.out W
        have HME:=Lib.hid hme;obtain ⟨cl,Hcl⟩:=qaA (⟨(qdH r.text.data.toList 40).toArray⟩:ByteArray);have hcl4:cl.size≤40:=by rw [←Hcl.out,qeL];exact qg7 _ _
        obtain ⟨pn,Hpn⟩: ∃q:Nat,Hid (pick r.b 30=q):=⟨(pick r.b 30).toNat,by have:=qbG r.b 30 (by omega);show _=_;omega⟩;have hpn:pn≤29:=by have:=qbG r.b 30 (by omega);have:=Hpn.out;omega
        have hcp:cl.size*pn≤1160:=by have:=Nat.mul_le_mul hcl4 hpn;omega
        obtain ⟨dt,Hdt⟩:=qaA (⟨(Lib.repeatL cl.data.toList pn).toArray⟩:ByteArray)
        have hdt:dt.size≤1160:=by
         rw [←Hdt.out,qeL,Lib.repeatL_length,Nat.mul_comm];have:cl.data.toList.length=cl.size:=by simp
         rw [this];exact hcp
        have HDT:Hid (dt.data.toList=qo0 r):=by
         unfold Hid qo0;rw [←Hdt.out,←Hcl.out,Hpn.out,Int.toNat_natCast]
        have htx:r.text.size≤140737488355328:=by omega
        have hw3:w.heap.size+1≤w3.heap.size:=by have:=HB3.out.size;omega
        clear hme;go_upto_region 13 with fail
        clear hh hpl
        go_cut [11] (fun s11 wx=> ∃g:Nat,s11= .pointer (some ⟨g,0,none⟩)∧q8T w3 (w.heap.size+1) p dt md g wx)
        case first=>
         have r0: ∀W:World,Blk W gr 43 #[.int .i64 r.kind,.int .i64 r.a,.int .i64 r.b,.string r.text]→W.cell? ⟨gr,0,none⟩=some (.int .i64 r.kind):=fun W h=>(blk4 h).1;have r1: ∀W:World,Blk W gr 43 #[.int .i64 r.kind,.int .i64 r.a,.int .i64 r.b,.string r.text]→W.cell? ⟨gr,1,none⟩=some (.int .i64 r.a):=fun W h=>(blk4 h).2.1;have r2: ∀W:World,Blk W gr 43 #[.int .i64 r.kind,.int .i64 r.a,.int .i64 r.b,.string r.text]→W.cell? ⟨gr,2,none⟩=some (.int .i64 r.b):=fun W h=>(blk4 h).2.2.1;have r3: ∀W:World,Blk W gr 43 #[.int .i64 r.kind,.int .i64 r.a,.int .i64 r.b,.string r.text]→W.cell? ⟨gr,3,none⟩=some (.string r.text):=fun W h=>(blk4 h).2.2.2;have hbx:=HBX3.out;have hcv:=fun W=>zcL W dt;change Code.wp _ (Code.region _ (List.toArray [_,_,_,_,_,_,_,_,_,_,(Oper.mk _ (id _) _ _ _ _),_,_,_]) _) _ _ _
         go_region_held3 (fun w'=>Blk w' gr 43 #[.int .i64 r.kind,.int .i64 r.a,.int .i64 r.b,.string r.text])
          (first
           |(with_reducible assumption)
           |(with_reducible exact Blk.swap (by with_reducible assumption) (by decide) _)
           |(with_reducible refine Blk.alloc ?_ _;with_reducible assumption)
           |(with_reducible exact Blk.conv (by with_reducible assumption) _ _)
           |(with_reducible exact Blk.far12 (by with_reducible assumption) (Blk.ne_ (by with_reducible assumption) HNd.out (by decide)) _ _ _ _ _ _ _ _ _ _ _ _)
           |(with_reducible exact Blk.below (by with_reducible assumption) hbC (Blk.lt (by with_reducible assumption)))
           |(with_reducible exact Blk.below (by with_reducible assumption) hbB (Blk.lt (by with_reducible assumption)))
           |(with_reducible exact Blk.below (by with_reducible assumption) hbA (Blk.lt (by with_reducible assumption)))
           |(with_reducible refine Blk.drew_ ?_;repeat (first|with_reducible assumption|with_reducible refine Blk.alloc ?_ _)))
          (first
           |(go_at_call 55;refine (HME.out _).mono ?_;rintro e wA ⟨rfl,hbA⟩;(first|(with_reducible have NA:=nodeN1 hbA)|skip))
           |(go_at_call 57;refine (qoC r.text 40 _ htx (by omega)).mono ?_;rintro e wB ⟨rfl,hbB⟩;rw [Hcl.out];(first|(with_reducible have NB:=NA.below hbB NA.lt)|(with_reducible have NB:=zdW hbB)|skip))
           |(go_at_call 22;refine (qbR _ _ _ HBC.out (by omega)).mono ?_;rintro e w' ⟨rfl,rfl⟩;rw [Hpn.out])
           |(go_at_call 56;refine (Tryz.strings_Repeat cl pn _ (by omega) (by omega)).mono ?_;rintro e wC ⟨rfl,hbC⟩;rw [Hdt.out];(first|(with_reducible have ND:=(NB.below hbC NB.lt).conv 5 dt)|(with_reducible have ND:=(zdW hbC).conv 5 dt)|(with_reducible have ND:=(Blk.new wC 49 #[.string ⟨#[]⟩,.int .i64 0,.int .i64 0,.string ⟨#[]⟩,.int .i64 0,.int .i64 0,.int .i64 0,.string ⟨#[]⟩,.string ⟨#[]⟩,.int .i64 0,.int .i64 0,.slice none 0 0]).conv 5 dt));(have HNd:=Lib.hid ND);obtain ⟨⟨c0,c1,c2,c3,c4,c5,c6,c7,c8,c9,c10,c11⟩,f0,f1,f2,f3,f4,f5,f6,f7,f8,f9,f10,f11⟩:=qbC ND;clear ND))
         all_goals
          as_aux_lemma=>
          have q0:Below w3.heap.size w3 w3.drew:=(Below.refl _ _).drew;have q1:=fun o=>(al (Below.refl w3.heap.size w3) o).drew
          obtain ⟨qA,qB,qC⟩:Below w3.heap.size w3 wA∧Below w3.heap.size w3 wB∧Below w3.heap.size w3 wC:=by
           first
            |with_reducible exact ⟨step q0 hbA,step (step q0 hbA) hbB,step (step (step q0 hbA) hbB) hbC⟩
            |with_reducible exact ⟨step q0 hbA,step (step q0 hbA) hbB,step (al (step (step q0 hbA) hbB) _) hbC⟩
            |with_reducible exact ⟨step q0 hbA,step (al (step q0 hbA) _) hbB,step (step (al (step q0 hbA) _) hbB) hbC⟩
            |with_reducible exact ⟨step (q1 _) hbA,step (step (q1 _) hbA) hbB,step (step (step (q1 _) hbA) hbB) hbC⟩
          have zA:=qA.size;have zB:=qB.size;have zC:=qC.size;clear r0 r1 r2 r3 hcv hbx
          (try clear c0 c1 c2 c3 c4 c5 c6 c7 c8 c9 c10 c11 f0 f1 f2 f3 f4 f5 f6 f7 f8 f9 f10 f11)
          have hD:=Dat.conv wC (w.heap.size+1) dt (by omega) (by omega);have hE1:=Lib.hid (za6 (w:=w3) p md hD (step qC (Below.conv wC 5 dt)))
          have hE2:=by
           first
            |with_reducible exact Lib.hid (quA (w:=w3) p md HNd.out hD (step qC (Below.conv wC 5 dt)) (by omega))
            |with_reducible exact Lib.hid (quA (w:=w3) p md HNd.out (Dat.conv_al wC _ (w.heap.size+1) dt (by omega) (by omega)) (step (al qC _) (Below.conv (wC.alloc _) 5 dt)) (by omega))
          clear HNd hD hbA hbB hbC q0 q1 qA qB qC;go_wp2_with fail;go_meet
          first
           |with_reducible exact ⟨_,rfl,hE1.out⟩
           |with_reducible exact ⟨_,rfl,hE2.out⟩
        case rest=>
         obtain ⟨g,rfl,hM⟩:=hcut;obtain ⟨gd2,c2',hgb,hgd2,hg3,hb4⟩:=hM;obtain ⟨w4,Hw4⟩:=qaA wc;rw [Hw4.out]at hgb hgd2 hb4⊢;have HT4:=Lib.hid (HT3.out.below hb4);have HBX4:=Lib.hid (HBX3.out.below hb4 HBX3.out.lt);have hgw:w3.heap.size≤g:=hg3;have hp400:p.size≤400:=by omega
         rw [←Hmd.out,q5I p dt r gd2 c2' hp400 HDT.out (qbO ds r) HP.out]at hgb;have HG4:=Lib.hid hgb;have HD4:=Lib.hid hgd2;have hpl2:(qbO ds r).length=p.size:=by rw [←HP.out];simp
         have HPL:Hid (¬400<(qbO ds r).length):=by unfold Hid;omega
         have HFU:Hid (¬m≤(xs.map (·.1)).length):=by unfold Hid;rw [List.length_map,Hnx.out];exact hfull
         have HNA:Hid (((xs.map (·.1)).any fun n=>decide (n.path=qbO ds r))=false):=by
          unfold Hid;rw [←HP.out,←qzF xs _ (fun x hx=>(HT4.out.2.2.2.1 x hx).2.1)];exact HNQ.out
         obtain ⟨kk,Hkk⟩: ∃q:Nat,Hid (pick r.kind 7=q):=⟨(pick r.kind 7).toNat,by have:=qbG r.kind 7 (by omega);show _=_;omega⟩;have hkk:kk<7:=by have:=qbG r.kind 7 (by omega);have:=Hkk.out;omega
         clear hgb hgd2 hb4 hpl2 HME HNQ;go_upto_region 14 with fail
         go_cut [70] (fun s70 wx=>s70= .int .i64 (kk:Int)∧wx=w4)
         case first=>
          have r0:w4.cell? ⟨gr,0,none⟩=some (.int .i64 r.kind):=(blk4 HBX4.out).1;go_wp2_with (go_at_call 22;refine (qbR _ _ _ HKK.out (by omega)).mono ?_;rintro e w' ⟨rfl,rfl⟩;rw [Hkk.out]);go_meet;exact ⟨rfl,rfl⟩
         case rest=>
          obtain ⟨rfl,hwc⟩:=hcut;rw [hwc];clear hwc;rename_i K hK;refine hK _ _ ?_
          go_cut [6] (fun s6 wx=> ∃(xs1:List qa3) (ny:qa3) (ds1:List (List UInt8)),TP w m (xs.map (·.1),ds) r nx (.slice (adr G) nx cap) g xs1 ny ds1 s6 wx)
          case first=>
           clear HT HT1 HT2 HBX HBX2 HAT HA HW hpsz hp4 hd4 hnm4 Hnm Hp Hp0 Hd HD0 HQ HB3 hcl4 hcp hpn Hpn Hcl Hmd hpa hpa0 hpa1 Hpa hgr3 hpb Hpb hxl
           have hnn: ∀g0,(Value.slice (adr G) nx cap).ownBlock=some g0→g0<w3.heap.size:=by
            intro g0 e;have h9:=HT3.out.2.1;rw [Hnx.out]at h9;obtain ⟨_,cur,hc⟩:=qa2 h9 g0 e;exact qe3 hc
           have HNN:=Lib.hid hnn;clear hnn;obtain ⟨⟨c0,c1,c2,c3,c4,c5,c6,c7,c8,c9,c10,c11⟩,f0,f1,f2,f3,f4,f5,f6,f7,f8,f9,f10,f11⟩:=qbC HG4.out;obtain ⟨i0,hi,hz0,hz1,hz2⟩:=info_parts zbR
           have HTQ:Hid (TQ w xs ds nx (.slice (adr G) nx cap) (.slice (some ⟨gd,0,none⟩) nd cd) w4):=by
            have h9:=HT4.out.tq Hnx.out;rw [Hnx.out,Hnd.out]at h9;exact h9
           have hgB:w.heap.size≤g:=by omega
           have HNG:Hid (∀g0,(Value.slice (adr G) nx cap).ownBlock=some g0→g0≠g):=fun g0 e=>by
            have:=HNN.out g0 e;omega
           have HPM:Hid ((qbO ds r).length≤400):=by unfold Hid;have:=HPL.out;omega
           have hkk0:(kk:Int)≤6:=by omega
           by_cases k0:kk=0∨kk=1
           ·have HST:=Lib.hid (q9M HFU.out HPL.out HNA.out (by have:=Hkk.out;omega));go_upto_if 71 with fail
            obtain ⟨b0,hb0⟩: ∃b:Bool,((kk:Int)==0)=b:=⟨_,rfl⟩;rw [hb0]
            go_cut [71] (fun s71 wx=>s71= .bool true∧wx=w4)
            case first=>
             cases b0
             ·have h1:((kk:Int)==1)=true:=by
               rw [beq_eq_false_iff_ne]at hb0;rw [beq_iff_eq];omega
              go_wp2_with fail;go_meet;exact ⟨rfl,rfl⟩
             ·go_wp2_with fail;go_meet;exact ⟨rfl,rfl⟩
            case rest=>
             obtain ⟨rfl,hwc⟩:=hcut;rw [hwc];clear hwc k0 hkk0 hkk hb0
             as_aux_lemma=>
             have hsz:w.heap.size+1≤w4.heap.size:=by have:=HTQ.out.1.lt;omega
             have hb1:Blk (w4.setCell ⟨g,1,none⟩ (.int .i64 2)) g 49 _:=Blk.set_ HG4.out 1 (.int .i64 2)
             have HO:Hid (((w4.setCell ⟨g,1,none⟩ (.int .i64 2)).setCell ⟨g,11,none⟩ (.slice none 0 0)).ownsRow (w.heap.size+1) 9 1 (.slice (some ⟨gd,0,none⟩) nd cd) nd (strC ds)):=by
              have h9:=((HTQ.out.set HG4.out HNG.out hgB 1 (.int .i64 2)).set hb1 HNG.out hgB 11 (.slice none 0 0)).2.2.1;unfold qaX at h9;rw [Hnd.out]at h9;exact h9
             clear hb1
             have hnb:(((w4.setCell ⟨g,1,none⟩ (.int .i64 2)).setCell ⟨g,11,none⟩ (.slice none 0 0)).alloc (.cells #[.string p] 9)).heap[w4.heap.size]?=some (.cells #[.string p] 9 (0,0)):=by
              have h9:=heap_alloc_new ((w4.setCell ⟨g,1,none⟩ (.int .i64 2)).setCell ⟨g,11,none⟩ (.slice none 0 0)) (.cells #[.string p] 9);simpa using h9
             clear c0 c2 c3 c4 c5 c6 c7 c8 c9 c10 f0 f2 f3 f4 f5 f6 f7 f8 f9 f10;go_wp2_with (at_builtin;refine Stay.go ?_);refine Stay.on ?_;refine wpList_append_lies _ rfl (.tmp 76) (.tmp 78) 76 rfl (w.heap.size+1) 9 i0 _ 1 16 Tryz.underlying76 hi hz0 hz1 hz2 rfl (by decide) (.slice (some ⟨gd,0,none⟩) nd cd) nd _ rfl (HO.out.alloc _) ⟨w4.heap.size,0,none⟩ 1 1 [.string p] rfl rfl (World.news_of_block (cs:= #[.string p]) (t:=9) (fr:=(0,0)) hnb) (by simp [Value.oneCell']) (by omega) (by unfold maxLen;omega) (by omega) (by simp;omega) _ rfl ?_;intro g' cap' w6 hown1 hgrow1 hat1 hlt1;go_wp2_with fail;go_meet;exact ⟨xs,_,ds++ [qbO ds r],TP_dir HTQ.out HG4.out HNG.out hgB HST.out HPM.out HP.out Hnd.out hown1 hgrow1⟩
           ·have h0:((kk:Int)==0)=false:=by rw [beq_eq_false_iff_ne];omega
            have h1:((kk:Int)==1)=false:=by rw [beq_eq_false_iff_ne];omega
            by_cases k2:kk=2
            ·have h2:((kk:Int)==2)=true:=by rw [beq_iff_eq];omega
             have HST:=Lib.hid (q9J HFU.out HPL.out HNA.out (by have:=Hkk.out;omega));clear k0 k2 hkk0 hkk
             as_aux_lemma=>
             have r1: ∀W:World,Blk W gr 43 #[.int .i64 r.kind,.int .i64 r.a,.int .i64 r.b,.string r.text]→W.cell? ⟨gr,1,none⟩=some (.int .i64 r.a):=fun W h=>(blk4 h).2.1;have r3: ∀W:World,Blk W gr 43 #[.int .i64 r.kind,.int .i64 r.a,.int .i64 r.b,.string r.text]→W.cell? ⟨gr,3,none⟩=some (.string r.text):=fun W h=>(blk4 h).2.2.2;have hbx:=HBX4.out;have HGR:Hid (gr≠g):=Blk.ne_ HBX4.out HG4.out (by decide);obtain ⟨cl2,Hcl2⟩:=qaA (⟨(qdH r.text.data.toList 10).toArray⟩:ByteArray);have hcl2:cl2.size≤10:=by rw [←Hcl2.out,qeL];exact qg7 _ _
             obtain ⟨pq,Hpq⟩: ∃q:Nat,Hid (pick r.a 20=q):=⟨(pick r.a 20).toNat,by have:=qbG r.a 20 (by omega);show _=_;omega⟩;have hpq:pq≤19:=by have:=qbG r.a 20 (by omega);have:=Hpq.out;omega
             have hcp2:cl2.size*pq≤190:=by have:=Nat.mul_le_mul hcl2 hpq;omega
             obtain ⟨rt,Hrt⟩:=qaA (⟨(Lib.repeatL cl2.data.toList pq).toArray⟩:ByteArray)
             have hrt:rt.size≤190:=by
              rw [←Hrt.out,qeL,Lib.repeatL_length,Nat.mul_comm];have:cl2.data.toList.length=cl2.size:=by simp
              rw [this];exact hcp2
             have hadd:=fun W=>run_string_add_sum (P:=Tryz.prog) (w:=W) ⟨#[116]⟩ rt (by show 1+rt.size≤_;omega)
             have HTG:Hid ((⟨#[116]⟩++rt:ByteArray).data.toList=qh7 r):=by
              unfold Hid qh7;rw [qzU,←Hrt.out,←Hcl2.out,Hpq.out,Int.toNat_natCast];rfl
             obtain ⟨tg,Htg⟩:=qaA (⟨#[116]⟩++rt:ByteArray);rw [Htg.out]at hadd HTG;have hlt4:=HBX4.out.lt;clear c0 c1 c2 c3 c4 c5 c6 c7 c8 c9 c10 c11 f0 f1 f2 f3 f4 f5 f6 f7 f8 f9 f10 f11;go_upto_region 20 with fail
             go_region_held3 (fun w'=>Blk w' gr 43 #[.int .i64 r.kind,.int .i64 r.a,.int .i64 r.b,.string r.text])
              (first
               |(with_reducible assumption)
               |(with_reducible exact Blk.far (by with_reducible assumption) HGR.out _)
               |(with_reducible exact Blk.below (by with_reducible assumption) hbC (Blk.lt (by with_reducible assumption)))
               |(with_reducible exact Blk.below (by with_reducible assumption) hbB (Blk.lt (by with_reducible assumption)))
               |(with_reducible refine Blk.drew_ ?_;with_reducible assumption))
              (first
               |(go_at_call 57;refine (qoC r.text 10 _ htx (by omega)).mono ?_;rintro e wB ⟨rfl,hbB⟩;rw [Hcl2.out];(have NB:=Blk.below (Blk.drew_ HG4.out) hbB (Blk.lt (Blk.drew_ HG4.out))))
               |(go_at_call 22;refine (qbR _ _ _ HAB.out (by omega)).mono ?_;rintro e w' ⟨rfl,rfl⟩;rw [Hpq.out])
               |(go_at_call 56;refine (Tryz.strings_Repeat cl2 pq _ (by omega) (by omega)).mono ?_;rintro e wC ⟨rfl,hbC⟩;rw [Hrt.out];(have NC:=Blk.below NB hbC NB.lt);obtain ⟨⟨c0,c1,c2,c3,c4,c5,c6,c7,c8,c9,c10,c11⟩,f0,f1,f2,f3,f4,f5,f6,f7,f8,f9,f10,f11⟩:=qbC NC;clear NC))
             all_goals
              have qC:Below w4.heap.size w4 wC:=step (step (Below.refl w4.heap.size w4).drew hbB) hbC;have hE:=Lib.hid (TP_sym HTQ.out HG4.out HNG.out hgB qC HST.out HPM.out HTG.out);clear hbB hbC qC r1 r3 hadd;go_wp2_with fail;go_meet;exact ⟨xs,_,ds,hE.out⟩
            ·have h2:((kk:Int)==2)=false:=by rw [beq_eq_false_iff_ne];omega
             by_cases k3:kk=3∨kk=4
             ·clear c0 c1 c2 c3 c4 c5 c6 c7 c8 c9 c10 c11 f0 f1 f2 f3 f4 f5 f6 f7 f8 f9 f10 f11;go_upto_if 93 with fail
              obtain ⟨b0,hb0⟩: ∃b:Bool,((kk:Int)==3)=b:=⟨_,rfl⟩;rw [hb0]
              go_cut [93] (fun s93 wx=>s93= .bool true∧wx=w4)
              case first=>
               cases b0
               ·have h1:((kk:Int)==4)=true:=by
                 rw [beq_eq_false_iff_ne]at hb0;rw [beq_iff_eq];omega
                go_wp2_with fail;go_meet;exact ⟨rfl,rfl⟩
               ·go_wp2_with fail;go_meet;exact ⟨rfl,rfl⟩
              case rest=>
               obtain ⟨rfl,hwc⟩:=hcut;rw [hwc];have hk34:pick r.kind 7=3∨pick r.kind 7=4:=by have:=Hkk.out;omega
               clear hwc k0 k2 k3 hkk0 hkk hb0;have r1:w4.cell? ⟨gr,1,none⟩=some (.int .i64 r.a):=(blk4 HBX4.out).2.1;have t5:w4.cell? ⟨w.heap.size,0,none⟩=some (.slice (adr G) nx cap):=HTQ.out.1.cell 0;have hnw:IntKind.i64.wrap ((nx:Int)+1)=(nx:Int)+1:=IntWalk.i64_in _ (by omega);obtain ⟨pj,Hpj⟩: ∃q:Nat,Hid (pick r.a ((nx:Int)+1)=q):=⟨(pick r.a ((nx:Int)+1)).toNat,by have:=qbG r.a ((nx:Int)+1) (by omega);show _=_;omega⟩;have hpj:pj≤nx:=by have:=qbG r.a ((nx:Int)+1) (by omega);have:=Hpj.out;omega
               have hlen:(xs.map (·.1)).length=nx:=by rw [List.length_map];exact Hnx.out
               have HPJ:Hid ((pick r.a (((xs.map (·.1)).length:Int)+1)).toNat=pj):=by unfold Hid;rw [hlen,Hpj.out];rfl
               have HPK:Hid (∀W,Calls Tryz.prog 22 #[.int .i64 r.a,.int .i64 ((nx:Int)+1)] W fun e w'=>e= .returned (.int .i64 (pj:Int))∧W=w'):=fun W=>by
                have h9:=qbR r.a ((nx:Int)+1) W HAB.out (by omega);rw [Hpj.out]at h9;exact h9
               by_cases hjn:pj<nx
               ·have hjx:pj<xs.length:=by rw [Hnx.out];exact hjn
                obtain ⟨x0,Hx0⟩:=qaA (xs[pj]'hjx)
                obtain ⟨G0,rfl⟩: ∃G0,G=some G0:=by
                 rcases HTQ.out.2.1.any with ⟨e,_⟩|⟨g5,cap5,e,_⟩
                 ·have:nx=0:=by simp only [Value.slice.injEq]at e;exact e.2.1
                  omega
                 ·cases G with
                  |none=>simp [adr]at e
                  |some G0=>exact ⟨G0,rfl⟩
                have HTR:Hid (TQ w xs ds nx (.slice (some ⟨G0,0,none⟩) nx cap) (.slice (some ⟨gd,0,none⟩) nd cd) w4):=HTQ.out;have t55:w4.cell? ⟨w.heap.size,0,none⟩=some (.slice (some ⟨G0,0,none⟩) nx cap):=t5;clear t5;have t5:=t55;clear t55;obtain ⟨⟨s0,s1,s2,s3,s4,s5,s6,s7,s8,s9,s10,s11⟩,sf⟩:=qpU HTR.out.2.1 Hnx.out pj hjx x0 Hx0.out;have hpj0:(0:Int)≤(pj:Int):=by omega
                have hpj1:(pj:Int)<(nx:Int):=by omega
                have hpjn:(pj:Int).toNat=pj:=by omega
                have hm1:(xs.map (·.1))[pj]'(by rw [hlen];exact hjn)=x0.1:=by rw [List.getElem_map,Hx0.out]
                by_cases hkd:x0.1.kind=1
                ·have hkd':(x0.1.kind==1)=true:=by rw [beq_iff_eq];exact hkd
                 by_cases hsm:x0.1.same=0
                 ·have hsm':(x0.1.same==0)=true:=by rw [beq_iff_eq];exact hsm
                  have hjw:IntKind.i64.wrap ((pj:Int)+1)=(pj:Int)+1:=IntWalk.i64_in _ (by omega)
                  have HST:Hid (qbV m (xs.map (·.1),ds) r=((xs.set pj (reS x0 ((pj:Int)+1))).map (·.1)++ [{(reS x0 ((pj:Int)+1)).1 with path:=qbO ds r}],ds)):=by
                   unfold Hid;rw [qtE HFU.out HPL.out HNA.out hk34 pj HPJ.out (by rw [hlen];exact hjn) (by rw [hm1];exact hkd) (reS x0 ((pj:Int)+1)).1 (by rw [hm1,if_pos hsm];rfl),List.map_set]
                  have HQ1:Hid (TQ w (xs.set pj (reS x0 ((pj:Int)+1))) ds nx (.slice (some ⟨G0,0,none⟩) nx cap) (.slice (some ⟨gd,0,none⟩) nd cd) (w4.setCell ⟨G0,pj*12+2,none⟩ (.int .i64 ((pj:Int)+1)))):=by
                   have hGB:w.heap.size≤G0:=by have:=(qa2 HTR.out.2.1 G0 rfl).1;omega
                   have h9:=HTR.out.same pj hjx hGB ((pj:Int)+1);rw [Hx0.out]at h9;exact h9
                  obtain ⟨y,Hy⟩:=qaA (reS x0 ((pj:Int)+1));rw [Hy.out]at HST HQ1;have hy:y∈xs.set pj y:=List.mem_iff_getElem.2 ⟨pj,by rw [List.length_set];exact hjx,by simp⟩;have HG1:Hid (Blk (w4.setCell ⟨G0,pj*12+2,none⟩ (.int .i64 ((pj:Int)+1))) g 49 (encN (qdR (qbO ds r) r,(some gd2,dt.size,c2'))).toArray):=Blk.far HG4.out (fun e=>HNG.out G0 rfl e.symm) _;go_upto_region 27 with (go_at_call 22;refine (HPK.out _).mono ?_;rintro e w' ⟨rfl,rfl⟩)
                  clear s0 s1 s2 s3 s4 s5 s6 s7 s8 s9 s10 s11 sf t5 r1 hm1;obtain ⟨W1,HW1⟩:=qaA (w4.setCell ⟨G0,pj*12+2,none⟩ (.int .i64 ((pj:Int)+1)));rw [HW1.out]at HQ1 HG1⊢;have t5:W1.cell? ⟨w.heap.size,0,none⟩=some (.slice (some ⟨G0,0,none⟩) nx cap):=HQ1.out.1.cell 0;obtain ⟨⟨s0,s1,s2,s3,s4,s5,s6,s7,s8,s9,s10,s11⟩,sf⟩:=qpU HQ1.out.2.1 HQ1.out.2.2.2.2.2.2.2.1 pj (by rw [List.length_set];exact hjx) y (by simp);obtain ⟨⟨c0,c1,c2,c3,c4,c5,c6,c7,c8,c9,c10,c11⟩,f0,f1,f2,f3,f4,f5,f6,f7,f8,f9,f10,f11⟩:=qbC HG1.out;have HDy:=Lib.hid ((HQ1.out.2.2.2.1 y hy).1);have hDl:y.1.data.length≤1000000:=by have:=(HQ1.out.2.2.2.1 y hy).2.2;omega
                  have HCP:=Lib.hid (qsP HQ1.out HG1.out HNG.out hgB (y:=y) HP.out HPM.out);have HDc:Hid (Dat (cp13 W1 g y p) (w.heap.size+1) y.2 y.1.data):=(HCP.out.2.2.2.2.1 y hy).1;clear HDy;have g11:(cp13 W1 g y p).cell? ⟨g,11,none⟩=some (.slice (adr y.2.1) y.2.2.1 y.2.2.2):=HCP.out.1.cell 11;unfold cp13 at g11;go_wp2_with fail;refine (qvW y.2 y.1.data _ _ HDc.out hDl).mono ?_;rintro e w6 ⟨d',rfl,hd6,hb6⟩;have HE:=Lib.hid (q8Q HQ1.out HG1.out HNG.out hgB hy HP.out HPM.out hb6 hd6 HST.out);have HG6:=Blk.below HCP.out.1 hb6 HCP.out.1.lt;obtain ⟨⟨z0,z1,z2,z3,z4,z5,z6,z7,z8,z9,z10,z11⟩,y0,y1,y2,y3,y4,y5,y6,y7,y8,y9,y10,y11⟩:=qbC HG6;clear hd6 hb6 HG6 g11;go_wp2_with fail;go_meet;exact ⟨_,_,ds,HE.out⟩
                 ·have hsm':(x0.1.same==0)=false:=by rw [beq_eq_false_iff_ne];exact hsm
                  have HST:Hid (qbV m (xs.map (·.1),ds) r=(xs.map (·.1)++ [{x0.1 with path:=qbO ds r}],ds)):=by
                   unfold Hid;rw [qtE HFU.out HPL.out HNA.out hk34 pj HPJ.out (by rw [hlen];exact hjn) (by rw [hm1];exact hkd) x0.1 (by rw [hm1,if_neg hsm]),←hm1,List.set_getElem_self]
                  obtain ⟨y,Hy⟩:=qaA x0;rw [Hy.out]at HST;have hy:y∈xs:=by rw [←Hy.out,←Hx0.out];exact List.getElem_mem hjx
                  have HQ1:=HTR;have HG1:=HG4;obtain ⟨⟨c0,c1,c2,c3,c4,c5,c6,c7,c8,c9,c10,c11⟩,f0,f1,f2,f3,f4,f5,f6,f7,f8,f9,f10,f11⟩:=qbC HG1.out;go_upto_region 27 with (go_at_call 22;refine (HPK.out _).mono ?_;rintro e w' ⟨rfl,rfl⟩)
                  rw [Hy.out]at s0 s1 s2 s3 s4 s5 s6 s7 s8 s9 s10 s11;obtain ⟨W1,HW1⟩:=qaA w4;rw [HW1.out]at s0 s1 s2 s3 s4 s5 s6 s7 s8 s9 s10 s11 c0 c1 c2 c3 c4 c5 c6 c7 c8 c9 c10 c11 f0 f1 f2 f3 f4 f5 f6 f7 f8 f9 f10 f11 t5 HQ1 HG1⊢;clear hm1 r1 sf;have HDy:=Lib.hid ((HQ1.out.2.2.2.1 y hy).1);have hDl:y.1.data.length≤1000000:=by have:=(HQ1.out.2.2.2.1 y hy).2.2;omega
                  have HCP:=Lib.hid (qsP HQ1.out HG1.out HNG.out hgB (y:=y) HP.out HPM.out);have HDc:Hid (Dat (cp13 W1 g y p) (w.heap.size+1) y.2 y.1.data):=(HCP.out.2.2.2.2.1 y hy).1;clear HDy;have g11:(cp13 W1 g y p).cell? ⟨g,11,none⟩=some (.slice (adr y.2.1) y.2.2.1 y.2.2.2):=HCP.out.1.cell 11;unfold cp13 at g11;go_wp2_with fail;refine (qvW y.2 y.1.data _ _ HDc.out hDl).mono ?_;rintro e w6 ⟨d',rfl,hd6,hb6⟩;have HE:=Lib.hid (q8Q HQ1.out HG1.out HNG.out hgB hy HP.out HPM.out hb6 hd6 HST.out);have HG6:=Blk.below HCP.out.1 hb6 HCP.out.1.lt;obtain ⟨⟨z0,z1,z2,z3,z4,z5,z6,z7,z8,z9,z10,z11⟩,y0,y1,y2,y3,y4,y5,y6,y7,y8,y9,y10,y11⟩:=qbC HG6;clear hd6 hb6 HG6 g11;go_wp2_with fail;go_meet;exact ⟨_,_,ds,HE.out⟩
                ·have hkd':(x0.1.kind==1)=false:=by rw [beq_eq_false_iff_ne];exact hkd
                 have HST:=Lib.hid (q0F HFU.out HPL.out HNA.out hk34 pj HPJ.out (by rw [hlen];exact hjn) (by rw [hm1];exact hkd));clear hm1;have HFI:Hid (Fits (qdR (qbO ds r) r)):=⟨HPM.out,by show (qo0 r).length≤1160;rw [←HDT.out];simpa using hdt⟩
                 have HD5:Hid (Dat w4 (w.heap.size+1) (some gd2,dt.size,c2') (qdR (qbO ds r) r).data):=by
                  have h9:=HD4.out;rw [HDT.out]at h9;exact h9
                 go_wp2_with (go_at_call 22;refine (HPK.out _).mono ?_;rintro e w' ⟨rfl,rfl⟩);go_meet;exact ⟨xs,_,ds,HTQ.out.tp HG4.out HD5.out HFI.out HST.out⟩
               ·have HST:=Lib.hid (q3W HFU.out HPL.out HNA.out hk34 (by rw [HPJ.out,hlen];omega));have HFI:Hid (Fits (qdR (qbO ds r) r)):=⟨HPM.out,by show (qo0 r).length≤1160;rw [←HDT.out];simpa using hdt⟩
                have HD5:Hid (Dat w4 (w.heap.size+1) (some gd2,dt.size,c2') (qdR (qbO ds r) r).data):=by
                 have h9:=HD4.out;rw [HDT.out]at h9;exact h9
                go_wp2_with (go_at_call 22;refine (HPK.out _).mono ?_;rintro e w' ⟨rfl,rfl⟩);go_meet;exact ⟨xs,_,ds,HTQ.out.tp HG4.out HD5.out HFI.out HST.out⟩
             ·have h3:((kk:Int)==3)=false:=by rw [beq_eq_false_iff_ne];omega
              have h4:((kk:Int)==4)=false:=by rw [beq_eq_false_iff_ne];omega
              have HST:=Lib.hid (q31 HFU.out HPL.out HNA.out (by have:=Hkk.out;omega) (by have:=Hkk.out;omega) (by have:=Hkk.out;omega));clear k0 k2 k3 hkk0 hkk
              as_aux_lemma=>
              clear c0 c1 c2 c3 c4 c5 c6 c7 c8 c9 c10 c11 f0 f1 f2 f3 f4 f5 f6 f7 f8 f9 f10 f11;have HFI:Hid (Fits (qdR (qbO ds r) r)):=⟨HPM.out,by show (qo0 r).length≤1160;rw [←HDT.out];simpa using hdt⟩
              have HD5:Hid (Dat w4 (w.heap.size+1) (some gd2,dt.size,c2') (qdR (qbO ds r) r).data):=by
               have h9:=HD4.out;rw [HDT.out]at h9;exact h9
              go_wp2_with fail;go_meet;exact ⟨xs,_,ds,HTQ.out.tp HG4.out HD5.out HFI.out HST.out⟩
          case rest=>
           obtain ⟨xs1,ny,ds1,hTP⟩:=hcut;obtain ⟨w8,Hw8⟩:=qaA wc;rw [Hw8.out]at hTP⊢;have HTP:=Lib.hid hTP;have HEQ:Hid ((xs.map (·.1),ds)=qcI m (rs.take k)):=HT4.out.2.2.2.2.1;clear hTP HT HT1 HT2 HT3 HT4 HBX HBX2 HBX3 HBX4 HAT HA HW hpsz hp4 hd4 hnm4 Hnm Hp Hp0 Hd HD0 HQ HB3 hcl4 hcp hpn Hpn Hcl Hmd hpa hpa0 hpa1 Hpa hgr3 hpb Hpb hxl HG4 HD4 HPL HFU HNA Hkk hkk;have t5:w8.cell? ⟨w.heap.size,0,none⟩=some (.slice (adr G) nx cap):=HTP.out.1.cell 0;have t5f:w8.frozen? ⟨w.heap.size,0,none⟩=false:=HTP.out.1.frozen 0;obtain ⟨⟨c0,c1,c2,c3,c4,c5,c6,c7,c8,c9,c10,c11⟩,f0,f1,f2,f3,f4,f5,f6,f7,f8,f9,f10,f11⟩:=qbC HTP.out.2.2.2.2.1;obtain ⟨i1,hi,hz0,hz1,hz2⟩:=info_parts q6C
           have HO:Hid (w8.ownsRow (w.heap.size+1) 49 12 (.slice (adr G) nx cap) nx (encC xs1)):=by
            have h9:=HTP.out.2.1;unfold qeU at h9;rw [HTP.out.2.2.2.2.2.2.2.2.2.2.2.1]at h9;exact h9
           have hsz:w.heap.size+1≤w8.heap.size:=by have:=HTP.out.1.lt;omega
           have hnb:=heap_alloc_new w8 (.cells (encN ny).toArray 49);have hone:=qzI ny;go_wp2_with (at_builtin;refine Stay.go ?_);refine Stay.on ?_;refine wpList_append_lies _ rfl (.tmp 136) (.tmp 138) 23 rfl (w.heap.size+1) 49 i1 _ 12 144 Tryz.underlying23 hi hz0 hz1 hz2 rfl (by decide) (.slice (adr G) nx cap) nx _ rfl (HO.out.alloc _) ⟨w8.heap.size,0,none⟩ 1 1 (encN ny) rfl rfl (World.news_of_block (cs:=(encN ny).toArray) (t:=49) (fr:=(0,0)) hnb) hone (by omega) (by unfold maxLen;omega) (by omega) (by simp;omega) _ rfl ?_;intro g' cap' w9 hown1 hgrow1 hat1 hlt1;have HTL:=Lib.hid (HTP.out.push hkr Hr.out HEQ.out hown1 hgrow1);have b9:Blk w9 w.heap.size 23 #[.slice (adr G) nx cap]:=HTP.out.box hgrow1;have t9:w9.cell? ⟨w.heap.size,0,none⟩=some (.slice (adr G) nx cap):=b9.cell 0;have t9f:w9.frozen? ⟨w.heap.size,0,none⟩=false:=b9.frozen 0;clear hown1 hgrow1 hat1 hlt1 b9;go_wp2_with fail;go_roundw
           case rel=>exact ⟨k+1,_,ds1,_,by go_num,by omega,HTL.out⟩
           case measure=>simp [intOf];omega
  ·obtain rfl:k=n:=by omega
   have HF:=Lib.hid (show qcI m rs=qcI m (rs.take k) by rw [List.take_of_length_le (by rw [HN.out];omega)]);have hxm:=HT.out.len;have t5:wr.cell? ⟨w.heap.size,0,none⟩=some tv:=HT.out.1.cell 0;go_wp2_with fail;refine (qqO _ _ _ xs HT.out.2.1 (by omega)).mono ?_;rintro e wS ⟨rfl,ys,hp,hs,hn5,hg5⟩;obtain ⟨hE,t6⟩:=zeA HT.out HF.out hp hs hn5 hg5;have HE:=Lib.hid hE;clear hp hs hn5 hg5 hE;go_wp2_with fail;go_ret;exact ⟨_,ys,rfl,HE.out⟩
end Go.Proofs.YtapgoifimhnbdaaGreatDoor
