/- qaV of one kind, in one file: MemD, MemW, MemT. -/
import Derived.Test.YtapgoifimhnbdaaGreatDoorMcv
import Derived.Test.YtapgoifimhnbdaaGreatDoorMgh
import Derived.Test.YtapgoifimhnbdaaGreatDoorHdo
import Derived.Test.YtapgoifimhnbdaaGreatDoorPdc
import Derived.Deep.RegionHeld3
import Derived.Deep.RegionWith
import Derived.Test.YtapgoifimhnbdaaGreatDoorMer
import Derived.Test.YtapgoifimhnbdaaGreatDoorHdp
import Derived.Test.YtapgoifimhnbdaaGreatDoorPda
import Derived.Lib.MinMax
import Derived.Test.YtapgoifimhnbdaaGreatDoorEna
import Derived.Test.YtapgoifimhnbdaaGreatDoorEnc
import Derived.Test.YtapgoifimhnbdaaGreatDoorStq
import Derived.Test.YtapgoifimhnbdaaGreatDoorRca
set_option linter.unusedVariables false
set_option maxRecDepth 100000
namespace Go.Proofs.YtapgoifimhnbdaaGreatDoor
open Go.RowKit
open Go.OpenShut
theorem qd5 {B g:Nat} {W:World} {v:Value} {l:List UInt8} (h:OwnB W B v l) (hg:g<B) (v0 v1 v2 v3 v4 v5 v6 v7 v8 v9 v10:Value):OwnB (((((((((((W.setCell ⟨g,0,none⟩ v0).setCell ⟨g,1,none⟩ v1).setCell ⟨g,2,none⟩ v2).setCell ⟨g,3,none⟩ v3).setCell ⟨g,4,none⟩ v4).setCell ⟨g,5,none⟩ v5).setCell ⟨g,6,none⟩ v6).setCell ⟨g,7,none⟩ v7).setCell ⟨g,8,none⟩ v8).setCell ⟨g,9,none⟩ v9).setCell ⟨g,10,none⟩ v10) B v l:=
 (ownsRow_setCell_below (ownsRow_setCell_below (ownsRow_setCell_below (ownsRow_setCell_below (ownsRow_setCell_below (ownsRow_setCell_below (ownsRow_setCell_below (ownsRow_setCell_below (ownsRow_setCell_below (ownsRow_setCell_below (ownsRow_setCell_below h (a:=⟨g,0,none⟩) hg v0) (a:=⟨g,1,none⟩) hg v1) (a:=⟨g,2,none⟩) hg v2) (a:=⟨g,3,none⟩) hg v3) (a:=⟨g,4,none⟩) hg v4) (a:=⟨g,5,none⟩) hg v5) (a:=⟨g,6,none⟩) hg v6) (a:=⟨g,7,none⟩) hg v7) (a:=⟨g,8,none⟩) hg v8) (a:=⟨g,9,none⟩) hg v9) (a:=⟨g,10,none⟩) hg v10)
theorem padC_le (l:List UInt8) (n:Int):(padC l n).1.1.length≤l.length:=by
 unfold padC
 split
 ·split
  ·simp
  ·split
   ·simp only [List.length_take];omega
   ·simp
 ·simp
theorem qy8 {x W W':World} (h:Below x.heap.size x W) (hb:Below W.heap.size W W'):Below x.heap.size x W':=h.trans (hb.mono h.size)
theorem qhI:qaG qaT= #[.string ⟨#[]⟩,.string ⟨#[]⟩,.string ⟨#[]⟩,.int .i64 0,.int .i64 0,.int .i64 0,.int .i64 0,.int .i64 0,.int .u8 0,.string ⟨#[]⟩,.string ⟨#[]⟩]:=rfl
set_option maxHeartbeats 8000000 in
theorem qd2 (A:Option Addr) (n c:Nat) (l:List UInt8) (hn:l.length=n) (hn2:n≤140737488351232) (hc:SlOk A n c) (w:World) (hA:qaE w A l):
  Calls Tryz.prog 171 #[.slice A n c] w fun e w'=> ∃v,e= .returned (.tuple #[.agg (qaG (qaC l).1.1),v,.int .i64 ((qaC l).1.2.2:Nat),.int .i64 (qaC l).2])∧OwnB w' w.heap.size v (qaC l).1.2.1∧Below w.heap.size w w':=by
 have hZ0:=Blk.new w 152 (qaG qaT);have hB0:=(Below.refl w.heap.size w).alloc (Nat.le_refl _) (.cells (qaG qaT) 152);rw [qhI]at hZ0 hB0
 by_cases h5:l.length<512
 ·have HF:=Lib.hid (qg5 h5);rw [HF.out];simp only;rw [qhI];obtain ⟨⟨q0,q1,q2,q3,q4,q5,q6,q7,q8,q9,qA⟩,f0,f1,f2,f3,f4,f5,f6,f7,f8,f9,fA⟩:=qaF hZ0;have HB0:=Lib.hid hB0;have h5':(n:Int)<512:=by omega
  clear hA hB0 hZ0 hc h5;go_enter Tryz.func171,Tryz.ntmps171;go_wp2_with fail;refine bodyPost_ret (v:= .tuple #[.agg #[.string ⟨#[]⟩,.string ⟨#[]⟩,.string ⟨#[]⟩,.int .i64 0,.int .i64 0,.int .i64 0,.int .i64 0,.int .i64 0,.int .u8 0,.string ⟨#[]⟩,.string ⟨#[]⟩],.slice none 0 0,.int .i64 0,.int .i64 7]) (by simp [results,Tryz.results171,go_sem, *]) rfl ?_;refine ⟨_,rfl,OwnB.nil _ _,?_⟩;exact HB0.out
 ·have h5': ¬(n:Int)<512:=by omega
  have hs1: ∀W:World,(Instr.slice 22 (.slice A n c) none (some (.int .i64 512)) none).run Tryz.prog W= .ok (.slice A 512 c) W:=fun W=>qeI W A n c 512 (by have:=hc.1;omega);have hs2: ∀W:World,(Instr.slice 22 (.slice A n c) (some (.int .i64 512)) none none).run Tryz.prog W= .ok (.slice (cutA A c 512) (n-512) (c-512)) W:=fun W=>qbX W A n c 512 (by omega);have ht:(l.take 512).length=512:=by rw [List.length_take];omega
  have hcv:=((hA.below hB0).take 512).conv c (fun e=>by have:=hc.2.2 e;have:=hc.1;omega);rw [ht]at hcv;have HO:=Lib.hid fun W=>q5N (bs (l.take 512)) W (by rw [qaB,ht];decide);rw [qaH]at HO;have HA2:=Lib.hid ((hA.cut (c:=c) (by have:=hc.1;omega) 512 (by omega)));have hl2:(l.drop 512).length=n-512:=by rw [List.length_drop,hn]
  have hsl2:=hc.cut 512 (by omega) (n-512) (by have:=hc.1;omega);have HCu:=Lib.hid fun x W h=>q5P (cutA A c 512) (n-512) (c-512) (l.drop 512) x hl2 (by omega) hsl2 W h;have HF1:=Lib.hid (qiJ h5);have HF2:=Lib.hid (qkL h5);have HF3:=Lib.hid (qjF h5);generalize qaC l=FM at HF1 HF2 HF3⊢;generalize qbW (l.take 512)=HR at HO HF1 HF2 HF3;generalize bs (l.take 512)=LB at hcv HO;generalize l.drop 512=L2 at HA2 hl2 HCu HF1 HF2 HF3;obtain ⟨⟨n0,n1,n2,n3,n4,n5,n6,n7,n8,n9,nA⟩,E1⟩:=HR;simp only at HO HF1 HF2 HF3
  by_cases h0:E1=0
  ·subst h0;have HG2:=Lib.hid (HF2.out rfl);have HG3:=Lib.hid (HF3.out rfl);have HCn:=Lib.hid fun W h=>HCu.out n6 W h;clear HF1 HF2 HF3 HCu;have hpc:(padC L2 n6).1.1.length≤140737488351232:=Nat.le_trans (padC_le L2 n6) (by omega);generalize padC L2 n6=PC at HCn HG2 HG3 hpc;obtain ⟨⟨D1,D2⟩,E2⟩:=PC;simp only at HCn HG2 HG3 hpc;unfold qaG at HO;have HZ:=Lib.hid hZ0;have HB0:=Lib.hid hB0;have hc1:=hc.1;have hc2:=hc.2.1;clear hA hB0 hZ0 hc h5 hl2 hsl2 ht;go_enter Tryz.func171,Tryz.ntmps171;go_wp2_with fail;refine (HO.out _).mono ?_;rintro e x1 ⟨rfl,hb⟩;have hB1:=HB0.out.trans (hb.mono HB0.out.size);have hB2:=hB1.alloc hB1.size (.cells #[.string (bs n0),.string (bs n1),.string (bs n2),.int .i64 n3,.int .i64 n4,.int .i64 n5,.int .i64 n6,.int .i64 n7,.int .u8 (n8.toNat:Int),.string (bs n9),.string (bs nA)] 152);have hZ2:=(HZ.out.below hb HZ.out.lt).alloc (.cells #[.string (bs n0),.string (bs n1),.string (bs n2),.int .i64 n3,.int .i64 n4,.int .i64 n5,.int .i64 n6,.int .i64 n7,.int .u8 (n8.toNat:Int),.string (bs n9),.string (bs nA)] 152);have hne:w.heap.size≠x1.heap.size:=by have:=hb.size;rw [hszA]at this;omega
   have hH2:=Blk.new x1 152 #[.string (bs n0),.string (bs n1),.string (bs n2),.int .i64 n3,.int .i64 n4,.int .i64 n5,.int .i64 n6,.int .i64 n7,.int .u8 (n8.toNat:Int),.string (bs n9),.string (bs nA)];clear hb hB1;go_upto_region 4 with fail
   generalize x1.alloc (.cells #[.string (bs n0),.string (bs n1),.string (bs n2),.int .i64 n3,.int .i64 n4,.int .i64 n5,.int .i64 n6,.int .i64 n7,.int .u8 (n8.toNat:Int),.string (bs n9),.string (bs nA)] 152)=x2 at hB2 hZ2 hH2⊢;generalize x1.heap.size=gH at hH2 hne⊢;have HB2:=Lib.hid hB2;have HZ2:=Lib.hid hZ2;have HH2:=Lib.hid hH2;clear hB2 hZ2 hH2 HO HB0 HZ hcv hs1;go_upto_region 6 with fail
   go_cut [8,7] (fun v e wx=>e= .int .i64 E2∧Below x2.heap.size x2 wx∧OwnB wx x2.heap.size v D1)
   case first=>
    have r0: ∀W:World,Below x2.heap.size x2 W→W.cell? ⟨gH,6,none⟩=some (.int .i64 n6):=fun W h=>by
     have:=(HH2.out.below h HH2.out.lt).cell 6;exact this
    have HC:=Lib.hid fun W (h:Below x2.heap.size x2 W)=>HCn.out W (HA2.out.below (HB2.out.trans (h.mono HB2.out.size)));have hS:=Below.refl x2.heap.size x2
    go_region_held3 (fun W=>Below x2.heap.size x2 W)
     (first
      |(with_reducible assumption)
      |(with_reducible refine Below.drew ?_;with_reducible assumption)
      |(with_reducible exact qy8 (by with_reducible assumption) (by with_reducible assumption)))
     (first
      |(go_at_call 214;refine (HC.out _ (by first|with_reducible assumption|with_reducible exact Below.drew (by with_reducible assumption))).mono ?_;rintro e w3 ⟨v1,v2,rfl,ho1,-,hb3⟩))
    all_goals
     go_wp2_with fail;go_meet;refine ⟨rfl,?_,?_⟩
     ·first
       |with_reducible exact qy8 (by with_reducible assumption) hb3
       |exact qy8 (Below.drew (Below.refl _ _)) hb3
     ·exact OwnB.mono ho1 (Nat.le_refl _)
   case rest=>
    obtain ⟨rfl,hB3,hO3⟩:=hcut;rename World=>x3
    have HB3:=Lib.hid (HB2.out.trans (hB3.mono HB2.out.size));obtain ⟨⟨q0,q1,q2,q3,q4,q5,q6,q7,q8,q9,qA⟩,f0,f1,f2,f3,f4,f5,f6,f7,f8,f9,fA⟩:=qaF (HZ2.out.below hB3 HZ2.out.lt);have hH3:=HH2.out.below hB3 HH2.out.lt;obtain ⟨A1,c1,rfl,hs3,ha3⟩:=hO3.form;have HO3:=Lib.hid hO3;have hRlt:w.heap.size<x2.heap.size:=HZ2.out.lt
    by_cases h2:E2=0
    ·subst h2;have HF:=Lib.hid (HG3.out rfl);have hpl:=qbM D1;have HFi:=Lib.hid fun W h=>qmA A1 D1.length c1 D1 rfl hpc hs3.2.2 W h;have HA3:=Lib.hid ha3;have hZ3:=HZ2.out.below hB3 HZ2.out.lt;have HPL:Hid ((padF D1).length=512*padN D1.length):=hpl;have hpb:(padF D1).length≤281474976710656:=by have:=qdE D1.length;omega
     generalize hPF:padF D1=PF at HFi HPL hpb;have hwr:IntKind.i64.wrap (512+(PF.length:Int))=512+(PF.length:Int):=by rw [IntKind.wrap_i64];omega
     clear hpl hPF hB3 hO3 ha3;obtain ⟨⟨g0,g1,g2,g3,g4,g5,g6,g7,g8,g9,gA⟩,-⟩:=qaF hH3;go_upto_region 9 with fail
     go_region_with
      (first
       |(go_at_call 215;refine (HFi.out _ (by first|with_reducible exact HA3.out|exact HA3.out)).mono ?_;rintro e w4 ⟨v4,rfl,ho4,hb4⟩;obtain ⟨A4,c4,rfl,-,-⟩:=ho4.form;have hK4:Below x3.heap.size x3 w4:=(by first|exact hb4|exact (Below.drew (Below.refl x3.heap.size x3)).trans hb4);obtain ⟨⟨p0,p1,p2,p3,p4,p5,p6,p7,p8,p9,pA⟩,-⟩:=qaF (hH3.below hK4 hH3.lt);obtain ⟨⟨r0,r1,r2,r3,r4,r5,r6,r7,r8,r9,rA⟩,s0,s1,s2,s3,s4,s5,s6,s7,s8,s9,sA⟩:=qaF (hZ3.below hK4 hZ3.lt);clear ho4 hb4))
     all_goals
      have HB9:=Lib.hid (HB3.out.trans (hK4.mono HB3.out.size));have HO9:=Lib.hid (HO3.out.below hK4);clear hK4 hH3 hZ3;go_wp2_with fail;refine bodyPost_ret (v:= .tuple #[.agg #[.string (bs n0),.string (bs n1),.string (bs n2),.int .i64 n3,.int .i64 n4,.int .i64 n5,.int .i64 n6,.int .i64 n7,.int .u8 (n8.toNat:Int),.string (bs n9),.string (bs nA)],.slice A1 D1.length c1,.int .i64 (512+(PF.length:Int)),.int .i64 0]) (by simp [results,Tryz.results171,go_sem, *]) rfl ?_;rw [HF.out];simp only;have e9:(512+(PF.length:Int))=((512+512*padN D1.length:Nat):Int):=by have:=HPL.out;omega
      rw [e9];refine ⟨_,rfl,OwnB.mono (qd5 HO9.out hRlt _ _ _ _ _ _ _ _ _ _ _) (Nat.le_of_lt hRlt),?_⟩;exact qaL HB9.out (Nat.le_refl _) _ _ _ _ _ _ _ _ _ _ _
    ·have HF:=Lib.hid (HG2.out h2);have hne2:(E2 !=0)=true:=by simpa using h2
     clear hO3 ha3 hB3 hH3;go_wp2_with fail;refine bodyPost_ret (v:= .tuple #[.agg #[.string ⟨#[]⟩,.string ⟨#[]⟩,.string ⟨#[]⟩,.int .i64 0,.int .i64 0,.int .i64 0,.int .i64 0,.int .i64 0,.int .u8 0,.string ⟨#[]⟩,.string ⟨#[]⟩],.slice none 0 0,.int .i64 0,.int .i64 E2]) (by simp [results,Tryz.results171,go_sem, *]) rfl ?_;rw [HF.out];refine ⟨_,rfl,OwnB.nil _ _,?_⟩;exact qaL HB3.out (Nat.le_refl _) _ _ _ _ _ _ _ _ _ _ _
  ·have HF:=Lib.hid (HF1.out h0);rw [HF.out];simp only;rw [qhI];have hne:(E1 !=0)=true:=by simpa using h0
   have HZ:=Lib.hid hZ0;have HB0:=Lib.hid hB0;clear hA hB0 hZ0 hc h5 HF1 HF2 HF3 HF HCu HA2 hl2 hsl2 h0 hs2 ht;unfold qaG at HO;go_enter Tryz.func171,Tryz.ntmps171;go_wp2_with fail;refine (HO.out _).mono ?_;rintro e x1 ⟨rfl,hb⟩;have hB1:=HB0.out.trans (hb.mono HB0.out.size);have hB2:=hB1.alloc hB1.size (.cells #[.string (bs n0),.string (bs n1),.string (bs n2),.int .i64 n3,.int .i64 n4,.int .i64 n5,.int .i64 n6,.int .i64 n7,.int .u8 (n8.toNat:Int),.string (bs n9),.string (bs nA)] 152);have hZ2:=(HZ.out.below hb HZ.out.lt).alloc (.cells #[.string (bs n0),.string (bs n1),.string (bs n2),.int .i64 n3,.int .i64 n4,.int .i64 n5,.int .i64 n6,.int .i64 n7,.int .u8 (n8.toNat:Int),.string (bs n9),.string (bs nA)] 152);clear hb hB1;go_upto_region 4 with fail
   generalize x1.alloc (.cells #[.string (bs n0),.string (bs n1),.string (bs n2),.int .i64 n3,.int .i64 n4,.int .i64 n5,.int .i64 n6,.int .i64 n7,.int .u8 (n8.toNat:Int),.string (bs n9),.string (bs nA)] 152)=x2 at hB2 hZ2⊢;have HB:=Lib.hid hB2;obtain ⟨⟨q0,q1,q2,q3,q4,q5,q6,q7,q8,q9,qA⟩,f0,f1,f2,f3,f4,f5,f6,f7,f8,f9,fA⟩:=qaF hZ2;clear hB2 hZ2 hs1 hcv hn hn2 h5';go_wp2_with fail;clear hne;refine bodyPost_ret (v:= .tuple #[.agg #[.string ⟨#[]⟩,.string ⟨#[]⟩,.string ⟨#[]⟩,.int .i64 0,.int .i64 0,.int .i64 0,.int .i64 0,.int .i64 0,.int .u8 0,.string ⟨#[]⟩,.string ⟨#[]⟩],.slice none 0 0,.int .i64 0,.int .i64 E1]) (by simp [results,Tryz.results171,go_sem, *]) rfl ?_;refine ⟨_,rfl,OwnB.nil _ _,?_⟩;exact qaL HB.out (Nat.le_refl _) _ _ _ _ _ _ _ _ _ _ _
theorem q5Z (l:List UInt8) (n:Int):(padC l n).1.1.length≤8589934592:=by
 unfold padC
 split
 ·split
  ·simp
  ·split
   ·simp only [List.length_take];omega
   ·simp
 ·simp
set_option maxHeartbeats 8000000 in
theorem qdG (A:Option Addr) (n c:Nat) (l:List UInt8) (hn:l.length=n) (hn2:n≤281474976000000) (hc:SlOk A n c) (w:World) (hA:qaE w A l):
  Calls Tryz.prog 166 #[.slice A n c] w fun e w'=> ∃v,e= .returned (.tuple #[.agg (qaG (qaC l).1.1),v,.int .i64 ((qaC l).1.2.2:Nat),.int .i64 (qaC l).2])∧OwnB w' w.heap.size v (qaC l).1.2.1∧Below w.heap.size w w':=by
 have hZ0:=Blk.new w 152 (qaG qaT);have hB0:=(Below.refl w.heap.size w).alloc (Nat.le_refl _) (.cells (qaG qaT) 152);rw [qhI]at hZ0 hB0
 by_cases h5:l.length<512
 ·have HF:=Lib.hid (qg5 h5);rw [HF.out];simp only;rw [qhI];obtain ⟨⟨q0,q1,q2,q3,q4,q5,q6,q7,q8,q9,qA⟩,f0,f1,f2,f3,f4,f5,f6,f7,f8,f9,fA⟩:=qaF hZ0;have HB0:=Lib.hid hB0;have h5':(n:Int)<512:=by omega
  clear hA hB0 hZ0 hc h5;go_enter Tryz.func166,Tryz.ntmps166;go_wp2_with fail;refine bodyPost_ret (v:= .tuple #[.agg #[.string ⟨#[]⟩,.string ⟨#[]⟩,.string ⟨#[]⟩,.int .i64 0,.int .i64 0,.int .i64 0,.int .i64 0,.int .i64 0,.int .u8 0,.string ⟨#[]⟩,.string ⟨#[]⟩],.slice none 0 0,.int .i64 0,.int .i64 7]) (by simp [results,Tryz.results166,go_sem, *]) rfl ?_;refine ⟨_,rfl,OwnB.nil _ _,?_⟩;exact HB0.out
 ·have h5': ¬(n:Int)<512:=by omega
  have hs1: ∀W:World,(Instr.slice 22 (.slice A n c) none (some (.int .i64 512)) none).run Tryz.prog W= .ok (.slice A 512 c) W:=fun W=>qeI W A n c 512 (by have:=hc.1;omega);have hs2: ∀W:World,(Instr.slice 22 (.slice A n c) (some (.int .i64 512)) none none).run Tryz.prog W= .ok (.slice (cutA A c 512) (n-512) (c-512)) W:=fun W=>qbX W A n c 512 (by omega);have ht:(l.take 512).length=512:=by rw [List.length_take];omega
  have hcv:=((hA.below hB0).take 512).conv c (fun e=>by have:=hc.2.2 e;have:=hc.1;omega);rw [ht]at hcv;have HO:=Lib.hid fun W=>q21 (bs (l.take 512)) W (by rw [qaB,ht];decide);rw [qaH]at HO;have hl0:n=l.length:=hn.symm;have HF1:=Lib.hid (qiJ h5);have HF2:=Lib.hid (qkL h5);have HF3:=Lib.hid (qjF h5);have hSz:=fun h=>(qa1 (b:=l) h).1;generalize hFM:qaC l=FM at HF1 HF2 HF3 hSz⊢;generalize qbW (l.take 512)=HR at HO HF1 HF2 HF3 hSz;generalize bs (l.take 512)=LB at hcv HO;obtain ⟨⟨n0,n1,n2,n3,n4,n5,n6,n7,n8,n9,nA⟩,E1⟩:=HR;simp only at HO HF1 HF2 HF3 hSz
  by_cases h0:E1=0
  ·subst h0;obtain ⟨k,hk,hk2⟩:=q50 n6;have HBl:=Lib.hid fun W=>qkV n6 W;rw [hk]at HBl hSz;rw [Int.toNat_natCast]at hSz;have hw1:IntKind.i64.wrap (1+(k:Int))=((1+k:Nat):Int):=by rw [IntKind.wrap_i64];omega
   obtain ⟨k1,hk1⟩: ∃k1,k1=1+k:=⟨_,rfl⟩;rw [←hk1]at hw1;obtain ⟨sz,hsz⟩: ∃sz,sz=k1*512:=⟨_,rfl⟩;have hw2:IntKind.i64.wrap ((k1:Int)*512)=(sz:Int):=by rw [IntKind.wrap_i64];omega
   obtain ⟨m,hm⟩: ∃m,m=min n sz:=⟨_,rfl⟩;have hmin:min (n:Int) (sz:Int)=(m:Int):=by omega
   have hm5:512≤m:=by omega
   have hmn:m≤n:=by omega
   have hs3: ∀W:World,(Instr.slice 22 (.slice A n c) (some (.int .i64 512)) (some (.int .i64 (m:Int))) none).run Tryz.prog W= .ok (.slice (cutA A c 512) (m-512) (c-512)) W:=fun W=>ql1 W A n c 512 m hm5 (by have:=hc.1;omega);have hlm:(l.take m).length=m:=by rw [List.length_take];omega
   have hA3:=((hA.take m).cut (c:=c) (by have:=hc.1;omega) 512 (by omega));have hl3:((l.take m).drop 512).length=m-512:=by rw [List.length_drop,hlm]
   have e3:(l.take m).drop 512=(l.drop 512).take (512*(padB n6).1.toNat):=by
    rw [List.drop_take,hk,Int.toNat_natCast]
    by_cases hq:n≤sz
    ·rw [List.take_of_length_le (by rw [List.length_drop];omega),List.take_of_length_le (by rw [List.length_drop];omega)]
    ·rw [show m-512=512*k by omega]
   have hsl3:=hc.cut 512 (by omega) (m-512) (by have:=hc.1;omega);have hCn:=fun W h=>Cut_any (cutA A c 512) (m-512) (c-512) ((l.take m).drop 512) n6 hl3 (by omega) hsl3 W h;obtain ⟨p1,p2⟩:=q1U (l.drop 512) n6;rw [←e3]at p1 p2;rw [p1,p2]at hCn;generalize (padC ((l.take m).drop 512) n6).1.2=D2 at hCn;have HCn:=Lib.hid hCn;have HA2:=Lib.hid hA3;generalize (l.take m).drop 512=L3 at HCn HA2;have HG2:=Lib.hid (HF2.out rfl);have HG3:=Lib.hid (HF3.out rfl);clear HF1 HF2 HF3 hCn hA3 p1 p2 e3 hl3 hlm hsl3;have hpc:(padC (l.drop 512) n6).1.1.length≤140737488351232:=Nat.le_trans (q5Z (l.drop 512) n6) (by decide);generalize padC (l.drop 512) n6=PC at HCn HG2 HG3 hpc;obtain ⟨⟨D1,D3⟩,E2⟩:=PC;simp only at HCn HG2 HG3 hpc
   have HSZ:Hid (E2=0→512+512*padN D1.length=sz):=by
    intro h;have h3:=HG3.out h;rw [h3]at hSz;have:=hSz rfl;simp only at this;omega
   unfold qaG at HO;have HZ:=Lib.hid hZ0;have HB0:=Lib.hid hB0;have hc1:=hc.1;have hc2:=hc.2.1;clear hA hB0 hZ0 hc h5 ht hSz hFM hk hk1 hsz hm hm5 hmn hl0 hk2;go_enter Tryz.func166,Tryz.ntmps166;go_wp2_with fail;refine (HO.out _).mono ?_;rintro e x1 ⟨rfl,hb⟩;have hB1:=HB0.out.trans (hb.mono HB0.out.size);have hB2:=hB1.alloc hB1.size (.cells #[.string (bs n0),.string (bs n1),.string (bs n2),.int .i64 n3,.int .i64 n4,.int .i64 n5,.int .i64 n6,.int .i64 n7,.int .u8 (n8.toNat:Int),.string (bs n9),.string (bs nA)] 152);have hZ2:=(HZ.out.below hb HZ.out.lt).alloc (.cells #[.string (bs n0),.string (bs n1),.string (bs n2),.int .i64 n3,.int .i64 n4,.int .i64 n5,.int .i64 n6,.int .i64 n7,.int .u8 (n8.toNat:Int),.string (bs n9),.string (bs nA)] 152);have hne:w.heap.size≠x1.heap.size:=by have:=hb.size;rw [hszA]at this;omega
   have hH2:=Blk.new x1 152 #[.string (bs n0),.string (bs n1),.string (bs n2),.int .i64 n3,.int .i64 n4,.int .i64 n5,.int .i64 n6,.int .i64 n7,.int .u8 (n8.toNat:Int),.string (bs n9),.string (bs nA)];clear hb hB1;go_upto_region 4 with fail
   generalize x1.alloc (.cells #[.string (bs n0),.string (bs n1),.string (bs n2),.int .i64 n3,.int .i64 n4,.int .i64 n5,.int .i64 n6,.int .i64 n7,.int .u8 (n8.toNat:Int),.string (bs n9),.string (bs nA)] 152)=x2 at hB2 hZ2 hH2⊢;generalize x1.heap.size=gH at hH2 hne⊢;have HB2:=Lib.hid hB2;have HZ2:=Lib.hid hZ2;have HH2:=Lib.hid hH2;clear hB2 hZ2 hH2 HO HB0 HZ hcv hs1;obtain ⟨⟨g0,g1,g2,g3,g4,g5,g6,g7,g8,g9,gA⟩,-⟩:=qaF HH2.out;go_wp2_with fail;refine (HBl.out _).mono ?_;rintro e w' ⟨rfl,rfl⟩;clear g0 g1 g2 g3 g4 g5 g6 g7 g8 g9 gA;go_upto_region 8 with fail
   go_cut [11,7] (fun v e wx=>e= .int .i64 E2∧Below x2.heap.size x2 wx∧OwnB wx x2.heap.size v D1)
   case first=>
    have r0: ∀W:World,Below x2.heap.size x2 W→W.cell? ⟨gH,6,none⟩=some (.int .i64 n6):=fun W h=>by
     have:=(HH2.out.below h HH2.out.lt).cell 6;exact this
    have HC:=Lib.hid fun W (h:Below x2.heap.size x2 W)=>HCn.out W (HA2.out.below (HB2.out.trans (h.mono HB2.out.size)));have hS:=Below.refl x2.heap.size x2
    go_region_held3 (fun W=>Below x2.heap.size x2 W)
     (first
      |(with_reducible assumption)
      |(with_reducible refine Below.drew ?_;with_reducible assumption)
      |(with_reducible exact qy8 (by with_reducible assumption) (by with_reducible assumption)))
     (first
      |(go_at_call 209;refine (HC.out _ (by first|with_reducible assumption|with_reducible exact Below.drew (by with_reducible assumption))).mono ?_;rintro e w3 ⟨v1,v2,rfl,ho1,-,hb3⟩))
    all_goals
     go_wp2_with fail;go_meet;refine ⟨rfl,?_,?_⟩
     ·first
       |with_reducible exact qy8 (by with_reducible assumption) hb3
       |exact qy8 (Below.drew (Below.refl _ _)) hb3
     ·exact OwnB.mono ho1 (Nat.le_refl _)
   case rest=>
    obtain ⟨rfl,hB3,hO3⟩:=hcut;rename World=>x3
    have HB3:=Lib.hid (HB2.out.trans (hB3.mono HB2.out.size));obtain ⟨⟨q0,q1,q2,q3,q4,q5,q6,q7,q8,q9,qA⟩,f0,f1,f2,f3,f4,f5,f6,f7,f8,f9,fA⟩:=qaF (HZ2.out.below hB3 HZ2.out.lt);have hH3:=HH2.out.below hB3 HH2.out.lt;obtain ⟨A1,c1,rfl,hs3,ha3⟩:=hO3.form;have HO3:=Lib.hid hO3;have hRlt:w.heap.size<x2.heap.size:=HZ2.out.lt
    by_cases h2:E2=0
    ·subst h2;have HF:=Lib.hid (HG3.out rfl);have hZ3:=HZ2.out.below hB3 HZ2.out.lt;have HE9:=Lib.hid (HSZ.out rfl);clear hB3 hO3 ha3;obtain ⟨⟨g0,g1,g2,g3,g4,g5,g6,g7,g8,g9,gA⟩,-⟩:=qaF hH3;clear hZ3 hH3;go_wp2_with fail;refine bodyPost_ret (v:= .tuple #[.agg #[.string (bs n0),.string (bs n1),.string (bs n2),.int .i64 n3,.int .i64 n4,.int .i64 n5,.int .i64 n6,.int .i64 n7,.int .u8 (n8.toNat:Int),.string (bs n9),.string (bs nA)],.slice A1 D1.length c1,.int .i64 (sz:Int),.int .i64 0]) (by simp [results,Tryz.results166,go_sem, *]) rfl ?_;rw [HF.out];simp only;rw [HE9.out];refine ⟨_,rfl,OwnB.mono (qd5 HO3.out hRlt _ _ _ _ _ _ _ _ _ _ _) (Nat.le_of_lt hRlt),?_⟩;exact qaL HB3.out (Nat.le_refl _) _ _ _ _ _ _ _ _ _ _ _
    ·have HF:=Lib.hid (HG2.out h2);have hne2:(E2 !=0)=true:=by simpa using h2
     clear hO3 ha3 hB3 hH3;go_wp2_with fail;refine bodyPost_ret (v:= .tuple #[.agg #[.string ⟨#[]⟩,.string ⟨#[]⟩,.string ⟨#[]⟩,.int .i64 0,.int .i64 0,.int .i64 0,.int .i64 0,.int .i64 0,.int .u8 0,.string ⟨#[]⟩,.string ⟨#[]⟩],.slice none 0 0,.int .i64 0,.int .i64 E2]) (by simp [results,Tryz.results166,go_sem, *]) rfl ?_;rw [HF.out];refine ⟨_,rfl,OwnB.nil _ _,?_⟩;exact qaL HB3.out (Nat.le_refl _) _ _ _ _ _ _ _ _ _ _ _
  ·have HF:=Lib.hid (HF1.out h0);rw [HF.out];simp only;rw [qhI];have hne:(E1 !=0)=true:=by simpa using h0
   have HZ:=Lib.hid hZ0;have HB0:=Lib.hid hB0;clear hA hB0 hZ0 hc h5 HF1 HF2 HF3 HF h0 hs2 ht hSz hFM hl0;unfold qaG at HO;go_enter Tryz.func166,Tryz.ntmps166;go_wp2_with fail;refine (HO.out _).mono ?_;rintro e x1 ⟨rfl,hb⟩;have hB1:=HB0.out.trans (hb.mono HB0.out.size);have hB2:=hB1.alloc hB1.size (.cells #[.string (bs n0),.string (bs n1),.string (bs n2),.int .i64 n3,.int .i64 n4,.int .i64 n5,.int .i64 n6,.int .i64 n7,.int .u8 (n8.toNat:Int),.string (bs n9),.string (bs nA)] 152);have hZ2:=(HZ.out.below hb HZ.out.lt).alloc (.cells #[.string (bs n0),.string (bs n1),.string (bs n2),.int .i64 n3,.int .i64 n4,.int .i64 n5,.int .i64 n6,.int .i64 n7,.int .u8 (n8.toNat:Int),.string (bs n9),.string (bs nA)] 152);clear hb hB1;go_upto_region 4 with fail
   generalize x1.alloc (.cells #[.string (bs n0),.string (bs n1),.string (bs n2),.int .i64 n3,.int .i64 n4,.int .i64 n5,.int .i64 n6,.int .i64 n7,.int .u8 (n8.toNat:Int),.string (bs n9),.string (bs nA)] 152)=x2 at hB2 hZ2⊢;have HB:=Lib.hid hB2;obtain ⟨⟨q0,q1,q2,q3,q4,q5,q6,q7,q8,q9,qA⟩,f0,f1,f2,f3,f4,f5,f6,f7,f8,f9,fA⟩:=qaF hZ2;clear hB2 hZ2 hs1 hcv hn hn2 h5';go_wp2_with fail;clear hne;refine bodyPost_ret (v:= .tuple #[.agg #[.string ⟨#[]⟩,.string ⟨#[]⟩,.string ⟨#[]⟩,.int .i64 0,.int .i64 0,.int .i64 0,.int .i64 0,.int .i64 0,.int .u8 0,.string ⟨#[]⟩,.string ⟨#[]⟩],.slice none 0 0,.int .i64 0,.int .i64 E1]) (by simp [results,Tryz.results166,go_sem, *]) rfl ?_;refine ⟨_,rfl,OwnB.nil _ _,?_⟩;exact qaL HB.out (Nat.le_refl _) _ _ _ _ _ _ _ _ _ _ _
theorem qxR (s:ByteArray) (w:World) (S:Std w) (hs:s.size≤281474976710656):
  Calls Tryz.prog 174 #[.string s] w fun e w'=>(∃ev,e= .returned (.tuple #[.int .i64 (numV s.data.toList),ev]))∧Below w.heap.size w w':=by
 unfold numV;rcases ha:Lib.atoiAll s.data.toList with x|_|_
 ·refine (Any.strconv_Atoi_ok Tryz.laysC172 s (by omega) x ha w).mono ?_;rintro e w' ⟨rfl,hw⟩;refine ⟨⟨_,rfl⟩,?_⟩;rcases hw with rfl|⟨t,rfl⟩
  ·exact Below.refl _ _
  ·exact Lib.bytesWorld_below _ _ _
 ·obtain ⟨t,p,e⟩:=S.syn;refine (Any.strconv_Atoi_syntax Tryz.laysC172 s hs ha _ w e (.inr ⟨_,_,rfl⟩)).mono ?_;rintro e w' ⟨N,rfl,-,-,hb⟩;exact ⟨⟨_,rfl⟩,hb⟩
 ·obtain ⟨t,p,e⟩:=S.rng;refine (Any.strconv_Atoi_range Tryz.laysC172 s hs ha _ w e (.inr ⟨_,_,rfl⟩)).mono ?_;rintro e w' ⟨N,rfl,-,-,hb⟩;exact ⟨⟨_,rfl⟩,hb⟩
theorem qv1 (y:EntV) (v:List UInt8):takF y (kGid,v)= {y with md:= {y.md with gid:=numV v} } :=by rw [takF,if_pos rfl]
theorem qoA (y:EntV) (v:List UInt8):takF y (qaO,v)= {y with md:= {y.md with group:=v} } :=by rw [takF,if_neg (by show¬qaO=kGid;decide),if_pos rfl]
theorem qrZ (y:EntV) (v:List UInt8):takF y (qa6,v)= {y with target:=v} :=by rw [takF,if_neg (by show¬qa6=kGid;decide),if_neg (by show¬qa6=qaO;decide),if_pos rfl]
theorem qn9 (y:EntV) (v:List UInt8):takF y (qaM,v)= {y with md:= {y.md with second:=(qa8 v).1,nano:=(qa8 v).2.1} } :=by rw [takF,if_neg (by show¬qaM=kGid;decide),if_neg (by show¬qaM=qaO;decide),if_neg (by show¬qaM=qa6;decide),if_pos rfl]
theorem qrY (y:EntV) (v:List UInt8):takF y (qaZ,v)= {y with path:=v} :=by rw [takF,if_neg (by show¬qaZ=kGid;decide),if_neg (by show¬qaZ=qaO;decide),if_neg (by show¬qaZ=qa6;decide),if_neg (by show¬qaZ=qaM;decide),if_pos rfl]
theorem qv0 (y:EntV) (v:List UInt8):takF y (kUid,v)= {y with md:= {y.md with uid:=numV v} } :=by rw [takF,if_neg (by show¬kUid=kGid;decide),if_neg (by show¬kUid=qaO;decide),if_neg (by show¬kUid=qa6;decide),if_neg (by show¬kUid=qaM;decide),if_neg (by show¬kUid=qaZ;decide),if_pos rfl]
theorem qn7 (y:EntV) (v:List UInt8):takF y (qaS,v)= {y with md:= {y.md with user:=v} } :=by rw [takF,if_neg (by show¬qaS=kGid;decide),if_neg (by show¬qaS=qaO;decide),if_neg (by show¬qaS=qa6;decide),if_neg (by show¬qaS=qaM;decide),if_neg (by show¬qaS=qaZ;decide),if_neg (by show¬qaS=kUid;decide),if_pos rfl]
theorem qn8 (y:EntV) {k v:List UInt8} (h1:k≠kGid) (h2:k≠qaO) (h3:k≠qa6) (h4:k≠qaM) (h5:k≠qaZ) (h6:k≠kUid) (h7:k≠qaS):takF y (k,v)=y:=by rw [takF,if_neg h1,if_neg h2,if_neg h3,if_neg h4,if_neg h5,if_neg h6,if_neg h7]
theorem qjL {K L:List UInt8} (h:K≠L):((bs K).toList==L)=false∧ ¬(bs K).toList=L:=by
 have e:(bs K).toList=K:=by rw [ByteArray.toList_eq,qaH]
 rw [e];exact ⟨beq_eq_false_iff_ne.2 h,h⟩
set_option maxHeartbeats 4000000 in
theorem q4L {w:World} {g:Nat} (y:EntV) (D:Option Addr) (c:Nat) (K V:List UInt8) (hV:V.length≤140737488351232) (S:Std w) (hB:Blk w g 73 (entC y D c).toArray):
  Calls Tryz.prog 212 #[.pointer (some ⟨g,0,none⟩),.agg #[.string (bs K),.string (bs V)]] w fun e w'=>e= .returned (.tuple #[])∧Blk w' g 73 (entC (takF y (K,V)) D c).toArray∧Below g w w':=by
 have hgl:=hB.lt;have HB0:=Lib.hid (hB.alloc (.cells #[.string (bs K),.string (bs V)] 190));have HW0:=Lib.hid ((Below.refl g w).alloc (Nat.le_of_lt hgl) (.cells #[.string (bs K),.string (bs V)] 190));have HS0:Hid (Std (w.alloc (.cells #[.string (bs K),.string (bs V)] 190))):=S.below ((Below.refl _ _).alloc (Nat.le_refl _) _);have hb2:=Blk.new w 190 #[.string (bs K),.string (bs V)];have hgs:g<(w.alloc (.cells #[.string (bs K),.string (bs V)] 190)).heap.size:=by rw [hszA];omega
 have HAt:=Lib.hid fun W SW=>qxR (bs V) W SW (by rw [qaB];omega);have HPa:=Lib.hid fun W SW=>qpX (bs V) W SW (by rw [qaB];exact hV);rw [qaH]at HAt HPa;have HG:=Lib.hid hgs;have HBw:=Lib.hid hB;clear S hB hV hgs
 by_cases h1:K=kGid
 ·subst h1;rw [qv1];rw [show bs kGid=⟨#[103,105,100]⟩from rfl]at HB0 HW0 HS0 hb2 HG⊢;obtain ⟨path,kind,target,⟨m0,m1,m2,m3,m4,m5,m6⟩,data⟩:=y;unfold entC at HB0⊢;simp only at HB0⊢;generalize bs V=VS at HB0 HW0 HS0 hb2 HAt HPa HG⊢;generalize numV V=nv at HAt⊢;obtain ⟨⟨c0,c1⟩,-⟩:=blk2 hb2;go_enter Tryz.func212,Tryz.ntmps212;go_wp2_with fail;refine (HAt.out _ HS0.out).mono ?_;rintro e w2 ⟨⟨ev,rfl⟩,hb⟩;have hB2:=HB0.out.below hb HG.out;have HN:=Lib.hid (hB2.set_ 5 (.int .i64 nv));have HB2:=Lib.hid ((HW0.out.trans (hb.mono (Nat.le_of_lt HG.out))).setCell (p:=⟨g,5,none⟩) (Nat.le_refl _) (.int .i64 nv));obtain ⟨⟨q0,q1,q2,q3,q4,q5,q6,q7,q8,q9,qA⟩,f0,f1,f2,f3,f4,f5,f6,f7,f8,f9,fA⟩:=qaF hB2;clear hb hB2;go_wp2_with fail
  go_end0
  exact ⟨rfl,HN.out,HB2.out⟩
 by_cases h2:K=qaO
 ·subst h2;have hV:bs V=bs V:=rfl;rw [qoA];rw [show bs qaO=⟨#[103,110,97,109,101]⟩from rfl]at HB0 HW0 HS0 hb2 HG⊢;have HN:=Lib.hid ((HBw.out.set_ 7 (.string (bs V))).alloc (.cells #[.string ⟨#[103,110,97,109,101]⟩,.string (bs V)] 190));have hB2:=(Below.refl g w).setCell (p:=⟨g,7,none⟩) (Nat.le_refl _) (.string (bs V));have HB2:=Lib.hid (hB2.alloc (Nat.le_trans (Nat.le_of_lt hgl) hB2.size) (.cells #[.string ⟨#[103,110,97,109,101]⟩,.string (bs V)] 190));clear hB2;obtain ⟨path,kind,target,⟨m0,m1,m2,m3,m4,m5,m6⟩,data⟩:=y;unfold entC at HB0 HN⊢;simp only at HB0 HN⊢;obtain ⟨⟨c0,c1⟩,-⟩:=blk2 hb2;obtain ⟨⟨q0,q1,q2,q3,q4,q5,q6,q7,q8,q9,qA⟩,f0,f1,f2,f3,f4,f5,f6,f7,f8,f9,fA⟩:=qaF HB0.out;clear hb2 hV HAt HPa HS0 HBw;generalize bs V=VS at*;go_enter Tryz.func212,Tryz.ntmps212;go_wp2_with fail
  go_end0
  exact ⟨rfl,HN.out,HB2.out⟩
 by_cases h3:K=qa6
 ·subst h3;have hV:bs V=bs V:=rfl;rw [qrZ];rw [show bs qa6=⟨#[108,105,110,107,112,97,116,104]⟩from rfl]at HB0 HW0 HS0 hb2 HG⊢;have HN:=Lib.hid ((HBw.out.set_ 2 (.string (bs V))).alloc (.cells #[.string ⟨#[108,105,110,107,112,97,116,104]⟩,.string (bs V)] 190));have hB2:=(Below.refl g w).setCell (p:=⟨g,2,none⟩) (Nat.le_refl _) (.string (bs V));have HB2:=Lib.hid (hB2.alloc (Nat.le_trans (Nat.le_of_lt hgl) hB2.size) (.cells #[.string ⟨#[108,105,110,107,112,97,116,104]⟩,.string (bs V)] 190));clear hB2;obtain ⟨path,kind,target,⟨m0,m1,m2,m3,m4,m5,m6⟩,data⟩:=y;unfold entC at HB0 HN⊢;simp only at HB0 HN⊢;obtain ⟨⟨c0,c1⟩,-⟩:=blk2 hb2;obtain ⟨⟨q0,q1,q2,q3,q4,q5,q6,q7,q8,q9,qA⟩,f0,f1,f2,f3,f4,f5,f6,f7,f8,f9,fA⟩:=qaF HB0.out;clear hb2 hV HAt HPa HS0 HBw;generalize bs V=VS at*;go_enter Tryz.func212,Tryz.ntmps212;go_wp2_with fail
  go_end0
  exact ⟨rfl,HN.out,HB2.out⟩
 by_cases h4:K=qaM
 ·subst h4;rw [qn9];rw [show bs qaM=⟨#[109,116,105,109,101]⟩from rfl]at HB0 HW0 HS0 hb2 HG⊢;obtain ⟨path,kind,target,⟨m0,m1,m2,m3,m4,m5,m6⟩,data⟩:=y;unfold entC at HB0⊢;simp only at HB0⊢;generalize bs V=VS at HB0 HW0 HS0 hb2 HAt HPa HG⊢;generalize (qa8 V).1=nv at HPa⊢;generalize (qa8 V).2.1=nw at HPa⊢;generalize (qa8 V).2.2=nx at HPa;obtain ⟨⟨c0,c1⟩,-⟩:=blk2 hb2;go_enter Tryz.func212,Tryz.ntmps212;go_wp2_with fail;refine (HPa.out _ HS0.out).mono ?_;rintro e w2 ⟨rfl,hb⟩;have hB2:=HB0.out.below hb HG.out;have HN:=Lib.hid ((hB2.set_ 8 (.int .i64 nv)).set_ 9 (.int .i64 nw));have HB2:=Lib.hid (((HW0.out.trans (hb.mono (Nat.le_of_lt HG.out))).setCell (p:=⟨g,8,none⟩) (Nat.le_refl _) (.int .i64 nv)).setCell (p:=⟨g,9,none⟩) (Nat.le_refl _) (.int .i64 nw));obtain ⟨⟨q0,q1,q2,q3,q4,q5,q6,q7,q8,q9,qA⟩,f0,f1,f2,f3,f4,f5,f6,f7,f8,f9,fA⟩:=qaF hB2;clear hb hB2;go_wp2_with fail
  go_end0
  exact ⟨rfl,HN.out,HB2.out⟩
 by_cases h5:K=qaZ
 ·subst h5;have hV:bs V=bs V:=rfl;rw [qrY];rw [show bs qaZ=⟨#[112,97,116,104]⟩from rfl]at HB0 HW0 HS0 hb2 HG⊢;have HN:=Lib.hid ((HBw.out.set_ 0 (.string (bs V))).alloc (.cells #[.string ⟨#[112,97,116,104]⟩,.string (bs V)] 190));have hB2:=(Below.refl g w).setCell (p:=⟨g,0,none⟩) (Nat.le_refl _) (.string (bs V));have HB2:=Lib.hid (hB2.alloc (Nat.le_trans (Nat.le_of_lt hgl) hB2.size) (.cells #[.string ⟨#[112,97,116,104]⟩,.string (bs V)] 190));clear hB2;obtain ⟨path,kind,target,⟨m0,m1,m2,m3,m4,m5,m6⟩,data⟩:=y;unfold entC at HB0 HN⊢;simp only at HB0 HN⊢;obtain ⟨⟨c0,c1⟩,-⟩:=blk2 hb2;obtain ⟨⟨q0,q1,q2,q3,q4,q5,q6,q7,q8,q9,qA⟩,f0,f1,f2,f3,f4,f5,f6,f7,f8,f9,fA⟩:=qaF HB0.out;clear hb2 hV HAt HPa HS0 HBw;generalize bs V=VS at*;go_enter Tryz.func212,Tryz.ntmps212;go_wp2_with fail
  go_end0
  exact ⟨rfl,HN.out,HB2.out⟩
 by_cases h6:K=kUid
 ·subst h6;rw [qv0];rw [show bs kUid=⟨#[117,105,100]⟩from rfl]at HB0 HW0 HS0 hb2 HG⊢;obtain ⟨path,kind,target,⟨m0,m1,m2,m3,m4,m5,m6⟩,data⟩:=y;unfold entC at HB0⊢;simp only at HB0⊢;generalize bs V=VS at HB0 HW0 HS0 hb2 HAt HPa HG⊢;generalize numV V=nv at HAt⊢;obtain ⟨⟨c0,c1⟩,-⟩:=blk2 hb2;go_enter Tryz.func212,Tryz.ntmps212;go_wp2_with fail;refine (HAt.out _ HS0.out).mono ?_;rintro e w2 ⟨⟨ev,rfl⟩,hb⟩;have hB2:=HB0.out.below hb HG.out;have HN:=Lib.hid (hB2.set_ 4 (.int .i64 nv));have HB2:=Lib.hid ((HW0.out.trans (hb.mono (Nat.le_of_lt HG.out))).setCell (p:=⟨g,4,none⟩) (Nat.le_refl _) (.int .i64 nv));obtain ⟨⟨q0,q1,q2,q3,q4,q5,q6,q7,q8,q9,qA⟩,f0,f1,f2,f3,f4,f5,f6,f7,f8,f9,fA⟩:=qaF hB2;clear hb hB2;go_wp2_with fail
  go_end0
  exact ⟨rfl,HN.out,HB2.out⟩
 by_cases h7:K=qaS
 ·subst h7;have hV:bs V=bs V:=rfl;rw [qn7];rw [show bs qaS=⟨#[117,110,97,109,101]⟩from rfl]at HB0 HW0 HS0 hb2 HG⊢;have HN:=Lib.hid ((HBw.out.set_ 6 (.string (bs V))).alloc (.cells #[.string ⟨#[117,110,97,109,101]⟩,.string (bs V)] 190));have hB2:=(Below.refl g w).setCell (p:=⟨g,6,none⟩) (Nat.le_refl _) (.string (bs V));have HB2:=Lib.hid (hB2.alloc (Nat.le_trans (Nat.le_of_lt hgl) hB2.size) (.cells #[.string ⟨#[117,110,97,109,101]⟩,.string (bs V)] 190));clear hB2;obtain ⟨path,kind,target,⟨m0,m1,m2,m3,m4,m5,m6⟩,data⟩:=y;unfold entC at HB0 HN⊢;simp only at HB0 HN⊢;obtain ⟨⟨c0,c1⟩,-⟩:=blk2 hb2;obtain ⟨⟨q0,q1,q2,q3,q4,q5,q6,q7,q8,q9,qA⟩,f0,f1,f2,f3,f4,f5,f6,f7,f8,f9,fA⟩:=qaF HB0.out;clear hb2 hV HAt HPa HS0 HBw;generalize bs V=VS at*;go_enter Tryz.func212,Tryz.ntmps212;go_wp2_with fail
  go_end0
  exact ⟨rfl,HN.out,HB2.out⟩
 rw [qn8 y h1 h2 h3 h4 h5 h6 h7];obtain ⟨d1,e1⟩:=qjL h1;obtain ⟨d2,e2⟩:=qjL h2;obtain ⟨d3,e3⟩:=qjL h3;obtain ⟨d4,e4⟩:=qjL h4;obtain ⟨d5,e5⟩:=qjL h5;obtain ⟨d6,e6⟩:=qjL h6;obtain ⟨d7,e7⟩:=qjL h7;unfold kGid at d1 e1;unfold qaO at d2 e2;unfold qa6 at d3 e3;unfold qaM at d4 e4;unfold qaZ at d5 e5;unfold kUid at d6 e6;unfold qaS at d7 e7;obtain ⟨⟨c0,c1⟩,-⟩:=blk2 hb2;clear hb2 h1 h2 h3 h4 h5 h6 h7 HAt HPa HS0;generalize bs K=KS at*;generalize bs V=VS at*;generalize (entC y D c).toArray=EC at*;go_enter Tryz.func212,Tryz.ntmps212;go_wp2_with fail
 go_end0
 exact ⟨rfl,HB0.out,HW0.out⟩
end Go.Proofs.YtapgoifimhnbdaaGreatDoor
