/- qaX of one kind, in one file: MemD, MemW, StpD, MemT. -/
import Derived.Test.YtapgoifimhnbdaaGreatDoorMcv
import Derived.Test.YtapgoifimhnbdaaGreatDoorMgh
import Derived.Test.YtapgoifimhnbdaaGreatDoorHdo
import Derived.Test.YtapgoifimhnbdaaGreatDoorPda
import Derived.Deep.RegionHeld3
import Derived.Deep.RegionWith
import Derived.Test.YtapgoifimhnbdaaGreatDoorMer
import Derived.Test.YtapgoifimhnbdaaGreatDoorHdp
import Derived.Lib.MinMax
import Derived.Test.YtapgoifimhnbdaaGreatDoorRca
import Derived.Test.YtapgoifimhnbdaaGreatDoorEna
set_option linter.unusedVariables false
set_option maxRecDepth 100000
namespace Go.Proofs.YtapgoifimhnbdaaGreatDoor
open Go.RowKit
open Go.OpenShut
theorem qi6 {B g:Nat} {W:World} {v:Value} {l:List UInt8} (h:OwnB W B v l) (hg:g<B) (v0 v1 v2 v3 v4 v5 v6 v7 v8 v9 v10:Value):OwnB (((((((((((W.setCell ⟨g,0,none⟩ v0).setCell ⟨g,1,none⟩ v1).setCell ⟨g,2,none⟩ v2).setCell ⟨g,3,none⟩ v3).setCell ⟨g,4,none⟩ v4).setCell ⟨g,5,none⟩ v5).setCell ⟨g,6,none⟩ v6).setCell ⟨g,7,none⟩ v7).setCell ⟨g,8,none⟩ v8).setCell ⟨g,9,none⟩ v9).setCell ⟨g,10,none⟩ v10) B v l:=
 (ownsRow_setCell_below (ownsRow_setCell_below (ownsRow_setCell_below (ownsRow_setCell_below (ownsRow_setCell_below (ownsRow_setCell_below (ownsRow_setCell_below (ownsRow_setCell_below (ownsRow_setCell_below (ownsRow_setCell_below (ownsRow_setCell_below h (a:=⟨g,0,none⟩) hg v0) (a:=⟨g,1,none⟩) hg v1) (a:=⟨g,2,none⟩) hg v2) (a:=⟨g,3,none⟩) hg v3) (a:=⟨g,4,none⟩) hg v4) (a:=⟨g,5,none⟩) hg v5) (a:=⟨g,6,none⟩) hg v6) (a:=⟨g,7,none⟩) hg v7) (a:=⟨g,8,none⟩) hg v8) (a:=⟨g,9,none⟩) hg v9) (a:=⟨g,10,none⟩) hg v10)
theorem keepB {x W W':World} (h:Below x.heap.size x W) (hb:Below W.heap.size W W'):Below x.heap.size x W':=h.trans (hb.mono h.size)
theorem qqR:qaN qbE= #[.string ⟨#[]⟩,.string ⟨#[]⟩,.string ⟨#[]⟩,.int .i64 0,.int .i64 0,.int .i64 0,.int .i64 0,.int .i64 0,.int .u8 0,.string ⟨#[]⟩,.string ⟨#[]⟩]:=rfl
theorem zaY (l:List UInt8) (n:Int):(padC l n).1.1.length≤8589934592:=by
 unfold padC
 split
 ·split
  ·simp
  ·split
   ·simp only [List.length_take];omega
   ·simp
 ·simp
set_option maxHeartbeats 8000000 in
theorem qdS (A:Option Addr) (n c:Nat) (l:List UInt8) (hn:l.length=n) (hn2:n≤281474976000000) (hc:SlOk A n c) (w:World) (hA:qaE w A l):
  Calls Tryz.prog 166 #[.slice A n c] w fun e w'=> ∃v,e= .returned (.tuple #[.agg (qaN (qaD l).1.1),v,.int .i64 ((qaD l).1.2.2:Nat),.int .i64 (qaD l).2])∧OwnB w' w.heap.size v (qaD l).1.2.1∧Below w.heap.size w w':=by
 have hZ0:=Blk.new w 152 (qaN qbE);have hB0:=(Below.refl w.heap.size w).alloc (Nat.le_refl _) (.cells (qaN qbE) 152);rw [qqR]at hZ0 hB0
 by_cases h5:l.length<512
 ·have HF:=Lib.hid (qlF h5);rw [HF.out];simp only;rw [qqR];obtain ⟨⟨q0,q1,q2,q3,q4,q5,q6,q7,q8,q9,qA⟩,f0,f1,f2,f3,f4,f5,f6,f7,f8,f9,fA⟩:=qaP hZ0;have HB0:=Lib.hid hB0;have h5':(n:Int)<512:=by omega
  clear hA hB0 hZ0 hc h5;go_enter Tryz.func166,Tryz.ntmps166;go_wp2_with fail;refine bodyPost_ret (v:= .tuple #[.agg #[.string ⟨#[]⟩,.string ⟨#[]⟩,.string ⟨#[]⟩,.int .i64 0,.int .i64 0,.int .i64 0,.int .i64 0,.int .i64 0,.int .u8 0,.string ⟨#[]⟩,.string ⟨#[]⟩],.slice none 0 0,.int .i64 0,.int .i64 7]) (by simp [results,Tryz.results166,go_sem, *]) rfl ?_;refine ⟨_,rfl,OwnB.nil _ _,?_⟩;exact HB0.out
 ·have h5': ¬(n:Int)<512:=by omega
  have hs1: ∀W:World,(Instr.slice 22 (.slice A n c) none (some (.int .i64 512)) none).run Tryz.prog W= .ok (.slice A 512 c) W:=fun W=>qiU W A n c 512 (by have:=hc.1;omega);have hs2: ∀W:World,(Instr.slice 22 (.slice A n c) (some (.int .i64 512)) none none).run Tryz.prog W= .ok (.slice (cutA A c 512) (n-512) (c-512)) W:=fun W=>qeG W A n c 512 (by omega);have ht:(l.take 512).length=512:=by rw [List.length_take];omega
  have hcv:=((hA.below hB0).take 512).conv c (fun e=>by have:=hc.2.2 e;have:=hc.1;omega);rw [ht]at hcv;have HO:=Lib.hid fun W=>q6P (bs (l.take 512)) W (by rw [qaC,ht];decide);rw [qaF]at HO;have hl0:n=l.length:=hn.symm;have HF1:=Lib.hid (qnW h5);have HF2:=Lib.hid (qp6 h5);have HF3:=Lib.hid (qnU h5);have hSz:=fun h=>(qb7 (b:=l) h).1;generalize hFM:qaD l=FM at HF1 HF2 HF3 hSz⊢;generalize qcM (l.take 512)=HR at HO HF1 HF2 HF3 hSz;generalize bs (l.take 512)=LB at hcv HO;obtain ⟨⟨n0,n1,n2,n3,n4,n5,n6,n7,n8,n9,nA⟩,E1⟩:=HR;simp only at HO HF1 HF2 HF3 hSz
  by_cases h0:E1=0
  ·subst h0;obtain ⟨k,hk,hk2⟩:=zaZ n6;have HBl:=Lib.hid fun W=>qk0 n6 W;rw [hk]at HBl hSz;rw [Int.toNat_natCast]at hSz;have hw1:IntKind.i64.wrap (1+(k:Int))=((1+k:Nat):Int):=by rw [IntKind.wrap_i64];omega
   obtain ⟨k1,hk1⟩: ∃k1,k1=1+k:=⟨_,rfl⟩;rw [←hk1]at hw1;obtain ⟨sz,hsz⟩: ∃sz,sz=k1*512:=⟨_,rfl⟩;have hw2:IntKind.i64.wrap ((k1:Int)*512)=(sz:Int):=by rw [IntKind.wrap_i64];omega
   obtain ⟨m,hm⟩: ∃m,m=min n sz:=⟨_,rfl⟩;have hmin:min (n:Int) (sz:Int)=(m:Int):=by omega
   have hm5:512≤m:=by omega
   have hmn:m≤n:=by omega
   have hs3: ∀W:World,(Instr.slice 22 (.slice A n c) (some (.int .i64 512)) (some (.int .i64 (m:Int))) none).run Tryz.prog W= .ok (.slice (cutA A c 512) (m-512) (c-512)) W:=fun W=>qtK W A n c 512 m hm5 (by have:=hc.1;omega);have hlm:(l.take m).length=m:=by rw [List.length_take];omega
   have hA3:=((hA.take m).cut (c:=c) (by have:=hc.1;omega) 512 (by omega));have hl3:((l.take m).drop 512).length=m-512:=by rw [List.length_drop,hlm]
   have e3:(l.take m).drop 512=(l.drop 512).take (512*(padB n6).1.toNat):=by
    rw [List.drop_take,hk,Int.toNat_natCast]
    by_cases hq:n≤sz
    ·rw [List.take_of_length_le (by rw [List.length_drop];omega),List.take_of_length_le (by rw [List.length_drop];omega)]
    ·rw [show m-512=512*k by omega]
   have hsl3:=hc.cut 512 (by omega) (m-512) (by have:=hc.1;omega);have hCn:=fun W h=>Cut_any (cutA A c 512) (m-512) (c-512) ((l.take m).drop 512) n6 hl3 (by omega) hsl3 W h;obtain ⟨p1,p2⟩:=q48 (l.drop 512) n6;rw [←e3]at p1 p2;rw [p1,p2]at hCn;generalize (padC ((l.take m).drop 512) n6).1.2=D2 at hCn;have HCn:=Lib.hid hCn;have HA2:=Lib.hid hA3;generalize (l.take m).drop 512=L3 at HCn HA2;have HG2:=Lib.hid (HF2.out rfl);have HG3:=Lib.hid (HF3.out rfl);clear HF1 HF2 HF3 hCn hA3 p1 p2 e3 hl3 hlm hsl3;have hpc:(padC (l.drop 512) n6).1.1.length≤140737488351232:=Nat.le_trans (zaY (l.drop 512) n6) (by decide);generalize padC (l.drop 512) n6=PC at HCn HG2 HG3 hpc;obtain ⟨⟨D1,D3⟩,E2⟩:=PC;simp only at HCn HG2 HG3 hpc
   have HSZ:Hid (E2=0→512+512*padN D1.length=sz):=by
    intro h;have h3:=HG3.out h;rw [h3]at hSz;have:=hSz rfl;simp only at this;omega
   unfold qaN at HO;have HZ:=Lib.hid hZ0;have HB0:=Lib.hid hB0;have hc1:=hc.1;have hc2:=hc.2.1;clear hA hB0 hZ0 hc h5 ht hSz hFM hk hk1 hsz hm hm5 hmn hl0 hk2;go_enter Tryz.func166,Tryz.ntmps166;go_wp2_with fail;refine (HO.out _).mono ?_;rintro e x1 ⟨rfl,hb⟩;have hB1:=HB0.out.trans (hb.mono HB0.out.size);have hB2:=hB1.alloc hB1.size (.cells #[.string (bs n0),.string (bs n1),.string (bs n2),.int .i64 n3,.int .i64 n4,.int .i64 n5,.int .i64 n6,.int .i64 n7,.int .u8 (n8.toNat:Int),.string (bs n9),.string (bs nA)] 152);have hZ2:=(HZ.out.below hb HZ.out.lt).alloc (.cells #[.string (bs n0),.string (bs n1),.string (bs n2),.int .i64 n3,.int .i64 n4,.int .i64 n5,.int .i64 n6,.int .i64 n7,.int .u8 (n8.toNat:Int),.string (bs n9),.string (bs nA)] 152);have hne:w.heap.size≠x1.heap.size:=by have:=hb.size;rw [hszA]at this;omega
   have hH2:=Blk.new x1 152 #[.string (bs n0),.string (bs n1),.string (bs n2),.int .i64 n3,.int .i64 n4,.int .i64 n5,.int .i64 n6,.int .i64 n7,.int .u8 (n8.toNat:Int),.string (bs n9),.string (bs nA)];clear hb hB1;go_upto_region 4 with fail
   generalize x1.alloc (.cells #[.string (bs n0),.string (bs n1),.string (bs n2),.int .i64 n3,.int .i64 n4,.int .i64 n5,.int .i64 n6,.int .i64 n7,.int .u8 (n8.toNat:Int),.string (bs n9),.string (bs nA)] 152)=x2 at hB2 hZ2 hH2⊢;generalize x1.heap.size=gH at hH2 hne⊢;have HB2:=Lib.hid hB2;have HZ2:=Lib.hid hZ2;have HH2:=Lib.hid hH2;clear hB2 hZ2 hH2 HO HB0 HZ hcv hs1;obtain ⟨⟨g0,g1,g2,g3,g4,g5,g6,g7,g8,g9,gA⟩,-⟩:=qaP HH2.out;go_wp2_with fail;refine (HBl.out _).mono ?_;rintro e w' ⟨rfl,rfl⟩;clear g0 g1 g2 g3 g4 g5 g6 g7 g8 g9 gA;go_upto_region 8 with fail
   go_cut [11,7] (fun v e wx=>e= .int .i64 E2∧Below x2.heap.size x2 wx∧OwnB wx x2.heap.size v D1)
   case first=>
    have r0: ∀W:World,Below x2.heap.size x2 W→W.cell? ⟨gH,6,none⟩=some (.int .i64 n6):=fun W h=>by
     have:=(HH2.out.below h HH2.out.lt).cell 6;exact this
    have HC:=Lib.hid fun W (h:Below x2.heap.size x2 W)=>HCn.out W (HA2.out.below (HB2.out.trans (h.mono HB2.out.size)));have hS:=Below.refl x2.heap.size x2
    go_region_held3 (fun W=>Below x2.heap.size x2 W)
     (first
      |(with_reducible assumption)
      |(with_reducible refine Below.drew ?_;with_reducible assumption)
      |(with_reducible exact keepB (by with_reducible assumption) (by with_reducible assumption)))
     (first
      |(go_at_call 209;refine (HC.out _ (by first|with_reducible assumption|with_reducible exact Below.drew (by with_reducible assumption))).mono ?_;rintro e w3 ⟨v1,v2,rfl,ho1,-,hb3⟩))
    all_goals
     go_wp2_with fail;go_meet;refine ⟨rfl,?_,?_⟩
     ·first
       |with_reducible exact keepB (by with_reducible assumption) hb3
       |exact keepB (Below.drew (Below.refl _ _)) hb3
     ·exact OwnB.mono ho1 (Nat.le_refl _)
   case rest=>
    obtain ⟨rfl,hB3,hO3⟩:=hcut;rename World=>x3
    have HB3:=Lib.hid (HB2.out.trans (hB3.mono HB2.out.size));obtain ⟨⟨q0,q1,q2,q3,q4,q5,q6,q7,q8,q9,qA⟩,f0,f1,f2,f3,f4,f5,f6,f7,f8,f9,fA⟩:=qaP (HZ2.out.below hB3 HZ2.out.lt);have hH3:=HH2.out.below hB3 HH2.out.lt;obtain ⟨A1,c1,rfl,hs3,ha3⟩:=hO3.form;have HO3:=Lib.hid hO3;have hRlt:w.heap.size<x2.heap.size:=HZ2.out.lt
    by_cases h2:E2=0
    ·subst h2;have HF:=Lib.hid (HG3.out rfl);have hZ3:=HZ2.out.below hB3 HZ2.out.lt;have HE9:=Lib.hid (HSZ.out rfl);clear hB3 hO3 ha3;obtain ⟨⟨g0,g1,g2,g3,g4,g5,g6,g7,g8,g9,gA⟩,-⟩:=qaP hH3;clear hZ3 hH3;go_wp2_with fail;refine bodyPost_ret (v:= .tuple #[.agg #[.string (bs n0),.string (bs n1),.string (bs n2),.int .i64 n3,.int .i64 n4,.int .i64 n5,.int .i64 n6,.int .i64 n7,.int .u8 (n8.toNat:Int),.string (bs n9),.string (bs nA)],.slice A1 D1.length c1,.int .i64 (sz:Int),.int .i64 0]) (by simp [results,Tryz.results166,go_sem, *]) rfl ?_;rw [HF.out];simp only;rw [HE9.out];refine ⟨_,rfl,OwnB.mono (qi6 HO3.out hRlt _ _ _ _ _ _ _ _ _ _ _) (Nat.le_of_lt hRlt),?_⟩;exact qa0 HB3.out (Nat.le_refl _) _ _ _ _ _ _ _ _ _ _ _
    ·have HF:=Lib.hid (HG2.out h2);have hne2:(E2 !=0)=true:=by simpa using h2
     clear hO3 ha3 hB3 hH3;go_wp2_with fail;refine bodyPost_ret (v:= .tuple #[.agg #[.string ⟨#[]⟩,.string ⟨#[]⟩,.string ⟨#[]⟩,.int .i64 0,.int .i64 0,.int .i64 0,.int .i64 0,.int .i64 0,.int .u8 0,.string ⟨#[]⟩,.string ⟨#[]⟩],.slice none 0 0,.int .i64 0,.int .i64 E2]) (by simp [results,Tryz.results166,go_sem, *]) rfl ?_;rw [HF.out];refine ⟨_,rfl,OwnB.nil _ _,?_⟩;exact qa0 HB3.out (Nat.le_refl _) _ _ _ _ _ _ _ _ _ _ _
  ·have HF:=Lib.hid (HF1.out h0);rw [HF.out];simp only;rw [qqR];have hne:(E1 !=0)=true:=by simpa using h0
   have HZ:=Lib.hid hZ0;have HB0:=Lib.hid hB0;clear hA hB0 hZ0 hc h5 HF1 HF2 HF3 HF h0 hs2 ht hSz hFM hl0;unfold qaN at HO;go_enter Tryz.func166,Tryz.ntmps166;go_wp2_with fail;refine (HO.out _).mono ?_;rintro e x1 ⟨rfl,hb⟩;have hB1:=HB0.out.trans (hb.mono HB0.out.size);have hB2:=hB1.alloc hB1.size (.cells #[.string (bs n0),.string (bs n1),.string (bs n2),.int .i64 n3,.int .i64 n4,.int .i64 n5,.int .i64 n6,.int .i64 n7,.int .u8 (n8.toNat:Int),.string (bs n9),.string (bs nA)] 152);have hZ2:=(HZ.out.below hb HZ.out.lt).alloc (.cells #[.string (bs n0),.string (bs n1),.string (bs n2),.int .i64 n3,.int .i64 n4,.int .i64 n5,.int .i64 n6,.int .i64 n7,.int .u8 (n8.toNat:Int),.string (bs n9),.string (bs nA)] 152);clear hb hB1;go_upto_region 4 with fail
   generalize x1.alloc (.cells #[.string (bs n0),.string (bs n1),.string (bs n2),.int .i64 n3,.int .i64 n4,.int .i64 n5,.int .i64 n6,.int .i64 n7,.int .u8 (n8.toNat:Int),.string (bs n9),.string (bs nA)] 152)=x2 at hB2 hZ2⊢;have HB:=Lib.hid hB2;obtain ⟨⟨q0,q1,q2,q3,q4,q5,q6,q7,q8,q9,qA⟩,f0,f1,f2,f3,f4,f5,f6,f7,f8,f9,fA⟩:=qaP hZ2;clear hB2 hZ2 hs1 hcv hn hn2 h5';go_wp2_with fail;clear hne;refine bodyPost_ret (v:= .tuple #[.agg #[.string ⟨#[]⟩,.string ⟨#[]⟩,.string ⟨#[]⟩,.int .i64 0,.int .i64 0,.int .i64 0,.int .i64 0,.int .i64 0,.int .u8 0,.string ⟨#[]⟩,.string ⟨#[]⟩],.slice none 0 0,.int .i64 0,.int .i64 E1]) (by simp [results,Tryz.results166,go_sem, *]) rfl ?_;refine ⟨_,rfl,OwnB.nil _ _,?_⟩;exact qa0 HB.out (Nat.le_refl _) _ _ _ _ _ _ _ _ _ _ _
theorem qlE (l:List UInt8):Lib.hasPrefix l [45]=qlA l:=by
 cases l with
 |nil=>rfl
 |cons c r=>show (45==c&&List.isPrefixOf [] r)=(c==45);simp [Bool.beq_comm]
theorem qqX (l:List UInt8):Lib.trimPrefix l [45]=qcU l:=by
 unfold Lib.trimPrefix qcU;rw [qlE];rfl
theorem q08 {l:List UInt8} (h:numO (Lib.atoiAll (qgK (qcU l)))=none∨qjK (qoY (qcU l))=none):qfB l=none:=by
 unfold qfB;rcases h with h|h
 ·rw [h]
 ·rw [h];cases numO (Lib.atoiAll (qgK (qcU l)))<;>rfl
theorem qwY {l:List UInt8} {a b:Int} (h1:numO (Lib.atoiAll (qgK (qcU l)))=some a) (h2:qjK (qoY (qcU l))=some b):qfB l=some (if qlA l=true then negV a b else (a,b)):=by
 unfold qfB;rw [h1,h2]
theorem q38 (l:List UInt8):(qcU l).length≤l.length:=by
 unfold qcU;split
 ·rw [List.length_drop];omega
 ·exact Nat.le_refl _
theorem numO_bd {l:List UInt8} {a:Int} (h:numO (Lib.atoiAll l)=some a): -9223372036854775808≤a∧a≤9223372036854775807:=by
 rcases ha:Lib.atoiAll l with x|_|_
 ·rw [ha]at h;obtain rfl:x=a:=Option.some.inj h;exact Lib.atoiAll_bounds ha
 ·rw [ha]at h;cases h
 ·rw [ha]at h;cases h
theorem q0E (l:List UInt8) (a b:Int) (h:qfB l=some (a,b)):
  (qe8 a b=(bs l,0)∧qcC l=(a,b,0))∨((qe8 a b).2≠0∧qcC l=(0,0,3))∨((qe8 a b).2=0∧(qe8 a b).1≠bs l∧qcC l=(0,0,3)):=by
 cases hi:inT a b
 ·refine .inr (.inl ⟨by rw [qyB hi];decide,qs6 h (by rw [hi];rintro ⟨x,_⟩;cases x)⟩)
 ·by_cases he:qgM a b=l
  ·exact .inl ⟨by rw [qiT hi,he],qo7 h hi he⟩
  ·refine .inr (.inr ⟨by rw [qiT hi],?_,qs6 h (fun x=>he x.2)⟩);rw [qiT hi];intro e;exact he (congrArg (fun s:ByteArray=>s.data.toList) e)
set_option maxHeartbeats 1600000 in
theorem qq3 (s:ByteArray) (w:World) (S:Std w) (hs:s.size≤140737488351232):
  Calls Tryz.prog 251 #[.string s] w fun e w'=>e= .returned (.tuple #[.int .i64 (qcC s.data.toList).1,.int .i64 (qcC s.data.toList).2.1,.int .i64 (qcC s.data.toList).2.2])∧Below w.heap.size w w':=by
 have HCP:Hid (∀W,Calls Tryz.prog 297 #[.string s,.string ⟨#[45]⟩] W fun e w'=>e= .returned (.tuple #[.string (bs (qcU s.data.toList)),.bool (qlA s.data.toList)])∧w'=W):=fun W=>by
  have h:=Tryz.strings_CutPrefix s ⟨#[45]⟩ W;rw [show (⟨#[45]⟩:ByteArray).data.toList= [45]from rfl,qlE,qqX]at h;exact h
 have hzl:=q38 s.data.toList;rw [qaH]at hzl;have hcut:=fun W=>qs2 (bs (qcU s.data.toList)) 46 W (by unfold maxLen;rw [qaC];omega);rw [qaF]at hcut;have hwl:(qgK (qcU s.data.toList)).length≤140737488351232:=by unfold qgK;rw [List.length_take];omega
 have hdl:(qoY (qcU s.data.toList)).length≤140737488351232:=by unfold qoY;rw [List.length_drop];omega
 have HC:Hid (∀W,Calls Tryz.prog 294 #[.string (bs (qcU s.data.toList)),.string ⟨#[46]⟩] W fun e w'=>e= .returned (.tuple #[.string (bs (qgK (qcU s.data.toList))),.string (bs (qoY (qcU s.data.toList))),.bool (hasB 46 (qcU s.data.toList))])∧ ∃n,w'=W.drewN n):=hcut;have HN1:= @q08 s.data.toList;have HN2:= @qwY s.data.toList;have HT:=q0E s.data.toList;rw [qgJ]at HT;generalize hf:hasB 46 (qcU s.data.toList)=fnd at HC;generalize hZ:bs (qcU s.data.toList)=Z at HC HCP;generalize hW:bs (qgK (qcU s.data.toList))=W0 at HC;generalize hD:bs (qoY (qcU s.data.toList))=D0 at HC;rw [show qgK (qcU s.data.toList)=W0.data.toList by rw [←hW,qaF]]at hwl HN1 HN2;rw [show qoY (qcU s.data.toList)=D0.data.toList by rw [←hD,qaF]]at hdl HN1 HN2;rw [qaH]at hwl hdl;have HNN:=fun h=>qv6 (HN1 h);clear hcut hzl hf hZ hW hD HN1;generalize hq:qlA s.data.toList=neg at*;generalize hq2:qcC s.data.toList=tp at*;generalize hq3:qfB s.data.toList=po at*;clear hq hq2 hq3;have HPF:=Lib.hid fun W S=>qj8 D0 W S (by unfold maxLen;omega);cases hA:numO (Lib.atoiAll W0.data.toList)with
 |none=>
  have HA:=Lib.hid fun W S=>q8Y W0 W S (by omega) hA;obtain rfl:=HNN (.inl hA);clear HN2 HNN HT hA;go_enter Tryz.func251,Tryz.ntmps251;go_wp2_with fail;refine (HCP.out _).mono ?_;rintro e w1 ⟨rfl,rfl⟩;go_wp2_with fail;refine (HC.out _).mono ?_;rintro e w1 ⟨rfl,n1,rfl⟩;go_wp2_with fail;refine (HA.out _ (S.drewN n1)).mono ?_;rintro e w2 ⟨⟨x,N,rfl⟩,hb2⟩;have S2:=(S.drewN n1).below hb2;have HB2:Hid (Below w1.heap.size w1 w2):=(below_drewN (Below.refl _ _) n1).trans hb2;clear hb2;go_wp2_with fail;refine (HPF.out _ S2).mono ?_;rintro e w3 ⟨⟨y,rfl,-⟩,hb3⟩;have HB3:=Lib.hid (HB2.out.trans (hb3.mono HB2.out.size));clear hb3;go_wp2_with fail
  go_ret3
  exact ⟨rfl,HB3.out⟩
 |some a=>
  have HA:=Lib.hid fun W=>qx8 W0 a W (by omega) hA;obtain ⟨ab1,ab2⟩:=numO_bd hA;cases hB:qjK D0.data.toList with
  |none=>
   rw [hB]at HPF;obtain rfl:=HNN (.inr hB);clear HN2 HNN HT hA hB;go_enter Tryz.func251,Tryz.ntmps251;go_wp2_with fail;refine (HCP.out _).mono ?_;rintro e w1 ⟨rfl,rfl⟩;go_wp2_with fail;refine (HC.out _).mono ?_;rintro e w1 ⟨rfl,n1,rfl⟩;go_wp2_with fail;refine (HA.out _).mono ?_;rintro e w2 ⟨rfl,hb2⟩;have S2:=(S.drewN n1).below hb2;have HB2:Hid (Below w1.heap.size w1 w2):=(below_drewN (Below.refl _ _) n1).trans hb2;clear hb2;go_wp2_with fail;refine (HPF.out _ S2).mono ?_;rintro e w3 ⟨⟨y,rfl,-⟩,hb3⟩;have HB3:=Lib.hid (HB2.out.trans (hb3.mono HB2.out.size));clear hb3;go_wp2_with fail
   go_ret3
   exact ⟨rfl,HB3.out⟩
  |some b=>
   have HPB:=Lib.hid HPF.out;rw [hB]at HPB;obtain ⟨bb1,bb2⟩:=zb5 _ b hB;have hpo:=HN2 hA hB;clear HN2 HNN hA hB HPF;cases neg with
   |false=>
    rw [if_neg (by decide)]at hpo;have ht:=HT a b hpo;have HTx:=Lib.hid fun W T=>qs0 a b W T;clear HT hpo;generalize qe8 a b=tt at ht HTx;obtain ⟨t,te⟩:=tt;rcases ht with ⟨e1,rfl⟩|⟨e1,rfl⟩|⟨e1,e2,rfl⟩
    ·obtain ⟨rfl,rfl⟩:=Prod.mk.inj e1;go_enter Tryz.func251,Tryz.ntmps251;go_wp2_with fail;refine (HCP.out _).mono ?_;rintro e w1 ⟨rfl,rfl⟩;go_wp2_with fail;refine (HC.out _).mono ?_;rintro e w1 ⟨rfl,n1,rfl⟩;go_wp2_with fail;refine (HA.out _).mono ?_;rintro e w2 ⟨rfl,hb2⟩;have S2:=(S.drewN n1).below hb2;have HB2:Hid (Below w1.heap.size w1 w2):=(below_drewN (Below.refl _ _) n1).trans hb2;clear hb2;go_wp2_with fail;refine (HPB.out _ S2).mono ?_;rintro e w3 ⟨⟨y,rfl,hy⟩,hb3⟩;obtain rfl:=hy b rfl;have T3:=(S2.below hb3).tab;have HB3:=Lib.hid (HB2.out.trans (hb3.mono HB2.out.size));clear hb3 hy S2;go_wp2_with fail;refine (HTx.out _ T3).mono ?_;rintro e w4 ⟨rfl,hb4⟩;have HB4:=Lib.hid (HB3.out.trans (hb4.mono HB3.out.size));clear hb4;go_wp2_with fail
     go_ret3
     exact ⟨rfl,HB4.out⟩
    ·have e1':(te !=0)=true:=by simpa using e1
     clear e1;go_enter Tryz.func251,Tryz.ntmps251;go_wp2_with fail;refine (HCP.out _).mono ?_;rintro e w1 ⟨rfl,rfl⟩;go_wp2_with fail;refine (HC.out _).mono ?_;rintro e w1 ⟨rfl,n1,rfl⟩;go_wp2_with fail;refine (HA.out _).mono ?_;rintro e w2 ⟨rfl,hb2⟩;have S2:=(S.drewN n1).below hb2;have HB2:Hid (Below w1.heap.size w1 w2):=(below_drewN (Below.refl _ _) n1).trans hb2;clear hb2;go_wp2_with fail;refine (HPB.out _ S2).mono ?_;rintro e w3 ⟨⟨y,rfl,hy⟩,hb3⟩;obtain rfl:=hy b rfl;have T3:=(S2.below hb3).tab;have HB3:=Lib.hid (HB2.out.trans (hb3.mono HB2.out.size));clear hb3 hy S2;go_wp2_with fail;refine (HTx.out _ T3).mono ?_;rintro e w4 ⟨rfl,hb4⟩;have HB4:=Lib.hid (HB3.out.trans (hb4.mono HB3.out.size));clear hb4;go_wp2_with fail
     go_ret3
     exact ⟨rfl,HB4.out⟩
    ·obtain rfl:te=0:=e1;have e2':(t.toList==s.toList)=false:=by rw [qo9];exact decide_eq_false e2
     clear e2;go_enter Tryz.func251,Tryz.ntmps251;go_wp2_with fail;refine (HCP.out _).mono ?_;rintro e w1 ⟨rfl,rfl⟩;go_wp2_with fail;refine (HC.out _).mono ?_;rintro e w1 ⟨rfl,n1,rfl⟩;go_wp2_with fail;refine (HA.out _).mono ?_;rintro e w2 ⟨rfl,hb2⟩;have S2:=(S.drewN n1).below hb2;have HB2:Hid (Below w1.heap.size w1 w2):=(below_drewN (Below.refl _ _) n1).trans hb2;clear hb2;go_wp2_with fail;refine (HPB.out _ S2).mono ?_;rintro e w3 ⟨⟨y,rfl,hy⟩,hb3⟩;obtain rfl:=hy b rfl;have T3:=(S2.below hb3).tab;have HB3:=Lib.hid (HB2.out.trans (hb3.mono HB2.out.size));clear hb3 hy S2;go_wp2_with fail;refine (HTx.out _ T3).mono ?_;rintro e w4 ⟨rfl,hb4⟩;have HB4:=Lib.hid (HB3.out.trans (hb4.mono HB3.out.size));clear hb4;go_wp2_with fail
     go_ret3
     exact ⟨rfl,HB4.out⟩
   |true=>
    rw [if_pos rfl]at hpo;have hng:=fun W=>qpV a b W ab1 ab2 (by omega) (by omega);generalize negV a b=nn at hpo hng;obtain ⟨a',b'⟩:=nn;have HNg:=Lib.hid hng;have ht:=HT a' b' hpo;have HTx:=Lib.hid fun W T=>qs0 a' b' W T;clear HT hpo hng;generalize qe8 a' b'=tt at ht HTx;obtain ⟨t,te⟩:=tt;rcases ht with ⟨e1,rfl⟩|⟨e1,rfl⟩|⟨e1,e2,rfl⟩
    ·obtain ⟨rfl,rfl⟩:=Prod.mk.inj e1;go_enter Tryz.func251,Tryz.ntmps251;go_wp2_with fail;refine (HCP.out _).mono ?_;rintro e w1 ⟨rfl,rfl⟩;go_wp2_with fail;refine (HC.out _).mono ?_;rintro e w1 ⟨rfl,n1,rfl⟩;go_wp2_with fail;refine (HA.out _).mono ?_;rintro e w2 ⟨rfl,hb2⟩;have S2:=(S.drewN n1).below hb2;have HB2:Hid (Below w1.heap.size w1 w2):=(below_drewN (Below.refl _ _) n1).trans hb2;clear hb2;go_wp2_with fail;refine (HPB.out _ S2).mono ?_;rintro e w3 ⟨⟨y,rfl,hy⟩,hb3⟩;obtain rfl:=hy b rfl;have T3:=(S2.below hb3).tab;have HB3:=Lib.hid (HB2.out.trans (hb3.mono HB2.out.size));clear hb3 hy S2;go_wp2_with fail;refine (HNg.out _).mono ?_;rintro e w' ⟨rfl,rfl⟩;go_wp2_with fail;refine (HTx.out _ T3).mono ?_;rintro e w4 ⟨rfl,hb4⟩;have HB4:=Lib.hid (HB3.out.trans (hb4.mono HB3.out.size));clear hb4;go_wp2_with fail
     go_ret3
     exact ⟨rfl,HB4.out⟩
    ·have e1':(te !=0)=true:=by simpa using e1
     clear e1;go_enter Tryz.func251,Tryz.ntmps251;go_wp2_with fail;refine (HCP.out _).mono ?_;rintro e w1 ⟨rfl,rfl⟩;go_wp2_with fail;refine (HC.out _).mono ?_;rintro e w1 ⟨rfl,n1,rfl⟩;go_wp2_with fail;refine (HA.out _).mono ?_;rintro e w2 ⟨rfl,hb2⟩;have S2:=(S.drewN n1).below hb2;have HB2:Hid (Below w1.heap.size w1 w2):=(below_drewN (Below.refl _ _) n1).trans hb2;clear hb2;go_wp2_with fail;refine (HPB.out _ S2).mono ?_;rintro e w3 ⟨⟨y,rfl,hy⟩,hb3⟩;obtain rfl:=hy b rfl;have T3:=(S2.below hb3).tab;have HB3:=Lib.hid (HB2.out.trans (hb3.mono HB2.out.size));clear hb3 hy S2;go_wp2_with fail;refine (HNg.out _).mono ?_;rintro e w' ⟨rfl,rfl⟩;go_wp2_with fail;refine (HTx.out _ T3).mono ?_;rintro e w4 ⟨rfl,hb4⟩;have HB4:=Lib.hid (HB3.out.trans (hb4.mono HB3.out.size));clear hb4;go_wp2_with fail
     go_ret3
     exact ⟨rfl,HB4.out⟩
    ·obtain rfl:te=0:=e1;have e2':(t.toList==s.toList)=false:=by rw [qo9];exact decide_eq_false e2
     clear e2;go_enter Tryz.func251,Tryz.ntmps251;go_wp2_with fail;refine (HCP.out _).mono ?_;rintro e w1 ⟨rfl,rfl⟩;go_wp2_with fail;refine (HC.out _).mono ?_;rintro e w1 ⟨rfl,n1,rfl⟩;go_wp2_with fail;refine (HA.out _).mono ?_;rintro e w2 ⟨rfl,hb2⟩;have S2:=(S.drewN n1).below hb2;have HB2:Hid (Below w1.heap.size w1 w2):=(below_drewN (Below.refl _ _) n1).trans hb2;clear hb2;go_wp2_with fail;refine (HPB.out _ S2).mono ?_;rintro e w3 ⟨⟨y,rfl,hy⟩,hb3⟩;obtain rfl:=hy b rfl;have T3:=(S2.below hb3).tab;have HB3:=Lib.hid (HB2.out.trans (hb3.mono HB2.out.size));clear hb3 hy S2;go_wp2_with fail;refine (HNg.out _).mono ?_;rintro e w' ⟨rfl,rfl⟩;go_wp2_with fail;refine (HTx.out _ T3).mono ?_;rintro e w4 ⟨rfl,hb4⟩;have HB4:=Lib.hid (HB3.out.trans (hb4.mono HB3.out.size));clear hb4;go_wp2_with fail
     go_ret3
     exact ⟨rfl,HB4.out⟩
theorem zdL (s:ByteArray) (w:World) (S:Std w) (hs:s.size≤281474976710656):
  Calls Tryz.prog 174 #[.string s] w fun e w'=>(∃ev,e= .returned (.tuple #[.int .i64 (numV s.data.toList),ev]))∧Below w.heap.size w w':=by
 unfold numV;rcases ha:Lib.atoiAll s.data.toList with x|_|_
 ·refine (Any.strconv_Atoi_ok Tryz.laysC172 s (by omega) x ha w).mono ?_;rintro e w' ⟨rfl,hw⟩;refine ⟨⟨_,rfl⟩,?_⟩;rcases hw with rfl|⟨t,rfl⟩
  ·exact Below.refl _ _
  ·exact Lib.bytesWorld_below _ _ _
 ·obtain ⟨t,p,e⟩:=S.syn;refine (Any.strconv_Atoi_syntax Tryz.laysC172 s hs ha _ w e (.inr ⟨_,_,rfl⟩)).mono ?_;rintro e w' ⟨N,rfl,-,-,hb⟩;exact ⟨⟨_,rfl⟩,hb⟩
 ·obtain ⟨t,p,e⟩:=S.rng;refine (Any.strconv_Atoi_range Tryz.laysC172 s hs ha _ w e (.inr ⟨_,_,rfl⟩)).mono ?_;rintro e w' ⟨N,rfl,-,-,hb⟩;exact ⟨⟨_,rfl⟩,hb⟩
theorem q9E (y:EntV) (v:List UInt8):takF y (kGid,v)= {y with md:= {y.md with gid:=numV v} } :=by rw [takF,if_pos rfl]
theorem q0D (y:EntV) (v:List UInt8):takF y (qaY,v)= {y with md:= {y.md with group:=v} } :=by rw [takF,if_neg (by show¬qaY=kGid;decide),if_pos rfl]
theorem q3T (y:EntV) (v:List UInt8):takF y (qbM,v)= {y with target:=v} :=by rw [takF,if_neg (by show¬qbM=kGid;decide),if_neg (by show¬qbM=qaY;decide),if_pos rfl]
theorem q0C (y:EntV) (v:List UInt8):takF y (qaW,v)= {y with md:= {y.md with second:=(qcC v).1,nano:=(qcC v).2.1} } :=by rw [takF,if_neg (by show¬qaW=kGid;decide),if_neg (by show¬qaW=qaY;decide),if_neg (by show¬qaW=qbM;decide),if_pos rfl]
theorem q3S (y:EntV) (v:List UInt8):takF y (qbF,v)= {y with path:=v} :=by rw [takF,if_neg (by show¬qbF=kGid;decide),if_neg (by show¬qbF=qaY;decide),if_neg (by show¬qbF=qbM;decide),if_neg (by show¬qbF=qaW;decide),if_pos rfl]
theorem q9D (y:EntV) (v:List UInt8):takF y (kUid,v)= {y with md:= {y.md with uid:=numV v} } :=by rw [takF,if_neg (by show¬kUid=kGid;decide),if_neg (by show¬kUid=qaY;decide),if_neg (by show¬kUid=qbM;decide),if_neg (by show¬kUid=qaW;decide),if_neg (by show¬kUid=qbF;decide),if_pos rfl]
theorem q0A (y:EntV) (v:List UInt8):takF y (qaZ,v)= {y with md:= {y.md with user:=v} } :=by rw [takF,if_neg (by show¬qaZ=kGid;decide),if_neg (by show¬qaZ=qaY;decide),if_neg (by show¬qaZ=qbM;decide),if_neg (by show¬qaZ=qaW;decide),if_neg (by show¬qaZ=qbF;decide),if_neg (by show¬qaZ=kUid;decide),if_pos rfl]
theorem q0B (y:EntV) {k v:List UInt8} (h1:k≠kGid) (h2:k≠qaY) (h3:k≠qbM) (h4:k≠qaW) (h5:k≠qbF) (h6:k≠kUid) (h7:k≠qaZ):takF y (k,v)=y:=by rw [takF,if_neg h1,if_neg h2,if_neg h3,if_neg h4,if_neg h5,if_neg h6,if_neg h7]
theorem qxZ {K L:List UInt8} (h:K≠L):((bs K).toList==L)=false∧ ¬(bs K).toList=L:=by
 have e:(bs K).toList=K:=by rw [ByteArray.toList_eq,qaF]
 rw [e];exact ⟨beq_eq_false_iff_ne.2 h,h⟩
set_option maxHeartbeats 4000000 in
theorem q9C {w:World} {g:Nat} (y:EntV) (D:Option Addr) (c:Nat) (K V:List UInt8) (hV:V.length≤140737488351232) (S:Std w) (hB:Blk w g 73 (entC y D c).toArray):
  Calls Tryz.prog 212 #[.pointer (some ⟨g,0,none⟩),.agg #[.string (bs K),.string (bs V)]] w fun e w'=>e= .returned (.tuple #[])∧Blk w' g 73 (entC (takF y (K,V)) D c).toArray∧Below g w w':=by
 have hgl:=hB.lt;have HB0:=Lib.hid (hB.alloc (.cells #[.string (bs K),.string (bs V)] 190));have HW0:=Lib.hid ((Below.refl g w).alloc (Nat.le_of_lt hgl) (.cells #[.string (bs K),.string (bs V)] 190));have HS0:Hid (Std (w.alloc (.cells #[.string (bs K),.string (bs V)] 190))):=S.below ((Below.refl _ _).alloc (Nat.le_refl _) _);have hb2:=Blk.new w 190 #[.string (bs K),.string (bs V)];have hgs:g<(w.alloc (.cells #[.string (bs K),.string (bs V)] 190)).heap.size:=by rw [hszA];omega
 have HAt:=Lib.hid fun W SW=>zdL (bs V) W SW (by rw [qaC];omega);have HPa:=Lib.hid fun W SW=>qq3 (bs V) W SW (by rw [qaC];exact hV);rw [qaF]at HAt HPa;have HG:=Lib.hid hgs;have HBw:=Lib.hid hB;clear S hB hV hgs
 by_cases h1:K=kGid
 ·subst h1;rw [q9E];rw [show bs kGid=⟨#[103,105,100]⟩from rfl]at HB0 HW0 HS0 hb2 HG⊢;obtain ⟨path,kind,target,⟨m0,m1,m2,m3,m4,m5,m6⟩,data⟩:=y;unfold entC at HB0⊢;simp only at HB0⊢;generalize bs V=VS at HB0 HW0 HS0 hb2 HAt HPa HG⊢;generalize numV V=nv at HAt⊢;obtain ⟨⟨c0,c1⟩,-⟩:=blk2 hb2;go_enter Tryz.func212,Tryz.ntmps212;go_wp2_with fail;refine (HAt.out _ HS0.out).mono ?_;rintro e w2 ⟨⟨ev,rfl⟩,hb⟩;have hB2:=HB0.out.below hb HG.out;have HN:=Lib.hid (hB2.set_ 5 (.int .i64 nv));have HB2:=Lib.hid ((HW0.out.trans (hb.mono (Nat.le_of_lt HG.out))).setCell (p:=⟨g,5,none⟩) (Nat.le_refl _) (.int .i64 nv));obtain ⟨⟨q0,q1,q2,q3,q4,q5,q6,q7,q8,q9,qA⟩,f0,f1,f2,f3,f4,f5,f6,f7,f8,f9,fA⟩:=qaP hB2;clear hb hB2;go_wp2_with fail
  go_end0
  exact ⟨rfl,HN.out,HB2.out⟩
 by_cases h2:K=qaY
 ·subst h2;have hV:bs V=bs V:=rfl;rw [q0D];rw [show bs qaY=⟨#[103,110,97,109,101]⟩from rfl]at HB0 HW0 HS0 hb2 HG⊢;have HN:=Lib.hid ((HBw.out.set_ 7 (.string (bs V))).alloc (.cells #[.string ⟨#[103,110,97,109,101]⟩,.string (bs V)] 190));have hB2:=(Below.refl g w).setCell (p:=⟨g,7,none⟩) (Nat.le_refl _) (.string (bs V));have HB2:=Lib.hid (hB2.alloc (Nat.le_trans (Nat.le_of_lt hgl) hB2.size) (.cells #[.string ⟨#[103,110,97,109,101]⟩,.string (bs V)] 190));clear hB2;obtain ⟨path,kind,target,⟨m0,m1,m2,m3,m4,m5,m6⟩,data⟩:=y;unfold entC at HB0 HN⊢;simp only at HB0 HN⊢;obtain ⟨⟨c0,c1⟩,-⟩:=blk2 hb2;obtain ⟨⟨q0,q1,q2,q3,q4,q5,q6,q7,q8,q9,qA⟩,f0,f1,f2,f3,f4,f5,f6,f7,f8,f9,fA⟩:=qaP HB0.out;clear hb2 hV HAt HPa HS0 HBw;generalize bs V=VS at*;go_enter Tryz.func212,Tryz.ntmps212;go_wp2_with fail
  go_end0
  exact ⟨rfl,HN.out,HB2.out⟩
 by_cases h3:K=qbM
 ·subst h3;have hV:bs V=bs V:=rfl;rw [q3T];rw [show bs qbM=⟨#[108,105,110,107,112,97,116,104]⟩from rfl]at HB0 HW0 HS0 hb2 HG⊢;have HN:=Lib.hid ((HBw.out.set_ 2 (.string (bs V))).alloc (.cells #[.string ⟨#[108,105,110,107,112,97,116,104]⟩,.string (bs V)] 190));have hB2:=(Below.refl g w).setCell (p:=⟨g,2,none⟩) (Nat.le_refl _) (.string (bs V));have HB2:=Lib.hid (hB2.alloc (Nat.le_trans (Nat.le_of_lt hgl) hB2.size) (.cells #[.string ⟨#[108,105,110,107,112,97,116,104]⟩,.string (bs V)] 190));clear hB2;obtain ⟨path,kind,target,⟨m0,m1,m2,m3,m4,m5,m6⟩,data⟩:=y;unfold entC at HB0 HN⊢;simp only at HB0 HN⊢;obtain ⟨⟨c0,c1⟩,-⟩:=blk2 hb2;obtain ⟨⟨q0,q1,q2,q3,q4,q5,q6,q7,q8,q9,qA⟩,f0,f1,f2,f3,f4,f5,f6,f7,f8,f9,fA⟩:=qaP HB0.out;clear hb2 hV HAt HPa HS0 HBw;generalize bs V=VS at*;go_enter Tryz.func212,Tryz.ntmps212;go_wp2_with fail
  go_end0
  exact ⟨rfl,HN.out,HB2.out⟩
 by_cases h4:K=qaW
 ·subst h4;rw [q0C];rw [show bs qaW=⟨#[109,116,105,109,101]⟩from rfl]at HB0 HW0 HS0 hb2 HG⊢;obtain ⟨path,kind,target,⟨m0,m1,m2,m3,m4,m5,m6⟩,data⟩:=y;unfold entC at HB0⊢;simp only at HB0⊢;generalize bs V=VS at HB0 HW0 HS0 hb2 HAt HPa HG⊢;generalize (qcC V).1=nv at HPa⊢;generalize (qcC V).2.1=nw at HPa⊢;generalize (qcC V).2.2=nx at HPa;obtain ⟨⟨c0,c1⟩,-⟩:=blk2 hb2;go_enter Tryz.func212,Tryz.ntmps212;go_wp2_with fail;refine (HPa.out _ HS0.out).mono ?_;rintro e w2 ⟨rfl,hb⟩;have hB2:=HB0.out.below hb HG.out;have HN:=Lib.hid ((hB2.set_ 8 (.int .i64 nv)).set_ 9 (.int .i64 nw));have HB2:=Lib.hid (((HW0.out.trans (hb.mono (Nat.le_of_lt HG.out))).setCell (p:=⟨g,8,none⟩) (Nat.le_refl _) (.int .i64 nv)).setCell (p:=⟨g,9,none⟩) (Nat.le_refl _) (.int .i64 nw));obtain ⟨⟨q0,q1,q2,q3,q4,q5,q6,q7,q8,q9,qA⟩,f0,f1,f2,f3,f4,f5,f6,f7,f8,f9,fA⟩:=qaP hB2;clear hb hB2;go_wp2_with fail
  go_end0
  exact ⟨rfl,HN.out,HB2.out⟩
 by_cases h5:K=qbF
 ·subst h5;have hV:bs V=bs V:=rfl;rw [q3S];rw [show bs qbF=⟨#[112,97,116,104]⟩from rfl]at HB0 HW0 HS0 hb2 HG⊢;have HN:=Lib.hid ((HBw.out.set_ 0 (.string (bs V))).alloc (.cells #[.string ⟨#[112,97,116,104]⟩,.string (bs V)] 190));have hB2:=(Below.refl g w).setCell (p:=⟨g,0,none⟩) (Nat.le_refl _) (.string (bs V));have HB2:=Lib.hid (hB2.alloc (Nat.le_trans (Nat.le_of_lt hgl) hB2.size) (.cells #[.string ⟨#[112,97,116,104]⟩,.string (bs V)] 190));clear hB2;obtain ⟨path,kind,target,⟨m0,m1,m2,m3,m4,m5,m6⟩,data⟩:=y;unfold entC at HB0 HN⊢;simp only at HB0 HN⊢;obtain ⟨⟨c0,c1⟩,-⟩:=blk2 hb2;obtain ⟨⟨q0,q1,q2,q3,q4,q5,q6,q7,q8,q9,qA⟩,f0,f1,f2,f3,f4,f5,f6,f7,f8,f9,fA⟩:=qaP HB0.out;clear hb2 hV HAt HPa HS0 HBw;generalize bs V=VS at*;go_enter Tryz.func212,Tryz.ntmps212;go_wp2_with fail
  go_end0
  exact ⟨rfl,HN.out,HB2.out⟩
 by_cases h6:K=kUid
 ·subst h6;rw [q9D];rw [show bs kUid=⟨#[117,105,100]⟩from rfl]at HB0 HW0 HS0 hb2 HG⊢;obtain ⟨path,kind,target,⟨m0,m1,m2,m3,m4,m5,m6⟩,data⟩:=y;unfold entC at HB0⊢;simp only at HB0⊢;generalize bs V=VS at HB0 HW0 HS0 hb2 HAt HPa HG⊢;generalize numV V=nv at HAt⊢;obtain ⟨⟨c0,c1⟩,-⟩:=blk2 hb2;go_enter Tryz.func212,Tryz.ntmps212;go_wp2_with fail;refine (HAt.out _ HS0.out).mono ?_;rintro e w2 ⟨⟨ev,rfl⟩,hb⟩;have hB2:=HB0.out.below hb HG.out;have HN:=Lib.hid (hB2.set_ 4 (.int .i64 nv));have HB2:=Lib.hid ((HW0.out.trans (hb.mono (Nat.le_of_lt HG.out))).setCell (p:=⟨g,4,none⟩) (Nat.le_refl _) (.int .i64 nv));obtain ⟨⟨q0,q1,q2,q3,q4,q5,q6,q7,q8,q9,qA⟩,f0,f1,f2,f3,f4,f5,f6,f7,f8,f9,fA⟩:=qaP hB2;clear hb hB2;go_wp2_with fail
  go_end0
  exact ⟨rfl,HN.out,HB2.out⟩
 by_cases h7:K=qaZ
 ·subst h7;have hV:bs V=bs V:=rfl;rw [q0A];rw [show bs qaZ=⟨#[117,110,97,109,101]⟩from rfl]at HB0 HW0 HS0 hb2 HG⊢;have HN:=Lib.hid ((HBw.out.set_ 6 (.string (bs V))).alloc (.cells #[.string ⟨#[117,110,97,109,101]⟩,.string (bs V)] 190));have hB2:=(Below.refl g w).setCell (p:=⟨g,6,none⟩) (Nat.le_refl _) (.string (bs V));have HB2:=Lib.hid (hB2.alloc (Nat.le_trans (Nat.le_of_lt hgl) hB2.size) (.cells #[.string ⟨#[117,110,97,109,101]⟩,.string (bs V)] 190));clear hB2;obtain ⟨path,kind,target,⟨m0,m1,m2,m3,m4,m5,m6⟩,data⟩:=y;unfold entC at HB0 HN⊢;simp only at HB0 HN⊢;obtain ⟨⟨c0,c1⟩,-⟩:=blk2 hb2;obtain ⟨⟨q0,q1,q2,q3,q4,q5,q6,q7,q8,q9,qA⟩,f0,f1,f2,f3,f4,f5,f6,f7,f8,f9,fA⟩:=qaP HB0.out;clear hb2 hV HAt HPa HS0 HBw;generalize bs V=VS at*;go_enter Tryz.func212,Tryz.ntmps212;go_wp2_with fail
  go_end0
  exact ⟨rfl,HN.out,HB2.out⟩
 rw [q0B y h1 h2 h3 h4 h5 h6 h7];obtain ⟨d1,e1⟩:=qxZ h1;obtain ⟨d2,e2⟩:=qxZ h2;obtain ⟨d3,e3⟩:=qxZ h3;obtain ⟨d4,e4⟩:=qxZ h4;obtain ⟨d5,e5⟩:=qxZ h5;obtain ⟨d6,e6⟩:=qxZ h6;obtain ⟨d7,e7⟩:=qxZ h7;unfold kGid at d1 e1;unfold qaY at d2 e2;unfold qbM at d3 e3;unfold qaW at d4 e4;unfold qbF at d5 e5;unfold kUid at d6 e6;unfold qaZ at d7 e7;obtain ⟨⟨c0,c1⟩,-⟩:=blk2 hb2;clear hb2 h1 h2 h3 h4 h5 h6 h7 HAt HPa HS0;generalize bs K=KS at*;generalize bs V=VS at*;generalize (entC y D c).toArray=EC at*;go_enter Tryz.func212,Tryz.ntmps212;go_wp2_with fail
 go_end0
 exact ⟨rfl,HB0.out,HW0.out⟩
end Go.Proofs.YtapgoifimhnbdaaGreatDoor
