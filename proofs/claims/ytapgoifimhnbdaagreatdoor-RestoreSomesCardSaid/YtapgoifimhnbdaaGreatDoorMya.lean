/- qaV of one kind, in one file: MemYA, MrO, MemYB. -/
import Derived.Test.YtapgoifimhnbdaaGreatDoorMcv
import Derived.Test.YtapgoifimhnbdaaGreatDoorMwt
import Derived.Test.YtapgoifimhnbdaaGreatDoorMxp
set_option linter.unusedVariables false
set_option maxRecDepth 100000
namespace Go.Proofs.YtapgoifimhnbdaaGreatDoor
open Go.RowKit
open Go.OpenShut
theorem qkR (A A':Option Addr) (n c n' c':Nat) (l l':List UInt8) (hn:l.length=n) (hn':l'.length=n') (w:World) (hA:qaE w A l) (hA':qaE w A' l'):
  Calls Tryz.prog 113 #[.slice A n c,.slice A' n' c'] w fun e w'=>e= .returned (.bool (l==l'))∧w=w':=by
 have h1:=hA.conv c (fun e=>by subst e;exact hA.none_nil);have h2:=hA'.conv c' (fun e=>by subst e;exact hA'.none_nil);rw [hn]at h1;rw [hn']at h2;have e1:(bs l).toList=l:=by rw [ByteArray.toList_eq];rfl
 have e2:(bs l').toList=l':=by rw [ByteArray.toList_eq];rfl
 obtain ⟨S,hS⟩:=qaA (bs l);obtain ⟨S',hS'⟩:=qaA (bs l');rw [hS.out]at h1 e1;rw [hS'.out]at h2 e2;have E1:=Lib.hid e1;have E2:=Lib.hid e2;clear hA hA' hn hn' e1 e2;go_enter Tryz.func113,Tryz.ntmps113;go_wp2_with fail;go_ret;exact ⟨qa7 (by rw [E1.out,E2.out]),rfl⟩
theorem q6U {W:World} {g g' t:Nat} {cs:Array Value} (h:Blk W g t cs) (hne:g≠g') (v0 v1 v2 v3 v4 v5 v6 v7 v8 v9 v10:Value):Blk (((((((((((W.setCell ⟨g',0,none⟩ v0).setCell ⟨g',1,none⟩ v1).setCell ⟨g',2,none⟩ v2).setCell ⟨g',3,none⟩ v3).setCell ⟨g',4,none⟩ v4).setCell ⟨g',5,none⟩ v5).setCell ⟨g',6,none⟩ v6).setCell ⟨g',7,none⟩ v7).setCell ⟨g',8,none⟩ v8).setCell ⟨g',9,none⟩ v9).setCell ⟨g',10,none⟩ v10) g t cs:=
 ((((((((((h.far (p:=⟨g',0,none⟩) hne v0).far (p:=⟨g',1,none⟩) hne v1).far (p:=⟨g',2,none⟩) hne v2).far (p:=⟨g',3,none⟩) hne v3).far (p:=⟨g',4,none⟩) hne v4).far (p:=⟨g',5,none⟩) hne v5).far (p:=⟨g',6,none⟩) hne v6).far (p:=⟨g',7,none⟩) hne v7).far (p:=⟨g',8,none⟩) hne v8).far (p:=⟨g',9,none⟩) hne v9).far (p:=⟨g',10,none⟩) hne v10
theorem qyT {B g:Nat} {W:World} {v:Value} {n:Nat} {l:List Rc} (h:Own W B v n l) (hg:g<B) (v0 v1 v2 v3 v4 v5 v6 v7 v8 v9 v10:Value):Own (((((((((((W.setCell ⟨g,0,none⟩ v0).setCell ⟨g,1,none⟩ v1).setCell ⟨g,2,none⟩ v2).setCell ⟨g,3,none⟩ v3).setCell ⟨g,4,none⟩ v4).setCell ⟨g,5,none⟩ v5).setCell ⟨g,6,none⟩ v6).setCell ⟨g,7,none⟩ v7).setCell ⟨g,8,none⟩ v8).setCell ⟨g,9,none⟩ v9).setCell ⟨g,10,none⟩ v10) B v n l:=
 ⟨h.1,ownsRow_setCell_below (ownsRow_setCell_below (ownsRow_setCell_below (ownsRow_setCell_below (ownsRow_setCell_below (ownsRow_setCell_below (ownsRow_setCell_below (ownsRow_setCell_below (ownsRow_setCell_below (ownsRow_setCell_below (ownsRow_setCell_below h.2 (a:=⟨g,0,none⟩) hg v0) (a:=⟨g,1,none⟩) hg v1) (a:=⟨g,2,none⟩) hg v2) (a:=⟨g,3,none⟩) hg v3) (a:=⟨g,4,none⟩) hg v4) (a:=⟨g,5,none⟩) hg v5) (a:=⟨g,6,none⟩) hg v6) (a:=⟨g,7,none⟩) hg v7) (a:=⟨g,8,none⟩) hg v8) (a:=⟨g,9,none⟩) hg v9) (a:=⟨g,10,none⟩) hg v10⟩
theorem qwS {W:World} {B n c:Nat} {D:Option Addr} {l:List UInt8} (h:OwnB W B (.slice D n c) l):qaE W D l:=by
 obtain ⟨A,c',e,-,hA⟩:=h.form;injection e with e1 _ _
 subst e1;exact hA
theorem qg2 {o:Option (List UInt8)} {z:List UInt8} {b:Nat} (h: ∀v,o=some v→v.length≤b) (hz:z.length≤b):(o.getD z).length≤b:=by
 cases o with
 |none=>exact hz
 |some v=>exact h v rfl
theorem q6G (p n:List UInt8):(qcP p n).length≤p.length+n.length+1:=by
 unfold qcP
 split
 ·omega
 ·simp only [List.length_append,List.length_cons,List.length_nil];omega
theorem q1Z (p n:List UInt8):(oneV p n).1.length≤p.length+n.length+1:=by
 unfold oneV
 split
 ·simp
 ·split
  ·exact q6G p n
  ·simp
theorem qn6 {h:HeadV} {rs:List Rc} {d:List UInt8} (hs:qnT h) (hn:(qb6 rs).Nodup) (hv: ∀r∈rs,r.2.length≤500) (hd:d.length≤140737488351232):(rs.foldl takF (qeY h d)).sz:=by
 have H:=qvZ (qeY h d) rs hn;have hk: ∀K v,look K rs=some v→v.length≤140737488351232:=fun K v e=>Nat.le_trans (hv _ ((qeP hn).1 e)) (by decide);obtain ⟨s1,s2,s3,s4,s5⟩:=hs;have h1:=q1Z h.pre h.name;refine ⟨⟨?_,?_,?_⟩,?_,?_⟩
 ·rw [H.path];exact qg2 (hk _) (by show (oneV h.pre h.name).1.length≤_;omega)
 ·rw [H.target];exact qg2 (hk _) (by show h.link.length≤_;omega)
 ·rw [H.data];exact hd
 ·rw [H.user];exact qg2 (hk _) (by show h.user.length≤_;omega)
 ·rw [H.group];exact qg2 (hk _) (by show h.group.length≤_;omega)
theorem qc0 (b:List UInt8):(∀r∈(paxR b).1,r.2.length≤500)∧(paxR b).1.length≤1000000:=by
 by_cases h1:(qbV b).2=0
 ·by_cases h2:chkP (qbV b).1=0
  ·rw [qj1 (x:=(qbV b).1) (by rw [←h1]) h2];obtain ⟨a,-,c⟩:=qdY h2;exact ⟨fun r hr=>(qeW (c r hr)).2.2.1,Nat.le_trans a (by decide)⟩
  ·rw [qi2 (x:=(qbV b).1) (by rw [←h1]) h2];exact ⟨fun r hr=>(by cases hr),by simp⟩
 ·have:paxR b=([],(qbV b).2):=by unfold paxR;rw [if_pos h1]
  rw [this];exact ⟨fun r hr=>(by cases hr),by simp⟩
end Go.Proofs.YtapgoifimhnbdaaGreatDoor
namespace Go.Proofs.YtapgoifimhnbdaaGreatDoor
open Go.RowKit
theorem qq6 {w X:World} {l:List UInt8} {y:EntV} {N c:Nat} {D:Option Addr} {cs:Array Value} (HF:qaI l=((y,N),0)) (hv:(entC y D c).toArray=cs) (hs:SlOk D y.data.length c) (hO:OwnB X w.heap.size (.slice D y.data.length c) y.data) (hb:Below w.heap.size w X):
  ∃D' cc,Ending.returned (.tuple #[.agg cs,.int .i64 (N:Int),.int .i64 0])= .returned (.tuple #[.agg (entC (qaI l).1.1 D' cc).toArray,.int .i64 ((qaI l).1.2:Nat),.int .i64 (qaI l).2])∧SlOk D' (qaI l).1.1.data.length cc∧qaE X D' (qaI l).1.1.data∧OwnB X w.heap.size (.slice D' (qaI l).1.1.data.length cc) (qaI l).1.1.data∧Below w.heap.size w X:=by
 rw [HF];subst hv;exact ⟨D,c,rfl,hs,qwS hO,hO,hb⟩
theorem qf6 {w X:World} {l:List UInt8} {E:Int} (HF:qaI l=((entZ,0),E)) (hb:Below w.heap.size w X):
  ∃D' cc,Ending.returned (.tuple #[.agg #[.string ⟨#[]⟩,.int .i64 0,.string ⟨#[]⟩,.int .i64 0,.int .i64 0,.int .i64 0,.string ⟨#[]⟩,.string ⟨#[]⟩,.int .i64 0,.int .i64 0,.slice none 0 0],.int .i64 0,.int .i64 E])= .returned (.tuple #[.agg (entC (qaI l).1.1 D' cc).toArray,.int .i64 ((qaI l).1.2:Nat),.int .i64 (qaI l).2])∧SlOk D' (qaI l).1.1.data.length cc∧qaE X D' (qaI l).1.1.data∧OwnB X w.heap.size (.slice D' (qaI l).1.1.data.length cc) (qaI l).1.1.data∧Below w.heap.size w X:=by
 rw [HF];exact ⟨none,0,rfl,⟨Nat.le_refl _,by decide,fun _=>rfl⟩,fun j hj=>(by cases hj),OwnB.nil _ _,hb⟩
end Go.Proofs.YtapgoifimhnbdaaGreatDoor
namespace Go.Proofs.YtapgoifimhnbdaaGreatDoor
open Go.RowKit
open Go.OpenShut
set_option maxHeartbeats 4000000 in
theorem mRead_1 (A:Option Addr) (n c:Nat) (l:List UInt8) (hn:l.length=n) (hn2:n≤281474976000000) (hc:SlOk A n c) (w:World) (S:Std w) (hA:qaE w A l) (h1:(qaC l).2≠0):
  Calls Tryz.prog 116 #[.slice A n c] w fun e w'=> ∃D cc,e= .returned (.tuple #[.agg (entC (qaI l).1.1 D cc).toArray,.int .i64 ((qaI l).1.2:Nat),.int .i64 (qaI l).2])∧SlOk D (qaI l).1.1.data.length cc∧qaE w' D (qaI l).1.1.data∧OwnB w' w.heap.size (.slice D (qaI l).1.1.data.length cc) (qaI l).1.1.data∧Below w.heap.size w w':=by
 have HF:Hid (qaI l=((entZ,0),(qaC l).2)):=by unfold Hid;rw [qfR (by rw [qfT h1];exact h1),qfT h1]
 have HD1:=Lib.hid fun W h=>qdG A n c l hn hn2 hc W h;have HSm:=Lib.hid (qbI l);generalize hFM:qaC l=FM at*;obtain ⟨⟨⟨n0,n1,n2,n3,n4,n5,n6,n7,n8,n9,nA⟩,D1,N1⟩,E1⟩:=FM;simp only at HD1 HSm;unfold qaG at HD1;simp only at HD1;simp only at h1 HF;have hne:(E1 !=0)=true:=by simpa using h1
 clear h1 hFM;have hZ0:=Blk.new w 73 #[.string ⟨#[]⟩,.int .i64 0,.string ⟨#[]⟩,.int .i64 0,.int .i64 0,.int .i64 0,.string ⟨#[]⟩,.string ⟨#[]⟩,.int .i64 0,.int .i64 0,.slice none 0 0];have hB0:=(Below.refl w.heap.size w).alloc (Nat.le_refl _) (.cells #[.string ⟨#[]⟩,.int .i64 0,.string ⟨#[]⟩,.int .i64 0,.int .i64 0,.int .i64 0,.string ⟨#[]⟩,.string ⟨#[]⟩,.int .i64 0,.int .i64 0,.slice none 0 0] 73);have HZ0:=Lib.hid hZ0;have HB0:=Lib.hid hB0;have HA:=Lib.hid hA;clear hZ0 hB0 hA;go_enter Tryz.func116,Tryz.ntmps116;go_wp2_with fail;refine (HD1.out _ (HA.out.below HB0.out)).mono ?_;rintro e x1 ⟨v1,rfl,ho1,hb1⟩;obtain ⟨A1,c1,rfl,hs1,ha1⟩:=ho1.form;have hB1:=HB0.out.trans (hb1.mono HB0.out.size);have hB2:=hB1.alloc hB1.size (.cells #[.string (bs n0),.string (bs n1),.string (bs n2),.int .i64 n3,.int .i64 n4,.int .i64 n5,.int .i64 n6,.int .i64 n7,.int .u8 (n8.toNat:Int),.string (bs n9),.string (bs nA)] 152);have hZ2:=(HZ0.out.below hb1 HZ0.out.lt).alloc (.cells #[.string (bs n0),.string (bs n1),.string (bs n2),.int .i64 n3,.int .i64 n4,.int .i64 n5,.int .i64 n6,.int .i64 n7,.int .u8 (n8.toNat:Int),.string (bs n9),.string (bs nA)] 152);have hH2:=Blk.new x1 152 #[.string (bs n0),.string (bs n1),.string (bs n2),.int .i64 n3,.int .i64 n4,.int .i64 n5,.int .i64 n6,.int .i64 n7,.int .u8 (n8.toNat:Int),.string (bs n9),.string (bs nA)]
 have hO2:=ho1.alloc (.cells #[.string (bs n0),.string (bs n1),.string (bs n2),.int .i64 n3,.int .i64 n4,.int .i64 n5,.int .i64 n6,.int .i64 n7,.int .u8 (n8.toNat:Int),.string (bs n9),.string (bs nA)] 152);have hA2:=ha1.below ((Below.refl x1.heap.size x1).alloc (Nat.le_refl _) (.cells #[.string (bs n0),.string (bs n1),.string (bs n2),.int .i64 n3,.int .i64 n4,.int .i64 n5,.int .i64 n6,.int .i64 n7,.int .u8 (n8.toNat:Int),.string (bs n9),.string (bs nA)] 152));have hne2:w.heap.size<x1.heap.size:=(HZ0.out.below hb1 HZ0.out.lt).lt;go_upto_region 2 with fail
 generalize x1.alloc (.cells #[.string (bs n0),.string (bs n1),.string (bs n2),.int .i64 n3,.int .i64 n4,.int .i64 n5,.int .i64 n6,.int .i64 n7,.int .u8 (n8.toNat:Int),.string (bs n9),.string (bs nA)] 152)=x2 at hB2 hZ2 hH2 hO2 hA2⊢;generalize x1.heap.size=gH at hH2 hne2⊢;have HB2:=Lib.hid hB2;have HZ2:=Lib.hid hZ2;have HH2:=Lib.hid hH2;have HO2:=Lib.hid hO2;have HA2:=Lib.hid hA2;have HSO:=Lib.hid hs1;clear hA2 hs1 hb1 ho1 ha1 hB1 hB2 hZ2 hH2 hO2 HD1;obtain ⟨⟨z0,z1,z2,z3,z4,z5,z6,z7,z8,z9,zA⟩,y0,y1,y2,y3,y4,y5,y6,y7,y8,y9,yA⟩:=qaF (HZ2.out);go_wp2_with fail;refine bodyPost_ret (v:= .tuple #[.agg #[.string ⟨#[]⟩,.int .i64 0,.string ⟨#[]⟩,.int .i64 0,.int .i64 0,.int .i64 0,.string ⟨#[]⟩,.string ⟨#[]⟩,.int .i64 0,.int .i64 0,.slice none 0 0],.int .i64 0,.int .i64 E1]) (by simp [results,Tryz.results116,go_sem, *]) rfl ?_;rw [HF.out];exact ⟨none,0,rfl,⟨Nat.le_refl _,by decide,fun _=>rfl⟩,fun j hj=>(by cases hj),OwnB.nil _ _,qaL HB2.out (Nat.le_refl _) _ _ _ _ _ _ _ _ _ _ _⟩
end Go.Proofs.YtapgoifimhnbdaaGreatDoor
