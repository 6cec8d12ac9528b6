/- qaX of one kind, in one file: TrgG, TrgH, TrgI, TrgK, TrgL, TrgP, TrgQ, TrgR. -/
import Derived.Test.YtapgoifimhnbdaaGreatDoorTrb
import Derived.Test.YtapgoifimhnbdaaGreatDoorTra
import Derived.Deep.DeepCutAuto
import Derived.Lib.AppendZeros
import Derived.Deep.RegionHeld3
import Derived.Lib.SliceRun
import Derived.Deep.Upon
import Derived.Test.YtapgoifimhnbdaaGreatDoorTreE
import Derived.Test.YtapgoifimhnbdaaGreatDoorMth
import Derived.Test.YtapgoifimhnbdaaGreatDoorNod
import Derived.Lib.SmallJoins
import Derived.Deep.RegionWith
set_option linter.unusedVariables false
set_option maxRecDepth 100000
namespace Go.Proofs.YtapgoifimhnbdaaGreatDoor
open Go.RowKit
open Go.OpenShut
theorem zaM (x:NodeV) (D:Option Addr) (c:Nat) (s:ByteArray) (hx:x.path.length≤400) (hs:s.size≤maxLen) (w:World):
  Calls Tryz.prog 123 #[.agg (nodC x D c).toArray,.string s] w fun e w'=>e= .returned (.int .i64 (pcmp x.path s.data.toList))∧Below w.heap.size w w':=by
 have HC:=Lib.hid fun W=>(qiR (bs x.path) s W (by rw [qaC];unfold maxLen;omega) hs);rw [qaF]at HC;generalize pcmp x.path s.data.toList=r at*;obtain ⟨path,kind,same,target,⟨m0,m1,m2,m3,m4,m5,m6⟩,data⟩:=x;unfold nodC;simp only at HC⊢;obtain ⟨P,hP⟩:=qaA (bs path);rw [hP.out]at HC⊢;clear hP hs hx;have HW:=Lib.hid fun o=>qaL (Below.refl w.heap.size w) o;go_enter Tryz.func123,Tryz.ntmps123;go_wp2_with fail;refine (HC.out _).mono ?_;rintro e w1 ⟨rfl,q,rfl⟩;go_wp2_with fail;go_ret;exact ⟨rfl,below_drewN (HW.out _) q⟩
def zdH (l:List NodeV) (S:List UInt8) (i:Nat):Prop:= ∀k (hk:k<l.length),k<i→pcmp l[k].path S<0
def zdI (l:List NodeV) (S:List UInt8) (j:Nat):Prop:= ∀k (hk:k<l.length),j≤k→ ¬pcmp l[k].path S<0
theorem zdH.next {l:List NodeV} (hr:qeW l) {S:List UInt8} {h:Nat} (hk:h<l.length) (hl:pcmp l[h].path S<0):zdH l S (h+1):=fun k hk2 hkh=>qpZ hr k h hk (by omega) hl
theorem zdI.next {l:List NodeV} (hr:qeW l) {S:List UInt8} {h:Nat} (hk:h<l.length) (hl: ¬pcmp l[h].path S<0):zdI l S h:=fun k hk2 hkh=>qw5 hr h k hk2 hkh hl
set_option maxHeartbeats 4000000 in
theorem qx7 (A:Option Addr) (n c:Nat) (l:List NodeV) (s:ByteArray) (hn:l.length=n) (hm:n≤1000) (hr:qeW l) (hp: ∀x∈l,x.path.length≤400) (hs:s.size≤maxLen) (w:World) (hA:qaJ w A l):
  Calls Tryz.prog 122 #[.slice A n c,.string s,.func (.func 123) #[] #[]] w fun e w'=> ∃(i:Nat) (b:Bool),e= .returned (.tuple #[.int .i64 i,.bool b])∧LowAt l s.data.toList i∧(b=if hi:i<l.length then decide (pcmp l[i].path s.data.toList=0)else false)∧Below w.heap.size w w':=by
 have ef: ∀args w,(callFunc 123 args).run Tryz.prog w= .ok (.enter 123 args) w:=enters_of Tryz.func123 (by kernel_rfl) rfl;have HN:=Lib.hid hn;have HA:=Lib.hid hA;have HR:=Lib.hid hr;have HF:=Lib.hid fun x hx D c W=>zaM x D c s (hp x hx) hs W;obtain ⟨S,hS⟩:=qaA s.data.toList;rw [hS.out]at HF⊢;clear hn hA hr hp hs hS;go_enter Tryz.func122,Tryz.ntmps122;go_wp2_with fail
 go_loopw [9,10] (fun iv jv wr=> ∃i j:Nat,iv= .int .i64 i∧jv= .int .i64 j∧i≤j∧j≤n∧Hid (zdH l S i)∧Hid (zdI l S j)∧Hid (Below w.heap.size w wr)) (fun iv jv _=>(intOf jv).toNat-(intOf iv).toNat)
 case atStart=>exact ⟨0,n,rfl,rfl,Nat.zero_le _,Nat.le_refl _,fun k hk h=>by omega,fun k hk h=>by have:=HN.out;omega,Below.refl _ _⟩
 case round=>
  obtain ⟨i,j,rfl,rfl,hij,hjn,HL,HG,HB⟩:=hrel
  by_cases hlt:i<j
  ·obtain ⟨h,hh⟩: ∃h,h=(i+j) /2:=⟨_,rfl⟩;have hih:i≤h:=by omega
   have hhj:h<j:=by omega
   have hk1:h<l.length:=by rw [HN.out];omega
   have hH:((i:Int)+(j:Int)) /2=(h:Int):=by omega
   obtain ⟨b,o,D,cc,rfl,c0,c1,c2',c3,⟨c4,c5,c6,c7,c8,c9,cA⟩,cB,-,hD⟩:=(HA.out.below HB.out).cells h hk1;have HC:=Lib.hid (HF.out l[h] (List.getElem_mem hk1) D cc wr);have HL1:=Lib.hid fun hl=>zdH.next HR.out (S:=S) hk1 hl;have HG1:=Lib.hid fun hl=>zdI.next HR.out (S:=S) hk1 hl;generalize hx:l[h]=x at*;obtain ⟨q,hq⟩: ∃q,q=pcmp x.path S:=⟨_,rfl⟩;rw [←hq]at HC HL1 HG1;unfold nodC at HC;have hhn:h<n:=by omega
   clear hx hD hq hh hk1;go_upto_region 5 with fail
   try rw [hH]
   clear hH
   by_cases hq0:q<0
   ·have HL2:=Lib.hid (HL1.out hq0);clear HL1 HG1;go_wp2_with fail;refine HC.out.mono ?_;rintro e w1 ⟨rfl,hb⟩;have HB1:=Lib.hid (HB.out.trans (hb.mono HB.out.size));clear hb c0 c1 c2' c3 c4 c5 c6 c7 c8 c9 cA cB;go_wp2_with fail;go_roundw
    case rel=>exact ⟨h+1,j,by go_num,rfl,by omega,hjn,HL2,HG,HB1⟩
    case measure=>simp [intOf];omega
   ·have HG2:=Lib.hid (HG1.out hq0);clear HL1 HG1;go_wp2_with fail;refine HC.out.mono ?_;rintro e w1 ⟨rfl,hb⟩;have HB1:=Lib.hid (HB.out.trans (hb.mono HB.out.size));clear hb c0 c1 c2' c3 c4 c5 c6 c7 c8 c9 cA cB;go_wp2_with fail;go_roundw
    case rel=>exact ⟨i,h,rfl,rfl,by omega,by omega,HL,HG2,HB1⟩
    case measure=>simp [intOf];omega
  ·obtain rfl:i=j:=by omega
   have HLo:=Lib.hid (show LowAt l S i from ⟨by rw [HN.out];exact hjn,HL.out,HG.out⟩)
   by_cases hin:i<n
   ·have hk1:i<l.length:=by rw [HN.out];omega
    obtain ⟨b,o,D,cc,rfl,c0,c1,c2',c3,⟨c4,c5,c6,c7,c8,c9,cA⟩,cB,-,hD⟩:=(HA.out.below HB.out).cells i hk1;have HC:=Lib.hid (HF.out l[i] (List.getElem_mem hk1) D cc wr);have HV:Hid (decide (pcmp l[i].path S=0)=if hi:i<l.length then decide (pcmp l[i].path S=0)else false):=by unfold Hid;rw [dif_pos hk1]
    generalize hx:l[i]=x at*;obtain ⟨q,hq⟩: ∃q,q=pcmp x.path S:=⟨_,rfl⟩;rw [←hq]at HC HV;unfold nodC at HC;clear hx hD hq;go_wp2_with fail;refine HC.out.mono ?_;rintro e w1 ⟨rfl,hb⟩;have HB1:=Lib.hid (HB.out.trans (hb.mono HB.out.size));clear hb c0 c1 c2' c3 c4 c5 c6 c7 c8 c9 cA cB;go_wp2_with fail;go_ret2;exact ⟨i,_,rfl,HLo.out,HV.out,HB1.out⟩
   ·have HV:Hid (false=if hi:i<l.length then decide (pcmp l[i].path S=0)else false):=by unfold Hid;rw [dif_neg (by rw [HN.out];exact hin)]
    go_wp2_with fail;go_ret2;exact ⟨i,false,rfl,HLo.out,HV.out,HB.out⟩
theorem qdK.below {w w':World} {A:Option Addr} {ys:List NodP} (h:qdK w A ys) (hb:Below w.heap.size w w'):qdK w' A ys:=fun ad ha j u hu=>by
 have h1:=h ad ha j u hu;exact (hb.cell (World.block_lt_of_cell? w _ h1)).trans h1
set_option maxHeartbeats 1000000 in
theorem q5L (n:Nat) (hn:n≤1000000) (w:World):
  Calls Tryz.prog 178 #[.slice none 0 0,.int .i64 n] w fun e w'=> ∃v,e= .returned v∧RowN w' w.heap.size v []∧Below w.heap.size w w':=by
 obtain ⟨i0,hi,hz0,hz1,hz2⟩:=info_parts q80
 by_cases h0:n=0
 ·subst h0;go_enter Tryz.func178,Tryz.ntmps178;go_wp2_with fail;go_ret;exact ⟨_,rfl,RowN.nil _ _,Below.refl _ _⟩
 ·have hrz: ∀ty,(Builtin.append_ #[23,3] ty #[.slice none 0 0,.int .i64 n]).run Tryz.prog w= .ok (.slice (some ⟨w.heap.size,0,none⟩) n (grownCap w n 0 49)) (w.drew.alloc (.cells (Builtin.zeroCells (Value.agg qdZ).cells n++Builtin.zeroCells (Value.agg qdZ).cells (grownCap w n 0 49-n)) 49)):=
   fun ty=>Lib.run_append_nil_zeros w 23 3 ty 49 i0 _ .i64 .i64 Tryz.underlying23 Tryz.underlying3 hi hz0 n (by omega) (by omega) (by omega) (by rw [hz2];omega)
  have hG1:n≤grownCap w n 0 49:=grownCap_ge w _ _ _;have hG2:grownCap w n 0 49≤maxLen:=grownCap_le_maxLen w _ _ _ (by unfold maxLen;omega);obtain ⟨G,hG⟩:=qaA (grownCap w n 0 49);rw [hG.out]at hG1 hG2;simp only [hG.out]at hrz;obtain ⟨Z,hZ⟩:=qaA (Builtin.zeroCells (Value.agg qdZ).cells n++Builtin.zeroCells (Value.agg qdZ).cells (G-n))
  have hZs:Z.size=G*12:=by
   rw [←hZ.out,Array.size_append,size_zeroCells,size_zeroCells];show n*12+(G-n)*12=G*12;omega
  simp only [hZ.out]at hrz
  have HO:Hid (RowN (w.drew.alloc (.cells Z 49)) w.heap.size (.slice (some ⟨w.heap.size,0,none⟩) 0 G) []):=
   ⟨rfl,.inr ⟨w.heap.size,G,Z,rfl,Nat.le_refl _,heap_alloc_new w.drew _,Nat.zero_le _,hG2,hZs,rfl⟩⟩
  have HB:Hid (Below w.heap.size w (w.drew.alloc (.cells Z 49))):=((Below.refl w.heap.size w).drew).alloc (Nat.le_refl _) _;have hG63:G≤9223372036854775807:=by unfold maxLen at hG2;omega
  clear hZs hG hZ;go_enter Tryz.func178,Tryz.ntmps178;go_wp2_with (at_builtin;refine Lib.wpList_append_run _ rfl _ _ _ _ rfl _ _ rfl rfl _ _ (hrz _) ?_);go_ret;exact ⟨_,rfl,HO.out,HB.out⟩
theorem blk3 {w:World} {g t:Nat} {a0 a1 a2:Value} (h:Blk w g t #[a0,a1,a2]):w.cell? ⟨g,0,none⟩=some a0∧w.cell? ⟨g,1,none⟩=some a1∧w.cell? ⟨g,2,none⟩=some a2:=⟨h.cell 0,h.cell 1,h.cell 2⟩
set_option maxHeartbeats 4000000 in
theorem qvV (A1 A2 A3:Option Addr) (n1 n2 n3 c1 c2 c3:Nat) (ys1 ys2 ys3:List NodP) (hn1:ys1.length=n1) (hn2:ys2.length=n2) (hn3:ys3.length=n3) (hbig:n1+n2+n3≤1000) (hc1:A1=none→c1=0∧n1=0) (hc2:A2=none→c2=0∧n2=0) (hc3:A3=none→c3=0∧n3=0)
  (ho1: ∀y∈ys1,y.2.oneCell'=true) (ho2: ∀y∈ys2,y.2.oneCell'=true) (ho3: ∀y∈ys3,y.2.oneCell'=true) (g:Nat) (w:World) (hb:Blk w g 23 #[.slice A1 n1 c1,.slice A2 n2 c2,.slice A3 n3 c3]) (h1:qdK w A1 ys1) (h2:qdK w A2 ys2) (h3:qdK w A3 ys3):
  Calls Tryz.prog 124 #[.slice (some ⟨g,0,none⟩) 3 3] w fun e w'=> ∃v,e= .returned v∧RowN w' w.heap.size v (ys1++ys2++ys3)∧Below w.heap.size w w':=by
 have M1:=Lib.hid hn1;have M2:=Lib.hid hn2;have M3:=Lib.hid hn3;have H1:=Lib.hid h1;have H2:=Lib.hid h2;have H3:=Lib.hid h3;have O1:=Lib.hid hc1;have O2:=Lib.hid hc2;have O3:=Lib.hid hc3;have K1:=Lib.hid ho1;have K2:=Lib.hid ho2;have K3:=Lib.hid ho3;have HB:=Lib.hid hb;have HG:=Lib.hid fun W=>q5L (n1+n2+n3) (by omega) W;obtain ⟨x0,x1,x2⟩:=blk3 hb;have k1:n1≤1000:=by omega
 have k2:n2≤1000:=by omega
 have k3:n3≤1000:=by omega
 clear h1 h2 h3 hb hn1 hn2 hn3 hc1 hc2 hc3 ho1 ho2 ho3;go_enter Tryz.func124,Tryz.ntmps124;go_wp2_with fail
 go_loop [3,11] (fun sz i=>(i= .int .i64 0∧sz= .int .i64 0)∨(i= .int .i64 1∧sz= .int .i64 n1)∨(i= .int .i64 2∧sz= .int .i64 (n1+n2:Nat))∨(i= .int .i64 3∧sz= .int .i64 (n1+n2+n3:Nat))) (fun _ i=>3-(intOf i).toNat)
 case atStart=>exact .inl ⟨rfl,rfl⟩
 case round=>
  rcases hrel with ⟨rfl,rfl⟩|⟨rfl,rfl⟩|⟨rfl,rfl⟩|⟨rfl,rfl⟩
  ·go_wp2_with fail;go_round
   case rel=>exact .inr (.inl ⟨by go_num,by go_num⟩)
   case measure=>simp [intOf]
  ·go_wp2_with fail;go_round
   case rel=>exact .inr (.inr (.inl ⟨by go_num,by go_num⟩))
   case measure=>simp [intOf]
  ·go_wp2_with fail;go_round
   case rel=>exact .inr (.inr (.inr ⟨by go_num,by go_num⟩))
   case measure=>simp [intOf]
  ·go_wp2_with fail;refine (HG.out _).mono ?_;rintro e w1 ⟨v,rfl,hO,hb⟩;have HO0:=Lib.hid hO;have HB0:=Lib.hid hb;clear hO hb;go_wp2_with fail
   go_loopw [6,27] (fun v i wr=> ∃(l:List NodP),Hid (RowN wr w.heap.size v l)∧Hid (Below w.heap.size w wr)∧((i= .int .i64 0∧l= [])∨(i= .int .i64 1∧l=ys1)∨(i= .int .i64 2∧l=ys1++ys2)∨(i= .int .i64 3∧l=ys1++ys2++ys3))) (fun _ i _=>3-(intOf i).toNat)
   case atStart=>exact ⟨[],HO0.out,HB0.out,.inl ⟨rfl,rfl⟩⟩
   case round=>
    obtain ⟨l,HO,HW,hc⟩:=hrel;have hws:w.heap.size≤wr.heap.size:=HW.out.size;have hgl:=HB.out.lt;obtain ⟨y0,y1,y2⟩:=blk3 (HB.out.below HW.out hgl);have HA1:=Lib.hid (H1.out.below HW.out);have HA2:=Lib.hid (H2.out.below HW.out);have HA3:=Lib.hid (H3.out.below HW.out);clear x0 x1 x2;rcases hc with ⟨rfl,hl⟩|⟨rfl,hl⟩|⟨rfl,hl⟩|⟨rfl,hl⟩
    all_goals (rw [hl]at HO;clear hl)
    ·go_wp2_with (at_builtin;refine Stay.go ?_);refine Stay.on ?_;refine qcH rfl (.tmp 31) (.tmp 32) rfl w.heap.size _ _ rfl HO.out A1 n1 c1 ys1 rfl M1.out HA1.out K1.out O1.out (by simp;omega) hws ?_;intro v6 w6 ho6 hg6;have HO6:Hid (RowN w6 w.heap.size v6 (ys1)):=ho6;have HW6:Hid (Below w.heap.size w w6):=HW.out.grown hg6 hws HO.out.above;clear ho6 hg6;go_wp2_with fail;go_roundw
     case rel=>exact ⟨_,HO6.out,HW6.out,.inr (.inl ⟨by go_num,rfl⟩)⟩
     case measure=>simp [intOf]
    ·go_wp2_with (at_builtin;refine Stay.go ?_);refine Stay.on ?_;refine qcH rfl (.tmp 31) (.tmp 32) rfl w.heap.size _ _ rfl HO.out A2 n2 c2 ys2 rfl M2.out HA2.out K2.out O2.out (by rw [M1.out];omega) hws ?_;intro v6 w6 ho6 hg6;have HO6:Hid (RowN w6 w.heap.size v6 (ys1++ys2)):=ho6;have HW6:Hid (Below w.heap.size w w6):=HW.out.grown hg6 hws HO.out.above;clear ho6 hg6;go_wp2_with fail;go_roundw
     case rel=>exact ⟨_,HO6.out,HW6.out,.inr (.inr (.inl ⟨by go_num,rfl⟩))⟩
     case measure=>simp [intOf]
    ·go_wp2_with (at_builtin;refine Stay.go ?_);refine Stay.on ?_;refine qcH rfl (.tmp 31) (.tmp 32) rfl w.heap.size _ _ rfl HO.out A3 n3 c3 ys3 rfl M3.out HA3.out K3.out O3.out (by rw [List.length_append,M1.out,M2.out];omega) hws ?_;intro v6 w6 ho6 hg6;have HO6:Hid (RowN w6 w.heap.size v6 (ys1++ys2++ys3)):=ho6;have HW6:Hid (Below w.heap.size w w6):=HW.out.grown hg6 hws HO.out.above;clear ho6 hg6;go_wp2_with fail;go_roundw
     case rel=>exact ⟨_,HO6.out,HW6.out,.inr (.inr (.inr ⟨by go_num,rfl⟩))⟩
     case measure=>simp [intOf]
    ·go_wp2_with fail;go_ret;exact ⟨_,rfl,HO.out,HW.out⟩
theorem qqC:Tryz.prog.underlying 23=some (.slice (Tryz.prog.elem 23)):=by kernel_rfl
theorem qtL: ∀W,(sizeOf (Tryz.prog.elem 23)).run Tryz.prog W= .ok 12 W:=by
 intro W;have e:Tryz.prog.elem 23=49:=by kernel_rfl
 rw [e];exact Tryz.sizeOf49 W
def cutN (A:Option Addr) (c k:Nat):Option Addr:=if c=k then A else A.map (·.add (k*12))
theorem q7V (A:Option Addr) (c:Nat):cutN A c 0=A:=by
 unfold cutN
 split
 ·rfl
 ·cases A with
  |none=>rfl
  |some a=>simp [Addr.add]
theorem qt8 (W:World) (A:Option Addr) (n c k:Nat) (h:k≤c):(Instr.slice 23 (.slice A n c) none (some (.int .i64 (k:Int))) none).run Tryz.prog W= .ok (.slice A k c) W:=by
 rw [run_slice_h W 23 A n c qqC .i64 (k:Int) (by omega) (by omega),qtL];have e:=q7V A c;unfold cutN at e;simp [Result.andThen,sliced]at e⊢;exact e
theorem qnA (W:World) (A:Option Addr) (n c k:Nat) (h:k≤n):(Instr.slice 23 (.slice A n c) (some (.int .i64 (k:Int))) none none).run Tryz.prog W= .ok (.slice (cutN A c k) (n-k) (c-k)) W:=by
 rw [run_slice_l W 23 A n c qqC .i64 (k:Int) (by omega) (by omega),qtL];simp [Result.andThen,sliced,cutN]
theorem qdK.take {w:World} {A:Option Addr} {ys:List NodP} (h:qdK w A ys) (k:Nat):qdK w A (ys.take k):=fun ad ha j u hu=>by
 refine h ad ha j u ?_;have e:rowN ys=rowN (ys.take k)++rowN (ys.drop k):=by rw [←qlW,List.take_append_drop]
 rw [e,List.getElem?_append_left (List.getElem?_eq_some_iff.1 hu).1];exact hu
theorem qdK.drop {w:World} {A:Option Addr} {ys:List NodP} (h:qdK w A ys) {c k:Nat} (hc:ys.length≤c) (hk:k≤ys.length):qdK w (cutN A c k) (ys.drop k):=fun ad ha j u hu=>by
 have hj:=(List.getElem?_eq_some_iff.1 hu).1;rw [qbT,List.length_drop]at hj;have hne:c≠k:=by omega
 unfold cutN at ha;rw [if_neg hne]at ha;cases A with
 |none=>cases ha
 |some a=>
  simp only [Option.map_some,Option.some.injEq]at ha;subst ha;rw [Go.Deep.add_add];refine h a rfl _ u ?_;have e:rowN ys=rowN (ys.take k)++rowN (ys.drop k):=by rw [←qlW,List.take_append_drop]
  rw [e,List.getElem?_append_right (by rw [qbT,List.length_take];omega),qbT,List.length_take,Nat.min_eq_left hk,Nat.add_sub_cancel_left];exact hu
theorem q7W {A:Option Addr} {c k:Nat} (h:cutN A c k=none):A=none:=by
 unfold cutN at h
 split at h
 ·exact h
 ·cases A with
  |none=>rfl
  |some a=>cases h
theorem q77 {w:World} {g:Nat} {y:NodP} (h:Blk w g 49 (nodV y.1 y.2).toArray):qdK w (some ⟨g,0,none⟩) [y]:=fun ad ha j u hu=>by
 injection ha with ha
 subst ha;rw [qyJ]at hu;rw [Addr.add_lit,Nat.zero_add,h.cell j,List.getElem?_toArray];exact hu
theorem zaK {l:List NodeV} {x:NodeV} (h:qaO l≠0):putT l x=([],qaO l):=if_pos h
theorem q40 {l:List NodeV} {x:NodeV} (h:qaO l=0) (h2:qaO (putL l x)≠0):putT l x=([],qaO (putL l x)):=by unfold putT;rw [if_neg (by simp [h]),if_pos h2]
theorem putT_ok {l:List NodeV} {x:NodeV} (h:qaO l=0) (h2:qaO (putL l x)=0):putT l x=(putL l x,0):=by unfold putT;rw [if_neg (by simp [h]),if_neg (by simp [h2])]
set_option maxHeartbeats 8000000 in
theorem Put_any (A:Option Addr) (n c:Nat) (l:List NodeV) (hn:l.length=n) (hc:SlOk A n c) (hsz: ∀x∈l,x.sz) (x:NodeV) (D:Option Addr) (cx:Nat) (hx:x.sz) (hs:SlOk D x.data.length cx) (w:World) (hA:qaJ w A l) (hD:qaE w D x.data):
  Calls Tryz.prog 81 #[.slice A n c,.agg (nodC x D cx).toArray] w fun e w'=> ∃v xs,e= .returned (.tuple #[v,.int .i64 (putT l x).2])∧xs.map (·.1)=(putT l x).1∧OwnN w' w.heap.size v xs∧Below w.heap.size w w':=by
 have HN:=Lib.hid hn;have HA:=Lib.hid hA;have HD:=Lib.hid hD;have HSZ:=Lib.hid hsz;have HS:=Lib.hid hs;have HC:=Lib.hid hc;have HX:=Lib.hid hx;have HCk:=Lib.hid fun W h=>qcR A n c l hn hc hsz W h;have hps:(bs x.path).size≤maxLen:=by rw [qaC];have:=hx.1.1;unfold maxLen;omega
 have hcap:=hc.1;have hmx:=hc.2.1;unfold maxLen at hmx;have hb0:=Blk.new w 49 (nodA x D cx);have hw0:Below w.heap.size w (w.alloc (.cells (nodA x D cx) 49)):=qaL (Below.refl _ _) _;have HCk0:=Lib.hid (HCk.out _ (hA.below hw0));clear hn hA hD hsz hs hc hx
 by_cases h0:qaO l=0
 ·have HE:=Lib.hid h0;have HPB:=Lib.hid fun h2=>q40 (x:=x) h0 h2;have HPO:=Lib.hid fun h2=>putT_ok (x:=x) h0 h2;rw [h0]at HCk0;obtain ⟨hle,hsnd⟩:=(qaT l).1 h0;rw [HN.out]at hle;have HR:=Lib.hid hsnd.rises;have HBS:=Lib.hid fun W h=>qx7 A n c l (bs x.path) HN.out (by omega) hsnd.rises (fun y hy=>qe1 (hsnd.node y hy)) hps W h;rw [qaF]at HBS;obtain ⟨ys,hys,hcl,hdat⟩:=HA.out.row;have hyl:ys.length=n:=by rw [←HN.out,←hys,List.length_map]
  have HCL:=Lib.hid hcl;have HDT:=Lib.hid hdat;have HYS:=Lib.hid hys;have HYL:=Lib.hid hyl;clear h0 hsnd hys hyl hcl hdat HCk;unfold nodC;unfold nodA at hb0 hw0 HCk0;obtain ⟨P,hP⟩:=qaA (bs x.path);rw [hP.out]at HBS hps;go_enter Tryz.func81,Tryz.ntmps81;go_wp2_with fail;refine HCk0.out.mono ?_;rintro e w1 ⟨rfl,hb⟩;have hb1:=hb0.below hb hb0.lt;have HB1:=Lib.hid (hw0.trans (hb.mono hw0.size));clear hb0 hw0 hb HCk0;obtain ⟨⟨q0,q1,q2,q3,q4,q5,q6,q7,q8,q9,qA,qB⟩,-⟩:=qbC hb1;have HBx1:=Lib.hid hb1;rw [hP.out]at q0;clear hb1;go_wp2_with fail;refine (HBS.out _ (HA.out.below HB1.out)).mono ?_;rintro e w2 ⟨i,bb,rfl,hlow,hbb,hb⟩;have HLo:=Lib.hid hlow;have hin:i≤n:=by have:=hlow.le;rw [HN.out]at this;exact this
  have HB2:=Lib.hid (HB1.out.trans (hb.mono HB1.out.size));have HBx2:=Lib.hid (HBx1.out.below hb HBx1.out.lt);clear hlow hb q0 q1 q2 q3 q4 q5 q6 q7 q8 q9 qA qB;obtain ⟨⟨q0,q1,q2,q3,q4,q5,q6,q7,q8,q9,qA,qB⟩,-⟩:=qbC HBx2.out;obtain ⟨e,he⟩: ∃e:Nat,e=if bb=true then i+1 else i:=⟨_,rfl⟩
  have HEe:Hid (e=if hi:i<l.length then (if pcmp l[i].path x.path=0 then i+1 else i)else i):=by
   unfold Hid;rw [he,hbb]
   by_cases hi:i<l.length
   ·rw [dif_pos hi,dif_pos hi];by_cases hz:pcmp l[i].path x.path=0<;>simp [hz]
   ·rw [dif_neg hi,dif_neg hi];simp
  have hen:e≤n:=by
   rw [he];cases bb
   ·simpa using hin
   ·have:i<l.length:=by
     rcases Nat.lt_or_ge i l.length with h|h
     ·exact h
     ·rw [dif_neg (by omega)]at hbb;cases hbb
    rw [HN.out]at this;rw [if_pos rfl];omega
  have hie:i≤e:=by rw [he];split<;>omega
  have HPut:=Lib.hid (zaL HR.out HLo.out HEe.out);clear hbb;go_upto_if 25 with fail
  go_cut [9] (fun s9 wx=>s9= .int .i64 (e:Int)∧wx=w2)
  case first=>
   have hi1:(i:Int)+1≤1000:=by omega
   cases bb with
   |true=>
    obtain rfl:e=i+1:=by simpa using he
    go_wp2_with fail;go_meet;exact ⟨by go_num,rfl⟩
   |false=>
    obtain rfl:e=i:=by simpa using he
    go_wp2_with fail;go_meet;exact ⟨rfl,rfl⟩
  case rest=>
   obtain ⟨rfl,hwc⟩:=hcut;obtain rfl:=hwc.symm;clear he;have s1:=fun W=>qt8 W A n c i (by omega);have s2:=fun W=>qnA W A n c e hen
   have HCc:Hid (∀g W,Blk W g 23 #[.slice A i c,.slice (some ⟨w2.heap.size,0,none⟩) 1 1,.slice (cutN A c e) (n-e) (c-e)]→Below w.heap.size w W→Blk W w2.heap.size 49 (nodA x D cx)→
     Calls Tryz.prog 124 #[.slice (some ⟨g,0,none⟩) 3 3] W fun e' w'=> ∃v,e'= .returned v∧RowN w' W.heap.size v (ys.take i++ [(x,.slice D x.data.length cx)]++ys.drop e)∧Below W.heap.size W w'):=fun g W hb hw hbx=>
    qvV A (some ⟨w2.heap.size,0,none⟩) (cutN A c e) i 1 (n-e) c 1 (c-e) (ys.take i) [(x,.slice D x.data.length cx)] (ys.drop e) (by rw [List.length_take,HYL.out];omega) rfl (by rw [List.length_drop,HYL.out]) (by omega)
     (fun h=>by have:=HC.out.2.2 h;exact ⟨this,by omega⟩) (fun h=>by cases h) (fun h=>by have:=HC.out.2.2 (q7W h);exact ⟨by omega,by omega⟩)
     (fun y hy=>(HDT.out y (List.mem_of_mem_take hy)).one) (fun y hy=>by simp at hy;subst hy;rfl) (fun y hy=>(HDT.out y (List.mem_of_mem_drop hy)).one) g W hb
     ((HCL.out.below hw).take i) (q77 hbx) ((HCL.out.below hw).drop (by rw [HYL.out];exact hcap) (by rw [HYL.out];exact hen))
   obtain ⟨a2,ha2⟩:=qaA (cutN A c e);obtain ⟨n2,hn2⟩:=qaA (n-e);obtain ⟨c2,hc2⟩:=qaA (c-e);simp only [ha2.out,hn2.out,hc2.out]at s2 HCc;unfold nodA at HCc;go_upto_region 8 with fail
   have hbl1:=Blk.new w2 49 #[.string (bs x.path),.int .i64 x.kind,.int .i64 x.same,.string (bs x.target),.int .i64 x.md.mode,.int .i64 x.md.uid,.int .i64 x.md.gid,.string (bs x.md.user),.string (bs x.md.group),.int .i64 x.md.second,.int .i64 x.md.nano,.slice D x.data.length cx];have hbl2:=Blk.new (w2.alloc (.cells #[.string (bs x.path),.int .i64 x.kind,.int .i64 x.same,.string (bs x.target),.int .i64 x.md.mode,.int .i64 x.md.uid,.int .i64 x.md.gid,.string (bs x.md.user),.string (bs x.md.group),.int .i64 x.md.second,.int .i64 x.md.nano,.slice D x.data.length cx] 49)) 23 #[.slice A i c,.slice (some ⟨w2.heap.size,0,none⟩) 1 1,.slice a2 n2 c2];have hbw:=(qaL (qaL HB2.out (.cells #[.string (bs x.path),.int .i64 x.kind,.int .i64 x.same,.string (bs x.target),.int .i64 x.md.mode,.int .i64 x.md.uid,.int .i64 x.md.gid,.string (bs x.md.user),.string (bs x.md.group),.int .i64 x.md.second,.int .i64 x.md.nano,.slice D x.data.length cx] 49)) (.cells #[.slice A i c,.slice (some ⟨w2.heap.size,0,none⟩) 1 1,.slice a2 n2 c2] 23)).drew;rw [hszA]at hbl2;have HK:=Lib.hid (HCc.out (w2.heap.size+1) _ hbl2.drew_ hbw (hbl1.alloc _).drew_);have HBw:=Lib.hid hbw;rw [hP.out]at HK HBw;clear hbl1 hbl2 hbw;have hSB:Blk w2 w.heap.size 49 #[.string P,.int .i64 x.kind,.int .i64 x.same,.string (bs x.target),.int .i64 x.md.mode,.int .i64 x.md.uid,.int .i64 x.md.gid,.string (bs x.md.user),.string (bs x.md.group),.int .i64 x.md.second,.int .i64 x.md.nano,.slice D x.data.length cx]:=by rw [←hP.out];exact HBx2.out
   have hS1:=hSB.drew_;have HS1:=Lib.hid hS1;clear hSB q0 q1 q2 q3 q4 q5 q6 q7 q8 q9 qA qB;refine wp_region_noPanic ?_;refine wp_region_held_drew (S:=fun W=>Blk W w.heap.size 49 #[.string P,.int .i64 x.kind,.int .i64 x.same,.string (bs x.target),.int .i64 x.md.mode,.int .i64 x.md.uid,.int .i64 x.md.gid,.string (bs x.md.user),.string (bs x.md.group),.int .i64 x.md.second,.int .i64 x.md.nano,.slice D x.data.length cx]) (by kernel_rfl) hS1 (fun hHeld=> ?_);refine wpAnyH_take (i:=0) (v:= ?_) rfl (by kernel_rfl) (by kernel_rfl) (by kernel_rfl) (fun _ _ _ h=>h) (Or.inl ⟨by rfl,?_⟩) hS1 ?_
   rotate_left
   ·intro W hSw;(try dsimp only at hSw);go_simp;try with_reducible rfl
   try simp only [Act.put]
   refine wpAnyH_take (i:=1) (v:= ?_) rfl (by kernel_rfl) (by kernel_rfl) (by kernel_rfl) (fun _ _ _ h=>h) (Or.inl ⟨by rfl,?_⟩) hS1 ?_
   rotate_left
   ·intro W hSw;(try dsimp only at hSw);go_simp;try with_reducible rfl
   try simp only [Act.put]
   refine wpAnyH_take (i:=2) (v:= ?_) rfl (by kernel_rfl) (by kernel_rfl) (by kernel_rfl) (fun _ _ _ h=>h) (Or.inl ⟨by rfl,?_⟩) hS1 ?_
   rotate_left
   ·intro W hSw;(try dsimp only at hSw);go_simp;try with_reducible rfl
   try simp only [Act.put]
   refine wpAnyH_take (i:=3) (v:= ?_) rfl (by kernel_rfl) (by kernel_rfl) (by kernel_rfl) (fun _ _ _ h=>h) (Or.inl ⟨by rfl,?_⟩) hS1 ?_
   rotate_left
   ·intro W hSw;(try dsimp only at hSw);obtain ⟨⟨q0,q1,q2,q3,q4,q5,q6,q7,q8,q9,qA,qB⟩,-⟩:=qbC hSw;go_simp;try with_reducible rfl
   try simp only [Act.put]
   refine wpAnyH_take (i:=5) (v:= ?_) rfl (by kernel_rfl) (by kernel_rfl) (by kernel_rfl) (fun _ _ _ h=>h) (Or.inl ⟨by rfl,?_⟩) hS1 ?_
   rotate_left
   ·intro W hSw;(try dsimp only at hSw);go_simp;try with_reducible rfl
   try simp only [Act.put]
   refine wpAnyH_take (i:=6) (v:= ?_) rfl (by kernel_rfl) (by kernel_rfl) (by kernel_rfl) (fun _ _ _ h=>h) (Or.inl ⟨by rfl,?_⟩) hS1 ?_
   rotate_left
   ·intro W hSw;(try dsimp only at hSw);go_simp;try with_reducible rfl
   try simp only [Act.put]
   refine wpAnyH_take (i:=7) (v:= ?_) rfl (by kernel_rfl) (by kernel_rfl) (by kernel_rfl) (fun _ _ _ h=>h) (Or.inl ⟨by rfl,?_⟩) hS1 ?_
   rotate_left
   ·intro W hSw;(try dsimp only at hSw);go_simp;try with_reducible rfl
   try simp only [Act.put]
   refine wpAnyH_ready (rs:= [4]) (by kernel_rfl) (by simp) ?_;refine AllReadyH.cons rfl (fun K hK=> ?_) AllReadyH.nil
   go_simp
   refine hK.out _ _ (HS1.out.alloc _) (fun hHeld2=> ?_);clear hK K
   try simp only [Act.put]
   refine wpAnyH_ready (rs:= [8]) (by kernel_rfl) (by simp) ?_;refine AllReadyH.cons rfl (fun K hK=> ?_) AllReadyH.nil
   go_simp
   refine hK.out _ _ ((HS1.out.alloc _).alloc _) (fun hHeld3=> ?_);clear hK K
   try simp only [Act.put]
   refine wpAnyH_ready (rs:= [9]) (by kernel_rfl) (by simp) ?_;refine AllReadyH.cons rfl (fun K hK=> ?_) AllReadyH.nil
   go_simp
   refine HK.out.mono ?_;rintro e3 w3 ⟨v3,rfl,hR3,hb3⟩;refine hK.out _ _ (((HS1.out.alloc _).alloc _).below hb3 (((HS1.out.alloc _).alloc _).lt)) (fun hHeld4=> ?_);clear hK K
   try simp only [Act.put]
   refine wpAnyH_take (i:=10) (v:= ?_) rfl (by kernel_rfl) (by kernel_rfl) (by kernel_rfl) (fun _ _ _ h=>h) (Or.inl ⟨by rfl,?_⟩) hHeld4 ?_
   rotate_left
   ·intro W hSw;(try dsimp only at hSw);go_simp;try with_reducible rfl
   try simp only [Act.put]
   refine wpAnyH_done (by kernel_rfl) ?_ _;refine NoPanic.normal ?_;have HB3:=Lib.hid (HBw.out.trans (hb3.mono HBw.out.size))
   obtain ⟨A3,c3,rfl,hs3,hat3⟩:=hR3.at fun y hy=>by
    rcases List.mem_append.1 hy with a|a
    ·rcases List.mem_append.1 a with a|a
     ·exact (HDT.out y (List.mem_of_mem_take a)).below HB3.out
     ·simp at a;subst a;exact ⟨D,cx,rfl,HS.out,HD.out.below HB3.out⟩
    ·exact (HDT.out y (List.mem_of_mem_drop a)).below HB3.out
   have hmap:(ys.take i++ [((x,.slice D x.data.length cx):NodP)]++ys.drop e).map (·.1)=putL l x:=by
    rw [List.map_append,List.map_append,List.map_take,List.map_drop,HYS.out,HPut.out,List.append_assoc];rfl
   have hlen:(ys.take i++ [((x,.slice D x.data.length cx):NodP)]++ys.drop e).length=(putL l x).length:=by rw [←hmap,List.length_map]
   rw [hmap]at hat3;rw [hlen]at hs3⊢
   have hpl:(putL l x).length≤41:=by
    rw [←hlen,List.length_append,List.length_append,List.length_take,List.length_drop,HYL.out];simp;omega
   have hszp: ∀y∈putL l x,y.sz:=fun y hy=>by
    rcases zbD.1 hy with rfl|⟨a,-⟩
    ·exact HX.out
    ·exact HSZ.out y a
   have HCk2:=Lib.hid fun W h=>qcR A3 _ c3 (putL l x) rfl hs3 hszp W h;have HCp2:=Lib.hid fun W h=>qjX A3 _ c3 (putL l x) rfl (by omega) hszp W h;have HA3:=Lib.hid hat3;have hpl2:=hpl;obtain ⟨pl,hplv⟩:=qaA (putL l x).length;rw [hplv.out]at HCk2 HCp2 hpl2⊢;clear hR3 hb3 hs3 hat3 hlen hmap hHeld4 hHeld3 hHeld2 hHeld hS1 HK HBw HCc hpl hszp
   by_cases h2:qaO (putL l x)=0
   ·have HV:=Lib.hid (HPO.out h2);rw [h2]at HCk2;clear HPB HPO h2;go_wp2_with fail;refine (HCk2.out _ HA3.out).mono ?_;rintro e4 w4 ⟨rfl,hb4⟩;have HB4:=Lib.hid (HB3.out.trans (hb4.mono HB3.out.size));have HA4:=Lib.hid (HA3.out.below hb4);clear hb4;go_wp2_with fail;refine (HCp2.out _ HA4.out).mono ?_;rintro e5 w5 ⟨v5,xs5,rfl,hxs5,hO5,hb5⟩;have HB5:=Lib.hid (HB4.out.trans (hb5.mono HB4.out.size));have HO5:=Lib.hid (hO5.mono HB4.out.size);have HX5:=Lib.hid hxs5;clear hb5 hO5 hxs5;go_wp2_with fail;go_ret2;exact ⟨_,xs5,by rw [HV.out];rfl,by rw [HV.out];exact HX5.out,HO5.out,HB5.out⟩
   ·have HV:=Lib.hid (HPB.out h2);have h3:(qaO (putL l x) !=0)=true:=by simpa using h2
    generalize qaO (putL l x)=tt at*;clear HPB HPO h2;go_wp2_with fail;refine (HCk2.out _ HA3.out).mono ?_;rintro e4 w4 ⟨rfl,hb4⟩;have HB4:=Lib.hid (HB3.out.trans (hb4.mono HB3.out.size));clear hb4;go_wp2_with fail;go_ret2;exact ⟨_, [],by rw [HV.out];rfl,by rw [HV.out];rfl,OwnN.nil _ _,HB4.out⟩
 ·have HP:=Lib.hid (zaK (x:=x) h0);rw [HP.out];have h1:(qaO l !=0)=true:=by simpa using h0
  generalize qaO l=t at*;clear HCk h0;unfold nodC;unfold nodA at hb0 hw0 HCk0;go_enter Tryz.func81,Tryz.ntmps81;go_wp2_with fail;refine HCk0.out.mono ?_;rintro e w1 ⟨rfl,hb⟩;have HB1:=Lib.hid (hw0.trans (hb.mono hw0.size));clear hb0 hw0 hb HCk0;go_wp2_with fail;go_ret2;exact ⟨_, [],rfl,rfl,OwnN.nil _ _,HB1.out⟩
def qm0:List Value→Nat→List Value→List Value
 |xs,_, []=>xs
 |xs,o,v::vs=>qm0 (xs.set o v) (o+1) vs
theorem qt1 (vs:List Value): ∀xs o,(qm0 xs o vs).length=xs.length:=by
 induction vs with
 |nil=>intro xs o;rfl
 |cons v vs ih=>intro xs o;rw [qm0,ih,List.length_set]
theorem qt0 (vs:List Value): ∀xs o j,(j<o∨o+vs.length≤j)→(qm0 xs o vs)[j]?=xs[j]?:=by
 induction vs with
 |nil=>intro xs o j _;rfl
 |cons v vs ih=>
  intro xs o j h;rw [List.length_cons]at h;rw [qm0,ih _ _ _ (by omega),List.getElem?_set_ne (by omega)]
theorem zaX (vs:List Value): ∀xs o j,j<vs.length→o+vs.length≤xs.length→(qm0 xs o vs)[o+j]?=vs[j]?:=by
 induction vs with
 |nil=>intro xs o j h;simp at h
 |cons v vs ih=>
  intro xs o j h hl;rw [List.length_cons]at h hl;rw [qm0];cases j with
  |zero=>rw [qt0 _ _ _ _ (by omega),Nat.add_zero,List.getElem?_set_self (by omega)];simp
  |succ j=>
   rw [show o+(j+1)=o+1+j by omega,ih _ _ _ (by omega) (by rw [List.length_set];omega)];simp
theorem q06 (xs:List NodP) (i:Nat) (hi:i<xs.length) (y:NodP):qm0 (rowN xs) (i*12) (nodV y.1 y.2)=rowN (xs.set i y):=by
 apply List.ext_getElem?;intro j
 by_cases hj:j<xs.length*12
 ·have e:j=j/12*12+j%12:=by omega
  have hq:j/12<xs.length:=by omega
  have hr:j%12<12:=by omega
  have h1:=qeX (xs.set i y) (j/12) (j%12) (by rw [List.length_set];exact hq) hr;have h2:=qeX xs (j/12) (j%12) hq hr;rw [←e]at h1 h2;rw [h1]
  by_cases hij:i=j/12
  ·subst hij;simp only [List.getElem_set_self];have:=zaX (nodV y.1 y.2) (rowN xs) (j/12*12) (j%12) (by rw [qb6];omega) (by rw [qbT,qb6];omega)
   rwa [←e]at this
  ·rw [qt0 _ _ _ _ (by rw [qb6];omega),h2];simp only [List.getElem_set_ne hij]
 ·rw [List.getElem?_eq_none (by rw [qt1,qbT];omega),List.getElem?_eq_none (by rw [qbT,List.length_set];omega)]
theorem qt5 {e size g cap n B:Nat} (vs:List Value): ∀(w:World) (xs:List Value) (o:Nat),w.ownsRow B e size (.slice (some ⟨g,0,none⟩) n cap) n xs→(w.setCells g o vs).ownsRow B e size (.slice (some ⟨g,0,none⟩) n cap) n (qm0 xs o vs):=by
 induction vs with
 |nil=>intro w xs o h;exact h
 |cons v vs ih=>intro w xs o h;exact ih _ _ _ (World.ownsRow.stored h o v).1
theorem q46 (vs:List Value): ∀xs o,xs.length≤o→qm0 xs o vs=xs:=by
 induction vs with
 |nil=>intro xs o _;rfl
 |cons v vs ih=>intro xs o h;rw [qm0,List.set_eq_of_length_le h];exact ih _ _ (by omega)
theorem RowN.setNode {w:World} {B g cap n:Nat} {xs:List NodP} (h:RowN w B (.slice (some ⟨g,0,none⟩) n cap) xs) (hn:xs.length=n) (i:Nat) (hi:i<xs.length) (y:NodP):RowN (w.setCells g (i*12) (nodV y.1 y.2)) B (.slice (some ⟨g,0,none⟩) n cap) (xs.set i y):=by
 subst hn;unfold RowN at h⊢;rw [List.length_set,←q06 xs i hi y];exact qt5 _ _ _ _ h
theorem RowN.setFar {w:World} {B g cap n:Nat} {xs:List NodP} (h:RowN w B (.slice (some ⟨g,0,none⟩) n cap) xs) (hn:xs.length=n) (o:Nat) (ho:n*12≤o) (vs:List Value):RowN (w.setCells g o vs) B (.slice (some ⟨g,0,none⟩) n cap) xs:=by
 subst hn;unfold RowN at h⊢;have h1:=qt5 vs w _ o h
 rwa [q46 _ _ _ (by rw [qbT];exact ho)]at h1
theorem RowN.short {w:World} {B g cap n:Nat} {xs:List NodP} (h:RowN w B (.slice (some ⟨g,0,none⟩) n cap) xs) (hn:xs.length=n) (i:Nat) (hi:i≤n):RowN w B (.slice (some ⟨g,0,none⟩) i cap) (xs.take i):=by
 subst hn;unfold RowN World.ownsRow at h⊢;have hl:(xs.take i).length=i:=by rw [List.length_take];omega
 refine ⟨by rw [qbT],.inr ?_⟩;rcases h.2 with ⟨e,-⟩|⟨g',cap',cur,e,hB,hg,hcap,hm,hs,ht⟩
 ·cases e
 ·injection e with e1 e2 e3
  injection e1 with e1
  injection e1 with e1
  subst e1 e3;refine ⟨g,cap,cur,by rw [hl],hB,hg,by omega,hm,hs,?_⟩;have h1:rowN xs=rowN (xs.take i)++rowN (xs.drop i):=by rw [←qlW,List.take_append_drop]
  have h2:(cur.toList.take (xs.length*12)).take (i*12)=rowN (xs.take i):=by
   rw [ht,h1,List.take_left' (by rw [qbT,hl])]
  rw [List.take_take,Nat.min_eq_left (by omega)]at h2;rw [hl];exact h2
theorem OwnB.setAway {w:World} {B B' g cap n:Nat} {v:Value} {l:List UInt8} {xs:List NodP} (h:OwnB w B v l) (h':RowN w B' (.slice (some ⟨g,0,none⟩) n cap) xs) (o:Nat) (vs:List Value):OwnB (w.setCells g o vs) B v l:=
 qcB h fun g' e=>World.heap_setCells_other w g o vs (World.ownsRow.lt h g' e).2 fun e2=>qgU h h' g' e (by subst e2;rfl)
theorem Below.setMany {B g:Nat} {a:World} (hg:B≤g) (vs:List Value): ∀(w:World) (o:Nat),Below B a w→Below B a (w.setCells g o vs):=by
 induction vs with
 |nil=>intro w o h;exact h
 |cons v vs ih=>intro w o h;exact ih _ _ (Below.set1 h hg o v)
theorem RowN.cells12 {w:World} {B g cap n:Nat} {xs:List NodP} (h:RowN w B (.slice (some ⟨g,0,none⟩) n cap) xs) (hn:xs.length=n) (i:Nat) (hi:i<xs.length):
  (w.cell? ⟨g,i*12,none⟩=some (.string (bs xs[i].1.path))∧w.cell? ⟨g,i*12+1,none⟩=some (.int .i64 xs[i].1.kind)∧w.cell? ⟨g,i*12+2,none⟩=some (.int .i64 xs[i].1.same)∧w.cell? ⟨g,i*12+3,none⟩=some (.string (bs xs[i].1.target))∧
   w.cell? ⟨g,i*12+4,none⟩=some (.int .i64 xs[i].1.md.mode)∧w.cell? ⟨g,i*12+5,none⟩=some (.int .i64 xs[i].1.md.uid)∧w.cell? ⟨g,i*12+6,none⟩=some (.int .i64 xs[i].1.md.gid)∧w.cell? ⟨g,i*12+7,none⟩=some (.string (bs xs[i].1.md.user))∧w.cell? ⟨g,i*12+8,none⟩=some (.string (bs xs[i].1.md.group))∧w.cell? ⟨g,i*12+9,none⟩=some (.int .i64 xs[i].1.md.second)∧w.cell? ⟨g,i*12+10,none⟩=some (.int .i64 xs[i].1.md.nano)∧w.cell? ⟨g,i*12+11,none⟩=some xs[i].2)∧
  (w.frozen? ⟨g,i*12,none⟩=false∧w.frozen? ⟨g,i*12+1,none⟩=false∧w.frozen? ⟨g,i*12+2,none⟩=false∧w.frozen? ⟨g,i*12+3,none⟩=false∧w.frozen? ⟨g,i*12+4,none⟩=false∧w.frozen? ⟨g,i*12+5,none⟩=false∧w.frozen? ⟨g,i*12+6,none⟩=false∧w.frozen? ⟨g,i*12+7,none⟩=false∧w.frozen? ⟨g,i*12+8,none⟩=false∧w.frozen? ⟨g,i*12+9,none⟩=false∧w.frozen? ⟨g,i*12+10,none⟩=false∧w.frozen? ⟨g,i*12+11,none⟩=false):=by
 subst hn;unfold RowN at h;have hc: ∀q,q<12→w.cell? ⟨g,i*12+q,none⟩=(nodV xs[i].1 xs[i].2)[q]?:=fun q hq=>by rw [World.ownsRow.cellAt h (i*12+q) (by omega),qeX xs i q hi hq]
 have hf: ∀q,w.frozen? ⟨g,i*12+q,none⟩=false:=fun q=>World.ownsRow.frozenAt h _;exact ⟨⟨hc 0 (by omega),hc 1 (by omega),hc 2 (by omega),hc 3 (by omega),hc 4 (by omega),hc 5 (by omega),hc 6 (by omega),hc 7 (by omega),hc 8 (by omega),hc 9 (by omega),hc 10 (by omega),hc 11 (by omega)⟩,hf 0,hf 1,hf 2,hf 3,hf 4,hf 5,hf 6,hf 7,hf 8,hf 9,hf 10,hf 11⟩
theorem qqS (n:Nat): ∀u∈(Builtin.zeroCells qdZ n).toList,u.oneCell'=true:=by
 intro u hu
 have hz: ∀k (hk:k<qdZ.size),qdZ[k].oneCell'=true:=by
  intro k hk;have:k<12:=hk
  match k,this with
  |0,_=>rfl
  |1,_=>rfl
  |2,_=>rfl
  |3,_=>rfl
  |4,_=>rfl
  |5,_=>rfl
  |6,_=>rfl
  |7,_=>rfl
  |8,_=>rfl
  |9,_=>rfl
  |10,_=>rfl
  |11,_=>rfl
 unfold Builtin.zeroCells at hu;rw [Array.toList_map,List.mem_map]at hu;obtain ⟨j,-,rfl⟩:=hu;have hk:j%qdZ.size<qdZ.size:=Nat.mod_lt _ (by decide);rw [getElem!_pos qdZ _ hk];exact hz _ hk
theorem qmK (w:World) (ty:TypeId) (b o n c:Nat) (hn:0<n) (hc: ∀j,j<n*12→(w.cell? ⟨b,o+j,none⟩).isSome=true) (hf: ∀j,j<n*12→w.frozen? ⟨b,o+j,none⟩=false):
  (Builtin.clear_ #[23] ty #[.slice (some ⟨b,o,none⟩) n c]).run Tryz.prog w= .ok (.tuple #[]) (w.setCells b o (Builtin.zeroCells qdZ n).toList):=by
 have hz:(zeroValue 49).run Tryz.prog w= .ok (.agg qdZ) w:=by kernel_rfl
 have hl:(Builtin.zeroCells qdZ n).toList.length=n*12:=by rw [Array.length_toList,size_zeroCells];rfl
 have hst:=run_storeCells_cells (P:=Tryz.prog) b o (Builtin.zeroCells qdZ n).toList 0 w (by intro j hj;rw [hl]at hj;exact hc j hj) (by intro j hj;rw [hl]at hj;exact hf j hj) (qqS n);simp only [Nat.add_zero]at hst;obtain ⟨m,rfl⟩: ∃m,n=m+1:=⟨n-1,by omega⟩;have ht:=Tryz.underlying23;simp [Builtin.clear_,run_underlying ht,hz,hst,Value.cells]
theorem q39 (w:World) (g i:Nat) (v0 v1 v2 v3 v4 v5 v6 v7 v8 v9 vA vB:Value):((((((((((((w.setCell ⟨g,i,none⟩ v0).setCell ⟨g,i+1,none⟩ v1).setCell ⟨g,i+2,none⟩ v2).setCell ⟨g,i+3,none⟩ v3).setCell ⟨g,i+4,none⟩ v4).setCell ⟨g,i+5,none⟩ v5).setCell ⟨g,i+6,none⟩ v6).setCell ⟨g,i+7,none⟩ v7).setCell ⟨g,i+8,none⟩ v8).setCell ⟨g,i+9,none⟩ v9).setCell ⟨g,i+10,none⟩ vA).setCell ⟨g,i+11,none⟩ vB)=w.setCells g i [v0,v1,v2,v3,v4,v5,v6,v7,v8,v9,vA,vB]:=rfl
def qlO (P:NodeV→Bool) (y:NodP):Bool:= !P y.1
theorem zbM {P:NodeV→Bool} {xs:List NodP} {i j:Nat} {xs':List NodP} (hj:j<xs.length) (hij:i<j) (hl:xs'.length=xs.length) (h:xs'.take i=(xs.take j).filter (qlO P)) (hk:P xs[j].1=false):(xs'.set i xs[j]).take (i+1)=(xs.take (j+1)).filter (qlO P):=by
 rw [List.take_succ_eq_append_getElem hj,List.filter_append,←h];have h1: [xs[j]].filter (qlO P)= [xs[j]]:=by simp [qlO,hk]
 rw [h1,List.take_succ_eq_append_getElem (by rw [List.length_set,hl];omega),List.getElem_set_self,List.take_set_of_le (Nat.le_refl i)]
theorem q6A {P:NodeV→Bool} {xs:List NodP} {j:Nat} {ys:List NodP} (hj:j<xs.length) (h:ys=(xs.take j).filter (qlO P)) (hk:P xs[j].1=true):ys=(xs.take (j+1)).filter (qlO P):=by
 rw [List.take_succ_eq_append_getElem hj,List.filter_append,←h];have h1: [xs[j]].filter (qlO P)= []:=by simp [qlO,hk]
 rw [h1,List.append_nil]
theorem q1R {P:NodeV→Bool} {xs:List NodP} {i:Nat} (hi:i<xs.length) (h:(xs.map (·.1)).findIdx P=i):xs.take i=(xs.take (i+1)).filter (qlO P):=by
 have hl:i<(xs.map (·.1)).length:=by rw [List.length_map];exact hi
 have h1:P xs[i].1=true:=by
  have h2:=List.findIdx_getElem (p:=P) (xs:=xs.map (·.1)) (w:=by rw [h];exact hl);simp only [h,List.getElem_map]at h2;exact h2
 refine q6A hi ?_ h1
 symm
 rw [List.filter_eq_self];intro y hy;obtain ⟨k,hk,rfl⟩:=List.mem_take_iff_getElem.1 hy;have h3:=List.not_of_lt_findIdx (p:=P) (xs:=xs.map (·.1)) (i:=k) (by omega);simp only [List.getElem_map]at h3;unfold qlO;simpa using h3
theorem zbO {P:NodeV→Bool} {xs:List NodP} (h:(xs.map (·.1)).findIdx P=xs.length):(xs.map (·.1)).filter (fun x=> !P x)=xs.map (·.1):=by
 rw [List.filter_eq_self];intro y hy;obtain ⟨k,hk,rfl⟩:=List.getElem_of_mem hy;have h3:=List.not_of_lt_findIdx (p:=P) (xs:=xs.map (·.1)) (i:=k) (by rw [List.length_map]at hk;omega);simpa using h3
theorem zbN (P:NodeV→Bool) (xs:List NodP):(xs.filter (qlO P)).map (·.1)=(xs.map (·.1)).filter (fun x=> !P x):=by
 rw [List.filter_map];rfl
theorem zcC {xs xs':List NodP} {i j:Nat} (hij:i<j) (h:xs'.drop j=xs.drop j) (y:NodP):(xs'.set i y).drop (j+1)=xs.drop (j+1):=by
 rw [List.drop_set_of_lt (by omega),←List.drop_drop,←List.drop_drop,h]
theorem q7L {xs xs':List NodP} {j:Nat} (h:xs'.drop j=xs.drop j):xs'.drop (j+1)=xs.drop (j+1):=by
 rw [←List.drop_drop,←List.drop_drop,h]
theorem zcD {xs xs':List NodP} {j:Nat} (hj:j<xs.length) (hj':j<xs'.length) (h:xs'.drop j=xs.drop j):xs'[j]=xs[j]:=by
 rw [List.drop_eq_getElem_cons hj,List.drop_eq_getElem_cons hj']at h;injection h
set_option maxHeartbeats 8000000 in
theorem qqQ (f:Nat) (p:Value) (P:NodeV→Bool) (I:World→Prop) (g:Nat) (hI: ∀W W',I W→Below W.heap.size W W'→I W') (hI2: ∀W o vs,I W→I (W.setCells g o vs))
  (hf: ∀(x:NodeV) (D:Option Addr) (c:Nat) (W:World),I W→x.sz→Calls Tryz.prog f #[.agg (nodC x D c).toArray,p] W fun e w'=>e= .returned (.bool (P x))∧Below W.heap.size W w')
  (ef: ∀args w,(callFunc f args).run Tryz.prog w= .ok (.enter f args) w)
  (B n cap:Nat) (xs:List NodP) (hn:xs.length=n) (hm:n≤1000) (hsz: ∀y∈xs,y.1.sz) (w:World) (h:OwnN w B (.slice (some ⟨g,0,none⟩) n cap) xs) (hB:B≤w.heap.size) (hw:I w):
  Calls Tryz.prog 41 #[.slice (some ⟨g,0,none⟩) n cap,.func (.func f) #[] #[p]] w fun e w'=> ∃v' xs',e= .returned v'∧xs'.map (·.1)=(xs.map (·.1)).filter (fun x=> !P x)∧OwnN w' B v' xs'∧Below B w w':=by
 obtain ⟨A,c0,e0,hs0,hat0⟩:=h.at;rw [hn]at e0;injection e0 with e1 _ e3
 subst e1 e3;have hgB:=h.1.above g rfl;have hcap:n≤cap:=by have:=hs0.1;omega
 have hmx:=hs0.2.1;unfold maxLen at hmx
 have HIx:=Lib.hid (qgC f p P I hI hf ef (some ⟨g,0,none⟩) n cap (xs.map (·.1)) (by rw [List.length_map];exact hn) (by omega) (fun x hx=>by
  obtain ⟨y,hy,rfl⟩:=List.mem_map.1 hx
  exact hsz y hy) w hw hat0)
 have HN:=Lib.hid hn;have HO:=Lib.hid h;have HF:=Lib.hid hf;have HI:=Lib.hid hI;have HI2:=Lib.hid hI2;have HW:=Lib.hid hw;have HSZ:=Lib.hid hsz;have hle:=zd3 P (xs.map (·.1));rw [List.length_map,hn]at hle;clear hn h hf hI hI2 hw hsz hs0 hat0;rcases Nat.lt_or_eq_of_le hle with hlt|heq
 ·obtain ⟨i,hi⟩: ∃i,i=(xs.map (·.1)).findIdx P:=⟨_,rfl⟩;have hin:i<n:=by omega
  have HK0:=Lib.hid (q1R (P:=P) (xs:=xs) (i:=i) (by rw [HN.out];exact hin) hi.symm);rw [qr1 (by rw [List.length_map,HN.out];exact hlt),←hi]at HIx;have hne1:((i:Int)== -1)=false:=by first|(simp;done)|(simp;omega)
  clear hle hlt hi;go_enter Tryz.func41,Tryz.ntmps41;go_wp2_with fail;refine HIx.out.mono ?_;rintro e w1 ⟨rfl,hb⟩;have HB1:Hid (Below B w w1):=hb.mono hB;have HO1:=Lib.hid (HO.out.below hb);have HW1:=Lib.hid (HI.out _ _ HW.out hb);clear hb HIx;go_wp2_with fail
  go_loopw [5,6] (fun iv jv wr=> ∃(i j:Nat) (xs':List NodP),iv= .int .i64 i∧jv= .int .i64 j∧i<j∧j≤n∧Hid (RowN wr B (.slice (some ⟨g,0,none⟩) n cap) xs')∧Hid (xs'.length=n)∧Hid (xs'.take i=(xs.take j).filter (qlO P))∧Hid (xs'.drop j=xs.drop j)∧Hid (∀y∈xs,OwnB wr B y.2 y.1.data)∧Hid (Below B w wr)∧Hid (I wr)∧Hid (∀y∈xs'.take i,y∈xs)) (fun _ jv _=>n-(intOf jv).toNat)
  case atStart=>exact ⟨i,i+1,xs,rfl,by go_num,by omega,by omega,HO1.out.1,HN.out,HK0.out,rfl,HO1.out.2,HB1.out,HW1.out,fun y hy=>List.mem_of_mem_take hy⟩
  case round=>
   obtain ⟨i,j,xs',rfl,rfl,hij,hjn,HR,HL,HT,HD,HDT,HB,HIw,HM⟩:=hrel
   have hBw:B≤wr.heap.size:=by
    have:=(World.ownsRow.lt HR.out g rfl);omega
   by_cases hlt:j<n
   ·have hj1:j<xs.length:=by rw [HN.out];exact hlt
    have hj2:j<xs'.length:=by rw [HL.out];exact hlt
    have hi2:i<xs'.length:=by omega
    obtain ⟨⟨c0,c1,c2,c3,c4,c5,c6,c7,c8,c9,cA,cB⟩,-⟩:=HR.out.cells12 HL.out j hj2;rw [zcD hj1 hj2 HD.out]at c0 c1 c2 c3 c4 c5 c6 c7 c8 c9 cA cB;have hmem:xs[j]∈xs:=List.getElem_mem hj1;obtain ⟨E,cc,he,-,-⟩:=(HDT.out _ hmem).form;have HY:=Lib.hid fun hk=>zbM (P:=P) hj1 hij (by rw [HL.out,HN.out]) HT.out hk;have HNo:=Lib.hid fun hk=>q6A (P:=P) hj1 HT.out hk;have HSy:=HSZ.out _ hmem;have HRs:Hid (∀W,RowN W B (.slice (some ⟨g,0,none⟩) n cap) xs'→RowN (W.setCells g (i*12) (nodV xs[j].1 xs[j].2)) B (.slice (some ⟨g,0,none⟩) n cap) (xs'.set i xs[j])):=fun W hW=>hW.setNode HL.out i hi2 _
    have HMs:Hid (∀y∈(xs'.set i xs[j]).take (i+1),y∈xs):=fun y hy=>by
     rw [List.take_succ_eq_append_getElem (by rw [List.length_set];exact hi2),List.getElem_set_self,List.take_set_of_le (Nat.le_refl i)]at hy;rcases List.mem_append.1 hy with a|a
     ·exact HM.out y a
     ·simp at a;subst a;exact hmem
    have HDs:=Lib.hid (zcC (j:=j) hij HD.out xs[j]);have HDn:=Lib.hid (q7L HD.out);generalize hyy:xs[j]=yy at*;obtain ⟨y,yv⟩:=yy;simp only at c0 c1 c2 c3 c4 c5 c6 c7 c8 c9 cA cB he HSy HY HNo HRs;subst he;have HC:=Lib.hid fun W hW=>HF.out y E cc W hW HSy;unfold nodC at HC;unfold nodV at HRs;clear hyy hmem;obtain ⟨q,hq⟩: ∃q,q=P y:=⟨_,rfl⟩;rw [←hq]at HC HY HNo;clear hq HSy;go_upto_region 8 with fail
    have HBl:=Lib.hid (Blk.new wr 49 #[.string (bs y.path),.int .i64 y.kind,.int .i64 y.same,.string (bs y.target),.int .i64 y.md.mode,.int .i64 y.md.uid,.int .i64 y.md.gid,.string (bs y.md.user),.string (bs y.md.group),.int .i64 y.md.second,.int .i64 y.md.nano,.slice E y.data.length cc]);have hBa:Below wr.heap.size wr (wr.alloc (.cells #[.string (bs y.path),.int .i64 y.kind,.int .i64 y.same,.string (bs y.target),.int .i64 y.md.mode,.int .i64 y.md.uid,.int .i64 y.md.gid,.string (bs y.md.user),.string (bs y.md.group),.int .i64 y.md.second,.int .i64 y.md.nano,.slice E y.data.length cc] 49)):=qaL (Below.refl _ _) _;have HBa:=Lib.hid hBa;clear hBa;generalize hwa:wr.alloc _=wa at HBl HBa⊢;obtain ⟨⟨e0,e1,e2,e3,e4,e5,e6,e7,e8,e9,eA,eB⟩,-⟩:=qbC HBl.out;have HIa:=Lib.hid (HI.out _ _ HIw.out HBa.out);clear hwa c0 c1 c2 c3 c4 c5 c6 c7 c8 c9 cA cB;go_wp2_with fail;refine (HC.out _ HIa.out).mono ?_;rintro e w5 ⟨rfl,hb5⟩;have HB5:Hid (Below wr.heap.size wr w5):=HBa.out.trans (hb5.mono HBa.out.size);have HBl5:=Lib.hid (HBl.out.below hb5 HBl.out.lt);have HI5:=Lib.hid (HI.out _ _ HIa.out hb5);have HR5:=Lib.hid (HR.out.below HB5.out);have HDT5:Hid (∀y∈xs,OwnB w5 B y.2 y.1.data):=fun y hy=>(HDT.out y hy).below HB5.out;have HBw5:Hid (Below B w w5):=HB.out.trans (HB5.out.mono hBw);clear hb5 e0 e1 e2 e3 e4 e5 e6 e7 e8 e9 eA eB;cases q with
    |true=>
     have HT2:=Lib.hid (HNo.out rfl);clear HY HNo;go_wp2_with fail;go_roundw
     case rel=>exact ⟨i,j+1,xs',rfl,by go_num,by omega,by omega,HR5,HL,HT2,HDn,HDT5,HBw5,HI5,HM⟩
     case measure=>simp [intOf];omega
    |false=>
     have HT2:=Lib.hid (HY.out rfl);clear HY HNo;obtain ⟨⟨e0,e1,e2,e3,e4,e5,e6,e7,e8,e9,eA,eB⟩,-⟩:=qbC HBl5.out;obtain ⟨⟨c0,c1,c2,c3,c4,c5,c6,c7,c8,c9,cA,cB⟩,g0,g1,g2,g3,g4,g5,g6,g7,g8,g9,gA,gB⟩:=HR5.out.cells12 HL.out i hi2;have HR6:=Lib.hid (HRs.out _ HR5.out);have HI6:=Lib.hid (HI2.out w5 (i*12) [.string (bs y.path),.int .i64 y.kind,.int .i64 y.same,.string (bs y.target),.int .i64 y.md.mode,.int .i64 y.md.uid,.int .i64 y.md.gid,.string (bs y.md.user),.string (bs y.md.group),.int .i64 y.md.second,.int .i64 y.md.nano,.slice E y.data.length cc] HI5.out);have HB6:=Lib.hid (Below.setMany hgB [.string (bs y.path),.int .i64 y.kind,.int .i64 y.same,.string (bs y.target),.int .i64 y.md.mode,.int .i64 y.md.uid,.int .i64 y.md.gid,.string (bs y.md.user),.string (bs y.md.group),.int .i64 y.md.second,.int .i64 y.md.nano,.slice E y.data.length cc] w5 (i*12) HBw5.out);have HDT6:Hid (∀z∈xs,OwnB (w5.setCells g (i*12) [.string (bs y.path),.int .i64 y.kind,.int .i64 y.same,.string (bs y.target),.int .i64 y.md.mode,.int .i64 y.md.uid,.int .i64 y.md.gid,.string (bs y.md.user),.string (bs y.md.group),.int .i64 y.md.second,.int .i64 y.md.nano,.slice E y.data.length cc]) B z.2 z.1.data):=fun z hz=>(HDT5.out z hz).setAway HR5.out _ _;have hin:i<n:=by omega
     rw [←q39]at HR6 HI6 HB6 HDT6;go_wp2_with fail;go_roundw
     case rel=>exact ⟨i+1,j+1,xs'.set i (y,.slice E y.data.length cc),by go_num,by go_num,by omega,by omega,HR6,by unfold Hid;rw [List.length_set];exact HL.out,HT2,HDs,HDT6,HB6,HI6,HMs⟩
     case measure=>simp [intOf];omega
   ·obtain rfl:j=n:=by omega
    have hxl:=HL.out
    have hcut:cutN (some ⟨g,0,none⟩) cap i=some ⟨g,i*12,none⟩:=by
     unfold cutN;rw [if_neg (by omega),Option.map_some,Addr.add_lit,Nat.zero_add]
    have s1:=fun W=>qnA W (some ⟨g,0,none⟩) j cap i (by omega);rw [hcut]at s1;have hR0:=HR.out;unfold RowN at hR0;rw [hxl]at hR0
    have hcl: ∀ty,(Builtin.clear_ #[23] ty #[.slice (some ⟨g,i*12,none⟩) (j-i) (cap-i)]).run Tryz.prog wr= .ok (.tuple #[]) (wr.setCells g (i*12) (Builtin.zeroCells qdZ (j-i)).toList):=
     fun ty=>qmK wr ty g (i*12) (j-i) (cap-i) (by omega) (fun q hq=>by
      rw [World.ownsRow.cellAt hR0 (i*12+q) (by omega),List.getElem?_eq_getElem (by rw [qbT,hxl];omega)];rfl) (fun q hq=>World.ownsRow.frozenAt hR0 _)
    have s2:=fun W=>qt8 W (some ⟨g,0,none⟩) j cap i (by omega);have HRf:=Lib.hid ((HR.out.short hxl i (by omega)).setFar (by rw [List.length_take,hxl];omega) (i*12) (Nat.le_refl _) (Builtin.zeroCells qdZ (j-i)).toList);have HDf:Hid (∀y∈xs'.take i,OwnB (wr.setCells g (i*12) (Builtin.zeroCells qdZ (j-i)).toList) B y.2 y.1.data):=fun y hy=>(HDT.out y (HM.out y hy)).setAway HR.out _ _;have HBf:=Lib.hid (Below.setMany hgB (Builtin.zeroCells qdZ (j-i)).toList wr (i*12) HB.out)
    have HV:Hid ((xs'.take i).map (·.1)=(xs.map (·.1)).filter (fun x=> !P x)):=by
     unfold Hid;rw [HT.out,List.take_of_length_le (by rw [HN.out];omega),zbN]
    obtain ⟨Z,hZ⟩:=qaA (Builtin.zeroCells qdZ (j-i)).toList;obtain ⟨jm,hjm⟩:=qaA (j-i);obtain ⟨cm,hcm⟩:=qaA (cap-i);rw [hZ.out]at HRf HDf HBf;simp only [hjm.out,hcm.out]at s1;simp only [hZ.out]at hcl;simp only [hjm.out,hcm.out]at hcl;clear hcut hR0 hxl;go_wp2_with fail;go_ret;exact ⟨_,rfl,xs'.take i,HV.out,⟨HRf.out,HDf.out⟩,HBf.out⟩
 ·have HV:=Lib.hid (zbO (P:=P) (xs:=xs) (by rw [HN.out];exact heq));rw [qxB (by rw [List.length_map,HN.out];exact heq)]at HIx;clear hle heq;go_enter Tryz.func41,Tryz.ntmps41;go_wp2_with fail;refine HIx.out.mono ?_;rintro e w1 ⟨rfl,hb⟩;have HB1:Hid (Below B w w1):=hb.mono hB;have HO1:=Lib.hid (HO.out.below hb);clear hb;go_wp2_with fail;go_ret;exact ⟨_,xs,rfl,HV.out.symm,HO1.out,HB1.out⟩
theorem q96 {l:List NodeV} {s:List UInt8} (h:qaO l≠0):remT l s=([],qaO l):=if_pos h
theorem q4N {l:List NodeV} {s:List UInt8} (h:qaO l=0) (h2:qaR l s=l.length):remT l s=([],5):=by unfold remT;rw [if_neg (by simp [h]),if_pos h2]
theorem q4M {l:List NodeV} {s:List UInt8} (h:qaO l=0) (h2:qaR l s≠l.length):remT l s=(remL l s,0):=by unfold remT;rw [if_neg (by simp [h]),if_neg h2]
theorem qzN (b g:Nat) (hne:b≠g) (v:Value) (W:World) (o:Nat) (vs:List Value) (h:W.cell? ⟨b,0,none⟩=some v):(W.setCells g o vs).cell? ⟨b,0,none⟩=some v:=by
 rw [World.cell?_setCells_out g vs o W ⟨b,0,none⟩ (fun e=>absurd e hne)];exact h
set_option maxHeartbeats 4000000 in
theorem q2W (A:Option Addr) (n c:Nat) (l:List NodeV) (s:ByteArray) (hn:l.length=n) (hm:n*144≤140737488351232) (hc:SlOk A n c) (hsz: ∀x∈l,x.sz) (hs:s.size≤maxLen) (w:World) (hA:qaJ w A l):
  Calls Tryz.prog 80 #[.slice A n c,.string s] w fun e w'=> ∃v xs,e= .returned (.tuple #[v,.int .i64 (remT l s.data.toList).2])∧xs.map (·.1)=(remT l s.data.toList).1∧OwnN w' w.heap.size v xs∧Below w.heap.size w w':=by
 have HA:=Lib.hid hA;have HN:=Lib.hid hn;have HCk:=Lib.hid fun W h=>qcR A n c l hn hc hsz W h;have HFd:=Lib.hid fun W h=>qgD A n c l s hn (by omega) hsz W h;have HCp:=Lib.hid fun W h=>qjX A n c l hn hm hsz W h;have HSZ:=Lib.hid hsz;have hle:=qeB l s.data.toList;rw [hn]at hle
 by_cases h0:qaO l=0
 ·have h40:n≤40:=by have:=((qaT l).1 h0).1;omega
  by_cases hlt:qaR l s.data.toList<n
  ·have HV:=Lib.hid (q4M (s:=s.data.toList) h0 (by rw [hn];omega));have hn0:0<n:=by omega
   simp only [if_pos hlt]at HFd;rw [h0]at HCk;generalize qaR l s.data.toList=fi at*;clear h0 hA hn hsz hc hle hlt;go_enter Tryz.func80,Tryz.ntmps80;go_wp2_with fail;refine (HCk.out _ HA.out).mono ?_;rintro e w1 ⟨rfl,hb⟩;have HB1:=Lib.hid hb;clear hb;go_wp2_with fail;refine (HFd.out _ (HA.out.below HB1.out)).mono ?_;rintro e w2 ⟨rfl,hb⟩;have HB2:=Lib.hid (HB1.out.trans (hb.mono HB1.out.size));clear hb;go_wp2_with fail;refine (HCp.out _ (HA.out.below HB2.out)).mono ?_;rintro e w3 ⟨v3,xs3,rfl,hx3,hO3,hb⟩;have HB3:=Lib.hid (HB2.out.trans (hb.mono HB2.out.size));have hl3:xs3.length=n:=by rw [←HN.out,←hx3,List.length_map]
   obtain ⟨g,cap,rfl,hgB,hgl,-,-⟩:=hO3.1.row (by omega);rw [hl3]at hO3⊢;have HX3:=Lib.hid hx3;have HO3:Hid (OwnN (w3.alloc (.cells #[.string s] 9)) w.heap.size (.slice (some ⟨g,0,none⟩) n cap) xs3):=(hO3.mono HB2.out.size).alloc _;have HB4:=Lib.hid (qaL HB3.out (.cells #[.string s] 9));have hne:w3.heap.size≠g:=by omega
   have HDl:=Lib.hid (qqQ 177 (.pointer (some ⟨w3.heap.size,0,none⟩)) (fun x=>decide (x.path=s.data.toList)||inB x.path s.data.toList) (fun W=>W.cell? ⟨w3.heap.size,0,none⟩=some (.string s)) g (qdU _ _) (qzN _ _ hne _) (fun x D c W h hx=>q5C s hs _ x hx D c W h) (enters_of Tryz.func177 (by kernel_rfl) rfl)
    w.heap.size n cap xs3 hl3 (by omega) (fun y hy=>HSZ.out y.1 (by rw [←HX3.out];exact List.mem_map_of_mem hy)) (w3.alloc (.cells #[.string s] 9)) HO3.out HB4.out.size (Blk.new w3 9 #[.string s]|>.cell 0))
   clear hx3 hO3 hb hgB hgl hl3 hne;go_wp2_with fail;refine (q5B s _).mono ?_;rintro e w4 ⟨rfl,rfl⟩;go_wp2_with fail;refine HDl.out.mono ?_;rintro e w5 ⟨v5,xs5,rfl,hx5,hO5,hb⟩;have HX5:=Lib.hid hx5;have HO5:=Lib.hid hO5;have HB5:=Lib.hid (HB4.out.trans hb);clear hx5 hO5 hb;go_wp2_with fail;go_ret2;exact ⟨_,xs5,by rw [HV.out];rfl,by rw [HV.out,HX5.out,HX3.out];rfl,HO5.out,HB5.out⟩
  ·have HV:=Lib.hid (q4N (s:=s.data.toList) h0 (by rw [hn];omega));simp only [if_neg hlt]at HFd;rw [h0]at HCk;clear h0 hA hn hsz hc hle hlt HCp;go_enter Tryz.func80,Tryz.ntmps80;go_wp2_with fail;refine (HCk.out _ HA.out).mono ?_;rintro e w1 ⟨rfl,hb⟩;have HB1:=Lib.hid hb;clear hb;go_wp2_with fail;refine (HFd.out _ (HA.out.below HB1.out)).mono ?_;rintro e w2 ⟨rfl,hb⟩;have HB2:=Lib.hid (HB1.out.trans (hb.mono HB1.out.size));clear hb;go_wp2_with fail;go_ret2;exact ⟨_, [],by rw [HV.out];rfl,by rw [HV.out];rfl,OwnN.nil _ _,HB2.out⟩
 ·have HV:=Lib.hid (q96 (s:=s.data.toList) h0);have h1:(qaO l !=0)=true:=by simpa using h0
  generalize qaO l=t at*;clear h0 hA hn hsz hc hle HCp HFd;go_enter Tryz.func80,Tryz.ntmps80;go_wp2_with fail;refine (HCk.out _ HA.out).mono ?_;rintro e w1 ⟨rfl,hb⟩;have HB1:=Lib.hid hb;clear hb;go_wp2_with fail;go_ret2;exact ⟨_, [],by rw [HV.out];rfl,by rw [HV.out];rfl,OwnN.nil _ _,HB1.out⟩
theorem Dat.byts {w:World} {B:Nat} {d:Option Nat×Nat×Nat} {l:List UInt8} (h:Dat w B d l):SlOk (adr d.1) l.length d.2.2∧qaE w (adr d.1) l:=by
 obtain ⟨h1,h2,h3,h4,h5⟩:=h;refine ⟨⟨h2,h3,fun e=>h4 (by cases hd:d.1 with|none=>rfl|some g=>rw [hd]at e;cases e)⟩,fun j hj=> ?_⟩;obtain ⟨g,cur,fr,e,_,hg,hc⟩:=h5 (by omega);refine ⟨g,0,by rw [e];rfl,?_⟩;rw [Nat.zero_add,cell_of_row w g j cur 5 fr hg];have h6:=congrArg (fun (x:List Value)=>x[j]?) hc;simp only [List.getElem?_take_of_lt hj,Array.getElem?_toList]at h6;rw [h6,qeJ l j hj];simp [qeS,hj]
theorem qsZ.tree {w w':World} {m:Nat} {rs:List RawV} {v:Value} {ys:List qa3} (h:qsZ w m rs v ys w'):
  ∃(l:List NodeV) (A:Option Addr) (c:Nat),l.Perm (qcI m rs).1∧v= .slice A l.length c∧SlOk A l.length c∧qaJ w' A l∧l.length≤m∧Sound l∧(∀x∈l,x.sz)∧Below w.heap.size w w':=by
 obtain ⟨h1,h2,h3,h4,h5⟩:=h
 have hs: ∀i j (hi:i<j) (hj:j<(ys.map fun y:qa3=>y.1).length),pcmp ((ys.map fun y:qa3=>y.1)[i]'(by omega)).path (ys.map fun y:qa3=>y.1)[j].path≤0:=fun i j hi hj=>by
  rw [List.getElem_map,List.getElem_map];exact h3 i j hi (by simpa using hj)
 obtain ⟨h6,h7⟩:=qn7 h2 hs
 have hform: ∃A c,v= .slice A ys.length c∧SlOk A ys.length c∧qaJ w' A (ys.map fun y:qa3=>y.1):=by
  have h1':=h1;unfold qeU World.ownsRow at h1;rcases h1.2 with ⟨rfl,h0⟩|⟨g,cap,cur,rfl,hB,hg,hcap,hm,hsz,ht⟩
  ·have e:=List.eq_nil_of_length_eq_zero h0;subst e;exact ⟨none,0,rfl,⟨Nat.le_refl _,by decide,fun _=>rfl⟩,qaJ.nil _ _⟩
  ·refine ⟨some ⟨g,0,none⟩,cap,rfl,⟨hcap,hm,fun e=>by cases e⟩,fun j hj=> ?_⟩;have hj':j<ys.length:=by simpa using hj
   have hy:=h4 _ (List.getElem_mem hj');rw [List.getElem_map];refine ⟨g,0,adr ys[j].2.1,ys[j].2.2.2,rfl,fun i hi=> ?_,hy.1.byts.1,hy.1.byts.2⟩;rcases h1'.any with ⟨e,-⟩|⟨g2,cap2,e,-,-,-,hcell⟩
   ·cases e
   ·injection e with e _ _
    injection e with e
    injection e with e
    subst e;rw [Nat.zero_add,(hcell j i hj' hi).1];have hk:keyL ys[j]=ys[j].1.path:=List.take_of_length_le hy.2.1;unfold encN nodC;rw [hk,hy.1.1]
    rfl
 obtain ⟨A,c,e1,e2,e3⟩:=hform;refine ⟨ys.map fun y:qa3=>y.1,A,c,h2,by rw [List.length_map];exact e1,by rw [List.length_map];exact e2,e3,h6,h7,fun x hx=> ?_,h5⟩;exact qiF (h7.node x hx)
set_option maxHeartbeats 4000000 in
theorem quJ (x y:NodeV) (D E:Option Addr) (c d:Nat) (w:World) (hD:qaE w D x.data) (hE:qaE w E y.data):Calls Tryz.prog 50 #[.agg (nodC x D c).toArray,.agg (nodC y E d).toArray] w fun e w'=>e= .returned (.bool (decide (x=y)))∧Below w.heap.size w w':=by
 have hq:=qy1 x.md y.md
 have hx:decide (x=y)=(decide (x.path=y.path) &&(decide (x.kind=y.kind) &&(decide (x.same=y.same) &&(decide (x.target=y.target) &&(metB x.md y.md&&decide (x.data=y.data)))))):=by
  rw [Bool.eq_iff_iff,decide_eq_true_eq,←NodeV.ext_iff'];unfold metB;simp only [Bool.and_eq_true,decide_eq_true_eq]
 have q1:=qoG (a:=x.path) (b:=y.path);have q4:=qoG (a:=x.target) (b:=y.target);have q6:=qoG (a:=x.data) (b:=y.data);have hw2: ∀o o',Below w.heap.size w ((w.alloc o).alloc o'):=fun o o'=>qaL (qaL (Below.refl _ _) o) o';have HW2:=Lib.hid hw2;have k1:=fun o o'=>(hD.below (hw2 o o')).conv c (fun e=>by subst e;exact hD.none_nil);have k2:=fun o o'=>(hE.below (hw2 o o')).conv d (fun e=>by subst e;exact hE.none_nil);obtain ⟨xp,xk,xs,xt,⟨x0,x1,x2,x3,x4,x5,x6⟩,xd⟩:=x;obtain ⟨yp,yk,ys,yt,⟨y0,y1,y2,y3,y4,y5,y6⟩,yd⟩:=y;simp only at hq hx q1 q4 q6 k1 k2;generalize metB _ _=mb at hq hx;rw [hx];unfold nodC;unfold metA at hq;simp only at hq⊢;obtain ⟨P,hP⟩:=qaA (bs xp);obtain ⟨Q,hQ⟩:=qaA (bs yp);obtain ⟨T,hT⟩:=qaA (bs xt);obtain ⟨U,hU⟩:=qaA (bs yt);obtain ⟨M,hM⟩:=qaA (bs xd);obtain ⟨N,hN⟩:=qaA (bs yd);rw [hP.out,hQ.out]at q1;rw [hT.out,hU.out]at q4;rw [hM.out,hN.out]at q6;simp only [hM.out]at k1;simp only [hN.out]at k2;rw [hP.out,hQ.out,hT.out,hU.out];generalize decide (xd=yd)=db at q6⊢;generalize xd.length=L at k1⊢;generalize yd.length=L2 at k2⊢;clear hx hw2 hD hE hP hQ hT hU hM hN
 by_cases e1:xp=yp
 ·rw [decide_eq_true e1]at q1⊢;clear e1
  by_cases e2:xk=yk
  ·subst e2
   by_cases e3:xs=ys
   ·subst e3
    by_cases e4:xt=yt
    ·rw [decide_eq_true e4]at q4⊢;clear e4;cases mb
     ·simp only [decide_true,Bool.true_and,Bool.false_and];clear k1 k2 q6;go_enter Tryz.func50,Tryz.ntmps50;go_wp2_with fail;go_ret;exact ⟨rfl,HW2.out _ _⟩
     ·simp only [decide_true,Bool.true_and];have Q6:=Lib.hid q6;clear q6;go_enter Tryz.func50,Tryz.ntmps50;go_wp2_with fail;go_ret;exact ⟨qcA Q6.out,HW2.out _ _⟩
    ·rw [decide_eq_false e4]at q4⊢;simp only [decide_true,Bool.true_and,Bool.false_and];clear e4 k1 k2 q6;go_enter Tryz.func50,Tryz.ntmps50;go_wp2_with fail;go_ret;exact ⟨rfl,HW2.out _ _⟩
   ·rw [decide_eq_false e3];simp only [decide_true,Bool.true_and,Bool.false_and];have e3b:(xs==ys)=false:=by simpa using e3
    clear e3 k1 k2 q6;go_enter Tryz.func50,Tryz.ntmps50;go_wp2_with fail;go_ret;exact ⟨rfl,HW2.out _ _⟩
  ·rw [decide_eq_false e2];simp only [Bool.true_and,Bool.false_and];have e2b:(xk==yk)=false:=by simpa using e2
   clear e2 k1 k2 q6;go_enter Tryz.func50,Tryz.ntmps50;go_wp2_with fail;go_ret;exact ⟨rfl,HW2.out _ _⟩
 ·rw [decide_eq_false e1]at q1⊢;simp only [Bool.false_and];clear e1 k1 k2 q6;go_enter Tryz.func50,Tryz.ntmps50;go_wp2_with fail;go_ret;exact ⟨rfl,HW2.out _ _⟩
def mdZ:MetaV:=⟨0,0,0, [], [],0,0⟩
def smA:NodeV:=⟨[97],2,0, [],mdZ, []⟩
def smB:NodeV:=⟨[97,47,98],1,0, [],mdZ, [120]⟩
def smC:NodeV:=⟨[99],3,0, [97,47,98],mdZ, []⟩
theorem q9Q (W:World) (g:Nat) (hd:qaE W (some ⟨g,0,none⟩) [120]):qaJ (W.alloc (.cells #[.string ⟨#[97]⟩,.int .i64 2,.int .i64 0,.string ⟨#[]⟩,.int .i64 0,.int .i64 0,.int .i64 0,.string ⟨#[]⟩,.string ⟨#[]⟩,.int .i64 0,.int .i64 0,.slice none 0 0,.string ⟨#[97,47,98]⟩,.int .i64 1,.int .i64 0,.string ⟨#[]⟩,.int .i64 0,.int .i64 0,.int .i64 0,.string ⟨#[]⟩,.string ⟨#[]⟩,.int .i64 0,.int .i64 0,.slice (some ⟨g,0,none⟩) 1 1,.string ⟨#[99]⟩,.int .i64 3,.int .i64 0,.string ⟨#[97,47,98]⟩,.int .i64 0,.int .i64 0,.int .i64 0,.string ⟨#[]⟩,.string ⟨#[]⟩,.int .i64 0,.int .i64 0,.slice none 0 0] 49)) (some ⟨W.heap.size,0,none⟩) [smA,smB,smC]:=by
 have hb:=Blk.new W 49 #[.string ⟨#[97]⟩,.int .i64 2,.int .i64 0,.string ⟨#[]⟩,.int .i64 0,.int .i64 0,.int .i64 0,.string ⟨#[]⟩,.string ⟨#[]⟩,.int .i64 0,.int .i64 0,.slice none 0 0,.string ⟨#[97,47,98]⟩,.int .i64 1,.int .i64 0,.string ⟨#[]⟩,.int .i64 0,.int .i64 0,.int .i64 0,.string ⟨#[]⟩,.string ⟨#[]⟩,.int .i64 0,.int .i64 0,.slice (some ⟨g,0,none⟩) 1 1,.string ⟨#[99]⟩,.int .i64 3,.int .i64 0,.string ⟨#[97,47,98]⟩,.int .i64 0,.int .i64 0,.int .i64 0,.string ⟨#[]⟩,.string ⟨#[]⟩,.int .i64 0,.int .i64 0,.slice none 0 0];have hbel:=qaL (Below.refl W.heap.size W) (.cells #[.string ⟨#[97]⟩,.int .i64 2,.int .i64 0,.string ⟨#[]⟩,.int .i64 0,.int .i64 0,.int .i64 0,.string ⟨#[]⟩,.string ⟨#[]⟩,.int .i64 0,.int .i64 0,.slice none 0 0,.string ⟨#[97,47,98]⟩,.int .i64 1,.int .i64 0,.string ⟨#[]⟩,.int .i64 0,.int .i64 0,.int .i64 0,.string ⟨#[]⟩,.string ⟨#[]⟩,.int .i64 0,.int .i64 0,.slice (some ⟨g,0,none⟩) 1 1,.string ⟨#[99]⟩,.int .i64 3,.int .i64 0,.string ⟨#[97,47,98]⟩,.int .i64 0,.int .i64 0,.int .i64 0,.string ⟨#[]⟩,.string ⟨#[]⟩,.int .i64 0,.int .i64 0,.slice none 0 0] 49);have hnil:SlOk (none:Option Addr) 0 0:=⟨Nat.le_refl _,by decide,fun _=>rfl⟩;intro j hj
 match j,hj with
 |0,_=>
  refine ⟨W.heap.size,0,none,0,rfl,fun i hi=> ?_,hnil,qaE.nil _ _⟩;show World.cell? _ ⟨W.heap.size,0+0*12+i,none⟩=(nodC smA none 0)[i]?
  match i,hi with
   |0,_=>exact (hb.cell 0).trans rfl
   |1,_=>exact (hb.cell 1).trans rfl
   |2,_=>exact (hb.cell 2).trans rfl
   |3,_=>exact (hb.cell 3).trans rfl
   |4,_=>exact (hb.cell 4).trans rfl
   |5,_=>exact (hb.cell 5).trans rfl
   |6,_=>exact (hb.cell 6).trans rfl
   |7,_=>exact (hb.cell 7).trans rfl
   |8,_=>exact (hb.cell 8).trans rfl
   |9,_=>exact (hb.cell 9).trans rfl
   |10,_=>exact (hb.cell 10).trans rfl
   |11,_=>exact (hb.cell 11).trans rfl
 |1,_=>
  refine ⟨W.heap.size,0,some ⟨g,0,none⟩,1,rfl,fun i hi=> ?_,⟨Nat.le_refl _,by decide,fun e=>by cases e⟩,hd.below hbel⟩;show World.cell? _ ⟨W.heap.size,0+1*12+i,none⟩=(nodC smB (some ⟨g,0,none⟩) 1)[i]?
  match i,hi with
   |0,_=>exact (hb.cell 12).trans rfl
   |1,_=>exact (hb.cell 13).trans rfl
   |2,_=>exact (hb.cell 14).trans rfl
   |3,_=>exact (hb.cell 15).trans rfl
   |4,_=>exact (hb.cell 16).trans rfl
   |5,_=>exact (hb.cell 17).trans rfl
   |6,_=>exact (hb.cell 18).trans rfl
   |7,_=>exact (hb.cell 19).trans rfl
   |8,_=>exact (hb.cell 20).trans rfl
   |9,_=>exact (hb.cell 21).trans rfl
   |10,_=>exact (hb.cell 22).trans rfl
   |11,_=>exact (hb.cell 23).trans rfl
 |2,_=>
  refine ⟨W.heap.size,0,none,0,rfl,fun i hi=> ?_,hnil,qaE.nil _ _⟩;show World.cell? _ ⟨W.heap.size,0+2*12+i,none⟩=(nodC smC none 0)[i]?
  match i,hi with
   |0,_=>exact (hb.cell 24).trans rfl
   |1,_=>exact (hb.cell 25).trans rfl
   |2,_=>exact (hb.cell 26).trans rfl
   |3,_=>exact (hb.cell 27).trans rfl
   |4,_=>exact (hb.cell 28).trans rfl
   |5,_=>exact (hb.cell 29).trans rfl
   |6,_=>exact (hb.cell 30).trans rfl
   |7,_=>exact (hb.cell 31).trans rfl
   |8,_=>exact (hb.cell 32).trans rfl
   |9,_=>exact (hb.cell 33).trans rfl
   |10,_=>exact (hb.cell 34).trans rfl
   |11,_=>exact (hb.cell 35).trans rfl
theorem q36 (w:World):Calls Tryz.prog 46 #[] w fun e w'=> ∃g,e= .returned (.slice (some ⟨g,0,none⟩) 3 3)∧qaJ w' (some ⟨g,0,none⟩) [smA,smB,smC]∧Below w.heap.size w w':=by
 have hcv:=Go.Joins.run_convert_bytes_const_at (P:=Tryz.prog) w 22 5 #[.int .u8 120] 1 1 w.heap.size rfl Tryz.underlying22 Tryz.underlying5;have HB:Hid (Below w.heap.size w (w.alloc (.cells #[.int .u8 120] 5 (1,2)))):=qaL (Below.refl _ _) _
 have HD:Hid (qaE (w.alloc (.cells #[.int .u8 120] 5 (1,2))) (some ⟨w.heap.size,0,none⟩) [120]):=fun j hj=>by
  match j,hj with
  |0,_=>exact ⟨w.heap.size,0,rfl,(World.cell?_alloc_mark w _ _ _ 0).trans rfl⟩
 go_enter Tryz.func46,Tryz.ntmps46;go_wp2_with fail;go_ret;refine ⟨w.heap.size+1,rfl,?_,qaL HB.out _⟩;have:=q9Q _ w.heap.size HD.out
 rwa [hszA]at this
theorem qj1 {l:List NodeV} (h:Sound l) (hl:l.length≤40):qaO l=0:=(qaT l).2 ⟨hl,h⟩
theorem qjP (A:Option Addr) (n c:Nat) (rs:List RawV) (hn:rs.length=n) (hn2:n≤140737488355328) (hwf: ∀r∈rs,r.wf) (m:Nat) (hm:m≤1000) (w:World) (hA:qd6 w A rs):
  Calls Tryz.prog 19 #[.slice A n c,.int .i64 m] w fun e w'=> ∃(l:List NodeV) (T:Option Addr) (k d:Nat),e= .returned (.slice T k d)∧l.length=k∧l.Perm (qcI m rs).1∧SlOk T k d∧qaJ w' T l∧k≤m∧Sound l∧(∀x∈l,x.sz)∧Below w.heap.size w w':=
 (qzX A n c rs hn hn2 hwf m hm w hA).mono fun e w' ⟨v,ys,he,ho⟩=>by
  obtain ⟨l,T,d,h1,h2,h3,h4,h5,h6,h7,h8⟩:=ho.tree;exact ⟨l,T,l.length,d,by rw [he,h2],rfl,h1,h3,h4,h5,h6,h7,h8⟩
theorem qyW {l:List NodeV} (h:Sound l) {x:NodeV} (hx:x∈l):(bs x.path).size≤400:=by rw [qaC];exact qe1 (h.node x hx)
end Go.Proofs.YtapgoifimhnbdaaGreatDoor
