/- qaV of one kind, in one file: TrgB, TrgA, TrgC, TrgD, TrgG, TrgH, TrgI, TrgK, TrgL. -/
import Derived.Test.YtapgoifimhnbdaaGreatDoorEne
import Derived.Test.YtapgoifimhnbdaaGreatDoorEnc
import Derived.Test.YtapgoifimhnbdaaGreatDoorPth
import Derived.Deep.DeepCutAuto
import Derived.Test.YtapgoifimhnbdaaGreatDoorSpl
import Derived.Test.YtapgoifimhnbdaaGreatDoorMet
import Derived.Test.YtapgoifimhnbdaaGreatDoorBas
import Derived.MapKept
import Derived.Carry
import Derived.Test.YtapgoifimhnbdaaGreatDoorEnf
import Derived.Test.YtapgoifimhnbdaaGreatDoorMth
import Derived.Deep.RegionHeld3
import Derived.Deep.RegionWith
import Derived.Deep.QuietTactic
import Derived.BigQuiet
import Derived.Lib.AppendZeros
import Derived.Lib.SliceRun
import Derived.Deep.Upon
set_option linter.unusedVariables false
set_option maxRecDepth 100000
namespace Go.Proofs.YtapgoifimhnbdaaGreatDoor
open Go.RowKit
open Go.OpenShut
theorem q6I {P:NodeV→Bool} {l:List NodeV} {k:Nat} (hk:k<l.length) (h:k≤l.findIdx P) (hp:P l[k]=true):l.findIdx P=k:=by
 rcases Nat.lt_or_eq_of_le h with h'|h'
 ·exact absurd hp (by simpa using List.not_of_lt_findIdx h')
 ·exact h'.symm
theorem q6J {P:NodeV→Bool} {l:List NodeV} {k:Nat} (hk:k<l.length) (h:k≤l.findIdx P) (hp:P l[k]=false):k+1≤l.findIdx P:=by
 rcases Nat.lt_or_eq_of_le h with h'|h'
 ·exact h'
 ·have h1:l.findIdx P<l.length:=by omega
  have:=List.findIdx_getElem (w:=h1);simp only [←h']at this;rw [hp]at this;cases this
theorem q7Y (P:NodeV→Bool) (l:List NodeV):l.findIdx P≤l.length:=List.findIdx_le_length
def idxI (P:NodeV→Bool) (l:List NodeV):Int:=if l.findIdx P<l.length then (l.findIdx P:Int)else-1
theorem qqV {P:NodeV→Bool} {l:List NodeV} (h:l.findIdx P<l.length):idxI P l=(l.findIdx P:Nat):=if_pos h
theorem qu2 {P:NodeV→Bool} {l:List NodeV} (h:l.findIdx P=l.length):idxI P l= -1:=if_neg (by omega)
theorem q3L (l:List NodeV) (s:List UInt8):qb7 l s=l.findIdx fun n=>decide (n.path=s):=by
 induction l with
 |nil=>rfl
 |cons a l ih=>
  rw [List.findIdx_cons];unfold qb7 at*;rw [List.takeWhile_cons]
  by_cases e:a.path=s
  ·simp [e]
  ·simp [e,ih]
set_option maxHeartbeats 2000000 in
theorem qjO (f:Nat) (p:Value) (P:NodeV→Bool) (I:World→Prop) (hI: ∀W W',I W→Below W.heap.size W W'→I W')
  (hf: ∀(x:NodeV) (D:Option Addr) (c:Nat) (W:World),I W→x.sz→Calls Tryz.prog f #[.agg (nodC x D c).toArray,p] W fun e w'=>e= .returned (.bool (P x))∧Below W.heap.size W w')
  (ef: ∀args w,(callFunc f args).run Tryz.prog w= .ok (.enter f args) w)
  (A:Option Addr) (n c:Nat) (l:List NodeV) (hn:l.length=n) (hm:n≤140737488355328) (hsz: ∀x∈l,x.sz) (w:World) (hw:I w) (hA:qb3 w A l):
  Calls Tryz.prog 52 #[.slice A n c,.func (.func f) #[] #[p]] w fun e w'=>e= .returned (.int .i64 (idxI P l))∧Below w.heap.size w w':=by
 have HN:=Lib.hid hn;have HA:=Lib.hid hA;have HF:=Lib.hid hf;have HI:=Lib.hid hI;have HW:=Lib.hid hw;have HSZ:=Lib.hid hsz;clear hn hA hf hI hw hsz;go_enter Tryz.func52,Tryz.ntmps52;go_wp2_with fail
 go_loopw [8] (fun i wr=> ∃k:Nat,k≤n∧i= .int .i64 k∧Hid (k≤l.findIdx P)∧Hid (Below w.heap.size w wr)) (fun i _=>n-(intOf i).toNat)
 case atStart=>exact ⟨0,Nat.zero_le _,rfl,Nat.zero_le _,Below.refl _ _⟩
 case round=>
  obtain ⟨k,hk,rfl,HK,HB⟩:=hrel
  by_cases hlt:k<n
  ·have hk1:k<l.length:=by rw [HN.out];exact hlt
   obtain ⟨b,o,D,cc,rfl,c0,c1,c2',c3,⟨c4,c5,c6,c7,c8,c9,cA⟩,cB,-,hD⟩:=(HA.out.below HB.out).cells k hk1;have HC:=Lib.hid (HF.out l[k] D cc wr (HI.out _ _ HW.out HB.out) (HSZ.out _ (List.getElem_mem hk1)));have HS0:=Lib.hid fun h=>q6I hk1 HK.out h;have HS1:=Lib.hid fun h=>q6J hk1 HK.out h;generalize hx:l[k]=x at*;unfold nodC at HC;clear hx hD;obtain ⟨q,hq⟩: ∃q,q=P x:=⟨_,rfl⟩;rw [←hq]at HC HS0 HS1;clear hq;cases q with
   |true=>
    have HV:Hid (idxI P l=(k:Nat)):=by
     have:=HS0.out rfl;unfold Hid;rw [qqV (by omega),this]
    clear HS0 HS1;go_wp2_with fail;refine HC.out.mono ?_;rintro e w1 ⟨rfl,hb⟩;have HB1:=Lib.hid (HB.out.trans (hb.mono HB.out.size));clear hb c0 c1 c2' c3 c4 c5 c6 c7 c8 c9 cA cB;go_wp2_with fail;go_ret;exact ⟨qaR (by rw [HV.out]),HB1.out⟩
   |false=>
    have HK1:=Lib.hid (HS1.out rfl);clear HS0 HS1;go_wp2_with fail;refine HC.out.mono ?_;rintro e w1 ⟨rfl,hb⟩;have HB1:=Lib.hid (HB.out.trans (hb.mono HB.out.size));clear hb c0 c1 c2' c3 c4 c5 c6 c7 c8 c9 cA cB;go_wp2_with fail;go_roundw
    case rel=>exact ⟨k+1,by omega,by go_num,HK1,HB1⟩
    case measure=>simp [intOf];omega
  ·obtain rfl:k=n:=by omega
   have HV:Hid (idxI P l= -1):=by
    have:=q7Y P l;have h2:=HK.out;have h3:=HN.out;unfold Hid;exact qu2 (by omega)
   go_wp2_with fail;go_ret;exact ⟨qaR (by rw [HV.out]),HB.out⟩
theorem at1_any (s:ByteArray) (b:Nat) (x:NodeV) (D:Option Addr) (c:Nat) (W:World) (hc:W.cell? ⟨b,0,none⟩=some (.string s)):
  Calls Tryz.prog 114 #[.agg (nodC x D c).toArray,.pointer (some ⟨b,0,none⟩)] W fun e w'=>e= .returned (.bool (decide (x.path=s.data.toList)))∧Below W.heap.size W w':=by
 have q:=qn3 (a:=x.path) (b:=s.data.toList);rw [qcJ]at q;obtain ⟨path,kind,same,target,⟨m0,m1,m2,m3,m4,m5,m6⟩,data⟩:=x;unfold nodC;simp only at q⊢;obtain ⟨P,hP⟩:=qaA (bs path);rw [hP.out]at q⊢;generalize decide (path=s.data.toList)=r at q⊢;have hlt:b<W.heap.size:=World.block_lt_of_cell? W _ hc;have hne:b≠W.heap.size:=by omega
 have HW:=Lib.hid fun o=>qbF (Below.refl W.heap.size W) o;have hc1: ∀o,(W.alloc o).cell? ⟨b,0,none⟩=some (.string s):=fun o=>by rw [World.cell?_alloc_old _ _ _ (by show b≠_;omega)];exact hc
 have HQ:=Lib.hid q;clear hP hlt q;go_enter Tryz.func114,Tryz.ntmps114;go_wp2_with fail;go_ret;exact ⟨qa7 HQ.out,HW.out _⟩
theorem q38 (s:ByteArray) (w:World):Calls Tryz.prog 70 #[.string s] w fun e w'=>e= .returned (.func (.func 114) #[] #[.pointer (some ⟨w.heap.size,0,none⟩)])∧w'=w.alloc (.cells #[.string s] 9):=by
 go_enter Tryz.func70,Tryz.ntmps70;go_wp2_with fail;go_ret;exact ⟨rfl,rfl⟩
theorem qfH (b:Nat) (v:Value): ∀W W':World,W.cell? ⟨b,0,none⟩=some v→Below W.heap.size W W'→W'.cell? ⟨b,0,none⟩=some v:=fun W W' h hb=>
 (hb.cell (p:=⟨b,0,none⟩) (World.block_lt_of_cell? W _ h)).trans h
theorem q7I (A:Option Addr) (n c:Nat) (l:List NodeV) (s:ByteArray) (hn:l.length=n) (hm:n≤140737488355328) (hsz: ∀x∈l,x.sz) (w:World) (hA:qb3 w A l):
  Calls Tryz.prog 25 #[.slice A n c,.string s] w fun e w'=>e= .returned (if qb7 l s.data.toList<n then .tuple #[.int .i64 (qb7 l s.data.toList:Nat),.int .i64 0]else .tuple #[.int .i64 0,.int .i64 5])∧Below w.heap.size w w':=by
 have hb0:Below w.heap.size w (w.alloc (.cells #[.string s] 9)):=qbF (Below.refl _ _) _;have HI:=Lib.hid (qjO 114 (.pointer (some ⟨w.heap.size,0,none⟩)) (fun x=>decide (x.path=s.data.toList)) (fun W=>W.cell? ⟨w.heap.size,0,none⟩=some (.string s)) (qfH _ _) (fun x D c W h _=>at1_any s _ x D c W h) (enters_of Tryz.func114 (by kernel_rfl) rfl) A n c l hn hm hsz (w.alloc (.cells #[.string s] 9)) (Blk.new w 9 #[.string s]|>.cell 0) (hA.below hb0));have HB0:=Lib.hid hb0;have HX:=Lib.hid (q3L l s.data.toList);have hle:=qjH l s.data.toList;rw [hn]at hle
 by_cases hlt:qb7 l s.data.toList<n
 ·rw [if_pos hlt]
  have HV:Hid (idxI (fun x=>decide (x.path=s.data.toList)) l=(qb7 l s.data.toList:Nat)):=by
   unfold Hid;rw [qqV (by rw [←HX.out,hn];exact hlt),←HX.out]
  rw [HV.out]at HI;generalize qb7 l s.data.toList=f at*;clear HV HX hA hsz hb0 hle hlt;go_enter Tryz.func25,Tryz.ntmps25;go_wp2_with fail;refine (q38 s _).mono ?_;rintro e w1 ⟨rfl,rfl⟩;go_wp2_with fail;refine HI.out.mono ?_;rintro e w1 ⟨rfl,hb⟩;have HB:=Lib.hid (HB0.out.trans (hb.mono HB0.out.size));clear hb;go_wp2_with fail;go_ret2;exact ⟨rfl,HB.out⟩
 ·rw [if_neg hlt]
  have HV:Hid (idxI (fun x=>decide (x.path=s.data.toList)) l= -1):=by
   unfold Hid;exact qu2 (by rw [←HX.out,hn];omega)
  rw [HV.out]at HI;clear HV HX hA hsz hb0 hle hlt;go_enter Tryz.func25,Tryz.ntmps25;go_wp2_with fail;refine (q38 s _).mono ?_;rintro e w1 ⟨rfl,rfl⟩;go_wp2_with fail;refine HI.out.mono ?_;rintro e w1 ⟨rfl,hb⟩;have HB:=Lib.hid (HB0.out.trans (hb.mono HB0.out.size));clear hb;go_wp2_with fail;go_ret2;exact ⟨rfl,HB.out⟩
def MapN (w:World) (r:Nat) (t:List NodeV):Prop:=
 ∃es clock,w.heap[r]?=some (.map es clock)∧(∀e∈es.toList,∃(y:NodeV) (D:Option Addr) (c:Nat),y∈t∧e.key= .int .i64 y.same∧e.val= .agg (nodC y D c).toArray∧qaE w D y.data)∧
  ∀y∈t,y.same≠0→ ∃e∈es.toList,e.key= .int .i64 y.same
def LtAll (l:List NodeV) (S:List UInt8) (i:Nat):Prop:= ∀k (hk:k<l.length),k<i→pcmp l[k].path S<0
def GeAll (l:List NodeV) (S:List UInt8) (j:Nat):Prop:= ∀k (hk:k<l.length),j≤k→ ¬pcmp l[k].path S<0
theorem qpC:Tryz.prog.underlying 23=some (.slice (Tryz.prog.elem 23)):=by kernel_rfl
theorem qr7: ∀W,(sizeOf (Tryz.prog.elem 23)).run Tryz.prog W= .ok 12 W:=by
 intro W;have e:Tryz.prog.elem 23=49:=by kernel_rfl
 rw [e];exact Tryz.sizeOf49 W
def cutN (A:Option Addr) (c k:Nat):Option Addr:=if c=k then A else A.map (·.add (k*12))
theorem q3Y (A:Option Addr) (c:Nat):cutN A c 0=A:=by
 unfold cutN
 split
 ·rfl
 ·cases A with
  |none=>rfl
  |some a=>simp [Addr.add]
theorem q14 (W:World) (A:Option Addr) (n c k:Nat) (h:k≤c):(Instr.slice 23 (.slice A n c) none (some (.int .i64 (k:Int))) none).run Tryz.prog W= .ok (.slice A k c) W:=by
 rw [run_slice_h W 23 A n c qpC .i64 (k:Int) (by omega) (by omega),qr7];have e:=q3Y A c;unfold cutN at e;simp [Result.andThen,sliced]at e⊢;exact e
theorem quV (W:World) (A:Option Addr) (n c k:Nat) (h:k≤n):(Instr.slice 23 (.slice A n c) (some (.int .i64 (k:Int))) none none).run Tryz.prog W= .ok (.slice (cutN A c k) (n-k) (c-k)) W:=by
 rw [run_slice_l W 23 A n c qpC .i64 (k:Int) (by omega) (by omega),qr7];simp [Result.andThen,sliced,cutN]
def qmF:List Value→Nat→List Value→List Value
 |xs,_, []=>xs
 |xs,o,v::vs=>qmF (xs.set o v) (o+1) vs
theorem qsT (vs:List Value): ∀xs o,(qmF xs o vs).length=xs.length:=by
 induction vs with
 |nil=>intro xs o;rfl
 |cons v vs ih=>intro xs o;rw [qmF,ih,List.length_set]
theorem qsS (vs:List Value): ∀xs o j,(j<o∨o+vs.length≤j)→(qmF xs o vs)[j]?=xs[j]?:=by
 induction vs with
 |nil=>intro xs o j _;rfl
 |cons v vs ih=>
  intro xs o j h;rw [List.length_cons]at h;rw [qmF,ih _ _ _ (by omega),List.getElem?_set_ne (by omega)]
theorem q5W (vs:List Value): ∀xs o j,j<vs.length→o+vs.length≤xs.length→(qmF xs o vs)[o+j]?=vs[j]?:=by
 induction vs with
 |nil=>intro xs o j h;simp at h
 |cons v vs ih=>
  intro xs o j h hl;rw [List.length_cons]at h hl;rw [qmF];cases j with
  |zero=>rw [qsS _ _ _ _ (by omega),Nat.add_zero,List.getElem?_set_self (by omega)];simp
  |succ j=>
   rw [show o+(j+1)=o+1+j by omega,ih _ _ _ (by omega) (by rw [List.length_set];omega)];simp
theorem qyL (xs:List NodP) (i:Nat) (hi:i<xs.length) (y:NodP):qmF (rowN xs) (i*12) (nodV y.1 y.2)=rowN (xs.set i y):=by
 apply List.ext_getElem?;intro j
 by_cases hj:j<xs.length*12
 ·have e:j=j/12*12+j%12:=by omega
  have hq:j/12<xs.length:=by omega
  have hr:j%12<12:=by omega
  have h1:=qfO (xs.set i y) (j/12) (j%12) (by rw [List.length_set];exact hq) hr;have h2:=qfO xs (j/12) (j%12) hq hr;rw [←e]at h1 h2;rw [h1]
  by_cases hij:i=j/12
  ·subst hij;simp only [List.getElem_set_self];have:=q5W (nodV y.1 y.2) (rowN xs) (j/12*12) (j%12) (by rw [qbG];omega) (by rw [qcH,qbG];omega)
   rwa [←e]at this
  ·rw [qsS _ _ _ _ (by rw [qbG];omega),h2];simp only [List.getElem_set_ne hij]
 ·rw [List.getElem?_eq_none (by rw [qsT,qcH];omega),List.getElem?_eq_none (by rw [qcH,List.length_set];omega)]
theorem qsU {e size g cap n B:Nat} (vs:List Value): ∀(w:World) (xs:List Value) (o:Nat),w.ownsRow B e size (.slice (some ⟨g,0,none⟩) n cap) n xs→(w.setCells g o vs).ownsRow B e size (.slice (some ⟨g,0,none⟩) n cap) n (qmF xs o vs):=by
 induction vs with
 |nil=>intro w xs o h;exact h
 |cons v vs ih=>intro w xs o h;exact ih _ _ _ (World.ownsRow.stored h o v).1
theorem q1R (vs:List Value): ∀xs o,xs.length≤o→qmF xs o vs=xs:=by
 induction vs with
 |nil=>intro xs o _;rfl
 |cons v vs ih=>intro xs o h;rw [qmF,List.set_eq_of_length_le h];exact ih _ _ (by omega)
theorem RowN.setNode {w:World} {B g cap n:Nat} {xs:List NodP} (h:RowN w B (.slice (some ⟨g,0,none⟩) n cap) xs) (hn:xs.length=n) (i:Nat) (hi:i<xs.length) (y:NodP):RowN (w.setCells g (i*12) (nodV y.1 y.2)) B (.slice (some ⟨g,0,none⟩) n cap) (xs.set i y):=by
 subst hn;unfold RowN at h⊢;rw [List.length_set,←qyL xs i hi y];exact qsU _ _ _ _ h
theorem RowN.setFar {w:World} {B g cap n:Nat} {xs:List NodP} (h:RowN w B (.slice (some ⟨g,0,none⟩) n cap) xs) (hn:xs.length=n) (o:Nat) (ho:n*12≤o) (vs:List Value):RowN (w.setCells g o vs) B (.slice (some ⟨g,0,none⟩) n cap) xs:=by
 subst hn;unfold RowN at h⊢;have h1:=qsU vs w _ o h
 rwa [q1R _ _ _ (by rw [qcH];exact ho)]at h1
theorem RowN.short {w:World} {B g cap n:Nat} {xs:List NodP} (h:RowN w B (.slice (some ⟨g,0,none⟩) n cap) xs) (hn:xs.length=n) (i:Nat) (hi:i≤n):RowN w B (.slice (some ⟨g,0,none⟩) i cap) (xs.take i):=by
 subst hn;unfold RowN World.ownsRow at h⊢;have hl:(xs.take i).length=i:=by rw [List.length_take];omega
 refine ⟨by rw [qcH],.inr ?_⟩;rcases h.2 with ⟨e,-⟩|⟨g',cap',cur,e,hB,hg,hcap,hm,hs,ht⟩
 ·cases e
 ·injection e with e1 e2 e3
  injection e1 with e1
  injection e1 with e1
  subst e1 e3;refine ⟨g,cap,cur,by rw [hl],hB,hg,by omega,hm,hs,?_⟩;have h1:rowN xs=rowN (xs.take i)++rowN (xs.drop i):=by rw [←qv6,List.take_append_drop]
  have h2:(cur.toList.take (xs.length*12)).take (i*12)=rowN (xs.take i):=by
   rw [ht,h1,List.take_left' (by rw [qcH,hl])]
  rw [List.take_take,Nat.min_eq_left (by omega)]at h2;rw [hl];exact h2
theorem OwnB.setAway {w:World} {B B' g cap n:Nat} {v:Value} {l:List UInt8} {xs:List NodP} (h:OwnB w B v l) (h':RowN w B' (.slice (some ⟨g,0,none⟩) n cap) xs) (o:Nat) (vs:List Value):OwnB (w.setCells g o vs) B v l:=
 qc7 h fun g' e=>World.heap_setCells_other w g o vs (World.ownsRow.lt h g' e).2 fun e2=>qgV h h' g' e (by subst e2;rfl)
theorem Below.setMany {B g:Nat} {a:World} (hg:B≤g) (vs:List Value): ∀(w:World) (o:Nat),Below B a w→Below B a (w.setCells g o vs):=by
 induction vs with
 |nil=>intro w o h;exact h
 |cons v vs ih=>intro w o h;exact ih _ _ (Below.set1 h hg o v)
theorem RowN.cells12 {w:World} {B g cap n:Nat} {xs:List NodP} (h:RowN w B (.slice (some ⟨g,0,none⟩) n cap) xs) (hn:xs.length=n) (i:Nat) (hi:i<xs.length):
  (w.cell? ⟨g,i*12,none⟩=some (.string (bs xs[i].1.path))∧w.cell? ⟨g,i*12+1,none⟩=some (.int .i64 xs[i].1.kind)∧w.cell? ⟨g,i*12+2,none⟩=some (.int .i64 xs[i].1.same)∧w.cell? ⟨g,i*12+3,none⟩=some (.string (bs xs[i].1.target))∧
   w.cell? ⟨g,i*12+4,none⟩=some (.int .i64 xs[i].1.md.mode)∧w.cell? ⟨g,i*12+5,none⟩=some (.int .i64 xs[i].1.md.uid)∧w.cell? ⟨g,i*12+6,none⟩=some (.int .i64 xs[i].1.md.gid)∧w.cell? ⟨g,i*12+7,none⟩=some (.string (bs xs[i].1.md.user))∧w.cell? ⟨g,i*12+8,none⟩=some (.string (bs xs[i].1.md.group))∧w.cell? ⟨g,i*12+9,none⟩=some (.int .i64 xs[i].1.md.second)∧w.cell? ⟨g,i*12+10,none⟩=some (.int .i64 xs[i].1.md.nano)∧w.cell? ⟨g,i*12+11,none⟩=some xs[i].2)∧
  (w.frozen? ⟨g,i*12,none⟩=false∧w.frozen? ⟨g,i*12+1,none⟩=false∧w.frozen? ⟨g,i*12+2,none⟩=false∧w.frozen? ⟨g,i*12+3,none⟩=false∧w.frozen? ⟨g,i*12+4,none⟩=false∧w.frozen? ⟨g,i*12+5,none⟩=false∧w.frozen? ⟨g,i*12+6,none⟩=false∧w.frozen? ⟨g,i*12+7,none⟩=false∧w.frozen? ⟨g,i*12+8,none⟩=false∧w.frozen? ⟨g,i*12+9,none⟩=false∧w.frozen? ⟨g,i*12+10,none⟩=false∧w.frozen? ⟨g,i*12+11,none⟩=false):=by
 subst hn;unfold RowN at h;have hc: ∀q,q<12→w.cell? ⟨g,i*12+q,none⟩=(nodV xs[i].1 xs[i].2)[q]?:=fun q hq=>by rw [World.ownsRow.cellAt h (i*12+q) (by omega),qfO xs i q hi hq]
 have hf: ∀q,w.frozen? ⟨g,i*12+q,none⟩=false:=fun q=>World.ownsRow.frozenAt h _;exact ⟨⟨hc 0 (by omega),hc 1 (by omega),hc 2 (by omega),hc 3 (by omega),hc 4 (by omega),hc 5 (by omega),hc 6 (by omega),hc 7 (by omega),hc 8 (by omega),hc 9 (by omega),hc 10 (by omega),hc 11 (by omega)⟩,hf 0,hf 1,hf 2,hf 3,hf 4,hf 5,hf 6,hf 7,hf 8,hf 9,hf 10,hf 11⟩
theorem qpS (n:Nat): ∀u∈(Builtin.zeroCells qeF n).toList,u.oneCell'=true:=by
 intro u hu
 have hz: ∀k (hk:k<qeF.size),qeF[k].oneCell'=true:=by
  intro k hk;have:k<12:=hk
  match k,this with
  |0,_=>rfl
  |1,_=>rfl
  |2,_=>rfl
  |3,_=>rfl
  |4,_=>rfl
  |5,_=>rfl
  |6,_=>rfl
  |7,_=>rfl
  |8,_=>rfl
  |9,_=>rfl
  |10,_=>rfl
  |11,_=>rfl
 unfold Builtin.zeroCells at hu;rw [Array.toList_map,List.mem_map]at hu;obtain ⟨j,-,rfl⟩:=hu;have hk:j%qeF.size<qeF.size:=Nat.mod_lt _ (by decide);rw [getElem!_pos qeF _ hk];exact hz _ hk
theorem ql4 (w:World) (ty:TypeId) (b o n c:Nat) (hn:0<n) (hc: ∀j,j<n*12→(w.cell? ⟨b,o+j,none⟩).isSome=true) (hf: ∀j,j<n*12→w.frozen? ⟨b,o+j,none⟩=false):
  (Builtin.clear_ #[23] ty #[.slice (some ⟨b,o,none⟩) n c]).run Tryz.prog w= .ok (.tuple #[]) (w.setCells b o (Builtin.zeroCells qeF n).toList):=by
 have hz:(zeroValue 49).run Tryz.prog w= .ok (.agg qeF) w:=by kernel_rfl
 have hl:(Builtin.zeroCells qeF n).toList.length=n*12:=by rw [Array.length_toList,size_zeroCells];rfl
 have hst:=run_storeCells_cells (P:=Tryz.prog) b o (Builtin.zeroCells qeF n).toList 0 w (by intro j hj;rw [hl]at hj;exact hc j hj) (by intro j hj;rw [hl]at hj;exact hf j hj) (qpS n);simp only [Nat.add_zero]at hst;obtain ⟨m,rfl⟩: ∃m,n=m+1:=⟨n-1,by omega⟩;have ht:=Tryz.underlying23;simp [Builtin.clear_,run_underlying ht,hz,hst,Value.cells]
theorem q0O (w:World) (g i:Nat) (v0 v1 v2 v3 v4 v5 v6 v7 v8 v9 vA vB:Value):((((((((((((w.setCell ⟨g,i,none⟩ v0).setCell ⟨g,i+1,none⟩ v1).setCell ⟨g,i+2,none⟩ v2).setCell ⟨g,i+3,none⟩ v3).setCell ⟨g,i+4,none⟩ v4).setCell ⟨g,i+5,none⟩ v5).setCell ⟨g,i+6,none⟩ v6).setCell ⟨g,i+7,none⟩ v7).setCell ⟨g,i+8,none⟩ v8).setCell ⟨g,i+9,none⟩ v9).setCell ⟨g,i+10,none⟩ vA).setCell ⟨g,i+11,none⟩ vB)=w.setCells g i [v0,v1,v2,v3,v4,v5,v6,v7,v8,v9,vA,vB]:=rfl
def qk8 (P:NodeV→Bool) (y:NodP):Bool:= !P y.1
theorem q6C {P:NodeV→Bool} {xs:List NodP} {i j:Nat} {xs':List NodP} (hj:j<xs.length) (hij:i<j) (hl:xs'.length=xs.length) (h:xs'.take i=(xs.take j).filter (qk8 P)) (hk:P xs[j].1=false):(xs'.set i xs[j]).take (i+1)=(xs.take (j+1)).filter (qk8 P):=by
 rw [List.take_succ_eq_append_getElem hj,List.filter_append,←h];have h1: [xs[j]].filter (qk8 P)= [xs[j]]:=by simp [qk8,hk]
 rw [h1,List.take_succ_eq_append_getElem (by rw [List.length_set,hl];omega),List.getElem_set_self,List.take_set_of_le (Nat.le_refl i)]
theorem q2S {P:NodeV→Bool} {xs:List NodP} {j:Nat} {ys:List NodP} (hj:j<xs.length) (h:ys=(xs.take j).filter (qk8 P)) (hk:P xs[j].1=true):ys=(xs.take (j+1)).filter (qk8 P):=by
 rw [List.take_succ_eq_append_getElem hj,List.filter_append,←h];have h1: [xs[j]].filter (qk8 P)= []:=by simp [qk8,hk]
 rw [h1,List.append_nil]
theorem qy7 {P:NodeV→Bool} {xs:List NodP} {i:Nat} (hi:i<xs.length) (h:(xs.map (·.1)).findIdx P=i):xs.take i=(xs.take (i+1)).filter (qk8 P):=by
 have hl:i<(xs.map (·.1)).length:=by rw [List.length_map];exact hi
 have h1:P xs[i].1=true:=by
  have h2:=List.findIdx_getElem (p:=P) (xs:=xs.map (·.1)) (w:=by rw [h];exact hl);simp only [h,List.getElem_map]at h2;exact h2
 refine q2S hi ?_ h1
 symm
 rw [List.filter_eq_self];intro y hy;obtain ⟨k,hk,rfl⟩:=List.mem_take_iff_getElem.1 hy;have h3:=List.not_of_lt_findIdx (p:=P) (xs:=xs.map (·.1)) (i:=k) (by omega);simp only [List.getElem_map]at h3;unfold qk8;simpa using h3
theorem q6E {P:NodeV→Bool} {xs:List NodP} (h:(xs.map (·.1)).findIdx P=xs.length):(xs.map (·.1)).filter (fun x=> !P x)=xs.map (·.1):=by
 rw [List.filter_eq_self];intro y hy;obtain ⟨k,hk,rfl⟩:=List.getElem_of_mem hy;have h3:=List.not_of_lt_findIdx (p:=P) (xs:=xs.map (·.1)) (i:=k) (by rw [List.length_map]at hk;omega);simpa using h3
theorem q6D (P:NodeV→Bool) (xs:List NodP):(xs.filter (qk8 P)).map (·.1)=(xs.map (·.1)).filter (fun x=> !P x):=by
 rw [List.filter_map];rfl
theorem q6W {xs xs':List NodP} {i j:Nat} (hij:i<j) (h:xs'.drop j=xs.drop j) (y:NodP):(xs'.set i y).drop (j+1)=xs.drop (j+1):=by
 rw [List.drop_set_of_lt (by omega),←List.drop_drop,←List.drop_drop,h]
theorem q3T {xs xs':List NodP} {j:Nat} (h:xs'.drop j=xs.drop j):xs'.drop (j+1)=xs.drop (j+1):=by
 rw [←List.drop_drop,←List.drop_drop,h]
theorem q6X {xs xs':List NodP} {j:Nat} (hj:j<xs.length) (hj':j<xs'.length) (h:xs'.drop j=xs.drop j):xs'[j]=xs[j]:=by
 rw [List.drop_eq_getElem_cons hj,List.drop_eq_getElem_cons hj']at h;injection h
set_option maxHeartbeats 8000000 in
theorem qzZ (f:Nat) (p:Value) (P:NodeV→Bool) (I:World→Prop) (g:Nat) (hI: ∀W W',I W→Below W.heap.size W W'→I W') (hI2: ∀W o vs,I W→I (W.setCells g o vs))
  (hf: ∀(x:NodeV) (D:Option Addr) (c:Nat) (W:World),I W→x.sz→Calls Tryz.prog f #[.agg (nodC x D c).toArray,p] W fun e w'=>e= .returned (.bool (P x))∧Below W.heap.size W w')
  (ef: ∀args w,(callFunc f args).run Tryz.prog w= .ok (.enter f args) w)
  (B n cap:Nat) (xs:List NodP) (hn:xs.length=n) (hm:n≤1000) (hsz: ∀y∈xs,y.1.sz) (w:World) (h:OwnN w B (.slice (some ⟨g,0,none⟩) n cap) xs) (hB:B≤w.heap.size) (hw:I w):
  Calls Tryz.prog 41 #[.slice (some ⟨g,0,none⟩) n cap,.func (.func f) #[] #[p]] w fun e w'=> ∃v' xs',e= .returned v'∧xs'.map (·.1)=(xs.map (·.1)).filter (fun x=> !P x)∧OwnN w' B v' xs'∧Below B w w':=by
 obtain ⟨A,c0,e0,hs0,hat0⟩:=h.at;rw [hn]at e0;injection e0 with e1 _ e3
 subst e1 e3;have hgB:=h.1.above g rfl;have hcap:n≤cap:=by have:=hs0.1;omega
 have hmx:=hs0.2.1;unfold maxLen at hmx
 have HIx:=Lib.hid (qjO f p P I hI hf ef (some ⟨g,0,none⟩) n cap (xs.map (·.1)) (by rw [List.length_map];exact hn) (by omega) (fun x hx=>by
  obtain ⟨y,hy,rfl⟩:=List.mem_map.1 hx
  exact hsz y hy) w hw hat0)
 have HN:=Lib.hid hn;have HO:=Lib.hid h;have HF:=Lib.hid hf;have HI:=Lib.hid hI;have HI2:=Lib.hid hI2;have HW:=Lib.hid hw;have HSZ:=Lib.hid hsz;have hle:=q7Y P (xs.map (·.1));rw [List.length_map,hn]at hle;clear hn h hf hI hI2 hw hsz hs0 hat0;rcases Nat.lt_or_eq_of_le hle with hlt|heq
 ·obtain ⟨i,hi⟩: ∃i,i=(xs.map (·.1)).findIdx P:=⟨_,rfl⟩;have hin:i<n:=by omega
  have HK0:=Lib.hid (qy7 (P:=P) (xs:=xs) (i:=i) (by rw [HN.out];exact hin) hi.symm);rw [qqV (by rw [List.length_map,HN.out];exact hlt),←hi]at HIx;have hne1:((i:Int)== -1)=false:=by first|(simp;done)|(simp;omega)
  clear hle hlt hi;go_enter Tryz.func41,Tryz.ntmps41;go_wp2_with fail;refine HIx.out.mono ?_;rintro e w1 ⟨rfl,hb⟩;have HB1:Hid (Below B w w1):=hb.mono hB;have HO1:=Lib.hid (HO.out.below hb);have HW1:=Lib.hid (HI.out _ _ HW.out hb);clear hb HIx;go_wp2_with fail
  go_loopw [5,6] (fun iv jv wr=> ∃(i j:Nat) (xs':List NodP),iv= .int .i64 i∧jv= .int .i64 j∧i<j∧j≤n∧Hid (RowN wr B (.slice (some ⟨g,0,none⟩) n cap) xs')∧Hid (xs'.length=n)∧Hid (xs'.take i=(xs.take j).filter (qk8 P))∧Hid (xs'.drop j=xs.drop j)∧Hid (∀y∈xs,OwnB wr B y.2 y.1.data)∧Hid (Below B w wr)∧Hid (I wr)∧Hid (∀y∈xs'.take i,y∈xs)) (fun _ jv _=>n-(intOf jv).toNat)
  case atStart=>exact ⟨i,i+1,xs,rfl,by go_num,by omega,by omega,HO1.out.1,HN.out,HK0.out,rfl,HO1.out.2,HB1.out,HW1.out,fun y hy=>List.mem_of_mem_take hy⟩
  case round=>
   obtain ⟨i,j,xs',rfl,rfl,hij,hjn,HR,HL,HT,HD,HDT,HB,HIw,HM⟩:=hrel
   have hBw:B≤wr.heap.size:=by
    have:=(World.ownsRow.lt HR.out g rfl);omega
   by_cases hlt:j<n
   ·have hj1:j<xs.length:=by rw [HN.out];exact hlt
    have hj2:j<xs'.length:=by rw [HL.out];exact hlt
    have hi2:i<xs'.length:=by omega
    obtain ⟨⟨c0,c1,c2,c3,c4,c5,c6,c7,c8,c9,cA,cB⟩,-⟩:=HR.out.cells12 HL.out j hj2;rw [q6X hj1 hj2 HD.out]at c0 c1 c2 c3 c4 c5 c6 c7 c8 c9 cA cB;have hmem:xs[j]∈xs:=List.getElem_mem hj1;obtain ⟨E,cc,he,-,-⟩:=(HDT.out _ hmem).form;have HY:=Lib.hid fun hk=>q6C (P:=P) hj1 hij (by rw [HL.out,HN.out]) HT.out hk;have HNo:=Lib.hid fun hk=>q2S (P:=P) hj1 HT.out hk;have HSy:=HSZ.out _ hmem;have HRs:Hid (∀W,RowN W B (.slice (some ⟨g,0,none⟩) n cap) xs'→RowN (W.setCells g (i*12) (nodV xs[j].1 xs[j].2)) B (.slice (some ⟨g,0,none⟩) n cap) (xs'.set i xs[j])):=fun W hW=>hW.setNode HL.out i hi2 _
    have HMs:Hid (∀y∈(xs'.set i xs[j]).take (i+1),y∈xs):=fun y hy=>by
     rw [List.take_succ_eq_append_getElem (by rw [List.length_set];exact hi2),List.getElem_set_self,List.take_set_of_le (Nat.le_refl i)]at hy;rcases List.mem_append.1 hy with a|a
     ·exact HM.out y a
     ·simp at a;subst a;exact hmem
    have HDs:=Lib.hid (q6W (j:=j) hij HD.out xs[j]);have HDn:=Lib.hid (q3T HD.out);generalize hyy:xs[j]=yy at*;obtain ⟨y,yv⟩:=yy;simp only at c0 c1 c2 c3 c4 c5 c6 c7 c8 c9 cA cB he HSy HY HNo HRs;subst he;have HC:=Lib.hid fun W hW=>HF.out y E cc W hW HSy;unfold nodC at HC;unfold nodV at HRs;clear hyy hmem;obtain ⟨q,hq⟩: ∃q,q=P y:=⟨_,rfl⟩;rw [←hq]at HC HY HNo;clear hq HSy;go_upto_region 8 with fail
    have HBl:=Lib.hid (Blk.new wr 49 #[.string (bs y.path),.int .i64 y.kind,.int .i64 y.same,.string (bs y.target),.int .i64 y.md.mode,.int .i64 y.md.uid,.int .i64 y.md.gid,.string (bs y.md.user),.string (bs y.md.group),.int .i64 y.md.second,.int .i64 y.md.nano,.slice E y.data.length cc]);have hBa:Below wr.heap.size wr (wr.alloc (.cells #[.string (bs y.path),.int .i64 y.kind,.int .i64 y.same,.string (bs y.target),.int .i64 y.md.mode,.int .i64 y.md.uid,.int .i64 y.md.gid,.string (bs y.md.user),.string (bs y.md.group),.int .i64 y.md.second,.int .i64 y.md.nano,.slice E y.data.length cc] 49)):=qbF (Below.refl _ _) _;have HBa:=Lib.hid hBa;clear hBa;generalize hwa:wr.alloc _=wa at HBl HBa⊢;obtain ⟨⟨e0,e1,e2,e3,e4,e5,e6,e7,e8,e9,eA,eB⟩,-⟩:=qeX HBl.out;have HIa:=Lib.hid (HI.out _ _ HIw.out HBa.out);clear hwa c0 c1 c2 c3 c4 c5 c6 c7 c8 c9 cA cB;go_wp2_with fail;refine (HC.out _ HIa.out).mono ?_;rintro e w5 ⟨rfl,hb5⟩;have HB5:Hid (Below wr.heap.size wr w5):=HBa.out.trans (hb5.mono HBa.out.size);have HBl5:=Lib.hid (HBl.out.below hb5 HBl.out.lt);have HI5:=Lib.hid (HI.out _ _ HIa.out hb5);have HR5:=Lib.hid (HR.out.below HB5.out);have HDT5:Hid (∀y∈xs,OwnB w5 B y.2 y.1.data):=fun y hy=>(HDT.out y hy).below HB5.out;have HBw5:Hid (Below B w w5):=HB.out.trans (HB5.out.mono hBw);clear hb5 e0 e1 e2 e3 e4 e5 e6 e7 e8 e9 eA eB;cases q with
    |true=>
     have HT2:=Lib.hid (HNo.out rfl);clear HY HNo;go_wp2_with fail;go_roundw
     case rel=>exact ⟨i,j+1,xs',rfl,by go_num,by omega,by omega,HR5,HL,HT2,HDn,HDT5,HBw5,HI5,HM⟩
     case measure=>simp [intOf];omega
    |false=>
     have HT2:=Lib.hid (HY.out rfl);clear HY HNo;obtain ⟨⟨e0,e1,e2,e3,e4,e5,e6,e7,e8,e9,eA,eB⟩,-⟩:=qeX HBl5.out;obtain ⟨⟨c0,c1,c2,c3,c4,c5,c6,c7,c8,c9,cA,cB⟩,g0,g1,g2,g3,g4,g5,g6,g7,g8,g9,gA,gB⟩:=HR5.out.cells12 HL.out i hi2;have HR6:=Lib.hid (HRs.out _ HR5.out);have HI6:=Lib.hid (HI2.out w5 (i*12) [.string (bs y.path),.int .i64 y.kind,.int .i64 y.same,.string (bs y.target),.int .i64 y.md.mode,.int .i64 y.md.uid,.int .i64 y.md.gid,.string (bs y.md.user),.string (bs y.md.group),.int .i64 y.md.second,.int .i64 y.md.nano,.slice E y.data.length cc] HI5.out);have HB6:=Lib.hid (Below.setMany hgB [.string (bs y.path),.int .i64 y.kind,.int .i64 y.same,.string (bs y.target),.int .i64 y.md.mode,.int .i64 y.md.uid,.int .i64 y.md.gid,.string (bs y.md.user),.string (bs y.md.group),.int .i64 y.md.second,.int .i64 y.md.nano,.slice E y.data.length cc] w5 (i*12) HBw5.out);have HDT6:Hid (∀z∈xs,OwnB (w5.setCells g (i*12) [.string (bs y.path),.int .i64 y.kind,.int .i64 y.same,.string (bs y.target),.int .i64 y.md.mode,.int .i64 y.md.uid,.int .i64 y.md.gid,.string (bs y.md.user),.string (bs y.md.group),.int .i64 y.md.second,.int .i64 y.md.nano,.slice E y.data.length cc]) B z.2 z.1.data):=fun z hz=>(HDT5.out z hz).setAway HR5.out _ _;have hin:i<n:=by omega
     rw [←q0O]at HR6 HI6 HB6 HDT6;go_wp2_with fail;go_roundw
     case rel=>exact ⟨i+1,j+1,xs'.set i (y,.slice E y.data.length cc),by go_num,by go_num,by omega,by omega,HR6,by unfold Hid;rw [List.length_set];exact HL.out,HT2,HDs,HDT6,HB6,HI6,HMs⟩
     case measure=>simp [intOf];omega
   ·obtain rfl:j=n:=by omega
    have hxl:=HL.out
    have hcut:cutN (some ⟨g,0,none⟩) cap i=some ⟨g,i*12,none⟩:=by
     unfold cutN;rw [if_neg (by omega),Option.map_some,Addr.add_lit,Nat.zero_add]
    have s1:=fun W=>quV W (some ⟨g,0,none⟩) j cap i (by omega);rw [hcut]at s1;have hR0:=HR.out;unfold RowN at hR0;rw [hxl]at hR0
    have hcl: ∀ty,(Builtin.clear_ #[23] ty #[.slice (some ⟨g,i*12,none⟩) (j-i) (cap-i)]).run Tryz.prog wr= .ok (.tuple #[]) (wr.setCells g (i*12) (Builtin.zeroCells qeF (j-i)).toList):=
     fun ty=>ql4 wr ty g (i*12) (j-i) (cap-i) (by omega) (fun q hq=>by
      rw [World.ownsRow.cellAt hR0 (i*12+q) (by omega),List.getElem?_eq_getElem (by rw [qcH,hxl];omega)];rfl) (fun q hq=>World.ownsRow.frozenAt hR0 _)
    have s2:=fun W=>q14 W (some ⟨g,0,none⟩) j cap i (by omega);have HRf:=Lib.hid ((HR.out.short hxl i (by omega)).setFar (by rw [List.length_take,hxl];omega) (i*12) (Nat.le_refl _) (Builtin.zeroCells qeF (j-i)).toList);have HDf:Hid (∀y∈xs'.take i,OwnB (wr.setCells g (i*12) (Builtin.zeroCells qeF (j-i)).toList) B y.2 y.1.data):=fun y hy=>(HDT.out y (HM.out y hy)).setAway HR.out _ _;have HBf:=Lib.hid (Below.setMany hgB (Builtin.zeroCells qeF (j-i)).toList wr (i*12) HB.out)
    have HV:Hid ((xs'.take i).map (·.1)=(xs.map (·.1)).filter (fun x=> !P x)):=by
     unfold Hid;rw [HT.out,List.take_of_length_le (by rw [HN.out];omega),q6D]
    obtain ⟨Z,hZ⟩:=qaA (Builtin.zeroCells qeF (j-i)).toList;obtain ⟨jm,hjm⟩:=qaA (j-i);obtain ⟨cm,hcm⟩:=qaA (cap-i);rw [hZ.out]at HRf HDf HBf;simp only [hjm.out,hcm.out]at s1;simp only [hZ.out]at hcl;simp only [hjm.out,hcm.out]at hcl;clear hcut hR0 hxl;go_wp2_with fail;go_ret;exact ⟨_,rfl,xs'.take i,HV.out,⟨HRf.out,HDf.out⟩,HBf.out⟩
 ·have HV:=Lib.hid (q6E (P:=P) (xs:=xs) (by rw [HN.out];exact heq));rw [qu2 (by rw [List.length_map,HN.out];exact heq)]at HIx;clear hle heq;go_enter Tryz.func41,Tryz.ntmps41;go_wp2_with fail;refine HIx.out.mono ?_;rintro e w1 ⟨rfl,hb⟩;have HB1:Hid (Below B w w1):=hb.mono hB;have HO1:=Lib.hid (HO.out.below hb);clear hb;go_wp2_with fail;go_ret;exact ⟨_,xs,rfl,HV.out.symm,HO1.out,HB1.out⟩
theorem q63 (b g:Nat) (hne:b≠g) (v:Value) (W:World) (o:Nat) (vs:List Value) (h:W.cell? ⟨b,0,none⟩=some v):(W.setCells g o vs).cell? ⟨b,0,none⟩=some v:=by
 rw [World.cell?_setCells_out g vs o W ⟨b,0,none⟩ (fun e=>absurd e hne)];exact h
end Go.Proofs.YtapgoifimhnbdaaGreatDoor
