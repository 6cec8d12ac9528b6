/- qaX of one kind, in one file: TreC, TreM, TreD, TreN. -/
import Derived.Test.YtapgoifimhnbdaaGreatDoorTrm
import Derived.Test.YtapgoifimhnbdaaGreatDoorShelf
import Derived.Lib.ConvBytes
import Derived.Test.YtapgoifimhnbdaaGreatDoorBas
import Derived.Test.YtapgoifimhnbdaaGreatDoorPts
import Derived.Deep.RegionLaw
import Derived.Deep.RegionWith
set_option linter.unusedVariables false
set_option maxRecDepth 100000
namespace Go.Proofs.YtapgoifimhnbdaaGreatDoor
open Go.RowKit
open Go.OpenShut
def adr (o:Option Nat):Option Addr:=o.map fun g=>⟨g,0,none⟩
def qa3:Type:=NodeV×(Option Nat×Nat×Nat)
instance:Inhabited qa3:=⟨(default,none,0,0)⟩
def keyL (x:qa3):List UInt8:=x.1.path.take 400
def encN (x:qa3):List Value:=
 [.string ⟨(keyL x).toArray⟩,.int .i64 x.1.kind,.int .i64 x.1.same,.string ⟨x.1.target.toArray⟩,.int .i64 x.1.md.mode,.int .i64 x.1.md.uid,.int .i64 x.1.md.gid,.string ⟨x.1.md.user.toArray⟩,.string ⟨x.1.md.group.toArray⟩,.int .i64 x.1.md.second,.int .i64 x.1.md.nano,.slice (adr x.2.1) x.2.2.1 x.2.2.2]
theorem qb0 (x:qa3):(encN x).length=12:=rfl
theorem qzI (x:qa3): ∀v∈encN x,v.oneCell'=true:=by
 intro v hv;simp only [encN,List.mem_cons,List.not_mem_nil,or_false]at hv;rcases hv with rfl|rfl|rfl|rfl|rfl|rfl|rfl|rfl|rfl|rfl|rfl|rfl<;>rfl
def encC (xs:List qa3):List Value:=xs.flatMap encN
theorem qn4 (xs:List qa3):(encC xs).length=xs.length*12:=by
 induction xs with
 |nil=>rfl
 |cons x xs ih=>simp only [encC,List.flatMap_cons,List.length_append,qb0,List.length_cons]at*;omega
theorem zcB (xs ys:List qa3):encC (xs++ys)=encC xs++encC ys:=by simp [encC]
theorem qsJ (xs:List qa3) (j i:Nat) (hj:j<xs.length) (hi:i<12):(encC xs)[j*12+i]?=(encN xs[j])[i]?:=by
 induction xs generalizing j with
 |nil=>simp at hj
 |cons x xs ih=>
  show (encN x++encC xs)[j*12+i]?=_;cases j with
  |zero=>rw [List.getElem?_append_left (by rw [qb0];omega)];simp
  |succ j=>
   rw [List.getElem?_append_right (by rw [qb0];omega),qb0,show (j+1)*12+i-12=j*12+i by omega,ih j (by simpa using hj)];rfl
theorem zcA (xs:List qa3) (j i:Nat) (u:Value) (y:qa3) (hj:j<xs.length) (hi:i<12) (hy:(encN xs[j]).set i u=encN y):(encC xs).set (j*12+i) u=encC (xs.set j y):=by
 induction xs generalizing j with
 |nil=>simp at hj
 |cons x xs ih=>
  show (encN x++encC xs).set (j*12+i) u=_;cases j with
  |zero=>
   rw [Nat.zero_mul,Nat.zero_add,List.set_append_left _ _ (by rw [qb0];omega)];simp only [List.getElem_cons_zero]at hy;rw [hy];rfl
  |succ j=>
   rw [List.set_append_right _ _ (by rw [qb0];omega),qb0,show (j+1)*12+i-12=j*12+i by omega];simp only [List.getElem_cons_succ]at hy;rw [ih j (by simpa using hj) hy];rfl
theorem q59 (x:qa3):(keyL x).length≤400:=by unfold keyL;rw [List.length_take];omega
theorem cmp_any (x y:qa3) (W:World):Calls Tryz.prog 60 #[.agg (encN x).toArray,.agg (encN y).toArray] W fun e w'=>e= .returned (.int .i64 (pcmp (keyL x) (keyL y)))∧ ∃q os',w'=Go.Sort.grow (W.drewN q) os':=by
 obtain ⟨a,Ha⟩:=qaA (⟨(keyL x).toArray⟩:ByteArray);obtain ⟨b,Hb⟩:=qaA (⟨(keyL y).toArray⟩:ByteArray);have ha:a.size≤400:=by rw [←Ha.out,qeL];exact q59 x
 have hb:b.size≤400:=by rw [←Hb.out,qeL];exact q59 y
 have HK:Hid (pcmp (keyL x) (keyL y)=pcmp a.data.toList b.data.toList):=by unfold Hid;rw [←Ha.out,←Hb.out]
 rw [HK.out];unfold encN;rw [Ha.out,Hb.out];go_enter Tryz.func60,Tryz.ntmps60;go_wp2_with fail;refine (zbG a b _ (by omega) (by omega)).mono ?_;rintro e w' ⟨rfl,rfl⟩;go_wp2_with fail;go_ret;exact ⟨rfl,0,_,by rw [Go.Sort.alloc_eq_grow,Go.Sort.alloc_eq_grow,Go.Sort.alloc_eq_grow,Go.Sort.alloc_eq_grow,Go.Sort.grow_grow,Go.Sort.grow_grow,Go.Sort.grow_grow];rfl⟩
theorem zcM (blk off size:Nat) (w:World):Go.Proofs.CmpLays Tryz.prog 60 #[] encN 12 (fun x y=>pcmp (keyL x) (keyL y)) blk off size w:=
 fun _ _ _ _ x y=>cmp_any x y _
theorem qrT (x y:qa3):Go.Proofs.ltOf (fun x y=>pcmp (keyL x) (keyL y)) x y=decide (pcmp (keyL x) (keyL y)<0):=rfl
theorem qrG (a b c:List UInt8) (h1:pcmp a b<0) (h2:pcmp b c<0):pcmp a c<0:=by
 have h:=qj6 a b c (by omega) (by omega);rcases Int.lt_or_eq_of_le h with h|h
 ·exact h
 ·have:=(qeM a c).1 h;subst this;have:=qe0 a b;omega
theorem swoN:Go.Sort.SWO (Go.Proofs.ltOf (fun x y:qa3=>pcmp (keyL x) (keyL y))) where
 irrefl x:=by rw [qrT,qmX];rfl
 trans x y z h1 h2:=by
  rw [qrT,decide_eq_true_eq]at*;exact qrG _ _ _ h1 h2
 ntrans x y z h1 h2:=by
  rw [qrT,decide_eq_false_iff_not]at*;have a1:=qe0 (keyL x) (keyL y);have a2:=qe0 (keyL y) (keyL z);have a3:=qe0 (keyL x) (keyL z);have:=qj6 (keyL z) (keyL y) (keyL x) (by omega) (by omega);omega
theorem q4D (s:ByteArray) (bs:Nat) (w:World) (hB:bs<w.heap.size) (hcell:w.cell? ⟨bs,0,none⟩=some (.string s)):
  PredBelow Tryz.prog 53 #[.pointer (some ⟨bs,0,none⟩)] (fun x=> .agg (encN x).toArray) (fun x=>decide (keyL x=s.data.toList)) w:=fun W x hb=>by
 have hc:W.cell? ⟨bs,0,none⟩=some (.string s):=(hb.cell (p:=⟨bs,0,none⟩) hB).trans hcell;have hBW:bs<W.heap.size:=Nat.lt_of_lt_of_le hB hb.size;have hne:bs≠W.heap.size:=by omega
 have HB:=Lib.hid hb;clear hb hcell;obtain ⟨a,Ha⟩:=qaA (⟨(keyL x).toArray⟩:ByteArray);have HK:Hid (decide (keyL x=s.data.toList)=(a.toList==s.toList)):=by unfold Hid;rw [qq1,←Ha.out]
 show Calls Tryz.prog 53 #[.agg (encN x).toArray,.pointer (some ⟨bs,0,none⟩)] W fun e w'=>e= .returned (.bool (decide (keyL x=s.data.toList)))∧Below w.heap.size w w';rw [HK.out];unfold encN;rw [Ha.out];go_enter Tryz.func53,Tryz.ntmps53;go_wp2_with fail;go_ret;exact ⟨rfl,HB.out.alloc HB.out.size _⟩
def qeU (w:World) (B:Nat) (v:Value) (xs:List qa3):Prop:=w.ownsRow B 49 12 v xs.length (encC xs)
theorem qeU.any {w:World} {B:Nat} {v:Value} {xs:List qa3} (h:qeU w B v xs):(v= .slice none 0 0∧xs= [])∨ ∃g cap,v= .slice (some ⟨g,0,none⟩) xs.length cap∧B≤g∧g<w.heap.size∧xs.length≤cap∧(∀j i,(hj:j<xs.length)→i<12→w.cell? ⟨g,j*12+i,none⟩=(encN xs[j])[i]?∧w.frozen? ⟨g,j*12+i,none⟩=false):=by
 have h':=h;unfold qeU World.ownsRow at h';rcases h'.2 with ⟨rfl,h0⟩|⟨g,cap,cur,rfl,hB,hg,hcap,_⟩
 ·exact .inl ⟨rfl,List.eq_nil_of_length_eq_zero h0⟩
 ·refine .inr ⟨g,cap,rfl,hB,?_,hcap,fun j i hj hi=>⟨?_,World.ownsRow.frozenAt h _⟩⟩
  ·rcases Nat.lt_or_ge g w.heap.size with h3|h3
   ·exact h3
   ·rw [Array.getElem?_eq_none h3]at hg;cases hg
  ·have:=World.ownsRow.cellAt h (j*12+i) (by omega);rw [this,qsJ xs j i hj hi]
theorem q8X (f:Value) (w:World):Calls Tryz.prog 52 #[.slice none 0 0,f] w fun e w'=>e= .returned (.int .i64 (-1))∧w=w':=by
 go_enter Tryz.func52,Tryz.ntmps52;go_wp2
 go_loop [8] (fun i=>i= .int .i64 0) (fun _=>0)
 case atStart=>rfl
 case round=>
  subst hrel;go_wp2;go_ret;exact ⟨rfl,rfl⟩
theorem q1Z (p:qa3→Bool) (xs:List qa3) (d:qa3) (i:Nat):(0≤Lib.idxByFrom (fun _ y=>p y) d xs i)↔xs.any p=true:=by
 induction xs generalizing i with
 |nil=>simp [Lib.idxByFrom]
 |cons x xs ih=>
  rw [Lib.idxByFrom,List.any_cons]
  by_cases h:p x=true
  ·simp [h]
  ·rw [if_neg h,ih (i+1)];simp [h]
theorem q1Y (p:qa3→Bool) (xs:List qa3) (d:qa3):(0≤Lib.idxBy (fun _ y=>p y) xs d)↔xs.any p=true:=q1Z p xs d 0
def hasK (xs:List qa3) (s:List UInt8):Bool:=xs.any fun x=>decide (keyL x=s)
theorem at_any (s:ByteArray) (bt:Nat) (v:Value) (xs:List qa3) (w:World) (hc:w.cell? ⟨bt,0,none⟩=some v) (B:Nat) (hn:qeU w B v xs) (hl:xs.length≤1000000):
  Calls Tryz.prog 51 #[.string s,.pointer (some ⟨bt,0,none⟩)] w fun e w'=> ∃r:Int,e= .returned (.int .i64 r)∧(decide (0≤r)=hasK xs s.data.toList)∧Below w.heap.size w w':=by
 rcases hn.any with ⟨rfl,rfl⟩|⟨g,cap,rfl,hB,hg,hcap,hcell⟩
 ·have hbt:bt<w.heap.size:=World.block_lt_of_cell? w _ hc;have hne:w.heap.size≠bt:=by omega
  have hc1:(w.alloc (.cells #[.string s] 9)).cell? ⟨bt,0,none⟩=some (.slice none 0 0):=by rw [World.cell?_alloc_old _ _ _ (by show bt≠_;omega)];exact hc
  go_enter Tryz.func51,Tryz.ntmps51;go_wp2_with fail;refine (q8X _ _).mono ?_;rintro e w' ⟨rfl,rfl⟩;go_wp2_with fail;go_ret;exact ⟨-1,rfl,rfl,(Below.refl _ _).alloc (Nat.le_refl _) _⟩
 ·have eg: ∀args w,(callFunc 53 args).run Tryz.prog w= .ok (.enter 53 args) w:=enters_of Tryz.func53 (by kernel_rfl) rfl;have hbt:bt<w.heap.size:=World.block_lt_of_cell? w _ hc
  have hcon:=Lib.hid (Tryz.slices_IndexFunc 12 Tryz.isAgg49 Tryz.sizeOf49 encN qb0 (fun x=>decide (keyL x=s.data.toList)) 53 #[.pointer (some ⟨w.heap.size,0,none⟩)] eg g 0 xs.length cap xs (w.alloc (.cells #[.string s] 9))
   (q4D s w.heap.size _ (by simp) (by simp)) (Nat.le_refl _) (by omega) (by simp;omega) (fun j hj i u hi=>by
    have hi12:i<12:=by
     rcases Nat.lt_or_ge i 12 with h|h
     ·exact h
     ·rw [List.getElem?_eq_none (by rw [qb0];exact h)]at hi;cases hi
    rw [World.cell?_alloc_old _ _ _ (by show g≠_;omega),Nat.zero_add,(hcell j i hj hi12).1];rw [getElem!_pos xs j hj]at hi
    exact hi))
  clear hcell eg;have hr:=q1Y (fun x=>decide (keyL x=s.data.toList)) (xs.take xs.length) default;rw [List.take_length]at hr;have hcon2:=hcon.out;rw [List.take_length]at hcon2;obtain ⟨r,Hr⟩:=qaA (Lib.idxBy (fun _ y=>decide (keyL y=s.data.toList)) xs default);rw [Hr.out]at hr hcon2
  have HR:Hid (decide (0≤r)=hasK xs s.data.toList):=by
   unfold Hid;rw [Bool.eq_iff_iff,decide_eq_true_eq];exact hr
  clear hr;obtain ⟨n,Hn⟩:=qaA xs.length;have hne:w.heap.size≠bt:=by omega
  rw [Hn.out]at hc hcon2;have HC:=Lib.hid hcon2;clear hcon hcon2;have hc1:(w.alloc (.cells #[.string s] 9)).cell? ⟨bt,0,none⟩=some (.slice (some ⟨g,0,none⟩) n cap):=by rw [World.cell?_alloc_old _ _ _ (by show bt≠_;omega)];exact hc
  go_enter Tryz.func51,Tryz.ntmps51;go_wp2_with fail;refine HC.out.mono ?_;rintro e w1 ⟨rfl,hb1⟩;have HB1:=Lib.hid (((Below.refl w.heap.size w).alloc (Nat.le_refl _) (.cells #[.string s] 9)).trans (hb1.mono (by simp)));clear hb1;go_wp2_with fail;go_ret;exact ⟨r,rfl,HR.out,HB1.out⟩
def Dat (w:World) (B:Nat) (d:Option Nat×Nat×Nat) (l:List UInt8):Prop:=
 d.2.1=l.length∧l.length≤d.2.2∧d.2.2≤maxLen∧(d.1=none→d.2.2=0)∧(1≤l.length→ ∃g cur fr,d.1=some g∧B≤g∧w.heap[g]?=some (.cells cur 5 fr)∧cur.toList.take l.length=qaU l)
theorem Dat.nil (w:World) (B:Nat):Dat w B (none,0,0) []:=⟨rfl,Nat.le_refl _,by decide,fun _=>rfl,fun h=>by simp at h⟩
theorem Dat.keep {w w':World} {B:Nat} {d:Option Nat×Nat×Nat} {l:List UInt8} (h:Dat w B d l) (hk: ∀(g:Nat) (cur:Array Value) (fr:Nat×Nat),w.heap[g]?=some (Obj.cells cur 5 fr)→w'.heap[g]?=some (Obj.cells cur 5 fr)):Dat w' B d l:=
 ⟨h.1,h.2.1,h.2.2.1,h.2.2.2.1,fun h1=>by
  obtain ⟨g,cur,fr,e,hB,hg,hc⟩:=h.2.2.2.2 h1
  exact ⟨g,cur,fr,e,hB,hk g cur fr hg,hc⟩⟩
theorem qe3 {w:World} {g:Nat} {o:Obj} (h:w.heap[g]?=some o):g<w.heap.size:=by
 rcases Nat.lt_or_ge g w.heap.size with h3|h3
 ·exact h3
 ·rw [Array.getElem?_eq_none h3]at h;cases h
theorem Dat.below {w w':World} {B:Nat} {d:Option Nat×Nat×Nat} {l:List UInt8} (h:Dat w B d l) (hb:Below w.heap.size w w'):Dat w' B d l:=
 h.keep fun g cur fr hg=>(hb.block g (qe3 hg)).trans hg
theorem Dat.own {w:World} {B:Nat} {v:Value} {l:List UInt8} (h:w.ownsRow B 5 1 v l.length (qaU l)): ∃d:Option Nat×Nat×Nat,v= .slice (adr d.1) d.2.1 d.2.2∧Dat w B d l:=by
 unfold World.ownsRow at h;rcases h.2 with ⟨rfl,h0⟩|⟨g,cap,cur,rfl,hB,hg,hcap,hm,hs,ht⟩
 ·refine ⟨(none,0,0),rfl,h0.symm,by show l.length≤0;omega,by show 0≤maxLen;decide,fun _=>rfl,fun h1=>by omega⟩
 ·exact ⟨(some g,l.length,cap),rfl,rfl,hcap,hm,(fun e=>by cases e),fun _=>⟨g,cur,_,rfl,hB,hg,by rw [Nat.mul_one]at ht;exact ht⟩⟩
theorem qoT (l:List UInt8): ∀u∈qaU l,u.oneCell'=true:=by
 intro u hu;simp only [qaU,qeS,List.mem_map]at hu;obtain ⟨a,_,rfl⟩:=hu;rfl
theorem Dat.conv (w:World) (B:Nat) (s:ByteArray) (hB:B≤w.heap.size) (hs:s.size≤1000000):Dat (Lib.bytesWorld w 5 s) B (some w.heap.size,s.size,grownCap w s.size 0 5) s.data.toList:=by
 refine ⟨by simp,?_,grownCap_le_maxLen _ _ _ _ (by unfold maxLen;omega),(fun e=>by cases e),fun _=>⟨w.heap.size,_,_,rfl,hB,Lib.bytesWorld_at_new w 5 s,?_⟩⟩
 ·have:=grownCap_ge w s.size 0 5;simpa using this
 ·unfold Lib.bytesCells;rw [Array.toList_append,List.take_append_of_le_length (by simp)];rw [List.take_of_length_le (by simp)];simp [qaU,qeS]
theorem zcL (W:World) (s:ByteArray):(convert 9 22 (.string s)).run Tryz.prog W= .ok (.slice (some ⟨W.heap.size,0,none⟩) s.size (grownCap W s.size 0 5)) (Lib.bytesWorld W 5 s):=
 Lib.run_convert_string_bytes W 9 22 5 s Tryz.underlying9 Tryz.underlying22 Tryz.underlying5
theorem Blk.conv {w:World} {g:Nat} {t:TypeId} {cs:Array Value} (h:Blk w g t cs) (e:TypeId) (s:ByteArray):Blk (Lib.bytesWorld w e s) g t cs:=(Lib.bytesWorld_at_old w e s g h.lt).trans h
theorem Below.conv (w:World) (e:TypeId) (s:ByteArray):Below w.heap.size w (Lib.bytesWorld w e s):=
 ⟨rfl,rfl,rfl,by rw [Lib.bytesWorld_size];omega,fun k hk=>Lib.bytesWorld_at_old w e s k hk⟩
theorem zcO:(Tryz.prog.info? 5).map (fun i=>(i.zero,i.size,i.bytes))=some (some (.int .u8 0),1,1):=by kernel_rfl
theorem qvW (d:Option Nat×Nat×Nat) (l:List UInt8) (w:World) (B:Nat) (h:Dat w B d l) (hl:l.length≤1000000):
  Calls Tryz.prog 58 #[.slice (adr d.1) d.2.1 d.2.2] w fun e w'=> ∃d':Option Nat×Nat×Nat,e= .returned (.slice (adr d'.1) d'.2.1 d'.2.2)∧Dat w' w.heap.size d' l∧Below w.heap.size w w':=by
 obtain ⟨A,n,c⟩:=d;obtain ⟨h1,h2,h3,h4,h5⟩:=h;simp only at h1 h2 h3 h4 h5⊢;subst h1;cases A with
 |none=>
  have h0:l= []:=by
   cases l with
   |nil=>rfl
   |cons x l=>obtain ⟨g,cur,fr,e,_⟩:=h5 (by simp);cases e
  subst h0;exact (Tryz.slices_Clone_nil 0 c w).mono fun e w' ⟨a,b⟩=>⟨(none,0,0),a,Dat.nil _ _,b▸Below.refl _ _⟩
 |some ad=>
  obtain ⟨i0,hi,hz0,hz1,hz2⟩:=info_parts zcO;have hl1:(qaU l).length=l.length*1:=by rw [bCells_length,Nat.mul_one]
  have hcell: ∀j u,(qaU l)[j]?=some u→w.cell? ⟨ad,0+j,none⟩=some u:=fun j u hu=>by
   have hj:j<l.length:=by
    have:=(List.getElem?_eq_some_iff.1 hu).1
    rwa [bCells_length]at this
   obtain ⟨g,cur,fr,e,_,hg,hc⟩:=h5 (by omega);obtain rfl:ad=g:=by injection e
   rw [Nat.zero_add,cell_of_row w ad j cur 5 fr hg,←hu,←hc,List.getElem?_take_of_lt hj];simp
  have hcon:=Tryz.slices_Clone i0 (.int .u8 0) 1 1 hi hz0 hz1 hz2 rfl (by omega) Tryz.sizeOf5 ad 0 l.length c (qaU l) w hl1 (by unfold maxLen;omega) (by omega) hcell (qoT l);refine hcon.mono fun e w' ⟨v,hv,ho,_,hb⟩=> ?_;obtain ⟨d',e',hd⟩:=Dat.own ho;exact ⟨d',by rw [hv,e'],hd,hb⟩
theorem qzF (xs:List qa3) (p:List UInt8) (h: ∀x∈xs,x.1.path.length≤400):hasK xs p=((xs.map (·.1)).any fun n=>decide (n.path=p)):=by
 unfold hasK;rw [List.any_map]
 induction xs with
 |nil=>rfl
 |cons x xs ih=>
  rw [List.any_cons,List.any_cons,ih (fun y hy=>h y (by simp [hy]))]
  congr 1
  show decide (keyL x=p)=decide (x.1.path=p);rw [keyL,List.take_of_length_le (h x (by simp))]
def TL (w:World) (m:Nat) (rs:List RawV) (k:Nat) (xs:List qa3) (ds:List (List UInt8)) (tv dv:Value) (wr:World):Prop:=
 Blk wr w.heap.size 23 #[tv]∧qeU wr (w.heap.size+1) tv xs∧qaX wr (w.heap.size+1) dv ds∧(∀x∈xs,Dat wr (w.heap.size+1) x.2 x.1.data∧Fits x.1)∧
 (xs.map (·.1),ds)=qcI m (rs.take k)∧1≤ds.length∧ds.length≤xs.length+1∧(∀d∈ds,d.length≤400)∧Below w.heap.size w wr
theorem qeU.form {w:World} {B:Nat} {v:Value} {xs:List qa3} (h:qeU w B v xs): ∃G cap,v= .slice (adr G) xs.length cap:=by
 rcases h.any with ⟨rfl,rfl⟩|⟨g,cap,rfl,_⟩
 ·exact ⟨none,0,rfl⟩
 ·exact ⟨some g,cap,rfl⟩
theorem qeU.below {w w':World} {B:Nat} {v:Value} {xs:List qa3} (h:qeU w B v xs) (hb:Below w.heap.size w w'):qeU w' B v xs:=
 World.ownsRow.kept h (qnO hb none) (by
  by_cases e:v.ownBlock=none
  ·exact .inl e
  ·exact .inr e)
theorem TL.below {w:World} {m:Nat} {rs:List RawV} {k:Nat} {xs:List qa3} {ds:List (List UInt8)} {tv dv:Value} {wr wx:World} (h:TL w m rs k xs ds tv dv wr) (hb:Below wr.heap.size wr wx):TL w m rs k xs ds tv dv wx:=by
 obtain ⟨h1,h2,h3,h4,h5,h6,h7,h8,h9⟩:=h;exact ⟨h1.below hb h1.lt,h2.below hb,h3.below hb,fun x hx=>⟨(h4 x hx).1.below hb,(h4 x hx).2⟩,h5,h6,h7,h8,h9.trans (hb.mono h9.size)⟩
theorem TL.next {w:World} {m:Nat} {rs:List RawV} {k:Nat} {xs:List qa3} {ds:List (List UInt8)} {tv dv:Value} {wr:World} (h:TL w m rs k xs ds tv dv wr) (hk:k<rs.length)
  (hs:qbV m (xs.map (·.1),ds) rs[k]=(xs.map (·.1),ds)):TL w m rs (k+1) xs ds tv dv wr:=by
 obtain ⟨h1,h2,h3,h4,h5,h6,h7,h8,h9⟩:=h;exact ⟨h1,h2,h3,h4,by rw [qo6 m rs k hk,←h5,hs],h6,h7,h8,h9⟩
theorem nodeN1 {w wA:World} {t:TypeId} {cs:Array Value} (hb:Below ((w.alloc (.cells cs t)).drew).heap.size (w.alloc (.cells cs t)).drew wA):Blk wA w.heap.size t cs:=
 Blk.below (w:=(w.alloc (.cells cs t)).drew) (Blk.new w t cs) hb (by simp)
theorem zdW {w wA:World} {t:TypeId} {cs:Array Value} (hb:Below (w.alloc (.cells cs t)).heap.size (w.alloc (.cells cs t)) wA):Blk wA w.heap.size t cs:=
 Blk.below (Blk.new w t cs) hb (by simp)
def nodeZ:Array Value:= #[.string ⟨#[]⟩,.int .i64 0,.int .i64 0,.string ⟨#[]⟩,.int .i64 0,.int .i64 0,.int .i64 0,.string ⟨#[]⟩,.string ⟨#[]⟩,.int .i64 0,.int .i64 0,.slice none 0 0]
def nodeL (p dt:ByteArray) (md:MetaV) (g n c:Nat):Array Value:= #[.string p,.int .i64 1,.int .i64 0,.string ⟨#[]⟩,.int .i64 md.mode,.int .i64 md.uid,.int .i64 md.gid,.string ⟨md.user.toArray⟩,.string ⟨md.group.toArray⟩,.int .i64 md.second,.int .i64 md.nano,.slice (some ⟨g,0,none⟩) n c]
def q8T (w:World) (B:Nat) (p dt:ByteArray) (md:MetaV) (g:Nat) (wx:World):Prop:=
 ∃gd c:Nat,Blk wx g 49 (nodeL p dt md gd dt.size c)∧Dat wx B (some gd,dt.size,c) dt.data.toList∧w.heap.size≤g∧Below w.heap.size w wx
theorem q10 (W:World) (g k:Nat) (h:k≠g) (v0 v1 v2 v3 v4 v5 v6 v7 v8 v9 v10 v11:Value):((((((((((((W.setCell ⟨g,0,none⟩ v0).setCell ⟨g,1,none⟩ v1).setCell ⟨g,2,none⟩ v2).setCell ⟨g,3,none⟩ v3).setCell ⟨g,4,none⟩ v4).setCell ⟨g,5,none⟩ v5).setCell ⟨g,6,none⟩ v6).setCell ⟨g,7,none⟩ v7).setCell ⟨g,8,none⟩ v8).setCell ⟨g,9,none⟩ v9).setCell ⟨g,10,none⟩ v10).setCell ⟨g,11,none⟩ v11).heap[k]?=W.heap[k]?:=
 ((Below.heap_setCell _ ⟨g,11,none⟩ v11 k h).trans ((Below.heap_setCell _ ⟨g,10,none⟩ v10 k h).trans ((Below.heap_setCell _ ⟨g,9,none⟩ v9 k h).trans ((Below.heap_setCell _ ⟨g,8,none⟩ v8 k h).trans ((Below.heap_setCell _ ⟨g,7,none⟩ v7 k h).trans ((Below.heap_setCell _ ⟨g,6,none⟩ v6 k h).trans ((Below.heap_setCell _ ⟨g,5,none⟩ v5 k h).trans ((Below.heap_setCell _ ⟨g,4,none⟩ v4 k h).trans ((Below.heap_setCell _ ⟨g,3,none⟩ v3 k h).trans ((Below.heap_setCell _ ⟨g,2,none⟩ v2 k h).trans ((Below.heap_setCell _ ⟨g,1,none⟩ v1 k h).trans (Below.heap_setCell _ ⟨g,0,none⟩ v0 k h))))))))))))
theorem step {w a b:World} (h1:Below w.heap.size w a) (h2:Below a.heap.size a b):Below w.heap.size w b:=h1.trans (h2.mono h1.size)
theorem al {w a:World} (h:Below w.heap.size w a) (o:Obj):Below w.heap.size w (a.alloc o):=h.alloc h.size o
theorem Blk.set12 {w:World} {g:Nat} {t:TypeId} {a0 a1 a2 a3 a4 a5 a6 a7 a8 a9 a10 a11:Value} (h:Blk w g t #[a0,a1,a2,a3,a4,a5,a6,a7,a8,a9,a10,a11]) (v0 v1 v2 v3 v4 v5 v6 v7 v8 v9 v10 v11:Value):Blk ((((((((((((w.setCell ⟨g,0,none⟩ v0).setCell ⟨g,1,none⟩ v1).setCell ⟨g,2,none⟩ v2).setCell ⟨g,3,none⟩ v3).setCell ⟨g,4,none⟩ v4).setCell ⟨g,5,none⟩ v5).setCell ⟨g,6,none⟩ v6).setCell ⟨g,7,none⟩ v7).setCell ⟨g,8,none⟩ v8).setCell ⟨g,9,none⟩ v9).setCell ⟨g,10,none⟩ v10).setCell ⟨g,11,none⟩ v11) g t #[v0,v1,v2,v3,v4,v5,v6,v7,v8,v9,v10,v11]:=by
 have h0:Blk (w.setCell ⟨g,0,none⟩ v0) g t #[v0,a1,a2,a3,a4,a5,a6,a7,a8,a9,a10,a11]:=Blk.set_ h 0 v0;have h1:Blk ((w.setCell ⟨g,0,none⟩ v0).setCell ⟨g,1,none⟩ v1) g t #[v0,v1,a2,a3,a4,a5,a6,a7,a8,a9,a10,a11]:=Blk.set_ h0 1 v1;have h2:Blk (((w.setCell ⟨g,0,none⟩ v0).setCell ⟨g,1,none⟩ v1).setCell ⟨g,2,none⟩ v2) g t #[v0,v1,v2,a3,a4,a5,a6,a7,a8,a9,a10,a11]:=Blk.set_ h1 2 v2;have h3:Blk ((((w.setCell ⟨g,0,none⟩ v0).setCell ⟨g,1,none⟩ v1).setCell ⟨g,2,none⟩ v2).setCell ⟨g,3,none⟩ v3) g t #[v0,v1,v2,v3,a4,a5,a6,a7,a8,a9,a10,a11]:=Blk.set_ h2 3 v3;have h4:Blk (((((w.setCell ⟨g,0,none⟩ v0).setCell ⟨g,1,none⟩ v1).setCell ⟨g,2,none⟩ v2).setCell ⟨g,3,none⟩ v3).setCell ⟨g,4,none⟩ v4) g t #[v0,v1,v2,v3,v4,a5,a6,a7,a8,a9,a10,a11]:=Blk.set_ h3 4 v4;have h5:Blk ((((((w.setCell ⟨g,0,none⟩ v0).setCell ⟨g,1,none⟩ v1).setCell ⟨g,2,none⟩ v2).setCell ⟨g,3,none⟩ v3).setCell ⟨g,4,none⟩ v4).setCell ⟨g,5,none⟩ v5) g t #[v0,v1,v2,v3,v4,v5,a6,a7,a8,a9,a10,a11]:=Blk.set_ h4 5 v5;have h6:Blk (((((((w.setCell ⟨g,0,none⟩ v0).setCell ⟨g,1,none⟩ v1).setCell ⟨g,2,none⟩ v2).setCell ⟨g,3,none⟩ v3).setCell ⟨g,4,none⟩ v4).setCell ⟨g,5,none⟩ v5).setCell ⟨g,6,none⟩ v6) g t #[v0,v1,v2,v3,v4,v5,v6,a7,a8,a9,a10,a11]:=Blk.set_ h5 6 v6;have h7:Blk ((((((((w.setCell ⟨g,0,none⟩ v0).setCell ⟨g,1,none⟩ v1).setCell ⟨g,2,none⟩ v2).setCell ⟨g,3,none⟩ v3).setCell ⟨g,4,none⟩ v4).setCell ⟨g,5,none⟩ v5).setCell ⟨g,6,none⟩ v6).setCell ⟨g,7,none⟩ v7) g t #[v0,v1,v2,v3,v4,v5,v6,v7,a8,a9,a10,a11]:=Blk.set_ h6 7 v7
 have h8:Blk (((((((((w.setCell ⟨g,0,none⟩ v0).setCell ⟨g,1,none⟩ v1).setCell ⟨g,2,none⟩ v2).setCell ⟨g,3,none⟩ v3).setCell ⟨g,4,none⟩ v4).setCell ⟨g,5,none⟩ v5).setCell ⟨g,6,none⟩ v6).setCell ⟨g,7,none⟩ v7).setCell ⟨g,8,none⟩ v8) g t #[v0,v1,v2,v3,v4,v5,v6,v7,v8,a9,a10,a11]:=Blk.set_ h7 8 v8;have h9:Blk ((((((((((w.setCell ⟨g,0,none⟩ v0).setCell ⟨g,1,none⟩ v1).setCell ⟨g,2,none⟩ v2).setCell ⟨g,3,none⟩ v3).setCell ⟨g,4,none⟩ v4).setCell ⟨g,5,none⟩ v5).setCell ⟨g,6,none⟩ v6).setCell ⟨g,7,none⟩ v7).setCell ⟨g,8,none⟩ v8).setCell ⟨g,9,none⟩ v9) g t #[v0,v1,v2,v3,v4,v5,v6,v7,v8,v9,a10,a11]:=Blk.set_ h8 9 v9;have h10:Blk (((((((((((w.setCell ⟨g,0,none⟩ v0).setCell ⟨g,1,none⟩ v1).setCell ⟨g,2,none⟩ v2).setCell ⟨g,3,none⟩ v3).setCell ⟨g,4,none⟩ v4).setCell ⟨g,5,none⟩ v5).setCell ⟨g,6,none⟩ v6).setCell ⟨g,7,none⟩ v7).setCell ⟨g,8,none⟩ v8).setCell ⟨g,9,none⟩ v9).setCell ⟨g,10,none⟩ v10) g t #[v0,v1,v2,v3,v4,v5,v6,v7,v8,v9,v10,a11]:=Blk.set_ h9 10 v10;have h11:Blk ((((((((((((w.setCell ⟨g,0,none⟩ v0).setCell ⟨g,1,none⟩ v1).setCell ⟨g,2,none⟩ v2).setCell ⟨g,3,none⟩ v3).setCell ⟨g,4,none⟩ v4).setCell ⟨g,5,none⟩ v5).setCell ⟨g,6,none⟩ v6).setCell ⟨g,7,none⟩ v7).setCell ⟨g,8,none⟩ v8).setCell ⟨g,9,none⟩ v9).setCell ⟨g,10,none⟩ v10).setCell ⟨g,11,none⟩ v11) g t #[v0,v1,v2,v3,v4,v5,v6,v7,v8,v9,v10,v11]:=Blk.set_ h10 11 v11;exact h11
theorem Dat.set12 {w:World} {g B:Nat} {t:TypeId} {cs:Array Value} {d:Option Nat×Nat×Nat} {l:List UInt8} (h:Blk w g t cs) (ht:t≠5) (hD:Dat w B d l) (v0 v1 v2 v3 v4 v5 v6 v7 v8 v9 v10 v11:Value):Dat ((((((((((((w.setCell ⟨g,0,none⟩ v0).setCell ⟨g,1,none⟩ v1).setCell ⟨g,2,none⟩ v2).setCell ⟨g,3,none⟩ v3).setCell ⟨g,4,none⟩ v4).setCell ⟨g,5,none⟩ v5).setCell ⟨g,6,none⟩ v6).setCell ⟨g,7,none⟩ v7).setCell ⟨g,8,none⟩ v8).setCell ⟨g,9,none⟩ v9).setCell ⟨g,10,none⟩ v10).setCell ⟨g,11,none⟩ v11) B d l:=
 hD.keep fun g' cur fr hg=>(q10 _ _ _ (by
  rintro rfl;unfold Blk at h;rw [h]at hg;simp only [Option.some.injEq,Obj.cells.injEq]at hg
  exact ht hg.2.1) _ _ _ _ _ _ _ _ _ _ _ _).trans hg
theorem Dat.conv_al (w:World) (o:Obj) (B:Nat) (s:ByteArray) (hB:B≤w.heap.size) (hs:s.size≤1000000):Dat (Lib.bytesWorld (w.alloc o) 5 s) B (some (w.heap.size+1),s.size,grownCap (w.alloc o) s.size 0 5) s.data.toList:=by
 have e:(w.alloc o).heap.size=w.heap.size+1:=by simp
 rw [←e];exact Dat.conv (w.alloc o) B s (by omega) hs
theorem quA {w W:World} {B g gd c:Nat} (p:ByteArray) {dt:ByteArray} (md:MetaV)
  (HN:Blk W g 49 #[.string ⟨#[]⟩,.int .i64 0,.int .i64 0,.string ⟨#[]⟩,.int .i64 0,.int .i64 0,.int .i64 0,.string ⟨#[]⟩,.string ⟨#[]⟩,.int .i64 0,.int .i64 0,.slice none 0 0])
  (hD:Dat W B (some gd,dt.size,c) dt.data.toList) (hb:Below w.heap.size w W) (hg:w.heap.size≤g):
  q8T w B p dt md g ((((((((((((W.setCell ⟨g,0,none⟩ (.string p)).setCell ⟨g,1,none⟩ (.int .i64 1)).setCell ⟨g,2,none⟩ (.int .i64 0)).setCell ⟨g,3,none⟩ (.string ⟨#[]⟩)).setCell ⟨g,4,none⟩ (.int .i64 md.mode)).setCell ⟨g,5,none⟩ (.int .i64 md.uid)).setCell ⟨g,6,none⟩ (.int .i64 md.gid)).setCell ⟨g,7,none⟩ (.string ⟨md.user.toArray⟩)).setCell ⟨g,8,none⟩ (.string ⟨md.group.toArray⟩)).setCell ⟨g,9,none⟩ (.int .i64 md.second)).setCell ⟨g,10,none⟩ (.int .i64 md.nano)).setCell ⟨g,11,none⟩ (.slice (some ⟨gd,0,none⟩) dt.size c)):=
 ⟨gd,c,Blk.set12 HN _ _ _ _ _ _ _ _ _ _ _ _,Dat.set12 HN (by decide) hD _ _ _ _ _ _ _ _ _ _ _ _,hg,Below.set12 hb hg _ _ _ _ _ _ _ _ _ _ _ _⟩
theorem za6 {w W:World} {B gd c:Nat} (p:ByteArray) {dt:ByteArray} (md:MetaV) (hD:Dat W B (some gd,dt.size,c) dt.data.toList) (hb:Below w.heap.size w W):
  q8T w B p dt md W.heap.size (W.alloc (.cells #[.string p,.int .i64 1,.int .i64 0,.string ⟨#[]⟩,.int .i64 md.mode,.int .i64 md.uid,.int .i64 md.gid,.string ⟨md.user.toArray⟩,.string ⟨md.group.toArray⟩,.int .i64 md.second,.int .i64 md.nano,.slice (some ⟨gd,0,none⟩) dt.size c] 49)):=
 ⟨gd,c,Blk.new _ _ _,hD.below ((Below.refl _ _).alloc (Nat.le_refl _) _),hb.size,hb.alloc hb.size _⟩
theorem qjU (s:ByteArray):(⟨s.data.toList.toArray⟩:ByteArray)=s:=by apply ByteArray.ext;simp
theorem qzU (a b:ByteArray):(a++b).data.toList=a.data.toList++b.data.toList:=by simp [ByteArray.data_append]
theorem qu1 (d:Array qa3):(Go.Sort.flatK encN 12 d).toList=encC d.toList:=by
 apply List.ext_getElem?;intro t
 by_cases ht:t<d.size*12
 ·have h1:=Go.Sort.get_flatK encN 12 d t ht;have hlt:t<(Go.Sort.flatK encN 12 d).size:=by rw [Go.Sort.size_flatK];exact ht
  rw [getElem!_pos _ t hlt]at h1;rw [Array.getElem?_toList,Array.getElem?_eq_getElem hlt,h1];have hd:t/12<d.size:=by omega
  have hm:t%12<12:=Nat.mod_lt _ (by omega);have e:=qsJ d.toList (t/12) (t%12) (by simpa using hd) hm;rw [show t/12*12+t%12=t by omega]at e;rw [e,getElem!_pos d (t/12) hd,Array.getElem_toList];have hm':t%12<(encN d[t/12]).length:=by rw [qb0];exact hm
  rw [List.getElem?_eq_getElem hm',getElem!_pos (encN d[t/12]) (t%12) hm']
 ·rw [List.getElem?_eq_none (by simp;omega),List.getElem?_eq_none (by rw [qn4];simp;omega)]
theorem qtY (F c:Array Value) (h:F.size≤c.size):(Go.Sort.putCells id 0 F c).size=c.size∧(Go.Sort.putCells id 0 F c).toList.take F.size=F.toList:=by
 refine ⟨by simp [Go.Sort.putCells],?_⟩;apply List.ext_getElem?;intro t
 by_cases ht:t<F.size
 ·rw [List.getElem?_take_of_lt ht,Array.getElem?_toList,Array.getElem?_toList];simp only [Go.Sort.putCells,Array.getElem?_mapIdx];rw [Array.getElem?_eq_getElem (by omega:t<c.size),Array.getElem?_eq_getElem ht];simp only [Option.map_some];rw [if_pos (by omega),Nat.sub_zero,getElem!_pos F t ht];rfl
 ·rw [List.getElem?_eq_none (by rw [List.length_take];omega),List.getElem?_eq_none (by simpa using ht)]
theorem qk6 (w:World) (g m:Nat) (os:Array Obj) (d':Array qa3) (cur:Array Value) (hg:w.heap[g]?=some (.cells cur 49 (0,0))) (hs:d'.size*12≤cur.size):
  (∃cur',(sortWorldK encN 12 w g 0 m d' os).heap[g]?=some (.cells cur' 49 (0,0))∧cur'.size=cur.size∧cur'.toList.take (d'.size*12)=encC d'.toList)∧w.grownBy (sortWorldK encN 12 w g 0 m d' os) (some g):=by
 have hlt:g<w.heap.size:=qe3 hg;have hF:(Go.Sort.flatK encN 12 d').size=d'.size*12:=Go.Sort.size_flatK _ _ _;obtain ⟨p1,p2⟩:=qtY (Go.Sort.flatK encN 12 d') cur (by rw [hF];exact hs);rw [hF,qu1]at p2;unfold sortWorldK Go.Sort.putRowK Go.Sort.putRow Go.Sort.mapBlock Go.Sort.ahead;constructor
 ·refine ⟨_,?_,p1,p2⟩;rw [Go.Sort.heap_grow_old _ _ (by simpa using hlt)];simp only [Array.getElem?_modify,if_true,hg,Option.map_some,Go.Sort.onCells]
 ·refine ⟨rfl,rfl,rfl,by simp,fun k hk hne=> ?_⟩;rw [Go.Sort.heap_grow_old _ _ (by simpa using hk)];simp only [Array.getElem?_modify];rw [if_neg (fun e=>hne (by rw [e]))]
set_option maxHeartbeats 800000 in
theorem qqO (w:World) (B:Nat) (v:Value) (xs:List qa3) (h:qeU w B v xs) (hl:xs.length≤1000000):
  Calls Tryz.prog 59 #[v,.func (.func 60) #[] #[]] w fun e w'=>e= .returned (.tuple #[])∧ ∃ys:List qa3,ys.Perm xs∧(∀i j (hi:i<j) (hj:j<ys.length),pcmp (keyL (ys[i]'(by omega))) (keyL ys[j])≤0)∧qeU w' B v ys∧w.grownBy w' v.ownBlock:=by
 have h':=h;unfold qeU World.ownsRow at h';rcases h'.2 with ⟨rfl,h0⟩|⟨g,cap,cur,rfl,hB,hg,hcap,hm,hsz,htk⟩
 ·have hx0:xs= []:=List.eq_nil_of_length_eq_zero h0;subst hx0;exact (Tryz.slices_SortFunc_none (α:=Nat) none 0 (.func (.func 60) #[] #[]) w).mono fun e w' ⟨a,b⟩=>⟨a, [],List.Perm.nil,(fun i j _ hj=>by simp at hj),b▸h,b▸World.grownBy.refl w _⟩
 ·have eg: ∀args w,(callFunc 60 args).run Tryz.prog w= .ok (.enter 60 args) w:=enters_of Tryz.func60 (by kernel_rfl) rfl
  have hH:Go.Sort.HoldsK encN 12 w g 0 xs.toArray:=by
   intro j hj;rw [Go.Sort.size_flatK]at hj;have hj':j<xs.length*12:=by simpa using hj
   have hlt:j<(Go.Sort.flatK encN 12 xs.toArray).size:=by rw [Go.Sort.size_flatK];exact hj
   have hfl:=qu1 xs.toArray;have e1:(Go.Sort.flatK encN 12 xs.toArray)[j]?=(encC xs)[j]?:=by rw [←Array.getElem?_toList,hfl]
   rw [Array.getElem?_eq_getElem hlt]at e1;refine ⟨?_,World.ownsRow.frozenAt h _⟩;rw [Nat.zero_add,World.ownsRow.cellAt h j hj',←e1,getElem!_pos _ j hlt];rfl
  have hcon:=Tryz.slices_SortFunc 12 Tryz.isAgg49 Tryz.sizeOf49 encN qb0 qzI (fun x y=>pcmp (keyL x) (keyL y)) swoN 60 #[] g 0 cap xs.toArray w eg (zcM g 0 _ w) hH (qe3 hg) (by simp;omega);refine hcon.mono fun e w' ⟨he,d',n,os,hp,hs,hw⟩=>⟨he,d'.toList,?_,?_,?_,?_⟩
  ·have h2:=hp.2.2;have e1:d'.size=xs.length:=by simpa using hp.1
   have e2:d'.extract 0 xs.toArray.size=d':=by rw [←hp.1];simp
   have e3:xs.toArray.extract 0 xs.toArray.size=xs.toArray:=by simp
   rw [e2,e3]at h2;simpa using h2
  ·intro i j hi hj;have e1:d'.size=xs.toArray.size:=hp.1;have hj':j<d'.size:=by simpa using hj
   have:=hs i j (Nat.zero_le _) hi (by omega);rw [qrT,decide_eq_false_iff_not,getElem!_pos d' j hj',getElem!_pos d' i (by omega)]at this;have h3:=qe0 (keyL d'[j]) (keyL (d'[i]'(by omega)));simp only [Array.getElem_toList];omega
  ·have e1:d'.size=xs.length:=by simpa using hp.1
   obtain ⟨⟨cur',k1,k2,k3⟩,_⟩:=qk6 w g n os d' cur hg (by rw [e1,hsz];exact Nat.mul_le_mul_right 12 hcap);rw [hw];refine ⟨qn4 _,.inr ⟨g,cap,cur',?_,hB,k1,?_,hm,by rw [k2,hsz],?_⟩⟩
   ·simp [e1]
   ·simp [e1];exact hcap
   ·have e2:d'.toList.length=d'.size:=by simp
    rw [e2];exact k3
  ·have e1:d'.size=xs.length:=by simpa using hp.1
   rw [hw];exact (qk6 w g n os d' cur hg (by rw [e1,hsz];exact Nat.mul_le_mul_right 12 hcap)).2
def qcT (t0:TypeId) (w w':World):Prop:= ∀(k:Nat) (cur:Array Value) (t:TypeId) (fr:Nat×Nat),w.heap[k]?=some (Obj.cells cur t fr)→t≠t0→w'.heap[k]?=some (Obj.cells cur t fr)
theorem qcT.trans {t0:TypeId} {a b c:World} (h:qcT t0 a b) (h':qcT t0 b c):qcT t0 a c:=fun k cur t fr hk hne=>h' k cur t fr (h k cur t fr hk hne) hne
theorem qcT.below {t0:TypeId} {a b:World} (h:Below a.heap.size a b):qcT t0 a b:=fun k cur t fr hk _=>(h.block k (qe3 hk)).trans hk
theorem qcT.grown {t0:TypeId} {a b:World} {row:Option Nat} (h:a.grownBy b row) (hr: ∀g0,row=some g0→ ∃cur fr,a.heap[g0]?=some (Obj.cells cur t0 fr)):qcT t0 a b:=fun k cur t fr hk hne=>by
 refine (h.block k (qe3 hk) fun e=> ?_).trans hk;obtain ⟨cur',fr',h'⟩:=hr k e.symm;rw [h']at hk;simp only [Option.some.injEq,Obj.cells.injEq]at hk;exact hne hk.2.1.symm
theorem qcT.set {t0:TypeId} {w:World} {g:Nat} {cs:Array Value} {fr:Nat×Nat} (hb:w.heap[g]?=some (Obj.cells cs t0 fr)) (i:Nat) (v:Value):qcT t0 w (w.setCell ⟨g,i,none⟩ v):=fun k cur t fr' hk hne=>by
 refine (Below.heap_setCell w ⟨g,i,none⟩ v k fun e=> ?_).trans hk;have e':k=g:=e;subst e';rw [hb]at hk;simp only [Option.some.injEq,Obj.cells.injEq]at hk;exact hne hk.2.1.symm
theorem Blk.keepT {t0 t:TypeId} {w w':World} {g:Nat} {cs:Array Value} (h:Blk w g t cs) (hk:qcT t0 w w') (hne:t≠t0):Blk w' g t cs:=hk g cs t (0,0) h hne
theorem qfC {t0:TypeId} {w w':World} {B e size:Nat} {v:Value} {n:Nat} {xs:List Value} (h:w.ownsRow B e size v n xs) (hk:qcT t0 w w') (hne:e≠t0):w'.ownsRow B e size v n xs:=qcB h fun g hg=>by
 obtain ⟨_,cur,hc⟩:=qa2 h g hg;rw [hc,hk g cur e (0,0) hc hne]
theorem Dat.keepT {t0:TypeId} {w w':World} {B:Nat} {d:Option Nat×Nat×Nat} {l:List UInt8} (h:Dat w B d l) (hk:qcT t0 w w') (hne:5≠t0):Dat w' B d l:=h.keep fun g cur fr hg=>hk g cur 5 fr hg hne
section
variable {m:Nat} {ns:List NodeV} {ds:List (List UInt8)} {r:RawV}
theorem q9M (h: ¬m≤ns.length) (hl: ¬400<(qbO ds r).length) (hd:(ns.any fun n=>decide (n.path=qbO ds r))=false) (hk:pick r.kind 7=0∨pick r.kind 7=1):
  qbV m (ns,ds) r=(ns++ [{qdR (qbO ds r) r with kind:=2,data:= [] }],ds++ [qbO ds r]):=by
 unfold qbV;rw [if_neg h];simp only;rw [if_neg (by rintro (a|a);exact hl a;rw [hd]at a;cases a),if_pos hk]
theorem q9J (h: ¬m≤ns.length) (hl: ¬400<(qbO ds r).length) (hd:(ns.any fun n=>decide (n.path=qbO ds r))=false) (hk:pick r.kind 7=2):
  qbV m (ns,ds) r=(ns++ [{qdR (qbO ds r) r with kind:=3,data:= [],target:=qh7 r}],ds):=by
 unfold qbV;rw [if_neg h];simp only;rw [if_neg (by rintro (a|a);exact hl a;rw [hd]at a;cases a),if_neg (by omega),if_pos hk]
theorem q31 (h: ¬m≤ns.length) (hl: ¬400<(qbO ds r).length) (hd:(ns.any fun n=>decide (n.path=qbO ds r))=false) (hk: ¬(pick r.kind 7=0∨pick r.kind 7=1)) (hk2: ¬pick r.kind 7=2) (hk3: ¬(pick r.kind 7=3∨pick r.kind 7=4)):
  qbV m (ns,ds) r=(ns++ [qdR (qbO ds r) r],ds):=by
 unfold qbV;rw [if_neg h];simp only;rw [if_neg (by rintro (a|a);exact hl a;rw [hd]at a;cases a),if_neg hk,if_neg hk2,if_neg hk3]
theorem q3W (h: ¬m≤ns.length) (hl: ¬400<(qbO ds r).length) (hd:(ns.any fun n=>decide (n.path=qbO ds r))=false) (hk3:pick r.kind 7=3∨pick r.kind 7=4) (hj:ns.length≤(pick r.a (ns.length+1)).toNat):
  qbV m (ns,ds) r=(ns++ [qdR (qbO ds r) r],ds):=by
 unfold qbV;rw [if_neg h];simp only;rw [if_neg (by rintro (a|a);exact hl a;rw [hd]at a;cases a),if_neg (by omega),if_neg (by omega),if_pos hk3,List.getElem?_eq_none hj]
theorem q0F (h: ¬m≤ns.length) (hl: ¬400<(qbO ds r).length) (hd:(ns.any fun n=>decide (n.path=qbO ds r))=false) (hk3:pick r.kind 7=3∨pick r.kind 7=4) (j:Nat) (e:(pick r.a (ns.length+1)).toNat=j) (hj:j<ns.length) (hx:ns[j].kind≠1):
  qbV m (ns,ds) r=(ns++ [qdR (qbO ds r) r],ds):=by
 unfold qbV;rw [if_neg h];simp only;rw [if_neg (by rintro (a|a);exact hl a;rw [hd]at a;cases a),if_neg (by omega),if_neg (by omega),if_pos hk3,e,List.getElem?_eq_getElem hj];simp only;rw [if_neg hx]
theorem qtE (h: ¬m≤ns.length) (hl: ¬400<(qbO ds r).length) (hd:(ns.any fun n=>decide (n.path=qbO ds r))=false) (hk3:pick r.kind 7=3∨pick r.kind 7=4) (j:Nat) (e:(pick r.a (ns.length+1)).toNat=j) (hj:j<ns.length) (hx:ns[j].kind=1) (x':NodeV) (hx':(if ns[j].same=0 then {ns[j]with same:=(j:Int)+1} else ns[j])=x'):
  qbV m (ns,ds) r=(ns.set j x'++ [{x' with path:=qbO ds r}],ds):=by
 unfold qbV;rw [if_neg h];simp only;rw [if_neg (by rintro (a|a);exact hl a;rw [hd]at a;cases a),if_neg (by omega),if_neg (by omega),if_pos hk3,e,List.getElem?_eq_getElem hj];simp only;rw [if_pos hx,hx']
end
def TP (w:World) (m:Nat) (st:List NodeV×List (List UInt8)) (r:RawV) (nx:Nat) (tv:Value) (g:Nat) (xs1:List qa3) (nd:qa3) (ds1:List (List UInt8)) (dv:Value) (wx:World):Prop:=
 Blk wx w.heap.size 23 #[tv]∧qeU wx (w.heap.size+1) tv xs1∧qaX wx (w.heap.size+1) dv ds1∧(∀x∈xs1,Dat wx (w.heap.size+1) x.2 x.1.data∧Fits x.1)∧
 Blk wx g 49 (encN nd).toArray∧Dat wx (w.heap.size+1) nd.2 nd.1.data∧Fits nd.1∧qbV m st r=(xs1.map (·.1)++ [nd.1],ds1)∧1≤ds1.length∧ds1.length≤nx+2∧(∀d∈ds1,d.length≤400)∧xs1.length=nx∧Below w.heap.size w wx
theorem TP.push {w:World} {m:Nat} {st:List NodeV×List (List UInt8)} {r:RawV} {nx k:Nat} {tv:Value} {g:Nat} {xs1:List qa3} {nd:qa3} {ds1:List (List UInt8)} {dv:Value} {wx:World} (h:TP w m st r nx tv g xs1 nd ds1 dv wx)
  {rs:List RawV} (hk:k<rs.length) (hr:rs[k]=r) (hst:st=qcI m (rs.take k)) {o:Obj} {w7:World} {g' cap:Nat}
  (hown:w7.ownsRow (w.heap.size+1) 49 12 (.slice (some ⟨g',0,none⟩) (nx+1) cap) (nx+1) (encC xs1++encN nd)) (hgrow:(wx.alloc o).grownBy w7 tv.ownBlock):
  TL w m rs (k+1) (xs1++ [nd]) ds1 (.slice (some ⟨g',0,none⟩) (nx+1) cap) dv (w7.setCell ⟨w.heap.size,0,none⟩ (.slice (some ⟨g',0,none⟩) (nx+1) cap)):=by
 obtain ⟨h1,h2,h3,h4,h5,h6,h7,h8,h9,h10,h11,h12,h13⟩:=h;have k0:qcT 49 wx (wx.alloc o):=qcT.below ((Below.refl _ _).alloc (Nat.le_refl _) o)
 have k1:qcT 49 (wx.alloc o) w7:=qcT.grown hgrow fun g0 e=>by
  obtain ⟨_,cur,hc⟩:=qa2 h2 g0 e;exact ⟨cur,(0,0),(Below.heap_alloc wx o g0 (qe3 hc)).trans hc⟩
 have k2:=k0.trans k1;have b1:Blk w7 w.heap.size 23 #[tv]:=h1.keepT k2 (by decide);have k3:qcT 23 w7 (w7.setCell ⟨w.heap.size,0,none⟩ (.slice (some ⟨g',0,none⟩) (nx+1) cap)):=qcT.set b1 0 _;have hlen:(xs1++ [nd]).length=nx+1:=by rw [List.length_append,h12];rfl
 refine ⟨Blk.set_ b1 0 _,?_,?_,?_,?_,h9,by omega,h11,?_⟩
 ·have hn:qeU w7 (w.heap.size+1) (.slice (some ⟨g',0,none⟩) (nx+1) cap) (xs1++ [nd]):=by
   unfold qeU;rw [hlen,zcB];have e:encC [nd]=encN nd:=by simp [encC]
   rw [e];exact hown
  exact qfC hn k3 (by decide)
 ·exact qfC (qfC h3 k2 (by decide)) k3 (by decide)
 ·intro x hx;rcases List.mem_append.1 hx with a|a
  ·exact ⟨((h4 x a).1.keepT k2 (by decide)).keepT k3 (by decide),(h4 x a).2⟩
  ·obtain rfl:x=nd:=by simpa using a
   exact ⟨(h6.keepT k2 (by decide)).keepT k3 (by decide),h7⟩
 ·rw [qo6 m rs k hk,hr,←hst,h8,List.map_append];rfl
 ·refine Below.setCell ?_ (p:=⟨w.heap.size,0,none⟩) (Nat.le_refl _) _;refine (h13.alloc h13.size o).grown hgrow ?_ ?_
  ·simp;have:=h13.size;omega
  ·intro k' hk';have:=(qa2 h2 k' hk').1;omega
theorem TP.box {w:World} {m:Nat} {st:List NodeV×List (List UInt8)} {r:RawV} {nx:Nat} {tv:Value} {g:Nat} {xs1:List qa3} {nd:qa3} {ds1:List (List UInt8)} {dv:Value} {wx:World} (h:TP w m st r nx tv g xs1 nd ds1 dv wx)
  {o:Obj} {w7:World} (hgrow:(wx.alloc o).grownBy w7 tv.ownBlock):Blk w7 w.heap.size 23 #[tv]:=by
 have k0:qcT 49 wx (wx.alloc o):=qcT.below ((Below.refl _ _).alloc (Nat.le_refl _) o)
 have k1:qcT 49 (wx.alloc o) w7:=qcT.grown hgrow fun g0 e=>by
  obtain ⟨_,cur,hc⟩:=qa2 h.2.1 g0 e;exact ⟨cur,(0,0),(Below.heap_alloc wx o g0 (qe3 hc)).trans hc⟩
 exact h.1.keepT (k0.trans k1) (by decide)
theorem zdC (w:World) (m:Nat) (rs:List RawV):TL w m rs 0 [] [[]] (.slice none 0 0) (.slice (some ⟨w.heap.size+1,0,none⟩) 1 1) ((w.alloc (.cells #[.slice none 0 0] 23)).alloc (.cells #[.string ⟨#[]⟩] 9)):=by
 have hb:Below w.heap.size w ((w.alloc (.cells #[.slice none 0 0] 23)).alloc (.cells #[.string ⟨#[]⟩] 9)):=al (al (Below.refl _ _) _) _;have h1:Blk (w.alloc (.cells #[.slice none 0 0] 23)) w.heap.size 23 #[.slice none 0 0]:=Blk.new _ _ _;refine ⟨h1.alloc _,World.ownsRow_nil _ _ _ _,?_,(fun x hx=>by simp at hx),rfl,Nat.le_refl _,by simp,(fun d hd=>by simp at hd;simp [hd]),hb⟩;have h2:=qaX.lit (w:=w.alloc (.cells #[.slice none 0 0] 23)) [[]] (by decide);have e:(w.alloc (.cells #[.slice none 0 0] 23)).heap.size=w.heap.size+1:=by simp
 rw [e]at h2;exact h2
theorem q5I (p dt:ByteArray) (r:RawV) (gd c:Nat) (hp:p.size≤400) (hdt:dt.data.toList=qo0 r) (pl:List UInt8) (hpl:p.data.toList=pl):
  nodeL p dt (qeQ r) gd dt.size c=(encN (qdR pl r,(some gd,dt.size,c))).toArray:=by
 subst hpl;have hl:p.data.toList.length=p.size:=by simp
 unfold nodeL encN keyL qdR;simp only [List.take_of_length_le (show p.data.toList.length≤400 by omega),qjU]
 rfl
def TQ (w:World) (xs:List qa3) (ds:List (List UInt8)) (nx:Nat) (tv dv:Value) (W:World):Prop:=
 Blk W w.heap.size 23 #[tv]∧qeU W (w.heap.size+1) tv xs∧qaX W (w.heap.size+1) dv ds∧(∀x∈xs,Dat W (w.heap.size+1) x.2 x.1.data∧Fits x.1)∧1≤ds.length∧ds.length≤nx+1∧(∀d∈ds,d.length≤400)∧xs.length=nx∧Below w.heap.size w W
theorem TL.tq {w:World} {m:Nat} {rs:List RawV} {k:Nat} {xs:List qa3} {ds:List (List UInt8)} {tv dv:Value} {W:World} (h:TL w m rs k xs ds tv dv W) {nx:Nat} (hnx:xs.length=nx):TQ w xs ds nx tv dv W:=by
 obtain ⟨h1,h2,h3,h4,h5,h6,h7,h8,h9⟩:=h;exact ⟨h1,h2,h3,h4,h6,by omega,h8,hnx,h9⟩
section
variable {w W W':World} {xs:List qa3} {ds:List (List UInt8)} {nx:Nat} {tv dv:Value}
theorem TQ.keep (h:TQ w xs ds nx tv dv W) (hk:qcT 49 W W') (hrow: ∀g0,tv.ownBlock=some g0→W'.heap[g0]?=W.heap[g0]?) (hb:Below w.heap.size w W'):TQ w xs ds nx tv dv W':=by
 obtain ⟨h1,h2,h3,h4,h6,h7,h8,h9,h10⟩:=h;exact ⟨h1.keepT hk (by decide),qcB h2 hrow,qfC h3 hk (by decide),fun x hx=>⟨(h4 x hx).1.keepT hk (by decide),(h4 x hx).2⟩,h6,h7,h8,h9,hb⟩
theorem TQ.below (h:TQ w xs ds nx tv dv W) (hb:Below W.heap.size W W'):TQ w xs ds nx tv dv W':=
 h.keep (qcT.below hb) (fun g0 e=>by
  obtain ⟨_,cur,hc⟩:=qa2 h.2.1 g0 e
  exact hb.block g0 (qe3 hc)) (h.2.2.2.2.2.2.2.2.trans (hb.mono h.2.2.2.2.2.2.2.2.size))
theorem TQ.set {g:Nat} {cs:Array Value} (h:TQ w xs ds nx tv dv W) (hg:Blk W g 49 cs) (hng: ∀g0,tv.ownBlock=some g0→g0≠g) (hB:w.heap.size≤g) (i:Nat) (v:Value):TQ w xs ds nx tv dv (W.setCell ⟨g,i,none⟩ v):=
 h.keep (qcT.set hg i v) (fun g0 e=>Below.heap_setCell W ⟨g,i,none⟩ v g0 (hng g0 e)) (h.2.2.2.2.2.2.2.2.setCell (p:=⟨g,i,none⟩) hB v)
theorem TQ.tp (h:TQ w xs ds nx tv dv W) {g:Nat} {ny:qa3} (hg:Blk W g 49 (encN ny).toArray) (hd:Dat W (w.heap.size+1) ny.2 ny.1.data) (hp:Fits ny.1) {m:Nat} {st:List NodeV×List (List UInt8)} {r:RawV} (hst:qbV m st r=(xs.map (·.1)++ [ny.1],ds)):
  TP w m st r nx tv g xs ny ds dv W:=by
 obtain ⟨h1,h2,h3,h4,h6,h7,h8,h9,h10⟩:=h;exact ⟨h1,h2,h3,h4,hg,hd,hp,hst,h6,by omega,h8,h9,h10⟩
def reS (x:qa3) (u:Int):qa3:=({x.1 with same:=u},x.2)
theorem TQ.same {G cap:Nat} (h:TQ w xs ds nx (.slice (some ⟨G,0,none⟩) nx cap) dv W) (j:Nat) (hj:j<xs.length) (hGB:w.heap.size≤G) (u:Int):
  TQ w (xs.set j (reS xs[j] u)) ds nx (.slice (some ⟨G,0,none⟩) nx cap) dv (W.setCell ⟨G,j*12+2,none⟩ (.int .i64 u)):=by
 obtain ⟨h1,h2,h3,h4,h6,h7,h8,h9,h10⟩:=h;subst h9;obtain ⟨_,cur,hc⟩:=qa2 h2 G rfl;have hk:qcT 49 W (W.setCell ⟨G,j*12+2,none⟩ (.int .i64 u)):=qcT.set hc _ _;refine ⟨h1.keepT hk (by decide),?_,qfC h3 hk (by decide),?_,h6,h7,h8,List.length_set,h10.setCell (p:=⟨G,j*12+2,none⟩) hGB _⟩
 ·have h2':W.ownsRow (w.heap.size+1) 49 12 (.slice (some ⟨G,0,none⟩) xs.length cap) xs.length (encC xs):=h2;have hs:=(World.ownsRow.stored h2' (j*12+2) (.int .i64 u)).1;unfold qeU;rw [List.length_set,←zcA xs j 2 (.int .i64 u) (reS xs[j] u) hj (by omega) rfl];exact hs
 ·intro x hx;rcases List.mem_or_eq_of_mem_set hx with a|a
  ·exact ⟨(h4 x a).1.keepT hk (by decide),(h4 x a).2⟩
  ·subst a;have:=h4 _ (List.getElem_mem hj);exact ⟨this.1.keepT hk (by decide),this.2⟩
end
theorem TP_dir {w w4 w6:World} {m:Nat} {xs:List qa3} {ds:List (List UInt8)} {r:RawV} {tv:Value} {gd nd cd g nx g' cap':Nat} {d:Option Nat×Nat×Nat} {p:ByteArray} {P:List UInt8} {o:Obj}
  (h:TQ w xs ds nx tv (.slice (some ⟨gd,0,none⟩) nd cd) w4) (hg:Blk w4 g 49 (encN (qdR P r,d)).toArray) (hng: ∀g0,tv.ownBlock=some g0→g0≠g) (hB:w.heap.size≤g)
  (hst:qbV m (xs.map (·.1),ds) r=(xs.map (·.1)++ [{qdR P r with kind:=2,data:= [] }],ds++ [P])) (hP:P.length≤400) (hp:p.data.toList=P) (hnd:ds.length=nd)
  (hown1:w6.ownsRow (w.heap.size+1) 9 1 (.slice (some ⟨g',0,none⟩) (nd+1) cap') (nd+1) (strC ds++ [.string p]))
  (hgrow:(((w4.setCell ⟨g,1,none⟩ (.int .i64 2)).setCell ⟨g,11,none⟩ (.slice none 0 0)).alloc o).grownBy w6 (Value.slice (some ⟨gd,0,none⟩) nd cd).ownBlock):
  TP w m (xs.map (·.1),ds) r nx tv g xs ({qdR P r with kind:=2,data:= [] },(none,0,0)) (ds++ [P]) (.slice (some ⟨g',0,none⟩) (nd+1) cap') w6:=by
 have b1:Blk (w4.setCell ⟨g,1,none⟩ (.int .i64 2)) g 49 _:=Blk.set_ hg 1 (.int .i64 2);have b2:Blk ((w4.setCell ⟨g,1,none⟩ (.int .i64 2)).setCell ⟨g,11,none⟩ (.slice none 0 0)) g 49 (encN ({qdR P r with kind:=2,data:= [] },(none,0,0))).toArray:=Blk.set_ b1 11 (.slice none 0 0);have q2:=(h.set hg hng hB 1 (.int .i64 2)).set b1 hng hB 11 (.slice none 0 0);obtain ⟨W1,HW1⟩:=qaA ((w4.setCell ⟨g,1,none⟩ (.int .i64 2)).setCell ⟨g,11,none⟩ (.slice none 0 0));rw [HW1.out]at q2 b2 hgrow
 have kk:qcT 9 W1 w6:=(qcT.below ((Below.refl W1.heap.size W1).alloc (Nat.le_refl _) o)).trans (qcT.grown hgrow fun g0 e=>by
  obtain ⟨_,cur,hc⟩:=qa2 q2.2.2.1 g0 e
  exact ⟨cur,(0,0),(Below.heap_alloc W1 o g0 (qe3 hc)).trans hc⟩)
 obtain ⟨h1,h2,h3,h4,h6,h7,h8,h9,h10⟩:=q2;have ep:Value.string p=strV P:=by rw [←hp,strV,qjU]
 refine ⟨h1.keepT kk (by decide),qfC h2 kk (by decide),?_,fun x hx=>⟨(h4 x hx).1.keepT kk (by decide),(h4 x hx).2⟩,b2.keepT kk (by decide),Dat.nil _ _,⟨hP,by simp⟩,hst,?_,?_,?_,h9,?_⟩
 ·unfold qaX;rw [List.length_append,hnd,q9I,show strC [P]= [Value.string p] by rw [ep];rfl];exact hown1
 ·rw [List.length_append];simp
 ·rw [List.length_append];simp;omega
 ·intro x hx;rcases List.mem_append.1 hx with a|a
  ·exact h8 x a
  ·obtain rfl:x=P:=by simpa using a
   exact hP
 ·refine (h10.alloc h10.size o).grown hgrow ?_ ?_
  ·simp;have:=h10.size;omega
  ·intro k' hk';have:=(qa2 h3 k' hk').1;omega
theorem TP_sym {w w4 W0:World} {m:Nat} {xs:List qa3} {ds:List (List UInt8)} {r:RawV} {tv dv:Value} {g nx:Nat} {d:Option Nat×Nat×Nat} {tg:ByteArray} {P:List UInt8}
  (h:TQ w xs ds nx tv dv w4) (hg:Blk w4 g 49 (encN (qdR P r,d)).toArray) (hng: ∀g0,tv.ownBlock=some g0→g0≠g) (hB:w.heap.size≤g) (hb:Below w4.heap.size w4 W0)
  (hst:qbV m (xs.map (·.1),ds) r=(xs.map (·.1)++ [{qdR P r with kind:=3,data:= [],target:=qh7 r}],ds)) (hP:P.length≤400) (htg:tg.data.toList=qh7 r):
  TP w m (xs.map (·.1),ds) r nx tv g xs ({qdR P r with kind:=3,data:= [],target:=qh7 r},(none,0,0)) ds dv (((W0.setCell ⟨g,1,none⟩ (.int .i64 3)).setCell ⟨g,11,none⟩ (.slice none 0 0)).setCell ⟨g,3,none⟩ (.string tg)):=by
 have b0:Blk W0 g 49 (encN (qdR P r,d)).toArray:=Blk.below hg hb hg.lt;have b1:Blk (W0.setCell ⟨g,1,none⟩ (.int .i64 3)) g 49 _:=Blk.set_ b0 1 (.int .i64 3);have b2:Blk ((W0.setCell ⟨g,1,none⟩ (.int .i64 3)).setCell ⟨g,11,none⟩ (.slice none 0 0)) g 49 _:=Blk.set_ b1 11 (.slice none 0 0)
 have b3:Blk (((W0.setCell ⟨g,1,none⟩ (.int .i64 3)).setCell ⟨g,11,none⟩ (.slice none 0 0)).setCell ⟨g,3,none⟩ (.string tg)) g 49 (encN ({qdR P r with kind:=3,data:= [],target:=qh7 r},(none,0,0))).toArray:=by
  rw [←qjU tg,htg];exact Blk.set_ b2 3 (.string ⟨(qh7 r).toArray⟩)
 have q3:=(((h.below hb).set b0 hng hB 1 (.int .i64 3)).set b1 hng hB 11 (.slice none 0 0)).set b2 hng hB 3 (.string tg);exact q3.tp b3 (Dat.nil _ _) ⟨hP,by simp⟩ hst
def cp13 (W:World) (g:Nat) (y:qa3) (p:ByteArray):World:=(((((((((((((W.setCell ⟨g,0,none⟩ (.string ⟨(keyL y).toArray⟩)).setCell ⟨g,1,none⟩ (.int .i64 y.1.kind)).setCell ⟨g,2,none⟩ (.int .i64 y.1.same)).setCell ⟨g,3,none⟩ (.string ⟨y.1.target.toArray⟩)).setCell ⟨g,4,none⟩ (.int .i64 y.1.md.mode)).setCell ⟨g,5,none⟩ (.int .i64 y.1.md.uid)).setCell ⟨g,6,none⟩ (.int .i64 y.1.md.gid)).setCell ⟨g,7,none⟩ (.string ⟨y.1.md.user.toArray⟩)).setCell ⟨g,8,none⟩ (.string ⟨y.1.md.group.toArray⟩)).setCell ⟨g,9,none⟩ (.int .i64 y.1.md.second)).setCell ⟨g,10,none⟩ (.int .i64 y.1.md.nano)).setCell ⟨g,11,none⟩ (.slice (adr y.2.1) y.2.2.1 y.2.2.2)).setCell ⟨g,0,none⟩ (.string p))
def q05 (y:qa3) (P:List UInt8) (d:Option Nat×Nat×Nat):qa3:=({y.1 with path:=P},d)
theorem qsP {w W:World} {xs:List qa3} {ds:List (List UInt8)} {nx:Nat} {tv dv:Value} (h:TQ w xs ds nx tv dv W) {g:Nat} {x:qa3} (hg:Blk W g 49 (encN x).toArray) (hng: ∀g0,tv.ownBlock=some g0→g0≠g) (hB:w.heap.size≤g)
  {y:qa3} {p:ByteArray} {P:List UInt8} (hp:p.data.toList=P) (hP:P.length≤400):
  Blk (cp13 W g y p) g 49 (encN (q05 y P y.2)).toArray∧TQ w xs ds nx tv dv (cp13 W g y p):=by
 have b0:=hg;have b12:Blk ((((((((((((W.setCell ⟨g,0,none⟩ (.string ⟨(keyL y).toArray⟩)).setCell ⟨g,1,none⟩ (.int .i64 y.1.kind)).setCell ⟨g,2,none⟩ (.int .i64 y.1.same)).setCell ⟨g,3,none⟩ (.string ⟨y.1.target.toArray⟩)).setCell ⟨g,4,none⟩ (.int .i64 y.1.md.mode)).setCell ⟨g,5,none⟩ (.int .i64 y.1.md.uid)).setCell ⟨g,6,none⟩ (.int .i64 y.1.md.gid)).setCell ⟨g,7,none⟩ (.string ⟨y.1.md.user.toArray⟩)).setCell ⟨g,8,none⟩ (.string ⟨y.1.md.group.toArray⟩)).setCell ⟨g,9,none⟩ (.int .i64 y.1.md.second)).setCell ⟨g,10,none⟩ (.int .i64 y.1.md.nano)).setCell ⟨g,11,none⟩ (.slice (adr y.2.1) y.2.2.1 y.2.2.2)) g 49 (encN y).toArray:=Blk.set12 b0 _ _ _ _ _ _ _ _ _ _ _ _
 have e:(encN (q05 y P y.2)).toArray=(encN y).toArray.setIfInBounds 0 (.string p):=by
  have e1:Value.string p= .string ⟨(keyL (q05 y P y.2)).toArray⟩:=by
   rw [keyL,show (q05 y P y.2).1.path=P from rfl,List.take_of_length_le hP,←hp,qjU]
  rw [e1];rfl
 have b13:=Blk.set_ b12 0 (.string p);refine ⟨by rw [e];exact b13,?_⟩
 have t: ∀(l:List (Nat×Value)) (W':World) (cs:Array Value),Blk W' g 49 cs→TQ w xs ds nx tv dv W'→TQ w xs ds nx tv dv (l.foldl (fun a c=>a.setCell ⟨g,c.1,none⟩ c.2) W'):=by
  intro l
  induction l with
  |nil=>exact fun W' cs hb hq=>hq
  |cons c l ih=>exact fun W' cs hb hq=>ih _ _ (Blk.set_ hb c.1 c.2) (hq.set hb hng hB c.1 c.2)
 exact t [(0,.string ⟨(keyL y).toArray⟩),(1,.int .i64 y.1.kind),(2,.int .i64 y.1.same),(3,.string ⟨y.1.target.toArray⟩),(4,.int .i64 y.1.md.mode),(5,.int .i64 y.1.md.uid),(6,.int .i64 y.1.md.gid),(7,.string ⟨y.1.md.user.toArray⟩),(8,.string ⟨y.1.md.group.toArray⟩),(9,.int .i64 y.1.md.second),(10,.int .i64 y.1.md.nano),(11,.slice (adr y.2.1) y.2.2.1 y.2.2.2),(0,.string p)] W _ b0 h
theorem q8Q {w W W4:World} {m:Nat} {st:List NodeV×List (List UInt8)} {xs:List qa3} {ds:List (List UInt8)} {r:RawV} {tv dv:Value} {g nx:Nat} {x y:qa3} {p:ByteArray} {P:List UInt8} {d':Option Nat×Nat×Nat}
  (h:TQ w xs ds nx tv dv W) (hg:Blk W g 49 (encN x).toArray) (hng: ∀g0,tv.ownBlock=some g0→g0≠g) (hB:w.heap.size≤g) (hy:y∈xs) (hp:p.data.toList=P) (hP:P.length≤400)
  (hb:Below (cp13 W g y p).heap.size (cp13 W g y p) W4) (hd:Dat W4 (cp13 W g y p).heap.size d' y.1.data)
  (hst:qbV m st r=(xs.map (·.1)++ [{y.1 with path:=P}],ds)):
  TP w m st r nx tv g xs (q05 y P d') ds dv (W4.setCell ⟨g,11,none⟩ (.slice (adr d'.1) d'.2.1 d'.2.2)):=by
 obtain ⟨b1,q1⟩:=qsP h hg hng hB (y:=y) hp hP
 have hw:w.heap.size+1≤(cp13 W g y p).heap.size:=by
  have:=q1.1.lt;omega
 have b2:=Blk.below b1 hb b1.lt;have q2:=q1.below hb;have hk:qcT 49 W4 (W4.setCell ⟨g,11,none⟩ (.slice (adr d'.1) d'.2.1 d'.2.2)):=qcT.set b2 _ _;refine (q2.set b2 hng hB 11 _).tp (ny:=q05 y P d') (Blk.set_ b2 11 _) ?_ ⟨hP,(h.2.2.2.1 y hy).2.2⟩ hst;obtain ⟨e1,e2,e3,e4,e5⟩:=hd
 have hd2:Dat W4 (w.heap.size+1) d' y.1.data:=⟨e1,e2,e3,e4,fun h1=>by
  obtain ⟨g2,cur,fr,a1,a2,a3⟩:=e5 h1
  exact ⟨g2,cur,fr,a1,by omega,a3⟩⟩
 exact hd2.keepT hk (by decide)
theorem qpU {W:World} {B G n cap:Nat} {xs:List qa3} (h:qeU W B (.slice (some ⟨G,0,none⟩) n cap) xs) (hn:xs.length=n) (j:Nat) (hj:j<xs.length) (y:qa3) (hy:xs[j]=y):
  (W.cell? ⟨G,j*12,none⟩=some (.string ⟨(keyL y).toArray⟩)∧W.cell? ⟨G,j*12+1,none⟩=some (.int .i64 y.1.kind)∧W.cell? ⟨G,j*12+2,none⟩=some (.int .i64 y.1.same)∧W.cell? ⟨G,j*12+3,none⟩=some (.string ⟨y.1.target.toArray⟩)∧
  W.cell? ⟨G,j*12+4,none⟩=some (.int .i64 y.1.md.mode)∧W.cell? ⟨G,j*12+5,none⟩=some (.int .i64 y.1.md.uid)∧W.cell? ⟨G,j*12+6,none⟩=some (.int .i64 y.1.md.gid)∧W.cell? ⟨G,j*12+7,none⟩=some (.string ⟨y.1.md.user.toArray⟩)∧
  W.cell? ⟨G,j*12+8,none⟩=some (.string ⟨y.1.md.group.toArray⟩)∧W.cell? ⟨G,j*12+9,none⟩=some (.int .i64 y.1.md.second)∧W.cell? ⟨G,j*12+10,none⟩=some (.int .i64 y.1.md.nano)∧W.cell? ⟨G,j*12+11,none⟩=some (.slice (adr y.2.1) y.2.2.1 y.2.2.2))∧
  W.frozen? ⟨G,j*12+2,none⟩=false:=by
 subst hy;subst hn;have h8:W.ownsRow B 49 12 (.slice (some ⟨G,0,none⟩) xs.length cap) xs.length (encC xs):=h
 have hc: ∀i,i<12→W.cell? ⟨G,j*12+i,none⟩=(encN xs[j])[i]?:=fun i hi=>by
  rw [World.ownsRow.cellAt h8 (j*12+i) (by omega),qsJ xs j i hj hi]
 exact ⟨⟨hc 0 (by omega),hc 1 (by omega),hc 2 (by omega),hc 3 (by omega),hc 4 (by omega),hc 5 (by omega),hc 6 (by omega),hc 7 (by omega),hc 8 (by omega),hc 9 (by omega),hc 10 (by omega),hc 11 (by omega)⟩,World.ownsRow.frozenAt h8 _⟩
theorem q6C:(Tryz.prog.info? 49).map (fun i=>(i.zero,i.size,i.bytes))=some (some (.agg nodeZ),12,144):=by kernel_rfl
theorem q9N (m:Nat) (st:List NodeV×List (List UInt8)) (r:RawV) (h:st.1.length≤m):(qbV m st r).1.length≤m:=by
 unfold qbV
 by_cases h1:m≤st.1.length
 ·rw [if_pos h1];exact h
 ·rw [if_neg h1];simp only
  split
  ·exact h
  ·split
   ·rw [List.length_append];simp;omega
   ·split
    ·rw [List.length_append];simp;omega
    ·split
     ·split
      ·rw [List.length_append];simp;omega
      ·split
       ·rw [List.length_append,List.length_set];simp;omega
       ·rw [List.length_append];simp;omega
     ·rw [List.length_append];simp;omega
theorem q9B (m:Nat) (rs:List RawV):(qcI m rs).1.length≤m:=by
 unfold qcI
 have: ∀(l:List RawV) (st:List NodeV×List (List UInt8)),st.1.length≤m→(l.foldl (qbV m) st).1.length≤m:=by
  intro l
  induction l with
  |nil=>exact fun st h=>h
  |cons r l ih=>exact fun st h=>ih _ (q9N m st r h)
 exact this rs _ (Nat.zero_le _)
theorem TL.len {w:World} {m:Nat} {rs:List RawV} {k:Nat} {xs:List qa3} {ds:List (List UInt8)} {tv dv:Value} {W:World} (h:TL w m rs k xs ds tv dv W):xs.length≤m:=by
 have h9:=q9B m (rs.take k);rw [←h.2.2.2.2.1]at h9;simpa using h9
def qsZ (w:World) (m:Nat) (rs:List RawV) (v:Value) (ys:List qa3) (w':World):Prop:=
 qeU w' w.heap.size v ys∧(ys.map (·.1)).Perm (qcI m rs).1∧(∀i j (hi:i<j) (hj:j<ys.length),pcmp (ys[i]'(by omega)).1.path ys[j].1.path≤0)∧(∀y∈ys,Dat w' w.heap.size y.2 y.1.data∧Fits y.1)∧Below w.heap.size w w'
theorem Dat.mono {w:World} {B B':Nat} {d:Option Nat×Nat×Nat} {l:List UInt8} (h:Dat w B d l) (hB:B'≤B):Dat w B' d l:=by
 obtain ⟨e1,e2,e3,e4,e5⟩:=h
 exact ⟨e1,e2,e3,e4,fun h1=>by
  obtain ⟨g2,cur,fr,a1,a2,a3⟩:=e5 h1
  exact ⟨g2,cur,fr,a1,by omega,a3⟩⟩
theorem zeA {w:World} {m:Nat} {rs:List RawV} {k:Nat} {xs:List qa3} {ds:List (List UInt8)} {tv dv:Value} {W W':World} (h:TL w m rs k xs ds tv dv W) (hfin:qcI m rs=qcI m (rs.take k))
  {ys:List qa3} (hp:ys.Perm xs) (hs: ∀i j (hi:i<j) (hj:j<ys.length),pcmp (keyL (ys[i]'(by omega))) (keyL ys[j])≤0) (hn:qeU W' (w.heap.size+1) tv ys) (hg:W.grownBy W' tv.ownBlock):
  qsZ w m rs tv ys W'∧W'.cell? ⟨w.heap.size,0,none⟩=some tv:=by
 obtain ⟨h1,h2,h3,h4,h5,h6,h7,h8,h9⟩:=h
 have kk:qcT 49 W W':=qcT.grown hg fun g0 e=>by
  obtain ⟨_,cur,hc⟩:=qa2 h2 g0 e;exact ⟨cur,(0,0),hc⟩
 have hy: ∀y∈ys,Dat W' w.heap.size y.2 y.1.data∧Fits y.1:=fun y hy=>by
  have h0:=h4 y (hp.mem_iff.1 hy);exact ⟨(h0.1.keepT kk (by decide)).mono (by omega),h0.2⟩
 refine ⟨⟨qhN hn (by omega),?_,?_,hy,?_⟩,(h1.keepT kk (by decide)).cell 0⟩
 ·rw [hfin,←h5];exact hp.map _
 ·intro i j hi hj;have h0:=hs i j hi hj;have e: ∀y∈ys,keyL y=y.1.path:=fun y hy'=>List.take_of_length_le (hy y hy').2.1;rw [e _ (List.getElem_mem _),e _ (List.getElem_mem _)]at h0;exact h0
 ·refine h9.grown hg h9.size ?_;intro k' hk';have:=(qa2 h2 k' hk').1;omega
end Go.Proofs.YtapgoifimhnbdaaGreatDoor
