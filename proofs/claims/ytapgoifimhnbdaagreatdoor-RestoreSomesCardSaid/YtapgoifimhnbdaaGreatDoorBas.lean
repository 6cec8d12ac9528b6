/- qaV of one kind, in one file: Slc, Byt, Owb, Byc. -/
import Derived.Test.YtapgoifimhnbdaaGreatDoorArb
import Derived.Laws.OwnMore
import Derived.Deep.Slices
import Derived.Deep.Fields
import Derived.ChangeSame
import Derived.SizedLaws
import Derived.Test.YtapgoifimhnbdaaGreatDoorMth
import Derived.ChangeSlices
import Derived.Below
import Derived.Laws.AppendOwnNone
import Derived.Laws.MakeOwn
import Derived.Laws.CopyOwn
import Derived.Laws.IdiomStrings
import Derived.Laws.BytesArg
import Derived.ArgAppend
import Derived.Lib.ConvBytes
set_option linter.unusedVariables false
set_option maxRecDepth 100000
namespace Go.Proofs.YtapgoifimhnbdaaGreatDoor
open Go.RowKit
open Go.OpenShut
open Go.ChangeShapes Go.WideShapes Go.Deep
instance:Inhabited RawV:=⟨⟨0,0,0,ByteArray.empty⟩⟩
def Stay (p:Prop):Prop:=p
theorem Stay.go {p:Prop} (h:Stay p):p:=h
theorem Stay.on {p:Prop} (h:p):Stay p:=h
theorem qc7 {w w':World} {B e size:Nat} {v:Value} {n:Nat} {xs:List Value} (h:w.ownsRow B e size v n xs) (hk: ∀g,v.ownBlock=some g→w'.heap[g]?=w.heap[g]?):w'.ownsRow B e size v n xs:=by
 unfold World.ownsRow at h⊢;refine ⟨h.1,?_⟩;rcases h.2 with ⟨rfl,h0⟩|⟨g,cap,cur,rfl,hB,hg,hcap,hm,hs,ht⟩
 ·exact .inl ⟨rfl,h0⟩
 ·exact .inr ⟨g,cap,cur,rfl,hB,(hk g rfl).trans hg,hcap,hm,hs,ht⟩
theorem qcS {w:World} {B e size:Nat} {v:Value} {n:Nat} {xs:List Value} (h:w.ownsRow B e size v n xs): ∀g0,v.ownBlock=some g0→B≤g0∧ ∃cur,w.heap[g0]?=some (.cells cur e (0,0)):=by
 intro g0 hg0;unfold World.ownsRow at h;rcases h.2 with ⟨rfl,h0⟩|⟨g,cap,cur,rfl,hB,hg,hcap,hm,hs,ht⟩
 ·cases hg0
 ·have e1:g=g0:=by simpa [Value.ownBlock]using hg0
  subst e1;exact ⟨hB,cur,hg⟩
theorem qqH {w:World} {B B' e size:Nat} {v:Value} {n:Nat} {xs:List Value} (h:w.ownsRow B e size v n xs) (hB:B'≤B):w.ownsRow B' e size v n xs:=by
 unfold World.ownsRow at h⊢;refine ⟨h.1,?_⟩;rcases h.2 with ⟨rfl,h0⟩|⟨g,cap,cur,rfl,hB',hg,hcap,hm,hs,ht⟩
 ·exact .inl ⟨rfl,h0⟩
 ·exact .inr ⟨g,cap,cur,rfl,by omega,hg,hcap,hm,hs,ht⟩
def RawsAt (w:World) (A:Option Addr) (rs:List RawV):Prop:=
 ∀j (hj:j<rs.length),∃b o,A=some ⟨b,o,none⟩∧ ∀i,i<4→w.cell? ⟨b,o+j*4+i,none⟩=(rawC rs[j])[i]?
def RecsB (w:World) (A:Option Addr) (l:List (ByteArray×ByteArray)):Prop:=
 ∀(j:Nat) (h:j<l.length),∃b o,A=some ⟨b,o,none⟩∧w.cell? ⟨b,o+j*2,none⟩=some (.string l[j].1)∧w.cell? ⟨b,o+j*2+1,none⟩=some (.string l[j].2)
section
variable {H:Type} {enc:TypeId×Value→H} {w:World} {base:Nat} {spare:Nat→Bool} {held:Bool}
end
end Go.Proofs.YtapgoifimhnbdaaGreatDoor
namespace Go.Proofs.YtapgoifimhnbdaaGreatDoor
open Go.RowKit
open Go.OpenShut
open Go.ChangeShapes Go.WideShapes Go.Deep
def qaE (w:World) (A:Option Addr) (l:List UInt8):Prop:=
 ∀j (hj:j<l.length),∃b o,A=some ⟨b,o,none⟩∧w.cell? ⟨b,o+j,none⟩=some (.int .u8 (l[j].toNat:Int))
theorem qaE.nil (w:World) (A:Option Addr):qaE w A []:=fun j hj=>by simp at hj
theorem qaE.below {w w':World} {A:Option Addr} {l:List UInt8} (h:qaE w A l) (hb:Below w.heap.size w w'):qaE w' A l:=by
 intro j hj;obtain ⟨b,o,e,hc⟩:=h j hj;refine ⟨b,o,e,?_⟩;have hlt:b<w.heap.size:=World.block_lt_of_cell? w _ hc;rw [←hc];unfold World.cell?;simp only [hb.block b hlt]
theorem qaE.cells {w:World} {b o:Nat} {l:List UInt8} (h:qaE w (some ⟨b,o,none⟩) l): ∀j u,(qaX l)[j]?=some u→w.cell? ⟨b,o+j,none⟩=some u:=by
 intro j u hu
 have hj:j<l.length:=by
  have:=(List.getElem?_eq_some_iff.1 hu).1
  rwa [bCells_length]at this
 obtain ⟨b',o',e,hc⟩:=h j hj;simp only [Option.some.injEq,Addr.mk.injEq,and_true]at e;obtain ⟨rfl,rfl⟩:=e;rw [hc,←hu,qfJ l j hj];simp [qeZ,hj]
theorem qaE.take {w:World} {A:Option Addr} {l:List UInt8} (h:qaE w A l) (k:Nat):qaE w A (l.take k):=by
 intro j hj;rw [List.length_take]at hj;obtain ⟨b,o,e,hc⟩:=h j (by omega);exact ⟨b,o,e,by rw [hc,List.getElem_take]⟩
section
variable {H:Type} {enc:TypeId×Value→H} {w:World} {base:Nat} {spare:Nat→Bool} {held:Bool}
theorem qrO {P:Program} {t e:TypeId} (ht:P.underlying t=some (.slice e)) {elems sp:List (DataW H)} :(elems.length+sp.length)*P.bytesOf e∈(DataW.slice elems sp).weights P t:=by
 unfold DataW.weights;rw [ht];exact List.mem_cons.2 (.inl rfl)
theorem qsV {v:Value} {d:DataW H} {p:List MemPlace} (hv: ∃a len cap,v= .slice a len cap) (h:DataW.Trod enc Tryz.prog w base spare held 22 v d p) (hwt: ∀x∈d.weights Tryz.prog 22,x≤reachBytes):
  ∃(A:Option Addr) (n c:Nat) (l:List UInt8),v= .slice A n c∧l.length=n∧n≤140737488351232∧(n≤c∧c≤maxLen∧(A=none→c=0))∧qaE w A l:=by
 obtain ⟨a0,len0,cap0,rfl⟩:=hv;obtain ⟨fuel,hf⟩:=h;rcases open_ints Tryz.underlying22 Tryz.underlying5 (by kernel_rfl) hf with ⟨hcs,hx⟩|⟨a,len',cap',zs,hcs,_,hl,hm,hz,hx,hcell,hwz⟩
 ·simp only [Value.cells,List.cons.injEq,Value.slice.injEq,and_true]at hcs;obtain ⟨rfl,rfl,rfl⟩:=hcs;exact ⟨none,0,0, [],rfl,rfl,by omega,⟨Nat.le_refl _,by decide,fun _=>rfl⟩,qaE.nil _ _⟩
 ·simp only [Value.cells,List.cons.injEq,Value.slice.injEq,and_true]at hcs;obtain ⟨rfl,rfl,rfl⟩:=hcs;simp only [Prod.mk.injEq]at hx;obtain ⟨rfl,rfl⟩:=hx
  have hzl:len0≤zs.length:=by
   rw [hz];split<;>omega
  have hlen:((zs.take len0).map fun n=>UInt8.ofNat n.toNat).length=len0:=by simp;omega
  have hr4:reachBytes=140737488351232:=rfl
  have hn:len0≤140737488351232:=by
   have h1:=hwt _ (qrO Tryz.underlying22);rw [hr4]at h1;have h2:Tryz.prog.bytesOf 5=1:=by kernel_rfl
   rw [h2]at h1;simp only [lits,List.length_map,List.length_take,List.length_drop]at h1;omega
  refine ⟨some a,len0,cap0,(zs.take len0).map fun n=>UInt8.ofNat n.toNat,rfl,hlen,hn,⟨hl,hm,fun e=>by cases e⟩,fun j hj=> ?_⟩;rw [hlen]at hj;obtain ⟨ab,ao,spot⟩:=a;have hspot:spot=none:=by simpa [Addr.add]using World.cell?_spot (hcell 0 (by omega))
  subst hspot;refine ⟨ab,ao,rfl,?_⟩;have hcj:=hcell j (by omega);rw [Addr.add_lit]at hcj;rw [hcj];have hb:=range_u8 hwz j;simp only [List.getElem_map,List.getElem_take];have e:zs.getD j 0=zs[j]'(by omega):=by simp [List.getD,List.getElem?_eq_getElem (show j<zs.length by omega)]
  rw [List.getD_eq_getElem?_getD]at e;rw [e]at hb;rw [List.getD_eq_getElem?_getD,e]
  congr 2
  simp only [UInt8.toNat_ofNat'];omega
end
end Go.Proofs.YtapgoifimhnbdaaGreatDoor
namespace Go.Proofs.YtapgoifimhnbdaaGreatDoor
open Go.RowKit
open Go.OpenShut
theorem qeM:(Tryz.prog.info? 5).map (fun i=>(i.zero,i.size,i.bytes))=some (some (.int .u8 0),1,1):=by kernel_rfl
theorem qfI (l:List UInt8): ∀u∈qaX l,u.oneCell'=true:=by
 intro u hu;simp only [qaX,qeZ,List.mem_map]at hu;obtain ⟨a,_,rfl⟩:=hu;rfl
def OwnB (w:World) (B:Nat) (v:Value) (l:List UInt8):Prop:=w.ownsRow B 5 1 v l.length (qaX l)
theorem OwnB.nil (w:World) (B:Nat):OwnB w B (.slice none 0 0) []:=World.ownsRow_nil _ _ _ _
def SlOk (A:Option Addr) (n c:Nat):Prop:=n≤c∧c≤maxLen∧(A=none→c=0)
theorem OwnB.form {w:World} {B:Nat} {v:Value} {l:List UInt8} (h:OwnB w B v l): ∃A c,v= .slice A l.length c∧SlOk A l.length c∧qaE w A l:=by
 have h':=h;unfold OwnB World.ownsRow at h;rcases h.2 with ⟨rfl,h0⟩|⟨g,cap,cur,rfl,hB,hg,hcap,hm,hs,ht⟩
 ·have e:l= []:=List.eq_nil_of_length_eq_zero h0;subst e;exact ⟨none,0,rfl,⟨by simp,by decide,fun _=>rfl⟩,qaE.nil _ _⟩
 ·refine ⟨some ⟨g,0,none⟩,cap,rfl,⟨hcap,hm,fun e=>by cases e⟩,fun j hj=>⟨g,0,rfl,?_⟩⟩;unfold OwnB at h';rw [Nat.zero_add,h'.cellAt j (by omega),qfJ l j hj];simp [qeZ,hj]
theorem OwnB.below {w w':World} {B:Nat} {v:Value} {l:List UInt8} (h:OwnB w B v l) (hb:Below w.heap.size w w'):OwnB w' B v l:=
 qc7 h fun g hg=>hb.block g (World.ownsRow.lt h g hg).2
theorem OwnB.mono {w:World} {B B':Nat} {v:Value} {l:List UInt8} (h:OwnB w B v l) (hB:B'≤B):OwnB w B' v l:=qqH h hB
theorem OwnB.alloc {w:World} {B:Nat} {v:Value} {l:List UInt8} (h:OwnB w B v l) (o:Obj):OwnB (w.alloc o) B v l:=World.ownsRow.alloc h o
theorem qbF {w W:World} (h:Below w.heap.size w W) (o:Obj):Below w.heap.size w (W.alloc o):=h.alloc h.size o
theorem hszA (W:World) (o:Obj):(W.alloc o).heap.size=W.heap.size+1:=by
 show (W.heap.push o).size=_;exact Array.size_push ..
theorem hszD (W:World):W.drew.heap.size=W.heap.size:=rfl
theorem OwnB.drewN {w:World} {B n:Nat} {v:Value} {l:List UInt8} (h:OwnB w B v l):OwnB (w.drewN n) B v l:=h
def cutA (A:Option Addr) (c k:Nat):Option Addr:=if c=k then A else A.map (·.add k)
theorem q3Z (A:Option Addr) (c:Nat):cutA A c 0=A:=by
 unfold cutA
 split
 ·rfl
 ·cases A with
  |none=>rfl
  |some a=>simp [Addr.add]
theorem qaE.cut {w:World} {A:Option Addr} {l:List UInt8} (h:qaE w A l) {c:Nat} (hc:l.length≤c) (k:Nat) (hk:k≤l.length):qaE w (cutA A c k) (l.drop k):=by
 intro j hj;rw [List.length_drop]at hj;have hne:c≠k:=by omega
 obtain ⟨b,o,rfl,hc0⟩:=h (k+j) (by omega);refine ⟨b,o+k,?_,?_⟩
 ·unfold cutA;rw [if_neg hne];simp only [Option.map_some];congr 1;exact Addr.add_lit _ _ _
 ·rw [Nat.add_assoc,hc0,List.getElem_drop]
theorem SlOk.cut {A:Option Addr} {n c:Nat} (h:SlOk A n c) (k:Nat) (hk:k≤n) (m:Nat) (hm:m+k≤c):SlOk (cutA A c k) m (c-k):=by
 obtain ⟨h1,h2,h3⟩:=h;refine ⟨by omega,by omega,fun e=> ?_⟩
 have:A=none:=by
  unfold cutA at e
  split at e
  ·exact e
  ·cases A with
   |none=>rfl
   |some a=>cases e
 have:=h3 this;omega
theorem qaE.news {w:World} {a:Addr} {l:List UInt8} (h:qaE w (some a) l): ∀j u,(qaX l)[j]?=some u→w.cell? (a.add j)=some u:=by
 intro j u hu
 have hj:j<l.length:=by
  have:=(List.getElem?_eq_some_iff.1 hu).1
  rwa [bCells_length]at this
 obtain ⟨b,o,e,hc⟩:=h j hj;injection e with e
 subst e;rw [Addr.add_lit,hc,←hu,qfJ l j hj];simp [qeZ,hj]
theorem qaE.conv {w:World} {A:Option Addr} {l:List UInt8} (h:qaE w A l) (c:Nat) (hn:A=none→l= []):(convert 22 9 (.slice A l.length c)).run Tryz.prog w= .ok (.string (bs l)) w:=by
 cases A with
 |none=>
  have:=hn rfl;subst this;exact run_convert_bytes_nil w 22 5 Tryz.underlying22 Tryz.underlying5 _ _ 9 Tryz.underlying9
 |some a=>
  exact run_convert_bytes_back w 22 9 5 a c l Tryz.underlying22 Tryz.underlying5 Tryz.underlying9 fun j hj=>by
   obtain ⟨b,o,e,hc⟩:=h j hj;injection e with e
   subst e;rw [Addr.add_lit];exact hc
theorem qaE.none_nil {w:World} {l:List UInt8} (h:qaE w none l):l= []:=by
 cases l with
 |nil=>rfl
 |cons r l=>obtain ⟨b,o,e,-⟩:=h 0 (by simp);cases e
theorem copied {W:World} {B g q cap:Nat} {L:List UInt8} (ho:OwnB W B (.slice (some ⟨g,0,none⟩) q cap) L) (hq:L.length=q) (A:Option Addr) (n c:Nat) (l:List UInt8) (hn:l.length=n) (hnq:n≤q) (hA:qaE W A l) (ty:TypeId):
  ∃W2,(Builtin.copy_ #[22,22] ty #[.slice (some ⟨g,0,none⟩) q cap,.slice A n c]).run Tryz.prog W= .ok (goInt n) W2∧OwnB W2 B (.slice (some ⟨g,0,none⟩) q cap) (l++L.drop n)∧ ∀w0 B',B'≤B→Below B' w0 W→Below B' w0 W2:=by
 obtain ⟨i0,hi,hz0,hz1,hz2⟩:=info_parts qeM;have hinfo:(Tryz.prog.info? 5).map (·.size)=some 1:=by rw [hi];simp [hz1]
 cases A with
 |none=>
  obtain rfl:=hA.none_nil;obtain rfl:n=0:=by rw [←hn];rfl
  exact ⟨W,run_copy_none W 22 22 ty 5 _ _ q cap 0 c Tryz.underlying22 hinfo (by simp),by simpa using ho,fun _ _ _ h=>h⟩
 |some ad=>
  unfold OwnB World.ownsRow at ho;rcases ho.2 with ⟨e,h0⟩|⟨g',cap',cur,e,hB,hg,hcap,hm,hs,ht⟩
  ·cases e
  ·injection e with e1 e2 e3
   injection e1 with e1
   injection e1 with e1
   subst e1 e2 e3;have hcp:=run_copy_row (P:=Tryz.prog) W 22 22 ty 5 g 0 L.length cap ad n c cur 5 (qaX l) Tryz.underlying22 hinfo hg (by rw [bCells_length,hn];exact (Nat.min_eq_left hnq).symm) hA.news (by rw [bCells_length];omega) (qfI _);rw [bCells_length,hn]at hcp;refine ⟨_,hcp,?_,fun w0 B' hB' h=>below_setRow h (by omega) _⟩;have hll:(l++L.drop n).length=L.length:=by rw [List.length_append,List.length_drop];omega
   unfold OwnB World.ownsRow;rw [hll];refine ⟨by rw [bCells_length,hll,Nat.mul_one],.inr ⟨g,cap,_,rfl,hB,setRow_heap _ _ cur _ 5 (0,0) hg,hcap,hm,?_,?_⟩⟩
   ·simp;omega
   ·rw [List.toList_toArray,List.take_zero,List.nil_append,Nat.zero_add,List.take_append];rw [Nat.mul_one]at ht⊢;rw [bCells_length,List.take_of_length_le (by rw [bCells_length];omega),qdZ]
    congr 1
    rw [show L.length-l.length=L.length-n by omega,←List.drop_take];rw [ht];simp [qaX,qeZ]
theorem qgA {w:World} {ops:Array Oper} {rest:List Oper} {o:Oper} {a:Act} {Q:Exit→Act→World→Prop} (hgd:o.guard=none) (s x:Operand)
  (ho:o.op= .call {callee:= .builtin .append,args:= #[s,x],argTypes:= #[22,22] }) (B:Nat) (v:Value) (l0:List UInt8) (hs:a.eval s=v) (hown:OwnB w B v l0)
  (A:Option Addr) (m c:Nat) (l:List UInt8) (hx:a.eval x= .slice A m c) (hl:l.length=m) (hA:qaE w A l) (hc:A=none→c=0) (hbig:l0.length+m≤140737488355328) (hB:B≤w.heap.size)
  (h: ∀v' w',OwnB w' B v' (l0++l)→(∀w0,Below B w0 w→Below B w0 w')→wpList Tryz.prog ops Q rest (a.put o.dst v') w'):wpList Tryz.prog ops Q (o::rest) a w:=by
 obtain ⟨i0,hi,hz0,hz1,hz2⟩:=info_parts qeM;cases A with
 |none=>
  obtain rfl:=hA.none_nil;obtain rfl:m=0:=by rw [←hl];rfl
  obtain rfl:=hc rfl;refine wpList_append_own_none hgd s x 22 ho B 5 i0 1 Tryz.underlying22 hi v _ _ hs hown hx ?_;exact h v w (by rw [List.append_nil];exact hown) fun _ h=>h
 |some ad=>
  refine wpList_append_own _ hgd s x 22 ho B 5 i0 _ 1 1 Tryz.underlying22 hi hz0 hz1 hz2 rfl (by decide) v _ _ hs hown ad m c (qaX l) hx (by rw [bCells_length,hl,Nat.mul_one]) hA.news (qfI _) (by unfold maxLen;omega) (by omega) hB ?_;intro v6 w6 hown6 hgrow _;refine h v6 w6 (by unfold OwnB;rw [List.length_append,qdZ,hl];exact hown6) fun w0 hb=>hb.grown hgrow hB (fun g e=>(World.ownsRow.lt hown g e).1)
theorem qhE (A:Option Addr) (n c:Nat) (l:List UInt8) (hn:l.length=n) (hn2:n≤140737488351232) (w:World) (hA:qaE w A l):
  Calls Tryz.prog 169 #[.slice A n c] w fun e w'=> ∃v,e= .returned v∧OwnB w' w.heap.size v l∧Below w.heap.size w w':=by
 obtain ⟨i0,hi,hz0,hz1,hz2⟩:=info_parts qeM;have q22: ∀(w:World) (a:Option Addr) (n c n' c':Nat),(binOp .eql 22 (.slice a n c) (.slice none n' c')).run Tryz.prog w= .ok (.bool a.isNone) w:=fun w a n c n' c'=>Lib.run_eql_slice_nil w _ _ a n c n' c' Tryz.underlying22;cases A with
 |none=>
  obtain rfl:=hA.none_nil;obtain rfl:n=0:=by rw [←hn];rfl
  go_enter Tryz.func169,Tryz.ntmps169;go_wp2_with fail;go_ret;exact ⟨_,rfl,OwnB.nil _ _,Below.refl _ _⟩
 |some ad=>
  have HN:=Lib.hid hn;have HA:=Lib.hid hA;have HO:Hid ((w.alloc (.cells #[] 5)).ownsRow w.heap.size 5 1 (.slice (some ⟨w.heap.size,0,none⟩) 0 0) 0 []):=World.ownsRow_lit (e:=5) (size:=1) w #[] 0 (Nat.le_refl _) (by decide) rfl;have HB:Hid (Below w.heap.size w (w.alloc (.cells #[] 5))):=(Below.refl _ _).alloc (Nat.le_refl _) _;have HA1:=Lib.hid (HA.out.below HB.out);clear hn hA;go_enter Tryz.func169,Tryz.ntmps169;go_wp2_with (at_builtin;refine Stay.go ?_);refine Stay.on ?_;refine wpList_append_own _ rfl (.tmp 5) (.tmp 6) 22 rfl w.heap.size 5 i0 _ 1 1 Tryz.underlying22 hi hz0 hz1 hz2 rfl (by decide) (.slice (some ⟨w.heap.size,0,none⟩) 0 0) 0 [] rfl HO.out ad n c (qaX l) rfl (by rw [bCells_length,HN.out,Nat.mul_one]) HA1.out.news (qfI _) (by unfold maxLen;omega) (by omega) (by simp) ?_;intro v6 w6 hown hgrow _;have HO6:Hid (OwnB w6 w.heap.size v6 l):=by unfold Hid OwnB;rw [HN.out];simpa using hown
  have HB6:Hid (Below w.heap.size w w6):=HB.out.grown hgrow (by simp) (fun g0 e=>by simp [Value.ownBlock]at e;omega);clear hown hgrow;go_wp2_with fail;go_ret;exact ⟨v6,rfl,HO6.out,HB6.out⟩
theorem q4Y (A A':Option Addr) (n c n' c':Nat) (l l':List UInt8) (hn:l.length=n) (hn':l'.length=n') (w:World) (hA:qaE w A l) (hA':qaE w A' l'):
  Calls Tryz.prog 78 #[.slice A n c,.slice A' n' c'] w fun e w'=>e= .returned (.bool (l==l'))∧w=w':=by
 have h1:=hA.conv c (fun e=>by subst e;exact hA.none_nil);have h2:=hA'.conv c' (fun e=>by subst e;exact hA'.none_nil);rw [hn]at h1;rw [hn']at h2;have e1:(bs l).toList=l:=by rw [ByteArray.toList_eq];rfl
 have e2:(bs l').toList=l':=by rw [ByteArray.toList_eq];rfl
 obtain ⟨S,hS⟩:=qaA (bs l);obtain ⟨S',hS'⟩:=qaA (bs l');rw [hS.out]at h1 e1;rw [hS'.out]at h2 e2;have E1:=Lib.hid e1;have E2:=Lib.hid e2;clear hA hA' hn hn' e1 e2;go_enter Tryz.func78,Tryz.ntmps78;go_wp2_with fail;go_ret;exact ⟨qa7 (by rw [E1.out,E2.out]),rfl⟩
def OwnC (w:World) (B:Nat) (v:Value) (l:List UInt8):Prop:=
 ∃g cap,v= .slice (some ⟨g,0,none⟩) l.length cap∧B≤g∧g<w.heap.size∧l.length≤cap∧cap≤maxLen∧(∀j,j<cap→(w.cell? ⟨g,j,none⟩).isSome=true∧w.frozen? ⟨g,j,none⟩=false)∧qaE w (some ⟨g,0,none⟩) l
theorem OwnC.form {w:World} {B:Nat} {v:Value} {l:List UInt8} (h:OwnC w B v l): ∃A c,v= .slice A l.length c∧SlOk A l.length c∧qaE w A l:=by
 obtain ⟨g,cap,rfl,h1,h2,h3,h4,h5,h6⟩:=h;exact ⟨_,_,rfl,⟨h3,h4,fun e=>by cases e⟩,h6⟩
theorem OwnC.below {w w':World} {B:Nat} {v:Value} {l:List UInt8} (h:OwnC w B v l) (hb:Below w.heap.size w w'):OwnC w' B v l:=by
 obtain ⟨g,cap,rfl,h1,h2,h3,h4,h5,h6⟩:=h;refine ⟨g,cap,rfl,h1,Nat.lt_of_lt_of_le h2 hb.size,h3,h4,fun j hj=> ?_,h6.below hb⟩;rw [hb.cell (p:=⟨g,j,none⟩) h2,hb.frozen (p:=⟨g,j,none⟩) h2];exact h5 j hj
theorem OwnC.mono {w:World} {B B':Nat} {v:Value} {l:List UInt8} (h:OwnC w B v l) (hB:B'≤B):OwnC w B' v l:=by
 obtain ⟨g,cap,rfl,h1,h2,h3⟩:=h;exact ⟨g,cap,rfl,Nat.le_trans hB h1,h2,h3⟩
theorem OwnC.alloc {w:World} {B:Nat} {v:Value} {l:List UInt8} (h:OwnC w B v l) (o:Obj):OwnC (w.alloc o) B v l:=h.below ((Below.refl _ _).alloc (Nat.le_refl _) o)
theorem OwnC.of_row {w:World} {B n:Nat} {v:Value} {l:List UInt8} (h:w.ownsRow B 5 1 v n (qaX l)) (hn:1≤n):OwnC w B v l:=by
 have h':=h;have hl:l.length=n:=by have:=h.1;rw [bCells_length]at this;omega
 rcases h.2 with ⟨rfl,h0⟩|⟨g,cap,cur,rfl,hB,hg,h1,h2,h3,h4⟩
 ·omega
 ·have hlt:g<w.heap.size:=(Array.getElem?_eq_some_iff.1 hg).1;refine ⟨g,cap,by rw [hl],hB,hlt,by omega,h2,fun j hj=>⟨?_,Lib.frozen_of_heap hg j⟩,fun j hj=>⟨g,0,rfl,?_⟩⟩
  ·rw [cell_of_row w g j cur 5 (0,0) hg,Array.getElem?_eq_getElem (by omega)];rfl
  ·rw [Nat.zero_add,h'.cellAt j (by omega),qfJ l j hj];simp [qeZ,hj]
theorem qnN (W:World) (s:ByteArray):(convert 9 22 (.string s)).run Tryz.prog W= .ok (.slice (some ⟨W.heap.size,0,none⟩) s.size (grownCap W s.size 0 5)) (Lib.bytesWorld W 5 s):=
 Lib.run_convert_string_bytes W 9 22 5 s Tryz.underlying9 Tryz.underlying22 Tryz.underlying5
theorem qhF (w:World) (s:ByteArray):Below w.heap.size w (Lib.bytesWorld w 5 s):=
 ⟨rfl,rfl,rfl,by rw [Lib.bytesWorld_size];omega,fun k hk=>Lib.bytesWorld_at_old w 5 s k hk⟩
theorem OwnC.conv (w:World) (s:ByteArray) (hs:s.size≤maxLen):OwnC (Lib.bytesWorld w 5 s) w.heap.size (.slice (some ⟨w.heap.size,0,none⟩) s.size (grownCap w s.size 0 5)) s.data.toList:=by
 have hcs:(Lib.bytesCells w 5 s).size=grownCap w s.size 0 5:=by
  have:=grownCap_ge w s.size 0 5;unfold Lib.bytesCells;simp only [Array.size_append,Array.size_map,ByteArray.size_data,Array.size_replicate];omega
 have hnew:=Lib.bytesWorld_at_new w 5 s;refine ⟨w.heap.size,_,by simp,Nat.le_refl _,by rw [Lib.bytesWorld_size];omega,by simpa using grownCap_ge w s.size 0 5,grownCap_le_maxLen w s.size 0 5 hs,fun j hj=>⟨?_,?_⟩,fun j hj=>⟨w.heap.size,0,rfl,?_⟩⟩
 ·rw [cell_of_row _ _ j _ _ _ hnew,Array.getElem?_eq_getElem (by omega)];rfl
 ·unfold World.frozen?;simp only [hnew,hcs];have: ¬(grownCap w s.size 0 5≤j∧j<grownCap w s.size 0 5+1):=by omega
  simp;omega
 ·have hj':j<s.size:=by simpa using hj
  rw [Nat.zero_add,Lib.bytesWorld_cell w 5 s j hj',List.getD_eq_getElem?_getD,List.getElem?_eq_getElem hj];rfl
theorem qh8 {B b:Nat} (hB:B≤b): ∀(vs:List Value) (o:Nat) {w0 w:World},Below B w0 w→Below B w0 (w.setCells b o vs)
 | [],o,w0,w,h=>h
 |v::r,o,w0,w,h=>by
  rw [World.setCells];exact qh8 hB r (o+1) (h.setCell (p:=⟨b,o,none⟩) hB v)
theorem qiR (b:Nat): ∀(vs:List Value) (o:Nat) (w:World),(w.setCells b o vs).heap.size=w.heap.size
 | [],o,w=>rfl
 |v::r,o,w=>by
  rw [World.setCells,qiR b r (o+1)];simp [World.setCell]
theorem qeE {w:World} {ops:Array Oper} {rest:List Oper} {o:Oper} {a:Act} {Q:Exit→Act→World→Prop} (hgd:o.guard=none) (s x:Operand)
  (ho:o.op= .call {callee:= .builtin .append,args:= #[s,x],argTypes:= #[22,22] }) (B:Nat) (v:Value) (l0:List UInt8) (hs:a.eval s=v) (hown:OwnC w B v l0)
  (A:Option Addr) (m c:Nat) (l:List UInt8) (hx:a.eval x= .slice A m c) (hl:l.length=m) (hA:qaE w A l) (hc:A=none→c=0) (hbig:l0.length+m≤140737488355328) (hB:B≤w.heap.size)
  (h: ∀v' w',OwnC w' B v' (l0++l)→(∀w0,Below B w0 w→Below B w0 w')→wpList Tryz.prog ops Q rest (a.put o.dst v') w'):wpList Tryz.prog ops Q (o::rest) a w:=by
 obtain ⟨i0,hi,hz0,hz1,hz2⟩:=info_parts qeM;have hown':=hown;obtain ⟨g,cap,rfl,h1,h2,h3,h4,h5,h6⟩:=hown;cases A with
 |none=>
  obtain rfl:=hA.none_nil;obtain rfl:m=0:=by rw [←hl];rfl
  obtain rfl:=hc rfl;refine wpList_plain hgd fun K hK=> ?_
  have hrun:(Builtin.append_ #[22,22] o.type #[.slice (some ⟨g,0,none⟩) l0.length cap,.slice none 0 0]).run Tryz.prog w= .ok (.slice (some ⟨g,0,none⟩) l0.length cap) w:=by
   simp [Builtin.append_,run_underlying (P:=Tryz.prog) Tryz.underlying22,sizeOf,typeInfo,hi,Builtin.lenOf,Builtin.firstCells,h3,storeCells]
  unfold Oper.wp;simp [execOp,ho,resolve,invoke,builtin,hs,hx,hrun,Result.andThen];exact hK _ _ (h _ w (by rw [List.append_nil];exact hown') fun _ h=>h)
 |some ad=>
  refine wpList_append_arg w hgd s x 22 ho 5 i0 (.int .u8 0) 1 1 Tryz.underlying22 hi hz0 hz1 hz2 rfl (by decide) g 0 l0.length cap (qaX l0) hs (by rw [bCells_length];omega) (fun j u hu=>h6.cells j u hu) ad m c (qaX l) hx (by rw [bCells_length];omega) hA.news (qfI _)
   (fun hr j hj=> ?_) (by unfold maxLen;omega) (by omega) (fun hr=> ?_) (fun hr v' w' hw hg=> ?_)
  ·rw [bCells_length]at hj;rw [Nat.zero_add,Nat.mul_one];exact h5 _ (by omega)
  ·have hin:=World.cell?_setCells_in g (qaX l) (0+l0.length*1) w (fun j hj=>by rw [bCells_length]at hj;rw [Nat.zero_add,Nat.mul_one];exact (h5 _ (by omega)).1);rw [Nat.zero_add,Nat.mul_one]at hin⊢
   have hcell: ∀j,j<cap→((w.setCells g l0.length (qaX l)).cell? ⟨g,j,none⟩).isSome=true∧(w.setCells g l0.length (qaX l)).frozen? ⟨g,j,none⟩=false:=fun j hj=>by
    refine ⟨?_,by rw [World.frozen?_setCells];exact (h5 j hj).2⟩
    by_cases hj2:l0.length≤j∧j<l0.length+l.length
    ·have:=hin (j-l0.length) (by rw [bCells_length];omega);rw [show l0.length+(j-l0.length)=j by omega]at this;rw [this];rfl
    ·rw [World.cell?_setCells_out g (qaX l) l0.length w ⟨g,j,none⟩ (fun _ _=>by rw [bCells_length];show j<_∨_≤j;omega)];exact (h5 j hj).1
   refine h _ _ ⟨g,cap,by rw [List.length_append,hl],h1,by rw [qiR];exact h2,by rw [List.length_append];omega,h4,hcell,fun j hj=>⟨g,0,rfl,?_⟩⟩ (fun w0 hb=>qh8 h1 _ _ hb);rw [Nat.zero_add];rw [List.length_append]at hj
   by_cases hj2:j<l0.length
   ·rw [World.cell?_setCells_out g (qaX l) l0.length w ⟨g,j,none⟩ (fun _ _=> .inl hj2),List.getElem_append_left hj2];obtain ⟨b',o',e,hc'⟩:=h6 j hj2;injection e with e
    injection e with e1 e2
    subst e1 e2;rw [Nat.zero_add]at hc';exact hc'
   ·have:=hin (j-l0.length) (by rw [bCells_length];omega);rw [show l0.length+(j-l0.length)=j by omega]at this;rw [this,List.getElem_append_right (by omega)];simp [qaX,qeZ]
  ·have e:qaX l0++qaX l=qaX (l0++l):=by rw [qdZ]
   rw [e]at hw
   by_cases hn:1≤l0.length+m
   ·exact h _ _ ((OwnC.of_row hw hn).mono hB) fun w0 hb=>hb.grown hg hB (fun g e=>by cases e)
   ·omega
end Go.Proofs.YtapgoifimhnbdaaGreatDoor
