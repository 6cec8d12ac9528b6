/- qaX of one kind, in one file: Rwn, Nms, Mpi, LnkA, LnkB, LnkR, LnkP. -/
import Derived.Test.YtapgoifimhnbdaaGreatDoorTra
import Derived.Test.YtapgoifimhnbdaaGreatDoorBas
import Derived.BigQuiet
import Derived.Deep.QuietTactic
import Derived.Deep.DeepCutAuto
import Derived.MapKept
import Derived.Carry
import Derived.Laws.MakeOwn
import Derived.Test.YtapgoifimhnbdaaGreatDoorMth
import Derived.Test.YtapgoifimhnbdaaGreatDoorNod
import Derived.Test.YtapgoifimhnbdaaGreatDoorTrb
set_option linter.unusedVariables false
set_option maxRecDepth 100000
namespace Go.Proofs.YtapgoifimhnbdaaGreatDoor
open Go.RowKit
open Go.OpenShut
theorem qtN (xs:List NodP) (j:Nat) (z:Int) (hj:j<xs.length):(rowN xs).set (j*12+2) (.int .i64 z)=rowN (xs.set j ({xs[j].1 with same:=z},xs[j].2)):=by
 induction xs generalizing j with
 |nil=>simp at hj
 |cons x xs ih=>
  have e: ∀(y:NodP) (ys:List NodP),rowN (y::ys)=nodV y.1 y.2++rowN ys:=fun _ _=>rfl;rw [e];cases j with
  |zero=>
   rw [Nat.zero_mul,Nat.zero_add,List.set_append_left _ _ (by rw [qb6];omega)];simp only [List.getElem_cons_zero,List.set_cons_zero];rw [e];rfl
  |succ j=>
   rw [List.set_append_right _ _ (by rw [qb6];omega),qb6,show (j+1)*12+2-12=j*12+2 by omega];simp only [List.getElem_cons_succ,List.set_cons_succ];rw [ih j (by simpa using hj),e]
theorem RowN.setSame {w:World} {B g cap n:Nat} {xs:List NodP} (h:RowN w B (.slice (some ⟨g,0,none⟩) n cap) xs) (hn:n=xs.length) (j:Nat) (hj:j<xs.length) (z:Int):
  RowN (w.setCell ⟨g,j*12+2,none⟩ (.int .i64 z)) B (.slice (some ⟨g,0,none⟩) n cap) (xs.set j ({xs[j].1 with same:=z},xs[j].2)):=by
 subst hn;have hr:=h;unfold RowN at hr;obtain ⟨h1,h2⟩:=World.ownsRow.stored hr (j*12+2) (.int .i64 z);rw [qtN xs j z hj]at h1;unfold RowN;rw [List.length_set];exact h1
theorem RowN.same_cell {w:World} {B g cap n:Nat} {xs:List NodP} (h:RowN w B (.slice (some ⟨g,0,none⟩) n cap) xs) (hn:n=xs.length) (j:Nat) (hj:j<xs.length):
  w.cell? ⟨g,j*12+2,none⟩=some (.int .i64 xs[j].1.same)∧w.frozen? ⟨g,j*12+2,none⟩=false:=by
 subst hn;have hr:=h;unfold RowN at hr;refine ⟨?_,World.ownsRow.frozenAt hr _⟩;rw [World.ownsRow.cellAt hr (j*12+2) (by omega),qeX xs j 2 hj (by omega)];rfl
theorem RowN.dat_cell {w:World} {B g cap n:Nat} {xs:List NodP} (h:RowN w B (.slice (some ⟨g,0,none⟩) n cap) xs) (hn:n=xs.length) (j:Nat) (hj:j<xs.length):
  w.cell? ⟨g,j*12+11,none⟩=some xs[j].2:=by
 subst hn;have hr:=h;unfold RowN at hr;rw [World.ownsRow.cellAt hr (j*12+11) (by omega),qeX xs j 11 hj (by omega)];rfl
def qqP (w:World) (A:Option Addr) (l:List Int):Prop:= ∀j (hj:j<l.length),∃b o,A=some ⟨b,o,none⟩∧w.cell? ⟨b,o+j,none⟩=some (.int .i64 l[j])
theorem qqP.below {w w':World} {A:Option Addr} {l:List Int} (h:qqP w A l) (hb:Below w.heap.size w w'):qqP w' A l:=fun j hj=>by
 obtain ⟨b,o,e,hc⟩:=h j hj;exact ⟨b,o,e,(hb.cell (p:=⟨b,o+j,none⟩) (World.block_lt_of_cell? w _ hc)).trans hc⟩
theorem qr0:(Tryz.prog.info? 3).map (fun i=>(i.zero,i.size,i.bytes))=some (some (.int .i64 0),1,8):=by kernel_rfl
def OwnI (w:World) (B:Nat) (v:Value) (l:List Int):Prop:=w.ownsRow B 3 1 v l.length (l.map (Value.int .i64))
theorem OwnI.nil (w:World) (B:Nat):OwnI w B (.slice none 0 0) []:=World.ownsRow_nil _ _ _ _
theorem OwnI.below {w w':World} {B:Nat} {v:Value} {l:List Int} (h:OwnI w B v l) (hb:Below w.heap.size w w'):OwnI w' B v l:=
 qcB h fun g hg=>hb.block g (World.ownsRow.lt h g hg).2
theorem OwnI.alloc {w:World} {B:Nat} {v:Value} {l:List Int} (h:OwnI w B v l) (o:Obj):OwnI (w.alloc o) B v l:=World.ownsRow.alloc h o
theorem OwnI.at {w:World} {B:Nat} {v:Value} {l:List Int} (h:OwnI w B v l): ∃A c,v= .slice A l.length c∧qqP w A l:=by
 have h':=h;unfold OwnI World.ownsRow at h;rcases h.2 with ⟨rfl,h0⟩|⟨g,cap,cur,rfl,hB,hg,hcap,hm,hs,ht⟩
 ·exact ⟨none,0,by rw [h0],fun j hj=>by omega⟩
 ·refine ⟨some ⟨g,0,none⟩,cap,rfl,fun j hj=>⟨g,0,rfl,?_⟩⟩;unfold OwnI at h';rw [Nat.zero_add,h'.cellAt j (by omega),List.getElem?_map,List.getElem?_eq_getElem hj];rfl
theorem qhW {w:World} {ops:Array Oper} {rest:List Oper} {o:Oper} {a:Act} {Q:Exit→Act→World→Prop} (hgd:o.guard=none) (s x:Operand)
  (ho:o.op= .call {callee:= .builtin .append,args:= #[s,x],argTypes:= #[88,88] }) (B:Nat) (v:Value) (l:List Int) (hs:a.eval s=v) (hown:OwnI w B v l)
  (g c:Nat) (z:Int) (hx:a.eval x= .slice (some ⟨g,0,none⟩) 1 c) (hc:w.cell? ⟨g,0,none⟩=some (.int .i64 z)) (hbig:l.length≤1000000) (hB:B≤w.heap.size)
  (h: ∀v' w',OwnI w' B v' (l++ [z])→w.grownBy w' v.ownBlock→wpList Tryz.prog ops Q rest (a.put o.dst v') w'):wpList Tryz.prog ops Q (o::rest) a w:=by
 obtain ⟨i0,hi,hz0,hz1,hz2⟩:=info_parts qr0;refine wpList_append_own _ hgd s x 88 ho B 3 i0 _ 1 8 Tryz.underlying88 hi hz0 hz1 hz2 rfl (by decide) v _ _ hs hown ⟨g,0,none⟩ 1 c [.int .i64 z] hx rfl (fun j q hq=> ?_) (fun q hq=> ?_) (by unfold maxLen;omega) (by omega) hB ?_
 ·cases j with
  |zero=>simp at hq;subst hq;exact hc
  |succ j=>simp at hq
 ·obtain rfl:=List.mem_singleton.1 hq;rfl
 ·intro v6 w6 hown6 hgrow _;exact h v6 w6 (by unfold OwnI;rw [List.length_append,List.map_append];exact hown6) hgrow
end Go.Proofs.YtapgoifimhnbdaaGreatDoor
namespace Go.Proofs.YtapgoifimhnbdaaGreatDoor
open Go.RowKit
open Go.OpenShut
open Go.Deep
def MapI (w:World) (r:Nat) (f:Int→Option Int):Prop:=
 ∃es clock,w.heap[r]?=some (.map es clock)∧(∀e∈es.toList,∃k v,e.key= .int .i64 k∧e.val= .int .i64 v∧f k=some v)∧
  ∀k v,f k=some v→ ∃e∈es.toList,e.key= .int .i64 k
theorem MapI.lt {w:World} {r:Nat} {f:Int→Option Int} (h:MapI w r f):r<w.heap.size:=by
 obtain ⟨es,clock,hb,-⟩:=h;exact (Array.getElem?_eq_some_iff.1 hb).1
theorem MapI.below {w w':World} {r:Nat} {f:Int→Option Int} (h:MapI w r f) (hb:Below w.heap.size w w'):MapI w' r f:=by
 have hlt:=h.lt;obtain ⟨es,clock,hr,h1,h2⟩:=h;exact ⟨es,clock,(hb.block r hlt).trans hr,h1,h2⟩
theorem MapI.new (w:World):MapI (w.alloc (.map #[] 0)) w.heap.size (fun _=>none):=⟨#[],0,heap_alloc_new w _,fun e he=>by simp at he,fun k v h=>by cases h⟩
theorem qiJ (k:Int):MapKept.IsKey (.int .i64) (.int .i64 k):=by simp [MapKept.IsKey]
theorem MapI.look {w:World} {r:Nat} {f:Int→Option Int} (h:MapI w r f) (k:Int):
  (Instr.lookup 130 (.map (some r)) (.int .i64 k) true).run Tryz.prog w= .ok (.tuple #[.int .i64 ((f k).getD 0),.bool (f k).isSome]) w:=by
 obtain ⟨es,clock,hr,h1,h2⟩:=h;have hm:=Tryz.underlying130;have hk:=Tryz.underlying3
 have hkeys: ∀e∈es.toList,MapKept.IsKey (.int .i64) e.key:=fun e he=>by
  obtain ⟨y,v,a2,-⟩:=h1 e he;rw [a2];exact qiJ _
 have hc:(Instr.checkKey es.isEmpty 10000 3 (.int .i64 k)).run Tryz.prog w= .ok () w:=MapKept.run_checkKey (k:= .int .i64 k) hk (qiJ k) _ 9999;rcases MapKept.findNow_spec (qiJ k) es.toList 0 hkeys with ⟨f1,f2⟩|⟨j,e,f1,f2,f3⟩
 ·have hn:f k=none:=by
   cases hf:f k with
   |none=>rfl
   |some v=>
    obtain ⟨e0,he0,hk0⟩:=h2 k v hf;exact absurd hk0 (f2 e0 he0)
  rw [hn];simp [Instr.lookup,run_underlying hm,MapKept.run_getObj_map hr,hc,MapKept.run_findKey hk f1,Result.andThen]
 ·have he:e∈es.toList:=List.mem_of_getElem? f2;obtain ⟨y,v,a2,a3,a4⟩:=h1 e he
  have hy:y=k:=by
   rw [a2]at f3;simpa using f3
  rw [hy]at a4;rw [a4];simp [Instr.lookup,run_underlying hm,MapKept.run_getObj_map hr,hc,MapKept.run_findKey hk f1,Result.andThen,a3]
theorem qjT {w0 w:World} {B r:Nat} {es es':Array MapEntry} {c c':Nat} (h:Below B w0 w) (hB:B≤r) (hr:w.heap[r]?=some (.map es c)):Below B w0 {w with heap:=w.heap.setIfInBounds r (.map es' c') } :=by
 obtain ⟨h1,h2,h3,h4,h5⟩:=h;refine ⟨h1,h2,h3,?_,fun i hi=> ?_⟩
 ·show w0.heap.size≤(w.heap.setIfInBounds r _).size;simp;exact h4
 ·exact ((MapKept.heap_set hr).2 i (by omega)).trans (h5 i hi)
theorem MapI.put {w:World} {r:Nat} {f:Int→Option Int} (h:MapI w r f) (k v:Int) (hv: ∀v',f k=some v'→v'=v):
  ∃w',(Instr.mapUpdate 130 (.map (some r)) (.int .i64 k) (.int .i64 v)).run Tryz.prog w= .ok () w'∧(∀w0 B,B≤r→Below B w0 w→Below B w0 w')∧
   (∀(g:Nat),g≠r→w'.heap[g]?=w.heap[g]?)∧w'.heap.size=w.heap.size∧MapI w' r (fun s=>if s=k then some v else f s):=by
 obtain ⟨es,clock,hr,h1,h2⟩:=h;have hm:=Tryz.underlying130;have hk:=Tryz.underlying3
 have hkeys: ∀e∈es.toList,MapKept.IsKey (.int .i64) e.key:=fun e he=>by
  obtain ⟨y,D,a2,-⟩:=h1 e he;rw [a2];exact qiJ _
 have hc:(Instr.checkKey false 10000 3 (.int .i64 k)).run Tryz.prog w= .ok () w:=MapKept.run_checkKey (k:= .int .i64 k) hk (qiJ _) _ 9999
 have hold: ∀e∈es.toList,∃k' v',e.key= .int .i64 k'∧e.val= .int .i64 v'∧(if k'=k then some v else f k')=some v':=fun e he=>by
  obtain ⟨y,u,a1,a2,a3⟩:=h1 e he;refine ⟨y,u,a1,a2,?_⟩
  by_cases hy:y=k
  ·rw [if_pos hy];rw [hy]at a3;rw [hv u a3]
  ·rw [if_neg hy];exact a3
 rcases MapKept.findNow_spec (qiJ k) es.toList 0 hkeys with ⟨f1,f2⟩|⟨j,e,f1,f2,f3⟩
 ·refine ⟨{w with heap:=w.heap.setIfInBounds r (.map (es.push {key:= .int .i64 k,val:= .int .i64 v,born:=clock}) (clock+1)) },?_,fun w0 B hB hb=>qjT hb hB hr,fun g hg=>(MapKept.heap_set hr).2 g hg,by simp,?_⟩
  ·simp [Instr.mapUpdate,run_underlying hm,MapKept.run_getObj_map hr,hc,MapKept.run_findKey hk f1,MapKept.run_setObj_map _ hr,Result.andThen]
  ·refine ⟨_,_,(MapKept.heap_set hr).1,fun e he=> ?_,fun y u hy=> ?_⟩
   ·rw [Array.toList_push,List.mem_append]at he;rcases he with he|he
    ·exact hold e he
    ·obtain rfl:e= {key:= .int .i64 k,val:= .int .i64 v,born:=clock} :=by simpa using he
     exact ⟨k,v,rfl,rfl,if_pos rfl⟩
   ·rw [Array.toList_push]
    by_cases hyk:y=k
    ·subst hyk;exact ⟨_,List.mem_append_right _ (List.mem_singleton.2 rfl),rfl⟩
    ·have hy:(if y=k then some v else f y)=some u:=hy;rw [if_neg hyk]at hy;obtain ⟨e,he,hk0⟩:=h2 y u hy;exact ⟨e,List.mem_append_left _ he,hk0⟩
 ·have hj:es[j]?=some e:=by simpa using f2
  refine ⟨{w with heap:=w.heap.setIfInBounds r (.map (es.modify j fun e=> {e with key:= .int .i64 k,val:= .int .i64 v}) clock) },?_,fun w0 B hB hb=>qjT hb hB hr,fun g hg=>(MapKept.heap_set hr).2 g hg,by simp,?_⟩
  ·simp [Instr.mapUpdate,run_underlying hm,MapKept.run_getObj_map hr,hc,MapKept.run_findKey hk f1,hj,f3,MapKept.run_keyThatStays (qiJ k),MapKept.run_setObj_map _ hr,Result.andThen]
  ·have hmem: ∀e'∈(es.modify j fun e=> {e with key:= .int .i64 k,val:= .int .i64 v}).toList,e'∈es.toList∨(e'.key= .int .i64 k∧e'.val= .int .i64 v):=fun e' he'=>by
    obtain ⟨i,hi,rfl⟩:=List.getElem_of_mem he';simp only [Array.getElem_toList,Array.getElem_modify]
    split
    ·exact .inr ⟨rfl,rfl⟩
    ·exact .inl (by simp)
   have hkey: ∀e0∈es.toList,∃e'∈(es.modify j fun e=> {e with key:= .int .i64 k,val:= .int .i64 v}).toList,e'.key=e0.key:=fun e0 he0=>by
    obtain ⟨i,hi,rfl⟩:=List.getElem_of_mem he0;refine ⟨(es.modify j fun e=> {e with key:= .int .i64 k,val:= .int .i64 v}).toList[i]'(by simpa using hi),List.getElem_mem _,?_⟩;simp only [Array.getElem_toList,Array.getElem_modify]
    split
    ·rename_i hij;subst hij;have:es[j]?=some (es[j]'(by simpa using hi)):=Array.getElem?_eq_getElem _;rw [this]at hj;injection hj with hj
     rw [hj];exact f3.symm
    ·rfl
   refine ⟨_,_,(MapKept.heap_set hr).1,fun e' he'=> ?_,fun y u hy=> ?_⟩
   ·rcases hmem e' he' with a|⟨a,b⟩
    ·exact hold e' a
    ·exact ⟨k,v,a,b,if_pos rfl⟩
   ·by_cases hyk:y=k
    ·subst hyk;obtain ⟨e',he',hk1⟩:=hkey e (List.mem_of_getElem? f2);exact ⟨e',he',by rw [hk1,f3]⟩
    ·have hy:(if y=k then some v else f y)=some u:=hy;rw [if_neg hyk]at hy;obtain ⟨e0,he0,hk0⟩:=h2 y u hy;obtain ⟨e',he',hk1⟩:=hkey e0 he0;exact ⟨e',he',by rw [hk1,hk0]⟩
theorem OwnI.stays {w w':World} {B:Nat} {v:Value} {l:List Int} (h:OwnI w B v l) (hb: ∀g,v.ownBlock=some g→w'.heap[g]?=w.heap[g]?):OwnI w' B v l:=qcB h hb
theorem qpY (w:World) (n:Nat) (hn:n*8≤140737488355328) (i0:TypeInfo) (hi:Tryz.prog.info? 3=some i0) (hz0:i0.zero=some (.int .i64 0)) (hz1:i0.size=1) (hz2:i0.bytes=8):
  ∃M:Array Value,(∀W:World,(Instr.makeSlice 88 (.int .i64 0) (.int .i64 (n:Int))).run Tryz.prog W= .ok (.slice (some ⟨W.heap.size,0,none⟩) 0 n) (W.alloc (.cells M 3)))∧
   ∀(W:World) (B:Nat),B≤W.heap.size→OwnI (W.alloc (.cells M 3)) B (.slice (some ⟨W.heap.size,0,none⟩) 0 n) []:=by
 obtain ⟨M,hM⟩: ∃M,M=madeCells (Value.int .i64 0).cells (((n:Nat):Int).toNat*i0.size):=⟨_,rfl⟩;have hMs:M.size=n:=by rw [hM,hz1,Nat.mul_one,Int.toNat_natCast];simp [madeCells]
 refine ⟨M,fun W=> ?_,fun W B hB=> ?_⟩
 ·have h:=run_make (P:=Tryz.prog) W 88 3 i0 (.int .i64 0) Tryz.underlying88 hi hz0 .i64 .i64 0 (n:Int) (by omega) (by omega) (by rw [hz2];omega) (by omega);rw [←hM]at h;simpa using h
 ·exact ⟨rfl,.inr ⟨W.heap.size,n,M,rfl,hB,heap_alloc_new W _,Nat.zero_le _,by unfold maxLen;omega,by rw [hMs,Nat.mul_one],rfl⟩⟩
theorem qw7 (w:World) (n:Nat) (hn:n*8≤140737488355328) (i0:TypeInfo) (hi:Tryz.prog.info? 3=some i0) (hz0:i0.zero=some (.int .i64 0)) (hz1:i0.size=1) (hz2:i0.bytes=8):
  ∃M:Array Value,(∀W:World,(Instr.makeSlice 88 (.int .i64 (n:Int)) (.int .i64 (n:Int))).run Tryz.prog W= .ok (.slice (some ⟨W.heap.size,0,none⟩) n n) (W.alloc (.cells M 3)))∧
   ∀(W:World) (B:Nat),B≤W.heap.size→OwnI (W.alloc (.cells M 3)) B (.slice (some ⟨W.heap.size,0,none⟩) n n) (List.replicate n 0):=by
 obtain ⟨M,hM⟩: ∃M,M=madeCells (Value.int .i64 0).cells (((n:Nat):Int).toNat*i0.size):=⟨_,rfl⟩;have hMs:M.size=n:=by rw [hM,hz1,Nat.mul_one,Int.toNat_natCast];simp [madeCells]
 have hMl:M.toList=List.replicate n (.int .i64 0):=by
  have hc:(Value.int .i64 0).cells= #[.int .i64 0]:=rfl;rw [hM,hz1,Nat.mul_one,Int.toNat_natCast];apply List.ext_getElem
  ·simp [madeCells]
  ·intro j h1 h2;simp [madeCells,hc,Nat.mod_one]
 refine ⟨M,fun W=> ?_,fun W B hB=> ?_⟩
 ·have h:=run_make (P:=Tryz.prog) W 88 3 i0 (.int .i64 0) Tryz.underlying88 hi hz0 .i64 .i64 (n:Int) (n:Int) (by omega) (by omega) (by rw [hz2];omega) (by omega);rw [←hM]at h;simpa using h
 ·unfold OwnI;rw [List.length_replicate];exact ⟨by simp,.inr ⟨W.heap.size,n,M,rfl,hB,heap_alloc_new W _,Nat.le_refl _,by unfold maxLen;omega,by rw [hMs,Nat.mul_one],by rw [hMl];simp⟩⟩
theorem OwnI.set {w:World} {B g cap n:Nat} {l:List Int} (h:OwnI w B (.slice (some ⟨g,0,none⟩) n cap) l) (hn:n=l.length) (j:Nat) (z:Int):
  OwnI (w.setCell ⟨g,j,none⟩ (.int .i64 z)) B (.slice (some ⟨g,0,none⟩) n cap) (l.set j z):=by
 subst hn;have h1:=(World.ownsRow.stored h j (.int .i64 z)).1;unfold OwnI;rw [List.length_set,List.map_set];exact h1
theorem OwnI.cell {w:World} {B g cap n:Nat} {l:List Int} (h:OwnI w B (.slice (some ⟨g,0,none⟩) n cap) l) (hn:n=l.length) (j:Nat) (hj:j<l.length):
  w.cell? ⟨g,j,none⟩=some (.int .i64 l[j])∧w.frozen? ⟨g,j,none⟩=false:=by
 subst hn;refine ⟨?_,World.ownsRow.frozenAt h _⟩;rw [h.cellAt j (by simpa using hj),List.getElem?_map,List.getElem?_eq_getElem hj];rfl
end Go.Proofs.YtapgoifimhnbdaaGreatDoor
namespace Go.Proofs.YtapgoifimhnbdaaGreatDoor
open Go.RowKit
open Go.OpenShut
def fsL (l:List NodeV):List Int:=(List.range l.length).map fun i=>((qaB l i:Nat):Int)
def nmL (l:List NodeV):List Int:=(List.range l.length).map fun i=>((qcN l i:Nat):Int)
theorem qr7 (l:List NodeV):(fsL l).length=l.length:=by unfold fsL;rw [List.length_map,List.length_range]
theorem q5K (l:List NodeV):(nmL l).length=l.length:=by unfold nmL;rw [List.length_map,List.length_range]
theorem qpL (f:Nat→Int) (k:Nat):(List.range (k+1)).map f=(List.range k).map f++ [f k]:=by rw [List.range_succ,List.map_append];rfl
theorem qhG (f:Nat→Int) (k:Nat):((List.range k).map f).length=k:=by rw [List.length_map,List.length_range]
theorem qaJ.same2 {w:World} {A:Option Addr} {l:List NodeV} (h:qaJ w A l) (i k:Nat) (hi:i<l.length) (hk:k<l.length): ∃b o,A=some ⟨b,o,none⟩∧w.cell? ⟨b,o+i*12+2,none⟩=some (.int .i64 (qaG l i))∧w.cell? ⟨b,o+k*12+2,none⟩=some (.int .i64 (qaG l k)):=by
 obtain ⟨b,o,D,c,e,h1,h2,h3,h4⟩:=h.cells2 i hi;obtain ⟨b',o',D',c',e',h1',h2',h3',h4'⟩:=h.cells2 k hk;subst e;injection e' with e'
 injection e' with e1 e2
 subst e1 e2;refine ⟨b,o,rfl,?_,?_⟩
 ·rw [qbL hi];exact (h4 w (Below.refl _ _)).2.2.1
 ·rw [qbL hk];exact (h4' w (Below.refl _ _)).2.2.1
theorem qmF {l:List NodeV} (h:qaO l=0):l.length≤40:=((qaT l).1 h).1
theorem OwnN.setSame {w:World} {B g cap n:Nat} {xs:List NodP} (h:OwnN w B (.slice (some ⟨g,0,none⟩) n cap) xs) (hn:n=xs.length) (j:Nat) (hj:j<xs.length) (z:Int):
  OwnN (w.setCell ⟨g,j*12+2,none⟩ (.int .i64 z)) B (.slice (some ⟨g,0,none⟩) n cap) (xs.set j ({xs[j].1 with same:=z},xs[j].2)):=by
 subst hn;have hr:=h.1;unfold RowN at hr;obtain ⟨h1,h2⟩:=World.ownsRow.stored hr (j*12+2) (.int .i64 z);rw [qtN xs j z hj]at h1;refine ⟨by unfold RowN;rw [List.length_set];exact h1,fun x hx=> ?_⟩;rcases List.mem_or_eq_of_mem_set hx with hx|rfl
 ·exact (h.2 x hx).grown h2 fun g e e2=>qgU (h.2 x hx) h.1 g e e2
 ·exact (h.2 _ (List.getElem_mem hj)).grown h2 fun g e e2=>qgU (h.2 _ (List.getElem_mem hj)) h.1 g e e2
theorem OwnN.same_cell {w:World} {B g cap n:Nat} {xs:List NodP} (h:OwnN w B (.slice (some ⟨g,0,none⟩) n cap) xs) (hn:n=xs.length) (j:Nat) (hj:j<xs.length):
  w.cell? ⟨g,j*12+2,none⟩=some (.int .i64 xs[j].1.same)∧w.frozen? ⟨g,j*12+2,none⟩=false:=by
 subst hn;have hr:=h.1;unfold RowN at hr;refine ⟨?_,World.ownsRow.frozenAt hr _⟩;rw [World.ownsRow.cellAt hr (j*12+2) (by omega),qeX xs j 2 hj (by omega)];rfl
theorem zbC {α:Type} (a l:List α) (i:Nat) (ha:i<a.length) (hl:a.length=l.length):(a.take i++l.drop i).set i a[i]=a.take (i+1)++l.drop (i+1):=by
 rw [List.set_append_right _ _ (by rw [List.length_take];omega),List.length_take,Nat.min_eq_left (by omega),Nat.sub_self,List.drop_eq_getElem_cons (by omega),List.set_cons_zero,List.take_succ_eq_append_getElem ha,List.append_assoc];rfl
theorem mix_get {α:Type} (a l:List α) (i:Nat) (ha:i<a.length) (hl:a.length=l.length) (h:i<(a.take i++l.drop i).length):(a.take i++l.drop i)[i]=l[i]:=by
 rw [List.getElem_append_right (by rw [List.length_take];omega)];simp only [List.getElem_drop,List.length_take]
 congr 1;omega
theorem zc2 {l:List NodeV} {ys:List NodP} {i:Nat} (hi:i<l.length) (hy:ys.map (·.1)=(qa8 l).take i++l.drop i) (hyi:i<ys.length):ys[i].1=l[i]∧ ∀d,(ys.set i (qeT l i l[i],d)).map (·.1)=(qa8 l).take (i+1)++l.drop (i+1):=by
 have hl:=qbA l;constructor
 ·have h1:(ys.map (·.1))[i]'(by rw [List.length_map];exact hyi)=l[i]:=by
   simp only [hy];exact mix_get _ _ _ (by omega) hl _
  rwa [List.getElem_map]at h1
 ·intro d;rw [List.map_set,hy,←qcY l i hi];exact zbC _ _ _ (by omega) hl
theorem zc4 {l:List NodeV} {ys:List NodP} {i n:Nat} (hn:l.length=n) (hi:i≤n) (hy:ys.map (·.1)=(qa8 l).take i++l.drop i):ys.length=n:=by
 have:=congrArg List.length hy;rw [List.length_map,List.length_append,List.length_take,List.length_drop,qbA]at this;omega
theorem ql2 {W:World} {A:Option Addr} {l:List NodeV} (h:qqP W A (fsL l)) (i:Nat) (hi:i<l.length): ∃b o,A=some ⟨b,o,none⟩∧W.cell? ⟨b,o+i,none⟩=some (.int .i64 ((qaB l i:Nat):Int)):=by
 obtain ⟨b,o,e,h1⟩:=h i (by rw [qr7];exact hi);refine ⟨b,o,e,h1.trans ?_⟩
 congr 2
 unfold fsL;rw [List.getElem_map,List.getElem_range]
theorem za8 {W:World} {A:Option Addr} {l:List NodeV} (h:qqP W A (nmL l)) (i:Nat) (hi:i<l.length): ∃b o,A=some ⟨b,o,none⟩∧W.cell? ⟨b,o+i,none⟩=some (.int .i64 ((qcN l i:Nat):Int)):=by
 obtain ⟨b,o,e,h1⟩:=h i (by rw [q5K];exact hi);refine ⟨b,o,e,h1.trans ?_⟩
 congr 2
 unfold nmL;rw [List.getElem_map,List.getElem_range]
end Go.Proofs.YtapgoifimhnbdaaGreatDoor
namespace Go.Proofs.YtapgoifimhnbdaaGreatDoor
open Go.RowKit
def qc8 (t:List NodeV) (i:Nat) (s:Int):Option Int:=if 0<s then ((List.range i).find? fun k=>decide (qaG t k=s)).map fun k=>(k:Int)else none
theorem q0L (t:List NodeV):qc8 t 0=fun _=>none:=by
 funext s;unfold qc8;split<;>rfl
theorem qyI {t:List NodeV} {i:Nat} (h0:0≤qaG t i):qaB t i=((qc8 t i (qaG t i)).getD (i:Int)):=by
 unfold qc8 qaB
 by_cases h:0<qaG t i
 ·rw [if_pos h]
  have e:(fun k=>eqF t k i)=fun k=>decide (qaG t k=qaG t i):=by
   funext k;unfold eqF
   rw [Bool.eq_iff_iff,decide_eq_true_eq,decide_eq_true_eq];exact ⟨fun h=>h.2,fun h'=>⟨by omega,h'⟩⟩
  rw [e];cases (List.range i).find? fun k=>decide (qaG t k=qaG t i)with
  |none=>rfl
  |some m=>rfl
 ·rw [if_neg h]
  have e:(fun k=>eqF t k i)=fun _=>false:=by
   funext k;unfold eqF
   exact decide_eq_false fun h'=>h'.1 (by omega)
  rw [e];have:(List.range i).find? (fun _=>false)=none:=by rw [List.find?_eq_none];intro x _;simp
  rw [this];rfl
theorem qj3 {t:List NodeV} {i:Nat} (h0:0≤qaG t i) (h:qc8 t i (qaG t i)=none):qaB t i=i:=by
 have:=qyI h0;rw [h,Option.getD_none]at this;omega
theorem qpF {t:List NodeV} {i:Nat} {v:Int} (h0:0≤qaG t i) (h:qc8 t i (qaG t i)=some v):v=qaB t i:=by
 have:=qyI h0;rw [h,Option.getD_some]at this;exact this.symm
theorem qpE (t:List NodeV) (i:Nat) (s:Int):qc8 t (i+1) s=if 0<s∧qc8 t i s=none∧qaG t i=s then some (i:Int)else qc8 t i s:=by
 unfold qc8
 by_cases h:0<s
 ·rw [if_pos h,if_pos h,List.range_succ,List.find?_append];cases (List.range i).find? fun k=>decide (qaG t k=s)with
  |some m=>simp
  |none=>
   by_cases he:qaG t i=s
   ·simp [he,h]
   ·simp [he]
 ·rw [if_neg h,if_neg h,if_neg fun h'=>h h'.1]
theorem q0M {t:List NodeV} {i:Nat} (h: ¬0<qaG t i):qc8 t (i+1)=qc8 t i:=by
 funext s
 rw [qpE,if_neg];rintro ⟨h1,-,h2⟩;omega
theorem q4C {t:List NodeV} {i:Nat} (h:0<qaG t i):qc8 t (i+1)=fun s=>if s=qaG t i then some ((qaB t i:Nat):Int)else qc8 t i s:=by
 funext s
 rw [qpE];have h0:0≤qaG t i:=by omega
 by_cases hs:s=qaG t i
 ·subst hs;rw [if_pos rfl];cases hn:qc8 t i (qaG t i)with
  |none=>rw [if_pos ⟨h,rfl,rfl⟩,qj3 h0 hn]
  |some v=>rw [if_neg (by rintro ⟨-,h2,-⟩;cases h2),qpF h0 hn]
 ·rw [if_neg hs,if_neg];rintro ⟨-,-,h2⟩;exact hs h2.symm
theorem qnX {t:List NodeV} {i:Nat} (h: ¬0<qaG t i) (h0:0≤qaG t i):qaB t i=i:=by
 refine qj3 h0 ?_;unfold qc8;rw [if_neg h]
def cntF (t:List NodeV) (k j:Nat):Nat:=(List.range k).countP fun m=>decide (qaB t m=j)
theorem q72 (t:List NodeV) (k j:Nat):cntF t k j≤k:=by
 have:=List.countP_le_length (p:=fun m=>decide (qaB t m=j)) (l:=List.range k);rw [List.length_range]at this;exact this
theorem q71 (t:List NodeV) (k j:Nat):cntF t (k+1) j=cntF t k j+if qaB t k=j then 1 else 0:=by
 unfold cntF;rw [List.range_succ,List.countP_append,List.countP_singleton]
 by_cases h:qaB t k=j
 ·simp [h]
 ·simp [h]
def cntL (t:List NodeV) (n k:Nat):List Int:=(List.range n).map fun j=>((cntF t k j:Nat):Int)
theorem qeD (t:List NodeV) (n k:Nat):(cntL t n k).length=n:=by unfold cntL;rw [List.length_map,List.length_range]
theorem q7Z (t:List NodeV) (n:Nat):cntL t n 0=List.replicate n 0:=by
 apply List.ext_getElem
 ·rw [qeD,List.length_replicate]
 ·intro i h1 h2;unfold cntL cntF;simp
theorem qsQ (t:List NodeV) (n k j:Nat) (h:j<(cntL t n k).length):(cntL t n k)[j]=((cntF t k j:Nat):Int):=by
 have key: ∀h:j<((List.range n).map fun j=>((cntF t k j:Nat):Int)).length,((List.range n).map fun j=>((cntF t k j:Nat):Int))[j]=((cntF t k j:Nat):Int):=fun h=>by rw [List.getElem_map,List.getElem_range]
 exact key h
theorem q70 (t:List NodeV) (n k:Nat):(cntL t n k).set (qaB t k) (((cntF t k (qaB t k):Nat):Int)+1)=cntL t n (k+1):=by
 apply List.ext_getElem
 ·rw [List.length_set,qeD,qeD]
 ·intro i h1 h2;rw [List.getElem_set,qsQ _ _ _ _ h2,q71]
  by_cases h:qaB t k=i
  ·rw [if_pos h,if_pos h,h];omega
  ·rw [if_neg h,if_neg h,qsQ _ _ _ _ (by rw [List.length_set]at h1;exact h1)];omega
theorem q2P {t:List NodeV} (h0: ∀i,0≤qaG t i) (i:Nat):cntF t t.length (qaB t i)=qcN t i:=(quC h0 i).symm
theorem qu4 {t:List NodeV} {i n:Nat} (h:i<n):qaB t i<n:=by
 have:=(qbU t i).1;omega
end Go.Proofs.YtapgoifimhnbdaaGreatDoor
namespace Go.Proofs.YtapgoifimhnbdaaGreatDoor
open Go.RowKit
open Go.OpenShut
theorem qkA {w:World} {B:Nat} {v:Value} {l:List Int} {r:Nat} {f:Int→Option Int} (h:OwnI w B v l) (hm:MapI w r f): ∀g,v.ownBlock=some g→g≠r:=by
 intro g hg e;subst e;obtain ⟨es,clock,hr,-⟩:=hm;unfold OwnI World.ownsRow at h;rcases h.2 with ⟨rfl,-⟩|⟨g',cap,cur,rfl,hB,hg',-⟩
 ·cases hg
 ·have:g'=g:=by simpa [Value.ownBlock]using hg
  subst this;rw [hg']at hr;cases hr
theorem MapI.grown {w w':World} {B:Nat} {v:Value} {l:List Int} {r:Nat} {f:Int→Option Int} (hm:MapI w r f) (h:OwnI w B v l) (hg:w.grownBy w' v.ownBlock):MapI w' r f:=by
 have hne:some r≠v.ownBlock:=fun e=>qkA h hm r e.symm rfl;have hlt:=hm.lt;obtain ⟨es,clock,hr,h1,h2⟩:=hm;exact ⟨es,clock,(hg.block r hlt hne).trans hr,h1,h2⟩
set_option maxHeartbeats 4000000 in
theorem qhO (A:Option Addr) (n c:Nat) (l:List NodeV) (hn:l.length=n) (hc:SlOk A n c) (hsz: ∀x∈l,x.sz) (h40:n≤40) (w:World) (hA:qaJ w A l) (ht:qaO l=0):
  Calls Tryz.prog 63 #[.slice A n c] w fun e w'=> ∃v,e= .returned (.tuple #[v,.int .i64 0])∧OwnI w' w.heap.size v (fsL l)∧Below w.heap.size w w':=by
 have H1:=Lib.hid (qcR A n c l hn hc hsz w hA);rw [ht]at H1;have HP:=Lib.hid fun i=>((qaT l).1 ht).2.pos i;have HN:=Lib.hid hn;have HA:=Lib.hid hA;obtain ⟨i0,hi,hz0,hz1,hz2⟩:=info_parts qr0;obtain ⟨M,hmk,hown⟩:=qpY w n (by omega) i0 hi hz0 hz1 hz2;have HK:=Lib.hid hmk;have HO:=Lib.hid hown;clear hn hc hsz hA ht hmk hown hi hz0 hz1 hz2;go_enter Tryz.func63,Tryz.ntmps63;go_wp2_with fail;refine H1.out.mono ?_;rintro e x1 ⟨rfl,hb⟩;have hk1:=HK.out x1;have ho1:=HO.out x1 w.heap.size hb.size;have hb1:=hb.alloc hb.size (.cells M 3);generalize hv1:Value.slice (some ⟨x1.heap.size,0,none⟩) 0 n=v1 at hk1 ho1;generalize hx2:x1.alloc (.cells M 3)=x2 at hk1 ho1 hb1;have hk2:(Instr.makeMap 130 none).run Tryz.prog x2= .ok (.map (some x2.heap.size)) (x2.alloc (.map #[] 0)):=rfl;have hm3:=MapI.new x2;have ho3:=ho1.alloc (.map #[] 0);have hb3:=hb1.alloc hb1.size (.map #[] 0);have hr3:w.heap.size≤x2.heap.size:=hb1.size;generalize x2.heap.size=r at hk2 hm3 hr3;generalize x2.alloc (.map #[] 0)=x3 at hk2 hm3 ho3 hb3;have HO3:=Lib.hid ho3;have HM3:Hid (MapI x3 r (qc8 l 0)):=by unfold Hid;rw [q0L];exact hm3
 have HB3:=Lib.hid hb3;have HR3:=Lib.hid hr3;clear hb ho1 hb1 hv1 hx2 hm3 ho3 hb3 hr3 H1 HK HO;go_wp2_with fail
 go_loopw [5,22] (fun ov iv wr=> ∃i:Nat,i≤n∧iv= .int .i64 i∧Hid (OwnI wr w.heap.size ov ((List.range i).map fun j=>((qaB l j:Nat):Int)))∧Hid (MapI wr r (qc8 l i))∧Hid (Below w.heap.size w wr)) (fun _ iv _=>n-(intOf iv).toNat)
 case atStart=>exact ⟨0,Nat.zero_le _,rfl,HO3.out,HM3.out,HB3.out⟩
 case round=>
  obtain ⟨i,hi,rfl,HR,HM,HB⟩:=hrel
  by_cases hlt:i<n
  ·have i1:i<l.length:=by rw [HN.out];exact hlt
   obtain ⟨b,o,D,cc,rfl,c0,c1,c2',c3,⟨c4,c5,c6,c7,c8,c9,cA⟩,cB,-,hD⟩:=(HA.out.below HB.out).cells i i1;have hb1:b<wr.heap.size:=World.block_lt_of_cell? wr _ c0;have hsa:=qbL i1;have HX:Hid ((List.range i).map (fun j=>((qaB l j:Nat):Int))++ [((qaB l i:Nat):Int)]=(List.range (i+1)).map fun j=>((qaB l j:Nat):Int)):=(qpL _ _).symm;have HSa:=Lib.hid (HP.out i);obtain ⟨F,hF⟩: ∃F:Nat,F=qaB l i:=⟨_,rfl⟩;have hFi:F≤i:=by rw [hF];exact (qbU l i).1
   have HF:=Lib.hid hF;rw [←hF]at HX;generalize l[i]=x at*;clear hD hF;go_upto_region 9 with fail
   have HBl:=Lib.hid (Blk.new wr 49 (nodA x D cc));have HBa:Hid (Below wr.heap.size wr (wr.alloc (.cells (nodA x D cc) 49))):=(Below.refl _ _).alloc (Nat.le_refl _) _;unfold nodA at HBl HBa;generalize hwa:wr.alloc _=wa at HBl HBa⊢;have e2:=(qbC HBl.out).1.2.2.1;have HMa:=Lib.hid (HM.out.below HBa.out);have HRa:=Lib.hid (HR.out.below HBa.out);have HBb:=Lib.hid (HB.out.trans (HBa.out.mono HB.out.size));clear hwa c0 c1 c2' c3 c4 c5 c6 c7 c8 c9 cA cB;have hlk:=HMa.out.look (qaG l i);have HSp:Hid (0<qaG l i→qc8 l (i+1)=fun s=>if s=qaG l i then some ((qaB l i:Nat):Int)else qc8 l i s):=q4C;have HSn:Hid (¬0<qaG l i→qc8 l (i+1)=qc8 l i):=q0M;have HZ:Hid (¬0<qaG l i→qaB l i=i):=fun h=>qnX h HSa.out;have HS1:Hid (∀v,qc8 l i (qaG l i)=some v→v=(F:Int)):=fun v h=>by rw [HF.out];exact qpF HSa.out h
   have HS0:Hid (qc8 l i (qaG l i)=none→F=i):=fun h=>by rw [HF.out];exact qj3 HSa.out h
   rw [hsa]at hlk HSp HSn HS1 HS0 HZ;clear hsa
   by_cases hpos:0<x.same
   ·have hSp:=HSp.out hpos;rw [←HF.out]at hSp;have hne2: ∀v',qc8 l i x.same=some v'→v'=(F:Int):=HS1.out;obtain ⟨w9,hput,hbel,hkeep,hs9,hm9⟩:=HMa.out.put x.same (F:Int) hne2;rw [←hSp]at hm9;have HM9:=Lib.hid hm9;clear hSp;cases hq:qc8 l i x.same with
    |some v=>
     obtain rfl:=HS1.out v hq;rw [hq]at hlk;simp only [Option.getD_some,Option.isSome_some]at hlk;clear hq hne2;have HR9:Hid (OwnI w9 w.heap.size u5 ((List.range i).map fun j=>((qaB l j:Nat):Int))):=HRa.out.stays fun g hg=>hkeep g (qkA HRa.out HMa.out g hg);have HB9:=Lib.hid (hbel w _ HR3.out HBb.out);clear hm9 hkeep hbel hs9;go_wp2_with (at_builtin;refine Stay.go ?_);refine Stay.on ?_;refine qhW rfl (.tmp 44) (.tmp 46) rfl w.heap.size _ _ rfl (HR9.out.alloc _) w9.heap.size 1 (F:Int) rfl ((Blk.new _ 3 #[.int .i64 (F:Int)]).cell 0) (by rw [qhG];omega) (by rw [hszA];exact Nat.le_trans HB9.out.size (Nat.le_succ _)) ?_;intro v7 w7 ho7 hg7;rw [HX.out]at ho7;have HR7:=Lib.hid ho7;have HM7:=Lib.hid ((HM9.out.below ((Below.refl _ _).alloc (Nat.le_refl _) _)).grown (HR9.out.alloc _) hg7);have HB7:Hid (Below w.heap.size w w7):=(HB9.out.alloc HB9.out.size _).grown hg7 (by rw [hszA];exact Nat.le_trans HB9.out.size (Nat.le_succ _)) fun g e=>(World.ownsRow.lt HR9.out g e).1;clear ho7 hg7;go_wp2_with fail;go_roundw
     case rel=>exact ⟨i+1,by omega,by go_num,HR7.out,HM7.out,HB7.out⟩
     case measure=>simp [intOf];omega
    |none=>
     have hiF:i=F:=(HS0.out hq).symm;subst hiF;rw [hq]at hlk;simp only [Option.getD_none,Option.isSome_none]at hlk;clear hq hne2;have HR9:Hid (OwnI w9 w.heap.size u5 ((List.range i).map fun j=>((qaB l j:Nat):Int))):=HRa.out.stays fun g hg=>hkeep g (qkA HRa.out HMa.out g hg);have HB9:=Lib.hid (hbel w _ HR3.out HBb.out);clear hm9 hkeep hbel hs9;go_wp2_with (at_builtin;refine Stay.go ?_);refine Stay.on ?_;refine qhW rfl (.tmp 44) (.tmp 46) rfl w.heap.size _ _ rfl (HR9.out.alloc _) w9.heap.size 1 (i:Int) rfl ((Blk.new _ 3 #[.int .i64 (i:Int)]).cell 0) (by rw [qhG];omega) (by rw [hszA];exact Nat.le_trans HB9.out.size (Nat.le_succ _)) ?_;intro v7 w7 ho7 hg7;rw [HX.out]at ho7;have HR7:=Lib.hid ho7;have HM7:=Lib.hid ((HM9.out.below ((Below.refl _ _).alloc (Nat.le_refl _) _)).grown (HR9.out.alloc _) hg7);have HB7:Hid (Below w.heap.size w w7):=(HB9.out.alloc HB9.out.size _).grown hg7 (by rw [hszA];exact Nat.le_trans HB9.out.size (Nat.le_succ _)) fun g e=>(World.ownsRow.lt HR9.out g e).1;clear ho7 hg7;go_wp2_with fail;go_roundw
     case rel=>exact ⟨i+1,by omega,by go_num,HR7.out,HM7.out,HB7.out⟩
     case measure=>simp [intOf];omega
   ·have hSn:=HSn.out hpos;have hq:qc8 l i x.same=none:=by unfold qc8;rw [if_neg hpos]
    have hiF:i=F:=(HS0.out hq).symm;subst hiF;rw [hq]at hlk;simp only [Option.getD_none,Option.isSome_none]at hlk;have HM9:Hid (MapI wa r (qc8 l (i+1))):=by unfold Hid;rw [hSn];exact HMa.out
    have hpos2: ¬x.same>0:=hpos;clear hq hSn;go_wp2_with (at_builtin;refine Stay.go ?_);refine Stay.on ?_;refine qhW rfl (.tmp 44) (.tmp 46) rfl w.heap.size _ _ rfl (HRa.out.alloc _) wa.heap.size 1 (i:Int) rfl ((Blk.new _ 3 #[.int .i64 (i:Int)]).cell 0) (by rw [qhG];omega) (by rw [hszA];exact Nat.le_trans HBb.out.size (Nat.le_succ _)) ?_;intro v7 w7 ho7 hg7;rw [HX.out]at ho7;have HR7:=Lib.hid ho7;have HM7:=Lib.hid ((HM9.out.below ((Below.refl _ _).alloc (Nat.le_refl _) _)).grown (HRa.out.alloc _) hg7);have HB7:Hid (Below w.heap.size w w7):=(HBb.out.alloc HBb.out.size _).grown hg7 (by rw [hszA];exact Nat.le_trans HBb.out.size (Nat.le_succ _)) fun g e=>(World.ownsRow.lt HRa.out g e).1;clear ho7 hg7;go_wp2_with fail;go_roundw
    case rel=>exact ⟨i+1,by omega,by go_num,HR7.out,HM7.out,HB7.out⟩
    case measure=>simp [intOf];omega
  ·obtain rfl:i=n:=by omega
   have hR:=HR.out;rw [←HN.out]at hR;have HV:Hid (OwnI wr w.heap.size u5 (fsL l)):=hR;clear hR;go_wp2_with fail;refine bodyPost_ret (v:= .tuple #[u5,.int .i64 0]) (by simp [results,Tryz.results63,go_sem, *]) rfl ?_;exact ⟨_,rfl,HV.out,HB.out⟩
theorem qxA (A:Option Addr) (n c:Nat) (l:List NodeV) (hn:l.length=n) (hc:SlOk A n c) (hsz: ∀x∈l,x.sz) (w:World) (hA:qaJ w A l):
  Calls Tryz.prog 63 #[.slice A n c] w fun e w'=> ∃v,e= .returned (.tuple #[v,.int .i64 (qaO l)])∧OwnI w' w.heap.size v (if qaO l=0 then fsL l else [])∧Below w.heap.size w w':=by
 by_cases ht:qaO l=0
 ·rw [if_pos ht,ht];have h40:=(qmF ht);exact qhO A n c l hn hc hsz (by omega) w hA ht
 ·rw [if_neg ht];have H1:=Lib.hid (qcR A n c l hn hc hsz w hA);obtain ⟨E,HEE⟩:=qaA (qaO l);rw [HEE.out]at H1 ht⊢;have hne:(E==0)=false:=by simpa using ht
  clear hn hc hsz hA ht;go_enter Tryz.func63,Tryz.ntmps63;go_wp2_with fail;refine H1.out.mono ?_;rintro e x1 ⟨rfl,hb⟩;have HB1:=Lib.hid hb;clear hb;go_wp2_with fail;refine bodyPost_ret (v:= .tuple #[.slice none 0 0,.int .i64 E]) (by simp [results,Tryz.results63,go_sem, *]) rfl ?_;exact ⟨_,rfl,OwnI.nil _ _,HB1.out⟩
theorem OwnI.mono {w:World} {B B':Nat} {v:Value} {l:List Int} (h:OwnI w B v l) (hB:B'≤B):OwnI w B' v l:=qhN h hB
set_option maxHeartbeats 4000000 in
theorem q57 (A:Option Addr) (n c:Nat) (l:List NodeV) (hn:l.length=n) (hc:SlOk A n c) (hsz: ∀x∈l,x.sz) (h40:n≤40) (w:World) (hA:qaJ w A l) (ht:qaO l=0):
  Calls Tryz.prog 79 #[.slice A n c] w fun e w'=> ∃v,e= .returned (.tuple #[v,.int .i64 0])∧OwnI w' w.heap.size v (nmL l)∧Below w.heap.size w w':=by
 have H1:=Lib.hid (qhO A n c l hn hc hsz h40 w hA ht);have HP:=Lib.hid fun i=>((qaT l).1 ht).2.pos i;have HN:=Lib.hid hn;obtain ⟨i0,hi,hz0,hz1,hz2⟩:=info_parts qr0;obtain ⟨M,hmk,hown⟩:=qpY w n (by omega) i0 hi hz0 hz1 hz2;have HK:=Lib.hid hmk;have HOR:=Lib.hid hown;obtain ⟨M0,hmk0,hown0⟩:=qw7 w n (by omega) i0 hi hz0 hz1 hz2;have HK0:=Lib.hid hmk0;have HO0:=Lib.hid hown0;clear hn hc hsz hA ht hmk hown hi hz0 hz1 hz2 hmk0 hown0;go_enter Tryz.func79,Tryz.ntmps79;go_wp2_with fail;refine H1.out.mono ?_;rintro e x1 ⟨v1,rfl,ho,hb⟩;have HB1:=Lib.hid hb;obtain ⟨A1,c1,hv1,hN1⟩:=ho.at;rw [qr7,HN.out]at hv1;subst hv1;have HF1:=Lib.hid hN1;have hk1:=HK0.out x1;have ho1:=HO0.out x1 x1.heap.size (Nat.le_refl _);rw [←q7Z l n]at ho1;have hb1:=(Below.refl x1.heap.size x1).alloc (Nat.le_refl _) (.cells M0 3);obtain ⟨g,hg⟩: ∃g,g=x1.heap.size:=⟨_,rfl⟩;have HG:Hid (x1.heap.size≤g):=by unfold Hid;rw [hg];exact Nat.le_refl _
 rw [←hg]at hk1;rw [show (Value.slice (some ⟨x1.heap.size,0,none⟩) n n)=Value.slice (some ⟨g,0,none⟩) n n by rw [hg]]at ho1;generalize x1.alloc (.cells M0 3)=x2 at hk1 ho1 hb1;have HO1:=Lib.hid ho1;have HB2:=Lib.hid hb1;clear ho hb hN1 H1 ho1 hb1 hg HK0 HO0;go_wp2_with fail
 go_loopw [25] (fun iv wr=> ∃i:Nat,i≤n∧iv= .int .i64 i∧Hid (OwnI wr x1.heap.size (.slice (some ⟨g,0,none⟩) n n) (cntL l n i))∧Hid (Below x1.heap.size x1 wr)) (fun iv _=>n-(intOf iv).toNat)
 case atStart=>exact ⟨0,Nat.zero_le _,rfl,HO1.out,HB2.out⟩
 case round=>
  obtain ⟨i,hi,rfl,HO,HB⟩:=hrel
  by_cases hlt:i<n
  ·have i1:i<l.length:=by rw [HN.out];exact hlt
   obtain ⟨b,o,rfl,e1⟩:=ql2 (HF1.out.below HB.out) i i1;have hF:qaB l i<n:=qu4 hlt;obtain ⟨e2,f2⟩:=HO.out.cell (qeD l n i).symm (qaB l i) (by rw [qeD];exact hF);rw [qsQ]at e2;have hm:=q72 l i (qaB l i);have hs:=HO.out.set (qeD l n i).symm (qaB l i) (((cntF l i (qaB l i):Nat):Int)+1);rw [q70]at hs;have HS:=Lib.hid hs;have HBs:=Lib.hid (Below.set1 HB.out HG.out (qaB l i) (.int .i64 (((cntF l i (qaB l i):Nat):Int)+1)));have h1:(i:Int)<(n:Int):=by omega
   have h2:(0:Int)≤(i:Int):=by omega
   have HCL:=Lib.hid (qeD l n i);clear hs;generalize qaB l i=F at e1 e2 f2 hF hm HS HBs;generalize cntF l i F=m at e2 hm HS HBs;have h3:(F:Int)<(n:Int):=by omega
   have h4:(0:Int)≤(F:Int):=by omega
   go_wp2_with fail;go_roundw
   case rel=>exact ⟨i+1,by omega,by go_num,HS.out,HBs.out⟩
   case measure=>simp [intOf];omega
  ·obtain rfl:i=n:=by omega
   have hk2:=HK.out wr;have ho2:=HOR.out wr wr.heap.size (Nat.le_refl _);have hb2:=(Below.refl wr.heap.size wr).alloc (Nat.le_refl _) (.cells M 3);generalize hv2:Value.slice (some ⟨wr.heap.size,0,none⟩) 0 i=v2 at hk2 ho2;generalize wr.alloc (.cells M 3)=x5 at hk2 ho2 hb2;have HO5:=Lib.hid ho2;have HB5:=Lib.hid hb2;have HFr:=Lib.hid (HF1.out.below HB.out);clear ho2 hb2 hv2 HK HOR;go_wp2_with fail
   go_loopw [9,41] (fun ov kv wz=> ∃k:Nat,k≤i∧kv= .int .i64 k∧Hid (OwnI wz wr.heap.size ov ((List.range k).map fun j=>((qcN l j:Nat):Int)))∧Hid (Below wr.heap.size wr wz)) (fun _ kv _=>i-(intOf kv).toNat)
   case atStart=>exact ⟨0,Nat.zero_le _,rfl,HO5.out,HB5.out⟩
   case round=>
    obtain ⟨k,hk,rfl,HR,HZ⟩:=hrel;rename World=>wz
    by_cases hlt2:k<i
    ·have k1:k<l.length:=by rw [HN.out];exact hlt2
     obtain ⟨b,o,rfl,e1⟩:=ql2 (HFr.out.below HZ.out) k k1;have hF:qaB l k<i:=qu4 hlt2;obtain ⟨e2,-⟩:=HO.out.cell (qeD l i i).symm (qaB l k) (by rw [qeD];exact hF);have hgl:=World.block_lt_of_cell? wr _ e2;have e2:=(HZ.out.cell (p:=⟨g,qaB l k,none⟩) hgl).trans e2;rw [qsQ]at e2;have hm:=q72 l i (qaB l k);have hnm:cntF l i (qaB l k)=qcN l k:=by rw [←HN.out];exact q2P HP.out k
     have HX:Hid ((List.range k).map (fun j=>((qcN l j:Nat):Int))++ [((qcN l k:Nat):Int)]=(List.range (k+1)).map fun j=>((qcN l j:Nat):Int)):=(qpL _ _).symm;rw [←hnm]at HX;generalize cntF l i (qaB l k)=m at e2 hm HX;generalize qaB l k=F at e1 e2 hF;have h1:(k:Int)<(i:Int):=by omega
     have h2:(0:Int)≤(k:Int):=by omega
     have h3:(F:Int)<(i:Int):=by omega
     have h4:(0:Int)≤(F:Int):=by omega
     clear hnm hgl;go_wp2_with (at_builtin;refine Stay.go ?_);refine Stay.on ?_;refine qhW rfl (.tmp 45) (.tmp 50) rfl wr.heap.size _ _ rfl (HR.out.alloc _) wz.heap.size 1 (m:Int) rfl ((Blk.new _ 3 #[.int .i64 (m:Int)]).cell 0) (by rw [qhG];omega) (by rw [hszA];exact Nat.le_trans HZ.out.size (Nat.le_succ _)) ?_;intro v7 w7 ho7 hg7;rw [HX.out]at ho7;have HR7:=Lib.hid ho7;have HB7:Hid (Below wr.heap.size wr w7):=(HZ.out.alloc HZ.out.size _).grown hg7 (by rw [hszA];exact Nat.le_trans HZ.out.size (Nat.le_succ _)) fun g e=>(World.ownsRow.lt HR.out g e).1;clear ho7 hg7 e1 e2 HX;go_wp2_with fail;go_roundw
     case rel=>exact ⟨k+1,by omega,by go_num,HR7.out,HB7.out⟩
     case measure=>simp [intOf];omega
    ·obtain rfl:k=i:=by omega
     have hR:=HR.out;rw [←HN.out]at hR;have HV:Hid (OwnI wz w.heap.size u9 (nmL l)):=OwnI.mono hR (Nat.le_trans HB1.out.size HB.out.size);have HB9:=Lib.hid ((HB1.out.trans (HB.out.mono HB1.out.size)).trans (HZ.out.mono (Nat.le_trans HB1.out.size HB.out.size)));clear hR;go_wp2_with fail;refine bodyPost_ret (v:= .tuple #[u9,.int .i64 0]) (by simp [results,Tryz.results79,go_sem, *]) rfl ?_;exact ⟨_,rfl,HV.out,HB9.out⟩
set_option maxHeartbeats 4000000 in
theorem zbK (A:Option Addr) (n c:Nat) (l:List NodeV) (hn:l.length=n) (hc:SlOk A n c) (hsz: ∀x∈l,x.sz) (h40:n≤40) (w:World) (hA:qaJ w A l) (ht:qaO l=0):
  Calls Tryz.prog 32 #[.slice A n c] w fun e w'=> ∃v xs,e= .returned (.tuple #[v,.int .i64 0])∧xs.map (·.1)=qa8 l∧OwnN w' w.heap.size v xs∧Below w.heap.size w w':=by
 have H1:=Lib.hid (qhO A n c l hn hc hsz h40 w hA ht);have H2:=Lib.hid fun W (h:Below w.heap.size w W)=>q57 A n c l hn hc hsz h40 W (hA.below h) ht;have H3:=Lib.hid fun W (h:Below w.heap.size w W)=>qjX A n c l hn (by omega) hsz W (hA.below h);have HN:=Lib.hid hn;clear hn hc hsz hA ht;go_enter Tryz.func32,Tryz.ntmps32;go_wp2_with fail;refine H1.out.mono ?_;rintro e x1 ⟨v1,rfl,ho,hb⟩;have HB1:=Lib.hid hb;obtain ⟨A1,c1,hv1,hN1⟩:=ho.at;rw [qr7,HN.out]at hv1;subst hv1;have HF1:=Lib.hid hN1;clear ho hb hN1 H1;go_wp2_with fail;refine (H2.out _ HB1.out).mono ?_;rintro e x2 ⟨v2,rfl,ho,hb⟩;have HB2:=Lib.hid (HB1.out.trans (hb.mono HB1.out.size));have HF2:=Lib.hid (HF1.out.below hb);obtain ⟨A2,c2,hv2,hN2⟩:=ho.at;rw [q5K,HN.out]at hv2;subst hv2;have HM2:=Lib.hid hN2;clear ho hb hN2 H2 HF1 HB1;go_wp2_with fail;refine (H3.out _ HB2.out).mono ?_;rintro e x3 ⟨v3,zs,rfl,hz,ho,hb⟩;obtain ⟨A3,c3,hv3,hs3⟩:=ho.1.form;have hzl:zs.length=n:=by rw [←HN.out,←hz,List.length_map]
 rw [hzl]at hv3 hs3;subst hv3;have HO3:=Lib.hid ho;have HB3:=Lib.hid hb
 have HZ3:Hid (zs.map (·.1)=(qa8 l).take 0++l.drop 0):=by
  unfold Hid;rw [hz];rfl
 clear ho hb hz hzl hs3 H3;go_wp2_with fail
 go_loopw [29] (fun iv wr=> ∃i:Nat,i≤n∧iv= .int .i64 i∧ ∃ys:List NodP,Hid (OwnN wr x2.heap.size (.slice A3 n c3) ys)∧Hid (ys.map (·.1)=(qa8 l).take i++l.drop i)∧Hid (Below x2.heap.size x2 wr)) (fun iv _=>n-(intOf iv).toNat)
 case atStart=>exact ⟨0,Nat.zero_le _,rfl,zs,HO3.out,HZ3.out,HB3.out⟩
 case round=>
  obtain ⟨i,hi,rfl,ys,HO,HY,HB⟩:=hrel
  by_cases hlt:i<n
  ·have i1:i<l.length:=by rw [HN.out];exact hlt
   have hyl:=zc4 HN.out hi HY.out;obtain ⟨hy1,hy2⟩:=zc2 i1 HY.out (by omega);obtain ⟨g,cap,hv,hgB,hgl,hcap1,hcap2⟩:=HO.out.1.row (by omega);injection hv with hv1 hv2 hv3
   subst hv1 hv3;clear hv2;obtain ⟨e0,f0⟩:=HO.out.same_cell hyl.symm i (by omega);have HS1:=Lib.hid (HO.out.setSame hyl.symm i (by omega) 0);have HBS:=Lib.hid (Below.set1 HB.out hgB (i*12+2) (.int .i64 0));have h3:(i:Int)<(n:Int):=by omega
   have h4:(0:Int)≤(i:Int):=by omega
   obtain ⟨b1,o1,rfl,e1⟩:=ql2 (HF2.out.below HBS.out) i i1;obtain ⟨b2,o2,rfl,e2⟩:=za8 (HM2.out.below HBS.out) i i1;have hys:(ys.set i ({ys[i].1 with same:=0},ys[i].2)).length=n:=by rw [List.length_set];exact hyl
   have hE3:=HS1.out.same_cell hys.symm i (by omega);simp only [List.getElem_set_self]at hE3;obtain ⟨e3,f3⟩:=hE3;have HYL:=Lib.hid hyl;have HYS:=Lib.hid hys
   by_cases hg:1<qcN l i
   ·have HY1:Hid ((ys.set i (qeT l i l[i],ys[i].2)).map (·.1)=(qa8 l).take (i+1)++l.drop (i+1)):=hy2 _
    have HS2:Hid (OwnN ((wr.setCell ⟨g,i*12+2,none⟩ (.int .i64 0)).setCell ⟨g,i*12+2,none⟩ (.int .i64 ((qaB l i:Nat)+1))) x2.heap.size (.slice (some ⟨g,0,none⟩) n c3) (ys.set i (qeT l i l[i],ys[i].2))):=by
     have h1:=HS1.out.setSame hys.symm i (by omega) (((qaB l i:Nat):Int)+1);simp only [List.getElem_set_self,List.set_set]at h1
     have h2:qeT l i l[i]= {ys[i].1 with same:=((qaB l i:Nat):Int)+1} :=by
      unfold qeT;rw [if_pos hg,hy1]
     unfold Hid;rw [h2];exact h1
    have HB2:=Lib.hid (Below.set1 HBS.out hgB (i*12+2) (.int .i64 ((qaB l i:Nat)+1)));have hfi:qaB l i≤i:=(qbU l i).1;generalize qaB l i=f at e1 HS2 HB2 hfi;generalize qcN l i=m at e2 hg;have hm1:(1:Int)<(m:Int):=by omega
    generalize ys[i].1.same=z0 at e0;generalize ys.set i (qeT l i l[i],ys[i].2)=zs1 at HS2 HY1;clear hy1 hy2 hcap1 hcap2 hgl;go_wp2_with fail;go_roundw
    case rel=>exact ⟨i+1,by omega,by go_num,_,HS2.out,HY1.out,HB2.out⟩
    case measure=>simp [intOf];omega
   ·have HY1:Hid ((ys.set i (qeT l i l[i],ys[i].2)).map (·.1)=(qa8 l).take (i+1)++l.drop (i+1)):=hy2 _
    have HS2:Hid (OwnN (wr.setCell ⟨g,i*12+2,none⟩ (.int .i64 0)) x2.heap.size (.slice (some ⟨g,0,none⟩) n c3) (ys.set i (qeT l i l[i],ys[i].2))):=by
     have h2:qeT l i l[i]= {ys[i].1 with same:=0} :=by
      unfold qeT;rw [if_neg hg,hy1]
     unfold Hid;rw [h2];exact HS1.out
    generalize qcN l i=m at e2 hg;have hm1: ¬(1:Int)<(m:Int):=by omega
    generalize ys[i].1.same=z0 at e0;generalize ys.set i (qeT l i l[i],ys[i].2)=zs1 at HS2 HY1;clear hy1 hy2 hcap1 hcap2 hgl;go_wp2_with fail;go_roundw
    case rel=>exact ⟨i+1,by omega,by go_num,_,HS2.out,HY1.out,HBS.out⟩
    case measure=>simp [intOf];omega
  ·obtain rfl:i=n:=by omega
   have hY:=HY.out;rw [List.take_of_length_le (by rw [qbA,HN.out];exact Nat.le_refl _),List.drop_of_length_le (by rw [HN.out];exact Nat.le_refl _),List.append_nil]at hY;have HY9:=Lib.hid hY;have HO9:=Lib.hid (HO.out.mono HB2.out.size);have HB9:=Lib.hid (HB2.out.trans (HB.out.mono HB2.out.size));clear hY;go_wp2_with fail;refine bodyPost_ret (v:= .tuple #[.slice A3 i c3,.int .i64 0]) (by simp [results,Tryz.results32,go_sem, *]) rfl ?_;exact ⟨_,ys,rfl,HY9.out,HO9.out,HB9.out⟩
theorem quI (A:Option Addr) (n c:Nat) (l:List NodeV) (hn:l.length=n) (hc:SlOk A n c) (hsz: ∀x∈l,x.sz) (w:World) (hA:qaJ w A l):
  Calls Tryz.prog 32 #[.slice A n c] w fun e w'=> ∃v xs,e= .returned (.tuple #[v,.int .i64 (qaO l)])∧xs.map (·.1)=(if qaO l=0 then qa8 l else [])∧OwnN w' w.heap.size v xs∧Below w.heap.size w w':=by
 by_cases ht:qaO l=0
 ·rw [if_pos ht,ht];have h40:=(qmF ht);exact zbK A n c l hn hc hsz (by omega) w hA ht
 ·rw [if_neg ht];have H1:=Lib.hid (qxA A n c l hn hc hsz w hA);rw [if_neg ht]at H1;obtain ⟨E,HEE⟩:=qaA (qaO l);rw [HEE.out]at H1 ht⊢;have hne:(E==0)=false:=by simpa using ht
  clear hn hc hsz hA ht;go_enter Tryz.func32,Tryz.ntmps32;go_wp2_with fail;refine H1.out.mono ?_;rintro e x1 ⟨v,rfl,ho,hb⟩;have HB1:=Lib.hid hb;clear ho hb;go_wp2_with fail;refine bodyPost_ret (v:= .tuple #[.slice none 0 0,.int .i64 E]) (by simp [results,Tryz.results32,go_sem, *]) rfl ?_;exact ⟨_, [],rfl,rfl,OwnN.nil _ _,HB1.out⟩
end Go.Proofs.YtapgoifimhnbdaaGreatDoor
