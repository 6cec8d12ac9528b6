/- qaX of one kind, in one file: Rul, FltA, FltB, FltU, FltT. -/
import Derived.Test.YtapgoifimhnbdaaGreatDoorPts
import Derived.Test.YtapgoifimhnbdaaGreatDoorBas
import Derived.Test.YtapgoifimhnbdaaGreatDoorMth
import Derived.Deep.RegionLaw
import Derived.Test.YtapgoifimhnbdaaGreatDoorGlb
import Derived.Test.YtapgoifimhnbdaaGreatDoorNod
import Derived.Test.YtapgoifimhnbdaaGreatDoorTra
set_option linter.unusedVariables false
set_option maxRecDepth 100000
namespace Go.Proofs.YtapgoifimhnbdaaGreatDoor
open Go.RowKit
open Go.OpenShut
open Go.ChangeShapes Go.WideShapes Go.Deep
abbrev qb1:Type:=Bool×List UInt8
def ruleC (q:qb1):List Value:= [.bool q.1,strV q.2]
def rulesC (qs:List qb1):List Value:=qs.flatMap ruleC
def Rls (w:World) (B:Nat) (v:Value) (qs:List qb1):Prop:=w.ownsRow B 174 2 v qs.length (rulesC qs)
def qdV (w:World) (A:Option Addr) (l:List qb1):Prop:=
 ∀(j:Nat) (h:j<l.length),∃b o,A=some ⟨b,o,none⟩∧w.cell? ⟨b,o+j*2,none⟩=some (.bool l[j].1)∧w.cell? ⟨b,o+j*2+1,none⟩=some (strV l[j].2)
theorem qdV.below {w w':World} {A:Option Addr} {l:List qb1} (h:qdV w A l) (hb:Below w.heap.size w w'):qdV w' A l:=fun j hj=>by
 obtain ⟨b,o,e,h0,h1⟩:=h j hj;have hlt:b<w.heap.size:=World.block_lt_of_cell? w _ h0;exact ⟨b,o,e,(hb.cell (p:=⟨b,o+j*2,none⟩) hlt).trans h0,(hb.cell (p:=⟨b,o+j*2+1,none⟩) hlt).trans h1⟩
section
variable {H:Type} {enc:TypeId×Value→H} {w:World} {base:Nat} {spare:Nat→Bool} {held:Bool}
end
end Go.Proofs.YtapgoifimhnbdaaGreatDoor
namespace Go.Proofs.YtapgoifimhnbdaaGreatDoor
open Go.RowKit
open Go.OpenShut
def qk8:List qb1→Int
 | []=>0
 |r::l=>if qr5 r.2=0 then qk8 l else qr5 r.2
def qh0 (l:List qb1):Int:=if 12<l.length then 1 else qk8 l
def qk3 (is:Bool):List qb1→List UInt8→Bool
 | [],_=>is
 |r::l,s=>qk3 (if qlQ r.2 s=true then r.1 else is) l s
def qeK (l:List qb1) (s:List UInt8):Bool:=qk3 true l s
def takeE (l:List qb1) (s:List UInt8):Int:=if qh0 l=0 then qa6 s else qh0 l
def takeB (l:List qb1) (s:List UInt8):Bool:=decide (takeE l s=0) &&qeK l s
theorem qwG (r:qb1) (l:List qb1):qk8 (r::l)=if qr5 r.2=0 then qk8 l else qr5 r.2:=rfl
theorem qfQ (is:Bool) (r:qb1) (l:List qb1) (s:List UInt8):qk3 is (r::l) s=qk3 (if qlQ r.2 s=true then r.1 else is) l s:=rfl
def okR (qs:List qb1):Prop:= ∀q∈qs,q.2.length≤140737488351232
theorem qpG {w:World} {A:Option Addr} {qs:List qb1} (h:qdV w A qs) {k:Nat} (hk:k<qs.length) {r:qb1} (hr:qs[k]=r) {P:ByteArray} (hP:(⟨r.2.toArray⟩:ByteArray)=P):
  ∃b o,A=some ⟨b,o,none⟩∧w.cell? ⟨b,o+k*2,none⟩=some (.bool r.1)∧w.cell? ⟨b,o+k*2+1,none⟩=some (.string P):=by
 obtain ⟨b,o,e,h0,h1⟩:=h k hk;rw [hr]at h0 h1;unfold strV at h1;rw [hP]at h1;exact ⟨b,o,e,h0,h1⟩
theorem qv4 {s:List UInt8} (h:s≠ []):(upL s).length<s.length:=by
 by_cases hu:upL s= []
 ·rw [hu];exact List.length_pos_iff.2 h
 ·have:=qqV hu;have h2:=congrArg List.length this;rw [List.length_append,List.length_cons]at h2;omega
def upsF (qs:List qb1):Nat→List UInt8→Bool
 |0,_=>true
 |k+1,s=>if s= []then true else qeK qs s&&upsF qs k (upL s)
def allF (qs:List qb1) (s:List UInt8):Bool:=upsF qs s.length s
theorem q3A (qs:List qb1): ∀(k:Nat) (s:List UInt8),s.length≤k→upsF qs k s=allF qs s:=by
 intro k
 induction k using Nat.strongRecOn with
 |_ k ih=>
  intro s hs
  by_cases h:s= []
  ·subst h;cases k with
   |zero=>rfl
   |succ k=>show (if ([]:List UInt8)= []then true else _)=true;rw [if_pos rfl]
  ·have hu:=qv4 h;have hpos:=List.length_pos_iff.2 h;cases k with
   |zero=>omega
   |succ k=>
    obtain ⟨m,hm⟩: ∃m,s.length=m+1:=⟨s.length-1,by omega⟩;unfold allF;rw [hm];show (if s= []then true else qeK qs s&&upsF qs k (upL s))=(if s= []then true else qeK qs s&&upsF qs m (upL s));rw [if_neg h,if_neg h,ih k (by omega) _ (by omega),ih m (by omega) _ (by omega)]
theorem qsX (qs:List qb1):allF qs []=true:=rfl
theorem qoN (qs:List qb1) {s:List UInt8} (h:s≠ []):allF qs s=(qeK qs s&&allF qs (upL s)):=by
 have hu:=qv4 h;obtain ⟨m,hm⟩: ∃m,s.length=m+1:=⟨s.length-1,by have:=List.length_pos_iff.2 h;omega⟩
 conv=>lhs;unfold allF
 rw [hm];show (if s= []then true else qeK qs s&&upsF qs m (upL s))=_;rw [if_neg h,q3A qs m _ (by omega)]
def runE (l:List NodeV) (qs:List qb1):Int:=if qaO l=0 then qh0 qs else qaO l
def runL (l:List NodeV) (qs:List qb1):List NodeV:=if runE l qs=0 then l.filter fun x=>allF qs x.path else []
theorem qnB {x:NodeV} (h:nodE x=0):qa6 x.path=0:=by
 apply Classical.byContradiction;intro hc;unfold nodE at h
 first|(rw [if_neg hc]at h;exact hc h)|(rw [if_pos hc]at h;exact hc h)|(split at h;exact hc h;exact hc ‹_›)
theorem qxO {α:Type} (f:α→Bool) (l:List α) (k:Nat) (h:k<l.length):(l.take (k+1)).filter f=(l.take k).filter f++if f l[k]=true then [l[k]]else []:=by
 rw [List.take_succ_eq_append_getElem h,List.filter_append]
 congr 1
 by_cases hf:f l[k]=true
 ·rw [if_pos hf];simp [hf]
 ·rw [if_neg hf];simp [hf]
theorem q0I {l:List NodeV} (h:qaO l=0):l.length≤40∧ ∀x∈l,nodE x=0∧x.path.length≤400:=by
 obtain ⟨h1,-,h2,-,-⟩:=(qaT l).1 h;refine ⟨h1,fun x hx=>⟨h2 x hx,?_⟩⟩;have h3:=h2 x hx;apply Classical.byContradiction;intro hc;have h4:qa6 x.path=1:=qhK (.inr (by omega));unfold nodE at h3
 first
  |(rw [if_pos (by rw [h4];decide)]at h3;rw [h4]at h3;cases h3)
  |(rw [h4]at h3;simp at h3)
theorem kept_up {l:List NodeV} (hs:Sound l) (qs:List qb1) (k:Nat) (hk:k<l.length) (hne:upL l[k].path≠ []) (m:Nat) (hm:((l.take k).filter fun x=>allF qs x.path).length=m):
  decide (qaR ((l.take k).filter fun x=>allF qs x.path) (upL l[k].path)<m)=allF qs (upL l[k].path):=by
 subst hm;have hall: ∀x∈((l.take k).filter fun x=>allF qs x.path),allF qs x.path=true:=fun x hx=>(List.mem_filter.1 hx).2;have hmem: ∀x∈l.take k,allF qs x.path=true→x∈((l.take k).filter fun x=>allF qs x.path):=fun x hx h=>List.mem_filter.2 ⟨hx,h⟩;generalize ((l.take k).filter fun x=>allF qs x.path)=T at hall hmem⊢
 by_cases hf:qaR T (upL l[k].path)<T.length
 ·rw [decide_eq_true hf];have h1:=qf6 _ _ hf;have h4:=hall _ (List.getElem_mem hf);rw [h1]at h4;exact h4.symm
 ·rw [decide_eq_false hf];have hE:qaR T (upL l[k].path)=T.length:=by have:=qeB T (upL l[k].path);omega
  have hno:=qhQ.1 hE;cases ha:allF qs (upL l[k].path)with
  |false=>rfl
  |true=>
   exfalso;rcases hs.up _ (List.getElem_mem hk)with h|⟨d,hd,hp,-⟩
   ·exact hne h
   ·have hd2:=qfT hs.rises k hk d hd (by rw [hp];exact qiS hne);exact hno d (hmem d hd2 (by rw [hp];exact ha)) hp
def qhZ {α:Type} (f:Nat→α) (n k:Nat):List α:=(List.range (n-k)).map fun t=>f (n-1-t)
theorem q2I {α:Type} (f:Nat→α) (n:Nat):qhZ f n n= []:=by simp [qhZ]
theorem qkT {α:Type} (f:Nat→α) {n k:Nat} (h:k<n):qhZ f n k=qhZ f n (k+1)++ [f k]:=by
 unfold qhZ;rw [show n-k=(n-(k+1))+1 by omega,List.range_succ,List.map_append,List.map_singleton,show n-1-(n-(k+1))=k by omega]
theorem q7P {α:Type} (f:Nat→α) (n k:Nat):(qhZ f n k).length=n-k:=by simp [qhZ]
theorem qvB {α:Type} {f:Nat→α} {n k:Nat} {x:α} :x∈qhZ f n k↔ ∃j,k≤j∧j<n∧x=f j:=by
 unfold qhZ;rw [List.mem_map];constructor
 ·rintro ⟨t,ht,rfl⟩;rw [List.mem_range]at ht;exact ⟨n-1-t,by omega,by omega,rfl⟩
 ·rintro ⟨j,h1,h2,rfl⟩;exact ⟨n-1-j,List.mem_range.2 (by omega),by rw [show n-1-(n-1-j)=j by omega]⟩
theorem qz8 (is:Bool) (a b:List qb1) (s:List UInt8):qk3 is (a++b) s=qk3 (qk3 is a s) b s:=by
 induction a generalizing is with
 |nil=>rfl
 |cons r a ih=>rw [List.cons_append,qfQ,ih,qfQ]
theorem qtA (is:Bool) (l:List qb1) (s:List UInt8) (h: ∀r∈l,qlQ r.2 s=false):qk3 is l s=is:=by
 induction l with
 |nil=>rfl
 |cons r l ih=>
  rw [qfQ,if_neg (by rw [h r List.mem_cons_self];decide)];exact ih fun x hx=>h x (List.mem_cons_of_mem _ hx)
theorem qv8 {qs:List qb1} {s:List UInt8} (h: ∀r∈qs,qlQ r.2 s=false):qeK qs s=true:=qtA true qs s h
theorem qv9 {qs:List qb1} {s:List UInt8} (k:Nat) (hk:k<qs.length) (hf:qlQ qs[k].2 s=true) (h: ∀j (hj:j<qs.length),k<j→qlQ qs[j].2 s=false):qeK qs s=qs[k].1:=by
 have he:qs=qs.take k++qs[k]::qs.drop (k+1):=by rw [←List.drop_eq_getElem_cons hk,List.take_append_drop]
 unfold qeK
 conv=>lhs;rw [he]
 rw [qz8,qfQ,if_pos hf];refine qtA _ _ _ fun r hr=> ?_;obtain ⟨j,hj,rfl⟩:=List.mem_iff_getElem.1 hr;rw [List.getElem_drop];exact h _ _ (by omega)
end Go.Proofs.YtapgoifimhnbdaaGreatDoor
