/- qaV of one kind, in one file: ArcM. -/
import Derived.Test.YtapgoifimhnbdaaGreatDoorMer
set_option linter.unusedVariables false
namespace Go.Proofs.YtapgoifimhnbdaaGreatDoor
open Go.RowKit
theorem qq8 {l:List EntV} (h:qbE l=0):l.length≤40:=by
 unfold qbE at h
 by_cases c:40<l.length
 ·rw [if_pos c]at h;exact absurd h (by decide)
 ·omega
theorem q3P {l:List EntV} (h:qbE l=0):qbQ [] l=0:=by
 have c:=qq8 h;unfold qbE at h
 rwa [if_neg (by omega)]at h
theorem ents_at {l:List EntV} (h:qbE l=0) (k:Nat) (hk:k<l.length):eatE (l.take k) l[k]=0:=by
 have h1:=(qhT l []).1 (q3P h) k hk
 rwa [List.nil_append]at h1
theorem qnF {l:List EntV} (h:qbE l=0): ∀x∈l,entE x=0:=fun x hx=>by
 obtain ⟨k,hk,rfl⟩:=List.mem_iff_getElem.1 hx;exact ((qfC _ _).1 (ents_at h k hk)).1
theorem qpL {x:EntV} (h:entE x=0):512≤(qa5 x).length∧(qa5 x).length≤20000∧(qa5 x).length%512=0:=by
 have h1:=qpM h;have h2:=qiT h;have h3:=qdE x.data.length;have h4:=qdE (qbC (qaN x)).length;have h5:=(qbU h).data;rw [h1]
 split<;>omega
def arcB (l:List EntV):List UInt8:=l.flatMap qa5
theorem q68 (l m:List EntV):arcB (l++m)=arcB l++arcB m:=List.flatMap_append
theorem q67 (x:EntV):arcB [x]=qa5 x:=by unfold arcB;rw [List.flatMap_cons,List.flatMap_nil,List.append_nil]
theorem qt0 (x:EntV) (l:List EntV):arcB (x::l)=qa5 x++arcB l:=List.flatMap_cons
theorem qxL: ∀(l:List EntV),(∀x∈l,entE x=0)→512*l.length≤(arcB l).length∧(arcB l).length≤20000*l.length∧(arcB l).length%512=0
 | [],_=>⟨Nat.le_refl _,Nat.le_refl _,rfl⟩
 |x::l,h=>by
  have h1:=qxL l fun y hy=>h y (List.mem_cons_of_mem _ hy);have h2:=qpL (h x List.mem_cons_self);rw [qt0,List.length_append,List.length_cons];omega
def arcE (l:List EntV):List UInt8:=if qbE l=0 then arcB l++List.replicate 1024 0 else []
theorem arcE_ok {l:List EntV} (h:qbE l=0):arcE l=arcB l++List.replicate 1024 0:=if_pos h
def plcN (l:List EntV) (k:Nat):List Int:=(List.range k).map fun i=>((arcB (l.take i)).length:Int)
def plcA (l:List EntV):List Int:=if qbE l=0 then plcN l (l.length+1)else []
end Go.Proofs.YtapgoifimhnbdaaGreatDoor
