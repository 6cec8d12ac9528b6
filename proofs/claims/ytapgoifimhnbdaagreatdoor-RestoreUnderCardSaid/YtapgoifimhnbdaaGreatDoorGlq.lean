/- qaX of one kind, in one file: GlqM. -/
import Derived.Test.YtapgoifimhnbdaaGreatDoorGlb
import Derived.Test.YtapgoifimhnbdaaGreatDoorMth
set_option linter.unusedVariables false
namespace Go.Proofs.YtapgoifimhnbdaaGreatDoor
open Go.RowKit
def setM (acc:UInt8→Bool):List UInt8→(UInt8→Bool)
 | []=>acc
 | [c]=>fun x=>acc x||span c c x
 | [c,d]=>setM (fun x=>acc x||span c c x) [d]
 |c::d::h::r=>if d=45 then setM (fun x=>acc x||span c h x) r else setM (fun x=>acc x||span c c x) (d::h::r)
termination_by l=>l.length
def behL (s:List UInt8):Nat:=min ((if notS (s.drop 1)then 2 else 1)+1) s.length
def szL (s:List UInt8):Nat:=if hasB 93 (s.drop (behL s))then behL s+pos 93 (s.drop (behL s))+1 else 0
def innL (q:List UInt8):List UInt8:=(q.take (q.length-1)).drop 1
def setT (i:List UInt8):UInt8→Bool:=fun x=>notS i !=setM (fun _=>false) (if notS i then i.drop 1 else i) x
def q42 (l:List UInt8):Nat:=if l.head?=some 91 then szL l else 1
def zdU:Nat→List UInt8→Option (List (List UInt8))
 |0,_=>some []
 |n+1,l=>if l= []then some []else if q42 l=0 then none else (zdU n (l.drop (q42 l))).map fun ps=>l.take (q42 l)::ps
def pieceT (q:List UInt8):Tok:=if 1<q.length then (false,setT (innL q))else if q.head?=some 42 then (true,span 42 42)else if q.head?=some 63 then (false,fun _=>true)else (false,span (q.headD 0) (q.headD 0))
def pieceF (l:List UInt8):Option (List (List UInt8)):=zdU l.length l
end Go.Proofs.YtapgoifimhnbdaaGreatDoor
