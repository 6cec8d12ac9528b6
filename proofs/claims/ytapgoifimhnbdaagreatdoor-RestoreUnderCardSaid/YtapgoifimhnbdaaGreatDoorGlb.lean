/- qaX of one kind, in one file: GlbA, GlbF, GlbB, GlbC, GlbD, GlbE. -/
import Derived.Test.YtapgoifimhnbdaaGreatDoorMth
import Derived.Test.YtapgoifimhnbdaaGreatDoorBas
import Derived.Deep.DeepCutAuto
import Derived.Test.YtapgoifimhnbdaaGreatDoorPts
import Derived.Shelf.SlicesQ.Load
import Derived.Lib.SliceRun
import Derived.Deep.Upon
import Derived.Deep.MidRow
import Derived.Great.BuildSlice
import Derived.BigQuiet
import Derived.Deep.RegionWith
set_option linter.unusedVariables false
set_option maxRecDepth 100000
namespace Go.Proofs.YtapgoifimhnbdaaGreatDoor
open Go.RowKit
open Go.OpenShut
def rowR (R:Nat→Nat→Bool) (i m:Nat):List Bool:=(List.range (m+1)).map (R i)
def nextR (R:Nat→Nat→Bool) (i m k:Nat):List Bool:=(List.range (k+1)).map (R (i+1))++List.replicate (m-k) false
def bA (l:List Bool):Array Value:=(l.map Value.bool).toArray
end Go.Proofs.YtapgoifimhnbdaaGreatDoor
namespace Go.Proofs.YtapgoifimhnbdaaGreatDoor
open Go.RowKit
def bitsC (f:UInt8→Bool):List Value:=(List.range 256).map fun c=> .bool (f (UInt8.ofNat c))
def notS (l:List UInt8):Bool:=decide (l.head?=some 33)
def fitsE (p s:List UInt8):Int:=if qr5 p=0 then qa6 s else qr5 p
def qlQ (p s:List UInt8):Bool:=decide (fitsE p s=0) &&globF p s
end Go.Proofs.YtapgoifimhnbdaaGreatDoor
namespace Go.Proofs.YtapgoifimhnbdaaGreatDoor
open Go.RowKit
open Go.OpenShut
end Go.Proofs.YtapgoifimhnbdaaGreatDoor
