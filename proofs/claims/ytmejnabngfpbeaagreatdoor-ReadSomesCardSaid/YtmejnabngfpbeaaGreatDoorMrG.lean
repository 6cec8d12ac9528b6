/- The reference's MemberOf; the law MemberReads. -/
import Derived.Test.YtmejnabngfpbeaaGreatDoorMra
import Derived.Test.YtmejnabngfpbeaaGreatDoorMrF
import Derived.Test.YtmejnabngfpbeaaGreatDoorMyg
import Derived.Test.YtmejnabngfpbeaaGreatDoorEne
import Derived.Test.YtmejnabngfpbeaaGreatDoorStp
set_option linter.unusedVariables false
set_option maxRecDepth 100000
namespace Go.Proofs.YtmejnabngfpbeaaGreatDoor
open Go.RowKit
open Go.OpenShut
theorem rMOf_own (A : Option Addr) (n c : Nat) (l : List UInt8) (hn : l.length = n) (hn2 : n ≤ 140737488351232) (hc : SlOk A n c) (w : World) (S : Std w) (hA : BytsAt w A l) :
  Calls Tryz.prog 31 #[.slice A n c] w fun e w' => ∃ D cc, e = .returned (.tuple #[.agg (entC (readM l).1.1 D cc).toArray, .int .i64 ((readM l).1.2 : Nat), .int .i64 (readM l).2]) ∧ SlOk D (readM l).1.1.data.length cc ∧ BytsAt w' D (readM l).1.1.data ∧ OwnB w' w.heap.size (.slice D (readM l).1.1.data.length cc) (readM l).1.1.data ∧ Below w.heap.size w w' := by
 by_cases h1 : (firstM l).2 = 0
 ·by_cases hp : (partsM l).2 = 0
  ·exact rMOf_4 A n c l hn hn2 hc w S hA h1 hp
  ·by_cases h2 : (firstM l).1.1.typ = 120
   ·by_cases h3 : (paxR (firstM l).1.2.1).2 = 0
    ·by_cases h4 : (firstM (l.drop (firstM l).1.2.2)).2 = 0
     ·exact absurd (by rw [parts_two h1 h2 h3 h4]) hp
     ·exact rMOf_3 A n c l hn hn2 hc w S hA h1 h2 h3 h4
    ·exact rMOf_2 A n c l hn hn2 hc w S hA h1 h2 h3
   ·exact absurd (by rw [parts_one h1 h2]) hp
 ·exact rMOf_1 A n c l hn hn2 hc w S hA h1
end Go.Proofs.YtmejnabngfpbeaaGreatDoor
