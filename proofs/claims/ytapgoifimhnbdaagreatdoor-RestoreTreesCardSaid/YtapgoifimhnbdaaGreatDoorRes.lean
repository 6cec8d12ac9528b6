/- qaV of one kind, in one file: EntN, ResM, ResS, ResA. -/
import Derived.Test.YtapgoifimhnbdaaGreatDoorEnf
import Derived.Test.YtapgoifimhnbdaaGreatDoorMth
import Derived.Test.YtapgoifimhnbdaaGreatDoorRea
import Derived.Test.YtapgoifimhnbdaaGreatDoorReb
set_option linter.unusedVariables false
namespace Go.Proofs.YtapgoifimhnbdaaGreatDoor
open Go.RowKit
def RisesE (l:List EntV):Prop:= ∀i j (hi:i<l.length) (hj:j<l.length),i<j→pcmp l[i].path l[j].path= -1
def isL (t:List NodeV) (i:Nat):Prop:= ∃hi:i<t.length,0<t[i].same∧qw9 t i<i
noncomputable def qcY (b:List UInt8):List NodeV×Int:=if (arcR b).2=0 then (qeG (arcR b).1,0)else ([],(arcR b).2)
theorem qiS {b:List UInt8} (h:(arcR b).2=0):qcY b=(qeG (arcR b).1,0):=if_pos h
theorem qlH {b:List UInt8} (h:(arcR b).2≠0):qcY b=([],(arcR b).2):=if_neg h
def hitP (s p:List UInt8):Bool:=decide (p=s)||inB p s||inB s p
def qgN (t:List NodeV) (s:List UInt8):List NodeV:=t.filter fun x=>hitP s x.path
noncomputable def qp1 (b s:List UInt8):List NodeV×Int:=
 if (qcY b).2≠0 then ([],(qcY b).2)else if qb7 (qcY b).1 s=(qcY b).1.length then ([],5)else (qgN (qcY b).1 s,0)
theorem q23 (l:List EntV): ∀x∈qeG l,0≤x.same∧(x.same≠0→x.kind=1):=fun x hx=>by
 obtain ⟨i,hi,rfl⟩:=List.getElem_of_mem hx;rw [qbT]at hi;rw [qeQ l i hi];unfold qdS
 by_cases hk:l[i].kind=4
 ·rw [if_pos hk];exact ⟨by show (0:Int)≤((qaQ l l[i].target:Nat):Int)+1;omega,fun _=>rfl⟩
 ·rw [if_neg hk]
  by_cases hc:l[i].kind=1∧(l.any fun y=>decide (y.kind=4) &&decide (y.target=l[i].path))=true
  ·rw [if_pos hc];exact ⟨by show (0:Int)≤(i:Int)+1;omega,fun _=>hc.1⟩
  ·rw [if_neg hc];exact ⟨Int.le_refl _,fun h=>absurd rfl h⟩
theorem q24 {l:List EntV} {x:NodeV} (hx:x∈qeG l): ∃y∈l,x.path=y.path:=by
 obtain ⟨i,hi,rfl⟩:=List.getElem_of_mem hx;rw [qbT]at hi;rw [qeQ l i hi];exact ⟨l[i],List.getElem_mem hi,by unfold qdS;split<;>rfl⟩
def shN (dir:List UInt8) (x:NodeV):NodeV:= {x with path:=dir++47::x.path,same:=if 0<x.same then x.same+1000 else x.same}
def gapU (out:List NodeV) (n:NodeV):Bool:=match out[qb7 out n.path]? with
 |some y=> !(decide (y.kind=2) &&decide (n.kind=2))
 |none=>false
def stepU (out:List NodeV) (n:NodeV):List NodeV×Int:=putT (if gapU out n=true then (remT out n.path).1 else out) n
def undL (dir:List UInt8) (out:List NodeV):List NodeV→List NodeV×Int
 | []=>(out,0)
 |x::l=>if (stepU out (shN dir x)).2≠0 then ([],(stepU out (shN dir x)).2)else undL dir (stepU out (shN dir x)).1 l
noncomputable def undR (t:List NodeV) (dir b:List UInt8):List NodeV×Int:=
 if qrS t≠0 then ([],qrS t)
 else if qb7 t dir=t.length then ([],5)
 else if ((t[qb7 t dir]?).map NodeV.kind).getD 0≠2 then ([],10)
 else if (qcY b).2≠0 then ([],(qcY b).2)
 else if (undL dir (q69 t) (qcY b).1).2≠0 then ([],(undL dir (q69 t) (qcY b).1).2)
 else (q69 (undL dir (q69 t) (qcY b).1).1,0)
end Go.Proofs.YtapgoifimhnbdaaGreatDoor
set_option maxRecDepth 100000
namespace Go.Proofs.YtapgoifimhnbdaaGreatDoor
open Go.RowKit
open Go.OpenShut
theorem qlG {b:List UInt8} :(qcY b).1.length≤40:=by
 by_cases h:(arcR b).2=0
 ·rw [qiS h];show (qeG (arcR b).1).length≤40;rw [qbT];exact qq8 (qhH h).1
 ·rw [qlH h];exact Nat.zero_le _
theorem q0Y {b:List UInt8} : ∀x∈(qcY b).1,x.sz∧x.path.length≤400∧0≤x.same∧x.same≤1000:=fun x hx=>by
 by_cases h:(arcR b).2=0
 ·rw [qiS h]at hx;have hg:=qnF (qhH h).1;obtain ⟨y,hy,e⟩:=q24 hx;have h40:=qq8 (qhH h).1;have hs:=(q23 _ x hx).1;refine ⟨?_,by rw [e];exact (qbU (hg y hy)).path.2.1,hs,?_⟩
  ·obtain ⟨i,hi,rfl⟩:=List.getElem_of_mem hx;rw [qbT]at hi;rw [qeQ _ i hi];exact EntV.sz.grow (fun z hz=>qsC (hg z hz)) hi
  ·obtain ⟨i,hi,rfl⟩:=List.getElem_of_mem hx;rw [qbT]at hi;rw [qeQ _ i hi];generalize (arcR b).1=p at*;have hf:=qf5 p p[i].target;unfold qdS
   by_cases hk:p[i].kind=4
   ·rw [if_pos hk];show ((qaQ p p[i].target:Nat):Int)+1≤1000;omega
   ·rw [if_neg hk]
    by_cases hc:p[i].kind=1∧(p.any fun y=>decide (y.kind=4) &&decide (y.target=p[i].path))=true
    ·rw [if_pos hc];show (i:Int)+1≤1000;omega
    ·rw [if_neg hc];show (0:Int)≤1000;omega
 ·rw [qlH h]at hx;cases hx
theorem qr6 (t:List NodeV) (s:List UInt8):(qgN t s).length≤t.length:=List.length_filter_le _ _
set_option maxHeartbeats 2000000 in
theorem qsI (A:Option Addr) (n c:Nat) (l:List UInt8) (hn:l.length=n) (hn2:n≤140737488351232) (hc:SlOk A n c) (w:World) (S:Std w) (hA:qaE w A l):
  Calls Tryz.prog 10 #[.slice A n c] w fun e w'=> ∃v xs,e= .returned (.tuple #[v,.int .i64 (qcY l).2])∧xs.map (·.1)=(qcY l).1∧OwnN w' w.heap.size v xs∧Below w.heap.size w w':=by
 have H1:=Lib.hid (qyI A n c l hn hn2 hc w S hA);clear hn hn2 hc S hA
 by_cases h:(arcR l).2=0
 ·rw [qiS h];have hE:=(qhH h).1;rw [h]at H1;have hz: ∀x∈(arcR l).1,x.sz:=fun x hx=>qsC (qnF hE x hx);have hg:qs9 (arcR l).1=qeG (arcR l).1:=if_pos hE;generalize (arcR l).1=p at*;clear h;go_enter Tryz.func10,Tryz.ntmps10;go_wp2_with fail;refine H1.out.mono ?_;rintro e x1 ⟨v,xs,rfl,hm,ho,hb⟩;obtain ⟨A1,c1,rfl,hs,hN⟩:=ho.at;rw [hm]at hN;have hl:p.length=xs.length:=by rw [←hm,List.length_map]
  have H2:=Lib.hid (q1H A1 xs.length c1 p hl hs hz x1 hN);rw [hE,hg]at H2;have HB1:=Lib.hid hb;clear hm ho hb hs hN hl hz hE hg H1;obtain ⟨m,HM⟩:=qaA xs.length;rw [HM.out]at H2⊢;go_wp2_with fail;refine H2.out.mono ?_;rintro e x2 ⟨v2,ys,rfl,hm,ho,hb⟩;have HO2:=Lib.hid (ho.mono HB1.out.size);have HB2:=Lib.hid (HB1.out.trans (hb.mono HB1.out.size));have HM2:=Lib.hid hm;clear hm ho hb H2;go_wp2_with fail;go_ret2;exact ⟨_,ys,rfl,HM2.out,HO2.out,HB2.out⟩
 ·rw [qlH h];obtain ⟨E,HE⟩:=qaA (arcR l).2;rw [HE.out]at H1 h⊢;have hne:(E !=0)=true:=by simpa using h
  clear h;go_enter Tryz.func10,Tryz.ntmps10;go_wp2_with fail;refine H1.out.mono ?_;rintro e x1 ⟨v,xs,rfl,hm,ho,hb⟩;obtain ⟨A1,c1,rfl,-,-⟩:=ho.at;have HB1:=Lib.hid hb;clear hm ho hb H1;obtain ⟨m,HM⟩:=qaA xs.length;rw [HM.out];go_wp2_with fail;go_ret2;exact ⟨_, [],rfl,rfl,OwnN.nil _ _,HB1.out⟩
end Go.Proofs.YtapgoifimhnbdaaGreatDoor
