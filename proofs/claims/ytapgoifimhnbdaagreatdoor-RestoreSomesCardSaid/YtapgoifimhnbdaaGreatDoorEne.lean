/- qaV of one kind, in one file: NodE, EntE. -/
import Derived.Test.YtapgoifimhnbdaaGreatDoorEnc
import Derived.Laws.StructEq
set_option linter.unusedVariables false
set_option maxRecDepth 100000
namespace Go.Proofs.YtapgoifimhnbdaaGreatDoor
open Go.RowKit
open Go.OpenShut
def metB (a b:MetaV):Bool:=decide (a=b)
theorem q2A (a b:MetaV):metB a b=((a.mode==b.mode) &&((a.uid==b.uid) &&((a.gid==b.gid) &&(((bs a.user).toList==(bs b.user).toList) &&(((bs a.group).toList==(bs b.group).toList) &&((a.second==b.second) &&(a.nano==b.nano))))))):=by
 unfold metB;rw [qn3,qn3,Bool.eq_iff_iff,decide_eq_true_eq,←MetaV.ext_iff'];simp only [Bool.and_eq_true,beq_iff_eq,decide_eq_true_eq]
theorem q57 (a b:MetaV): ∀W:World,(binOp .eql 47 (.agg (metA a)) (.agg (metA b))).run Tryz.prog W= .ok (.bool (metB a b)) W:=by
 intro W;rw [q2A];obtain ⟨a0,a1,a2,a3,a4,a5,a6⟩:=a;obtain ⟨b0,b1,b2,b3,b4,b5,b6⟩:=b;unfold metA;simp only
 go_simp
 generalize (bs a3).toList=u3;generalize (bs b3).toList=v3;generalize (bs a4).toList=u4;generalize (bs b4).toList=v4
 by_cases h0:a0=b0
 ·by_cases h1:a1=b1
  ·by_cases h2:a2=b2
   ·by_cases h3:u3=v3
    ·by_cases h4:u4=v4
     ·by_cases h5:a5=b5
      ·by_cases h6:a6=b6
       ·simp [h0,h1,h2,h3,h4,h5,h6]
       ·simp [h0,h1,h2,h3,h4,h5,h6]
      ·simp [h0,h1,h2,h3,h4,h5]
     ·simp [h0,h1,h2,h3,h4]
    ·simp [h0,h1,h2,h3]
   ·simp [h0,h1,h2]
  ·simp [h0,h1]
 ·simp [h0]
theorem qwU (a b:MetaV): ∀W:World,(binOp .neq 47 (.agg (metA a)) (.agg (metA b))).run Tryz.prog W= .ok (.bool (!metB a b)) W:=by
 intro W;rw [q2A];obtain ⟨a0,a1,a2,a3,a4,a5,a6⟩:=a;obtain ⟨b0,b1,b2,b3,b4,b5,b6⟩:=b;unfold metA;simp only
 go_simp
 generalize (bs a3).toList=u3;generalize (bs b3).toList=v3;generalize (bs a4).toList=u4;generalize (bs b4).toList=v4
 by_cases h0:a0=b0
 ·by_cases h1:a1=b1
  ·by_cases h2:a2=b2
   ·by_cases h3:u3=v3
    ·by_cases h4:u4=v4
     ·by_cases h5:a5=b5
      ·by_cases h6:a6=b6
       ·simp [h0,h1,h2,h3,h4,h5,h6]
       ·simp [h0,h1,h2,h3,h4,h5,h6]
      ·simp [h0,h1,h2,h3,h4,h5]
     ·simp [h0,h1,h2,h3,h4]
    ·simp [h0,h1,h2,h3]
   ·simp [h0,h1,h2]
  ·simp [h0,h1]
 ·simp [h0]
set_option maxHeartbeats 4000000 in
theorem qr8 (x y:NodeV) (D E:Option Addr) (c d:Nat) (w:World) (hD:qaE w D x.data) (hE:qaE w E y.data):Calls Tryz.prog 31 #[.agg (nodC x D c).toArray,.agg (nodC y E d).toArray] w fun e w'=>e= .returned (.bool (decide (x=y)))∧Below w.heap.size w w':=by
 have hq:=q57 x.md y.md;have HS:=Lib.hid fun W h h'=>q4Y D E x.data.length c y.data.length d x.data y.data rfl rfl W h h'
 have hx:decide (x=y)=(decide (x.path=y.path) &&(decide (x.kind=y.kind) &&(decide (x.same=y.same) &&(decide (x.target=y.target) &&(metB x.md y.md&&(x.data==y.data)))))):=by
  rw [Bool.eq_iff_iff,decide_eq_true_eq,←NodeV.ext_iff'];unfold metB;simp only [Bool.and_eq_true,beq_iff_eq,decide_eq_true_eq]
 have q1:=qn3 (a:=x.path) (b:=y.path);have q4:=qn3 (a:=x.target) (b:=y.target);obtain ⟨xp,xk,xs,xt,⟨x0,x1,x2,x3,x4,x5,x6⟩,xd⟩:=x;obtain ⟨yp,yk,ys,yt,⟨y0,y1,y2,y3,y4,y5,y6⟩,yd⟩:=y;simp only at hq HS hx q1 q4 hD hE;generalize metB _ _=mb at hq hx;generalize (xd==yd)=db at HS hx;rw [hx];have HX:=Lib.hid hx;clear hx;unfold nodC;unfold metA at hq;simp only at hq⊢;obtain ⟨P,hP⟩:=qaA (bs xp);obtain ⟨Q,hQ⟩:=qaA (bs yp);obtain ⟨T,hT⟩:=qaA (bs xt);obtain ⟨U,hU⟩:=qaA (bs yt);rw [hP.out,hQ.out]at q1;rw [hT.out,hU.out]at q4;rw [hP.out,hQ.out,hT.out,hU.out];have hw2: ∀o o',Below w.heap.size w ((w.alloc o).alloc o'):=fun o o'=>qbF (qbF (Below.refl _ _) o) o';have HW2:=Lib.hid hw2;have HD:=Lib.hid fun o o'=>hD.below (hw2 o o');have HE:=Lib.hid fun o o'=>hE.below (hw2 o o');have HS2:=Lib.hid fun o o'=>HS.out _ (HD.out o o') (HE.out o o');clear hw2 hD hE HD HE HS hP hQ hT hU
 by_cases e1:xp=yp
 ·rw [decide_eq_true e1]at q1⊢;clear e1
  by_cases e2:xk=yk
  ·subst e2
   by_cases e3:xs=ys
   ·subst e3
    by_cases e4:xt=yt
    ·rw [decide_eq_true e4]at q4⊢;clear e4;cases mb
     ·simp only [decide_true,Bool.true_and,Bool.false_and];go_enter Tryz.func31,Tryz.ntmps31;go_wp2_with fail;go_ret;exact ⟨rfl,HW2.out _ _⟩
     ·simp only [decide_true,Bool.true_and];go_enter Tryz.func31,Tryz.ntmps31;go_wp2_with fail;refine (HS2.out _ _).mono ?_;rintro e w3 ⟨rfl,rfl⟩;go_wp2_with fail;go_ret;exact ⟨rfl,HW2.out _ _⟩
    ·rw [decide_eq_false e4]at q4⊢;simp only [decide_true,Bool.true_and,Bool.false_and];clear e4;go_enter Tryz.func31,Tryz.ntmps31;go_wp2_with fail;go_ret;exact ⟨rfl,HW2.out _ _⟩
   ·rw [decide_eq_false e3];simp only [decide_true,Bool.true_and,Bool.false_and];have e3b:(xs==ys)=false:=by simpa using e3
    clear e3;go_enter Tryz.func31,Tryz.ntmps31;go_wp2_with fail;go_ret;exact ⟨rfl,HW2.out _ _⟩
  ·rw [decide_eq_false e2];simp only [Bool.true_and,Bool.false_and];have e2b:(xk==yk)=false:=by simpa using e2
   clear e2;go_enter Tryz.func31,Tryz.ntmps31;go_wp2_with fail;go_ret;exact ⟨rfl,HW2.out _ _⟩
 ·rw [decide_eq_false e1]at q1⊢;simp only [Bool.false_and];clear e1;go_enter Tryz.func31,Tryz.ntmps31;go_wp2_with fail;go_ret;exact ⟨rfl,HW2.out _ _⟩
end Go.Proofs.YtapgoifimhnbdaaGreatDoor
