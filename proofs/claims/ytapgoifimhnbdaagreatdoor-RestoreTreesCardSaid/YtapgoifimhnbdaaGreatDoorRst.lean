/- qaV of one kind, in one file: ResLt. -/
import Derived.Test.YtapgoifimhnbdaaGreatDoorRsp
import Derived.Test.YtapgoifimhnbdaaGreatDoorRes
import Derived.Test.YtapgoifimhnbdaaGreatDoorEnf
import Derived.Test.YtapgoifimhnbdaaGreatDoorStp
set_option linter.unusedVariables false
set_option maxRecDepth 100000
namespace Go.Proofs.YtapgoifimhnbdaaGreatDoor
open Go.RowKit
open Go.OpenShut
set_option maxHeartbeats 2000000 in
theorem qkT (A0:Option Addr) (n0 c0:Nat) (l0:List UInt8) (hn0:l0.length=n0) (hm0:n0≤140737488351232) (hc0:n0≤c0∧c0≤maxLen∧(A0=none→c0=0)) (w:World) (hr0:qaE w A0 l0) (hL:laidMetH Tryz.prog Rows.restoreTreesRow.laid w):
  Calls Tryz.prog 3 #[.slice A0 n0 c0] w fun e w'=>e= .returned (.bool true)∧Below w.heap.size w w':=by
 have S:Std w:=qlY hL (by kernel_rfl) (by simp [Rows.restoreTreesRow]) (by simp [Rows.restoreTreesRow]) (by simp [Rows.restoreTreesRow]);have H1:=Lib.hid (ql6 A0 n0 c0 l0 hn0 hm0 hc0 w S hr0);have H2:=Lib.hid fun W (h:Below w.heap.size w W)=>qsI A0 n0 c0 l0 hn0 hm0 hc0 W (S.below h) (hr0.below h);have h40:=qlG (b:=l0);clear hn0 hm0 hc0 hr0 hL S;generalize qcY l0=R at H1 H2 h40;obtain ⟨p,E⟩:=R;simp only at H1 H2 h40;go_enter Tryz.func3,Tryz.ntmps3;go_wp2_with fail;refine H1.out.mono ?_;rintro e x1 ⟨v1,xs,rfl,hm1,ho1,hb⟩;obtain ⟨A1,c1,rfl,hs1,hN1⟩:=ho1.at;have hl1:xs.length=p.length:=by rw [←hm1,List.length_map]
 rw [hm1]at hN1;rw [hl1];have HN1:=Lib.hid hN1;have HB1:=Lib.hid hb;obtain ⟨pl,HPL⟩:=qaA p.length;have HPl:Hid (p.length=pl):=HPL.out;rw [HPL.out]at h40⊢;clear hm1 ho1 hb hs1 hN1 hl1 H1 HPL;go_wp2_with fail;refine (H2.out _ HB1.out).mono ?_;rintro e x2 ⟨v2,ys,rfl,hm2,ho2,hb⟩;obtain ⟨A2,c2,rfl,hs2,hN2⟩:=ho2.at;have hl2:ys.length=pl:=by rw [←HPl.out,←hm2,List.length_map]
 rw [hm2]at hN2;rw [hl2];have HB2:=Lib.hid (HB1.out.trans (hb.mono HB1.out.size));have HS:=Lib.hid (qkY A1 A2 pl c1 pl c2 p p HPl.out HPl.out (by omega) (by omega) x2 (HN1.out.below hb) hN2);rw [decide_eq_true rfl]at HS;clear hm2 ho2 hb hs2 hN2 hl2 H2 HN1;go_wp2_with fail;refine HS.out.mono ?_;rintro e x3 ⟨rfl,hb⟩;have HB3:=Lib.hid (HB2.out.trans (hb.mono HB2.out.size));clear hb HS;go_wp2_with fail;go_ret;exact ⟨rfl,HB3.out⟩
end Go.Proofs.YtapgoifimhnbdaaGreatDoor
