/- qaX of one kind, in one file: OwnM, EofA. -/
import Derived.Test.YtapgoifimhnbdaaGreatDoorMth
import Derived.Test.YtapgoifimhnbdaaGreatDoorEng
import Derived.Test.YtapgoifimhnbdaaGreatDoorEnk
import Derived.Test.YtapgoifimhnbdaaGreatDoorFlq
import Derived.Test.YtapgoifimhnbdaaGreatDoorTrg
import Derived.Test.YtapgoifimhnbdaaGreatDoorArx
set_option linter.unusedVariables false
set_option maxRecDepth 100000
namespace Go.Proofs.YtapgoifimhnbdaaGreatDoor
open Go.RowKit
def endOk (p:List UInt8):Bool:=p.getLast? !=some 122&&p.getLast? !=some 101&& !p.isEmpty
def zzN:NodeV:=⟨[122,122],1,0, [],⟨0,0,0, [], [],0,0⟩, [100,97,116,97]⟩
end Go.Proofs.YtapgoifimhnbdaaGreatDoor
namespace Go.Proofs.YtapgoifimhnbdaaGreatDoor
open Go.RowKit
open Go.OpenShut
theorem eof_sz {x:EntV} (h:entE x=0):x.sz:=by
 obtain ⟨h1,h2,h3⟩:=qfK h;have hp:=qgT h1
 have hm:x.md.user.length≤60∧x.md.group.length≤60:=by
  unfold metE at h2
  split at h2
  ·split at h2
   ·cases h2
   ·omega
  ·cases h2
 have hk:x.data.length≤2000∧x.target.length≤400:=by
  unfold entK at h3
  split at h3
  ·cases h3
  ·split at h3
   ·cases h3
   ·split at h3
    ·cases h3
    ·omega
 exact ⟨⟨by omega,by omega,by omega⟩,by unfold MetaV.sz;omega⟩
theorem qsH:qaO [smA,smB,smC]=0:=by decide+kernel
theorem eof_smz: ∀x∈ [smA,smB,smC],x.sz:=fun x hx=>qiF (((qaT _).1 qsH).2.node x hx)
theorem qsI {l:List NodeV} (h:qaO l=0):runE l []=0∧runL l []=l:=by
 have e:runE l []=0:=by unfold runE;rw [if_pos h];rfl
 refine ⟨e,?_⟩;rw [show runL l []=selF l []from if_pos e];exact sel_all [] (fun x hx=>(((qaT l).1 h).2.node x hx)) fun s _=>rfl
set_option maxHeartbeats 4000000 in
theorem qn2 (A0:Option Addr) (n0 c0:Nat) (rs0:List RawV) (hn0:rs0.length=n0) (hm0:n0≤140737488355328) (hf0: ∀r∈rs0,r.wf) (m:Nat) (hm:m≤40) (w:World) (hr0:qd6 w A0 rs0):
  Calls Tryz.prog 16 #[.slice A0 n0 c0,.int .i64 m] w fun e w'=> ∃(l:List NodeV) (T:Option Addr) (k d:Nat),e= .returned (.tuple #[.slice T k d,.bool true])∧l.length=k∧SlOk T k d∧qdJ w' T (qaM l)∧k≤m∧l.Perm (qcI m rs0).1∧Sound l∧Below w.heap.size w w':=by
 have HD:=Lib.hid (qjP A0 n0 c0 rs0 hn0 hm0 hf0 m (by omega) w hr0);have HM:=Lib.hid hm;clear hn0 hf0 hr0 hm0 hm;go_enter Tryz.func16,Tryz.ntmps16;go_wp2_with fail;refine HD.out.mono ?_;rintro e w1 ⟨l,T,k,d,rfl,hk,hperm,hS,hN,hkm,hSo,hsz,hB⟩;have HPerm:=Lib.hid hperm;have HSo:=Lib.hid hSo;have HK:=Lib.hid hk;clear hperm;have hm:=HM.out;have ht:=qj1 hSo (by omega);obtain ⟨e1,e2⟩:=qsI ht;have hgood:qbJ (qaM l)=0:=qgR hSo (by omega);have hentz: ∀x∈qaM l,x.sz:=fun x hx=>eof_sz (qc1 hgood x hx);have hpl:(qaM l).length=k:=by rw [qaQ];exact hk
 have HMk:=Lib.hid (by
  have h:=qrK T k d l hk hS hsz none 0 0 [] rfl (by omega) (fun q hq=>by cases hq) (fun h=>absurd rfl h) w1 hN (fun j hj=>by cases hj);rw [e1,e2]at h
  exact h)
 have HSm:=Lib.hid fun (g:Nat) (W:World) (hNs:qaJ W (some ⟨g,0,none⟩) [smA,smB,smC])=>by
  have h:=qrK (some ⟨g,0,none⟩) 3 3 [smA,smB,smC] rfl ⟨Nat.le_refl _,by decide,fun e=>by cases e⟩ eof_smz none 0 0 [] rfl (by omega) (fun q hq=>by cases hq) (fun h=>absurd rfl h) W hNs (fun j hj=>by cases hj);rw [(qsI qsH).1,(qsI qsH).2]at h;exact h
 have HB1:=Lib.hid hB;have HPL:=Lib.hid hpl;have HKM:=Lib.hid hkm;generalize hP:qaM l=P at*;have HP:=Lib.hid hP;clear hB hN hk hS hSo hsz ht e1 e2 HD hgood hentz hpl hkm hm hP;go_wp2_with fail;refine HMk.out.mono ?_;rintro e w2 ⟨v,xs,rfl,hm,ho,hb⟩;obtain ⟨Ax,cx,rfl,hsx,hNx⟩:=ho.at;rw [hm]at hNx;have hxl:xs.length=k:=by rw [←HPL.out,←hm,List.length_map]
 rw [hxl]at hsx⊢;have HN2:=Lib.hid hNx;have HS2:=Lib.hid hsx;have HX2:=Lib.hid hb;clear hm ho hb hsx hNx hxl HMk;go_wp2_with fail;refine (q36 _).mono ?_;rintro e w4 ⟨g,rfl,hNs,hb⟩;have H4:=Lib.hid (HSm.out g w4 hNs);have HX4:=Lib.hid (HX2.out.trans (hb.mono HX2.out.size));have HY4:=Lib.hid hb;clear hNs hb HSm;go_wp2_with fail;refine H4.out.mono ?_;rintro e w5 ⟨v,zs,rfl,hm,ho,hb⟩;obtain ⟨Az,cz,rfl,-,-⟩:=ho.at
 have hzl:zs.length=3:=by
  have:=congrArg List.length hm;rw [List.length_map,qaQ]at this;exact this
 rw [hzl];have HX5:=Lib.hid (HX4.out.trans (hb.mono HX4.out.size));have HY5:=Lib.hid (HY4.out.trans (hb.mono HY4.out.size));clear hm ho hb hzl H4 HY4;go_wp2_with fail;go_ret2;exact ⟨l,Ax,k,cx,rfl,HK.out,HS2.out,by rw [HP.out];exact HN2.out.below HY5.out,HKM.out,HPerm.out,HSo.out,HB1.out.trans (HX5.out.mono HB1.out.size)⟩
end Go.Proofs.YtapgoifimhnbdaaGreatDoor
