/- qaX of one kind, in one file: PadA, PadB, PadC, PadD. -/
import Derived.Test.YtapgoifimhnbdaaGreatDoorMth
import Derived.Test.YtapgoifimhnbdaaGreatDoorBas
import Derived.IntWalk
import Derived.Test.YtapgoifimhnbdaaGreatDoorTrm
import Derived.Deep.RegionWith
import Derived.Deep.RegionHeld3
import Derived.Deep.DeepCutAuto
import Derived.Deep.QuietTactic
set_option linter.unusedVariables false
set_option maxRecDepth 100000
namespace Go.Proofs.YtapgoifimhnbdaaGreatDoor
open Go.RowKit
open Go.OpenShut
theorem qvF (n:Nat) (w:World) (hn:n≤140737488351232):Calls Tryz.prog 237 #[.int .i64 n] w fun e w'=>e= .returned (.int .i64 (padN n:Nat))∧w=w':=by
 go_enter Tryz.func237,Tryz.ntmps237;go_wp2_with fail;go_ret;exact ⟨qaV (by unfold padN;omega),rfl⟩
theorem qk0 (n:Int) (w:World):Calls Tryz.prog 208 #[.int .i64 n] w fun e w'=>e= .returned (.tuple #[.int .i64 (padB n).1,.int .i64 (padB n).2])∧w=w':=by
 by_cases h:0≤n∧n<8589934592
 ·rw [qm4 h];obtain ⟨k,rfl⟩:=Int.eq_ofNat_of_zero_le h.1;rw [Int.toNat_natCast];go_enter Tryz.func208,Tryz.ntmps208;go_wp2_with fail;refine (qvF k _ (by omega)).mono ?_;rintro e w' ⟨rfl,rfl⟩;go_wp2_with fail;go_ret2;exact ⟨rfl,rfl⟩
 ·rw [qwZ h]
  by_cases h0:n<0
  ·clear h;go_enter Tryz.func208,Tryz.ntmps208;go_wp2_with fail;go_ret2;exact ⟨rfl,rfl⟩
  ·have h1:8589934591<n:=by omega
   have h2:0≤n:=by omega
   clear h;go_enter Tryz.func208,Tryz.ntmps208;go_wp2_with fail;go_ret2;exact ⟨rfl,rfl⟩
theorem qh1 (A:Option Addr) (n c:Nat) (l:List UInt8) (hn:l.length=n) (hn2:n≤281474976000000) (w:World) (hA:qaE w A l):
  Calls Tryz.prog 117 #[.slice A n c] w fun e w'=>e= .returned (.bool (allZ l))∧w=w':=by
 have HN:=Lib.hid hn;have HA:=Lib.hid hA;clear hn hA;go_enter Tryz.func117,Tryz.ntmps117;go_wp2_with fail
 go_loop [7] (fun i=> ∃k:Nat,k≤n∧i= .int .i64 k∧Hid (allZ (l.take k)=true)) (fun i=>n-(intOf i).toNat)
 case atStart=>exact ⟨0,Nat.zero_le _,rfl,rfl⟩
 case round=>
  obtain ⟨k,hk,rfl,hz⟩:=hrel
  by_cases hlt:k<n
  ·have hkl:k<l.length:=by rw [HN.out];exact hlt
   obtain ⟨b,o,rfl,hc⟩:=HA.out k hkl
   have HS:Hid (allZ (l.take (k+1))=(allZ (l.take k) &&(l[k]==0))):=by
    unfold Hid;rw [List.take_succ_eq_append_getElem hkl,qvK]
   have HF:Hid (l[k]≠0→allZ l=false):=fun e=>qqM l k hkl e;have h8:=l[k].toNat_lt
   by_cases h0:l[k]=0
   ·have h00:(l[k].toNat:Int)=0:=by rw [h0];rfl
    have H0:=Lib.hid h0;rw [h00]at hc;clear h00 h0 h8;go_wp2_with fail;go_round
    case rel=>exact ⟨k+1,by omega,by go_num,by unfold Hid;rw [HS.out,hz.out,H0.out];rfl⟩
    case measure=>simp [intOf];omega
   ·have hne: ¬(l[k].toNat:Int)=0:=fun e=>h0 (by apply UInt8.toNat_inj.1;rw [show (0:UInt8).toNat=0 from rfl];omega);have HV:=Lib.hid (HF.out h0);obtain ⟨x,hx⟩: ∃x:Int,x=(l[k].toNat:Int):=⟨_,rfl⟩;rw [←hx]at hc hne;clear hx HS HF h0 h8;go_wp2_with fail;go_ret;exact ⟨qcA HV.out.symm,rfl⟩
  ·obtain rfl:k=n:=by omega
   have HV:Hid (allZ l=true):=by unfold Hid;rw [←hz.out,←HN.out,List.take_length]
   go_wp2_with fail;go_ret;exact ⟨qcA HV.out.symm,rfl⟩
theorem qrR (w:World) (n:Nat) (hn:n≤140737488355328) (i0:TypeInfo) (hi:Tryz.prog.info? 5=some i0) (hz0:i0.zero=some (.int .u8 0)) (hz1:i0.size=1) (hz2:i0.bytes=1):
  ∃M:Array Value,M.toList=qaU (List.replicate n 0)∧(∀W:World,(Instr.makeSlice 22 (.int .i64 (n:Int)) (.int .i64 (n:Int))).run Tryz.prog W= .ok (.slice (some ⟨W.heap.size,0,none⟩) n n) (W.alloc (.cells M 5)))∧
   ∀(W:World) (B:Nat),B≤W.heap.size→OwnB (W.alloc (.cells M 5)) B (.slice (some ⟨W.heap.size,0,none⟩) n n) (List.replicate n 0):=by
 obtain ⟨M,hM⟩: ∃M,M=madeCells (Value.int .u8 0).cells (((n:Nat):Int).toNat*i0.size):=⟨_,rfl⟩;have hMl:M.toList=qaU (List.replicate n 0):=by rw [hM,hz1,Nat.mul_one,Int.toNat_natCast,←qkE];rfl
 have hMs:M.size=n:=by rw [←Array.length_toList,hMl];simp
 refine ⟨M,hMl,fun W=> ?_,fun W B hB=> ?_⟩
 ·have h:=run_make (P:=Tryz.prog) W 22 5 i0 (.int .u8 0) Tryz.underlying22 hi hz0 .i64 .i64 (n:Int) (n:Int) (by omega) (by omega) (by rw [hz2];omega) (by omega);rw [←hM]at h;simpa using h
 ·have h:=World.ownsRow_lit (base:=B) (e:=5) (size:=1) W M n hB (by unfold maxLen;omega) (by rw [hMs,Nat.mul_one]);unfold OwnB;rw [←hMl,List.length_replicate];exact h
theorem End_any (w:World):Calls Tryz.prog 49 #[] w fun e w'=> ∃v,e= .returned v∧OwnB w' w.heap.size v (List.replicate 1024 0)∧Below w.heap.size w w':=by
 obtain ⟨i0,hi,hz0,hz1,hz2⟩:=info_parts qfW;obtain ⟨M,hMl,hmk,hown⟩:=qrR w 1024 (by decide) i0 hi hz0 hz1 hz2;have HO:=Lib.hid (hown w w.heap.size (Nat.le_refl _));have HB:Hid (Below w.heap.size w (w.alloc (.cells M 5))):=(Below.refl _ _).alloc (Nat.le_refl _) _;simp only [show ((1024:Nat):Int)=1024 from rfl]at hmk;clear hMl hown;go_enter Tryz.func49,Tryz.ntmps49;go_wp2_with fail;go_ret;exact ⟨_,rfl,HO.out,HB.out⟩
theorem zdK (A:Option Addr) (n c:Nat) (l:List UInt8) (hn:l.length=n) (hn2:n≤281474976000000) (w:World) (hA:qaE w A l):
  Calls Tryz.prog 72 #[.slice A n c] w fun e w'=>e= .returned (.bool (decide (n=1024) &&allZ l))∧w=w':=by
 have HZ:=Lib.hid fun W h=>qh1 A n c l hn hn2 W h;have HA:=Lib.hid hA;clear hn hA
 by_cases h:n=1024
 ·subst h;go_enter Tryz.func72,Tryz.ntmps72;go_wp2_with fail;refine (HZ.out _ HA.out).mono ?_;rintro e w' ⟨rfl,rfl⟩;go_wp2_with fail;go_ret;exact ⟨rfl,rfl⟩
 ·have h1:decide (n=1024)=false:=decide_eq_false h;rw [h1];have h2: ¬(n:Int)=1024:=by omega
  clear h h1;go_enter Tryz.func72,Tryz.ntmps72;go_wp2_with fail;go_ret;exact ⟨rfl,rfl⟩
theorem zdJ (A:Option Addr) (n c:Nat) (l:List UInt8) (hn:l.length=n) (hn2:n≤140737488351232) (w:World) (hA:qaE w A l):
  Calls Tryz.prog 188 #[.slice A n c] w fun e w'=> ∃v,e= .returned v∧OwnB w' w.heap.size v (padF l)∧Below w.heap.size w w':=by
 obtain ⟨i0,hi,hz0,hz1,hz2⟩:=info_parts qfW;have hge:=qm2 n;have hlt:=qiE n;obtain ⟨p,hp⟩:=qaA (padN n);rw [hp.out]at hge hlt;obtain ⟨M,hMl,hmk,hown⟩:=qrR w (512*p) (by omega) i0 hi hz0 hz1 hz2;have hcount:=Lib.hid fun W=>qvF n W (by omega);rw [hp.out]at hcount;have hmul:IntKind.i64.wrap ((p:Int)*512)=((512*p:Nat):Int):=by rw [IntKind.wrap_i64];omega
 have HB:Hid (Below w.heap.size w (w.alloc (.cells M 5))):=(Below.refl _ _).alloc (Nat.le_refl _) _;have HF:Hid (l++(List.replicate (512*p) 0).drop n=padF l):=by unfold Hid padF;rw [hn,hp.out,List.drop_replicate]
 obtain ⟨q,hq⟩:=qaA (512*p);rw [hq.out]at hmk hmul hge HF hown;obtain ⟨W2,hcp,hO2,hB2⟩:=copied (hown w w.heap.size (Nat.le_refl _)) List.length_replicate A n c l hn hge (hA.below HB.out) 3;rw [HF.out]at hO2;have HO2:=Lib.hid hO2;have HB2:=Lib.hid (hB2 _ _ (Nat.le_refl _) HB.out);clear hn hA hown hMl hO2 hB2 HF;go_enter Tryz.func188,Tryz.ntmps188;go_wp2_with fail;refine (hcount.out _).mono ?_;rintro e w' ⟨rfl,rfl⟩;go_wp2_with fail;go_ret;exact ⟨_,rfl,HO2.out,HB2.out⟩
def slLen:Value→Nat| .slice _ n _=>n|_=>0
theorem qkS:Tryz.prog.underlying 22=some (.slice (Tryz.prog.elem 22)):=by kernel_rfl
theorem qwF: ∀W,(sizeOf (Tryz.prog.elem 22)).run Tryz.prog W= .ok 1 W:=by
 intro W;have e:Tryz.prog.elem 22=5:=by kernel_rfl
 rw [e];exact Tryz.sizeOf5 W
theorem qiU (W:World) (A:Option Addr) (n c k:Nat) (h:k≤c):(Instr.slice 22 (.slice A n c) none (some (.int .i64 (k:Int))) none).run Tryz.prog W= .ok (.slice A k c) W:=by
 rw [run_slice_h W 22 A n c qkS .i64 (k:Int) (by omega) (by omega),qwF];have e:=q7X A c;unfold cutA at e;simp [Result.andThen,sliced]at e⊢;exact e
theorem qeG (W:World) (A:Option Addr) (n c k:Nat) (h:k≤n):(Instr.slice 22 (.slice A n c) (some (.int .i64 (k:Int))) none none).run Tryz.prog W= .ok (.slice (cutA A c k) (n-k) (c-k)) W:=by
 rw [run_slice_l W 22 A n c qkS .i64 (k:Int) (by omega) (by omega),qwF];simp [Result.andThen,sliced,cutA]
theorem qtK (W:World) (A:Option Addr) (n c k e:Nat) (h:k≤e) (he:e≤c):(Instr.slice 22 (.slice A n c) (some (.int .i64 (k:Int))) (some (.int .i64 (e:Int))) none).run Tryz.prog W= .ok (.slice (cutA A c k) (e-k) (c-k)) W:=by
 rw [run_slice_lh W 22 A n c qkS .i64 .i64 (k:Int) (e:Int) (by omega) (by omega) (by omega),qwF];simp [Result.andThen,sliced,cutA]
set_option maxHeartbeats 1000000 in
theorem Cut_any (A:Option Addr) (n c:Nat) (l:List UInt8) (x:Int) (hn:l.length=n) (hn2:n≤140737488351232) (hc:SlOk A n c) (w:World) (hA:qaE w A l):
  Calls Tryz.prog 209 #[.slice A n c,.int .i64 x] w fun e w'=> ∃v1 v2,e= .returned (.tuple #[v1,v2,.int .i64 (padC l x).2])∧OwnB w' w.heap.size v1 (padC l x).1.1∧OwnB w' w.heap.size v2 (padC l x).1.2∧Below w.heap.size w w':=by
 by_cases h:0≤x∧x<8589934592
 ·obtain ⟨k,rfl⟩:=Int.eq_ofNat_of_zero_le h.1;have hB:=Lib.hid fun W=>qk0 (k:Int) W;rw [qm4 h]at hB;have HR:=Lib.hid (qpQ (l:=l) h);have HF:=Lib.hid (qi5 (l:=l) h);have HO:=Lib.hid (qm3 (l:=l) h);rw [Int.toNat_natCast]at hB HR HF HO;have hge:=qm2 k;have hlt:=qiE k;obtain ⟨p,hp⟩:=qaA (padN k);rw [hp.out]at hB HR HF HO hge hlt;simp only at hB;have hk:k<8589934592:=by omega
  have hmul:IntKind.i64.wrap ((p:Int)*512)=((512*p:Nat):Int):=by rw [IntKind.wrap_i64];omega
  obtain ⟨e,he⟩: ∃e:Nat,e=512*p:=⟨_,rfl⟩;rw [←he]at HR HF HO hge hlt hmul;clear h he
  by_cases hs:n<e
  ·have HX:=Lib.hid (HR.out (by rw [hn];exact hs));rw [HX.out];go_enter Tryz.func209,Tryz.ntmps209;go_wp2_with fail;refine (hB.out _).mono ?_;rintro e' w' ⟨rfl,rfl⟩;go_wp2_with fail
   go_ret3
   exact ⟨_,_,rfl,OwnB.nil _ _,OwnB.nil _ _,Below.refl _ _⟩
  ·have hs':e≤n:=by omega
   have hnc:=hc.1;have s1:=fun W=>qtK W A n c k e hge (by omega);have hlm:((l.take e).drop k).length=e-k:=by rw [List.length_drop,List.length_take];omega
   have hAt: ∀W,qaE W A l→qaE W (cutA A c k) ((l.take e).drop k):=fun W h=>by
    rw [List.drop_take];exact (h.cut (by omega) k (by omega)).take _
   have HZ:=Lib.hid (qh1 (cutA A c k) (e-k) (c-k) _ hlm (by omega) w (hAt w hA));cases hz:allZ ((l.take e).drop k)
   ·have HX:=Lib.hid (HF.out (by rw [hn];exact hs') hz);rw [HX.out];rw [hz]at HZ;obtain ⟨a1,ha1⟩:=qaA (cutA A c k);obtain ⟨n1,hn1⟩:=qaA (e-k);obtain ⟨c1,hc1⟩:=qaA (c-k);rw [ha1.out,hn1.out,hc1.out]at HZ;simp only [ha1.out,hn1.out,hc1.out]at s1;clear hz hAt hlm hn hA hge hlt hk hs' hnc hn2 hc;go_enter Tryz.func209,Tryz.ntmps209;go_wp2_with fail;refine (hB.out _).mono ?_;rintro e' w' ⟨rfl,rfl⟩;go_wp2_with fail;refine HZ.out.mono ?_;rintro e' w' ⟨rfl,rfl⟩;go_wp2_with fail
    go_ret3
    exact ⟨_,_,rfl,OwnB.nil _ _,OwnB.nil _ _,Below.refl _ _⟩
   ·have HX:=Lib.hid (HO.out (by rw [hn];exact hs') hz);rw [HX.out];rw [hz]at HZ;have s2:=fun W=>qiU W A n c k (by omega);have s3:=fun W=>qeG W A n c e hs';have HC1:Hid (∀W,qaE W A l→Calls Tryz.prog 169 #[.slice A k c] W fun e w'=> ∃v,e= .returned v∧OwnB w' W.heap.size v (l.take k)∧Below W.heap.size W w'):=fun W h=>qhA A k c (l.take k) (by rw [List.length_take];omega) (by omega) W (h.take k);have HC2:Hid (∀W,qaE W A l→Calls Tryz.prog 169 #[.slice (cutA A c e) (n-e) (c-e)] W fun e' w'=> ∃v,e'= .returned v∧OwnB w' W.heap.size v (l.drop e)∧Below W.heap.size W w'):=fun W h=>qhA (cutA A c e) (n-e) (c-e) (l.drop e) (by rw [List.length_drop];omega) (by omega) W (h.cut (by omega) e (by omega));have HA:=Lib.hid fun W (h:Below w.heap.size w W)=>hA.below h;obtain ⟨a1,ha1⟩:=qaA (cutA A c k);obtain ⟨n1,hn1⟩:=qaA (e-k);obtain ⟨c1,hc1⟩:=qaA (c-k);obtain ⟨a2,ha2⟩:=qaA (cutA A c e);obtain ⟨n2,hn2⟩:=qaA (n-e);obtain ⟨c2,hc2⟩:=qaA (c-e);rw [ha1.out,hn1.out,hc1.out]at HZ;rw [ha2.out,hn2.out,hc2.out]at HC2;simp only [ha1.out,hn1.out,hc1.out]at s1;simp only [ha2.out,hn2.out,hc2.out]at s3;clear hz hAt hlm hn hA hge hlt hk hs' hnc hn2 hc;go_enter Tryz.func209,Tryz.ntmps209;go_wp2_with fail;refine (hB.out _).mono ?_;rintro e' w' ⟨rfl,rfl⟩;go_wp2_with fail;refine HZ.out.mono ?_;rintro e' w' ⟨rfl,rfl⟩;go_upto_region 9 with fail
    have hD:qaE w.drew A l:=HA.out _ (Below.refl _ _).drew
    go_region_with
     (first
      |(go_at_call 169;(have F1:=hb1);refine (HC2.out _ (HA.out _ F1)).mono ?_;rintro e' w2 ⟨v2,rfl,hO2,hb2⟩)
      |(go_at_call 169;refine (HC1.out _ hD).mono ?_;rintro e' w1 ⟨v1,rfl,hO1,hb1'⟩;have hb1:Below w.heap.size w w1:=((Below.refl w.heap.size w).drew.trans (show Below w.heap.size w.drew w1 from hb1'));clear hb1'))
    all_goals
     go_wp2_with fail
     go_ret3
     exact ⟨_,_,rfl,hO1.below hb2,hO2.mono hb1.size,hb1.trans (hb2.mono hb1.size)⟩
 ·rw [qhM h];have hB:=Lib.hid fun W=>qk0 x W;rw [qwZ h]at hB;clear h;go_enter Tryz.func209,Tryz.ntmps209;go_wp2_with fail;refine (hB.out _).mono ?_;rintro e w' ⟨rfl,rfl⟩;go_wp2_with fail
  go_ret3
  exact ⟨_,_,rfl,OwnB.nil _ _,OwnB.nil _ _,Below.refl _ _⟩
def Fresh (g:Nat) (W:World):Prop:=W.heap[g]?=some (.cells #[] 5 (0,0))
end Go.Proofs.YtapgoifimhnbdaaGreatDoor
