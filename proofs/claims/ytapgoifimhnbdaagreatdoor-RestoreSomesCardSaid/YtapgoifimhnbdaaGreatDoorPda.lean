/- qaV of one kind, in one file: PadA, PadB. -/
import Derived.Test.YtapgoifimhnbdaaGreatDoorMth
import Derived.Test.YtapgoifimhnbdaaGreatDoorBas
import Derived.IntWalk
import Derived.Test.YtapgoifimhnbdaaGreatDoorOct
set_option linter.unusedVariables false
set_option maxRecDepth 100000
namespace Go.Proofs.YtapgoifimhnbdaaGreatDoor
open Go.RowKit
open Go.OpenShut
theorem qtX (n:Nat) (w:World) (hn:n≤140737488351232):Calls Tryz.prog 237 #[.int .i64 n] w fun e w'=>e= .returned (.int .i64 (padN n:Nat))∧w=w':=by
 go_enter Tryz.func237,Tryz.ntmps237;go_wp2_with fail;go_ret;exact ⟨qaR (by unfold padN;omega),rfl⟩
theorem qkV (n:Int) (w:World):Calls Tryz.prog 208 #[.int .i64 n] w fun e w'=>e= .returned (.tuple #[.int .i64 (padB n).1,.int .i64 (padB n).2])∧w=w':=by
 by_cases h:0≤n∧n<8589934592
 ·rw [qiG h];obtain ⟨k,rfl⟩:=Int.eq_ofNat_of_zero_le h.1;rw [Int.toNat_natCast];go_enter Tryz.func208,Tryz.ntmps208;go_wp2_with fail;refine (qtX k _ (by omega)).mono ?_;rintro e w' ⟨rfl,rfl⟩;go_wp2_with fail;go_ret2;exact ⟨rfl,rfl⟩
 ·rw [qmI h]
  by_cases h0:n<0
  ·clear h;go_enter Tryz.func208,Tryz.ntmps208;go_wp2_with fail;go_ret2;exact ⟨rfl,rfl⟩
  ·have h1:8589934591<n:=by omega
   have h2:0≤n:=by omega
   clear h;go_enter Tryz.func208,Tryz.ntmps208;go_wp2_with fail;go_ret2;exact ⟨rfl,rfl⟩
theorem qh3 (A:Option Addr) (n c:Nat) (l:List UInt8) (hn:l.length=n) (hn2:n≤281474976000000) (w:World) (hA:qaE w A l):
  Calls Tryz.prog 117 #[.slice A n c] w fun e w'=>e= .returned (.bool (allZ l))∧w=w':=by
 have HN:=Lib.hid hn;have HA:=Lib.hid hA;clear hn hA;go_enter Tryz.func117,Tryz.ntmps117;go_wp2_with fail
 go_loop [7] (fun i=> ∃k:Nat,k≤n∧i= .int .i64 k∧Hid (allZ (l.take k)=true)) (fun i=>n-(intOf i).toNat)
 case atStart=>exact ⟨0,Nat.zero_le _,rfl,rfl⟩
 case round=>
  obtain ⟨k,hk,rfl,hz⟩:=hrel
  by_cases hlt:k<n
  ·have hkl:k<l.length:=by rw [HN.out];exact hlt
   obtain ⟨b,o,rfl,hc⟩:=HA.out k hkl
   have HS:Hid (allZ (l.take (k+1))=(allZ (l.take k) &&(l[k]==0))):=by
    unfold Hid;rw [List.take_succ_eq_append_getElem hkl,qnR]
   have HF:Hid (l[k]≠0→allZ l=false):=fun e=>qkS l k hkl e;have h8:=l[k].toNat_lt
   by_cases h0:l[k]=0
   ·have h00:(l[k].toNat:Int)=0:=by rw [h0];rfl
    have H0:=Lib.hid h0;rw [h00]at hc;clear h00 h0 h8;go_wp2_with fail;go_round
    case rel=>exact ⟨k+1,by omega,by go_num,by unfold Hid;rw [HS.out,hz.out,H0.out];rfl⟩
    case measure=>simp [intOf];omega
   ·have hne: ¬(l[k].toNat:Int)=0:=fun e=>h0 (by apply UInt8.toNat_inj.1;rw [show (0:UInt8).toNat=0 from rfl];omega);have HV:=Lib.hid (HF.out h0);obtain ⟨x,hx⟩: ∃x:Int,x=(l[k].toNat:Int):=⟨_,rfl⟩;rw [←hx]at hc hne;clear hx HS HF h0 h8;go_wp2_with fail;go_ret;exact ⟨qa7 HV.out.symm,rfl⟩
  ·obtain rfl:k=n:=by omega
   have HV:Hid (allZ l=true):=by unfold Hid;rw [←hz.out,←HN.out,List.take_length]
   go_wp2_with fail;go_ret;exact ⟨qa7 HV.out.symm,rfl⟩
theorem qwV (w:World) (n:Nat) (hn:n≤140737488355328) (i0:TypeInfo) (hi:Tryz.prog.info? 5=some i0) (hz0:i0.zero=some (.int .u8 0)) (hz1:i0.size=1) (hz2:i0.bytes=1):
  ∃M:Array Value,M.toList=qaX (List.replicate n 0)∧(∀W:World,(Instr.makeSlice 22 (.int .i64 (n:Int)) (.int .i64 (n:Int))).run Tryz.prog W= .ok (.slice (some ⟨W.heap.size,0,none⟩) n n) (W.alloc (.cells M 5)))∧
   ∀(W:World) (B:Nat),B≤W.heap.size→OwnB (W.alloc (.cells M 5)) B (.slice (some ⟨W.heap.size,0,none⟩) n n) (List.replicate n 0):=by
 obtain ⟨M,hM⟩: ∃M,M=madeCells (Value.int .u8 0).cells (((n:Nat):Int).toNat*i0.size):=⟨_,rfl⟩;have hMl:M.toList=qaX (List.replicate n 0):=by rw [hM,hz1,Nat.mul_one,Int.toNat_natCast,←qkA];rfl
 have hMs:M.size=n:=by rw [←Array.length_toList,hMl];simp
 refine ⟨M,hMl,fun W=> ?_,fun W B hB=> ?_⟩
 ·have h:=run_make (P:=Tryz.prog) W 22 5 i0 (.int .u8 0) Tryz.underlying22 hi hz0 .i64 .i64 (n:Int) (n:Int) (by omega) (by omega) (by rw [hz2];omega) (by omega);rw [←hM]at h;simpa using h
 ·have h:=World.ownsRow_lit (base:=B) (e:=5) (size:=1) W M n hB (by unfold maxLen;omega) (by rw [hMs,Nat.mul_one]);unfold OwnB;rw [←hMl,List.length_replicate];exact h
theorem q7K (A:Option Addr) (n c:Nat) (l:List UInt8) (hn:l.length=n) (hn2:n≤281474976000000) (w:World) (hA:qaE w A l):
  Calls Tryz.prog 72 #[.slice A n c] w fun e w'=>e= .returned (.bool (decide (n=1024) &&allZ l))∧w=w':=by
 have HZ:=Lib.hid fun W h=>qh3 A n c l hn hn2 W h;have HA:=Lib.hid hA;clear hn hA
 by_cases h:n=1024
 ·subst h;go_enter Tryz.func72,Tryz.ntmps72;go_wp2_with fail;refine (HZ.out _ HA.out).mono ?_;rintro e w' ⟨rfl,rfl⟩;go_wp2_with fail;go_ret;exact ⟨rfl,rfl⟩
 ·have h1:decide (n=1024)=false:=decide_eq_false h;rw [h1];have h2: ¬(n:Int)=1024:=by omega
  clear h h1;go_enter Tryz.func72,Tryz.ntmps72;go_wp2_with fail;go_ret;exact ⟨rfl,rfl⟩
theorem q7J (A:Option Addr) (n c:Nat) (l:List UInt8) (hn:l.length=n) (hn2:n≤140737488351232) (w:World) (hA:qaE w A l):
  Calls Tryz.prog 188 #[.slice A n c] w fun e w'=> ∃v,e= .returned v∧OwnB w' w.heap.size v (padF l)∧Below w.heap.size w w':=by
 obtain ⟨i0,hi,hz0,hz1,hz2⟩:=info_parts qeM;have hge:=qgT n;have hlt:=qdE n;obtain ⟨p,hp⟩:=qaA (padN n);rw [hp.out]at hge hlt;obtain ⟨M,hMl,hmk,hown⟩:=qwV w (512*p) (by omega) i0 hi hz0 hz1 hz2;have hcount:=Lib.hid fun W=>qtX n W (by omega);rw [hp.out]at hcount;have hmul:IntKind.i64.wrap ((p:Int)*512)=((512*p:Nat):Int):=by rw [IntKind.wrap_i64];omega
 have HB:Hid (Below w.heap.size w (w.alloc (.cells M 5))):=(Below.refl _ _).alloc (Nat.le_refl _) _;have HF:Hid (l++(List.replicate (512*p) 0).drop n=padF l):=by unfold Hid padF;rw [hn,hp.out,List.drop_replicate]
 obtain ⟨q,hq⟩:=qaA (512*p);rw [hq.out]at hmk hmul hge HF hown;obtain ⟨W2,hcp,hO2,hB2⟩:=copied (hown w w.heap.size (Nat.le_refl _)) List.length_replicate A n c l hn hge (hA.below HB.out) 3;rw [HF.out]at hO2;have HO2:=Lib.hid hO2;have HB2:=Lib.hid (hB2 _ _ (Nat.le_refl _) HB.out);clear hn hA hown hMl hO2 hB2 HF;go_enter Tryz.func188,Tryz.ntmps188;go_wp2_with fail;refine (hcount.out _).mono ?_;rintro e w' ⟨rfl,rfl⟩;go_wp2_with fail;go_ret;exact ⟨_,rfl,HO2.out,HB2.out⟩
theorem qmC (n:Int) (w:World):Calls Tryz.prog 260 #[.int .i64 n] w fun e w'=>e= .returned (.tuple #[.int .i64 (padB n).1,.int .i64 (padB n).2])∧w=w':=by
 by_cases h:0≤n∧n<8589934592
 ·rw [qiG h];obtain ⟨k,rfl⟩:=Int.eq_ofNat_of_zero_le h.1;rw [Int.toNat_natCast];have HR:=Lib.hid (q5X k)
  by_cases hr:k/512*512<k
  ·rw [HR.out,if_pos hr];obtain ⟨q,hq⟩: ∃q,k/512=q:=⟨_,rfl⟩;go_enter Tryz.func260,Tryz.ntmps260;go_wp2_with fail;go_ret2;exact ⟨qb9 (by omega) rfl,rfl⟩
  ·rw [HR.out,if_neg hr];go_enter Tryz.func260,Tryz.ntmps260;go_wp2_with fail;go_ret2;exact ⟨qb9 (by omega) rfl,rfl⟩
 ·rw [qmI h]
  by_cases h0:n<0
  ·clear h;go_enter Tryz.func260,Tryz.ntmps260;go_wp2_with fail;go_ret2;exact ⟨rfl,rfl⟩
  ·have h1:8589934592≤n:=by omega
   have h2:0≤n:=by omega
   clear h;go_enter Tryz.func260,Tryz.ntmps260;go_wp2_with fail;go_ret2;exact ⟨rfl,rfl⟩
def slLen:Value→Nat| .slice _ n _=>n|_=>0
set_option maxHeartbeats 1000000 in
theorem qmA (A:Option Addr) (n c:Nat) (l:List UInt8) (hn:l.length=n) (hn2:n≤140737488351232) (hc:A=none→c=0) (w:World) (hA:qaE w A l):
  Calls Tryz.prog 215 #[.slice A n c] w fun e w'=> ∃v,e= .returned v∧OwnB w' w.heap.size v (padF l)∧Below w.heap.size w w':=by
 obtain ⟨i0,hi,hz0,hz1,hz2⟩:=info_parts qeM;have hlt:=qdE n;have hge:=qgT n;obtain ⟨p,hp⟩:=qaA (padN n);rw [hp.out]at hlt hge;have HN:=Lib.hid hn;have HO:Hid ((w.alloc (.cells #[] 5)).ownsRow w.heap.size 5 1 (.slice (some ⟨w.heap.size,0,none⟩) 0 0) 0 []):=World.ownsRow_lit (e:=5) (size:=1) w #[] 0 (Nat.le_refl _) (by decide) rfl;have HB:Hid (Below w.heap.size w (w.alloc (.cells #[] 5))):=(Below.refl _ _).alloc (Nat.le_refl _) _;have HA1:=Lib.hid (hA.below HB.out);have HZ:Hid (padN n*512<n+512):=by unfold Hid;have:=qdE n;omega
 have hb0:OwnB (w.alloc (.cells #[] 5)) w.heap.size (.slice (some ⟨w.heap.size,0,none⟩) 0 0) []:=HO.out;have HO1:=Lib.hid hb0;clear hn hA hb0 HO;go_enter Tryz.func215,Tryz.ntmps215;go_wp2_with (at_builtin;refine Stay.go ?_);refine Stay.on ?_;refine qgA rfl (.tmp 4) (.tmp 5) rfl w.heap.size _ _ rfl HO1.out A n c l rfl HN.out HA1.out hc (by simp;omega) (by simp) ?_;intro v6 w6 ho6 hb6;have HO6:Hid (OwnB w6 w.heap.size v6 l):=ho6;have HB6:=Lib.hid (hb6 w HB.out);clear ho6 hb6;go_wp2_with fail
 go_loopw [3] (fun v wr=> ∃(m:Nat) (L:List UInt8),Hid (L.length=m)∧m≤512*p∧Hid (OwnB wr w.heap.size v L)∧Hid (padF L=padF l)∧Hid (Below w.heap.size w wr)) (fun v _=>512*p-slLen v)
 case atStart=>exact ⟨n,l,HN.out,hge,HO6.out,rfl,HB6.out⟩
 case round=>
  obtain ⟨m,L,HL,hm,HO,HF,HB⟩:=hrel;have hws:w.heap.size≤wr.heap.size:=HB.out.size;obtain ⟨A',c',rfl,-,-⟩:=HO.out.form;rw [HL.out]
  by_cases h0:m%512=0
  ·have HW:Hid (padF L=L):=qyQ L (m/512) (by rw [HL.out];omega);have h1:((m:Int) %512)=0:=by omega
   go_wp2_with fail;go_ret;exact ⟨_,rfl,by rw [←HF.out,HW.out,←HL.out];exact HO.out,HB.out⟩
  ·have HS:Hid (padF (L++ [0])=padF L):=q1S L (by rw [HL.out];exact h0);have h1: ¬((m:Int) %512)=0:=by omega
   have hm2:m+1≤512*p:=by omega
   have HOa:=Lib.hid (HO.out.alloc (.cells #[.int .u8 0] 5));have HBa:=Lib.hid (HB.out.alloc hws (.cells #[.int .u8 0] 5))
   have HNw:Hid (qaE (wr.alloc (.cells #[.int .u8 0] 5)) (some ⟨wr.heap.size,0,none⟩) [0]):=fun j hj=>by
    obtain rfl:j=0:=by simpa using hj
    exact ⟨_,_,rfl,cell_of_row _ wr.heap.size 0 #[.int .u8 0] 5 (0,0) (heap_alloc_new wr _)⟩
   rw [HL.out]at HOa;go_wp2_with (at_builtin;refine Stay.go ?_);refine Stay.on ?_;refine qgA rfl (.tmp 11) (.tmp 12) rfl w.heap.size _ _ rfl HOa.out (some ⟨wr.heap.size,0,none⟩) 1 1 [0] rfl rfl HNw.out (fun e=>by cases e) (by rw [HL.out];omega) (by simp;omega) ?_;intro v7 w7 ho7 hb7;have HO7:=Lib.hid ho7;have HB7:=Lib.hid (hb7 w HBa.out);obtain ⟨A7,c7,e7,-,-⟩:=ho7.form;rw [List.length_append,HL.out]at e7;subst e7;clear ho7 hb7;go_wp2_with fail;go_roundw
   case rel=>exact ⟨m+1,L++ [0],by unfold Hid;rw [List.length_append,HL.out];rfl,hm2,HO7,by unfold Hid;rw [HS.out,HF.out],HB7⟩
   case measure=>simp [slLen];omega
end Go.Proofs.YtapgoifimhnbdaaGreatDoor
