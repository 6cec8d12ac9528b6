/- qaX of one kind, in one file: StpC, Any, RecA, RecB, RecC, RecD, RecE, RecF, RecG. -/
import Derived.Test.YtapgoifimhnbdaaGreatDoorStp
import Derived.Test.YtapgoifimhnbdaaGreatDoorFld
import Derived.Test.YtapgoifimhnbdaaGreatDoorShelf
import Derived.Laws.Runes
import Derived.WalkMore
import Derived.IntWalk
import Derived.Laws.RangeAny
import Derived.Shelf.Strings.IndexAnyAll
import Derived.BigQuiet
import Derived.Deep.QuietTactic
import Derived.Test.YtapgoifimhnbdaaGreatDoorMth
import Derived.Deep.DeepCutAuto
import Derived.Deep.RegionHeld3
import Derived.Deep.DrawnRows
import Derived.BigRegion
import Derived.Deep.RegionWith
import Derived.Deep.CutBlock
import Derived.Deep.Cut
import Derived.Deep.LoopGhost
set_option linter.unusedVariables false
set_option maxRecDepth 100000
namespace Go.Proofs.YtapgoifimhnbdaaGreatDoor
open Go.RowKit
open Go.OpenShut
structure Std (w:World):Prop where
 tab:Tab w
 syn: ∃t p,w.cell? ⟨3,0,none⟩=some (.iface t p)
 rng: ∃t p,w.cell? ⟨4,0,none⟩=some (.iface t p)
theorem qqI {w w':World} {b:Nat} {v:Value} (h:w.cell? ⟨b,0,none⟩=some v) (hb:Below w.heap.size w w'):w'.cell? ⟨b,0,none⟩=some v:=by
 have hl:b<w.heap.size:=by
  rcases Nat.lt_or_ge b w.heap.size with h'|h'
  ·exact h'
  ·simp [World.cell?,Array.getElem?_eq_none h']at h
 exact (hb.cell (show (⟨b,0,none⟩:Addr).block<w.heap.size from hl)).trans h
theorem Std.below {w w':World} (h:Std w) (hb:Below w.heap.size w w'):Std w':=by
 obtain ⟨t1,p1,e1⟩:=h.syn;obtain ⟨t2,p2,e2⟩:=h.rng;exact ⟨h.tab.below hb,⟨t1,p1,qqI e1 hb⟩,⟨t2,p2,qqI e2 hb⟩⟩
theorem Std.drewN {w:World} (h:Std w) (n:Nat):Std (w.drewN n):=h.below (below_drewN (Below.refl _ _) n)
theorem qx8 (s:ByteArray) (v:Int) (w:World) (hs:s.size≤281474976710656) (h:numO (Lib.atoiAll s.data.toList)=some v):
  Calls Tryz.prog 174 #[.string s] w fun e w'=>e= .returned (.tuple #[.int .i64 v,.nilIface])∧Below w.heap.size w w':=by
 rcases ha:Lib.atoiAll s.data.toList with x|_|_
 ·rw [ha]at h;obtain rfl:x=v:=Option.some.inj h;refine (Any.strconv_Atoi_ok Tryz.laysC172 s (by omega) x ha w).mono ?_;rintro e w' ⟨rfl,hw⟩;refine ⟨rfl,?_⟩;rcases hw with rfl|⟨t,rfl⟩
  ·exact Below.refl _ _
  ·exact Lib.bytesWorld_below _ _ _
 ·rw [ha]at h;cases h
 ·rw [ha]at h;cases h
theorem q8Y (s:ByteArray) (w:World) (S:Std w) (hs:s.size≤281474976710656) (h:numO (Lib.atoiAll s.data.toList)=none):
  Calls Tryz.prog 174 #[.string s] w fun e w'=>(∃(x:Int) (N:Nat),e= .returned (.tuple #[.int .i64 x,.iface 265 (.pointer (some ⟨N,0,none⟩))]))∧Below w.heap.size w w':=by
 rcases ha:Lib.atoiAll s.data.toList with x|_|_
 ·rw [ha]at h;cases h
 ·obtain ⟨t,p,e⟩:=S.syn;refine (Any.strconv_Atoi_syntax Tryz.laysC172 s hs ha _ w e (.inr ⟨_,_,rfl⟩)).mono ?_;rintro e w' ⟨N,rfl,-,-,hb⟩;exact ⟨⟨_,N,rfl⟩,hb⟩
 ·obtain ⟨t,p,e⟩:=S.rng;refine (Any.strconv_Atoi_range Tryz.laysC172 s hs ha _ w e (.inr ⟨_,_,rfl⟩)).mono ?_;rintro e w' ⟨N,rfl,-,-,hb⟩;exact ⟨⟨_,N,rfl⟩,hb⟩
theorem cut_hit (s:ByteArray) (k:Nat):s.extract 0 k=bs (s.data.toList.take k)∧s.extract (k+1) s.size=bs (s.data.toList.drop (k+1)):=by
 constructor
 ·apply ByteArray.ext;apply Array.toList_inj.1;rw [ByteArray.data_extract,Array.toList_extract,qaF];simp [List.extract]
 ·apply ByteArray.ext;apply Array.toList_inj.1;rw [qd3,qaF]
set_option maxHeartbeats 400000 in
theorem zbJ (s:ByteArray) (c:UInt8) (w:World) (hs:s.size≤maxLen):
  Calls Tryz.prog 323 #[.string s,.string ⟨#[c]⟩] w fun e w'=>e= .returned (.tuple #[.string (bs (s.data.toList.take (pos c s.data.toList))),.string (bs (s.data.toList.drop (pos c s.data.toList+1))),.bool (hasB c s.data.toList)])∧ ∃n,w'=w.drewN n:=by
 unfold maxLen at hs;have hI:=fun W=>Tryz.stringslite_Index_one s c W;rw [qbX]at hI;have hp:=qgE c s.data.toList;have hb:=qdW c s.data.toList;rw [qaH]at hp hb;cases hh:hasB c s.data.toList
 ·rw [hh]at hI;have HI:Hid (∀W,Calls Tryz.prog 240 #[.string s,.string ⟨#[c]⟩] W fun e w'=>e= .returned (.int .i64 (-1))∧w'=W):=hI;have e1:pos c s.data.toList=s.size:=by rw [hh]at hb;have:=of_decide_eq_false hb.symm;omega
  have HX:=Lib.hid (show s=bs (s.data.toList.take (pos c s.data.toList)) by rw [e1,←qaH,List.take_length,qgJ]);have HY:=Lib.hid (show (⟨#[]⟩:ByteArray)=bs (s.data.toList.drop (pos c s.data.toList+1)) by rw [e1,←qaH,List.drop_of_length_le (by omega)];rfl);rw [←HX.out,←HY.out];clear hI hb hh e1;go_enter Tryz.func323,Tryz.ntmps323;go_wp2_with fail;refine (HI.out _).mono ?_;rintro e w1 ⟨rfl,rfl⟩;go_wp2_with fail
  go_ret3
  exact ⟨rfl,0,rfl⟩
 ·rw [hh]at hI;have hlt:pos c s.data.toList<s.size:=by rw [hh]at hb;exact of_decide_eq_true hb.symm
  obtain ⟨k,Hk⟩:=qaA (pos c s.data.toList);rw [Hk.out]at hI hlt⊢;have HI:Hid (∀W,Calls Tryz.prog 240 #[.string s,.string ⟨#[c]⟩] W fun e w'=>e= .returned (.int .i64 (k:Int))∧w'=W):=hI;obtain ⟨c1,c2⟩:=cut_hit s k;have h1:(⟨#[c]⟩:ByteArray).size=1:=rfl;clear hI hb hh hp;obtain ⟨X,HX⟩:=qaA (bs (s.data.toList.take k));obtain ⟨Y,HY⟩:=qaA (bs (s.data.toList.drop (k+1)));rw [HX.out]at c1⊢;rw [HY.out]at c2⊢;go_enter Tryz.func323,Tryz.ntmps323;go_wp2_with fail;refine (HI.out _).mono ?_;rintro e w1 ⟨rfl,rfl⟩;go_wp2_with fail
  go_region
  go_wp2_with fail
  go_ret3
  exact ⟨rfl,1,rfl⟩
theorem qs2 (s:ByteArray) (c:UInt8) (w:World) (hs:s.size≤maxLen):
  Calls Tryz.prog 294 #[.string s,.string ⟨#[c]⟩] w fun e w'=>e= .returned (.tuple #[.string (bs (s.data.toList.take (pos c s.data.toList))),.string (bs (s.data.toList.drop (pos c s.data.toList+1))),.bool (hasB c s.data.toList)])∧ ∃n,w'=w.drewN n:=by
 have HI:=Lib.hid fun W=>zbJ s c W hs;go_enter Tryz.func294,Tryz.ntmps294;go_wp2_with fail;refine (HI.out _).mono ?_;rintro e w1 ⟨rfl,n,rfl⟩;go_wp2_with fail
 go_ret3
 exact ⟨rfl,n,rfl⟩
theorem atoi_bd (l:List UInt8) (hl:l.length≤9) (b:Int) (h:numO (Lib.atoiAll l)=some b): -1000000000<b∧b<1000000000:=by
 rw [Lib.atoiAll_short l (by omega)]at h;cases ha:Lib.atoi l with
 |none=>rw [ha]at h;cases h
 |some v=>
  rw [ha]at h;obtain rfl:v=b:=Option.some.inj h
  have key: ∀(r:List UInt8) (m:Nat),r.length≤9→Lib.decFrom 0 r=some m→m<1000000000:=fun r m hr hm=>by
   have h1:=Lib.decFrom_lt r 0 m hm;have h2:(10:Nat) ^r.length≤10^9:=Nat.pow_le_pow_right (by omega) hr;have e9:(10:Nat) ^9=1000000000:=by decide
   omega
  obtain ⟨b0,r,rfl,⟨-,m,-,hm,rfl⟩|⟨-,m,-,hm,rfl⟩|⟨-,-,m,hm,rfl⟩⟩:=Lib.atoi_cases ha
  ·have:=key r m (by simp at hl;omega) hm;omega
  ·have:=key r m (by simp at hl;omega) hm;omega
  ·have:=key _ m hl hm;omega
theorem zb5 (d:List UInt8) (b:Int) (h:qjK d=some b): -1000000000<b∧b<1000000000:=by
 unfold qjK at h
 split at h
 ·exact atoi_bd _ (by rw [List.length_append,List.length_replicate];omega) b h
 ·cases h
set_option maxHeartbeats 400000 in
theorem qj8 (d:ByteArray) (w:World) (S:Std w) (hd:d.size≤maxLen):
  Calls Tryz.prog 298 #[.string d] w fun e w'=>(∃x:Int,e= .returned (.tuple #[.int .i64 x,.bool (qjK d.data.toList).isSome])∧ ∀b,qjK d.data.toList=some b→x=b)∧Below w.heap.size w w':=by
 unfold maxLen at hd;have HL:=Lib.hid (qaH d)
 by_cases hl:d.size≤9
 ·obtain ⟨k,hk⟩: ∃k:Nat,k=9-d.size:=⟨_,rfl⟩;have hk2:(9:Int) -(d.size:Int)=(k:Int):=by omega
  have HR:Hid (∀W,Calls Tryz.prog 56 #[.string ⟨#[48]⟩,.int .i64 (k:Int)] W fun e w'=>e= .returned (.string (bs (List.replicate k 48)))∧Below W.heap.size W w'):=fun W=>by
   have e1:Lib.repeatL (⟨#[48]⟩:ByteArray).data.toList k=List.replicate k 48:=by
    have:=Lib.repeatL_replicate 48 1 k;rw [Nat.mul_one]at this;exact this
   have h:=Tryz.strings_Repeat ⟨#[48]⟩ k W (by omega) (by show 1*k≤_;omega);rw [e1]at h;exact h
  have hrs:(bs (List.replicate k (48:UInt8))).size≤9:=by rw [qaC,List.length_replicate];omega
  have hF:qjK d.data.toList=numO (Lib.atoiAll (d++bs (List.replicate k 48)).data.toList):=by
   unfold qjK;rw [HL.out,if_pos hl,ByteArray.data_append,Array.toList_append,qaF,←hk]
  obtain ⟨R,HR2⟩:=qaA (bs (List.replicate k (48:UInt8)));rw [HR2.out]at HR hrs hF;obtain ⟨D,HD⟩:=qaA (d++R);have hds:D.size≤18:=by rw [←HD.out,ByteArray.size_append];omega
  rw [HD.out]at hF;rw [hF];have hk9:k≤9:=by omega
  clear hk;cases ha:numO (Lib.atoiAll D.data.toList)with
  |none=>
   have HA:=Lib.hid fun W S=>q8Y D W S (by omega) ha;clear hF ha;go_enter Tryz.func298,Tryz.ntmps298;go_wp2_with fail;refine (HR.out _).mono ?_;rintro e w1 ⟨rfl,hb1⟩;have S1:=S.below hb1;have HB1:=Lib.hid hb1;clear hb1;go_wp2_with fail;rw [HD.out];refine (HA.out _ S1).mono ?_;rintro e w2 ⟨⟨x,N,rfl⟩,hb2⟩;have HB2:=Lib.hid (HB1.out.trans (hb2.mono HB1.out.size));clear hb2;go_wp2_with fail;go_quiet (fail);go_wp2_with fail;go_ret2;exact ⟨⟨_,rfl,fun b h=>by cases h⟩,below_drewN HB2.out _⟩
  |some v=>
   have HA:=Lib.hid fun W=>qx8 D v W (by omega) ha;clear hF ha;go_enter Tryz.func298,Tryz.ntmps298;go_wp2_with fail;refine (HR.out _).mono ?_;rintro e w1 ⟨rfl,hb1⟩;have HB1:=Lib.hid hb1;clear hb1;go_wp2_with fail;rw [HD.out];refine (HA.out _).mono ?_;rintro e w2 ⟨rfl,hb2⟩;have HB2:=Lib.hid (HB1.out.trans (hb2.mono HB1.out.size));clear hb2;go_wp2_with fail;go_quiet (fail);go_wp2_with fail;go_ret2;exact ⟨⟨_,rfl,fun b h=>Option.some.inj h⟩,below_drewN HB2.out _⟩
 ·have HF:=Lib.hid (show qjK d.data.toList=none by unfold qjK;rw [HL.out,if_neg hl]);rw [HF.out];go_enter Tryz.func298,Tryz.ntmps298;go_wp2_with fail;go_ret2;exact ⟨⟨_,rfl,fun b h=>by cases h⟩,Below.refl _ _⟩
def qgG (l:List UInt8):Prop:= ∀(j:Nat) b,l[j]?=some b→b.toNat<128
theorem qgG.lt {s:ByteArray} (h:qgG s.data.toList) {i:Nat} (hi:i<s.size):(s[i]'hi).toNat<128:=h i _ (Lib.data_getElem? s i hi)
theorem qgG.drop {l:List UInt8} (h:qgG l) (k:Nat):qgG (l.drop k):=fun j b hb=>h (k+j) b (by rw [List.getElem?_drop]at hb;exact hb)
theorem zcY (l:List UInt8) (c:UInt8) (h:qgG l) (hc:128≤c.toNat):Lib.indexByte l c= -1:=by
 rw [qbX,if_neg ?_];rw [hasB,List.any_eq_true];rintro ⟨b,hb,e⟩;obtain ⟨i,hi,rfl⟩:=List.getElem_of_mem hb;have:=h i _ (List.getElem?_eq_getElem hi);rw [eq_of_beq e]at this;omega
theorem zcH (s:ByteArray) (pos:Nat) (h:pos<s.size) (ha:128≤(s[pos]'h).toNat):
  ∀j,j<(Utf8.decode s pos).2→pos+j<s.size∧128≤(s.get! (pos+j)).toNat:=by
 have hn: ¬(s[pos]'h).toNat<128:=by omega
 have g0:128≤(s.get! (pos+0)).toNat:=by rw [get_at s pos h];exact ha
 simp only [Utf8.decode,get_at s pos h,hn,if_false]
 repeat' split
 all_goals
  intro j hj
  try simp only [Bool.and_eq_true,decide_eq_true_eq,beq_iff_eq]at*
  match j,hj with
  |0,_=>exact ⟨h,g0⟩
  |1,hj=>first|(exfalso;simp at hj;done)|(constructor<;>omega)
  |2,hj=>first|(exfalso;simp at hj;done)|(constructor<;>omega)
  |3,hj=>first|(exfalso;simp at hj;done)|(constructor<;>omega)
  |j+4,hj=>exfalso;first|omega|(simp at hj)
set_option maxHeartbeats 1000000 in
theorem qo3 (s:ByteArray) (r:Int) (w:World) (h0:128≤r) (h1:r≤2147483647) (hs:s.size≤1000000) (ha:qgG s.data.toList):
  Calls Tryz.prog 335 #[.string s,.int .i32 r] w fun e w'=>e= .returned (.int .i64 (-1))∧Below w.heap.size w w':=by
 have HA:=Lib.hid ha;clear ha
 by_cases h3:r=65533
 ·subst h3;go_enter Tryz.func335,Tryz.ntmps335;go_wp2
  go_loopg [5,6] s.size (fun g _ _ wx=> ∃i:Nat,i+g=s.size∧wx=w.iter s i)
  case atStart=>exact ⟨0,by omega,rfl⟩
  case round=>
   obtain ⟨i,hig,rfl⟩:=hrel;cases gk with
   |zero=>
    obtain rfl:i=s.size:=by omega
    have hnx:=run_next_end (P:=Tryz.prog) w s s.size;go_wp2;go_ret;exact ⟨rfl,(Below.refl _ _).alloc (Nat.le_refl _) _⟩
   |succ g=>
    have hi:i<s.size:=by omega
    obtain ⟨x,hx⟩: ∃x:UInt8,s[i]'hi=x:=⟨_,rfl⟩;have hx128:x.toNat<128:=by rw [←hx];exact HA.out.lt hi
    have hnx:=fun ty=>run_next_ascii (P:=Tryz.prog) w s i ty hi (by rw [hx];exact hx128);rw [hx]at hnx;clear hx;go_wp2
    go_roundg g
    case measure=>omega
    case rel=>exact ⟨i+1,by omega,rfl⟩
 ·cases hv:Lib.validRune r
  ·go_enter Tryz.func335,Tryz.ntmps335;go_wp2_with (go_at_call 348;refine (Tryz.utf8_ValidRune _ _).mono ?_;rintro e w' ⟨rfl,hw⟩;rw [hw,hv]);go_ret;exact ⟨rfl,Below.refl _ _⟩
  ·have hv2:Utf8.valid r=true:=by rw [validRune_eq];exact hv
   obtain ⟨e1,e2,e3⟩:=encode_facts r hv2 h0;obtain ⟨R,HR⟩:=qaA (Utf8.encode r);rw [HR.out]at e1 e2 e3;obtain ⟨k,hk⟩: ∃k:Nat,R.size=k+1:=⟨R.size-1,by omega⟩;have hk1:k<R.size:=by omega
   obtain ⟨x,hx⟩: ∃x:UInt8,R[k]'hk1=x:=⟨_,rfl⟩
   have hx128:128≤x.toNat:=by
    have:=e3 (by omega);simp only [hk,Nat.add_sub_cancel]at this;rw [hx]at this;exact this
   have hx256:=q88 x;have hRn:((R.size:Int) -1)=(k:Int):=by omega
   have hk2:1≤k:=by omega
   have hk3:k≤3:=by omega
   have hconv: ∀W,(convert 21 9 (.int .i32 r)).run Tryz.prog W= .ok (.string R) W:=fun W=>by
    rw [←HR.out];exact run_convert_int_string W _ _ _ _ (by kernel_rfl) Tryz.underlying9
   have hR4:R.size≤4:=e2;clear e1 e2 e3 hv2 hk
   by_cases hks:k<s.size
   ·obtain ⟨y,hy⟩: ∃y:UInt8,s[k]'hks=y:=⟨_,rfl⟩;have hy128:y.toNat<128:=by rw [←hy];exact HA.out.lt hks
    have hne:((y.toNat:Int) !=(x.toNat:Int))=true:=by simp only [bne_iff_ne,ne_eq];omega
    have HI:Hid (∀W,Calls Tryz.prog 156 #[.string (s.extract (k+1) s.size),.int .u8 (x.toNat:Int)] W fun e w'=>e= .returned (.int .i64 (-1))∧w'=W):=fun W=>by
     refine (qb5 (s.extract (k+1) s.size) (x.toNat:Int) W).mono ?_;rintro e w' ⟨rfl,rfl⟩;refine ⟨qaV ?_,rfl⟩;rw [Lib.extract_to_end];have:((x.toNat:Int)).toNat.toUInt8=x:=by simp
     rw [this];exact zcY _ _ (HA.out.drop _) hx128
    go_enter Tryz.func335,Tryz.ntmps335;go_wp2_with (go_at_call 348;refine (Tryz.utf8_ValidRune _ _).mono ?_;rintro e w' ⟨rfl,hw⟩;rw [hw,hv])
    go_step3
    go_wp2_with fail
    go_loop [9] (fun i=>i= .int .i64 k) (fun _=>0)
    case atStart=>rfl
    case round=>
     obtain rfl:=hrel;have ya:((k:Int)+1).toNat=k+1:=by omega
     have yb:IntKind.i64.wrap ((k:Int)+1)=(k:Int)+1:=IntWalk.i64_in _ (by omega);have yc:(0:Int)≤(k:Int)+1:=by omega
     have yd:(k:Int)+1≤(s.size:Int):=by omega
     go_wp2_with fail
     go_step3
     go_wp2_with fail
     go_region
     go_wp2_with fail;go_quiet ((go_at_call 156;exact (HI.out _).mono fun e w' ⟨a,b⟩=>⟨a,_,b⟩));go_wp2_with fail;rw [Exit.noGoto_ret];go_wp2_with fail;rw [Exit.noGoto_ret];go_wp2_with fail;go_ret;exact ⟨rfl,below_drewN (Below.refl _ _) _⟩
   ·go_enter Tryz.func335,Tryz.ntmps335;go_wp2_with (go_at_call 348;refine (Tryz.utf8_ValidRune _ _).mono ?_;rintro e w' ⟨rfl,hw⟩;rw [hw,hv])
    go_step3
    go_wp2_with fail
    go_loop [9] (fun i=>i= .int .i64 k) (fun _=>0)
    case atStart=>rfl
    case round=>
     obtain rfl:=hrel;go_wp2_with fail;go_ret;exact ⟨rfl,Below.refl _ _⟩
theorem q1E {s:ByteArray} {ch:List UInt8} {i n:Nat} (h:Lib.NoAny s.data.toList ch i) (hc:qgG ch) (hn: ∀j,j<n→i+j<s.size∧128≤(s.get! (i+j)).toNat):Lib.NoAny s.data.toList ch (i+n):=by
 intro j b hj hb
 by_cases hji:j<i
 ·exact h j b hji hb
 ·obtain ⟨k,rfl⟩: ∃k,j=i+k:=⟨j-i,by omega⟩;obtain ⟨h1,h2⟩:=hn k (by omega)
  have e:s.get! (i+k)=b:=by
   rw [Lib.data_getElem? s (i+k) h1]at hb;have hb':=Option.some.inj hb;rw [←hb'];simp [ByteArray.get!,getElem!_pos,h1];rfl
  rw [e]at h2;rw [←Bool.not_eq_true];intro hcon;rw [List.contains_iff_mem]at hcon;obtain ⟨m,hm,hmb⟩:=List.getElem_of_mem hcon;have:=hc m b (by rw [List.getElem?_eq_getElem hm,hmb]);omega
set_option maxHeartbeats 2000000 in
theorem qo4 (s chars:ByteArray) (w:World) (h2:2≤chars.size) (hcs:chars.size≤1000) (h8:s.size≤8) (hac:qgG chars.data.toList):
  Calls Tryz.prog 311 #[.string s,.string chars] w fun e w'=>e= .returned (.int .i64 (Lib.indexAny s.data.toList chars.data.toList))∧Below w.heap.size w w':=by
 have HC:=Lib.hid hac
 have hemp:chars.toList.isEmpty=false:=by
  rw [Lib.toList_data];cases h:chars.data.toList with
  |nil=>have:=Lib.size_eq chars;rw [h,List.length_nil]at this;omega
  |cons _ _=>rfl
 have hn1:((chars.size:Int)==1)=false:=beq_eq_false_iff_ne.2 (by omega);have h8z:decide ((8:Int)<(s.size:Int))=false:=decide_eq_false (by omega);clear hac;go_enter Tryz.func311,Tryz.ntmps311;go_wp2_with (go_at_call 336;refine (Tryz.strings_shouldUseASCIISet _ _).mono ?_;rintro e w' ⟨rfl,hw⟩;rw [hw,h8z])
 go_loopg [9,10] s.size (fun g _ _ wx=> ∃i:Nat,i+g=s.size∧Hid (wx.heap[w.heap.size]?=some (.stringIter s i))∧Hid (Below w.heap.size w wx)∧Hid (Lib.NoAny s.data.toList chars.data.toList i))
 case atStart=>exact ⟨0,by omega,World.iter_heap _ _ _,(Below.refl _ _).alloc (Nat.le_refl _) _,Lib.NoAny.zero _ _⟩
 case round=>
  obtain ⟨i,hig,HI,HB,HN⟩:=hrel;cases gk with
  |zero=>
   obtain rfl:i=s.size:=by omega
   have hnx:=fun ty=>Lib.run_next_end_at (P:=Tryz.prog) wr w.heap.size s s.size ty HI.out (by omega);have HX:=Lib.hid (Lib.indexAny_none (by rw [←Lib.size_eq];exact HN.out));go_wp2;go_ret;exact ⟨qaV HX.out.symm,HB.out⟩
  |succ g=>
   have hi:i<s.size:=by omega
   obtain ⟨x,hx⟩: ∃x:UInt8,s[i]'hi=x:=⟨_,rfl⟩;have hxl:s.data.toList[i]?=some x:=by rw [←hx];exact Lib.data_getElem? s i hi
   by_cases hx128:x.toNat<128
   ·have hnx:=fun ty=>Lib.run_next_ascii_at (P:=Tryz.prog) wr w.heap.size s i ty HI.out hi (by rw [hx];exact hx128);rw [hx]at hnx;have Hx:=Lib.hid hxl;clear hxl hx;have hI2:=Lib.hid (Lib.iterAt_heap wr w.heap.size s i (i+1) HI.out);have hB2:=Lib.hid (Lib.below_iterAt HB.out (Nat.le_refl _) s (i+1));obtain ⟨W,HW⟩:=qaA (wr.iterAt w.heap.size s (i+1));simp only [HW.out]at hnx hI2 hB2;have hcon:=Lib.contains_iff_indexByte chars.data.toList x;have hback:((x.toNat:Int)).toNat.toUInt8=x:=by simp
    cases hin:chars.data.toList.contains x
    ·rw [hin]at hcon;have hlt: ¬((0:Int)≤Lib.indexByte chars.data.toList x):=of_decide_eq_false hcon.symm;clear hcon;go_wp2_with (go_at_call 335;refine (Tryz.strings_IndexRune_ascii _ _ _ (by omega) (by omega)).mono ?_;rintro e w' ⟨rfl,hw⟩;rw [hw,hback])
     go_roundg g
     case measure=>omega
     case rel=>exact ⟨i+1,by omega,hI2,hB2,HN.out.succ Hx.out hin⟩
    ·rw [hin]at hcon;have hge:(0:Int)≤Lib.indexByte chars.data.toList x:=of_decide_eq_true hcon.symm;have HX:=Lib.hid (Lib.indexAny_hit HN.out Hx.out hin);clear hcon;go_wp2_with (go_at_call 335;refine (Tryz.strings_IndexRune_ascii _ _ _ (by omega) (by omega)).mono ?_;rintro e w' ⟨rfl,hw⟩;rw [hw,hback]);go_ret;exact ⟨qaV HX.out.symm,hB2.out⟩
   ·have hx128':128≤(s[i]'hi).toNat:=by rw [hx];omega
    have hT:=zcH s i hi hx128';obtain ⟨hc1,hn1'⟩:=decode_high s i hi hx128';have hc2:=decode_le s i;have hnx:=fun ty=>Lib.run_next_any_at (P:=Tryz.prog) wr w.heap.size s i ty HI.out hi;have hi2:=Lib.iterAt_heap wr w.heap.size s i (i+(Utf8.decode s i).2) HI.out;have hb2:=Lib.below_iterAt HB.out (Nat.le_refl _) s (i+(Utf8.decode s i).2);obtain ⟨c,Hc⟩:=qaA (Utf8.decode s i).1;obtain ⟨n,Hn⟩:=qaA (Utf8.decode s i).2;rw [Hc.out]at hnx hc1 hc2;rw [Hn.out]at hnx hT hn1' hi2 hb2;have HN2:=Lib.hid (q1E HN.out HC.out hT)
    have hin2:i+n≤s.size:=by
     have:=(hT (n-1) (by omega)).1;omega
    have hI2:=Lib.hid hi2;have hB2:=Lib.hid hb2;obtain ⟨W,HW⟩:=qaA (wr.iterAt w.heap.size s (i+n));simp only [HW.out]at hnx;rw [HW.out]at hI2 hB2;clear hx hxl hx128 hT hi2 hb2 hx128' HN;go_wp2_with fail;refine (qo3 chars (c:Int) _ (by omega) (by omega) (by omega) HC.out).mono ?_;rintro e w1 ⟨rfl,hb⟩
    have hlt:w.heap.size<W.heap.size:=by
     rcases Nat.lt_or_ge w.heap.size W.heap.size with h'|h'
     ·exact h'
     ·have:=hI2.out;rw [Array.getElem?_eq_none h']at this;cases this
    have hI3:=Lib.hid ((hb.block _ hlt).trans hI2.out);have hB3:=Lib.hid (hB2.out.trans (hb.mono (Nat.le_of_lt hlt)));clear hb;go_wp2_with fail
    go_roundg (s.size-(i+n))
    case measure=>omega
    case rel=>exact ⟨i+n,by omega,hI3,hB3,HN2⟩
theorem qvQ (s chars:ByteArray) (w:World) (h2:2≤chars.size) (hcs:chars.size≤1000) (hs:s.size<4294967281) (hac:qgG chars.data.toList):
  Calls Tryz.prog 311 #[.string s,.string chars] w fun e w'=>e= .returned (.int .i64 (Lib.indexAny s.data.toList chars.data.toList))∧Below w.heap.size w w':=by
 by_cases h8:s.size≤8
 ·exact qo4 s chars w h2 hcs h8 hac
 ·refine (Tryz.strings_IndexAny_long (zero_of_info (show (Tryz.prog.info? 300).map (fun i=>(i.zero,i.size))=some (some (.agg (Array.replicate 256 (.bool false))),256) by kernel_rfl)).1 s chars w h2 (by omega) hs (by omega) hac).mono ?_;rintro e w' ⟨rfl,rfl⟩;exact ⟨rfl,((Below.refl _ _).alloc (Nat.le_refl _) _).alloc (by simp) _⟩
theorem qoQ (s chars:ByteArray) (w:World) (h2:2≤chars.size) (hcs:chars.size≤1000) (hs:s.size<4294967281) (hac:qgG chars.data.toList):
  Calls Tryz.prog 276 #[.string s,.string chars] w fun e w'=>e= .returned (.bool (Lib.containsAny s.data.toList chars.data.toList))∧Below w.heap.size w w':=by
 have HI:=Lib.hid fun W=>qvQ s chars W h2 hcs hs hac;go_enter Tryz.func276,Tryz.ntmps276;go_wp2_with fail;refine (HI.out _).mono ?_;rintro e w1 ⟨rfl,hb⟩;go_wp2_with fail;go_ret;exact ⟨rfl,hb⟩
theorem quM (a b:UInt8) (l:List UInt8):Lib.containsAny l [a,b]=(hasB a l||hasB b l):=by
 unfold Lib.containsAny
 induction l with
 |nil=>rfl
 |cons x l ih=>
  rw [Lib.indexAny,qcF,qcF];have hge:=Lib.indexAny_ge [a,b] l
  by_cases hx:x=a∨x=b
  ·have e: [a,b].contains x=true:=by rcases hx with rfl|rfl<;>simp
   rw [if_pos e];rcases hx with rfl|rfl<;>simp
  ·have ha: ¬x=a:=fun h=>hx (.inl h);have hb: ¬x=b:=fun h=>hx (.inr h);have e: [a,b].contains x=false:=by simp [ha,hb]
   have e1:(x==a)=false:=by simpa using ha
   have e2:(x==b)=false:=by simpa using hb
   rw [e,e1,e2,Bool.false_or,Bool.false_or,←ih]
   by_cases hm:Lib.indexAny l [a,b]= -1
   ·rw [hm];rfl
   ·have hm':(Lib.indexAny l [a,b]== -1)=false:=by simpa using hm
    rw [hm'];rw [if_neg (by decide),if_neg (by decide)];rw [decide_eq_true (by omega),decide_eq_true (by omega)]
theorem q8G:qgG (⟨#[61,10]⟩:ByteArray).data.toList:=by
 intro j b hb
 match j,hb with
 |0,hb=>cases hb;decide
 |1,hb=>cases hb;decide
 |j+2,hb=>simp at hb
theorem qq0 {k:ByteArray} (h:k.size=0):k=⟨#[]⟩:=by
 apply ByteArray.ext;apply Array.toList_inj.1;have:=qaH k;rw [h]at this;exact List.eq_nil_of_length_eq_zero this
theorem qqZ {k:ByteArray} (h:k.size≠0):k.toList.isEmpty=false:=by
 rw [Lib.toList_data];cases e:k.data.toList with
 |nil=>have:=qaH k;rw [e]at this;exact absurd this.symm h
 |cons _ _=>rfl
def recV (k v:ByteArray):Value:= .agg #[.string k,.string v]
theorem keyAny (k:ByteArray) (w:World) (hk:k.size≤60):Calls Tryz.prog 276 #[.string k,.string ⟨#[61,10]⟩] w fun e w'=>e= .returned (.bool (hasB 61 k.data.toList||hasB 10 k.data.toList))∧Below w.heap.size w w':=by
 have h:=qoQ k ⟨#[61,10]⟩ w (by decide) (by decide) (by omega) q8G;rw [show (⟨#[61,10]⟩:ByteArray).data.toList= [61,10]from rfl,quM]at h;exact h
set_option maxHeartbeats 1000000 in
theorem qpM (k v:ByteArray) (w:World) (hk:k.size≤maxLen) (hv:v.size≤maxLen):
  Calls Tryz.prog 231 #[recV k v] w fun e w'=>e= .returned (.int .i64 (chkR k.data.toList v.data.toList))∧Below w.heap.size w w':=by
 unfold maxLen at hk hv;unfold recV
 by_cases h0:k.size=0
 ·obtain rfl:=qq0 h0;have HX:=Lib.hid (show (1:Int)=chkR (⟨#[]⟩:ByteArray).data.toList v.data.toList from (qoD (.inl rfl)).symm);clear h0;rw [←HX.out];go_enter Tryz.func231,Tryz.ntmps231;go_wp2_with fail;go_ret;exact ⟨rfl,(Below.refl _ _).alloc (Nat.le_refl _) _⟩
 ·have hemp:=qqZ h0
  by_cases h1:60<k.size
  ·have HX:=Lib.hid (show (1:Int)=chkR k.data.toList v.data.toList from (qoD (.inr (.inl (by rw [qaH];exact h1)))).symm);clear h0;rw [←HX.out];go_enter Tryz.func231,Tryz.ntmps231;go_wp2_with fail;go_ret;exact ⟨rfl,(Below.refl _ _).alloc (Nat.le_refl _) _⟩
  ·by_cases h2:500<v.size
   ·have HX:=Lib.hid (show (1:Int)=chkR k.data.toList v.data.toList from (qoD (.inr (.inr (by rw [qaH];exact h2)))).symm);clear h0;rw [←HX.out];go_enter Tryz.func231,Tryz.ntmps231;go_wp2_with fail;go_ret;exact ⟨rfl,(Below.refl _ _).alloc (Nat.le_refl _) _⟩
   ·have hn: ¬(k.data.toList.length=0∨60<k.data.toList.length∨500<v.data.toList.length):=by rw [qaH,qaH];omega
    have HI:=Lib.hid fun W=>keyAny k W (by omega);have HZ:=Lib.hid fun W=>qb5 v 0 W;have hk60:k.size≤60:=by omega
    have hv500:v.size≤500:=by omega
    clear h0;cases hc:(hasB 61 k.data.toList||hasB 10 k.data.toList)
    ·rw [hc]at HI;rw [Bool.or_eq_false_iff]at hc;cases hz:hasB 0 v.data.toList
     ·have HX:=Lib.hid (show (0:Int)=chkR k.data.toList v.data.toList from (q74 hn (by rw [hc.1,hc.2,hz];simp)).symm);have HN:=Lib.hid fun W=>qbY v W hz;rw [←HX.out];clear hc hz hn;go_enter Tryz.func231,Tryz.ntmps231;go_wp2_with fail;refine (HI.out _).mono ?_;rintro e w1 ⟨rfl,hb1⟩;obtain ⟨⟨c0,c1⟩,-⟩:=blk2 (Blk.below (Blk.new w 190 #[.string k,.string v]) hb1 (by simp));have HB:=Lib.hid (((Below.refl w.heap.size w).alloc (Nat.le_refl _) _).trans (hb1.mono (by simp)));clear hb1;go_wp2_with fail;refine (HN.out _).mono ?_;rintro e w2 ⟨rfl,rfl⟩;go_wp2_with fail;go_ret;exact ⟨rfl,HB.out⟩
     ·have HX:=Lib.hid (show (3:Int)=chkR k.data.toList v.data.toList from (qvH hn (.inr (.inr hz))).symm);have HN:=Lib.hid fun W=>qb4 v W hz;rw [←HX.out];clear hc hz hn;go_enter Tryz.func231,Tryz.ntmps231;go_wp2_with fail;refine (HI.out _).mono ?_;rintro e w1 ⟨rfl,hb1⟩;obtain ⟨⟨c0,c1⟩,-⟩:=blk2 (Blk.below (Blk.new w 190 #[.string k,.string v]) hb1 (by simp));have HB:=Lib.hid (((Below.refl w.heap.size w).alloc (Nat.le_refl _) _).trans (hb1.mono (by simp)));clear hb1;go_wp2_with fail;refine (HN.out _).mono ?_;rintro e w2 ⟨rfl,rfl⟩;go_wp2_with fail;go_ret;exact ⟨rfl,HB.out⟩
    ·rw [hc]at HI;have HX:=Lib.hid (show (3:Int)=chkR k.data.toList v.data.toList from (qvH hn (by rw [Bool.or_eq_true]at hc;rcases hc with h|h;exact .inl h;exact .inr (.inl h))).symm);rw [←HX.out];clear hc hn;go_enter Tryz.func231,Tryz.ntmps231;go_wp2_with fail;refine (HI.out _).mono ?_;rintro e w1 ⟨rfl,hb1⟩;have HB:=Lib.hid (((Below.refl w.heap.size w).alloc (Nat.le_refl _) _).trans (hb1.mono (by simp)));clear hb1;go_wp2_with fail;go_ret;exact ⟨rfl,HB.out⟩
theorem qrO {n:Nat} (h:n<1000):Lib.nDigits n≤3:=by
 by_cases h1:n<10
 ·rw [nDig1 h1];omega
 ·by_cases h2:n<100
  ·rw [q5M (by omega) h2];omega
  ·rw [zbA (by omega) h];omega
theorem q7T (n:Nat):(bs (Lib.decDigits n)).size=Lib.nDigits n:=by rw [qaC,Lib.decDigits_length]
set_option maxHeartbeats 1000000 in
theorem q3L (L:Nat) (w:World) (T:Tab w) (hL:L≤900):Calls Tryz.prog 232 #[.int .i64 (L:Int)] w fun e w'=>e= .returned (.int .i64 (recN L:Int))∧Below w.heap.size w w':=by
 go_enter Tryz.func232,Tryz.ntmps232;go_wp2_with fail
 go_loopg [3] 3 (fun g s3 wx=> ∃d:Nat,s3= .int .i64 d∧d+g=4∧1≤d∧d≤3∧Hid (Below w.heap.size w wx)∧Hid ((2≤d→10≤L+1)∧(3≤d→100≤L+2)))
 case atStart=>exact ⟨1,rfl,rfl,Nat.le_refl _,by omega,Below.refl _ _,by omega,by omega⟩
 case round=>
  obtain ⟨d,rfl,hg,h1,h3,HB,HD⟩:=hrel;have T':=T.below HB.out;have HI:=Lib.hid (ql7 (L+d) wr T' (by omega));rw [Int.natCast_add]at HI;obtain ⟨D,HDn⟩:=qaA (bs (Lib.decDigits (L+d)));have HDs:=Lib.hid (q7T (L+d));rw [HDn.out]at HI HDs
  by_cases hgt:d<Lib.nDigits (L+d)
  ·have hD:(d:Int)<(D.size:Int):=by have:=HDs.out;omega
   have hds:D.size≤3:=by have:=HDs.out;have:=qrO (n:=L+d) (by omega);omega
   have hd2:d≤2:=by have:=qrO (n:=L+d) (by omega);omega
   have HD2:=Lib.hid (show (2≤d+1→10≤L+1)∧(3≤d+1→100≤L+2) by
    constructor
    ·intro _
     by_cases hd:d=1
     ·subst hd
      by_cases h10:L+1<10
      ·rw [nDig1 h10]at hgt;omega
      ·omega
     ·exact HD.out.1 (by omega)
    ·intro h;obtain rfl:d=2:=by omega
     have h10:=HD.out.1 (by omega)
     by_cases h100:L+2<100
     ·rw [q5M (by omega) h100]at hgt;omega
     ·omega)
   clear hgt;go_wp2_with fail;refine HI.out.mono ?_;rintro e w1 ⟨rfl,hb1⟩;have HB1:=Lib.hid (HB.out.trans (hb1.mono HB.out.size));clear hb1;go_wp2_with fail
   go_roundg (3-d)
   case measure=>omega
   case rel=>exact ⟨d+1,by go_num,by omega,by omega,by omega,HB1,HD2⟩
  ·have hD: ¬(d:Int)<(D.size:Int):=by have:=HDs.out;omega
   have HX:Hid (((L:Int)+(d:Int))=(recN L:Int)):=by
    unfold Hid recN;have h2:=HD.out
    by_cases h10:L+1<10
    ·rw [if_pos h10];omega
    ·rw [if_neg h10]
     have hd1:d≠1:=by
      rintro rfl;have:=q5M (n:=L+1) (by omega)
      by_cases h100:L+1<100
      ·rw [q5M (by omega) h100]at hgt;omega
      ·rw [zbA (by omega) (by omega)]at hgt;omega
     by_cases h100:L+2<100
     ·rw [if_pos h100];omega
     ·rw [if_neg h100]
      have hd2:d≠2:=by
       rintro rfl;rw [zbA (by omega) (by omega)]at hgt;omega
      omega
   clear hgt;go_wp2_with fail;refine HI.out.mono ?_;rintro e w1 ⟨rfl,hb1⟩;have HB1:=Lib.hid (HB.out.trans (hb1.mono HB.out.size));clear hb1;go_wp2_with fail;go_ret;exact ⟨qaV HX.out,HB1.out⟩
theorem zaC (k v:ByteArray):(⟨#[32]⟩:ByteArray)++k++⟨#[61]⟩++v++⟨#[10]⟩=bs (recT k.data.toList v.data.toList):=by
 apply qzP;simp [ByteArray.data_append,recT]
theorem qhB {a b A:ByteArray} (h:a++b=A) (hs:a.size+b.size≤9223372036854775807): ∀W:World,(Op.stringOp .add a b).run Tryz.prog W= .ok (.string A) W:=fun W=>by
 rw [←h];exact run_string_add_sum (P:=Tryz.prog) (w:=W) a b hs
structure Sums (k v R A1 A2 A3:ByteArray):Prop where
 e1:(⟨#[32]⟩:ByteArray)++k=A1
 e2:A1++⟨#[61]⟩=A2
 e3:A2++v=A3
 e4:A3++⟨#[10]⟩=R
theorem sums_of (k v:ByteArray): ∃A1 A2 A3,Sums k v (bs (recT k.data.toList v.data.toList)) A1 A2 A3:=
 ⟨_,_,_,rfl,rfl,rfl,zaC k v⟩
theorem chkR_le {k v:ByteArray} (h:chkR k.data.toList v.data.toList=0):k.size≤60∧v.size≤500:=by
 obtain ⟨-,h1,h2,-⟩:=qg8 h;rw [qaH]at h1 h2;exact ⟨h1,h2⟩
set_option maxHeartbeats 1000000 in
theorem qhH (k v:ByteArray) (w:World) (T:Tab w) (hk:k.size≤maxLen) (hv:v.size≤maxLen):
  Calls Tryz.prog 186 #[recV k v] w fun e w'=>e= .returned (.tuple #[.string (recW k.data.toList v.data.toList).1,.int .i64 (recW k.data.toList v.data.toList).2])∧Below w.heap.size w w':=by
 have HC:=Lib.hid fun W=>qpM k v W hk hv;obtain ⟨c,hc⟩: ∃c,chkR k.data.toList v.data.toList=c:=⟨_,rfl⟩;rw [hc]at HC;unfold recV at HC⊢;unfold maxLen at hk hv
 by_cases h0:c=0
 ·subst h0;obtain ⟨hks,hvs⟩:=chkR_le hc;rw [qrA hc];obtain ⟨R,HR⟩:=qaA (bs (recT k.data.toList v.data.toList));have HRs:Hid (R.size=k.size+v.size+3):=by unfold Hid;rw [←HR.out,qaC,qyP,qaH,qaH]
  have HTot:=Lib.hid fun W (TW:Tab W)=>q3L R.size W TW (by have:=HRs.out;omega);have hb:=qrC R.size;have hRs:R.size≤563:=by have:=HRs.out;omega
  obtain ⟨N,HN⟩:=qaA (recN R.size);rw [HN.out]at HTot hb;have HI:=Lib.hid fun W (TW:Tab W)=>ql7 N W TW (by omega);obtain ⟨D,HD⟩:=qaA (bs (Lib.decDigits N));have hDs:D.size≤3:=by rw [←HD.out,q7T];exact qrO (by omega)
  rw [HD.out]at HI
  have HX:Hid (D++R=bs (recL k.data.toList v.data.toList)):=by
   unfold Hid;rw [←HD.out,←HR.out,qoH,recL,←HN.out,HRs.out,qaH,qaH]
  obtain ⟨A1,A2,A3,hSm⟩:=sums_of k v;rw [HR.out]at hSm;have z1:A1.size=k.size+1:=by rw [←hSm.e1,ByteArray.size_append];show 1+_=_;omega
  have z2:A2.size=k.size+2:=by rw [←hSm.e2,ByteArray.size_append,z1];rfl
  have z3:A3.size=k.size+v.size+2:=by rw [←hSm.e3,ByteArray.size_append,z2];omega
  have p1:=qhB hSm.e1 (by show 1+_≤_;omega);have p2:=qhB hSm.e2 (by show _+1≤_;omega);have p3:=qhB hSm.e3 (by omega);have p4:=qhB hSm.e4 (by show _+1≤_;omega);have p5:=qhB HX.out (by omega);obtain ⟨X,HXn⟩:=qaA (bs (recL k.data.toList v.data.toList));rw [HXn.out]at p5⊢;clear hc hb z1 z2 z3 hSm HX;go_enter Tryz.func186,Tryz.ntmps186;go_wp2_with fail;refine (HC.out _).mono ?_;rintro e w1 ⟨rfl,hb1⟩;obtain ⟨⟨c0,c1⟩,-⟩:=blk2 (Blk.below (Blk.new w 190 #[.string k,.string v]) hb1 (by simp));have HB:=Lib.hid (((Below.refl w.heap.size w).alloc (Nat.le_refl _) _).trans (hb1.mono (by simp)));have T1:=T.below HB.out;clear hb1;go_wp2_with fail;refine (HTot.out _ T1).mono ?_;rintro e w2 ⟨rfl,hb2⟩;have HB2:=Lib.hid (HB.out.trans (hb2.mono HB.out.size));have T2:=T.below HB2.out;clear hb2;go_wp2_with fail;refine (HI.out _ T2).mono ?_;rintro e w3 ⟨rfl,hb3⟩;have HB3:=Lib.hid (HB2.out.trans (hb3.mono HB2.out.size));clear hb3;go_wp2_with fail;go_ret2;exact ⟨rfl,HB3.out⟩
 ·have hw:=q4P (k:=k.data.toList) (v:=v.data.toList) (by rw [hc];exact h0);rw [hw,hc];have hne:(c !=0)=true:=by simpa using h0
  clear hw hc h0;go_enter Tryz.func186,Tryz.ntmps186;go_wp2_with fail;refine (HC.out _).mono ?_;rintro e w1 ⟨rfl,hb1⟩;have HB:=Lib.hid (((Below.refl w.heap.size w).alloc (Nat.le_refl _) _).trans (hb1.mono (by simp)));clear hb1;go_wp2_with fail;go_ret2;exact ⟨rfl,HB.out⟩
def TxS (w:World) (k v:ByteArray) (W:World):Prop:=Blk W w.heap.size 190 #[.string k,.string v]∧Tab W∧Below w.heap.size w W
structure Sums5 (D k v R A1 A2 A3 A4:ByteArray):Prop where
 e1:D++⟨#[32]⟩=A1
 e2:A1++k=A2
 e3:A2++⟨#[61]⟩=A3
 e4:A3++v=A4
 e5:A4++⟨#[10]⟩=R
theorem zd0 (c:UInt8):isD c=true↔(48:Int)≤(c.toNat:Int)∧(c.toNat:Int)≤57:=by
 unfold isD;rw [decide_eq_true_eq];omega
set_option maxHeartbeats 1000000 in
theorem qlD (s:ByteArray) (w:World) (hs:s.size≤maxLen):Calls Tryz.prog 295 #[.string s] w fun e w'=>e= .returned (.bool (numB s.data.toList))∧w=w':=by
 unfold maxLen at hs
 by_cases h0:s.size=0
 ·obtain rfl:=qq0 h0;clear h0;go_enter Tryz.func295,Tryz.ntmps295;go_wp2_with fail;go_ret;exact ⟨rfl,rfl⟩
 ·have hemp:=qqZ h0
  by_cases h4:4<s.size
  ·have HX:=Lib.hid (show false=numB s.data.toList from (by unfold numB;rw [decide_eq_false (by rw [qaH];omega),Bool.false_and]));rw [←HX.out];clear h0;go_enter Tryz.func295,Tryz.ntmps295;go_wp2_with fail;go_ret;exact ⟨rfl,rfl⟩
  ·have hlt0:0<s.size:=by omega
   have hh:s.data.toList.head?=some (s[0]'hlt0):=by
    rw [List.head?_eq_getElem?];exact Lib.data_getElem? s 0 hlt0
   by_cases hz:s[0]'hlt0=48
   ·have hz':(((s[0]'hlt0).toNat:Int)==48)=true:=by rw [hz];rfl
    have HX:=Lib.hid (show false=numB s.data.toList from (by unfold numB;rw [decide_eq_false (by rw [hh,hz];exact fun a=>a.2.2 rfl),Bool.false_and]));rw [←HX.out];clear h0 hz hh;go_enter Tryz.func295,Tryz.ntmps295;go_wp2_with fail;go_ret;exact ⟨rfl,rfl⟩
   ·have hz':(((s[0]'hlt0).toNat:Int)==48)=false:=by
     rw [beq_eq_false_iff_ne];intro a;exact hz (UInt8.toNat_inj.1 (by show _=48;omega))
    have HN:=Lib.hid (show 1≤s.data.toList.length∧s.data.toList.length≤4∧s.data.toList.head?≠some 48 from ⟨by rw [qaH];omega,by rw [qaH];omega,by rw [hh];exact fun a=>hz (Option.some.inj a)⟩);clear h0 hz hh;go_enter Tryz.func295,Tryz.ntmps295;go_wp2_with fail
    go_loop [18] (fun i=> ∃k:Nat,k≤s.size∧i= .int .i64 k∧Hid (∀c∈s.data.toList.take k,isD c=true)) (fun i=>s.size-(intOf i).toNat)
    case atStart=>exact ⟨0,Nat.zero_le _,rfl,fun c hc=>by simp at hc⟩
    case round=>
     obtain ⟨k,hk,rfl,HD⟩:=hrel
     by_cases hlt:k<s.size
     ·have Hs:=Lib.hid (qe7 s k hlt);obtain ⟨c,hc⟩: ∃c:UInt8,s[k]=c:=⟨_,rfl⟩;have hcu:=q88 c
      by_cases hd:isD c=true
      ·have HD2:Hid (∀c∈s.data.toList.take (k+1),isD c=true):=by
        unfold Hid;rw [Hs.out,hc];intro x hx;rcases List.mem_append.1 hx with hx|hx
        ·exact HD.out x hx
        ·rw [List.mem_singleton.1 hx];exact hd
       obtain ⟨h1,h2⟩:=(zd0 c).1 hd;clear hd;go_wp2_with fail;go_round
       case rel=>exact ⟨k+1,by omega,by go_num,HD2⟩
       case measure=>simp [intOf];omega
      ·have HX:=Lib.hid (show false=numB s.data.toList from (by
        cases e:numB s.data.toList
        ·rfl
        ·have:=(qfY e).2 c (by rw [←hc];exact Array.getElem_mem_toList (xs:=s.data) hlt)
         exact absurd this hd))
       rw [zd0]at hd;rcases (show (c.toNat:Int)<48∨(¬(c.toNat:Int)<48∧57<(c.toNat:Int)) by omega)with h1|⟨h1,h2⟩
       all_goals
        clear hd;go_wp2_with fail;go_ret;exact ⟨qcA HX.out,rfl⟩
     ·obtain rfl:k=s.size:=by omega
      have HX:=Lib.hid (show true=numB s.data.toList from (q5H HN.out (by have:=HD.out;rw [←qaH,List.take_length]at this;exact this)).symm);go_wp2_with fail;go_ret;exact ⟨qcA HX.out,rfl⟩
def recZ:Array Value:= #[.string ⟨#[]⟩,.string ⟨#[]⟩]
structure Spl (t:ByteArray) (st:Nat) (B X K V:ByteArray) (e f:Bool):Prop where
 hB:t.extract st t.size=B
 hs: ∀W:World,Calls Tryz.prog 324 #[.string B,.string ⟨#[10]⟩] W fun e' w'=>e'= .returned (.tuple #[.string X,.bool e])∧W=w'
 hc: ∀W:World,Calls Tryz.prog 294 #[.string X,.string ⟨#[61]⟩] W fun e' w'=>e'= .returned (.tuple #[.string K,.string V,.bool f])∧ ∃n,w'=W.drewN n
 hX:X.size≤t.size
 hK:K.size≤t.size
 hV:V.size≤t.size
theorem zdQ (t:ByteArray) (st:Nat) (ht:t.size≤100000): ∃B X,Spl t st B X (bs (splK t.data.toList st)) (bs (splV t.data.toList st)) (Lib.hasSuffix (t.data.toList.drop st) [10]) (hasB 61 (splB t.data.toList st)):=by
 have hBl:(t.extract st t.size).data.toList=t.data.toList.drop st:=qd3 t st
 have hXl:(splB t.data.toList st).length≤t.size:=by
  unfold splB Lib.trimSuffix
  split
  ·rw [List.length_take,List.length_drop,qaH];omega
  ·rw [List.length_drop,qaH];omega
 refine ⟨_,bs (splB t.data.toList st),rfl,fun W=> ?_,fun W=> ?_,by rw [qaC];exact hXl,?_,?_⟩
 ·refine (Tryz.strings_CutSuffix (t.extract st t.size) ⟨#[10]⟩ W (by rw [ByteArray.size_extract];omega)).mono ?_;rintro e w' ⟨rfl,rfl⟩;rw [hBl];exact ⟨rfl,rfl⟩
 ·have h:=qs2 (bs (splB t.data.toList st)) 61 W (by rw [qaC];unfold maxLen;omega);rw [qaF]at h;exact h
 ·rw [qaC];unfold splK;rw [List.length_take];omega
 ·rw [qaC];unfold splV;rw [List.length_drop];omega
set_option maxHeartbeats 1000000 in
theorem q0H (t:ByteArray) (st:Nat) (w:World) (hst:st≤100) (ht:t.size≤100000) (h:splO t.data.toList st=false):
  Calls Tryz.prog 296 #[.string t,.int .i64 st] w fun e w'=>e= .returned (.tuple #[recV ⟨#[]⟩ ⟨#[]⟩,.bool false])∧Below w.heap.size w w':=by
 unfold recV
 by_cases hl:t.size≤st
 ·clear h;go_enter Tryz.func296,Tryz.ntmps296;go_wp2_with fail;exact bodyPost_ret (v:= .tuple #[.agg #[.string ⟨#[]⟩,.string ⟨#[]⟩],.bool false]) (by simp [results,Tryz.results296,go_sem, *]) rfl ⟨rfl,(Below.refl _ _).alloc (Nat.le_refl _) _⟩
 ·obtain ⟨B,X,hS⟩:=zdQ t st ht
  have hef:(Lib.hasSuffix (t.data.toList.drop st) [10] &&hasB 61 (splB t.data.toList st))=false:=by
   unfold splO at h;rw [decide_eq_true (by rw [qaH];omega),Bool.true_and]at h;exact h
  obtain ⟨K,HK⟩:=qaA (bs (splK t.data.toList st));obtain ⟨V,HV⟩:=qaA (bs (splV t.data.toList st));obtain ⟨e,He⟩:=qaA (Lib.hasSuffix (t.data.toList.drop st) [10]);obtain ⟨f,Hf⟩:=qaA (hasB 61 (splB t.data.toList st));rw [He.out,Hf.out]at hef;rw [HK.out,HV.out,He.out,Hf.out]at hS;have HS:=Lib.hid hS.hs;have HC:=Lib.hid hS.hc;have HB:=Lib.hid hS.hB;have hst1:st<t.size:=by omega
  clear h hS;cases e
  all_goals
   cases f
   all_goals
    first
     |(exfalso;revert hef;decide)
     |(clear hef;go_enter Tryz.func296,Tryz.ntmps296;go_wp2_with fail;rw [HB.out];refine (HS.out _).mono ?_;rintro e1 w1 ⟨rfl,rfl⟩;go_wp2_with fail;refine (HC.out _).mono ?_;rintro e1 w1 ⟨rfl,n1,rfl⟩;go_wp2_with fail;exact bodyPost_ret (v:= .tuple #[.agg #[.string ⟨#[]⟩,.string ⟨#[]⟩],.bool false]) (by simp [results,Tryz.results296,go_sem, *]) rfl ⟨rfl,Below.set2 (below_drewN ((Below.refl _ _).alloc (Nat.le_refl _) _) _) (Nat.le_refl _) _ _⟩)
set_option maxHeartbeats 1000000 in
theorem qj0 (t:ByteArray) (st:Nat) (w:World) (hst:st≤100) (ht:t.size≤100000) (h:splO t.data.toList st=true):
  Calls Tryz.prog 296 #[.string t,.int .i64 st] w fun e w'=>e= .returned (.tuple #[recV (bs (splK t.data.toList st)) (bs (splV t.data.toList st)),.bool true])∧Below w.heap.size w w':=by
 unfold recV;unfold splO at h;rw [Bool.and_eq_true,Bool.and_eq_true,decide_eq_true_eq,qaH]at h;obtain ⟨hst1,he,hf⟩:=h;obtain ⟨B,X,hS⟩:=zdQ t st ht;rw [he,hf]at hS;obtain ⟨K,HK⟩:=qaA (bs (splK t.data.toList st));obtain ⟨V,HV⟩:=qaA (bs (splV t.data.toList st));rw [HK.out,HV.out]at hS⊢;have HS:=Lib.hid hS.hs;have HC:=Lib.hid hS.hc;have HB:=Lib.hid hS.hB;have HK1:=Lib.hid hS.hK;have HV1:=Lib.hid hS.hV;clear he hf hS;go_enter Tryz.func296,Tryz.ntmps296;go_wp2_with fail;rw [HB.out];refine (HS.out _).mono ?_;rintro e1 w1 ⟨rfl,rfl⟩;go_wp2_with fail;refine (HC.out _).mono ?_;rintro e1 w1 ⟨rfl,n1,rfl⟩;have hb0:=Blk.drewN (Blk.new w 190 recZ) n1;have hw0:Below w.heap.size w ((w.alloc (.cells recZ 190)).drewN n1):=below_drewN ((Below.refl _ _).alloc (Nat.le_refl _) _) _;unfold recZ at hb0 hw0;go_wp2_with fail;refine (qa5 K _ (by have:=HK1.out;omega)).mono ?_;rintro e1 w1 ⟨rfl,hb1⟩;have hb1':=hb0.below hb1 hb0.lt;have hw1:=hw0.trans (hb1.mono (Nat.le_of_lt hb0.lt));clear hb0 hw0 hb1;go_wp2_with fail;refine (qa5 V _ (by have:=HV1.out;omega)).mono ?_;rintro e1 w2 ⟨rfl,hb2⟩;have hb2':=hb1'.below hb2 hb1'.lt;have HW2:=Lib.hid (hw1.trans (hb2.mono (Nat.le_of_lt hb1'.lt)));clear hb1' hw1 hb2;obtain ⟨⟨c0,c1⟩,f0,f1⟩:=blk2 hb2';have HP:=Lib.hid (Blk.put2 hb2' (.string K) (.string V));clear hb2';go_wp2_with fail;obtain ⟨⟨c0',c1'⟩,f0',f1'⟩:=blk2 HP.out
 exact bodyPost_ret (v:= .tuple #[.agg #[.string K,.string V],.bool true]) (by simp [results,Tryz.results296,go_sem, *]) rfl ⟨rfl,Below.set2 HW2.out (Nat.le_refl _) _ _⟩
def rdV (r:List UInt8×List UInt8×List UInt8×Int):Value:= .tuple #[recV (bs r.1) (bs r.2.1),.string (bs r.2.2.1),.int .i64 r.2.2.2]
theorem qtV (c:Int):rdV ([], [], [],c)= .tuple #[.agg #[.string ⟨#[]⟩,.string ⟨#[]⟩],.string ⟨#[]⟩,.int .i64 c]:=rfl
theorem qfH (s:ByteArray) (k:Nat):(s.extract 0 k).data.toList=s.data.toList.take k:=by
 rw [ByteArray.data_extract,Array.toList_extract];simp [List.extract]
set_option maxHeartbeats 1000000 in
theorem q20 (s:ByteArray) (w:World) (hs:s.size≤281474976710656) (h: ¬(hasB 32 s.data.toList=true∧numB (s.data.toList.take (pos 32 s.data.toList))=true)):
  Calls Tryz.prog 249 #[.string s] w fun e w'=>e= .returned (rdV (recR s.data.toList))∧Below w.heap.size w w':=by
 rw [q0W h,qtV];have HC:=Lib.hid fun W=>qs2 s 32 W (by unfold maxLen;omega);have HN:=Lib.hid fun W=>qlD (bs (s.data.toList.take (pos 32 s.data.toList))) W (by rw [qaC,List.length_take];unfold maxLen;rw [qaH];omega);rw [qaF]at HN;obtain ⟨A,HA⟩:=qaA (bs (s.data.toList.take (pos 32 s.data.toList)));obtain ⟨B,HB⟩:=qaA (bs (s.data.toList.drop (pos 32 s.data.toList+1)));obtain ⟨f,Hf⟩:=qaA (hasB 32 s.data.toList);obtain ⟨b,Hb⟩:=qaA (numB (s.data.toList.take (pos 32 s.data.toList)));rw [HA.out,HB.out,Hf.out]at HC;rw [HA.out,Hb.out]at HN;rw [Hf.out,Hb.out]at h;cases f
 ·clear h;go_enter Tryz.func249,Tryz.ntmps249;go_wp2_with fail;refine (HC.out _).mono ?_;rintro e1 w1 ⟨rfl,n1,rfl⟩;go_wp2_with fail;exact bodyPost_ret (v:= .tuple #[.agg #[.string ⟨#[]⟩,.string ⟨#[]⟩],.string ⟨#[]⟩,.int .i64 3]) (by simp [results,Tryz.results249,go_sem, *]) rfl ⟨rfl,Below.set2 (below_drewN ((Below.refl _ _).alloc (Nat.le_refl _) _) _) (Nat.le_refl _) _ _⟩
 ·cases b
  ·clear h;go_enter Tryz.func249,Tryz.ntmps249;go_wp2_with fail;refine (HC.out _).mono ?_;rintro e1 w1 ⟨rfl,n1,rfl⟩;go_wp2_with fail;refine (HN.out _).mono ?_;rintro e1 w1 ⟨rfl,rfl⟩;go_wp2_with fail;exact bodyPost_ret (v:= .tuple #[.agg #[.string ⟨#[]⟩,.string ⟨#[]⟩],.string ⟨#[]⟩,.int .i64 3]) (by simp [results,Tryz.results249,go_sem, *]) rfl ⟨rfl,Below.set2 (below_drewN ((Below.refl _ _).alloc (Nat.le_refl _) _) _) (Nat.le_refl _) _ _⟩
  ·exact absurd ⟨rfl,rfl⟩ h
structure Fro (s:ByteArray) (n:Nat) (A B:ByteArray):Prop where
 hc: ∀W:World,Calls Tryz.prog 294 #[.string s,.string ⟨#[32]⟩] W fun e w'=>e= .returned (.tuple #[.string A,.string B,.bool true])∧ ∃n,w'=W.drewN n
 hn: ∀W:World,Calls Tryz.prog 295 #[.string A] W fun e w'=>e= .returned (.bool true)∧W=w'
 ha: ∀W:World,Calls Tryz.prog 174 #[.string A] W fun e w'=>e= .returned (.tuple #[.int .i64 (n:Int),.nilIface])∧Below W.heap.size W w'
theorem quU (s:ByteArray) (hs:s.size≤281474976710656) (hb:hasB 32 s.data.toList=true) (hn:numB (s.data.toList.take (pos 32 s.data.toList))=true):
  Fro s (dVal (s.data.toList.take (pos 32 s.data.toList))) (bs (s.data.toList.take (pos 32 s.data.toList))) (bs (s.data.toList.drop (pos 32 s.data.toList+1))):=by
 have hAs:(bs (s.data.toList.take (pos 32 s.data.toList))).size≤s.size:=by rw [qaC,List.length_take,qaH];omega
 refine ⟨fun W=> ?_,fun W=> ?_,fun W=> ?_⟩
 ·have h:=qs2 s 32 W (by unfold maxLen;omega);rw [hb]at h;exact h
 ·have h:=qlD (bs (s.data.toList.take (pos 32 s.data.toList))) W (by unfold maxLen;omega);rw [qaF,hn]at h;exact h
 ·exact qx8 _ _ W (by omega) (by rw [qaF,zcV _ hn];rfl)
set_option maxHeartbeats 1000000 in
theorem q2Z (s:ByteArray) (w:World) (hs:s.size≤281474976710656) (hb:hasB 32 s.data.toList=true) (hn:numB (s.data.toList.take (pos 32 s.data.toList))=true) (h:s.size<dVal (s.data.toList.take (pos 32 s.data.toList))):
  Calls Tryz.prog 249 #[.string s] w fun e w'=>e= .returned (rdV (recR s.data.toList))∧Below w.heap.size w w':=by
 rw [q0V hb hn rfl (by rw [qaH];exact h),qtV];have hF:=quU s hs hb hn;have hd:=(qjQ _ hn).2;obtain ⟨A,HA⟩:=qaA (bs (s.data.toList.take (pos 32 s.data.toList)));obtain ⟨B,HB⟩:=qaA (bs (s.data.toList.drop (pos 32 s.data.toList+1)));obtain ⟨n,Hn⟩:=qaA (dVal (s.data.toList.take (pos 32 s.data.toList)));rw [HA.out,HB.out,Hn.out]at hF;rw [Hn.out]at h hd;have HC:=Lib.hid hF.hc;have HN:=Lib.hid hF.hn;have HI:=Lib.hid hF.ha;clear hb hn hF;go_enter Tryz.func249,Tryz.ntmps249;go_wp2_with fail;refine (HC.out _).mono ?_;rintro e1 w1 ⟨rfl,n1,rfl⟩;go_wp2_with fail;refine (HN.out _).mono ?_;rintro e1 w1 ⟨rfl,rfl⟩;have hb0:=Blk.drewN (Blk.new w 190 recZ) n1;have hw0:Below w.heap.size w ((w.alloc (.cells recZ 190)).drewN n1):=below_drewN ((Below.refl _ _).alloc (Nat.le_refl _) _) _;unfold recZ at hb0 hw0;go_wp2_with fail;refine (HI.out _).mono ?_;rintro e1 w2 ⟨rfl,hb2⟩;have hb2':=hb0.below hb2 hb0.lt;have HW2:=Lib.hid (hw0.trans (hb2.mono (Nat.le_of_lt hb0.lt)));clear hb0 hw0 hb2;obtain ⟨⟨c0,c1⟩,f0,f1⟩:=blk2 hb2';have HP:=Lib.hid (Blk.put2 hb2' (.string ⟨#[]⟩) (.string ⟨#[]⟩));clear hb2';go_wp2_with fail;obtain ⟨⟨c0',c1'⟩,f0',f1'⟩:=blk2 HP.out;exact bodyPost_ret (v:= .tuple #[.agg #[.string ⟨#[]⟩,.string ⟨#[]⟩],.string ⟨#[]⟩,.int .i64 7]) (by simp [results,Tryz.results249,go_sem, *]) rfl ⟨rfl,Below.set2 HW2.out (Nat.le_refl _) _ _⟩
set_option maxHeartbeats 1000000 in
theorem q2Y (s:ByteArray) (w:World) (hs:s.size≤281474976710656) (hb:hasB 32 s.data.toList=true) (hn:numB (s.data.toList.take (pos 32 s.data.toList))=true) (h:dVal (s.data.toList.take (pos 32 s.data.toList))≤s.size)
  (h2:splO (s.data.toList.take (dVal (s.data.toList.take (pos 32 s.data.toList)))) (pos 32 s.data.toList+1)=false):
  Calls Tryz.prog 249 #[.string s] w fun e w'=>e= .returned (rdV (recR s.data.toList))∧Below w.heap.size w w':=by
 rw [q0U hb hn rfl rfl (by rw [qaH];exact h) h2,qtV];have hF:=quU s hs hb hn;have hd:=qjQ _ hn
 have hA:(bs (s.data.toList.take (pos 32 s.data.toList))).size=pos 32 s.data.toList:=by
  rw [qaC,List.length_take];have:=qgE 32 s.data.toList;omega
 have hp4:pos 32 s.data.toList≤4:=by
  have:=(qfY hn).1.2.1;rw [List.length_take]at this;have:=qgE 32 s.data.toList;omega
 obtain ⟨A,HA⟩:=qaA (bs (s.data.toList.take (pos 32 s.data.toList)));obtain ⟨B,HB⟩:=qaA (bs (s.data.toList.drop (pos 32 s.data.toList+1)));obtain ⟨n,Hn⟩:=qaA (dVal (s.data.toList.take (pos 32 s.data.toList)));rw [HA.out,HB.out,Hn.out]at hF;rw [Hn.out]at h hd h2;rw [HA.out]at hA;rw [←hA]at h2 hp4;have HC:=Lib.hid hF.hc;have HN:=Lib.hid hF.hn;have HI:=Lib.hid hF.ha;have HPl:=Lib.hid (qfH s n);have hPs:(s.extract 0 n).size≤n:=by rw [ByteArray.size_extract];omega
 obtain ⟨P,HP⟩:=qaA (s.extract 0 n);rw [HP.out]at HPl hPs;rw [←HPl.out]at h2;have HS:=Lib.hid fun W=>q0H P (A.size+1) W (by omega) (by omega) h2;rw [Int.natCast_add]at HS;unfold recV at HS;clear hb hn hF h2 hA;go_enter Tryz.func249,Tryz.ntmps249;go_wp2_with fail;refine (HC.out _).mono ?_;rintro e1 w1 ⟨rfl,n1,rfl⟩;go_wp2_with fail;refine (HN.out _).mono ?_;rintro e1 w1 ⟨rfl,rfl⟩;have hb0:=Blk.drewN (Blk.new w 190 recZ) n1;have hw0:Below w.heap.size w ((w.alloc (.cells recZ 190)).drewN n1):=below_drewN ((Below.refl _ _).alloc (Nat.le_refl _) _) _;unfold recZ at hb0 hw0;go_wp2_with fail;refine (HI.out _).mono ?_;rintro e1 w2 ⟨rfl,hb2⟩;have hb2':=hb0.below hb2 hb0.lt;have hw2:=hw0.trans (hb2.mono (Nat.le_of_lt hb0.lt));clear hb0 hw0 hb2;go_wp2_with fail;rw [HP.out];refine (HS.out _).mono ?_;rintro e1 w3 ⟨rfl,hb3⟩;have hb3':=hb2'.below hb3 hb2'.lt;have HW3:=Lib.hid (hw2.trans (hb3.mono (Nat.le_of_lt hb2'.lt)));clear hb2' hw2 hb3;have hb4:=hb3'.alloc (.cells #[.string ⟨#[]⟩,.string ⟨#[]⟩] 190);obtain ⟨⟨c0,c1⟩,f0,f1⟩:=blk2 hb4;have HP4:=Lib.hid (Blk.put2 hb4 (.string ⟨#[]⟩) (.string ⟨#[]⟩));clear hb3' hb4;go_wp2_with fail;obtain ⟨⟨c0',c1'⟩,f0',f1'⟩:=blk2 HP4.out;exact bodyPost_ret (v:= .tuple #[.agg #[.string ⟨#[]⟩,.string ⟨#[]⟩],.string ⟨#[]⟩,.int .i64 3]) (by simp [results,Tryz.results249,go_sem, *]) rfl ⟨rfl,Below.set2 (HW3.out.alloc HW3.out.size _) (Nat.le_refl _) _ _⟩
theorem qmE (l:List UInt8) (st:Nat):(splK l st).length≤l.length∧(splV l st).length≤l.length:=by
 have:(splB l st).length≤l.length:=by
  unfold splB Lib.trimSuffix
  split
  ·rw [List.length_take,List.length_drop];omega
  ·rw [List.length_drop];omega
 unfold splK splV;rw [List.length_take,List.length_drop];omega
set_option maxHeartbeats 1000000 in
theorem zdF (s:ByteArray) (w:World) (T:Tab w) (hs:s.size≤281474976710656) (hb:hasB 32 s.data.toList=true) (hn:numB (s.data.toList.take (pos 32 s.data.toList))=true) (h:dVal (s.data.toList.take (pos 32 s.data.toList))≤s.size)
  (h2:splO (s.data.toList.take (dVal (s.data.toList.take (pos 32 s.data.toList)))) (pos 32 s.data.toList+1)=true)
  (h3:chkR (splK (s.data.toList.take (dVal (s.data.toList.take (pos 32 s.data.toList)))) (pos 32 s.data.toList+1)) (splV (s.data.toList.take (dVal (s.data.toList.take (pos 32 s.data.toList)))) (pos 32 s.data.toList+1))≠0):
  Calls Tryz.prog 249 #[.string s] w fun e w'=>e= .returned (rdV (recR s.data.toList))∧Below w.heap.size w w':=by
 rw [zaB hb hn rfl rfl (by rw [qaH];exact h) h2 h3,qtV];have hF:=quU s hs hb hn;have hd:=qjQ _ hn
 have hA:(bs (s.data.toList.take (pos 32 s.data.toList))).size=pos 32 s.data.toList:=by
  rw [qaC,List.length_take];have:=qgE 32 s.data.toList;omega
 have hp4:pos 32 s.data.toList≤4:=by
  have:=(qfY hn).1.2.1;rw [List.length_take]at this;have:=qgE 32 s.data.toList;omega
 obtain ⟨A,HA⟩:=qaA (bs (s.data.toList.take (pos 32 s.data.toList)));obtain ⟨B,HB⟩:=qaA (bs (s.data.toList.drop (pos 32 s.data.toList+1)));obtain ⟨n,Hn⟩:=qaA (dVal (s.data.toList.take (pos 32 s.data.toList)));rw [HA.out,HB.out,Hn.out]at hF;rw [Hn.out]at h hd h2 h3⊢;rw [HA.out]at hA;rw [←hA]at h2 h3 hp4⊢;have HC:=Lib.hid hF.hc;have HN:=Lib.hid hF.hn;have HI:=Lib.hid hF.ha;have HPl:=Lib.hid (qfH s n);have hPs:(s.extract 0 n).size≤n:=by rw [ByteArray.size_extract];omega
 obtain ⟨P,HP⟩:=qaA (s.extract 0 n);rw [HP.out]at HPl hPs;rw [←HPl.out]at h2 h3⊢;have HS:=Lib.hid fun W=>qj0 P (A.size+1) W (by omega) (by omega) h2;rw [Int.natCast_add]at HS;unfold recV at HS;obtain ⟨z1,z2⟩:=qmE P.data.toList (A.size+1);rw [qaH]at z1 z2;have HWr:=Lib.hid fun W (TW:Tab W)=>qhH (bs (splK P.data.toList (A.size+1))) (bs (splV P.data.toList (A.size+1))) W TW (by rw [qaC];unfold maxLen;omega) (by rw [qaC];unfold maxLen;omega);rw [qaF,qaF,q4P h3]at HWr;unfold recV at HWr;obtain ⟨K,HK⟩:=qaA (bs (splK P.data.toList (A.size+1)));obtain ⟨V,HV⟩:=qaA (bs (splV P.data.toList (A.size+1)));obtain ⟨c,Hc⟩:=qaA (chkR (splK P.data.toList (A.size+1)) (splV P.data.toList (A.size+1)));rw [HK.out,HV.out]at HS HWr;rw [Hc.out]at HWr h3⊢;have hc0:(c !=0)=true:=by simpa using h3
 clear hb hn hF h2 hA h3 z1 z2;go_enter Tryz.func249,Tryz.ntmps249;go_wp2_with fail;refine (HC.out _).mono ?_;rintro e1 w1 ⟨rfl,n1,rfl⟩;go_wp2_with fail;refine (HN.out _).mono ?_;rintro e1 w1 ⟨rfl,rfl⟩;have hb0:=Blk.drewN (Blk.new w 190 recZ) n1;have hw0:Below w.heap.size w ((w.alloc (.cells recZ 190)).drewN n1):=below_drewN ((Below.refl _ _).alloc (Nat.le_refl _) _) _;unfold recZ at hb0 hw0;go_wp2_with fail;refine (HI.out _).mono ?_;rintro e1 w2 ⟨rfl,hb2⟩;have hb2':=hb0.below hb2 hb0.lt;have hw2:=hw0.trans (hb2.mono (Nat.le_of_lt hb0.lt));clear hb0 hw0 hb2;go_wp2_with fail;rw [HP.out];refine (HS.out _).mono ?_;rintro e1 w3 ⟨rfl,hb3⟩;have hb3':=hb2'.below hb3 hb2'.lt;have hw3:=hw2.trans (hb3.mono (Nat.le_of_lt hb2'.lt));clear hb2' hw2 hb3;have hb4:=hb3'.alloc (.cells #[.string K,.string V] 190);have hw4:Below w.heap.size w (w3.alloc (.cells #[.string K,.string V] 190)):=hw3.alloc hw3.size _;go_wp2_with fail;refine (HWr.out _ (T.below hw4)).mono ?_;rintro e1 w5 ⟨rfl,hb5⟩;have hb5':=hb4.below hb5 hb4.lt;have HW5:=Lib.hid (hw4.trans (hb5.mono hw4.size));obtain ⟨⟨c0,c1⟩,f0,f1⟩:=blk2 hb5';have HP5:=Lib.hid (Blk.put2 hb5' (.string ⟨#[]⟩) (.string ⟨#[]⟩));clear hb3' hb4 hb5' hw3 hw4 hb5;go_wp2_with fail;obtain ⟨⟨c0',c1'⟩,f0',f1'⟩:=blk2 HP5.out;exact bodyPost_ret (v:= .tuple #[.agg #[.string ⟨#[]⟩,.string ⟨#[]⟩],.string ⟨#[]⟩,.int .i64 c]) (by simp [results,Tryz.results249,go_sem, *]) rfl ⟨rfl,Below.set2 HW5.out (Nat.le_refl _) _ _⟩
set_option maxHeartbeats 1000000 in
theorem zdE (s:ByteArray) (w:World) (T:Tab w) (hs:s.size≤281474976710656) (hb:hasB 32 s.data.toList=true) (hn:numB (s.data.toList.take (pos 32 s.data.toList))=true) (h:dVal (s.data.toList.take (pos 32 s.data.toList))≤s.size)
  (h2:splO (s.data.toList.take (dVal (s.data.toList.take (pos 32 s.data.toList)))) (pos 32 s.data.toList+1)=true)
  (h3:chkR (splK (s.data.toList.take (dVal (s.data.toList.take (pos 32 s.data.toList)))) (pos 32 s.data.toList+1)) (splV (s.data.toList.take (dVal (s.data.toList.take (pos 32 s.data.toList)))) (pos 32 s.data.toList+1))=0)
  (h4:recL (splK (s.data.toList.take (dVal (s.data.toList.take (pos 32 s.data.toList)))) (pos 32 s.data.toList+1)) (splV (s.data.toList.take (dVal (s.data.toList.take (pos 32 s.data.toList)))) (pos 32 s.data.toList+1))≠s.data.toList.take (dVal (s.data.toList.take (pos 32 s.data.toList)))):
  Calls Tryz.prog 249 #[.string s] w fun e w'=>e= .returned (rdV (recR s.data.toList))∧Below w.heap.size w w':=by
 rw [zaA hb hn rfl rfl (by rw [qaH];exact h) h2 h3 h4,qtV];have hF:=quU s hs hb hn;have hd:=qjQ _ hn
 have hA:(bs (s.data.toList.take (pos 32 s.data.toList))).size=pos 32 s.data.toList:=by
  rw [qaC,List.length_take];have:=qgE 32 s.data.toList;omega
 have hp4:pos 32 s.data.toList≤4:=by
  have:=(qfY hn).1.2.1;rw [List.length_take]at this;have:=qgE 32 s.data.toList;omega
 obtain ⟨A,HA⟩:=qaA (bs (s.data.toList.take (pos 32 s.data.toList)));obtain ⟨B,HB⟩:=qaA (bs (s.data.toList.drop (pos 32 s.data.toList+1)));obtain ⟨n,Hn⟩:=qaA (dVal (s.data.toList.take (pos 32 s.data.toList)));rw [HA.out,HB.out,Hn.out]at hF;rw [Hn.out]at h hd h2 h3 h4;rw [HA.out]at hA;rw [←hA]at h2 h3 h4 hp4;have HC:=Lib.hid hF.hc;have HN:=Lib.hid hF.hn;have HI:=Lib.hid hF.ha;have HPl:=Lib.hid (qfH s n);have hPs:(s.extract 0 n).size≤n:=by rw [ByteArray.size_extract];omega
 obtain ⟨P,HP⟩:=qaA (s.extract 0 n);rw [HP.out]at HPl hPs;rw [←HPl.out]at h2 h3 h4;have HS:=Lib.hid fun W=>qj0 P (A.size+1) W (by omega) (by omega) h2;rw [Int.natCast_add]at HS;unfold recV at HS;obtain ⟨z1,z2⟩:=qmE P.data.toList (A.size+1);rw [qaH]at z1 z2;have HWr:=Lib.hid fun W (TW:Tab W)=>qhH (bs (splK P.data.toList (A.size+1))) (bs (splV P.data.toList (A.size+1))) W TW (by rw [qaC];unfold maxLen;omega) (by rw [qaC];unfold maxLen;omega);rw [qaF,qaF,qrA h3]at HWr;unfold recV at HWr
 have hne:((bs (recL (splK P.data.toList (A.size+1)) (splV P.data.toList (A.size+1)))).toList==P.toList)=false:=by
  rw [qo9];exact decide_eq_false fun e=>h4 (congrArg (fun x:ByteArray=>x.data.toList) e)
 obtain ⟨K,HK⟩:=qaA (bs (splK P.data.toList (A.size+1)));obtain ⟨V,HV⟩:=qaA (bs (splV P.data.toList (A.size+1)));obtain ⟨X,HX⟩:=qaA (bs (recL (splK P.data.toList (A.size+1)) (splV P.data.toList (A.size+1))));rw [HK.out,HV.out]at HS HWr;rw [HX.out]at HWr hne;have hne2:(X.toList==(s.extract 0 n).toList)=false:=by rw [HP.out];exact hne
 clear hb hn hF h2 hA h3 h4 z1 z2;go_enter Tryz.func249,Tryz.ntmps249;go_wp2_with fail;refine (HC.out _).mono ?_;rintro e1 w1 ⟨rfl,n1,rfl⟩;go_wp2_with fail;refine (HN.out _).mono ?_;rintro e1 w1 ⟨rfl,rfl⟩;have hb0:=Blk.drewN (Blk.new w 190 recZ) n1;have hw0:Below w.heap.size w ((w.alloc (.cells recZ 190)).drewN n1):=below_drewN ((Below.refl _ _).alloc (Nat.le_refl _) _) _;unfold recZ at hb0 hw0;go_wp2_with fail;refine (HI.out _).mono ?_;rintro e1 w2 ⟨rfl,hb2⟩;have hb2':=hb0.below hb2 hb0.lt;have hw2:=hw0.trans (hb2.mono (Nat.le_of_lt hb0.lt));clear hb0 hw0 hb2;go_wp2_with fail;rw [HP.out];refine (HS.out _).mono ?_;rintro e1 w3 ⟨rfl,hb3⟩;have hb3':=hb2'.below hb3 hb2'.lt;have hw3:=hw2.trans (hb3.mono (Nat.le_of_lt hb2'.lt));clear hb2' hw2 hb3;have hb4:=hb3'.alloc (.cells #[.string K,.string V] 190);have hw4:Below w.heap.size w (w3.alloc (.cells #[.string K,.string V] 190)):=hw3.alloc hw3.size _;go_wp2_with fail;refine (HWr.out _ (T.below hw4)).mono ?_;rintro e1 w5 ⟨rfl,hb5⟩;have hb5':=hb4.below hb5 hb4.lt;have HW5:=Lib.hid (hw4.trans (hb5.mono hw4.size));obtain ⟨⟨c0,c1⟩,f0,f1⟩:=blk2 hb5';have HP5:=Lib.hid (Blk.put2 hb5' (.string ⟨#[]⟩) (.string ⟨#[]⟩));clear hb3' hb4 hb5' hw3 hw4 hb5;go_wp2_with fail;obtain ⟨⟨c0',c1'⟩,f0',f1'⟩:=blk2 HP5.out;exact bodyPost_ret (v:= .tuple #[.agg #[.string ⟨#[]⟩,.string ⟨#[]⟩],.string ⟨#[]⟩,.int .i64 3]) (by simp [results,Tryz.results249,go_sem, *]) rfl ⟨rfl,Below.set2 HW5.out (Nat.le_refl _) _ _⟩
set_option maxHeartbeats 2000000 in
theorem zdD (s:ByteArray) (w:World) (T:Tab w) (hs:s.size≤281474976710656) (hb:hasB 32 s.data.toList=true) (hn:numB (s.data.toList.take (pos 32 s.data.toList))=true) (h:dVal (s.data.toList.take (pos 32 s.data.toList))≤s.size)
  (h2:splO (s.data.toList.take (dVal (s.data.toList.take (pos 32 s.data.toList)))) (pos 32 s.data.toList+1)=true)
  (h3:chkR (splK (s.data.toList.take (dVal (s.data.toList.take (pos 32 s.data.toList)))) (pos 32 s.data.toList+1)) (splV (s.data.toList.take (dVal (s.data.toList.take (pos 32 s.data.toList)))) (pos 32 s.data.toList+1))=0)
  (h4:recL (splK (s.data.toList.take (dVal (s.data.toList.take (pos 32 s.data.toList)))) (pos 32 s.data.toList+1)) (splV (s.data.toList.take (dVal (s.data.toList.take (pos 32 s.data.toList)))) (pos 32 s.data.toList+1))=s.data.toList.take (dVal (s.data.toList.take (pos 32 s.data.toList)))):
  Calls Tryz.prog 249 #[.string s] w fun e w'=>e= .returned (rdV (recR s.data.toList))∧Below w.heap.size w w':=by
 rw [q99 hb hn rfl rfl (by rw [qaH];exact h) h2 h3 h4];unfold rdV recV;simp only;have hF:=quU s hs hb hn;have hd:=qjQ _ hn
 have hA:(bs (s.data.toList.take (pos 32 s.data.toList))).size=pos 32 s.data.toList:=by
  rw [qaC,List.length_take];have:=qgE 32 s.data.toList;omega
 have hp4:pos 32 s.data.toList≤4:=by
  have:=(qfY hn).1.2.1;rw [List.length_take]at this;have:=qgE 32 s.data.toList;omega
 obtain ⟨A,HA⟩:=qaA (bs (s.data.toList.take (pos 32 s.data.toList)));obtain ⟨B,HB⟩:=qaA (bs (s.data.toList.drop (pos 32 s.data.toList+1)));obtain ⟨n,Hn⟩:=qaA (dVal (s.data.toList.take (pos 32 s.data.toList)));rw [HA.out,HB.out,Hn.out]at hF;rw [Hn.out]at h hd h2 h3 h4⊢;rw [HA.out]at hA;rw [←hA]at h2 h3 h4 hp4⊢;have HC:=Lib.hid hF.hc;have HN:=Lib.hid hF.hn;have HI:=Lib.hid hF.ha;have HPl:=Lib.hid (qfH s n);have hPs:(s.extract 0 n).size≤n:=by rw [ByteArray.size_extract];omega
 obtain ⟨P,HP⟩:=qaA (s.extract 0 n);rw [HP.out]at HPl hPs;rw [←HPl.out]at h2 h3 h4⊢;have HS:=Lib.hid fun W=>qj0 P (A.size+1) W (by omega) (by omega) h2;rw [Int.natCast_add]at HS;unfold recV at HS;obtain ⟨z1,z2⟩:=qmE P.data.toList (A.size+1);rw [qaH]at z1 z2;have HWr:=Lib.hid fun W (TW:Tab W)=>qhH (bs (splK P.data.toList (A.size+1))) (bs (splV P.data.toList (A.size+1))) W TW (by rw [qaC];unfold maxLen;omega) (by rw [qaC];unfold maxLen;omega);rw [qaF,qaF,qrA h3]at HWr;unfold recV at HWr
 have hne:((bs (recL (splK P.data.toList (A.size+1)) (splV P.data.toList (A.size+1)))).toList==P.toList)=true:=by
  rw [qo9];exact decide_eq_true (by rw [h4];exact qgJ P)
 obtain ⟨K,HK⟩:=qaA (bs (splK P.data.toList (A.size+1)));obtain ⟨V,HV⟩:=qaA (bs (splV P.data.toList (A.size+1)));obtain ⟨X,HX⟩:=qaA (bs (recL (splK P.data.toList (A.size+1)) (splV P.data.toList (A.size+1))));rw [HK.out,HV.out]at HS HWr⊢;rw [HX.out]at HWr hne;have hne2:(X.toList==(s.extract 0 n).toList)=true:=by rw [HP.out];exact hne
 have HQ:Hid (s.extract n s.size=bs (s.data.toList.drop n)):=qzP (qd3 s n);obtain ⟨Q,HQn⟩:=qaA (bs (s.data.toList.drop n));have hQs:Q.size≤281474976710656:=by rw [←HQn.out,qaC,List.length_drop,qaH];omega
 rw [HQn.out]at HQ⊢;have HCl:=Lib.hid fun W=>qa5 Q W hQs;clear hb hn hF h2 hA h3 h4 z1 z2 hQs;go_enter Tryz.func249,Tryz.ntmps249;go_wp2_with fail;refine (HC.out _).mono ?_;rintro e1 w1 ⟨rfl,n1,rfl⟩;go_wp2_with fail;refine (HN.out _).mono ?_;rintro e1 w1 ⟨rfl,rfl⟩;have hb0:=Blk.drewN (Blk.new w 190 recZ) n1;have hw0:Below w.heap.size w ((w.alloc (.cells recZ 190)).drewN n1):=below_drewN ((Below.refl _ _).alloc (Nat.le_refl _) _) _;unfold recZ at hb0 hw0;go_wp2_with fail;refine (HI.out _).mono ?_;rintro e1 w2 ⟨rfl,hb2⟩;have hb2':=hb0.below hb2 hb0.lt;have hw2:=hw0.trans (hb2.mono (Nat.le_of_lt hb0.lt));clear hb0 hw0 hb2;go_wp2_with fail;rw [HP.out];refine (HS.out _).mono ?_;rintro e1 w3 ⟨rfl,hb3⟩;have hb3':=hb2'.below hb3 hb2'.lt;have hw3:=hw2.trans (hb3.mono (Nat.le_of_lt hb2'.lt));clear hb2' hw2 hb3;have hb4:=hb3'.alloc (.cells #[.string K,.string V] 190);have hw4:Below w.heap.size w (w3.alloc (.cells #[.string K,.string V] 190)):=hw3.alloc hw3.size _;go_wp2_with fail;refine (HWr.out _ (T.below hw4)).mono ?_;rintro e1 w5 ⟨rfl,hb5⟩;have hb5':=hb4.below hb5 hb4.lt;have hr5:Blk w5 w3.heap.size 190 #[.string K,.string V]:=(Blk.new w3 190 #[.string K,.string V]).below hb5 (by simp);have HW5:=Lib.hid (hw4.trans (hb5.mono hw4.size));have hg:w.heap.size<w3.heap.size:=hb3'.lt;have hsz:w3.heap.size≤w5.heap.size:=Nat.le_of_lt hr5.lt;have hne3:w3.heap.size≠w.heap.size:=by omega
 have r0: ∀W:World,Blk W w3.heap.size 190 #[.string K,.string V]→W.cell? ⟨w3.heap.size,0,none⟩=some (.string K):=fun W h=>(blk2 h).1.1;have r1: ∀W:World,Blk W w3.heap.size 190 #[.string K,.string V]→W.cell? ⟨w3.heap.size,1,none⟩=some (.string V):=fun W h=>(blk2 h).1.2;have hns:(n:Int)≤(s.size:Int):=by omega
 clear hb3' hb4 hw3 hw4 hb5;go_upto_region 15 with fail
 go_region_held3 (fun W=>Blk W w3.heap.size 190 #[.string K,.string V])
  (first
   |(with_reducible assumption)
   |(with_reducible refine Blk.drew_ ?_;with_reducible assumption)
   |(with_reducible exact Blk.below (by with_reducible assumption) hb6 (Blk.lt (by with_reducible assumption)))
   |(with_reducible refine Blk.far2 ?_ hne3 _ _;with_reducible assumption))
  (first|(go_at_call 110;rw [HQ.out];refine (HCl.out _).mono ?_;rintro e6 w6 ⟨rfl,hb6⟩;have hG6:=(Blk.drew_ hb5').below hb6 (Blk.drew_ hb5').lt;obtain ⟨⟨g0,g1⟩,y0,y1⟩:=blk2 hG6))
 all_goals
  have hput:=Blk.put2 hG6 (.string K) (.string V);obtain ⟨⟨k0,k1⟩,-⟩:=blk2 hput;go_wp2_with fail;exact bodyPost_ret (v:= .tuple #[.agg #[.string K,.string V],.string Q,.int .i64 0]) (by simp [results,Tryz.results249,go_sem, *]) rfl ⟨rfl,Below.set2 (HW5.out.drew.trans (hb6.mono HW5.out.size)) (Nat.le_refl _) _ _⟩
theorem qzY (s:ByteArray) (w:World) (T:Tab w) (hs:s.size≤281474976710656):Calls Tryz.prog 249 #[.string s] w fun e w'=>e= .returned (rdV (recR s.data.toList))∧Below w.heap.size w w':=by
 by_cases h1:hasB 32 s.data.toList=true∧numB (s.data.toList.take (pos 32 s.data.toList))=true
 ·obtain ⟨hb,hn⟩:=h1
  by_cases h:s.size<dVal (s.data.toList.take (pos 32 s.data.toList))
  ·exact q2Z s w hs hb hn h
  ·cases h2:splO (s.data.toList.take (dVal (s.data.toList.take (pos 32 s.data.toList)))) (pos 32 s.data.toList+1)
   ·exact q2Y s w hs hb hn (by omega) h2
   ·by_cases h3:chkR (splK (s.data.toList.take (dVal (s.data.toList.take (pos 32 s.data.toList)))) (pos 32 s.data.toList+1)) (splV (s.data.toList.take (dVal (s.data.toList.take (pos 32 s.data.toList)))) (pos 32 s.data.toList+1))=0
    ·by_cases h4:recL (splK (s.data.toList.take (dVal (s.data.toList.take (pos 32 s.data.toList)))) (pos 32 s.data.toList+1)) (splV (s.data.toList.take (dVal (s.data.toList.take (pos 32 s.data.toList)))) (pos 32 s.data.toList+1))=s.data.toList.take (dVal (s.data.toList.take (pos 32 s.data.toList)))
     ·exact zdD s w T hs hb hn (by omega) h2 h3 h4
     ·exact zdE s w T hs hb hn (by omega) h2 h3 h4
    ·exact zdF s w T hs hb hn (by omega) h2 h3
 ·exact q20 s w hs h1
end Go.Proofs.YtapgoifimhnbdaaGreatDoor
