/- qaV of one kind, in one file: Any, RecA, RecB, RecC. -/
import Derived.Test.YtapgoifimhnbdaaGreatDoorFld
import Derived.Test.YtapgoifimhnbdaaGreatDoorShelf
import Derived.Laws.Runes
import Derived.WalkMore
import Derived.IntWalk
import Derived.Laws.RangeAny
import Derived.Shelf.Strings.IndexAnyAll
import Derived.BigQuiet
import Derived.Deep.QuietTactic
import Derived.Test.YtapgoifimhnbdaaGreatDoorMth
import Derived.Test.YtapgoifimhnbdaaGreatDoorArb
import Derived.Test.YtapgoifimhnbdaaGreatDoorStp
import Derived.Deep.DeepCutAuto
import Derived.Deep.RegionHeld3
import Derived.Deep.DrawnRows
set_option linter.unusedVariables false
set_option maxRecDepth 100000
namespace Go.Proofs.YtapgoifimhnbdaaGreatDoor
open Go.RowKit
open Go.OpenShut
def qgG (l:List UInt8):Prop:= ∀(j:Nat) b,l[j]?=some b→b.toNat<128
theorem qgG.lt {s:ByteArray} (h:qgG s.data.toList) {i:Nat} (hi:i<s.size):(s[i]'hi).toNat<128:=h i _ (Lib.data_getElem? s i hi)
theorem qgG.drop {l:List UInt8} (h:qgG l) (k:Nat):qgG (l.drop k):=fun j b hb=>h (k+j) b (by rw [List.getElem?_drop]at hb;exact hb)
theorem q66 (l:List UInt8) (c:UInt8) (h:qgG l) (hc:128≤c.toNat):Lib.indexByte l c= -1:=by
 rw [qbZ,if_neg ?_];rw [hasB,List.any_eq_true];rintro ⟨b,hb,e⟩;obtain ⟨i,hi,rfl⟩:=List.getElem_of_mem hb;have:=h i _ (List.getElem?_eq_getElem hi);rw [eq_of_beq e]at this;omega
theorem q6Y (s:ByteArray) (pos:Nat) (h:pos<s.size) (ha:128≤(s[pos]'h).toNat):
  ∀j,j<(Utf8.decode s pos).2→pos+j<s.size∧128≤(s.get! (pos+j)).toNat:=by
 have hn: ¬(s[pos]'h).toNat<128:=by omega
 have g0:128≤(s.get! (pos+0)).toNat:=by rw [get_at s pos h];exact ha
 simp only [Utf8.decode,get_at s pos h,hn,if_false]
 repeat' split
 all_goals
  intro j hj
  try simp only [Bool.and_eq_true,decide_eq_true_eq,beq_iff_eq]at*
  match j,hj with
  |0,_=>exact ⟨h,g0⟩
  |1,hj=>first|(exfalso;simp at hj;done)|(constructor<;>omega)
  |2,hj=>first|(exfalso;simp at hj;done)|(constructor<;>omega)
  |3,hj=>first|(exfalso;simp at hj;done)|(constructor<;>omega)
  |j+4,hj=>exfalso;first|omega|(simp at hj)
set_option maxHeartbeats 1000000 in
theorem qn4 (s:ByteArray) (r:Int) (w:World) (h0:128≤r) (h1:r≤2147483647) (hs:s.size≤1000000) (ha:qgG s.data.toList):
  Calls Tryz.prog 335 #[.string s,.int .i32 r] w fun e w'=>e= .returned (.int .i64 (-1))∧Below w.heap.size w w':=by
 have HA:=Lib.hid ha;clear ha
 by_cases h3:r=65533
 ·subst h3;go_enter Tryz.func335,Tryz.ntmps335;go_wp2
  go_loopg [5,6] s.size (fun g _ _ wx=> ∃i:Nat,i+g=s.size∧wx=w.iter s i)
  case atStart=>exact ⟨0,by omega,rfl⟩
  case round=>
   obtain ⟨i,hig,rfl⟩:=hrel;cases gk with
   |zero=>
    obtain rfl:i=s.size:=by omega
    have hnx:=run_next_end (P:=Tryz.prog) w s s.size;go_wp2;go_ret;exact ⟨rfl,(Below.refl _ _).alloc (Nat.le_refl _) _⟩
   |succ g=>
    have hi:i<s.size:=by omega
    obtain ⟨x,hx⟩: ∃x:UInt8,s[i]'hi=x:=⟨_,rfl⟩;have hx128:x.toNat<128:=by rw [←hx];exact HA.out.lt hi
    have hnx:=fun ty=>run_next_ascii (P:=Tryz.prog) w s i ty hi (by rw [hx];exact hx128);rw [hx]at hnx;clear hx;go_wp2
    go_roundg g
    case measure=>omega
    case rel=>exact ⟨i+1,by omega,rfl⟩
 ·cases hv:Lib.validRune r
  ·go_enter Tryz.func335,Tryz.ntmps335;go_wp2_with (go_at_call 348;refine (Tryz.utf8_ValidRune _ _).mono ?_;rintro e w' ⟨rfl,hw⟩;rw [hw,hv]);go_ret;exact ⟨rfl,Below.refl _ _⟩
  ·have hv2:Utf8.valid r=true:=by rw [validRune_eq];exact hv
   obtain ⟨e1,e2,e3⟩:=encode_facts r hv2 h0;obtain ⟨R,HR⟩:=qaA (Utf8.encode r);rw [HR.out]at e1 e2 e3;obtain ⟨k,hk⟩: ∃k:Nat,R.size=k+1:=⟨R.size-1,by omega⟩;have hk1:k<R.size:=by omega
   obtain ⟨x,hx⟩: ∃x:UInt8,R[k]'hk1=x:=⟨_,rfl⟩
   have hx128:128≤x.toNat:=by
    have:=e3 (by omega);simp only [hk,Nat.add_sub_cancel]at this;rw [hx]at this;exact this
   have hx256:=qlU x;have hRn:((R.size:Int) -1)=(k:Int):=by omega
   have hk2:1≤k:=by omega
   have hk3:k≤3:=by omega
   have hconv: ∀W,(convert 21 9 (.int .i32 r)).run Tryz.prog W= .ok (.string R) W:=fun W=>by
    rw [←HR.out];exact run_convert_int_string W _ _ _ _ (by kernel_rfl) Tryz.underlying9
   have hR4:R.size≤4:=e2;clear e1 e2 e3 hv2 hk
   by_cases hks:k<s.size
   ·obtain ⟨y,hy⟩: ∃y:UInt8,s[k]'hks=y:=⟨_,rfl⟩;have hy128:y.toNat<128:=by rw [←hy];exact HA.out.lt hks
    have hne:((y.toNat:Int) !=(x.toNat:Int))=true:=by simp only [bne_iff_ne,ne_eq];omega
    have HI:Hid (∀W,Calls Tryz.prog 156 #[.string (s.extract (k+1) s.size),.int .u8 (x.toNat:Int)] W fun e w'=>e= .returned (.int .i64 (-1))∧w'=W):=fun W=>by
     refine (qb2 (s.extract (k+1) s.size) (x.toNat:Int) W).mono ?_;rintro e w' ⟨rfl,rfl⟩;refine ⟨qaR ?_,rfl⟩;rw [Lib.extract_to_end];have:((x.toNat:Int)).toNat.toUInt8=x:=by simp
     rw [this];exact q66 _ _ (HA.out.drop _) hx128
    go_enter Tryz.func335,Tryz.ntmps335;go_wp2_with (go_at_call 348;refine (Tryz.utf8_ValidRune _ _).mono ?_;rintro e w' ⟨rfl,hw⟩;rw [hw,hv])
    go_step3
    go_wp2_with fail
    go_loop [9] (fun i=>i= .int .i64 k) (fun _=>0)
    case atStart=>rfl
    case round=>
     obtain rfl:=hrel;have ya:((k:Int)+1).toNat=k+1:=by omega
     have yb:IntKind.i64.wrap ((k:Int)+1)=(k:Int)+1:=IntWalk.i64_in _ (by omega);have yc:(0:Int)≤(k:Int)+1:=by omega
     have yd:(k:Int)+1≤(s.size:Int):=by omega
     go_wp2_with fail
     go_step3
     go_wp2_with fail
     go_region
     go_wp2_with fail;go_quiet ((go_at_call 156;exact (HI.out _).mono fun e w' ⟨a,b⟩=>⟨a,_,b⟩));go_wp2_with fail;rw [Exit.noGoto_ret];go_wp2_with fail;rw [Exit.noGoto_ret];go_wp2_with fail;go_ret;exact ⟨rfl,below_drewN (Below.refl _ _) _⟩
   ·go_enter Tryz.func335,Tryz.ntmps335;go_wp2_with (go_at_call 348;refine (Tryz.utf8_ValidRune _ _).mono ?_;rintro e w' ⟨rfl,hw⟩;rw [hw,hv])
    go_step3
    go_wp2_with fail
    go_loop [9] (fun i=>i= .int .i64 k) (fun _=>0)
    case atStart=>rfl
    case round=>
     obtain rfl:=hrel;go_wp2_with fail;go_ret;exact ⟨rfl,Below.refl _ _⟩
theorem qyU {s:ByteArray} {ch:List UInt8} {i n:Nat} (h:Lib.NoAny s.data.toList ch i) (hc:qgG ch) (hn: ∀j,j<n→i+j<s.size∧128≤(s.get! (i+j)).toNat):Lib.NoAny s.data.toList ch (i+n):=by
 intro j b hj hb
 by_cases hji:j<i
 ·exact h j b hji hb
 ·obtain ⟨k,rfl⟩: ∃k,j=i+k:=⟨j-i,by omega⟩;obtain ⟨h1,h2⟩:=hn k (by omega)
  have e:s.get! (i+k)=b:=by
   rw [Lib.data_getElem? s (i+k) h1]at hb;have hb':=Option.some.inj hb;rw [←hb'];simp [ByteArray.get!,getElem!_pos,h1];rfl
  rw [e]at h2;rw [←Bool.not_eq_true];intro hcon;rw [List.contains_iff_mem]at hcon;obtain ⟨m,hm,hmb⟩:=List.getElem_of_mem hcon;have:=hc m b (by rw [List.getElem?_eq_getElem hm,hmb]);omega
set_option maxHeartbeats 2000000 in
theorem qn5 (s chars:ByteArray) (w:World) (h2:2≤chars.size) (hcs:chars.size≤1000) (h8:s.size≤8) (hac:qgG chars.data.toList):
  Calls Tryz.prog 311 #[.string s,.string chars] w fun e w'=>e= .returned (.int .i64 (Lib.indexAny s.data.toList chars.data.toList))∧Below w.heap.size w w':=by
 have HC:=Lib.hid hac
 have hemp:chars.toList.isEmpty=false:=by
  rw [Lib.toList_data];cases h:chars.data.toList with
  |nil=>have:=Lib.size_eq chars;rw [h,List.length_nil]at this;omega
  |cons _ _=>rfl
 have hn1:((chars.size:Int)==1)=false:=beq_eq_false_iff_ne.2 (by omega);have h8z:decide ((8:Int)<(s.size:Int))=false:=decide_eq_false (by omega);clear hac;go_enter Tryz.func311,Tryz.ntmps311;go_wp2_with (go_at_call 336;refine (Tryz.strings_shouldUseASCIISet _ _).mono ?_;rintro e w' ⟨rfl,hw⟩;rw [hw,h8z])
 go_loopg [9,10] s.size (fun g _ _ wx=> ∃i:Nat,i+g=s.size∧Hid (wx.heap[w.heap.size]?=some (.stringIter s i))∧Hid (Below w.heap.size w wx)∧Hid (Lib.NoAny s.data.toList chars.data.toList i))
 case atStart=>exact ⟨0,by omega,World.iter_heap _ _ _,(Below.refl _ _).alloc (Nat.le_refl _) _,Lib.NoAny.zero _ _⟩
 case round=>
  obtain ⟨i,hig,HI,HB,HN⟩:=hrel;cases gk with
  |zero=>
   obtain rfl:i=s.size:=by omega
   have hnx:=fun ty=>Lib.run_next_end_at (P:=Tryz.prog) wr w.heap.size s s.size ty HI.out (by omega);have HX:=Lib.hid (Lib.indexAny_none (by rw [←Lib.size_eq];exact HN.out));go_wp2;go_ret;exact ⟨qaR HX.out.symm,HB.out⟩
  |succ g=>
   have hi:i<s.size:=by omega
   obtain ⟨x,hx⟩: ∃x:UInt8,s[i]'hi=x:=⟨_,rfl⟩;have hxl:s.data.toList[i]?=some x:=by rw [←hx];exact Lib.data_getElem? s i hi
   by_cases hx128:x.toNat<128
   ·have hnx:=fun ty=>Lib.run_next_ascii_at (P:=Tryz.prog) wr w.heap.size s i ty HI.out hi (by rw [hx];exact hx128);rw [hx]at hnx;have Hx:=Lib.hid hxl;clear hxl hx;have hI2:=Lib.hid (Lib.iterAt_heap wr w.heap.size s i (i+1) HI.out);have hB2:=Lib.hid (Lib.below_iterAt HB.out (Nat.le_refl _) s (i+1));obtain ⟨W,HW⟩:=qaA (wr.iterAt w.heap.size s (i+1));simp only [HW.out]at hnx hI2 hB2;have hcon:=Lib.contains_iff_indexByte chars.data.toList x;have hback:((x.toNat:Int)).toNat.toUInt8=x:=by simp
    cases hin:chars.data.toList.contains x
    ·rw [hin]at hcon;have hlt: ¬((0:Int)≤Lib.indexByte chars.data.toList x):=of_decide_eq_false hcon.symm;clear hcon;go_wp2_with (go_at_call 335;refine (Tryz.strings_IndexRune_ascii _ _ _ (by omega) (by omega)).mono ?_;rintro e w' ⟨rfl,hw⟩;rw [hw,hback])
     go_roundg g
     case measure=>omega
     case rel=>exact ⟨i+1,by omega,hI2,hB2,HN.out.succ Hx.out hin⟩
    ·rw [hin]at hcon;have hge:(0:Int)≤Lib.indexByte chars.data.toList x:=of_decide_eq_true hcon.symm;have HX:=Lib.hid (Lib.indexAny_hit HN.out Hx.out hin);clear hcon;go_wp2_with (go_at_call 335;refine (Tryz.strings_IndexRune_ascii _ _ _ (by omega) (by omega)).mono ?_;rintro e w' ⟨rfl,hw⟩;rw [hw,hback]);go_ret;exact ⟨qaR HX.out.symm,hB2.out⟩
   ·have hx128':128≤(s[i]'hi).toNat:=by rw [hx];omega
    have hT:=q6Y s i hi hx128';obtain ⟨hc1,hn1'⟩:=decode_high s i hi hx128';have hc2:=decode_le s i;have hnx:=fun ty=>Lib.run_next_any_at (P:=Tryz.prog) wr w.heap.size s i ty HI.out hi;have hi2:=Lib.iterAt_heap wr w.heap.size s i (i+(Utf8.decode s i).2) HI.out;have hb2:=Lib.below_iterAt HB.out (Nat.le_refl _) s (i+(Utf8.decode s i).2);obtain ⟨c,Hc⟩:=qaA (Utf8.decode s i).1;obtain ⟨n,Hn⟩:=qaA (Utf8.decode s i).2;rw [Hc.out]at hnx hc1 hc2;rw [Hn.out]at hnx hT hn1' hi2 hb2;have HN2:=Lib.hid (qyU HN.out HC.out hT)
    have hin2:i+n≤s.size:=by
     have:=(hT (n-1) (by omega)).1;omega
    have hI2:=Lib.hid hi2;have hB2:=Lib.hid hb2;obtain ⟨W,HW⟩:=qaA (wr.iterAt w.heap.size s (i+n));simp only [HW.out]at hnx;rw [HW.out]at hI2 hB2;clear hx hxl hx128 hT hi2 hb2 hx128' HN;go_wp2_with fail;refine (qn4 chars (c:Int) _ (by omega) (by omega) (by omega) HC.out).mono ?_;rintro e w1 ⟨rfl,hb⟩
    have hlt:w.heap.size<W.heap.size:=by
     rcases Nat.lt_or_ge w.heap.size W.heap.size with h'|h'
     ·exact h'
     ·have:=hI2.out;rw [Array.getElem?_eq_none h']at this;cases this
    have hI3:=Lib.hid ((hb.block _ hlt).trans hI2.out);have hB3:=Lib.hid (hB2.out.trans (hb.mono (Nat.le_of_lt hlt)));clear hb;go_wp2_with fail
    go_roundg (s.size-(i+n))
    case measure=>omega
    case rel=>exact ⟨i+n,by omega,hI3,hB3,HN2⟩
theorem qt3 (s chars:ByteArray) (w:World) (h2:2≤chars.size) (hcs:chars.size≤1000) (hs:s.size<4294967281) (hac:qgG chars.data.toList):
  Calls Tryz.prog 311 #[.string s,.string chars] w fun e w'=>e= .returned (.int .i64 (Lib.indexAny s.data.toList chars.data.toList))∧Below w.heap.size w w':=by
 by_cases h8:s.size≤8
 ·exact qn5 s chars w h2 hcs h8 hac
 ·refine (Tryz.strings_IndexAny_long (zero_of_info (show (Tryz.prog.info? 300).map (fun i=>(i.zero,i.size))=some (some (.agg (Array.replicate 256 (.bool false))),256) by kernel_rfl)).1 s chars w h2 (by omega) hs (by omega) hac).mono ?_;rintro e w' ⟨rfl,rfl⟩;exact ⟨rfl,((Below.refl _ _).alloc (Nat.le_refl _) _).alloc (by simp) _⟩
theorem qnU (s chars:ByteArray) (w:World) (h2:2≤chars.size) (hcs:chars.size≤1000) (hs:s.size<4294967281) (hac:qgG chars.data.toList):
  Calls Tryz.prog 276 #[.string s,.string chars] w fun e w'=>e= .returned (.bool (Lib.containsAny s.data.toList chars.data.toList))∧Below w.heap.size w w':=by
 have HI:=Lib.hid fun W=>qt3 s chars W h2 hcs hs hac;go_enter Tryz.func276,Tryz.ntmps276;go_wp2_with fail;refine (HI.out _).mono ?_;rintro e w1 ⟨rfl,hb⟩;go_wp2_with fail;go_ret;exact ⟨rfl,hb⟩
theorem qs3 (a b:UInt8) (l:List UInt8):Lib.containsAny l [a,b]=(hasB a l||hasB b l):=by
 unfold Lib.containsAny
 induction l with
 |nil=>rfl
 |cons x l ih=>
  rw [Lib.indexAny,qcT,qcT];have hge:=Lib.indexAny_ge [a,b] l
  by_cases hx:x=a∨x=b
  ·have e: [a,b].contains x=true:=by rcases hx with rfl|rfl<;>simp
   rw [if_pos e];rcases hx with rfl|rfl<;>simp
  ·have ha: ¬x=a:=fun h=>hx (.inl h);have hb: ¬x=b:=fun h=>hx (.inr h);have e: [a,b].contains x=false:=by simp [ha,hb]
   have e1:(x==a)=false:=by simpa using ha
   have e2:(x==b)=false:=by simpa using hb
   rw [e,e1,e2,Bool.false_or,Bool.false_or,←ih]
   by_cases hm:Lib.indexAny l [a,b]= -1
   ·rw [hm];rfl
   ·have hm':(Lib.indexAny l [a,b]== -1)=false:=by simpa using hm
    rw [hm'];rw [if_neg (by decide),if_neg (by decide)];rw [decide_eq_true (by omega),decide_eq_true (by omega)]
theorem q39:qgG (⟨#[61,10]⟩:ByteArray).data.toList:=by
 intro j b hb
 match j,hb with
 |0,hb=>cases hb;decide
 |1,hb=>cases hb;decide
 |j+2,hb=>simp at hb
theorem qiO {k:ByteArray} (h:k.size=0):k=⟨#[]⟩:=by
 apply ByteArray.ext;apply Array.toList_inj.1;have:=qaD k;rw [h]at this;exact List.eq_nil_of_length_eq_zero this
theorem qlD {k:ByteArray} (h:k.size≠0):k.toList.isEmpty=false:=by
 rw [Lib.toList_data];cases e:k.data.toList with
 |nil=>have:=qaD k;rw [e]at this;exact absurd this.symm h
 |cons _ _=>rfl
def recV (k v:ByteArray):Value:= .agg #[.string k,.string v]
theorem keyAny (k:ByteArray) (w:World) (hk:k.size≤60):Calls Tryz.prog 276 #[.string k,.string ⟨#[61,10]⟩] w fun e w'=>e= .returned (.bool (hasB 61 k.data.toList||hasB 10 k.data.toList))∧Below w.heap.size w w':=by
 have h:=qnU k ⟨#[61,10]⟩ w (by decide) (by decide) (by omega) q39;rw [show (⟨#[61,10]⟩:ByteArray).data.toList= [61,10]from rfl,qs3]at h;exact h
set_option maxHeartbeats 1000000 in
theorem qoN (k v:ByteArray) (w:World) (hk:k.size≤maxLen) (hv:v.size≤maxLen):
  Calls Tryz.prog 231 #[recV k v] w fun e w'=>e= .returned (.int .i64 (chkR k.data.toList v.data.toList))∧Below w.heap.size w w':=by
 unfold maxLen at hk hv;unfold recV
 by_cases h0:k.size=0
 ·obtain rfl:=qiO h0;have HX:=Lib.hid (show (1:Int)=chkR (⟨#[]⟩:ByteArray).data.toList v.data.toList from (qfF (.inl rfl)).symm);clear h0;rw [←HX.out];go_enter Tryz.func231,Tryz.ntmps231;go_wp2_with fail;go_ret;exact ⟨rfl,(Below.refl _ _).alloc (Nat.le_refl _) _⟩
 ·have hemp:=qlD h0
  by_cases h1:60<k.size
  ·have HX:=Lib.hid (show (1:Int)=chkR k.data.toList v.data.toList from (qfF (.inr (.inl (by rw [qaD];exact h1)))).symm);clear h0;rw [←HX.out];go_enter Tryz.func231,Tryz.ntmps231;go_wp2_with fail;go_ret;exact ⟨rfl,(Below.refl _ _).alloc (Nat.le_refl _) _⟩
  ·by_cases h2:500<v.size
   ·have HX:=Lib.hid (show (1:Int)=chkR k.data.toList v.data.toList from (qfF (.inr (.inr (by rw [qaD];exact h2)))).symm);clear h0;rw [←HX.out];go_enter Tryz.func231,Tryz.ntmps231;go_wp2_with fail;go_ret;exact ⟨rfl,(Below.refl _ _).alloc (Nat.le_refl _) _⟩
   ·have hn: ¬(k.data.toList.length=0∨60<k.data.toList.length∨500<v.data.toList.length):=by rw [qaD,qaD];omega
    have HI:=Lib.hid fun W=>keyAny k W (by omega);have HZ:=Lib.hid fun W=>qb2 v 0 W;have hk60:k.size≤60:=by omega
    have hv500:v.size≤500:=by omega
    clear h0;cases hc:(hasB 61 k.data.toList||hasB 10 k.data.toList)
    ·rw [hc]at HI;rw [Bool.or_eq_false_iff]at hc;cases hz:hasB 0 v.data.toList
     ·have HX:=Lib.hid (show (0:Int)=chkR k.data.toList v.data.toList from (qvL hn (by rw [hc.1,hc.2,hz];simp)).symm);have HN:=Lib.hid fun W=>qb1 v W hz;rw [←HX.out];clear hc hz hn;go_enter Tryz.func231,Tryz.ntmps231;go_wp2_with fail;refine (HI.out _).mono ?_;rintro e w1 ⟨rfl,hb1⟩;obtain ⟨⟨c0,c1⟩,-⟩:=blk2 (Blk.below (Blk.new w 190 #[.string k,.string v]) hb1 (by simp));have HB:=Lib.hid (((Below.refl w.heap.size w).alloc (Nat.le_refl _) _).trans (hb1.mono (by simp)));clear hb1;go_wp2_with fail;refine (HN.out _).mono ?_;rintro e w2 ⟨rfl,rfl⟩;go_wp2_with fail;go_ret;exact ⟨rfl,HB.out⟩
     ·have HX:=Lib.hid (show (3:Int)=chkR k.data.toList v.data.toList from (qhC hn (.inr (.inr hz))).symm);have HN:=Lib.hid fun W=>qcB v W hz;rw [←HX.out];clear hc hz hn;go_enter Tryz.func231,Tryz.ntmps231;go_wp2_with fail;refine (HI.out _).mono ?_;rintro e w1 ⟨rfl,hb1⟩;obtain ⟨⟨c0,c1⟩,-⟩:=blk2 (Blk.below (Blk.new w 190 #[.string k,.string v]) hb1 (by simp));have HB:=Lib.hid (((Below.refl w.heap.size w).alloc (Nat.le_refl _) _).trans (hb1.mono (by simp)));clear hb1;go_wp2_with fail;refine (HN.out _).mono ?_;rintro e w2 ⟨rfl,rfl⟩;go_wp2_with fail;go_ret;exact ⟨rfl,HB.out⟩
    ·rw [hc]at HI;have HX:=Lib.hid (show (3:Int)=chkR k.data.toList v.data.toList from (qhC hn (by rw [Bool.or_eq_true]at hc;rcases hc with h|h;exact .inl h;exact .inr (.inl h))).symm);rw [←HX.out];clear hc hn;go_enter Tryz.func231,Tryz.ntmps231;go_wp2_with fail;refine (HI.out _).mono ?_;rintro e w1 ⟨rfl,hb1⟩;have HB:=Lib.hid (((Below.refl w.heap.size w).alloc (Nat.le_refl _) _).trans (hb1.mono (by simp)));clear hb1;go_wp2_with fail;go_ret;exact ⟨rfl,HB.out⟩
set_option maxHeartbeats 1000000 in
theorem qiY (k v:ByteArray) (w:World) (hk:k.size≤maxLen) (hv:v.size≤maxLen):
  Calls Tryz.prog 263 #[recV k v] w fun e w'=>e= .returned (.int .i64 (chkR k.data.toList v.data.toList))∧Below w.heap.size w w':=by
 have H61:=Lib.hid fun W=>qb5 k 61 61 W hk rfl;have H10:=Lib.hid fun W=>qb5 k 10 10 W hk rfl;have H0:=Lib.hid fun W=>qb5 v 0 0 W hv rfl;unfold maxLen at hk hv;unfold recV
 by_cases h0:k.size=0
 ·obtain rfl:=qiO h0;have HX:=Lib.hid (show (1:Int)=chkR (⟨#[]⟩:ByteArray).data.toList v.data.toList from (qfF (.inl rfl)).symm);clear h0;rw [←HX.out];go_enter Tryz.func263,Tryz.ntmps263;go_wp2_with fail;go_ret;exact ⟨rfl,(Below.refl _ _).alloc (Nat.le_refl _) _⟩
 ·have hemp:=qlD h0
  by_cases h1:60<k.size
  ·have HX:=Lib.hid (show (1:Int)=chkR k.data.toList v.data.toList from (qfF (.inr (.inl (by rw [qaD];exact h1)))).symm);clear h0;rw [←HX.out];go_enter Tryz.func263,Tryz.ntmps263;go_wp2_with fail;go_ret;exact ⟨rfl,(Below.refl _ _).alloc (Nat.le_refl _) _⟩
  ·by_cases h2:500<v.size
   ·have HX:=Lib.hid (show (1:Int)=chkR k.data.toList v.data.toList from (qfF (.inr (.inr (by rw [qaD];exact h2)))).symm);clear h0;rw [←HX.out];go_enter Tryz.func263,Tryz.ntmps263;go_wp2_with fail;go_ret;exact ⟨rfl,(Below.refl _ _).alloc (Nat.le_refl _) _⟩
   ·have hn: ¬(k.data.toList.length=0∨60<k.data.toList.length∨500<v.data.toList.length):=by rw [qaD,qaD];omega
    clear h0;cases hc:hasB 61 k.data.toList
    ·rw [hc]at H61;cases hd:hasB 10 k.data.toList
     ·rw [hd]at H10;cases hz:hasB 0 v.data.toList
      ·rw [hz]at H0;have HX:=Lib.hid (show (0:Int)=chkR k.data.toList v.data.toList from (qvL hn (by rw [hc,hd,hz];simp)).symm);rw [←HX.out];clear hc hz hd hn;go_enter Tryz.func263,Tryz.ntmps263;go_wp2_with fail;refine (H61.out _).mono ?_;rintro e w1 ⟨rfl,rfl⟩;go_wp2_with fail;refine (H10.out _).mono ?_;rintro e w1 ⟨rfl,rfl⟩;go_wp2_with fail;refine (H0.out _).mono ?_;rintro e w1 ⟨rfl,rfl⟩;go_wp2_with fail;go_ret;exact ⟨rfl,(Below.refl _ _).alloc (Nat.le_refl _) _⟩
      ·rw [hz]at H0;have HX:=Lib.hid (show (3:Int)=chkR k.data.toList v.data.toList from (qhC hn (.inr (.inr hz))).symm);rw [←HX.out];clear hc hz hd hn;go_enter Tryz.func263,Tryz.ntmps263;go_wp2_with fail;refine (H61.out _).mono ?_;rintro e w1 ⟨rfl,rfl⟩;go_wp2_with fail;refine (H10.out _).mono ?_;rintro e w1 ⟨rfl,rfl⟩;go_wp2_with fail;refine (H0.out _).mono ?_;rintro e w1 ⟨rfl,rfl⟩;go_wp2_with fail;go_ret;exact ⟨rfl,(Below.refl _ _).alloc (Nat.le_refl _) _⟩
     ·rw [hd]at H10;have HX:=Lib.hid (show (3:Int)=chkR k.data.toList v.data.toList from (qhC hn (.inr (.inl hd))).symm);rw [←HX.out];clear hc hd hn;go_enter Tryz.func263,Tryz.ntmps263;go_wp2_with fail;refine (H61.out _).mono ?_;rintro e w1 ⟨rfl,rfl⟩;go_wp2_with fail;refine (H10.out _).mono ?_;rintro e w1 ⟨rfl,rfl⟩;go_wp2_with fail;go_ret;exact ⟨rfl,(Below.refl _ _).alloc (Nat.le_refl _) _⟩
    ·rw [hc]at H61;have HX:=Lib.hid (show (3:Int)=chkR k.data.toList v.data.toList from (qhC hn (.inl hc)).symm);rw [←HX.out];clear hc hn;go_enter Tryz.func263,Tryz.ntmps263;go_wp2_with fail;refine (H61.out _).mono ?_;rintro e w1 ⟨rfl,rfl⟩;go_wp2_with fail;go_ret;exact ⟨rfl,(Below.refl _ _).alloc (Nat.le_refl _) _⟩
theorem qlK {n:Nat} (h:n<1000):Lib.nDigits n≤3:=by
 by_cases h1:n<10
 ·rw [q54 h1];omega
 ·by_cases h2:n<100
  ·rw [qyV (by omega) h2];omega
  ·rw [q17 (by omega) h];omega
theorem qrB (n:Nat):(bs (Lib.decDigits n)).size=Lib.nDigits n:=by rw [qaB,Lib.decDigits_length]
set_option maxHeartbeats 1000000 in
theorem qz7 (L:Nat) (w:World) (T:Tab w) (hL:L≤900):Calls Tryz.prog 232 #[.int .i64 (L:Int)] w fun e w'=>e= .returned (.int .i64 (recN L:Int))∧Below w.heap.size w w':=by
 go_enter Tryz.func232,Tryz.ntmps232;go_wp2_with fail
 go_loopg [3] 3 (fun g s3 wx=> ∃d:Nat,s3= .int .i64 d∧d+g=4∧1≤d∧d≤3∧Hid (Below w.heap.size w wx)∧Hid ((2≤d→10≤L+1)∧(3≤d→100≤L+2)))
 case atStart=>exact ⟨1,rfl,rfl,Nat.le_refl _,by omega,Below.refl _ _,by omega,by omega⟩
 case round=>
  obtain ⟨d,rfl,hg,h1,h3,HB,HD⟩:=hrel;have T':=T.below HB.out;have HI:=Lib.hid (qh1 (L+d) wr T' (by omega));rw [Int.natCast_add]at HI;obtain ⟨D,HDn⟩:=qaA (bs (Lib.decDigits (L+d)));have HDs:=Lib.hid (qrB (L+d));rw [HDn.out]at HI HDs
  by_cases hgt:d<Lib.nDigits (L+d)
  ·have hD:(d:Int)<(D.size:Int):=by have:=HDs.out;omega
   have hds:D.size≤3:=by have:=HDs.out;have:=qlK (n:=L+d) (by omega);omega
   have hd2:d≤2:=by have:=qlK (n:=L+d) (by omega);omega
   have HD2:=Lib.hid (show (2≤d+1→10≤L+1)∧(3≤d+1→100≤L+2) by
    constructor
    ·intro _
     by_cases hd:d=1
     ·subst hd
      by_cases h10:L+1<10
      ·rw [q54 h10]at hgt;omega
      ·omega
     ·exact HD.out.1 (by omega)
    ·intro h;obtain rfl:d=2:=by omega
     have h10:=HD.out.1 (by omega)
     by_cases h100:L+2<100
     ·rw [qyV (by omega) h100]at hgt;omega
     ·omega)
   clear hgt;go_wp2_with fail;refine HI.out.mono ?_;rintro e w1 ⟨rfl,hb1⟩;have HB1:=Lib.hid (HB.out.trans (hb1.mono HB.out.size));clear hb1;go_wp2_with fail
   go_roundg (3-d)
   case measure=>omega
   case rel=>exact ⟨d+1,by go_num,by omega,by omega,by omega,HB1,HD2⟩
  ·have hD: ¬(d:Int)<(D.size:Int):=by have:=HDs.out;omega
   have HX:Hid (((L:Int)+(d:Int))=(recN L:Int)):=by
    unfold Hid recN;have h2:=HD.out
    by_cases h10:L+1<10
    ·rw [if_pos h10];omega
    ·rw [if_neg h10]
     have hd1:d≠1:=by
      rintro rfl;have:=qyV (n:=L+1) (by omega)
      by_cases h100:L+1<100
      ·rw [qyV (by omega) h100]at hgt;omega
      ·rw [q17 (by omega) (by omega)]at hgt;omega
     by_cases h100:L+2<100
     ·rw [if_pos h100];omega
     ·rw [if_neg h100]
      have hd2:d≠2:=by
       rintro rfl;rw [q17 (by omega) (by omega)]at hgt;omega
      omega
   clear hgt;go_wp2_with fail;refine HI.out.mono ?_;rintro e w1 ⟨rfl,hb1⟩;have HB1:=Lib.hid (HB.out.trans (hb1.mono HB.out.size));clear hb1;go_wp2_with fail;go_ret;exact ⟨qaR HX.out,HB1.out⟩
theorem q5B (k v:ByteArray):(⟨#[32]⟩:ByteArray)++k++⟨#[61]⟩++v++⟨#[10]⟩=bs (recT k.data.toList v.data.toList):=by
 apply qh7;simp [ByteArray.data_append,recT]
theorem qcM {a b A:ByteArray} (h:a++b=A) (hs:a.size+b.size≤9223372036854775807): ∀W:World,(Op.stringOp .add a b).run Tryz.prog W= .ok (.string A) W:=fun W=>by
 rw [←h];exact run_string_add_sum (P:=Tryz.prog) (w:=W) a b hs
structure Sums (k v R A1 A2 A3:ByteArray):Prop where
 e1:(⟨#[32]⟩:ByteArray)++k=A1
 e2:A1++⟨#[61]⟩=A2
 e3:A2++v=A3
 e4:A3++⟨#[10]⟩=R
theorem sums_of (k v:ByteArray): ∃A1 A2 A3,Sums k v (bs (recT k.data.toList v.data.toList)) A1 A2 A3:=
 ⟨_,_,_,rfl,rfl,rfl,q5B k v⟩
theorem q32 {k v:ByteArray} (h:chkR k.data.toList v.data.toList=0):k.size≤60∧v.size≤500:=by
 obtain ⟨-,h1,h2,-⟩:=qeW h;rw [qaD]at h1 h2;exact ⟨h1,h2⟩
set_option maxHeartbeats 1000000 in
theorem qhO (k v:ByteArray) (w:World) (T:Tab w) (hk:k.size≤maxLen) (hv:v.size≤maxLen):
  Calls Tryz.prog 186 #[recV k v] w fun e w'=>e= .returned (.tuple #[.string (recW k.data.toList v.data.toList).1,.int .i64 (recW k.data.toList v.data.toList).2])∧Below w.heap.size w w':=by
 have HC:=Lib.hid fun W=>qoN k v W hk hv;obtain ⟨c,hc⟩: ∃c,chkR k.data.toList v.data.toList=c:=⟨_,rfl⟩;rw [hc]at HC;unfold recV at HC⊢;unfold maxLen at hk hv
 by_cases h0:c=0
 ·subst h0;obtain ⟨hks,hvs⟩:=q32 hc;rw [qiC hc];obtain ⟨R,HR⟩:=qaA (bs (recT k.data.toList v.data.toList));have HRs:Hid (R.size=k.size+v.size+3):=by unfold Hid;rw [←HR.out,qaB,qp6,qaD,qaD]
  have HTot:=Lib.hid fun W (TW:Tab W)=>qz7 R.size W TW (by have:=HRs.out;omega);have hb:=qjV R.size;have hRs:R.size≤563:=by have:=HRs.out;omega
  obtain ⟨N,HN⟩:=qaA (recN R.size);rw [HN.out]at HTot hb;have HI:=Lib.hid fun W (TW:Tab W)=>qh1 N W TW (by omega);obtain ⟨D,HD⟩:=qaA (bs (Lib.decDigits N));have hDs:D.size≤3:=by rw [←HD.out,qrB];exact qlK (by omega)
  rw [HD.out]at HI
  have HX:Hid (D++R=bs (recL k.data.toList v.data.toList)):=by
   unfold Hid;rw [←HD.out,←HR.out,qeR,recL,←HN.out,HRs.out,qaD,qaD]
  obtain ⟨A1,A2,A3,hSm⟩:=sums_of k v;rw [HR.out]at hSm;have z1:A1.size=k.size+1:=by rw [←hSm.e1,ByteArray.size_append];show 1+_=_;omega
  have z2:A2.size=k.size+2:=by rw [←hSm.e2,ByteArray.size_append,z1];rfl
  have z3:A3.size=k.size+v.size+2:=by rw [←hSm.e3,ByteArray.size_append,z2];omega
  have p1:=qcM hSm.e1 (by show 1+_≤_;omega);have p2:=qcM hSm.e2 (by show _+1≤_;omega);have p3:=qcM hSm.e3 (by omega);have p4:=qcM hSm.e4 (by show _+1≤_;omega);have p5:=qcM HX.out (by omega);obtain ⟨X,HXn⟩:=qaA (bs (recL k.data.toList v.data.toList));rw [HXn.out]at p5⊢;clear hc hb z1 z2 z3 hSm HX;go_enter Tryz.func186,Tryz.ntmps186;go_wp2_with fail;refine (HC.out _).mono ?_;rintro e w1 ⟨rfl,hb1⟩;obtain ⟨⟨c0,c1⟩,-⟩:=blk2 (Blk.below (Blk.new w 190 #[.string k,.string v]) hb1 (by simp));have HB:=Lib.hid (((Below.refl w.heap.size w).alloc (Nat.le_refl _) _).trans (hb1.mono (by simp)));have T1:=T.below HB.out;clear hb1;go_wp2_with fail;refine (HTot.out _ T1).mono ?_;rintro e w2 ⟨rfl,hb2⟩;have HB2:=Lib.hid (HB.out.trans (hb2.mono HB.out.size));have T2:=T.below HB2.out;clear hb2;go_wp2_with fail;refine (HI.out _ T2).mono ?_;rintro e w3 ⟨rfl,hb3⟩;have HB3:=Lib.hid (HB2.out.trans (hb3.mono HB2.out.size));clear hb3;go_wp2_with fail;go_ret2;exact ⟨rfl,HB3.out⟩
 ·have hw:=qp5 (k:=k.data.toList) (v:=v.data.toList) (by rw [hc];exact h0);rw [hw,hc];have hne:(c !=0)=true:=by simpa using h0
  clear hw hc h0;go_enter Tryz.func186,Tryz.ntmps186;go_wp2_with fail;refine (HC.out _).mono ?_;rintro e w1 ⟨rfl,hb1⟩;have HB:=Lib.hid (((Below.refl w.heap.size w).alloc (Nat.le_refl _) _).trans (hb1.mono (by simp)));clear hb1;go_wp2_with fail;go_ret2;exact ⟨rfl,HB.out⟩
def TxS (w:World) (k v:ByteArray) (W:World):Prop:=Blk W w.heap.size 190 #[.string k,.string v]∧Tab W∧Below w.heap.size w W
theorem TxS.c0 {w W:World} {k v:ByteArray} (h:TxS w k v W):W.cell? ⟨w.heap.size,0,none⟩=some (.string k):=(blk2 h.1).1.1
theorem TxS.c1 {w W:World} {k v:ByteArray} (h:TxS w k v W):W.cell? ⟨w.heap.size,1,none⟩=some (.string v):=(blk2 h.1).1.2
theorem TxS.drew_ {w W:World} {k v:ByteArray} (h:TxS w k v W):TxS w k v W.drew:=⟨h.1.drew_,h.2.1.below (Below.drew (Below.refl _ _)),h.2.2.drew⟩
theorem TxS.below {w W W':World} {k v:ByteArray} (h:TxS w k v W) (hb:Below W.heap.size W W'):TxS w k v W':=
 ⟨h.1.below hb h.1.lt,h.2.1.below hb,h.2.2.trans (hb.mono (Nat.le_of_lt h.1.lt))⟩
theorem q0S (n:Nat) (k v:ByteArray):bs (Lib.decDigits n)++⟨#[32]⟩++k++⟨#[61]⟩++v++⟨#[10]⟩=bs (Lib.decDigits n++recT k.data.toList v.data.toList):=by
 apply qh7;simp [ByteArray.data_append,recT,bs]
structure Sums5 (D k v R A1 A2 A3 A4:ByteArray):Prop where
 e1:D++⟨#[32]⟩=A1
 e2:A1++k=A2
 e3:A2++⟨#[61]⟩=A3
 e4:A3++v=A4
 e5:A4++⟨#[10]⟩=R
theorem q4M (n:Nat) (k v:ByteArray): ∃A1 A2 A3 A4,Sums5 (bs (Lib.decDigits n)) k v (bs (Lib.decDigits n++recT k.data.toList v.data.toList)) A1 A2 A3 A4:=
 ⟨_,_,_,_,rfl,rfl,rfl,rfl,q0S n k v⟩
set_option maxHeartbeats 1000000 in
theorem qkZ (k v:ByteArray) (w:World) (T:Tab w) (hk:k.size≤maxLen) (hv:v.size≤maxLen):
  Calls Tryz.prog 262 #[recV k v] w fun e w'=>e= .returned (.tuple #[.string (recW k.data.toList v.data.toList).1,.int .i64 (recW k.data.toList v.data.toList).2])∧Below w.heap.size w w':=by
 have HC:=Lib.hid fun W=>qiY k v W hk hv;obtain ⟨c,hc⟩: ∃c,chkR k.data.toList v.data.toList=c:=⟨_,rfl⟩;rw [hc]at HC;unfold recV at HC⊢;unfold maxLen at hk hv
 by_cases h0:c=0
 ·subst h0;obtain ⟨hks,hvs⟩:=q32 hc;rw [qiC hc];have hb:=qjV (k.size+v.size+3);have HLst:=Lib.hid fun m hm=>qx6 (k.size+v.size+3) m (by omega) hm;have HLen:=Lib.hid (qwB (k.size+v.size+3) (by omega));obtain ⟨X,HX⟩:=qaA (bs (recL k.data.toList v.data.toList))
  have HXd:Hid (bs (Lib.decDigits (recN (k.size+v.size+3))++recT k.data.toList v.data.toList)=X):=by
   unfold Hid;rw [←HX.out,recL,qaD,qaD]
  rw [HX.out];obtain ⟨N,HN⟩:=qaA (recN (k.size+v.size+3));rw [HN.out]at hb HLst HLen HXd;have hN:N≤600:=by omega
  have hN1:1≤N:=by omega
  have HRT:Hid ((recT k.data.toList v.data.toList).length=k.size+v.size+3):=by unfold Hid;rw [qp6,qaD,qaD]
  clear hc hb;go_enter Tryz.func262,Tryz.ntmps262;go_wp2_with fail;refine (HC.out _).mono ?_;rintro e w1 ⟨rfl,hb1⟩
  have HS:TxS w k v w1:=by
   have h:Below w.heap.size w w1:=(((Below.refl w.heap.size w).alloc (Nat.le_refl _) _).trans (hb1.mono (by simp)));exact ⟨Blk.below (Blk.new w 190 #[.string k,.string v]) hb1 (by simp),T.below h,h⟩
  clear hb1;go_wp2_with fail
  go_loopg [5,6] (N-1) (fun g s5 s6 wx=> ∃n:Nat,s5= .int .i64 n∧n+g=N∧1≤n∧TxS w k v wx)
  case atStart=>exact ⟨1,rfl,by omega,Nat.le_refl _,HS⟩
  case round=>
   obtain ⟨n,rfl,hg,h1,hS⟩:=hrel;have HI:=Lib.hid fun W (hW:TxS w k v W)=>qh1 n W hW.2.1 (by omega);have hDs:(bs (Lib.decDigits n)).size≤3:=by rw [qrB];exact qlK (by omega)
   have HDl:=Lib.hid (qrB n);obtain ⟨A1,A2,A3,A4,hSm⟩:=q4M n k v;obtain ⟨R,HR⟩:=qaA (bs (Lib.decDigits n++recT k.data.toList v.data.toList));have HRs:Hid (R.size=Lib.nDigits n+(k.size+v.size+3)):=by unfold Hid;rw [←HR.out,qaB,List.length_append,Lib.decDigits_length,HRT.out]
   obtain ⟨D,HD⟩:=qaA (bs (Lib.decDigits n));rw [HD.out]at HI hDs hSm HDl;rw [HR.out]at hSm;have z1:A1.size=D.size+1:=by rw [←hSm.e1,ByteArray.size_append];rfl
   have z2:A2.size=D.size+k.size+1:=by rw [←hSm.e2,ByteArray.size_append,z1];omega
   have z3:A3.size=D.size+k.size+2:=by rw [←hSm.e3,ByteArray.size_append,z2];rfl
   have z4:A4.size=D.size+k.size+v.size+2:=by rw [←hSm.e4,ByteArray.size_append,z3];omega
   have p1:=qcM hSm.e1 (by show _+1≤_;omega);have p2:=qcM hSm.e2 (by omega);have p3:=qcM hSm.e3 (by show _+1≤_;omega);have p4:=qcM hSm.e4 (by omega);have p5:=qcM hSm.e5 (by show _+1≤_;omega);have r0: ∀W:World,TxS w k v W→W.cell? ⟨w.heap.size,0,none⟩=some (.string k):=fun W h=>h.c0;have r1: ∀W:World,TxS w k v W→W.cell? ⟨w.heap.size,1,none⟩=some (.string v):=fun W h=>h.c1;have hRl:R.size≤1000:=by have h1:=HRs.out;have h2:=HDl.out;omega
   clear z1 z2 z3 z4 hSm;go_upto_region 6 with fail
   go_cut [6] (fun s6 wx=>s6= .string R∧TxS w k v wx)
   case first=>
    go_region_held3 (fun W=>TxS w k v W)
     (first
      |(with_reducible assumption)
      |(with_reducible refine TxS.drew_ ?_;with_reducible assumption)
      |(with_reducible exact TxS.below (by with_reducible assumption) (by with_reducible assumption)))
     (first|(go_at_call 184;refine (HI.out _ (by first|with_reducible assumption|with_reducible exact TxS.drew_ (by with_reducible assumption))).mono ?_;rintro e w2 ⟨rfl,hb2⟩))
    all_goals
     go_wp2_with fail;go_meet;refine ⟨rfl,?_⟩
     first
      |with_reducible assumption
      |with_reducible exact TxS.below (by with_reducible assumption) (by with_reducible assumption)
      |with_reducible exact TxS.below (TxS.drew_ (by with_reducible assumption)) (by with_reducible assumption)
   case rest=>
    obtain ⟨rfl,hS2⟩:=hcut;clear p1 p2 p3 p4 p5 r0 r1
    by_cases hn:n=N
    ·subst hn;have he:((R.size:Int)==(n:Int))=true:=by have:=HRs.out;have:=HLen.out;rw [beq_iff_eq];omega
     have HRX:Hid (R=X):=by unfold Hid;rw [←HR.out,←HXd.out]
     go_wp2_with fail;go_ret2;exact ⟨qaU HRX.out rfl,hS2.2.2⟩
    ·have he:((R.size:Int)==(n:Int))=false:=by have h1:=HRs.out;have h2:=HLst.out n (by omega);rw [beq_eq_false_iff_ne];omega
     go_wp2_with fail
     go_roundg (N-(n+1))
     case measure=>omega
     case rel=>exact ⟨n+1,by go_num,by omega,by omega,hS2⟩
 ·have hw:=qp5 (k:=k.data.toList) (v:=v.data.toList) (by rw [hc];exact h0);rw [hw,hc];have hne:(c !=0)=true:=by simpa using h0
  clear hw hc h0;go_enter Tryz.func262,Tryz.ntmps262;go_wp2_with fail;refine (HC.out _).mono ?_;rintro e w1 ⟨rfl,hb1⟩;have HB:=Lib.hid (((Below.refl w.heap.size w).alloc (Nat.le_refl _) _).trans (hb1.mono (by simp)));clear hb1;go_wp2_with fail;go_ret2;exact ⟨rfl,HB.out⟩
end Go.Proofs.YtapgoifimhnbdaaGreatDoor
