/- qaV of one kind, in one file: SplA, SplB. -/
import Derived.Test.YtapgoifimhnbdaaGreatDoorMth
import Derived.Test.YtapgoifimhnbdaaGreatDoorPth
import Derived.Test.YtapgoifimhnbdaaGreatDoorFld
import Derived.Test.YtapgoifimhnbdaaGreatDoorShelf
import Derived.Shelf.Strings.SplitCore
set_option linter.unusedVariables false
set_option maxRecDepth 100000
namespace Go.Proofs.YtapgoifimhnbdaaGreatDoor
open Go.RowKit
open Go.OpenShut
theorem qaV.mono {w:World} {B B':Nat} {v:Value} {ls:List (List UInt8)} (h:qaV w B v ls) (hB:B'≤B):qaV w B' v ls:=by
 unfold qaV World.ownsRow at*;refine ⟨h.1,?_⟩;rcases h.2 with h|⟨g,cap,cur,e1,e2,h⟩
 ·exact .inl h
 ·exact .inr ⟨g,cap,cur,e1,by omega,h⟩
theorem qaV.lit {w:World} (ls:List (List UInt8)) (hm:ls.length≤maxLen):qaV (w.alloc (.cells (strC ls).toArray 9)) w.heap.size (.slice (some ⟨w.heap.size,0,none⟩) ls.length ls.length) ls:=by
 have:=World.ownsRow_lit (base:=w.heap.size) (e:=9) (size:=1) w (strC ls).toArray ls.length (Nat.le_refl _) hm (by simp);unfold qaV;simpa using this
theorem qn0 (s:ByteArray) (w:World) (hs:s.size<4294967281):
  Calls Tryz.prog 152 #[.string s,.string ⟨#[47]⟩,.int .i64 0,.int .i64 (-1)] w fun e w'=>
   e= .returned (.slice (some ⟨w.heap.size,0,none⟩) (qaK 47 s.data.toList).length (qaK 47 s.data.toList).length)∧w'=w.alloc (.cells (strC (qaK 47 s.data.toList)).toArray 9):=by
 have hc:=qtY s;have hl:=qdU 47 s.data.toList;have hle:=List.count_le_length (l:=s.data.toList) (a:=47);have hsz:s.data.toList.length=s.size:=by simp
 have h:=Any.strings_genSplit_core Tryz.lays221 (by kernel_rfl) s ⟨#[47]⟩ 0 (-1) (Lib.countB s ⟨#[47]⟩+1) w hs (by decide) (Nat.zero_le _)
  (fun x c _=>(Tryz.strings_Index_one x 47 _).mono fun e w' ⟨a,b⟩=>⟨by rw [a];exact congrArg (fun z=>Ending.returned (.int .i64 z)) (Lib.index_one x.data.toList 47).symm,b⟩)
  ((Tryz.strings_Count_one s 47 w).mono fun e w' ⟨a,b⟩=>⟨by rw [a,hc];rfl,b⟩) (by decide) (by decide) (by rw [if_pos (by decide),hc];omega)
 have hb:=qr3 s _ rfl
 have hlen:(Lib.splitB ⟨#[47]⟩ 0 (s.data.toList.count 47) s).length=(qaK 47 s.data.toList).length:=by
  have:=congrArg List.length hb;simpa using this
 rw [Nat.add_sub_cancel,hc,hlen,←hl]at h
 have hcell:Lib.cellsOf (Lib.splitB ⟨#[47]⟩ 0 (s.data.toList.count 47) s) (qaK 47 s.data.toList).length=(strC (qaK 47 s.data.toList)).toArray:=by
  rw [←hlen,Lib.cellsOf_full,hb]
 rw [hcell]at h;exact h
theorem qvR (s:ByteArray) (w:World) (hs:s.size<4294967281):
  Calls Tryz.prog 100 #[.string s,.string ⟨#[47]⟩] w fun e w'=>
   e= .returned (.slice (some ⟨w.heap.size,0,none⟩) (qaK 47 s.data.toList).length (qaK 47 s.data.toList).length)∧w'=w.alloc (.cells (strC (qaK 47 s.data.toList)).toArray 9):=by
 go_enter Tryz.func100,Tryz.ntmps100;go_wp2_with fail;refine (qn0 s _ hs).mono ?_;rintro e w' ⟨rfl,rfl⟩;go_wp2_with fail;go_ret;exact ⟨rfl,rfl⟩
theorem q4F (s:ByteArray) (w:World) (hs:s.size<4294967281):
  Calls Tryz.prog 157 #[.string s] w fun e w'=> ∃v,e= .returned v∧qaV w' w.heap.size v (pp s.data.toList)∧Below w.heap.size w w':=by
 by_cases h0:s.data.toList= []
 ·have e0:=qcN h0;rw [h0,qwK];clear h0;go_enter Tryz.func157,Tryz.ntmps157;go_wp2_with fail;go_ret;exact ⟨_,rfl,qaV.nil _ _,Below.refl _ _⟩
 ·have e0:=qcG h0;rw [pp_ne h0];clear h0
  have hm:(qaK 47 s.data.toList).length≤maxLen:=by
   have h1:=qe4 47 s.data.toList;have h2:s.data.toList.length=s.size:=by simp
   unfold maxLen;omega
  go_enter Tryz.func157,Tryz.ntmps157;go_wp2_with fail;refine (qaY s _ (by omega)).mono ?_;rintro e w1 ⟨rfl,hB1⟩;go_wp2_with fail;refine (qvR s _ hs).mono ?_;rintro e w2 ⟨rfl,rfl⟩;have HB:=Lib.hid (hB1.alloc hB1.size (.cells (strC (qaK 47 s.data.toList)).toArray 9));have HT:=Lib.hid ((qaV.lit (w:=w1) _ hm).mono hB1.size);clear hB1 hm;go_wp2_with fail;go_ret;exact ⟨_,rfl,HT.out,HB.out⟩
theorem qfL (s:ByteArray) (w:World) (hs:s.size≤281474976710656):Calls Tryz.prog 111 #[.string s,.int .u8 47] w fun e w'=>e= .returned (.int .i64 (Lib.lastIndexByte s 47))∧w=w':=
 (Tryz.strings_LastIndexByte s 47 (by omega) w).mono fun e w' ⟨a,b⟩=>⟨a,b.symm⟩
theorem q3O (s:ByteArray) (k:Nat):s.extract 0 k=⟨(s.data.toList.take k).toArray⟩:=by
 apply ByteArray.ext;apply Array.toList_inj.1;rw [ByteArray.data_extract,Array.toList_extract];simp [List.extract]
theorem qnB (s:ByteArray) (a b:Nat):(s.extract a b).size≤s.size:=by rw [ByteArray.size_extract];omega
theorem Up_any (s:ByteArray) (w:World) (hs:s.size≤281474976710656):Calls Tryz.prog 66 #[.string s] w fun e w'=>e= .returned (.string ⟨(upL s.data.toList).toArray⟩)∧Below w.heap.size w w':=by
 rcases qy3 s with ⟨h1,h2,-,-⟩|⟨i,hi,h1,h2,-,-⟩
 ·have H1:=Lib.hid h1;rw [h2];clear h1 h2;go_enter Tryz.func66,Tryz.ntmps66;go_wp2_with fail;refine (qfL s _ hs).mono ?_;rintro e w' ⟨rfl,rfl⟩;rw [H1.out];go_wp2_with fail;rw [show (max (-1:Int) 0).toNat=0 from rfl];have hx:=qnB s 0 0;refine (qaY _ _ (by omega)).mono ?_;rintro e w1 ⟨rfl,hB1⟩;have HB:=Lib.hid hB1;clear hB1 hx;go_wp2_with fail;go_ret;exact ⟨ret_str rfl,HB.out⟩
 ·have H1:=Lib.hid h1;rw [h2,←q3O];have hx:=qnB s 0 i;clear h1 h2;go_enter Tryz.func66,Tryz.ntmps66;go_wp2_with fail;refine (qfL s _ hs).mono ?_;rintro e w' ⟨rfl,rfl⟩;rw [H1.out];go_wp2_with fail;refine (qaY _ _ (by omega)).mono ?_;rintro e w1 ⟨rfl,hB1⟩;go_wp2_with fail;go_ret;exact ⟨rfl,hB1⟩
theorem qo1 (s:ByteArray) (w:World):Calls Tryz.prog 158 #[.string s] w fun e w'=>e= .returned (.bool (qeU s.data.toList))∧w=w':=by
 by_cases h0:s.data.toList= []
 ·have e0:=qcN h0;rw [qfW _ (.inl h0)];clear h0;go_enter Tryz.func158,Tryz.ntmps158;go_wp2_with fail;go_ret;exact ⟨rfl,rfl⟩
 ·have e0:=qcG h0;have e0':(!s.toList.isEmpty)=true:=by rw [e0];rfl
  by_cases h1:s.data.toList= [46]
  ·rw [qfW _ (.inr (.inl h1))];rw [←qhU]at h1;clear h0 e0 e0';go_enter Tryz.func158,Tryz.ntmps158;go_wp2_with fail;go_ret;exact ⟨rfl,rfl⟩
  ·by_cases h2:s.data.toList= [46,46]
   ·rw [qfW _ (.inr (.inr h2))];rw [←qhU]at h2;clear h0 h1 e0 e0';go_enter Tryz.func158,Tryz.ntmps158;go_wp2_with fail;go_ret;exact ⟨rfl,rfl⟩
   ·rw [qoX _ h0 h1 h2];rw [←qhU]at h1 h2;have d1:(s.toList== [46])=false:=by simpa using h1
    have d2:(s.toList== [46,46])=false:=by simpa using h2
    clear h0;go_enter Tryz.func158,Tryz.ntmps158;go_wp2_with fail;go_ret;exact ⟨rfl,rfl⟩
theorem qz0 (s:ByteArray) (w:World) (hs:s.size≤maxLen) (h:s.size<1∨400<s.size):Calls Tryz.prog 104 #[.string s] w fun e w'=>e= .returned (.int .i64 1)∧w=w':=by
 unfold maxLen at hs;rcases h with h|h
 all_goals
  go_enter Tryz.func104,Tryz.ntmps104;go_wp2_with fail;go_ret;exact ⟨rfl,rfl⟩
theorem qz1 (s:ByteArray) (w:World) (h1:1≤s.size) (h2:s.size≤400) (h:hasB 0 s.data.toList=true):Calls Tryz.prog 104 #[.string s] w fun e w'=>e= .returned (.int .i64 3)∧w=w':=by
 have HB:=Lib.hid h;clear h;go_enter Tryz.func104,Tryz.ntmps104;go_wp2_with fail;refine (qcB _ _ HB.out).mono ?_;rintro e w' ⟨rfl,rfl⟩;go_wp2_with fail;go_ret;exact ⟨rfl,rfl⟩
set_option maxHeartbeats 1000000 in
theorem qvW (s:ByteArray) (w:World) (h1:1≤s.size) (h2:s.size≤400) (h:hasB 0 s.data.toList=false):
  Calls Tryz.prog 104 #[.string s] w fun e w'=>e= .returned (.int .i64 (allE (qaK 47 s.data.toList)))∧Below w.heap.size w w':=by
 have hne:s.data.toList≠ []:=fun e=>by
  have h3:s.data.toList.length=s.size:=by simp
  rw [e]at h3;simp at h3;omega
 have hpp:=Lib.hid (pp_ne hne);have HB:=Lib.hid h;obtain ⟨ls,Hls⟩:=qaA (qaK 47 s.data.toList)
 have hll:ls.length≤401:=by
  have h3:=qe4 47 s.data.toList;have h4:s.data.toList.length=s.size:=by simp
  rw [Hls.out]at h3;omega
 obtain ⟨n,Hn⟩:=qaA ls.length;rw [Hn.out]at hll;rw [Hls.out];clear h hne;go_enter Tryz.func104,Tryz.ntmps104;go_wp2_with fail;refine (qb1 _ _ HB.out).mono ?_;rintro e w' ⟨rfl,rfl⟩;go_wp2_with fail;refine (q4F _ _ (by omega)).mono ?_;rintro e w1 ⟨v,rfl,hT,hB⟩;rw [hpp.out,Hls.out]at hT;obtain ⟨A,ca,rfl,hA⟩:=hT.any;have HA:=Lib.hid hA;have HB1:=Lib.hid hB;clear hA hT hB;rw [Hn.out];go_wp2_with fail
 go_loopw [19] (fun i wr=> ∃k m:Nat,i= .int .i64 k∧k≤n∧Hid ((ls.take k).all qeU=true)∧Hid (wr=w1.drewN m)) (fun i _=>n-(intOf i).toNat)
 case atStart=>exact ⟨0,0,rfl,Nat.zero_le _,rfl,rfl⟩
 case round=>
  obtain ⟨k,m,rfl,hk,HE,HW⟩:=hrel
  by_cases hlt:k<n
  ·obtain ⟨g,rfl,_,_,hc⟩:=HA.out k (by rw [Hn.out];exact hlt);have hc':wr.cell? ⟨g,k,none⟩=some (strV (ls.getD k [])):=by rw [HW.out];exact hc
   clear hc;unfold strV at hc';obtain ⟨sx,Hsx⟩:=qaA (⟨(ls.getD k []).toArray⟩:ByteArray);rw [Hsx.out]at hc';have Hx:Hid (sx.data.toList=ls.getD k []):=by unfold Hid;rw [←Hsx.out]
   cases hn:qeU sx.data.toList
   ·have HR:=Lib.hid (qrK (qnQ ls qeU k (by rw [Hn.out];exact hlt) (by rw [←Hx.out];exact hn)));have HN:=Lib.hid hn;clear hn;go_wp2_with fail;refine (qo1 _ _).mono ?_;rintro e w' ⟨rfl,rfl⟩;rw [HN.out];go_wp2_with fail;go_ret;exact ⟨qaR HR.out.symm,by rw [HW.out];exact qa2 HB1.out _⟩
   ·have HR:=Lib.hid (qjM ls qeU k (by rw [Hn.out];exact hlt) HE.out (by rw [←Hx.out];exact hn));have HN:=Lib.hid hn;clear hn;go_wp2_with fail;refine (qo1 _ _).mono ?_;rintro e w' ⟨rfl,rfl⟩;rw [HN.out];go_wp2_with fail;go_roundw
    case rel=>exact ⟨k+1,m,by go_num,by omega,HR,HW⟩
    case measure=>simp [intOf];omega
  ·obtain rfl:k=n:=by omega
   have HR:Hid (allE ls=0):=by have:=HE.out;rw [←Hn.out,List.take_length]at this;exact qlR this
   go_wp2_with fail;go_ret;exact ⟨qaR HR.out.symm,by rw [HW.out];exact qa2 HB1.out _⟩
theorem qt4 (s:ByteArray) (w:World) (hs:s.size≤maxLen):Calls Tryz.prog 104 #[.string s] w fun e w'=>e= .returned (.int .i64 (qc6 s.data.toList))∧Below w.heap.size w w':=by
 have hl:s.data.toList.length=s.size:=by simp
 by_cases h:s.data.toList.length<1∨400<s.data.toList.length
 ·rw [qoO h];rw [hl]at h;exact (qz0 s w hs h).mono fun e w' ⟨a,b⟩=>⟨a,b▸Below.refl _ _⟩
 ·cases h2:hasB 0 s.data.toList
  ·have hc:=qvW s w (by omega) (by omega) h2;cases h3:(qaK 47 s.data.toList).all qeU
   ·rw [qwQ h h2 h3];rw [qrK h3]at hc;exact hc
   ·rw [qwP h h2 h3];rw [qlR h3]at hc;exact hc
  ·rw [qoP h h2];exact (qz1 s w (by omega) (by omega) h2).mono fun e w' ⟨a,b⟩=>⟨a,b▸Below.refl _ _⟩
theorem quW {s:ByteArray} (h:s.size<1):s.data.toList= []:=by
 have h4:s.data.toList.length=s.size:=by simp
 exact List.eq_nil_of_length_eq_zero (by omega)
theorem qj9 {s:ByteArray} (h:1≤s.size):s.data.toList≠ []:=fun e=>by
 have h4:s.data.toList.length=s.size:=by simp
 rw [e]at h4;simp at h4;omega
theorem q45 {a b a' b':ByteArray} (h:a=a') (h':b=b'):Ending.returned (.tuple #[.string a,.string b])= .returned (.tuple #[.string a',.string b']):=by rw [h,h']
theorem quP (s:ByteArray) (w:World) (hs:s.size≤maxLen) (h:s.size<1∨400<s.size):Calls Tryz.prog 125 #[.string s] w fun e w'=>e= .returned (.int .i64 1)∧w=w':=by
 unfold maxLen at hs;rcases h with h|h
 ·have e0:s.toList= []:=qcN (quW h);go_enter Tryz.func125,Tryz.ntmps125;go_wp2_with fail;go_ret;exact ⟨rfl,rfl⟩
 ·have e0:s.toList.isEmpty=false:=qcG (qj9 (by omega));go_enter Tryz.func125,Tryz.ntmps125;go_wp2_with fail;go_ret;exact ⟨rfl,rfl⟩
theorem quQ (s:ByteArray) (w:World) (h1:1≤s.size) (h2:s.size≤400) (h:hasB 0 s.data.toList=true):Calls Tryz.prog 125 #[.string s] w fun e w'=>e= .returned (.int .i64 3)∧w=w':=by
 have HB:=Lib.hid h;have e0:s.toList.isEmpty=false:=qcG (qj9 h1);clear h;go_enter Tryz.func125,Tryz.ntmps125;go_wp2_with fail;refine (qb5 s 0 0 _ (by unfold maxLen;omega) rfl).mono ?_;rintro e w' ⟨rfl,rfl⟩;rw [HB.out];go_wp2_with fail;go_ret;exact ⟨rfl,rfl⟩
theorem quX (l:List UInt8):(qeU l=true∧l≠ []∧ ¬l= [46]∧ ¬l= [46,46])∨(qeU l=false∧(l= []∨l= [46]∨l= [46,46])):=by
 by_cases h:l= []∨l= [46]∨l= [46,46]
 ·exact .inr ⟨qfW l h,h⟩
 ·have h0:l≠ []:=fun e=>h (.inl e);have h1:l≠ [46]:=fun e=>h (.inr (.inl e));have h2:l≠ [46,46]:=fun e=>h (.inr (.inr e));exact .inl ⟨qoX l h0 h1 h2,h0,h1,h2⟩
set_option maxHeartbeats 2000000 in
theorem qsN (s:ByteArray) (w:World) (h1:1≤s.size) (h2:s.size≤400) (h:hasB 0 s.data.toList=false):
  Calls Tryz.prog 125 #[.string s] w fun e w'=>e= .returned (.int .i64 (allE (qaK 47 s.data.toList)))∧Below w.heap.size w w':=by
 have HB:=Lib.hid h;have e0:s.toList.isEmpty=false:=qcG (qj9 h1);obtain ⟨ls,Hls⟩:=qaA (qaK 47 s.data.toList)
 have hll:ls.length≤401:=by
  have h3:=qe4 47 s.data.toList;have h4:s.data.toList.length=s.size:=by simp
  rw [Hls.out]at h3;omega
 obtain ⟨n,Hn⟩:=qaA ls.length;rw [Hn.out]at hll;rw [Hls.out];clear h;go_enter Tryz.func125,Tryz.ntmps125;go_wp2_with fail;refine (qb5 s 0 0 _ (by unfold maxLen;omega) rfl).mono ?_;rintro e w' ⟨rfl,rfl⟩;rw [HB.out];go_wp2_with fail;refine (qmG s 47 47 _ (by omega) rfl).mono ?_;rintro e w1 ⟨v,rfl,hT,hB⟩;rw [Hls.out]at hT;obtain ⟨A,ca,rfl,hA⟩:=hT.any;have HA:=Lib.hid hA;have HB1:=Lib.hid hB;clear hA hT hB e0;rw [Hn.out];go_wp2_with fail
 go_loopw [17] (fun i wr=> ∃k m:Nat,i= .int .i64 k∧k≤n∧Hid ((ls.take k).all qeU=true)∧Hid (wr=w1.drewN m)) (fun i _=>n-(intOf i).toNat)
 case atStart=>exact ⟨0,0,rfl,Nat.zero_le _,rfl,rfl⟩
 case round=>
  obtain ⟨k,m,rfl,hk,HE,HW⟩:=hrel
  by_cases hlt:k<n
  ·obtain ⟨g,rfl,_,_,hc⟩:=HA.out k (by rw [Hn.out];exact hlt);have hc':wr.cell? ⟨g,k,none⟩=some (strV (ls.getD k [])):=by rw [HW.out];exact hc
   clear hc;unfold strV at hc';obtain ⟨sx,Hsx⟩:=qaA (⟨(ls.getD k []).toArray⟩:ByteArray);rw [Hsx.out]at hc';have Hx:Hid (sx.data.toList=ls.getD k []):=by unfold Hid;rw [←Hsx.out]
   rcases quX sx.data.toList with ⟨hn,f0,f1,f2⟩|⟨hn,hf⟩
   ·have HR:=Lib.hid (qjM ls qeU k (by rw [Hn.out];exact hlt) HE.out (by rw [←Hx.out];exact hn));have g0:=qcG f0;rw [←qhU]at f1 f2;have d1:(sx.toList== [46])=false:=by simpa using f1
    have d2:(sx.toList== [46,46])=false:=by simpa using f2
    clear hn f0;go_wp2_with fail;go_roundw
    case rel=>exact ⟨k+1,m,by go_num,by omega,HR,HW⟩
    case measure=>simp [intOf];omega
   ·have HR:=Lib.hid (qrK (qnQ ls qeU k (by rw [Hn.out];exact hlt) (by rw [←Hx.out];exact hn)));clear hn;rcases hf with hf|hf|hf
    ·have g0:=qcN hf;clear hf;go_wp2_with fail;go_ret;exact ⟨qaR HR.out.symm,by rw [HW.out];exact qa2 HB1.out _⟩
    ·rw [←qhU]at hf;go_wp2_with fail;go_ret;exact ⟨qaR HR.out.symm,by rw [HW.out];exact qa2 HB1.out _⟩
    ·rw [←qhU]at hf;go_wp2_with fail;go_ret;exact ⟨qaR HR.out.symm,by rw [HW.out];exact qa2 HB1.out _⟩
  ·obtain rfl:k=n:=by omega
   have HR:Hid (allE ls=0):=by have:=HE.out;rw [←Hn.out,List.take_length]at this;exact qlR this
   go_wp2_with fail;go_ret;exact ⟨qaR HR.out.symm,by rw [HW.out];exact qa2 HB1.out _⟩
theorem qoM (s:ByteArray) (w:World) (hs:s.size≤maxLen):Calls Tryz.prog 125 #[.string s] w fun e w'=>e= .returned (.int .i64 (qc6 s.data.toList))∧Below w.heap.size w w':=by
 have hl:s.data.toList.length=s.size:=by simp
 by_cases h:s.data.toList.length<1∨400<s.data.toList.length
 ·rw [qoO h];rw [hl]at h;exact (quP s w hs h).mono fun e w' ⟨a,b⟩=>⟨a,b▸Below.refl _ _⟩
 ·cases h2:hasB 0 s.data.toList
  ·have hc:=qsN s w (by omega) (by omega) h2;cases h3:(qaK 47 s.data.toList).all qeU
   ·rw [qwQ h h2 h3];rw [qrK h3]at hc;exact hc
   ·rw [qwP h h2 h3];rw [qlR h3]at hc;exact hc
  ·rw [qoP h h2];exact (quQ s w (by omega) (by omega) h2).mono fun e w' ⟨a,b⟩=>⟨a,b▸Below.refl _ _⟩
theorem q4P (a b:List UInt8):(⟨a.toArray⟩:ByteArray)++⟨#[47]⟩++⟨b.toArray⟩=⟨(a++47::b).toArray⟩:=by
 rw [show (⟨#[47]⟩:ByteArray)=⟨[47].toArray⟩from rfl,qdC,qdC];simp
set_option maxHeartbeats 2000000 in
theorem qyA (s:ByteArray) (w:World) (hs:s.size≤8000000000000):
  Calls Tryz.prog 84 #[.string s] w fun e w'=>e= .returned (.tuple #[.string ⟨(upL s.data.toList).toArray⟩,.string ⟨(qrH s.data.toList).toArray⟩])∧Below w.heap.size w w':=by
 have hsl:s.data.toList.length=s.size:=by simp
 have hjl:=qmR s.data.toList;have hp1:=qyN 47 s.data.toList;have hp2:=qe4 47 s.data.toList;have hup:upL s.data.toList=qgI ((qaK 47 s.data.toList).take ((qaK 47 s.data.toList).length-1)):=by unfold upL;rw [List.dropLast_eq_take]
 have hba:qrH s.data.toList=(qaK 47 s.data.toList).getD ((qaK 47 s.data.toList).length-1) []:=by
  unfold qrH;rw [List.getLast_eq_getElem,List.getD_eq_getElem?_getD,List.getElem?_eq_getElem (by omega)];rfl
 rw [hup,hba];obtain ⟨ls,Hls⟩:=qaA (qaK 47 s.data.toList);have HJ:Hid ((qgI ls).length=s.size):=by unfold Hid;rw [←Hls.out,hjl,hsl]
 have HM:Hid (∀j,(ls.getD j []).length≤s.size):=fun j=>by rw [←Hls.out,←hsl];exact qmH 47 _ j
 obtain ⟨n,Hn⟩:=qaA ls.length;rw [Hls.out,Hn.out]at hp1 hp2⊢;rw [hsl]at hp2;clear hsl hjl hup hba;go_enter Tryz.func84,Tryz.ntmps84;go_wp2_with fail;refine (qmG s 47 47 _ hs rfl).mono ?_;rintro e w1 ⟨v,rfl,hT,hB⟩;rw [Hls.out]at hT;obtain ⟨A,ca,rfl,hA⟩:=hT.any;have HA:=Lib.hid hA;have HB1:=Lib.hid hB;clear hA hT hB;rw [Hn.out];go_wp2_with fail
 go_loopw [5,6] (fun u i wr=> ∃(k m:Nat) (t:ByteArray),i= .int .i64 k∧u= .string t∧k≤n-1∧t.size≤s.size∧Hid (t=⟨(qgI (ls.take k)).toArray⟩)∧Hid (wr=w1.drewN m)) (fun _ i _=>n-1-(intOf i).toNat)
 case atStart=>exact ⟨0,0,⟨#[]⟩,rfl,rfl,Nat.zero_le _,Nat.zero_le _,rfl,rfl⟩
 case round=>
  obtain ⟨k,m,t,rfl,rfl,hk,hts,HE,HW⟩:=hrel
  by_cases hlt:k<n-1
  ·have hltz:(k:Int)<(n:Int) -1:=by omega
   obtain ⟨g,rfl,_,_,hc⟩:=HA.out k (by rw [Hn.out];omega);have hc':wr.cell? ⟨g,k,none⟩=some (strV (ls.getD k [])):=by rw [HW.out];exact hc
   clear hc;unfold strV at hc';obtain ⟨sx,Hsx⟩:=qaA (⟨(ls.getD k []).toArray⟩:ByteArray);have hxs:sx.size≤s.size:=by rw [←Hsx.out,qjU];exact HM.out k
   rw [Hsx.out]at hc';have HT:=Lib.hid (qdK ls k (by rw [Hn.out];omega));have HL:=Lib.hid (qqR ls (k+1))
   by_cases h0:k=0
   ·have HE1:Hid (t++sx=⟨(qgI (ls.take (k+1))).toArray⟩):=by
     unfold Hid;rw [HE.out,HT.out,h0,←Hsx.out,h0,qdC];rfl
    have hs1:(t++sx).size≤s.size:=by rw [HE1.out,qjU];have:=HL.out;rw [HJ.out]at this;exact this
    have h0':(k:Int)≤0:=by omega
    clear h0;go_wp2_with fail;go_roundw
    case rel=>exact ⟨k+1,m,_,by go_num,rfl,by omega,hs1,HE1,HW⟩
    case measure=>simp [intOf];omega
   ·have HE1:Hid (t++⟨#[47]⟩++sx=⟨(qgI (ls.take (k+1))).toArray⟩):=by
     unfold Hid;rw [HE.out,HT.out,←Hsx.out,q4P,qy9];intro e;have:=congrArg List.length e;rw [List.length_take,Hn.out]at this;simp at this;omega
    have hs1:(t++⟨#[47]⟩++sx).size≤s.size:=by rw [HE1.out,qjU];have:=HL.out;rw [HJ.out]at this;exact this
    have h0':0<(k:Int):=by omega
    have hs2:(t++⟨#[47]⟩).size≤s.size+1:=by rw [ByteArray.size_append];show t.size+1≤_;omega
    clear h0;go_wp2_with fail;go_roundw
    case rel=>exact ⟨k+1,m,_,by go_num,rfl,by omega,hs1,HE1,HW⟩
    case measure=>simp [intOf];omega
  ·obtain rfl:k=n-1:=by omega
   obtain ⟨g,rfl,_,_,hc⟩:=HA.out (n-1) (by rw [Hn.out];omega);have hc':wr.cell? ⟨g,n-1,none⟩=some (strV (ls.getD (n-1) [])):=by rw [HW.out];exact hc
   clear hc;unfold strV at hc';have b0:(0:Int)≤(n:Int) -1:=by omega
   have b0':(1:Int)≤(n:Int):=by omega
   have b1:(n:Int) -1<(n:Int):=by omega
   have b2:IntKind.i64.wrap ((n:Int) -1)=(n:Int) -1:=IntWalk.i64_in _ (by omega);have b7:((n:Int) -1).toNat=n-1:=by omega
   have b8:((n-1:Nat):Int)=(n:Int) -1:=by omega
   clear hlt;go_wp2_with fail;go_quiet (fail);go_wp2_with fail;go_ret2;exact ⟨q45 HE.out rfl,by rw [HW.out];exact qa2 (qa2 HB1.out _) _⟩
end Go.Proofs.YtapgoifimhnbdaaGreatDoor
