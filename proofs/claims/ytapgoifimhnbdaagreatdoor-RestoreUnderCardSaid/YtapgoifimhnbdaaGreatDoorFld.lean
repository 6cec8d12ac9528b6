/- qaX of one kind, in one file: FldA, FldB, FldD, FldC. -/
import Derived.Test.YtapgoifimhnbdaaGreatDoorMth
import Derived.Lib.Bytealg
import Derived.Laws.Externs
import Derived.Lib.BufferWrite
import Derived.Laws.MakeOwn
import Derived.Laws.CopyOwn
import Derived.BigQuiet
import Derived.Deep.QuietTactic
import Derived.WalkSmall
import Derived.WalkLawsBesides
import Derived.Test.YtapgoifimhnbdaaGreatDoorShelf
import Derived.IntWalk
set_option linter.unusedVariables false
set_option maxRecDepth 100000
namespace Go.Proofs.YtapgoifimhnbdaaGreatDoor
open Go.RowKit
open Go.OpenShut
theorem qsF (args:Array Value) (w:World):(callFunc 247 args).run Tryz.prog w=((Extern.BytealgIndexByte.indexByte args).run Tryz.prog w).andThen fun v w'=> .ok (.value v) w':=
 run_callFunc_extern (P:=Tryz.prog) (f:=247) Tryz.func247 (by kernel_rfl) (by kernel_rfl) (by kernel_rfl) (e:=Extern.BytealgIndexByte.indexByte) (by kernel_rfl) args w
theorem qoV (s:ByteArray) (c:Int) (w:World):Calls Tryz.prog 206 #[.string s,.int .u8 c] w fun e w'=>e= .returned (.int .i64 (Lib.indexByte s.data.toList c.toNat.toUInt8))∧w=w':=by
 go_enter Tryz.func206,Tryz.ntmps206;go_wp2;rw [qsF,Lib.run_indexByteString];simp only [Result.andThen];rw [Oper.upon_value];go_wp2;go_ret;exact ⟨rfl,rfl⟩
theorem qb5 (s:ByteArray) (c:Int) (w:World):Calls Tryz.prog 156 #[.string s,.int .u8 c] w fun e w'=>e= .returned (.int .i64 (Lib.indexByte s.data.toList c.toNat.toUInt8))∧w=w':=by
 go_enter Tryz.func156,Tryz.ntmps156;go_wp2_with fail;refine (qoV _ _ _).mono ?_;rintro e w' ⟨rfl,rfl⟩;go_wp2_with fail;go_ret;exact ⟨rfl,rfl⟩
theorem qbY (s:ByteArray) (w:World) (h:hasB 0 s.data.toList=false):Calls Tryz.prog 156 #[.string s,.int .u8 0] w fun e w'=>e= .returned (.int .i64 (-1))∧w=w':=by
 refine (qb5 s 0 w).mono ?_;rintro e w' ⟨rfl,rfl⟩;exact ⟨qaV (by rw [qbX,show (Int.toNat 0).toUInt8=0 from rfl,h];rfl),rfl⟩
theorem qb4 (s:ByteArray) (w:World) (h:hasB 0 s.data.toList=true):Calls Tryz.prog 156 #[.string s,.int .u8 0] w fun e w'=>e= .returned (.int .i64 (pos 0 s.data.toList))∧w=w':=by
 refine (qb5 s 0 w).mono ?_;rintro e w' ⟨rfl,rfl⟩;exact ⟨qaV (by rw [qbX,show (Int.toNat 0).toUInt8=0 from rfl,h];rfl),rfl⟩
def wdB (x:Int):Bool:=decide (1≤x∧x≤512)
theorem ql8 {x:Int} (h:1≤x∧x≤512):wdB x=true:=decide_eq_true h
theorem qx9 {x:Int} (h: ¬(1≤x∧x≤512)):wdB x=false:=decide_eq_false h
theorem qb2 (x:Int) (w:World):Calls Tryz.prog 337 #[.int .i64 x] w fun e w'=>e= .returned (.bool (wdB x))∧w=w':=by
 by_cases h2:1≤x
 ·by_cases h12:x≤512
  ·rw [ql8 ⟨h2,h12⟩];go_enter Tryz.func337,Tryz.ntmps337;go_wp2;go_ret;exact ⟨rfl,rfl⟩
  ·rw [qx9 (by omega)];go_enter Tryz.func337,Tryz.ntmps337;go_wp2;go_ret;exact ⟨rfl,rfl⟩
 ·rw [qx9 (by omega)];go_enter Tryz.func337,Tryz.ntmps337;go_wp2;go_ret;exact ⟨rfl,rfl⟩
def qgO (x:Int) (wh:Bool):Int:=if wh=true then x else x-1
theorem qfS (x:Int) (wh:Bool) (w:World) (h1:1≤x) (h2:x≤512):Calls Tryz.prog 338 #[.int .i64 x,.bool wh] w fun e w'=>e= .returned (.int .i64 (qgO x wh))∧w=w':=by
 cases wh
 ·go_enter Tryz.func338,Tryz.ntmps338;go_wp2;go_ret;exact ⟨rfl,rfl⟩
 ·go_enter Tryz.func338,Tryz.ntmps338;go_wp2;go_ret;exact ⟨rfl,rfl⟩
set_option maxHeartbeats 400000 in
theorem qp0 (s:ByteArray) (w:World) (hs:s.size≤maxLen):Calls Tryz.prog 342 #[.string s] w fun e w'=>e= .returned (.bool (allZ s.data.toList))∧w=w':=by
 unfold maxLen at hs;go_enter Tryz.func342,Tryz.ntmps342;go_wp2
 go_loop [6] (fun i=> ∃k:Nat,k≤s.size∧i= .int .i64 k∧Hid (allZ (s.data.toList.take k)=true)) (fun i=>s.size-(intOf i).toNat)
 case atStart=>exact ⟨0,Nat.zero_le _,rfl,rfl⟩
 case round=>
  obtain ⟨k,hk,rfl,hz⟩:=hrel
  by_cases hlt:k<s.size
  ·have Hs:=Lib.hid (qe7 s k hlt)
   by_cases hc:s[k]=0
   ·have hc':((s[k].toNat:Int) !=0)=false:=by simp [hc]
    have Hc:=Lib.hid hc;clear hc;go_wp2;go_round
    case rel=>exact ⟨k+1,by omega,by go_num,by unfold Hid;rw [Hs.out,qvK,hz.out,Hc.out];rfl⟩
    case measure=>simp [intOf];omega
   ·have hc':((s[k].toNat:Int) !=0)=true:=by
     simp only [bne_iff_ne,ne_eq];intro h;apply hc;apply UInt8.toNat_inj.1;simpa using h
    have hf:=Lib.hid (qqM s.data.toList k (by simpa using hlt) hc);go_wp2;go_ret;exact ⟨qcA hf.out.symm,rfl⟩
  ·obtain rfl:k=s.size:=by omega
   go_wp2;go_ret;exact ⟨qcA (by have:=hz.out;rw [show s.size=s.data.toList.length from by simp]at this;exact (qsW _ this).symm),rfl⟩
theorem qr9:(Tryz.prog.info? 5).map (fun i=>(i.zero,i.size,i.bytes))=some (some (.int .u8 0),1,1):=by kernel_rfl
theorem qu6 (s:ByteArray) (x:Int) (wh:Bool) (w:World) (hs:s.size≤maxLen) (h:x<1∨512<x):Calls Tryz.prog 313 #[.string s,.int .i64 x,.bool wh] w fun e w'=>e= .returned (.tuple #[.string ⟨#[]⟩,.int .i64 4])∧w=w':=by
 have hw:wdB x=false:=qx9 (by omega);unfold maxLen at hs;clear h;go_enter Tryz.func313,Tryz.ntmps313;go_wp2_with fail;refine (qb2 _ _).mono ?_;rintro e w' ⟨rfl,rfl⟩;go_wp2_with fail;go_ret2;exact ⟨rfl,rfl⟩
theorem qxP (s:ByteArray) (x:Int) (wh:Bool) (w:World) (hs:s.size≤maxLen) (h1:1≤x) (h2:x≤512) (h:qgO x wh<(s.size:Int)):Calls Tryz.prog 313 #[.string s,.int .i64 x,.bool wh] w fun e w'=>e= .returned (.tuple #[.string ⟨#[]⟩,.int .i64 1])∧w=w':=by
 have hw:wdB x=true:=ql8 ⟨h1,h2⟩;unfold maxLen at hs;go_enter Tryz.func313,Tryz.ntmps313;go_wp2_with fail;refine (qb2 _ _).mono ?_;rintro e w' ⟨rfl,rfl⟩;go_wp2_with fail;refine (qfS _ _ _ h1 h2).mono ?_;rintro e w' ⟨rfl,rfl⟩;go_wp2_with fail;go_ret2;exact ⟨rfl,rfl⟩
theorem qxQ (s:ByteArray) (x:Int) (wh:Bool) (w:World) (hs:s.size≤maxLen) (h1:1≤x) (h2:x≤512) (h:(s.size:Int)≤qgO x wh) (h0:hasB 0 s.data.toList=true):Calls Tryz.prog 313 #[.string s,.int .i64 x,.bool wh] w fun e w'=>e= .returned (.tuple #[.string ⟨#[]⟩,.int .i64 3])∧w=w':=by
 have hw:wdB x=true:=ql8 ⟨h1,h2⟩;unfold maxLen at hs;have H0:=Lib.hid h0;clear h0;go_enter Tryz.func313,Tryz.ntmps313;go_wp2_with fail;refine (qb2 _ _).mono ?_;rintro e w' ⟨rfl,rfl⟩;go_wp2_with fail;refine (qfS _ _ _ h1 h2).mono ?_;rintro e w' ⟨rfl,rfl⟩;go_wp2_with fail;refine (qb4 _ _ H0.out).mono ?_;rintro e w' ⟨rfl,rfl⟩;go_wp2_with fail;go_ret2;exact ⟨rfl,rfl⟩
set_option maxHeartbeats 400000 in
theorem q68 (s:ByteArray) (x:Int) (wh:Bool) (w:World) (hs:s.size≤maxLen) (h1:1≤x) (h2:x≤512) (h:(s.size:Int)≤qgO x wh) (h0:hasB 0 s.data.toList=false):Calls Tryz.prog 313 #[.string s,.int .i64 x,.bool wh] w fun e w'=>e= .returned (.tuple #[.string ⟨(s.data.toList++List.replicate (x.toNat-s.data.toList.length) 0).toArray⟩,.int .i64 0])∧Below w.heap.size w w':=by
 have hw:wdB x=true:=ql8 ⟨h1,h2⟩;unfold maxLen at hs;have H0:=Lib.hid h0;clear h0;have hsx:s.size≤x.toNat:=by unfold qgO at h;split at h<;>omega
 obtain ⟨y,rfl⟩:=Int.eq_ofNat_of_zero_le (show 0≤x by omega);rw [Int.toNat_natCast]at hsx⊢;obtain ⟨i0,hi,hz0,hz1,hz2⟩:=info_parts qr9;have hinfo:(Tryz.prog.info? 5).map (·.size)=some 1:=by rw [hi];simp [hz1]
 obtain ⟨M,hM⟩: ∃M,M=madeCells (Value.int .u8 0).cells (((y:Nat):Int).toNat*i0.size):=⟨_,rfl⟩;have hMl:M.toList=qaU (List.replicate y 0):=by rw [hM,hz1,Nat.mul_one,Int.toNat_natCast,←qkE];rfl
 have hMs:M.size=y:=by rw [←Array.length_toList,hMl];simp
 have hmk: ∀W:World,(Instr.makeSlice 22 (.int .i64 (y:Int)) (.int .i64 (y:Int))).run Tryz.prog W= .ok (.slice (some ⟨W.heap.size,0,none⟩) y y) (W.alloc (.cells M 5)):=fun W=>by
  have h:=run_make (P:=Tryz.prog) W 22 5 i0 (.int .u8 0) Tryz.underlying22 hi hz0 .i64 .i64 (y:Int) (y:Int) (by omega) (by omega) (by rw [hz2];omega) (by omega);rw [←hM]at h;simpa using h
 have hcp:=Lib.run_copy_row_string (P:=Tryz.prog) (w.alloc (.cells M 5)) 22 9 3 5 w.heap.size 0 y y s M 5 Tryz.underlying22 hinfo (heap_alloc_new w _) hsx (by omega);obtain ⟨Y,hY⟩: ∃Y,Y=(M.toList.take 0++Lib.byteCells s.data.toList++M.toList.drop (0+s.size)).toArray:=⟨_,rfl⟩;rw [←hY]at hcp
 have hYl:Y.toList=qaU (s.data.toList++List.replicate (y-s.data.toList.length) 0):=by
  have e1:Lib.byteCells s.data.toList=qaU s.data.toList:=by simp [Lib.byteCells,qaU,qeS]
  have e2:(qaU (List.replicate y 0)).drop s.size=qaU (List.replicate (y-s.data.toList.length) 0):=by simp [qaU,qeS]
  rw [hY,List.toList_toArray,List.take_zero,List.nil_append,Nat.zero_add,hMl,e1,e2,qeE]
 have hYs:Y.size=y:=by rw [←Array.length_toList,hYl];simp;omega
 have hgY:((w.alloc (.cells M 5)).setRow w.heap.size Y).heap[w.heap.size]?=some (.cells Y 5 (0,0)):=setRow_heap _ _ M _ 5 (0,0) (heap_alloc_new w _)
 have hown:((w.alloc (.cells M 5)).setRow w.heap.size Y).ownsRow w.heap.size 5 1 (.slice (some ⟨w.heap.size,0,none⟩) y y) y (qaU (s.data.toList++List.replicate (y-s.data.toList.length) 0)):=by
  refine ⟨by rw [←hYl,Array.length_toList,hYs];omega,.inr ⟨w.heap.size,y,Y,rfl,Nat.le_refl _,hgY,Nat.le_refl _,by unfold maxLen;omega,by omega,?_⟩⟩;rw [List.take_of_length_le (by rw [Array.length_toList];omega),hYl]
 have hcv:=qmJ hown 22 5 9 Tryz.underlying22 Tryz.underlying5 Tryz.underlying9;have hb1:Below w.heap.size w (w.alloc (.cells M 5)):=(Below.refl _ w).alloc (Nat.le_refl _) _;have hb2:Below w.heap.size w ((w.alloc (.cells M 5)).setRow w.heap.size Y):=below_setRow hb1 (Nat.le_refl _) _;clear hY hYl hYs hgY hown hb1 hM hMl hMs hi hz0 hz1 hz2 hinfo;go_enter Tryz.func313,Tryz.ntmps313;go_wp2_with fail;refine (qb2 _ _).mono ?_;rintro e w' ⟨rfl,rfl⟩;go_wp2_with fail;refine (qfS _ _ _ h1 h2).mono ?_;rintro e w' ⟨rfl,rfl⟩;go_wp2_with fail;refine (qbY _ _ H0.out).mono ?_;rintro e w' ⟨rfl,rfl⟩;go_wp2_with fail;go_ret2;exact ⟨rfl,hb2⟩
theorem q2E (s:ByteArray) (x:Int) (wh:Bool) (w:World) (hs:s.size≤maxLen):Calls Tryz.prog 313 #[.string s,.int .i64 x,.bool wh] w fun e w'=>e= .returned (.tuple #[.string (fldW s.data.toList x wh).1,.int .i64 (fldW s.data.toList x wh).2])∧Below w.heap.size w w':=by
 have hl:s.data.toList.length=s.size:=by simp
 by_cases h:x<1∨512<x
 ·rw [qp5 h];exact (qu6 s x wh w hs h).mono fun e w' ⟨a,b⟩=>⟨a,b▸Below.refl _ _⟩
 ·by_cases h2:x<s.data.toList.length∨(wh=false∧x=s.data.toList.length)
  ·rw [quY h h2];refine (qxP s x wh w hs (by omega) (by omega) ?_).mono fun e w' ⟨a,b⟩=>⟨a,b▸Below.refl _ _⟩;rw [hl]at h2;cases wh
   ·rcases h2 with a|⟨_,a⟩<;>simp only [qgO,Bool.false_eq_true,if_false]<;>omega
   ·rcases h2 with a|⟨a,_⟩
    ·simp only [qgO,if_true];omega
    ·cases a
  ·have hr:(s.size:Int)≤qgO x wh:=by
    have a1: ¬x<(s.size:Int):=fun a=>h2 (.inl (by omega));cases wh
    ·have a2: ¬x=(s.size:Int):=fun a=>h2 (.inr ⟨rfl,by omega⟩);simp only [qgO,Bool.false_eq_true,if_false];omega
    ·simp only [qgO,if_true];omega
   by_cases h3:hasB 0 s.data.toList=true
   ·rw [quZ h h2 h3];exact (qxQ s x wh w hs (by omega) (by omega) hr h3).mono fun e w' ⟨a,b⟩=>⟨a,b▸Below.refl _ _⟩
   ·rw [qxK h h2 (by simpa using h3)];exact q68 s x wh w hs (by omega) (by omega) hr (by simpa using h3)
theorem qa5 (s:ByteArray) (w:World) (hs:s.size≤281474976710656):Calls Tryz.prog 110 #[.string s] w fun e w'=>e= .returned (.string s)∧Below w.heap.size w w':=by
 go_enter Tryz.func110,Tryz.ntmps110;go_wp2_with fail;refine (Tryz.stringslite_Clone s _ hs).mono ?_;rintro e w1 ⟨rfl,hb⟩;go_wp2_with fail;go_ret;exact ⟨rfl,hb⟩
theorem qg5 (s:ByteArray) (k:Nat):(s.extract k s.size).data.toList=s.data.toList.drop k:=by
 rw [ByteArray.data_extract,Array.toList_extract];simp [List.extract];rw [List.take_of_length_le (by simp)]
theorem qqY (s:ByteArray) (k:Nat):s.extract 0 k=⟨(s.data.toList.take k).toArray⟩:=by
 apply ByteArray.ext;apply Array.toList_inj.1;rw [ByteArray.data_extract,Array.toList_extract];simp [List.extract]
theorem qg4 (s:ByteArray) (a b:Nat):(s.extract a b).size≤s.size:=by
 rw [ByteArray.size_extract];omega
theorem qu8 (s:ByteArray):s.extract 0 s.size=s:=by
 apply ByteArray.ext;apply Array.toList_inj.1;rw [qg5];rfl
theorem qxR (s:ByteArray) (wh:Bool) (w:World) (hs:s.size≤maxLen) (h:s.size<1∨512<s.size):Calls Tryz.prog 320 #[.string s,.bool wh] w fun e w'=>e= .returned (.tuple #[.string ⟨#[]⟩,.int .i64 4])∧Below w.heap.size w w':=by
 have hw:wdB (s.size:Int)=false:=qx9 (by omega);unfold maxLen at hs;clear h;go_enter Tryz.func320,Tryz.ntmps320;go_wp2_with fail;refine (qb2 _ _).mono ?_;rintro e w' ⟨rfl,rfl⟩;go_wp2_with fail;go_ret2;exact ⟨rfl,Below.refl _ _⟩
set_option maxHeartbeats 800000 in
theorem zb9 (s:ByteArray) (wh:Bool) (w:World) (h1:1≤s.size) (h2:s.size≤512):Calls Tryz.prog 320 #[.string s,.bool wh] w fun e w'=>e= .returned (.tuple #[.string (fldR s.data.toList wh).1,.int .i64 (fldR s.data.toList wh).2])∧Below w.heap.size w w':=by
 have hw:wdB (s.size:Int)=true:=ql8 (by omega);have HL:=Lib.hid (show s.data.toList.length=s.size by simp);obtain ⟨p,Hp⟩:=qaA (pos 0 s.data.toList);have hp:p≤s.size:=by rw [←Hp.out,←HL.out];exact qgE _ _
 have hE:=Lib.hid (qg5 s p);have hes:=qg4 s p s.size;have hes2:=qg4 s 0 p;have hm:(s.extract p s.size).size≤maxLen:=by unfold maxLen;omega
 have hlong:Hid (qgO s.size wh<p→(fldR s.data.toList wh)=(⟨#[]⟩,3)):=fun h=>by
  refine qu0 (by rw [HL.out];omega) (.inl ?_);rw [Hp.out,HL.out];cases wh
  ·simp only [qgO,Bool.false_eq_true,if_false]at h;exact ⟨rfl,by omega⟩
  ·simp only [qgO,if_true]at h;omega
 have hbad:Hid (allZ (s.data.toList.drop p)=false→(fldR s.data.toList wh)=(⟨#[]⟩,3)):=fun h=>by
  exact qu0 (by rw [HL.out];omega) (.inr (by rw [Hp.out];exact h))
 have hgood:Hid ((p:Int)≤qgO s.size wh→allZ (s.data.toList.drop p)=true→(fldR s.data.toList wh)=(s.extract 0 p,0)):=fun h h'=>by
  rw [q61 (by rw [HL.out];omega) ?_ (by rw [Hp.out];exact h'),Hp.out,qqY];rintro ⟨rfl,e⟩;rw [Hp.out,HL.out]at e;simp only [qgO,Bool.false_eq_true,if_false]at h;omega
 have hP:=qdW 0 s.data.toList;rw [Hp.out,HL.out]at hP;have HP:=Lib.hid hP;clear hP
 by_cases hlt:p<s.size
 ·by_cases hr:qgO (s.size:Int) wh<(p:Int)
  ·skip
   go_enter Tryz.func320,Tryz.ntmps320;go_wp2_with fail;refine (qb2 _ _).mono ?_;rintro e w' ⟨rfl,rfl⟩;go_wp2_with fail;refine (qb4 _ _ (by rw [HP.out];exact decide_eq_true hlt)).mono ?_;rintro e w' ⟨rfl,rfl⟩;rw [Hp.out];go_wp2_with fail;refine (qfS _ _ _ (by omega) (by omega)).mono ?_;rintro e w' ⟨rfl,rfl⟩;go_wp2_with fail;go_ret2;have hf:=hlong.out hr;exact ⟨qcJ (by rw [hf]) (by rw [hf]),Below.refl _ _⟩
  ·skip
   go_enter Tryz.func320,Tryz.ntmps320;go_wp2_with fail;refine (qb2 _ _).mono ?_;rintro e w' ⟨rfl,rfl⟩;go_wp2_with fail;refine (qb4 _ _ (by rw [HP.out];exact decide_eq_true hlt)).mono ?_;rintro e w' ⟨rfl,rfl⟩;rw [Hp.out];go_wp2_with fail;refine (qfS _ _ _ (by omega) (by omega)).mono ?_;rintro e w' ⟨rfl,rfl⟩;go_wp2_with fail;refine (qp0 _ _ hm).mono ?_;rintro e w' ⟨rfl,rfl⟩;rw [hE.out];cases hA:allZ (s.data.toList.drop p)
   ·have hf:=hbad.out hA;clear hA;go_wp2_with fail;go_ret2;exact ⟨qcJ (by rw [hf]) (by rw [hf]),Below.refl _ _⟩
   ·have hf:=Lib.hid (hgood.out (by omega) hA);clear hA;go_wp2_with fail;refine (qa5 _ _ (by omega)).mono ?_;rintro e w1 ⟨rfl,hb⟩;go_wp2_with fail;go_ret2;exact ⟨qcJ (by rw [hf.out]) (by rw [hf.out]),hb⟩
 ·obtain rfl:p=s.size:=by omega
  have hee:s.extract s.size s.size=ByteArray.empty:=by apply ByteArray.ext;apply Array.toList_inj.1;rw [qg5,List.drop_of_length_le (by simp)];rfl
  have hA:allZ (s.data.toList.drop s.size)=true:=by rw [List.drop_of_length_le (by simp)];rfl
  have hf:=Lib.hid fun h=>hgood.out h hA;clear hA hee
  by_cases hr:qgO (s.size:Int) wh<(s.size:Int)
  ·skip
   go_enter Tryz.func320,Tryz.ntmps320;go_wp2_with fail;refine (qb2 _ _).mono ?_;rintro e w' ⟨rfl,rfl⟩;go_wp2_with fail;refine (qbY _ _ (by rw [HP.out];exact decide_eq_false hlt)).mono ?_;rintro e w' ⟨rfl,rfl⟩;go_wp2_with fail;refine (qfS _ _ _ (by omega) (by omega)).mono ?_;rintro e w' ⟨rfl,rfl⟩;go_wp2_with fail;go_ret2;have hf:=hlong.out hr;exact ⟨qcJ (by rw [hf]) (by rw [hf]),Below.refl _ _⟩
  ·skip
   go_enter Tryz.func320,Tryz.ntmps320;go_wp2_with fail;refine (qb2 _ _).mono ?_;rintro e w' ⟨rfl,rfl⟩;go_wp2_with fail;refine (qbY _ _ (by rw [HP.out];exact decide_eq_false hlt)).mono ?_;rintro e w' ⟨rfl,rfl⟩;go_wp2_with fail;refine (qfS _ _ _ (by omega) (by omega)).mono ?_;rintro e w' ⟨rfl,rfl⟩;go_wp2_with fail;have hf':=Lib.hid ((hf.out hr).trans (show (s.extract 0 s.size,(0:Int))=(s,0) by rw [qu8]));refine (qp0 _ _ (by first|exact hm|decide)).mono ?_;rintro e w' ⟨rfl,rfl⟩;rw [show allZ (ByteArray.empty).data.toList=true from rfl];go_wp2_with fail;refine (qa5 _ _ (by omega)).mono ?_;rintro e w1 ⟨rfl,hb⟩;go_wp2_with fail;go_ret2;exact ⟨qcJ (by rw [hf'.out]) (by rw [hf'.out]),hb⟩
theorem q7A (s:ByteArray) (wh:Bool) (w:World) (hs:s.size≤maxLen):Calls Tryz.prog 320 #[.string s,.bool wh] w fun e w'=>e= .returned (.tuple #[.string (fldR s.data.toList wh).1,.int .i64 (fldR s.data.toList wh).2])∧Below w.heap.size w w':=by
 have hl:s.data.toList.length=s.size:=by simp
 by_cases h:s.size<1∨512<s.size
 ·rw [q19 (by rw [hl];exact h)];exact qxR s wh w hs h
 ·exact zb9 s wh w (by omega) (by omega)
end Go.Proofs.YtapgoifimhnbdaaGreatDoor
