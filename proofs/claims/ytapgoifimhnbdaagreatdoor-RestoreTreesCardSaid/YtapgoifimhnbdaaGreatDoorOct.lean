/- qaV of one kind, in one file: OctA, OctC, Str, OctB, OctD, OctE. -/
import Derived.Test.YtapgoifimhnbdaaGreatDoorMth
import Derived.BigQuiet
import Derived.Deep.QuietTactic
import Derived.WalkSmall
set_option linter.unusedVariables false
namespace Go.Proofs.YtapgoifimhnbdaaGreatDoor
open Go.RowKit
open Go.OpenShut
set_option maxHeartbeats 400000 in
theorem qf0 (x:Int) (w:World):Calls Tryz.prog 274 #[.int .i64 x] w fun e w'=>e= .returned (.bool (wOk x))∧w=w':=by
 by_cases h2:2≤x
 ·by_cases h12:x≤12
  ·rw [qz3 ⟨h2,h12⟩];go_enter Tryz.func274,Tryz.ntmps274;go_wp2;go_ret;exact ⟨rfl,rfl⟩
  ·rw [qrQ (by omega)];go_enter Tryz.func274,Tryz.ntmps274;go_wp2;go_ret;exact ⟨rfl,rfl⟩
 ·rw [qrQ (by omega)];go_enter Tryz.func274,Tryz.ntmps274;go_wp2;go_ret;exact ⟨rfl,rfl⟩
set_option maxHeartbeats 400000 in
theorem q4G (x:Int) (w:World) (h:wOk x=false):Calls Tryz.prog 229 #[.int .i64 x] w fun e w'=>e= .returned (.tuple #[.int .i64 0,.int .i64 4])∧w=w':=by
 go_enter Tryz.func229,Tryz.ntmps229;go_wp2_with (go_at_call 274;refine (qf0 _ _).mono ?_;rintro e w' ⟨rfl,rfl⟩);go_ret2;exact ⟨rfl,rfl⟩
set_option maxHeartbeats 400000 in
theorem qlS (x:Int) (w:World) (h:2≤x∧x≤12):Calls Tryz.prog 229 #[.int .i64 x] w fun e w'=>e= .returned (.tuple #[.int .i64 (most x),.int .i64 0])∧w=w':=by
 have hw:=qz3 h;rcases split12 h with rfl|rfl|rfl|rfl|rfl|rfl|rfl|rfl|rfl|rfl|rfl
 all_goals
  go_enter Tryz.func229,Tryz.ntmps229;go_wp2_with (go_at_call 274;refine (qf0 _ _).mono ?_;rintro e w' ⟨rfl,rfl⟩);go_ret2;exact ⟨rfl,rfl⟩
theorem qxP (x:Int) (w:World):Calls Tryz.prog 229 #[.int .i64 x] w fun e w'=>e= .returned (.tuple #[.int .i64 (q19 x).1,.int .i64 (q19 x).2])∧w=w':=by
 by_cases h:2≤x∧x≤12
 ·rw [show q19 x=(most x,0) by simp [q19,h]];exact qlS x w h
 ·rw [show q19 x=(0,4)from if_neg h];exact q4G x w (qrQ h)
def digB (c:Int):Bool:=decide (48≤c∧c≤55)
set_option maxHeartbeats 400000 in
theorem qmT (c:Int) (w:World):Calls Tryz.prog 343 #[.int .u8 c] w fun e w'=>e= .returned (.bool (digB c))∧w=w':=by
 by_cases h2:48≤c
 ·by_cases h12:c≤55
  ·rw [show digB c=true by simp [digB,h2,h12]];go_enter Tryz.func343,Tryz.ntmps343;go_wp2;go_ret;exact ⟨rfl,rfl⟩
  ·rw [show digB c=false by simp [digB,h12]];go_enter Tryz.func343,Tryz.ntmps343;go_wp2;go_ret;exact ⟨rfl,rfl⟩
 ·rw [show digB c=false by simp [digB,h2]];go_enter Tryz.func343,Tryz.ntmps343;go_wp2;go_ret;exact ⟨rfl,rfl⟩
set_option maxHeartbeats 400000 in
theorem qsP (x:Int) (w:World) (h0:0≤x) (h1:x≤11):Calls Tryz.prog 300 #[.int .i64 x] w fun e w'=>e= .returned (.int .i64 (8^x.toNat))∧w=w':=by
 obtain ⟨n,rfl⟩:=Int.eq_ofNat_of_zero_le h0;rw [Int.toNat_natCast];have hn:n≤11:=by omega
 go_enter Tryz.func300,Tryz.ntmps300;go_wp2
 go_loop [3,4] (fun o i=> ∃k:Nat,k≤n∧i= .int .i64 k∧o= .int .i64 (8^k)) (fun _ i=>n-(intOf i).toNat)
 case atStart=>exact ⟨0,Nat.zero_le _,rfl,rfl⟩
 case round=>
  obtain ⟨k,hk,rfl,rfl⟩:=hrel;have hp1:=qqD k
  by_cases hlt:k<n
  ·have hp:=qqE k (by omega);go_wp2;go_round
   case rel=>exact ⟨k+1,by omega,by go_num,by rw [Int.pow_succ]⟩
   case measure=>simp [intOf];omega
  ·have:k=n:=by omega
   subst this;go_wp2;go_ret;exact ⟨rfl,rfl⟩
set_option maxHeartbeats 400000 in
theorem q5I (x:Int) (w:World) (h: ¬(2≤x∧x≤12)):Calls Tryz.prog 299 #[.int .i64 x] w fun e w'=>e= .returned (.tuple #[.int .i64 0,.int .i64 4])∧w=w':=by
 by_cases h2:x<2
 ·go_enter Tryz.func299,Tryz.ntmps299;go_wp2;go_ret2;exact ⟨rfl,rfl⟩
 ·have h3:12<x:=by omega
  go_enter Tryz.func299,Tryz.ntmps299;go_wp2;go_ret2;exact ⟨rfl,rfl⟩
set_option maxHeartbeats 400000 in
theorem ql9 (x:Int) (w:World) (h:2≤x∧x≤12):Calls Tryz.prog 299 #[.int .i64 x] w fun e w'=>e= .returned (.tuple #[.int .i64 (most x),.int .i64 0])∧w=w':=by
 obtain ⟨h2,h3⟩:=h;have hp:=qqD (x.toNat-1);have hq:=qqE (x.toNat-1) (by omega);go_enter Tryz.func299,Tryz.ntmps299;go_wp2_with (go_at_call 300;refine (qsP _ _ (by omega) (by omega)).mono ?_;rintro e w' ⟨rfl,rfl⟩);go_ret2;exact ⟨rfl,rfl⟩
set_option maxRecDepth 100000
theorem info_u8:(Tryz.prog.info? 5).map (fun i=>(i.zero,i.size,i.bytes))=some (some (.int .u8 0),1,1):=by kernel_rfl
set_option maxHeartbeats 400000 in
theorem q4D (n x:Int) (w:World) (hx:2≤x∧x≤12) (hn:0≤n∧n≤most x):Calls Tryz.prog 281 #[.int .i64 n,.int .i64 x] w fun e w'=>e= .returned (.tuple #[.string ⟨(D n.toNat (x.toNat-1)++ [0]).toArray⟩,.int .i64 0])∧Below w.heap.size w w':=by
 obtain ⟨h1,h2⟩:=hn;obtain ⟨m,rfl⟩:=Int.eq_ofNat_of_zero_le h1;obtain ⟨x1,x2⟩:=hx;have hm:m≤8589934592:=by have:=q18 x2;omega
 obtain ⟨y,rfl⟩:=Int.eq_ofNat_of_zero_le (show 0≤x by omega);obtain ⟨i0,hi,hz0,hz1,hz2⟩:=info_parts info_u8;rw [Int.toNat_natCast,Int.toNat_natCast];go_enter Tryz.func281,Tryz.ntmps281;go_wp2_with (first|(go_at_call 229;refine (qlS _ _ (by omega)).mono ?_;rintro e w' ⟨rfl,rfl⟩)|(at_make;refine wpList_make_full _ rfl _ _ 22 rfl w.heap.size 5 i0 (.int .u8 0) 1 Tryz.underlying22 hi hz0 hz1 _ _ _ _ y rfl rfl rfl rfl ?c1 ?c2 ?c3 ?_))
 case c1=>rw [hz2];omega
 case c2=>unfold maxLen;omega
 case c3=>omega
 intro w1 hown hg;have hb:Below w.heap.size w w1:=(Below.refl _ _).grown hg (Nat.le_refl _) (fun k h=>by cases h);rw [q35 m y (by omega)]at hown;clear hi hz0 hz1 hz2 hg;go_wp2
 go_loopw [0,9] (fun o i wr=> ∃k q j:Nat,j+k+1=y∧q≤m∧Hid (m/8^k=q)∧o= .int .i64 ↑q∧i= .int .i64 (↑j-1)∧wr.ownsRow w.heap.size 5 1 (.slice (some ⟨w.heap.size,0,none⟩) y y) y (qaX (buf m y k))∧Below w.heap.size w wr)
  (fun _ i _=>(intOf i+1).toNat)
 case atStart=>exact ⟨0,m,y-1,by omega,by omega,by simp [Hid],rfl,by go_num,hown,hb⟩
 case round=>
  obtain ⟨k,q,j,hj,hqm,hq,rfl,rfl,hown,hb⟩:=hrel;have Hj:=Lib.hid hj;have hj':j+k+1≤y:=by omega
  clear hj
  by_cases hlt:1≤j
  ·have hcell:wr.cell? ⟨w.heap.size,j-1,none⟩=some ((qaX (buf m y k))[j-1]'(by simp [buf];omega)):=by
    rw [hown.cellAt _ (by omega)];simp
   have hfro:=hown.frozenAt (j-1);have hd:q%8<8:=Nat.mod_lt _ (by omega);go_wp2;go_roundw
   case rel=>exact ⟨k+1,q/8,j-1,by have:=Hj.out;omega,by omega,qxD _ _ _ hq.out,by go_num,by go_num,by rw [←buf_set m y k q j hq.out Hj.out hlt];exact (hown.stored _ _).1,hb.setCell (Nat.le_refl _) _⟩
   case measure=>simp [intOf];omega
  ·have hcv:=ql3 hown 22 5 9 Tryz.underlying22 Tryz.underlying5 Tryz.underlying9;go_wp2;go_ret2;obtain rfl:j=0:=by omega
   obtain rfl:k=y-1:=by have:=Hj.out;omega
   exact ⟨qhL _ (by rw [buf_end]),hb⟩
theorem qvO (n x:Int) (w:World) (hx:2≤x∧x≤12) (hn:n<0∨most x<n):Calls Tryz.prog 281 #[.int .i64 n,.int .i64 x] w fun e w'=>e= .returned (.tuple #[.string ⟨#[]⟩,.int .i64 4])∧w=w':=by
 by_cases h0:n<0
 ·go_enter Tryz.func281,Tryz.ntmps281;go_wp2_with (go_at_call 229;refine (qlS _ _ (by omega)).mono ?_;rintro e w' ⟨rfl,rfl⟩);go_ret2;exact ⟨rfl,rfl⟩
 ·have h1:most x<n:=by omega
  go_enter Tryz.func281,Tryz.ntmps281;go_wp2_with (go_at_call 229;refine (qlS _ _ (by omega)).mono ?_;rintro e w' ⟨rfl,rfl⟩);go_ret2;exact ⟨rfl,rfl⟩
theorem qvN (n x:Int) (w:World) (hx: ¬(2≤x∧x≤12)):Calls Tryz.prog 281 #[.int .i64 n,.int .i64 x] w fun e w'=>e= .returned (.tuple #[.string ⟨#[]⟩,.int .i64 4])∧w=w':=by
 go_enter Tryz.func281,Tryz.ntmps281;go_wp2_with (go_at_call 229;refine (q4G _ _ (qrQ hx)).mono ?_;rintro e w' ⟨rfl,rfl⟩);go_ret2;exact ⟨rfl,rfl⟩
theorem qt2 (n x:Int) (w:World):Calls Tryz.prog 281 #[.int .i64 n,.int .i64 x] w fun e w'=>e= .returned (.tuple #[.string (octW n x).1,.int .i64 (octW n x).2])∧Below w.heap.size w w':=by
 by_cases h:2≤x∧x≤12
 ·by_cases h':0≤n∧n≤most x
  ·rw [qi5 h h'];exact q4D n x w h h'
  ·rw [qmK (by omega)];exact (qvO n x w h (by omega)).mono fun e w' ⟨a,b⟩=>⟨a,b▸Below.refl _ _⟩
 ·rw [qmK (by omega)];exact (qvN n x w h).mono fun e w' ⟨a,b⟩=>⟨a,b▸Below.refl _ _⟩
end Go.Proofs.YtapgoifimhnbdaaGreatDoor
namespace Go.Proofs.YtapgoifimhnbdaaGreatDoor
open Go.RowKit
def hasPre (s p:ByteArray):Bool:=decide (p.data.toList<+:s.data.toList)
theorem qb8 (s:ByteArray) (a b:Nat):(s.extract a b).data.toList=(s.data.toList.take b).drop a:=by
 rw [ByteArray.data_extract,Array.toList_extract];simp [List.extract,List.drop_take]
end Go.Proofs.YtapgoifimhnbdaaGreatDoor
namespace Go.Proofs.YtapgoifimhnbdaaGreatDoor
open Go.RowKit
open Go.OpenShut
def q12 (n x:Int):List UInt8:=D n.toNat (x.toNat-1)++ [0]
set_option maxHeartbeats 400000 in
theorem qqI (n x:Int) (w:World) (hx:2≤x∧x≤12) (hn:0≤n∧n≤most x):Calls Tryz.prog 253 #[.int .i64 n,.int .i64 x] w fun e w'=>e= .returned (.tuple #[.string ⟨(q12 n x).toArray⟩,.int .i64 0])∧w=w':=by
 obtain ⟨h1,h2⟩:=hn;obtain ⟨m,rfl⟩:=Int.eq_ofNat_of_zero_le h1;obtain ⟨x1,x2⟩:=hx;have hm:m≤8589934592:=by have:=q18 x2;omega
 go_enter Tryz.func253,Tryz.ntmps253;go_wp2_with (go_at_call 299;refine (ql9 _ _ (by omega)).mono ?_;rintro e w' ⟨rfl,rfl⟩)
 go_loop [0,8] (fun o s=> ∃k q:Nat,k+1≤x∧q≤m∧Hid (m/8^k=q)∧o= .int .i64 ↑q∧s= .string ⟨(D m k).toArray⟩) (fun _ s=>x.toNat-qv4 s)
 case atStart=>exact ⟨0,m,by omega,by omega,by simp [Hid],rfl,rfl⟩
 case round=>
  obtain ⟨k,q,hk,hqm,hq,rfl,rfl⟩:=hrel
  by_cases hlt:(k:Int)<x-1
  ·have hd:q%8<8:=Nat.mod_lt _ (by omega);go_wp2;go_round
   case rel=>exact ⟨k+1,q/8,by omega,by omega,qxD _ _ _ hq.out,by go_num,by rw [q76 _ _ _ hq.out,qtU _ hd,qdC];rfl⟩
   case measure=>simp only [qv4,qtU _ hd,qdC,qjU,List.length_append,D_length,List.length_cons,List.length_nil];omega
  ·have hkx:x.toNat-1=k:=by omega
   go_wp2;go_ret2;exact ⟨qhL _ (by rw [q12,Int.toNat_natCast,hkx];exact qdC _ [0]),rfl⟩
theorem quK (n x:Int) (w:World) (hx:2≤x∧x≤12) (hn:n<0∨most x<n):Calls Tryz.prog 253 #[.int .i64 n,.int .i64 x] w fun e w'=>e= .returned (.tuple #[.string ⟨#[]⟩,.int .i64 4])∧w=w':=by
 by_cases h0:n<0
 ·go_enter Tryz.func253,Tryz.ntmps253;go_wp2_with (go_at_call 299;refine (ql9 _ _ (by omega)).mono ?_;rintro e w' ⟨rfl,rfl⟩);go_ret2;exact ⟨rfl,rfl⟩
 ·have h1:most x<n:=by omega
  go_enter Tryz.func253,Tryz.ntmps253;go_wp2_with (go_at_call 299;refine (ql9 _ _ (by omega)).mono ?_;rintro e w' ⟨rfl,rfl⟩);go_ret2;exact ⟨rfl,rfl⟩
theorem quJ (n x:Int) (w:World) (hx: ¬(2≤x∧x≤12)):Calls Tryz.prog 253 #[.int .i64 n,.int .i64 x] w fun e w'=>e= .returned (.tuple #[.string ⟨#[]⟩,.int .i64 4])∧w=w':=by
 go_enter Tryz.func253,Tryz.ntmps253;go_wp2_with (go_at_call 299;refine (q5I _ _ (by omega)).mono ?_;rintro e w' ⟨rfl,rfl⟩);go_ret2;exact ⟨rfl,rfl⟩
theorem qgQ (n x:Int) (w:World):Calls Tryz.prog 253 #[.int .i64 n,.int .i64 x] w fun e w'=>e= .returned (.tuple #[.string (octW n x).1,.int .i64 (octW n x).2])∧w=w':=by
 by_cases h:2≤x∧x≤12
 ·by_cases h':0≤n∧n≤most x
  ·rw [qi5 h h'];exact qqI n x w h h'
  ·rw [qmK (by omega)];exact quK n x w h (by omega)
 ·rw [qmK (by omega)];exact quJ n x w h
theorem qzV (s:ByteArray) (w:World) (hs:s.size≤maxLen) (h: ¬(2≤s.size∧s.size≤12)):Calls Tryz.prog 322 #[.string s] w fun e w'=>e= .returned (.tuple #[.int .i64 0,.int .i64 4])∧w=w':=by
 have hw:wOk s.size=false:=qrQ (by omega);unfold maxLen at hs;go_enter Tryz.func322,Tryz.ntmps322;go_wp2_with (go_at_call 274;refine (qf0 _ _).mono ?_;rintro e w' ⟨rfl,rfl⟩);go_ret2;exact ⟨rfl,rfl⟩
set_option maxHeartbeats 400000 in
theorem Read_in (s:ByteArray) (w:World) (h1:2≤s.size) (h2:s.size≤12):Calls Tryz.prog 322 #[.string s] w fun e w'=>e= .returned (.tuple #[.int .i64 (octR s.data.toList).1,.int .i64 (octR s.data.toList).2])∧w=w':=by
 have hw:wOk s.size=true:=qz3 (by omega);go_enter Tryz.func322,Tryz.ntmps322;go_wp2_with (go_at_call 274;refine (qf0 _ _).mono ?_;rintro e w' ⟨rfl,rfl⟩)
 go_loop [5,15] (fun n i=> ∃k:Nat,k+1≤s.size∧i= .int .i64 k∧n= .int .i64 (qcF (s.data.toList.take k))∧Hid (digL (s.data.toList.take k)=true)) (fun _ i=>s.size-(intOf i).toNat)
 case atStart=>exact ⟨0,by omega,rfl,rfl,rfl⟩
 case round=>
  obtain ⟨k,hk,rfl,rfl,hd⟩:=hrel;have hb:=qsW _ hd.out;rw [List.length_take_of_le (by simpa using (by omega:k≤s.size))]at hb
  by_cases hlt:k+1<s.size
  ·have hp:(8:Nat) ^k≤8^10:=Nat.pow_le_pow_right (by omega) (by omega);have hb2:qcF (s.data.toList.take k)≤1073741824:=by omega
   clear hb hp;have Hs:=Lib.hid (qc4 s k (by omega))
   by_cases hc:48≤s[k].toNat∧s[k].toNat≤55
   ·have hdig:digB s[k].toNat=true:=by simp [digB];omega
    obtain ⟨c1,c2⟩:=hc;go_wp2_with (go_at_call 343;refine (qmT _ _).mono ?_;rintro e w' ⟨rfl,rfl⟩);go_round
    case rel=>exact ⟨k+1,by omega,by go_num,by rw [Hs.out,qd6];go_num,by unfold Hid;rw [Hs.out,qfD,hd.out];simp [c1,c2]⟩
    case measure=>simp [intOf];omega
   ·have hdig:digB s[k].toNat=false:=by simp [digB];omega
    go_wp2_with (go_at_call 343;refine (qmT _ _).mono ?_;rintro e w' ⟨rfl,rfl⟩);go_ret2
    have hf:octR s.data.toList=(0,3):=qj7 ⟨h1,h2⟩ (fun h=>by
     have:digL (s.data.toList.take (k+1))=false:=by rw [Hs.out,qfD];simp [hc]
     have:=qeC _ _ (s.size-1) (by omega) this
     exact absurd (this.symm.trans h.1) (by simp))
    exact ⟨qb9 (by rw [hf]) (by rw [hf]),rfl⟩
  ·obtain rfl:k=s.size-1:=by omega
   have hg:=qg3 s (s.size-1) (by omega) 1
   by_cases hz:s[s.size-1]=0
   ·have hz':((s[s.size-1].toNat:Int) !=0)=false:=by simp [hz]
    have hf:=Lib.hid (qlJ ⟨h1,h2⟩ hd.out (hg.trans hz));clear hg hz hb;go_wp2;go_ret2;exact ⟨qb9 (by rw [hf.out];rfl) (by rw [hf.out]),rfl⟩
   ·have hz':((s[s.size-1].toNat:Int) !=0)=true:=by
     simp only [bne_iff_ne,ne_eq];intro h;apply hz;apply UInt8.toNat_inj.1;simpa using h
    have hf:=Lib.hid (qj7 (l:=s.data.toList) ⟨h1,h2⟩ (fun h=>hz (hg.symm.trans h.2)));clear hg hz hb;go_wp2;go_ret2;exact ⟨qb9 (by rw [hf.out]) (by rw [hf.out]),rfl⟩
theorem qsX (s:ByteArray) (w:World) (hs:s.size≤maxLen):Calls Tryz.prog 322 #[.string s] w fun e w'=>e= .returned (.tuple #[.int .i64 (octR s.data.toList).1,.int .i64 (octR s.data.toList).2])∧w=w':=by
 by_cases h:2≤s.size∧s.size≤12
 ·exact Read_in s w h.1 h.2
 ·rw [qwT (l:=s.data.toList) h];exact qzV s w hs h
theorem q1D (s:ByteArray) (w:World) (hs:s.size≤maxLen) (h: ¬(2≤s.size∧s.size≤12)):Calls Tryz.prog 258 #[.string s] w fun e w'=>e= .returned (.tuple #[.int .i64 0,.int .i64 4])∧w=w':=by
 unfold maxLen at hs
 by_cases h2:s.size<2
 ·go_enter Tryz.func258,Tryz.ntmps258;go_wp2;go_ret2;exact ⟨rfl,rfl⟩
 ·have h3:12<s.size:=by omega
  go_enter Tryz.func258,Tryz.ntmps258;go_wp2;go_ret2;exact ⟨rfl,rfl⟩
set_option maxHeartbeats 400000 in
theorem rOf_in (s:ByteArray) (w:World) (h1:2≤s.size) (h2:s.size≤12):Calls Tryz.prog 258 #[.string s] w fun e w'=>e= .returned (.tuple #[.int .i64 (octR s.data.toList).1,.int .i64 (octR s.data.toList).2])∧Below w.heap.size w w':=by
 go_enter Tryz.func258,Tryz.ntmps258;go_wp2
 go_loopw [4,5] (fun n i wr=> ∃k:Nat,k+1≤s.size∧i= .int .i64 k∧n= .int .i64 ↑(qcF (s.data.toList.take k)*8^(s.size-1-k))∧Hid (digL (s.data.toList.take k)=true)∧Below w.heap.size w wr) (fun _ i _=>s.size-(intOf i).toNat)
 case atStart=>exact ⟨0,by omega,rfl,by simp [qcF],rfl,Below.refl _ _⟩
 case round=>
  obtain ⟨k,hk,rfl,rfl,hd,hbel⟩:=hrel;have hb:=qsW _ hd.out;rw [List.length_take_of_le (by simpa using (by omega:k≤s.size))]at hb
  by_cases hlt:k+1<s.size
  ·have hp:(8:Nat) ^k≤8^10:=Nat.pow_le_pow_right (by omega) (by omega)
   have hb2:qcF (s.data.toList.take k)*8^(s.size-1-k)≤8589934592:=by
    have a:=Nat.mul_le_mul_right (8^(s.size-1-k)) (Nat.le_of_lt hb);rw [←Nat.pow_add]at a;have b:(8:Nat) ^(k+(s.size-1-k))≤8^11:=Nat.pow_le_pow_right (by omega) (by omega);omega
   clear hb hp;have Hs:=Lib.hid (qc4 s k (by omega))
   by_cases hc:48≤s[k].toNat∧s[k].toNat≤55
   ·obtain ⟨c1,c2⟩:=hc;have Hst:=Lib.hid (q46 (s.data.toList.take k) s[k] s.size k (by omega) c1);have hpk:=qqE (s.size-2-k) (by omega);have hpk1:=qqD (s.size-2-k);generalize qcF (s.data.toList.take k)*8^(s.size-1-k)=q at*;go_wp2;have s1:IntKind.i64.wrap ((s.size:Int) -2)=(s.size:Int) -2:=IntWalk.i64_in _ (by omega);have p1:0≤((s[k].toNat:Int) -48)*8^(s.size-2-k):=Int.mul_nonneg (by omega) (by omega);have p2:((s[k].toNat:Int) -48)*8^(s.size-2-k)≤7*8589934592:=Int.mul_le_mul (by omega) hpk (by omega) (by omega);have e1:((s.size:Int) -2-k).toNat=s.size-2-k:=by omega
    have s3:IntKind.i64.wrap (((s[k].toNat:Int) -48)*8^(s.size-2-k))=((s[k].toNat:Int) -48)*8^(s.size-2-k):=IntWalk.i64_in _ (by omega);have s4:IntKind.i64.wrap ((q:Int)+((s[k].toNat:Int) -48)*8^(s.size-2-k))=(q:Int)+((s[k].toNat:Int) -48)*8^(s.size-2-k):=IntWalk.i64_in _ (by omega);have s5:IntKind.i64.wrap ((s[k].toNat:Int) -48)=(s[k].toNat:Int) -48:=IntWalk.i64_in _ (by omega);have s2:IntKind.i64.wrap ((s.size:Int) -2-k)=(s.size:Int) -2-k:=IntWalk.i64_in _ (by omega);go_quiet ((go_at_call 300;exact Calls.quiet_of_same (qbO (qsP _ _ (by omega) (by omega)))));go_wp2;go_roundw
    case rel=>exact ⟨k+1,by omega,by go_num,by rw [Hs.out,←Hst.out],by unfold Hid;rw [Hs.out,qfD,hd.out];simp [c1,c2],below_drewN hbel _⟩
    case measure=>simp [intOf];omega
   ·by_cases h8:s[k].toNat<48
    ·go_wp2;go_ret2
     have hf:octR s.data.toList=(0,3):=qj7 ⟨h1,h2⟩ (fun h=>by
      have:digL (s.data.toList.take (k+1))=false:=by rw [Hs.out,qfD];simp;omega
      have:=qeC _ _ (s.size-1) (by omega) this
      exact absurd (this.symm.trans h.1) (by simp))
     exact ⟨qb9 (by rw [hf]) (by rw [hf]),hbel⟩
    ·have h9:55<s[k].toNat:=by omega
     go_wp2;go_ret2
     have hf:octR s.data.toList=(0,3):=qj7 ⟨h1,h2⟩ (fun h=>by
      have:digL (s.data.toList.take (k+1))=false:=by rw [Hs.out,qfD];simp;omega
      have:=qeC _ _ (s.size-1) (by omega) this
      exact absurd (this.symm.trans h.1) (by simp))
     exact ⟨qb9 (by rw [hf]) (by rw [hf]),hbel⟩
  ·obtain rfl:k=s.size-1:=by omega
   have hg:=qg3 s (s.size-1) (by omega) 1
   by_cases hz:s[s.size-1]=0
   ·have hz':((s[s.size-1].toNat:Int) !=0)=false:=by simp [hz]
    have hf:=Lib.hid (qlJ ⟨h1,h2⟩ hd.out (hg.trans hz));clear hg hz hb;go_wp2;go_ret2;exact ⟨qb9 (by rw [hf.out];simp) (by rw [hf.out]),hbel⟩
   ·have hz':((s[s.size-1].toNat:Int) !=0)=true:=by
     simp only [bne_iff_ne,ne_eq];intro h;apply hz;apply UInt8.toNat_inj.1;simpa using h
    have hf:=Lib.hid (qj7 (l:=s.data.toList) ⟨h1,h2⟩ (fun h=>hz (hg.symm.trans h.2)));clear hg hz hb;go_wp2;go_ret2;exact ⟨qb9 (by rw [hf.out]) (by rw [hf.out]),hbel⟩
theorem rOf_any (s:ByteArray) (w:World) (hs:s.size≤maxLen):Calls Tryz.prog 258 #[.string s] w fun e w'=>e= .returned (.tuple #[.int .i64 (octR s.data.toList).1,.int .i64 (octR s.data.toList).2])∧Below w.heap.size w w':=by
 by_cases h:2≤s.size∧s.size≤12
 ·exact rOf_in s w h.1 h.2
 ·rw [qwT (l:=s.data.toList) h];exact (q1D s w hs h).mono fun e w' ⟨a,b⟩=>⟨a,b▸Below.refl _ _⟩
end Go.Proofs.YtapgoifimhnbdaaGreatDoor
