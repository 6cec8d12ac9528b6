/- qaX of one kind, in one file: OctC, OctB, OctD, OctE. -/
import Derived.Test.YtapgoifimhnbdaaGreatDoorTrm
import Derived.Deep.QuietTactic
import Derived.BigQuiet
import Derived.WalkSmall
set_option linter.unusedVariables false
set_option maxRecDepth 100000
namespace Go.Proofs.YtapgoifimhnbdaaGreatDoor
open Go.RowKit
open Go.OpenShut
theorem info_u8:(Tryz.prog.info? 5).map (fun i=>(i.zero,i.size,i.bytes))=some (some (.int .u8 0),1,1):=by kernel_rfl
set_option maxHeartbeats 400000 in
theorem q8N (n x:Int) (w:World) (hx:2≤x∧x≤12) (hn:0≤n∧n≤most x):Calls Tryz.prog 281 #[.int .i64 n,.int .i64 x] w fun e w'=>e= .returned (.tuple #[.string ⟨(D n.toNat (x.toNat-1)++ [0]).toArray⟩,.int .i64 0])∧Below w.heap.size w w':=by
 obtain ⟨h1,h2⟩:=hn;obtain ⟨m,rfl⟩:=Int.eq_ofNat_of_zero_le h1;obtain ⟨x1,x2⟩:=hx;have hm:m≤8589934592:=by have:=most_le x2;omega
 obtain ⟨y,rfl⟩:=Int.eq_ofNat_of_zero_le (show 0≤x by omega);obtain ⟨i0,hi,hz0,hz1,hz2⟩:=info_parts info_u8;rw [Int.toNat_natCast,Int.toNat_natCast];go_enter Tryz.func281,Tryz.ntmps281;go_wp2_with (first|(go_at_call 229;refine (ql6 _ _ (by omega)).mono ?_;rintro e w' ⟨rfl,rfl⟩)|(at_make;refine wpList_make_full _ rfl _ _ 22 rfl w.heap.size 5 i0 (.int .u8 0) 1 Tryz.underlying22 hi hz0 hz1 _ _ _ _ y rfl rfl rfl rfl ?c1 ?c2 ?c3 ?_))
 case c1=>rw [hz2];omega
 case c2=>unfold maxLen;omega
 case c3=>omega
 intro w1 hown hg;have hb:Below w.heap.size w w1:=(Below.refl _ _).grown hg (Nat.le_refl _) (fun k h=>by cases h);rw [q8A m y (by omega)]at hown;clear hi hz0 hz1 hz2 hg;go_wp2
 go_loopw [0,9] (fun o i wr=> ∃k q j:Nat,j+k+1=y∧q≤m∧Hid (m/8^k=q)∧o= .int .i64 ↑q∧i= .int .i64 (↑j-1)∧wr.ownsRow w.heap.size 5 1 (.slice (some ⟨w.heap.size,0,none⟩) y y) y (qaU (buf m y k))∧Below w.heap.size w wr)
  (fun _ i _=>(intOf i+1).toNat)
 case atStart=>exact ⟨0,m,y-1,by omega,by omega,by simp [Hid],rfl,by go_num,hown,hb⟩
 case round=>
  obtain ⟨k,q,j,hj,hqm,hq,rfl,rfl,hown,hb⟩:=hrel;have Hj:=Lib.hid hj;have hj':j+k+1≤y:=by omega
  clear hj
  by_cases hlt:1≤j
  ·have hcell:wr.cell? ⟨w.heap.size,j-1,none⟩=some ((qaU (buf m y k))[j-1]'(by simp [buf];omega)):=by
    rw [hown.cellAt _ (by omega)];simp
   have hfro:=hown.frozenAt (j-1);have hd:q%8<8:=Nat.mod_lt _ (by omega);go_wp2;go_roundw
   case rel=>exact ⟨k+1,q/8,j-1,by have:=Hj.out;omega,by omega,zcE _ _ _ hq.out,by go_num,by go_num,by rw [←buf_set m y k q j hq.out Hj.out hlt];exact (hown.stored _ _).1,hb.setCell (Nat.le_refl _) _⟩
   case measure=>simp [intOf];omega
  ·have hcv:=qmJ hown 22 5 9 Tryz.underlying22 Tryz.underlying5 Tryz.underlying9;go_wp2;go_ret2;obtain rfl:j=0:=by omega
   obtain rfl:k=y-1:=by have:=Hj.out;omega
   exact ⟨q0O _ (by rw [buf_end]),hb⟩
theorem qx2 (n x:Int) (w:World) (hx:2≤x∧x≤12) (hn:n<0∨most x<n):Calls Tryz.prog 281 #[.int .i64 n,.int .i64 x] w fun e w'=>e= .returned (.tuple #[.string ⟨#[]⟩,.int .i64 4])∧w=w':=by
 by_cases h0:n<0
 ·go_enter Tryz.func281,Tryz.ntmps281;go_wp2_with (go_at_call 229;refine (ql6 _ _ (by omega)).mono ?_;rintro e w' ⟨rfl,rfl⟩);go_ret2;exact ⟨rfl,rfl⟩
 ·have h1:most x<n:=by omega
  go_enter Tryz.func281,Tryz.ntmps281;go_wp2_with (go_at_call 229;refine (ql6 _ _ (by omega)).mono ?_;rintro e w' ⟨rfl,rfl⟩);go_ret2;exact ⟨rfl,rfl⟩
theorem qx1 (n x:Int) (w:World) (hx: ¬(2≤x∧x≤12)):Calls Tryz.prog 281 #[.int .i64 n,.int .i64 x] w fun e w'=>e= .returned (.tuple #[.string ⟨#[]⟩,.int .i64 4])∧w=w':=by
 go_enter Tryz.func281,Tryz.ntmps281;go_wp2_with (go_at_call 229;refine (q8U _ _ (qs5 hx)).mono ?_;rintro e w' ⟨rfl,rfl⟩);go_ret2;exact ⟨rfl,rfl⟩
theorem qvL (n x:Int) (w:World):Calls Tryz.prog 281 #[.int .i64 n,.int .i64 x] w fun e w'=>e= .returned (.tuple #[.string (octW n x).1,.int .i64 (octW n x).2])∧Below w.heap.size w w':=by
 by_cases h:2≤x∧x≤12
 ·by_cases h':0≤n∧n≤most x
  ·rw [qlZ h h'];exact q8N n x w h h'
  ·rw [qw0 (by omega)];exact (qx2 n x w h (by omega)).mono fun e w' ⟨a,b⟩=>⟨a,b▸Below.refl _ _⟩
 ·rw [qw0 (by omega)];exact (qx1 n x w h).mono fun e w' ⟨a,b⟩=>⟨a,b▸Below.refl _ _⟩
def octText (n x:Int):List UInt8:=D n.toNat (x.toNat-1)++ [0]
theorem q2X (s:ByteArray) (w:World) (hs:s.size≤maxLen) (h: ¬(2≤s.size∧s.size≤12)):Calls Tryz.prog 322 #[.string s] w fun e w'=>e= .returned (.tuple #[.int .i64 0,.int .i64 4])∧w=w':=by
 have hw:wOk s.size=false:=qs5 (by omega);unfold maxLen at hs;go_enter Tryz.func322,Tryz.ntmps322;go_wp2_with (go_at_call 274;refine (qf0 _ _).mono ?_;rintro e w' ⟨rfl,rfl⟩);go_ret2;exact ⟨rfl,rfl⟩
set_option maxHeartbeats 400000 in
theorem Read_in (s:ByteArray) (w:World) (h1:2≤s.size) (h2:s.size≤12):Calls Tryz.prog 322 #[.string s] w fun e w'=>e= .returned (.tuple #[.int .i64 (octR s.data.toList).1,.int .i64 (octR s.data.toList).2])∧w=w':=by
 have hw:wOk s.size=true:=q28 (by omega);go_enter Tryz.func322,Tryz.ntmps322;go_wp2_with (go_at_call 274;refine (qf0 _ _).mono ?_;rintro e w' ⟨rfl,rfl⟩)
 go_loop [5,15] (fun n i=> ∃k:Nat,k+1≤s.size∧i= .int .i64 k∧n= .int .i64 (qdF (s.data.toList.take k))∧Hid (digL (s.data.toList.take k)=true)) (fun _ i=>s.size-(intOf i).toNat)
 case atStart=>exact ⟨0,by omega,rfl,rfl,rfl⟩
 case round=>
  obtain ⟨k,hk,rfl,rfl,hd⟩:=hrel;have hb:=q5G _ hd.out;rw [List.length_take_of_le (by simpa using (by omega:k≤s.size))]at hb
  by_cases hlt:k+1<s.size
  ·have hp:(8:Nat) ^k≤8^10:=Nat.pow_le_pow_right (by omega) (by omega);have hb2:qdF (s.data.toList.take k)≤1073741824:=by omega
   clear hb hp;have Hs:=Lib.hid (qe7 s k (by omega))
   by_cases hc:48≤s[k].toNat∧s[k].toNat≤55
   ·have hdig:digB s[k].toNat=true:=by simp [digB];omega
    obtain ⟨c1,c2⟩:=hc;go_wp2_with (go_at_call 343;refine (qnJ _ _).mono ?_;rintro e w' ⟨rfl,rfl⟩);go_round
    case rel=>exact ⟨k+1,by omega,by go_num,by rw [Hs.out,qfX];go_num,by unfold Hid;rw [Hs.out,qoA,hd.out];simp [c1,c2]⟩
    case measure=>simp [intOf];omega
   ·have hdig:digB s[k].toNat=false:=by simp [digB];omega
    go_wp2_with (go_at_call 343;refine (qnJ _ _).mono ?_;rintro e w' ⟨rfl,rfl⟩);go_ret2
    have hf:octR s.data.toList=(0,3):=qw2 ⟨h1,h2⟩ (fun h=>by
     have:digL (s.data.toList.take (k+1))=false:=by rw [Hs.out,qoA];simp [hc]
     have:=qn9 _ _ (s.size-1) (by omega) this
     exact absurd (this.symm.trans h.1) (by simp))
    exact ⟨qeY (by rw [hf]) (by rw [hf]),rfl⟩
  ·obtain rfl:k=s.size-1:=by omega
   have hg:=quT s (s.size-1) (by omega) 1
   by_cases hz:s[s.size-1]=0
   ·have hz':((s[s.size-1].toNat:Int) !=0)=false:=by simp [hz]
    have hf:=Lib.hid (qrL ⟨h1,h2⟩ hd.out (hg.trans hz));clear hg hz hb;go_wp2;go_ret2;exact ⟨qeY (by rw [hf.out];rfl) (by rw [hf.out]),rfl⟩
   ·have hz':((s[s.size-1].toNat:Int) !=0)=true:=by
     simp only [bne_iff_ne,ne_eq];intro h;apply hz;apply UInt8.toNat_inj.1;simpa using h
    have hf:=Lib.hid (qw2 (l:=s.data.toList) ⟨h1,h2⟩ (fun h=>hz (hg.symm.trans h.2)));clear hg hz hb;go_wp2;go_ret2;exact ⟨qeY (by rw [hf.out]) (by rw [hf.out]),rfl⟩
theorem qt6 (s:ByteArray) (w:World) (hs:s.size≤maxLen):Calls Tryz.prog 322 #[.string s] w fun e w'=>e= .returned (.tuple #[.int .i64 (octR s.data.toList).1,.int .i64 (octR s.data.toList).2])∧w=w':=by
 by_cases h:2≤s.size∧s.size≤12
 ·exact Read_in s w h.1 h.2
 ·rw [za4 (l:=s.data.toList) h];exact q2X s w hs h
end Go.Proofs.YtapgoifimhnbdaaGreatDoor
