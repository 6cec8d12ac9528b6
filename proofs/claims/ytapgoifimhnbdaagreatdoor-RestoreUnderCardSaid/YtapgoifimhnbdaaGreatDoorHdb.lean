/- qaX of one kind, in one file: HedB, HedW, HedX, HedY. -/
import Derived.Test.YtapgoifimhnbdaaGreatDoorMth
import Derived.Test.YtapgoifimhnbdaaGreatDoorFld
import Derived.Test.YtapgoifimhnbdaaGreatDoorOct
import Derived.Test.YtapgoifimhnbdaaGreatDoorTxs
import Derived.BigQuiet
import Derived.Deep.QuietTactic
import Derived.IntWalk
import Derived.Test.YtapgoifimhnbdaaGreatDoorWrx
import Derived.Test.YtapgoifimhnbdaaGreatDoorMea
import Derived.StillTailTactics
import Derived.Deep.DeepCutAuto
import Derived.Deep.RegionWith
set_option linter.unusedVariables false
set_option maxRecDepth 100000
namespace Go.Proofs.YtapgoifimhnbdaaGreatDoor
open Go.RowKit
open Go.OpenShut
theorem qtC (l:List UInt8) (k:Nat):sumB (l.take k)≤255*l.length:=by
 have h:=qmC (l.take k);rw [List.length_take]at h;omega
theorem qkO (l:List UInt8) (a b:Nat):(bs l).extract a b=bs (sl l a b):=by
 apply ByteArray.ext;apply Array.toList_inj.1;rw [ByteArray.data_extract,Array.toList_extract];simp [List.extract,bs,sl,List.drop_take]
theorem zd8 (s:ByteArray) (a b:Nat):s.extract a b=bs (sl s.data.toList a b):=by
 conv=>lhs;rw [←qgJ s]
 exact qkO _ _ _
set_option maxHeartbeats 400000 in
theorem qiM (s:ByteArray) (w:World) (hs:s.size≤512):Calls Tryz.prog 280 #[.string s] w fun e w'=>e= .returned (.int .i64 (sumB s.data.toList:Nat))∧w=w':=by
 have hle:=fun k=>qtC s.data.toList k;have HL:=Lib.hid (show s.data.toList.length=s.size by simp);go_enter Tryz.func280,Tryz.ntmps280;go_wp2
 go_loop [3,7] (fun o i=> ∃k:Nat,∃z:Int,k≤s.size∧i= .int .i64 k∧o= .int .i64 z∧Hid (z=(sumB (s.data.toList.take k):Nat))) (fun _ i=>s.size-(intOf i).toNat)
 case atStart=>exact ⟨0,0,Nat.zero_le _,rfl,rfl,rfl⟩
 case round=>
  obtain ⟨k,z,hk,rfl,rfl,hz⟩:=hrel;have hb:=hle k;rw [HL.out,←Int.ofNat_le,←hz.out]at hb;have hz0:0≤z:=by rw [hz.out];omega
  clear hle
  by_cases hlt:k<s.size
  ·have Hs:=Lib.hid (qe7 s k hlt);have h8:=s[k].toNat_lt;go_wp2;go_round
   case rel=>exact ⟨k+1,z+(s[k].toNat:Int),by omega,by go_num,by go_num,by unfold Hid;rw [Hs.out,q9G,qtD,q9F,hz.out];omega⟩
   case measure=>simp [intOf];omega
  ·obtain rfl:k=s.size:=by omega
   go_wp2;go_ret;exact ⟨qaV (by rw [hz.out,←HL.out,List.take_length]),rfl⟩
theorem qkM (c:UInt8) (n:Int) (w:World) (hn:n=(c.toNat:Int)):Calls Tryz.prog 233 #[.int .u8 n] w fun e w'=>e= .returned (.bool (typB c))∧w=w':=by
 subst hn;have hv:=qbX c [48,49,50,53,120];have hc:((c.toNat:Int)).toNat.toUInt8=c:=by rw [Int.toNat_natCast];exact UInt8.ofNat_toNat
 obtain ⟨z,Hz⟩:=qaA (Lib.indexByte [48,49,50,53,120] c);have HX:Hid (Lib.indexByte (⟨#[48,49,50,53,120]⟩:ByteArray).data.toList ((c.toNat:Int)).toNat.toUInt8=z):=by unfold Hid;rw [hc];exact Hz.out
 rw [Hz.out]at hv;have HV:=Lib.hid hv;clear hv hc;cases ht:typB c
 ·have hz:z= -1:=by rw [HV.out];unfold typB at ht;rw [ht];rfl
  rw [hz]at HX;clear hz HV Hz;go_enter Tryz.func233,Tryz.ntmps233;go_wp2_with fail;refine (qb5 _ _ _).mono ?_;rintro e w' ⟨rfl,rfl⟩;rw [HX.out];go_wp2;go_ret;exact ⟨rfl,rfl⟩
 ·have hz:0≤z:=by rw [HV.out];unfold typB at ht;rw [ht];simp
  clear HV Hz;go_enter Tryz.func233,Tryz.ntmps233;go_wp2_with fail;refine (qb5 _ _ _).mono ?_;rintro e w' ⟨rfl,rfl⟩;rw [HX.out];go_wp2;go_ret;exact ⟨rfl,rfl⟩
theorem qjL (a b:Int) (w:World):Calls Tryz.prog 321 #[.int .i64 a,.int .i64 b] w fun e w'=>e= .returned (.int .i64 (qcO a b))∧w=w':=by
 by_cases h:a=0
 ·rw [show qcO a b=b from if_pos h];subst h;go_enter Tryz.func321,Tryz.ntmps321;go_wp2;go_ret;exact ⟨rfl,rfl⟩
 ·rw [show qcO a b=a from if_neg h];have hb:(a !=0)=true:=by simpa using h
  clear h;go_enter Tryz.func321,Tryz.ntmps321;go_wp2;go_ret;exact ⟨rfl,rfl⟩
set_option maxHeartbeats 1000000 in
theorem qx4 (s:ByteArray) (w:World) (hs:s.size≤maxLen):Calls Tryz.prog 235 #[.string s] w fun e w'=>e= .returned (.tuple #[.int .i64 (sumV s.data.toList).1,.int .i64 (sumV s.data.toList).2])∧Below w.heap.size w w':=by
 have hl:s.data.toList.length=s.size:=by simp
 by_cases h:s.size=512
 ·have hb:=qwD s.data.toList (by omega);have e1:=qiW s.data.toList 0 148 (by omega);have e3:=qiW s.data.toList 156 512 (by omega);have b1:=qmC (sl s.data.toList 0 148);have b3:=qmC (sl s.data.toList 156 512);rw [qwC (by omega)]
  have HS:Hid (sumH s.data.toList=sumB (sl s.data.toList 0 148)+256+sumB (sl s.data.toList 156 512)):=by
   unfold Hid sumH sl;rw [List.drop_zero,List.take_of_length_le (by omega:s.data.toList.length≤512)]
  have x1:=Lib.hid (zd8 s 0 148);have x3:=Lib.hid (zd8 s 156 512);have l1:(s.extract 0 148).data.toList=sl s.data.toList 0 148:=by rw [x1.out];rfl
  have l3:(s.extract 156 512).data.toList=sl s.data.toList 156 512:=by rw [x3.out];rfl
  have z1:(s.extract 0 148).size≤512:=by rw [ByteArray.size_extract];omega
  have z3:(s.extract 156 512).size≤512:=by rw [ByteArray.size_extract];omega
  have c1:=fun W=>qiM (s.extract 0 148) W z1;have c3:=fun W=>qiM (s.extract 156 512) W z3;rw [l1]at c1;rw [l3]at c3;obtain ⟨n1,N1⟩:=qaA (sumB (sl s.data.toList 0 148));obtain ⟨n3,N3⟩:=qaA (sumB (sl s.data.toList 156 512));rw [N1.out]at b1 c1;rw [N3.out]at b3 c3;rw [N1.out,N3.out]at HS;rw [HS.out];have w1:IntKind.i64.wrap ((n1:Int)+256)=(n1:Int)+256:=IntWalk.i64_in _ (by omega);have w3:IntKind.i64.wrap ((n1:Int)+256+(n3:Int))=(n1:Int)+256+(n3:Int):=IntWalk.i64_in _ (by omega);have C1:=Lib.hid c1;have c4:=c3;rw [←h]at c4;have C4:=Lib.hid c4;have CB:Hid (∀W,Calls Tryz.prog 280 #[.string ⟨#[32,32,32,32,32,32,32,32]⟩] W fun e w'=>e= .returned (.int .i64 256)∧W=w'):=fun W=>qiM ⟨#[32,32,32,32,32,32,32,32]⟩ W (by decide);have C3:=Lib.hid c3;clear c1 c3 c4 e1 e3 x1 x3 l1 l3 N1 N3 hl hb z1 z3;go_enter Tryz.func235,Tryz.ntmps235;go_wp2
  go_quiet (first
   |(go_at_call 280;with_reducible exact Calls.quiet_of_same (qfG (C1.out _)))
   |(go_at_call 280;with_reducible exact Calls.quiet_of_same (qfG (C3.out _)))
   |(go_at_call 280;with_reducible exact Calls.quiet_of_same (qfG (C4.out _)))
   |(go_at_call 280;with_reducible exact Calls.quiet_of_same (qfG (CB.out _))))
  go_wp2;go_ret2;exact ⟨qeY (by omega) rfl,below_drewN (Below.refl _ _) _⟩
 ·rw [q3V (by omega)];have hb:((s.size:Int) !=512)=true:=by rw [bne_iff_ne];omega
  unfold maxLen at hs;go_enter Tryz.func235,Tryz.ntmps235;go_wp2;go_ret2;exact ⟨rfl,Below.refl _ _⟩
theorem qk4 (n:Nat) (w:World) (hn:n<262144):Calls Tryz.prog 236 #[.int .i64 (n:Int)] w fun e w'=>e= .returned (.string (bs (ckL n)))∧Below w.heap.size w w':=by
 have hc:=Lib.hid (octW_ck n hn);obtain ⟨t,T⟩:=qaA (bs (D n 6++ [0]));have ht:t.size≤100:=by rw [←T.out,qaC];simp
 have hT:t++⟨#[32]⟩=bs (ckL n):=by rw [←T.out,ckL];exact qq2 _ _
 go_enter Tryz.func236,Tryz.ntmps236;go_wp2_with fail;refine (qvL _ _ _).mono ?_;rintro e w1 ⟨rfl,hb⟩;rw [hc.out,T.out];have Hb:=Lib.hid hb;clear hb;go_wp2_with fail;go_ret;exact ⟨rfl,Hb.out⟩
theorem qz3 {w w':World} {B e size:Nat} {v:Value} {n:Nat} {xs:List Value} (h:w.ownsRow B e size v n xs) (hk: ∀g,v.ownBlock=some g→w'.heap[g]?=w.heap[g]?):w'.ownsRow B e size v n xs:=by
 unfold World.ownsRow at h⊢;refine ⟨h.1,?_⟩;rcases h.2 with ⟨rfl,h0⟩|⟨g,cap,cur,rfl,hB,hg,hcap,hm,hs,ht⟩
 ·exact .inl ⟨rfl,h0⟩
 ·exact .inr ⟨g,cap,cur,rfl,hB,(hk g rfl).trans hg,hcap,hm,hs,ht⟩
theorem qv2 {w:World} {B e size:Nat} {v:Value} {n:Nat} {xs:List Value} (h:w.ownsRow B e size v n xs): ∀g0,v.ownBlock=some g0→g0<w.heap.size:=by
 intro g0 hg0;unfold World.ownsRow at h;rcases h.2 with ⟨rfl,h0⟩|⟨g,cap,cur,rfl,hB,hg,hcap,hm,hs,ht⟩
 ·cases hg0
 ·have e1:g=g0:=by simpa [Value.ownBlock]using hg0
  subst e1;rcases Nat.lt_or_ge g w.heap.size with h'|h'
  ·exact h'
  ·rw [Array.getElem?_eq_none h']at hg;cases hg
theorem WrAt.below {B b:Nat} {p:Value} {er:Int} {l:List Value} {w w':World} (h:WrAt B b p er l w) (hb:Below w.heap.size w w'):WrAt B b p er l w':=by
 have hlt:=h.lt;obtain ⟨hB,v,hk,ho,hne⟩:=h;exact ⟨hB,v,(hb.block b hlt).trans hk,qz3 ho fun g hg=>hb.block g (qv2 ho g hg),hne⟩
theorem Wr.below {B b:Nat} {er:Int} {l:List Value} {w w':World} (h:Wr B b er l w) (hb:Below w.heap.size w w'):Wr B b er l w':=by
 rcases h with h|h
 ·exact .inl (h.below hb)
 ·exact .inr (h.below hb)
def WrB (B b:Nat) (er:Int) (l:List UInt8) (w:World):Prop:=Wr B b er (Lib.byteCells l) w
theorem WrB.below {B b:Nat} {er:Int} {l:List UInt8} {w w':World} (h:WrB B b er l w) (hb:Below w.heap.size w w'):WrB B b er l w':=Wr.below h hb
theorem WrAt.bytes {B b:Nat} {er:Int} {l:List UInt8} {s:ByteArray} {w:World} (h:WrAt B b (.pointer (some ⟨b,0,none⟩)) er (Lib.byteCells l++Lib.strCells s) w):WrAt B b (.pointer (some ⟨b,0,none⟩)) er (Lib.byteCells (l++s.data.toList)) w:=by
 rw [Lib.byteCells_append];rw [Lib.strCells_eq]at h;exact h
theorem wAdd (B b:Nat) (er e1:Int) (l:List UInt8) (s:ByteArray) (w:World) (h:WrB B b er l w) (hl:l.length≤1000000) (hs:s.size≤1000) (hBw:B≤w.heap.size):
  Calls Tryz.prog 312 #[.pointer (some ⟨b,0,none⟩),.string s,.int .i64 e1] w fun e w'=>e= .returned (.tuple #[])∧(WrB B b (qcO er e1) (l++s.data.toList) w'∧Bel B w w'):=by
 have hlen:(Lib.byteCells l).length+s.size≤140737488355328:=by rw [Lib.byteCells_length];omega
 have HW:=Lib.hid (zdN B b er (Lib.byteCells l) s w h hlen hBw);clear h hlen;go_enter Tryz.func312,Tryz.ntmps312;go_wp2_with fail;refine HW.out.mono ?_;rintro e w1 ⟨rfl,h1,hb1⟩;have h2:=h1.bytes;have h3:=h2;obtain ⟨hB,v,hbk,-,-⟩:=h3;have c2:w1.cell? ⟨b,2,none⟩=some (.int .i64 er):=by rw [Lib.cell_of_heap hbk];rfl
 have f2:w1.frozen? ⟨b,2,none⟩=false:=Lib.frozen_of_heap hbk 2;have H2:=Lib.hid h2;have HK:=Lib.hid hbk;have Hb:=Lib.hid hb1;clear h1 h2 hbk hb1;go_wp2_with fail;refine (qjL _ _ _).mono ?_;rintro e w2 ⟨rfl,rfl⟩;go_wp2_with fail
 go_end0
 exact ⟨rfl,.inr (H2.out.erred _),Hb.out.1.setCell (p:=⟨b,2,none⟩) hB _,Hb.out.2.trans (Oth.setCell HK.out)⟩
theorem wText (B b:Nat) (er:Int) (l:List UInt8) (s:ByteArray) (x:Int) (wh:Bool) (w:World) (h:WrB B b er l w) (hl:l.length≤1000000) (hs:s.size≤maxLen) (hBw:B≤w.heap.size):
  Calls Tryz.prog 277 #[.pointer (some ⟨b,0,none⟩),.string s,.int .i64 x,.bool wh] w fun e w'=>e= .returned (.tuple #[])∧(WrB B b (qcO er (fldW s.data.toList x wh).2) (l++fw s.data.toList x wh) w'∧Bel B w w'):=by
 have hz:=fw_le s.data.toList x wh;unfold fw at hz⊢;go_enter Tryz.func277,Tryz.ntmps277;go_wp2_with fail;refine (q2E s x wh w hs).mono ?_;rintro e w1 ⟨rfl,hb⟩;have h1:=h.below hb;have HW:=Lib.hid (wAdd B b er (fldW s.data.toList x wh).2 l (fldW s.data.toList x wh).1 w1 h1 hl (by rw [←ByteArray.size_data,←Array.length_toList];omega) (by have:=hb.size;omega));have Hb:=Lib.hid (Bel.of hb hBw);clear h1 hb h;go_wp2_with fail;refine HW.out.mono ?_;rintro e w2 ⟨rfl,h2,hb2⟩;have H2:=Lib.hid h2;have Hb2:=Lib.hid (Hb.out.trans hb2);clear h2 hb2;go_wp2_with fail
 go_end0
 exact ⟨rfl,H2.out,Hb2.out⟩
theorem wNumber (B b:Nat) (er:Int) (l:List UInt8) (n x:Int) (w:World) (h:WrB B b er l w) (hl:l.length≤1000000) (hBw:B≤w.heap.size):
  Calls Tryz.prog 278 #[.pointer (some ⟨b,0,none⟩),.int .i64 n,.int .i64 x] w fun e w'=>e= .returned (.tuple #[])∧(WrB B b (qcO er (octW n x).2) (l++ow n x) w'∧Bel B w w'):=by
 have hz:=ow_le n x;unfold ow at hz⊢;go_enter Tryz.func278,Tryz.ntmps278;go_wp2_with fail;refine (qvL n x w).mono ?_;rintro e w1 ⟨rfl,hb⟩;have h1:=h.below hb;have HW:=Lib.hid (wAdd B b er (octW n x).2 l (octW n x).1 w1 h1 hl (by rw [←ByteArray.size_data,←Array.length_toList];omega) (by have:=hb.size;omega));have Hb:=Lib.hid (Bel.of hb hBw);clear h1 hb h;go_wp2_with fail;refine HW.out.mono ?_;rintro e w2 ⟨rfl,h2,hb2⟩;have H2:=Lib.hid h2;have Hb2:=Lib.hid (Hb.out.trans hb2);clear h2 hb2;go_wp2_with fail
 go_end0
 exact ⟨rfl,H2.out,Hb2.out⟩
def allL (h:HeadV):List UInt8:=qc0 h++List.replicate 8 32++qe5 h
def St (B b g:Nat) (h:HeadV) (u:World) (er:Int) (l:List UInt8) (n:Nat) (w:World):Prop:=
 WrB B b er l w∧w.heap[g]?=some (.cells (qaN h) 152 (0,0))∧Bel B u w∧l.length≤512*n∧B≤w.heap.size
theorem St.next {B b g:Nat} {h:HeadV} {u:World} {er er':Int} {l l':List UInt8} {n:Nat} {w w':World} (H:St B b g h u er l n w) (h1:WrB B b er' (l++l') w') (hb:Bel B w w') (hl:l'.length≤512):St B b g h u er' (l++l') (n+1) w':=
 ⟨h1,hb.2 _ _ _ H.2.1,H.2.2.1.trans hb,by rw [List.length_append];have:=H.2.2.2.1;omega,by have:=H.2.2.2.2;have:=hb.1.size;omega⟩
theorem St.drew {B b g:Nat} {h:HeadV} {u:World} {er:Int} {l:List UInt8} {n:Nat} {w:World} (H:St B b g h u er l n w):St B b g h u er l n w.drew:=⟨H.1,H.2.1,⟨H.2.2.1.1.drew,H.2.2.1.2⟩,H.2.2.2⟩
theorem St.cell {B b g:Nat} {h:HeadV} {u:World} {er:Int} {l:List UInt8} {n:Nat} {w:World} (H:St B b g h u er l n w) (i:Nat) (v:Value) (hv:(qaN h)[i]?=some v):w.cell? ⟨g,i,none⟩=some v:=by
 rw [Lib.cell_of_heap H.2.1];exact hv
theorem qtF {B b g:Nat} {h:HeadV} {u:World} {er:Int} {l:List UInt8} {n:Nat} {w:World} (H:St B b g h u er l n w) (hn:n≤100) (s:List UInt8) (x:Int) (wh:Bool) (hs:s.length≤140737488351232):
  Calls Tryz.prog 277 #[.pointer (some ⟨b,0,none⟩),.string (bs s),.int .i64 x,.bool wh] w fun e w'=>e= .returned (.tuple #[])∧St B b g h u (qcO er (fldW s x wh).2) (l++fw s x wh) (n+1) w':=by
 refine (wText B b er l (bs s) x wh w H.1 (by have:=H.2.2.2.1;omega) (by rw [qaC];unfold maxLen;omega) H.2.2.2.2).mono ?_;rintro e w' ⟨rfl,h1,hb⟩;exact ⟨rfl,H.next h1 hb (fw_le _ _ _)⟩
theorem qfR {B b g:Nat} {h:HeadV} {u:World} {er:Int} {l:List UInt8} {n:Nat} {w:World} (H:St B b g h u er l n w) (hn:n≤100) (v x:Int):
  Calls Tryz.prog 278 #[.pointer (some ⟨b,0,none⟩),.int .i64 v,.int .i64 x] w fun e w'=>e= .returned (.tuple #[])∧St B b g h u (qcO er (octW v x).2) (l++ow v x) (n+1) w':=by
 refine (wNumber B b er l v x w H.1 (by have:=H.2.2.2.1;omega) H.2.2.2.2).mono ?_;rintro e w' ⟨rfl,h1,hb⟩;exact ⟨rfl,H.next h1 hb (ow_le _ _)⟩
theorem qq4 {B b g:Nat} {h:HeadV} {u:World} {er:Int} {l:List UInt8} {n:Nat} {w:World} (H:St B b g h u er l n w) (hn:n≤100) (s:ByteArray) (hs:s.size≤512):
  Calls Tryz.prog 93 #[.pointer (some ⟨b,0,none⟩),.string s] w fun e w'=>e= .returned (.tuple #[.int .i64 s.size,.nilIface])∧St B b g h u er (l++s.data.toList) (n+1) w':=by
 refine (zdN B b er (Lib.byteCells l) s w H.1 (by rw [Lib.byteCells_length];have:=H.2.2.2.1;omega) H.2.2.2.2).mono ?_;rintro e w' ⟨rfl,h1,hb⟩;exact ⟨rfl,H.next (.inr h1.bytes) hb (by simpa using hs)⟩
theorem stByte {B b g:Nat} {h:HeadV} {u:World} {er:Int} {l:List UInt8} {n:Nat} {w:World} (H:St B b g h u er l n w) (hn:n≤100) (c:UInt8):
  Calls Tryz.prog 279 #[.pointer (some ⟨b,0,none⟩),.int .u8 (c.toNat:Int)] w fun e w'=>e= .returned .nilIface∧St B b g h u er (l++ [c]) (n+1) w':=by
 refine (wByte B b er (Lib.byteCells l) (c.toNat:Int) w H.1 (by rw [Lib.byteCells_length];have:=H.2.2.2.1;omega) H.2.2.2.2).mono ?_;rintro e w' ⟨rfl,h1,hb⟩;refine ⟨rfl,H.next (.inr ?_) hb (by simp)⟩;rw [Lib.byteCells_append];exact h1
set_option maxHeartbeats 2000000 in
theorem wHead (B b:Nat) (h:HeadV) (w:World) (hB:B≤b) (hbk:w.heap[b]?=some (.cells #[.pointer none,.slice none 0 0,.int .i64 0] 241 (0,0))) (hBw:B≤w.heap.size)
  (hn:h.name.length≤140737488351232) (hp:h.pre.length≤140737488351232) (hk:h.link.length≤140737488351232) (hu:h.user.length≤140737488351232) (hg:h.group.length≤140737488351232):
  Calls Tryz.prog 234 #[.pointer (some ⟨b,0,none⟩),.agg (qaN h)] w fun e w'=>e= .returned (.tuple #[])∧WrB B b (qb8 (qc7 h)) (allL h) w'∧Bel B w w':=by
 have hlt:b<w.heap.size:=by
  rcases Nat.lt_or_ge b w.heap.size with h'|h'
  ·exact h'
  ·simp [Array.getElem?_eq_none h']at hbk
 have hbk0:(w.alloc (.cells (qaN h) 152)).heap[b]?=some (.cells #[.pointer none,.slice none 0 0,.int .i64 0] 241 (0,0)):=(Lib.alloc_old w _ b hlt).trans hbk;have hgk:(w.alloc (.cells (qaN h) 152)).heap[w.heap.size]?=some (.cells (qaN h) 152 (0,0)):=heap_alloc_new w _;have hb0:Bel B w (w.alloc (.cells (qaN h) 152)):=⟨(Below.refl B w).alloc hBw _,Oth.alloc w _⟩;have HG:=Lib.hid (wGrow B b 512 0 _ hB hbk0 (by have:=hb0.1.size;omega) (by omega));have HK:=Lib.hid hgk;have HB:=Lib.hid hb0;have HW:Hid (B≤w.heap.size):=hBw;clear hbk hbk0 hgk hb0;go_enter Tryz.func234,Tryz.ntmps234;go_wp2_with fail;refine HG.out.mono ?_;rintro e w0 ⟨rfl,h1,hb1⟩;have H0:St B b w.heap.size h w 0 [] 0 w0:=⟨.inr h1,hb1.2 _ _ _ HK.out,HB.out.trans hb1,Nat.zero_le _,by have:=HW.out;have:=HB.out.1.size;have:=hb1.1.size;omega⟩;clear h1 hb1 HG;have c0:=H0.cell 0 (.string (bs h.name)) rfl;go_wp2_with fail;refine (qtF H0 (by omega) h.name 100 true hn).mono ?_;rintro e w1 ⟨rfl,H1⟩;clear H0 c0;have c1:=H1.cell 3 (.int .i64 h.mode) rfl;go_wp2_with fail;refine (qfR H1 (by omega) h.mode 8).mono ?_;rintro e w2 ⟨rfl,H2⟩;clear H1 c1;have c2:=H2.cell 4 (.int .i64 h.uid) rfl;go_wp2_with fail;refine (qfR H2 (by omega) h.uid 8).mono ?_;rintro e w3 ⟨rfl,H3⟩;clear H2 c2;have c3:=H3.cell 5 (.int .i64 h.gid) rfl;go_wp2_with fail;refine (qfR H3 (by omega) h.gid 8).mono ?_;rintro e w4 ⟨rfl,H4⟩;clear H3 c3;have c4:=H4.cell 6 (.int .i64 h.size) rfl;go_wp2_with fail;refine (qfR H4 (by omega) h.size 12).mono ?_;rintro e w5 ⟨rfl,H5⟩
 clear H4 c4;have c5:=H5.cell 7 (.int .i64 h.time) rfl;go_wp2_with fail;refine (qfR H5 (by omega) h.time 12).mono ?_;rintro e w6 ⟨rfl,H6⟩;clear H5 c5;go_wp2_with fail;refine (qq4 H6 (by omega) ⟨#[32,32,32,32,32,32,32,32]⟩ (by decide)).mono ?_;rintro e w7 ⟨rfl,H7⟩;clear H6;have c7:=H7.cell 8 (.int .u8 (h.typ.toNat:Int)) rfl;go_upto_region 9 with fail
 go_still_tail 5,(by kernel_rfl)
 change wpList _ _ _ _ _ w7.drew;go_wp2_with fail;refine (stByte H7.drew (by omega) h.typ).mono ?_;rintro e w8 ⟨rfl,H8⟩;clear H7 c7;have c8:=H8.cell 2 (.string (bs h.link)) rfl;go_wp2_with fail;refine (qtF H8 (by omega) h.link 100 true hk).mono ?_;rintro e w9 ⟨rfl,H9⟩;clear H8 c8;go_wp2_with fail;refine (qq4 H9 (by omega) ⟨#[117,115,116,97,114,0,48,48]⟩ (by decide)).mono ?_;rintro e w10 ⟨rfl,H10⟩;clear H9;have c10:=H10.cell 9 (.string (bs h.user)) rfl;go_wp2_with fail;refine (qtF H10 (by omega) h.user 32 false hu).mono ?_;rintro e w11 ⟨rfl,H11⟩;clear H10 c10;have c11:=H11.cell 10 (.string (bs h.group)) rfl;go_wp2_with fail;refine (qtF H11 (by omega) h.group 32 false hg).mono ?_;rintro e w12 ⟨rfl,H12⟩;clear H11 c11;go_wp2_with fail;refine (qfR H12 (by omega) 0 8).mono ?_;rintro e w13 ⟨rfl,H13⟩;clear H12;go_wp2_with fail;refine (qfR H13 (by omega) 0 8).mono ?_;rintro e w14 ⟨rfl,H14⟩;clear H13;have c14:=H14.cell 1 (.string (bs h.pre)) rfl;go_wp2_with fail;refine (qtF H14 (by omega) h.pre 155 true hp).mono ?_;rintro e w15 ⟨rfl,H15⟩;clear H14 c14;go_wp2_with fail;refine (qq4 H15 (by omega) ⟨#[0,0,0,0,0,0,0,0,0,0,0,0]⟩ (by decide)).mono ?_;rintro e w16 ⟨rfl,H16⟩;clear H15;go_wp2_with fail
 go_end0
 have key: ∀(er:Int) (l:List UInt8),er=qb8 (qc7 h)→l=allL h→WrB B b er l w16→WrB B b (qb8 (qc7 h)) (allL h) w16:=fun er l e1 e2 x=>e1▸e2▸x;exact ⟨rfl,key _ _ rfl (by unfold allL qc0 qe5 qlC;simp only [List.nil_append,List.append_assoc];rfl) H16.1,H16.2.2.1⟩
theorem q12 {h:HeadV} (ht:typB h.typ=false):qdB h=2:=by unfold qdB;rw [if_neg (by simp [ht])]
theorem zbY {h:HeadV} (ht:typB h.typ=true):qdB h=qb8 (qc7 h):=if_pos ht
theorem qzV {h:HeadV} (e:qdB h=0):(allL h).length=512:=by
 unfold allL;rw [List.length_append,List.length_append,qfF e,qsT e,List.length_replicate]
theorem zc6 {h:HeadV} (e:qdB h=0):sumH (allL h)=sumB (qc0 h)+256+sumB (qe5 h):=by
 unfold allL;rw [List.append_assoc,qyC _ _ _ (qfF e) (by simp)]
theorem q2V {h:HeadV} (e:qdB h=0):(bs (allL h)).extract 0 148=bs (qc0 h):=by
 rw [qkO];unfold sl allL;rw [List.drop_zero,List.append_assoc,List.take_left' (qfF e)]
theorem q8J {h:HeadV} (e:qdB h=0):(bs (allL h)).extract 156 512=bs (qe5 h):=by
 have e1:(qc0 h++List.replicate 8 32).length=156:=by rw [List.length_append,qfF e,List.length_replicate]
 rw [qkO];unfold sl;rw [List.take_of_length_le (by rw [qzV e];omega)];unfold allL;rw [←e1,List.drop_left]
theorem zd9 {a b A:ByteArray} (h:a++b=A) (hs:a.size+b.size≤9223372036854775807): ∀W:World,(Op.stringOp .add a b).run Tryz.prog W= .ok (.string A) W:=fun W=>by
 rw [←h];exact run_string_add_sum (P:=Tryz.prog) (w:=W) a b hs
theorem qxH (h:HeadV) (w:World) (ht:typB h.typ=false):Calls Tryz.prog 187 #[.agg (qaN h)] w fun e w'=>e= .returned (.tuple #[.string ⟨#[]⟩,.int .i64 2])∧Below w.heap.size w w':=by
 have hgk:(w.alloc (.cells (qaN h) 152)).heap[w.heap.size]?=some (.cells (qaN h) 152 (0,0)):=heap_alloc_new w _;have c8:(w.alloc (.cells (qaN h) 152)).cell? ⟨w.heap.size,8,none⟩=some (.int .u8 (h.typ.toNat:Int)):=by rw [Lib.cell_of_heap hgk];rfl
 have hb0:=Lib.hid ((Below.refl w.heap.size w).alloc (Nat.le_refl _) (.cells (qaN h) 152));clear hgk;go_enter Tryz.func187,Tryz.ntmps187;go_wp2_with fail;refine (qkM h.typ _ _ rfl).mono ?_;rintro e w' ⟨rfl,rfl⟩;go_wp2_with fail;go_ret2;exact ⟨rfl,hb0.out⟩
set_option maxHeartbeats 2000000 in
theorem q6O (h:HeadV) (w:World) (ht:typB h.typ=true)
  (hn:h.name.length≤140737488351232) (hp:h.pre.length≤140737488351232) (hk:h.link.length≤140737488351232) (hu:h.user.length≤140737488351232) (hg:h.group.length≤140737488351232):
  Calls Tryz.prog 187 #[.agg (qaN h)] w fun e w'=>e= .returned (.tuple #[.string (qjH h).1,.int .i64 (qjH h).2])∧Below w.heap.size w w':=by
 have hgk:(w.alloc (.cells (qaN h) 152)).heap[w.heap.size]?=some (.cells (qaN h) 152 (0,0)):=heap_alloc_new w _;have c8:(w.alloc (.cells (qaN h) 152)).cell? ⟨w.heap.size,8,none⟩=some (.int .u8 (h.typ.toNat:Int)):=by rw [Lib.cell_of_heap hgk];rfl
 have hb0:=(Below.refl w.heap.size w).alloc (Nat.le_refl _) (.cells (qaN h) 152);obtain ⟨w1,W1⟩: ∃w1,w1=(w.alloc (.cells (qaN h) 152)).alloc (.cells #[.pointer none,.slice none 0 0,.int .i64 0] 241):=⟨_,rfl⟩;have hb1:Below w.heap.size w w1:=by rw [W1];exact hb0.alloc (by simp) _
 have hs1:w1.heap.size=w.heap.size+2:=by rw [W1];simp
 have hbk:w1.heap[w.heap.size+1]?=some (.cells #[.pointer none,.slice none 0 0,.int .i64 0] 241 (0,0)):=by
  have:=heap_alloc_new (w.alloc (.cells (qaN h) 152)) (.cells #[.pointer none,.slice none 0 0,.int .i64 0] 241);rw [W1];simpa using this
 have hgk1:w1.heap[w.heap.size]?=some (.cells (qaN h) 152 (0,0)):=by
  rw [W1,Lib.alloc_old _ _ _ (by simp)];exact hgk
 have d0:(qaN h)[0]?=some (.string (bs h.name)):=rfl;have d1:(qaN h)[1]?=some (.string (bs h.pre)):=rfl;have d2:(qaN h)[2]?=some (.string (bs h.link)):=rfl;have d3:(qaN h)[3]?=some (.int .i64 h.mode):=rfl;have d4:(qaN h)[4]?=some (.int .i64 h.uid):=rfl;have d5:(qaN h)[5]?=some (.int .i64 h.gid):=rfl;have d6:(qaN h)[6]?=some (.int .i64 h.size):=rfl;have d7:(qaN h)[7]?=some (.int .i64 h.time):=rfl;have d8:(qaN h)[8]?=some (.int .u8 (h.typ.toNat:Int)):=rfl;have d9:(qaN h)[9]?=some (.string (bs h.user)):=rfl;have dA:(qaN h)[10]?=some (.string (bs h.group)):=rfl;have HH:=Lib.hid (wHead w.heap.size (w.heap.size+1) h w1 (by omega) hbk (by omega) hn hp hk hu hg);have HB1:=Lib.hid hb1;have hE:=zbY ht;subst W1;clear hgk hb0 hb1 hbk hgk1 hs1;go_enter Tryz.func187,Tryz.ntmps187;go_wp2_with fail;refine (qkM h.typ _ _ rfl).mono ?_;rintro e w' ⟨rfl,rfl⟩;go_wp2_with fail;refine HH.out.mono ?_;rintro e w2 ⟨rfl,h2,hb2⟩
 obtain ⟨p,hB,v,hbk,-,-⟩: ∃p,WrAt w.heap.size (w.heap.size+1) p (qb8 (qc7 h)) (Lib.byteCells (allL h)) w2:=by
  rcases h2 with h2|h2
  ·exact ⟨_,h2⟩
  ·exact ⟨_,h2⟩
 have HB2:=Lib.hid (HB1.out.trans hb2.1);have H2:=Lib.hid h2;rw [←hE]at hbk;obtain ⟨E,HE⟩:=qaA (qdB h);rw [HE.out]at hbk;have c2:w2.cell? ⟨w.heap.size+1,2,none⟩=some (.int .i64 E):=by rw [Lib.cell_of_heap hbk];rfl
 clear hbk h2 hb2 hE d0 d1 d2 d3 d4 d5 d6 d7 d8 d9 dA c8 HH HB1
 by_cases h0:E=0
 ·subst h0;have hz:=HE.out;have hlen:=qzV hz;have HS:=Lib.hid (zc6 hz);have hlt:=qwD (allL h) hlen;have HV:=Lib.hid (qwC hlen);have HF:=Lib.hid (q2V hz);have HK:=Lib.hid (q8J hz);have HT:=Lib.hid (qs4 _ _ _ (allL h) w2 H2.out (by intro e;rw [e]at hlen;cases hlen));have HO:=Lib.hid (ql0 hz);have hfl:=qfF hz;have hbl:=qsT hz;obtain ⟨S,HN⟩: ∃S,Hid (bs (allL h)=S):=⟨_,rfl⟩;obtain ⟨N,HM⟩:=qaA (sumH (allL h));obtain ⟨F,HFN⟩:=qaA (bs (qc0 h));obtain ⟨K,HKN⟩:=qaA (bs (qe5 h));obtain ⟨C,HC⟩:=qaA (bs (ckL N));rw [HM.out]at hlt;have hS:S.size=512:=by rw [←HN.out,qaC,hlen]
  have HSz:=Lib.hid hS;have y1:148≤S.size:=by omega
  have y2:156≤S.size:=by omega
  have y3:S.size≤512:=by omega
  have x1:Hid (S.extract 0 148=F):=by unfold Hid;rw [←HN.out,←HFN.out];exact HF.out
  have x2:Hid (S.extract 156 S.size=K):=by unfold Hid;rw [HSz.out,←HN.out,←HKN.out];exact HK.out
  have zF:F.size=148:=by rw [←HFN.out,qaC,hfl]
  have zK:K.size=356:=by rw [←HKN.out,qaC,hbl]
  have zC:C.size=8:=by rw [←HC.out,qaC,qhS]
  have hsl:S.data.toList=allL h:=by rw [←HN.out];rfl
  have HD:Hid (∀W,Calls Tryz.prog 235 #[.string S] W fun e w'=>e= .returned (.tuple #[.int .i64 (N:Int),.int .i64 0])∧Below W.heap.size W w'):=by
   intro W;have:=qx4 S W (by unfold maxLen;omega);rw [hsl,HV.out,HM.out]at this;exact this
  have HQ:Hid (∀W,Calls Tryz.prog 236 #[.int .i64 (N:Int)] W fun e w'=>e= .returned (.string C)∧Below W.heap.size W w'):=by
   intro W;have:=qk4 N W hlt;rw [HC.out]at this;exact this
  have HX:Hid (F++C++K=(qjH h).1):=by
   unfold Hid;rw [HO.out,←HFN.out,←HC.out,←HKN.out,←HM.out,HS.out];show bs _++bs _++bs _=bs _;unfold bs;rw [qq2,qq2,List.append_assoc]
  obtain ⟨FC,HFC⟩: ∃FC,FC=F++C:=⟨_,rfl⟩;obtain ⟨R,HR⟩: ∃R,R=FC++K:=⟨_,rfl⟩;have zFC:FC.size=156:=by rw [HFC,ByteArray.size_append];omega
  have p1:=zd9 HFC.symm (by omega);have p2:=zd9 HR.symm (by omega);have HRX:Hid (R=(qjH h).1):=by unfold Hid;rw [HR,HFC];exact HX.out
  have x1:=x1.out;have x2:=x2.out;clear HX HFC HR zFC;clear hz hlen hlt hS hsl hfl hbl zF zK zC HF HK;go_wp2_with fail;refine HT.out.mono ?_;rintro e w3 ⟨rfl,hb3⟩;rw [show (⟨(allL h).toArray⟩:ByteArray)=S from HN.out];have HB3:=Lib.hid (HB2.out.trans hb3);clear hb3;go_wp2_with fail;refine (HD.out _).mono ?_;rintro e w4 ⟨rfl,hb4⟩;have HB4:=Lib.hid (HB3.out.trans (hb4.mono HB3.out.size));clear hb4;go_wp2_with fail
  go_region_with (go_at_call 236;refine (HQ.out _).mono ?_;rintro e w5 ⟨rfl,hb5⟩)
  all_goals
   go_wp2_with fail;go_ret2;exact ⟨qcJ HRX.out (by rw [HO.out]),(Below.drew HB4.out).trans (Below.mono hb5 (show w.heap.size≤w4.drew.heap.size from HB4.out.size))⟩
 ·have hb:(E !=0)=true:=by simpa using h0
  have HO:=Lib.hid (qy9 (h:=h) (by rw [HE.out];exact h0));clear h0;go_wp2_with fail;go_quiet (fail);go_wp2_with fail;go_ret2;exact ⟨qcJ (by rw [HO.out]) (by rw [HO.out];exact HE.out.symm),below_drewN HB2.out _⟩
theorem q13 (h:HeadV) (w:World)
  (hn:h.name.length≤140737488351232) (hp:h.pre.length≤140737488351232) (hk:h.link.length≤140737488351232) (hu:h.user.length≤140737488351232) (hg:h.group.length≤140737488351232):
  Calls Tryz.prog 187 #[.agg (qaN h)] w fun e w'=>e= .returned (.tuple #[.string (qjH h).1,.int .i64 (qjH h).2])∧Below w.heap.size w w':=by
 cases ht:typB h.typ
 ·have e:=q12 ht;rw [qy9 (by rw [e];decide),e];exact qxH h w ht
 ·exact q6O h w ht hn hp hk hu hg
end Go.Proofs.YtapgoifimhnbdaaGreatDoor
