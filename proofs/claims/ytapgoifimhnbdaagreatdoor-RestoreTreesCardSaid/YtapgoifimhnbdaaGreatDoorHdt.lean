/- qaV of one kind, in one file: HedR, HedT. -/
import Derived.Test.YtapgoifimhnbdaaGreatDoorHdb
import Derived.Test.YtapgoifimhnbdaaGreatDoorFld
import Derived.Test.YtapgoifimhnbdaaGreatDoorOct
import Derived.StillTailTactics
import Derived.Deep.DeepCutAuto
import Derived.Lib.ConvBytes
set_option linter.unusedVariables false
set_option maxRecDepth 100000
namespace Go.Proofs.YtapgoifimhnbdaaGreatDoor
open Go.RowKit
open Go.OpenShut
def Rt (g:Nat) (h:HeadV) (u:World) (er:Int) (l:List UInt8) (n:Nat) (w:World):Prop:=
 w.heap[g]?=some (.cells (qaG h) 152 (0,0))∧w.heap[g+1]?=some (.cells #[.int .i64 er] 24 (0,0))∧w.heap[g+1+1]?=some (.cells #[.string (bs l)] 9 (0,0))∧Below g u w∧l.length≤512*n
theorem Rt.err {g:Nat} {h:HeadV} {u:World} {er:Int} {l:List UInt8} {n:Nat} {w:World} (H:Rt g h u er l n w) (e2:Int):Rt g h u e2 l n (w.setCell ⟨g+1,0,none⟩ (.int .i64 e2)):=by
 obtain ⟨h0,h1,h2,hb,hl⟩:=H;refine ⟨?_,?_,?_,hb.setCell (p:=⟨g+1,0,none⟩) (by show g≤g+1;omega) _,hl⟩
 ·rw [Below.heap_setCell _ _ _ _ (by show g≠g+1;omega)];exact h0
 ·simp [World.setCell,Array.getElem?_modify,h1]
 ·rw [Below.heap_setCell _ _ _ _ (by show g+1+1≠g+1;omega)];exact h2
theorem Rt.text {g:Nat} {h:HeadV} {u:World} {er:Int} {l:List UInt8} {n:Nat} {w:World} (H:Rt g h u er l n w) (l2:List UInt8) (hl2:l2.length≤512):Rt g h u er (l++l2) (n+1) (w.setCell ⟨g+1+1,0,none⟩ (.string (bs (l++l2)))):=by
 obtain ⟨h0,h1,h2,hb,hl⟩:=H;refine ⟨?_,?_,?_,hb.setCell (p:=⟨g+1+1,0,none⟩) (by show g≤g+1+1;omega) _,by rw [List.length_append];omega⟩
 ·rw [Below.heap_setCell _ _ _ _ (by show g≠g+1+1;omega)];exact h0
 ·rw [Below.heap_setCell _ _ _ _ (by show g+1≠g+1+1;omega)];exact h1
 ·simp [World.setCell,Array.getElem?_modify,h2]
theorem Rt.drew {g:Nat} {h:HeadV} {u:World} {er:Int} {l:List UInt8} {n:Nat} {w:World} (H:Rt g h u er l n w):Rt g h u er l n w.drew:=⟨H.1,H.2.1,H.2.2.1,H.2.2.2.1.drew,H.2.2.2.2⟩
theorem Rt.alloc {g:Nat} {h:HeadV} {u:World} {er:Int} {l:List UInt8} {n:Nat} {w:World} (H:Rt g h u er l n w) (o:Obj):Rt g h u er l n (w.alloc o):=by
 have hlt: ∀ {k x},w.heap[k]?=some x→k<w.heap.size:=fun {k x} e=>by
  rcases Nat.lt_or_ge k w.heap.size with h'|h'
  ·exact h'
  ·rw [Array.getElem?_eq_none h']at e;cases e
 obtain ⟨h0,h1,h2,hb,hl⟩:=H;exact ⟨(Lib.alloc_old w _ _ (hlt h0)).trans h0,(Lib.alloc_old w _ _ (hlt h1)).trans h1,(Lib.alloc_old w _ _ (hlt h2)).trans h2,hb.alloc (Nat.le_of_lt (hlt h0)) _,hl⟩
theorem Rt.lt {g:Nat} {h:HeadV} {u:World} {er:Int} {l:List UInt8} {n:Nat} {w:World} (H:Rt g h u er l n w):g+1+1<w.heap.size:=by
 rcases Nat.lt_or_ge (g+1+1) w.heap.size with h'|h'
 ·exact h'
 ·have:=H.2.2.1;rw [Array.getElem?_eq_none h']at this;cases this
theorem Rt.cell {g:Nat} {h:HeadV} {u:World} {er:Int} {l:List UInt8} {n:Nat} {w:World} (H:Rt g h u er l n w) (i:Nat) (v:Value) (hv:(qaG h)[i]?=some v):w.cell? ⟨g,i,none⟩=some v:=by
 rw [Lib.cell_of_heap H.1];exact hv
theorem Rt.cErr {g:Nat} {h:HeadV} {u:World} {er:Int} {l:List UInt8} {n:Nat} {w:World} (H:Rt g h u er l n w):w.cell? ⟨g+1,0,none⟩=some (.int .i64 er)∧w.frozen? ⟨g+1,0,none⟩=false:=⟨by rw [Lib.cell_of_heap H.2.1];rfl,Lib.frozen_of_heap H.2.1 0⟩
theorem Rt.cText {g:Nat} {h:HeadV} {u:World} {er:Int} {l:List UInt8} {n:Nat} {w:World} (H:Rt g h u er l n w):w.cell? ⟨g+1+1,0,none⟩=some (.string (bs l))∧w.frozen? ⟨g+1+1,0,none⟩=false:=⟨by rw [Lib.cell_of_heap H.2.2.1];rfl,Lib.frozen_of_heap H.2.2.1 0⟩
theorem Rt.open {g:Nat} {h:HeadV} {u:World} {er:Int} {l:List UInt8} {n:Nat} {w:World} (H:Rt g h u er l n w): ∃er' l' n',er'=er∧l'=l∧n'=n∧Rt g h u er' l' n' w:=⟨_,_,_,rfl,rfl,rfl,H⟩
theorem Rt.sz {g:Nat} {h:HeadV} {u:World} {er:Int} {l:List UInt8} {n:Nat} {w:World} (H:Rt g h u er l n w) (hn:n≤100):(bs l).size≤60000:=by rw [qaB];have:=H.2.2.2.2;omega
theorem qgF (a b:List UInt8):bs a++bs b=bs (a++b):=qdC a b
set_option maxHeartbeats 1000000 in
theorem qr9 {g:Nat} {h:HeadV} {u:World} {er:Int} {l:List UInt8} {n:Nat} {w:World} (H:Rt g h u er l n w) (hn:n≤100) (s:List UInt8) (x:Int) (wh:Bool) (hs:s.length≤140737488351232):
  Calls Tryz.prog 270 #[.string (bs s),.int .i64 x,.bool wh,.pointer (some ⟨g+1,0,none⟩),.pointer (some ⟨g+1+1,0,none⟩)] w fun e w'=>e= .returned (.tuple #[])∧Rt g h u (qbA er (fldW s x wh).2) (l++fw s x wh) (n+1) w':=by
 obtain ⟨e1,f1⟩:=H.cErr;obtain ⟨e2,f2⟩:=H.cText;have hz:=fw_le s x wh;obtain ⟨t,ht⟩: ∃t,t=(fldW s x wh).1:=⟨_,rfl⟩;have htl:t.data.toList=fw s x wh:=by rw [ht];rfl
 have hts:t.size≤512:=by rw [←ByteArray.size_data,←Array.length_toList,htl];exact hz
 have hbl:(bs l).size≤60000:=by rw [qaB];have:=H.2.2.2.2;omega
 have hap:bs l++t=bs (l++fw s x wh):=by rw [←htl,←qgF,qcJ]
 have p1:=qdT hap (by omega);have HC:=Lib.hid (qzH (bs s) x wh w (by rw [qaB];unfold maxLen;omega));have HT:=Lib.hid ht;obtain ⟨L,HL⟩:=qaA (bs l);obtain ⟨LL,HLL⟩:=qaA (bs (l++fw s x wh));rw [HL.out]at e2 p1 hbl;rw [HLL.out]at p1;clear hap ht htl
 by_cases h0:er=0
 ·subst h0;have HE:=Lib.hid ((H.err (fldW s x wh).2).text (fw s x wh) hz);go_enter Tryz.func270,Tryz.ntmps270;go_wp2_with fail;refine HC.out.mono ?_;rintro e w' ⟨rfl,rfl⟩;rw [show (bs s).data.toList=s from rfl,←HT.out];go_wp2_with fail
  go_end0
  exact ⟨rfl,by rw [show qbA 0 (fldW s x wh).2=(fldW s x wh).2 from rfl,←HLL.out];exact HE.out⟩
 ·have hb:(er==0)=false:=by simpa using h0
  have HF:Hid (qbA er (fldW s x wh).2=er):=if_neg h0;have HE:=Lib.hid (H.text (fw s x wh) hz);clear h0;go_enter Tryz.func270,Tryz.ntmps270;go_wp2_with fail;refine HC.out.mono ?_;rintro e w' ⟨rfl,rfl⟩;rw [show (bs s).data.toList=s from rfl,←HT.out];go_wp2_with fail
  go_end0
  exact ⟨rfl,by rw [HF.out,←HLL.out];exact HE.out⟩
set_option maxHeartbeats 1000000 in
theorem qfN {g:Nat} {h:HeadV} {u:World} {er:Int} {l:List UInt8} {n:Nat} {w:World} (H:Rt g h u er l n w) (hn:n≤100) (v x:Int):
  Calls Tryz.prog 272 #[.int .i64 v,.int .i64 x,.pointer (some ⟨g+1,0,none⟩),.pointer (some ⟨g+1+1,0,none⟩)] w fun e w'=>e= .returned (.tuple #[])∧Rt g h u (qbA er (octW v x).2) (l++ow v x) (n+1) w':=by
 obtain ⟨e1,f1⟩:=H.cErr;obtain ⟨e2,f2⟩:=H.cText;have hz:=ow_le v x;obtain ⟨t,ht⟩: ∃t,t=(octW v x).1:=⟨_,rfl⟩;have htl:t.data.toList=ow v x:=by rw [ht];rfl
 have hts:t.size≤512:=by rw [←ByteArray.size_data,←Array.length_toList,htl];exact hz
 have hbl:(bs l).size≤60000:=by rw [qaB];have:=H.2.2.2.2;omega
 have hap:bs l++t=bs (l++ow v x):=by rw [←htl,←qgF,qcJ]
 have p1:=qdT hap (by omega);have HC:=Lib.hid (qgQ v x w);have HT:=Lib.hid ht;obtain ⟨L,HL⟩:=qaA (bs l);obtain ⟨LL,HLL⟩:=qaA (bs (l++ow v x));rw [HL.out]at e2 p1 hbl;rw [HLL.out]at p1;clear hap ht htl
 by_cases h0:er=0
 ·subst h0;have HE:=Lib.hid ((H.err (octW v x).2).text (ow v x) hz);go_enter Tryz.func272,Tryz.ntmps272;go_wp2_with fail;refine HC.out.mono ?_;rintro e w' ⟨rfl,rfl⟩;rw [←HT.out];go_wp2_with fail
  go_end0
  exact ⟨rfl,by rw [show qbA 0 (octW v x).2=(octW v x).2 from rfl,←HLL.out];exact HE.out⟩
 ·have hb:(er==0)=false:=by simpa using h0
  have HF:Hid (qbA er (octW v x).2=er):=if_neg h0;have HE:=Lib.hid (H.text (ow v x) hz);clear h0;go_enter Tryz.func272,Tryz.ntmps272;go_wp2_with fail;refine HC.out.mono ?_;rintro e w' ⟨rfl,rfl⟩;rw [←HT.out];go_wp2_with fail
  go_end0
  exact ⟨rfl,by rw [HF.out,←HLL.out];exact HE.out⟩
theorem q60 (W:World) (c:UInt8):(convert 22 9 (.slice (some ⟨W.heap.size,0,none⟩) 1 1)).run Tryz.prog (W.alloc (.cells #[.int .u8 (c.toNat:Int)] 5))= .ok (.string (bs [c])) (W.alloc (.cells #[.int .u8 (c.toNat:Int)] 5)):=by
 have hc:(W.alloc (.cells #[.int .u8 (c.toNat:Int)] 5)).heap[W.heap.size]?=some (.cells #[.int .u8 (c.toNat:Int)] 5 (0,0)):=heap_alloc_new W _
 have h:=run_convert_bytes_arg (P:=Tryz.prog) (W.alloc (.cells #[.int .u8 (c.toNat:Int)] 5)) 22 5 Tryz.underlying22 Tryz.underlying5 W.heap.size 0 1 1 (qeZ [c]) (by simp) (fun i hi=>by
  obtain rfl:i=0:=by simpa using hi
  rw [Lib.cell_of_heap hc];rfl) 9 Tryz.underlying9
 rw [qgM]at h;exact h
theorem quO (h:HeadV) (w:World) (ht:typB h.typ=false):Calls Tryz.prog 224 #[.agg (qaG h)] w fun e w'=>e= .returned (.tuple #[.string ⟨#[]⟩,.int .i64 2])∧Below w.heap.size w w':=by
 have hgk:(w.alloc (.cells (qaG h) 152)).heap[w.heap.size]?=some (.cells (qaG h) 152 (0,0)):=heap_alloc_new w _;have c8:(w.alloc (.cells (qaG h) 152)).cell? ⟨w.heap.size,8,none⟩=some (.int .u8 (h.typ.toNat:Int)):=by rw [Lib.cell_of_heap hgk];rfl
 have hb0:=Lib.hid ((Below.refl w.heap.size w).alloc (Nat.le_refl _) (.cells (qaG h) 152));have HT:Hid (hasB h.typ (⟨#[48,49,50,53,120]⟩:ByteArray).data.toList=false):=ht;clear hgk ht;go_enter Tryz.func224,Tryz.ntmps224;go_wp2_with fail;refine (qb5 ⟨#[48,49,50,53,120]⟩ _ h.typ _ (by decide) rfl).mono ?_;rintro e w' ⟨rfl,rfl⟩;rw [HT.out];go_wp2_with fail;go_ret2;exact ⟨rfl,hb0.out⟩
set_option maxHeartbeats 4000000 in
theorem q1F (h:HeadV) (w:World) (ht:typB h.typ=true)
  (hn:h.name.length≤140737488351232) (hp:h.pre.length≤140737488351232) (hk:h.link.length≤140737488351232) (hu:h.user.length≤140737488351232) (hg:h.group.length≤140737488351232):
  Calls Tryz.prog 224 #[.agg (qaG h)] w fun e w'=>e= .returned (.tuple #[.string (qf2 h).1,.int .i64 (qf2 h).2])∧Below w.heap.size w w':=by
 have hgk:(w.alloc (.cells (qaG h) 152)).heap[w.heap.size]?=some (.cells (qaG h) 152 (0,0)):=heap_alloc_new w _;have c8:(w.alloc (.cells (qaG h) 152)).cell? ⟨w.heap.size,8,none⟩=some (.int .u8 (h.typ.toNat:Int)):=by rw [Lib.cell_of_heap hgk];rfl
 have hb0:=(Below.refl w.heap.size w).alloc (Nat.le_refl _) (.cells (qaG h) 152);have HT:Hid (hasB h.typ (⟨#[48,49,50,53,120]⟩:ByteArray).data.toList=true):=ht;have hE:=qw6 ht
 have H0:Hid (Rt w.heap.size h w 0 [] 0 (((w.alloc (.cells (qaG h) 152)).alloc (.cells #[.int .i64 0] 24)).alloc (.cells #[.string ⟨#[]⟩] 9))):=by
  unfold Hid;refine ⟨?_,?_,?_,(hb0.alloc (by simp) _).alloc (by simp;omega) _,Nat.zero_le _⟩
  ·rw [Lib.alloc_old _ _ _ (by simp;omega),Lib.alloc_old _ _ _ (by simp)];exact hgk
  ·rw [Lib.alloc_old _ _ _ (by simp)];have:=heap_alloc_new (w.alloc (.cells (qaG h) 152)) (.cells #[.int .i64 0] 24);simpa using this
  ·have:=heap_alloc_new ((w.alloc (.cells (qaG h) 152)).alloc (.cells #[.int .i64 0] 24)) (.cells #[.string ⟨#[]⟩] 9);refine Eq.trans ?_ (rfl:some (Obj.cells #[Value.string ⟨#[]⟩] 9 (0,0))=some (Obj.cells #[Value.string (bs [])] 9 (0,0)));simpa using this
 clear hgk ht hb0;go_enter Tryz.func224,Tryz.ntmps224;go_wp2_with fail;refine (qb5 ⟨#[48,49,50,53,120]⟩ _ h.typ _ (by decide) rfl).mono ?_;rintro e w' ⟨rfl,rfl⟩;rw [HT.out];clear c8;obtain ⟨w0,W0⟩: ∃w0,Hid (w0=((w.alloc (.cells (qaG h) 152)).alloc (.cells #[.int .i64 0] 24)).alloc (.cells #[.string ⟨#[]⟩] 9)):=⟨_,rfl⟩;have d0:(qaG h)[0]?=some (.string (bs h.name)):=rfl;go_wp2_with fail;clear d0;rw [←W0.out]at H0⊢;have H0:Rt w.heap.size h w 0 [] 0 w0:=H0.out;refine (qr9 H0 (by omega) h.name 100 true hn).mono ?_;rintro e w1 ⟨rfl,H1⟩;clear H0;have c1:=H1.cell 3 (.int .i64 h.mode) rfl;go_wp2_with fail;refine (qfN H1 (by omega) h.mode 8).mono ?_;rintro e w2 ⟨rfl,H2⟩;clear H1 c1;have c2:=H2.cell 4 (.int .i64 h.uid) rfl;go_wp2_with fail;refine (qfN H2 (by omega) h.uid 8).mono ?_;rintro e w3 ⟨rfl,H3⟩;clear H2 c2;have c3:=H3.cell 5 (.int .i64 h.gid) rfl;go_wp2_with fail;refine (qfN H3 (by omega) h.gid 8).mono ?_;rintro e w4 ⟨rfl,H4⟩;clear H3 c3;have c4:=H4.cell 6 (.int .i64 h.size) rfl;go_wp2_with fail;refine (qfN H4 (by omega) h.size 12).mono ?_;rintro e w5 ⟨rfl,H5⟩;clear H4 c4;have c5:=H5.cell 7 (.int .i64 h.time) rfl;go_wp2_with fail;refine (qfN H5 (by omega) h.time 12).mono ?_;rintro e w6 ⟨rfl,H6⟩;clear H5 c5;obtain ⟨E6,l6,n6,hE6,hl6,hm6,G6⟩:=H6.open;have hn6:n6≤6:=by omega
 clear hm6 H6;have HE6:=Lib.hid hE6;have Hl6:=Lib.hid hl6;have c6:=G6.cell 8 (.int .u8 (h.typ.toNat:Int)) rfl;obtain ⟨e2,f2⟩:=G6.cText;have hlt:=G6.lt;have hcv:=q60 w6 h.typ;have H7':=(G6.text (List.replicate 8 32++ [h.typ]) (by simp)).alloc (.cells #[.int .u8 (h.typ.toNat:Int)] 5);have hsz:=G6.sz (by omega);obtain ⟨A1,hA1⟩: ∃A1,(⟨#[32,32,32,32,32,32,32,32]⟩:ByteArray)++bs [h.typ]=A1:=⟨_,rfl⟩;obtain ⟨LL,hLL⟩: ∃LL,bs l6++A1=LL:=⟨_,rfl⟩;have zA:A1.size=9:=by rw [←hA1,ByteArray.size_append];rfl
 have p1:=qdT hA1 (by show 8+1≤_;omega);have p2:=qdT hLL (by omega);have HX:Hid (LL=bs (l6++(List.replicate 8 32++ [h.typ]))):=by unfold Hid;rw [←hLL,←hA1,←qgF,←qgF];rfl
 obtain ⟨L,HL⟩:=qaA (bs l6);rw [HL.out]at e2 p2;rw [←HX.out]at H7';have H7':=Lib.hid H7';clear hE6 hl6 hA1 hLL zA hsz G6;go_upto_region 14 with fail
 obtain ⟨w7,W7⟩: ∃w7,w7=(w6.setCell ⟨w.heap.size+1+1,0,none⟩ (.string LL)).alloc (.cells #[.int .u8 (h.typ.toNat:Int)] 5):=⟨_,rfl⟩;rw [←W7]at H7'⊢;have H7:=H7'.out;clear H7' W7 c6 e2 f2 hlt hcv p1 p2 HX HL;have c7:=H7.cell 2 (.string (bs h.link)) rfl;go_wp2_with fail;refine (qr9 H7 (by omega) h.link 100 true hk).mono ?_;rintro e w8 ⟨rfl,H8⟩;clear H7 c7;obtain ⟨E8,l8,n8,hE8,hl8,hm8,G8⟩:=H8.open;have hn8:n8≤8:=by omega
 clear hm8 H8;have HE8:=Lib.hid hE8;have Hl8:=Lib.hid hl8;obtain ⟨e2,f2⟩:=G8.cText;have H9':=(G8.text qgE (by simp [qgE])).drew;have hsz:=G8.sz (by omega);have z1:(zer 1).size=1:=qlA 1;obtain ⟨A1,hA1⟩: ∃A1,(⟨#[117,115,116,97,114]⟩:ByteArray)++zer 1=A1:=⟨_,rfl⟩;obtain ⟨A2,hA2⟩: ∃A2,A1++(⟨#[48,48]⟩:ByteArray)=A2:=⟨_,rfl⟩;have zA1:A1.size=6:=by rw [←hA1,ByteArray.size_append,z1];rfl
 have zA2:A2.size=8:=by rw [←hA2,ByteArray.size_append,zA1];rfl
 have p1:=qdT hA1 (by rw [z1];decide);have p2:=qdT hA2 (by rw [zA1];decide);have eA:A2=bs qgE:=by rw [←hA2,←hA1];rfl
 obtain ⟨LL,hLL⟩: ∃LL,bs l8++A2=LL:=⟨_,rfl⟩;have p3:=qdT hLL (by omega);have HX:Hid (LL=bs (l8++qgE)):=by unfold Hid;rw [←hLL,eA,←qgF]
 obtain ⟨L,HL⟩:=qaA (bs l8);rw [HL.out]at e2 p3;rw [←HX.out]at H9';have H9':=Lib.hid H9';clear z1 hA1 hA2 zA1 eA;clear hE8 hl8 hLL zA2 hsz G8;go_upto_region 15 with fail
 go_still_tail 5,(by kernel_rfl)
 still_call (qbO (qcC 1 1 _ rfl (by omega)))
 repeat still_step
 refine wpStill_nil ?_;change wpList _ _ _ _ _ w8.drew;go_upto_region 16 with fail
 obtain ⟨w9,W9⟩: ∃w9,w9=(w8.setCell ⟨w.heap.size+1+1,0,none⟩ (.string LL)).drew:=⟨_,rfl⟩;rw [←W9]at H9'⊢;have H9:=H9'.out;clear H9' W9 e2 f2 p1 p2 p3 HX HL;have c9:=H9.cell 9 (.string (bs h.user)) rfl;go_wp2_with fail;refine (qr9 H9 (by omega) h.user 32 false hu).mono ?_;rintro e w10 ⟨rfl,H10⟩;clear H9 c9;have c10:=H10.cell 10 (.string (bs h.group)) rfl;go_wp2_with fail;refine (qr9 H10 (by omega) h.group 32 false hg).mono ?_;rintro e w11 ⟨rfl,H11⟩;clear H10 c10;go_wp2_with fail;refine (qfN H11 (by omega) 0 8).mono ?_;rintro e w12 ⟨rfl,H12⟩;clear H11;go_wp2_with fail;refine (qfN H12 (by omega) 0 8).mono ?_;rintro e w13 ⟨rfl,H13⟩;clear H12;have c13:=H13.cell 1 (.string (bs h.pre)) rfl;go_wp2_with fail;refine (qr9 H13 (by omega) h.pre 155 true hp).mono ?_;rintro e w14 ⟨rfl,H14⟩;clear H13 c13;obtain ⟨E14,l14,n14,hE14,hl14,hm14,G14⟩:=H14.open;have hn14:n14≤14:=by omega
 clear hm14 H14;have HE14:=Lib.hid hE14;have Hl14:=Lib.hid hl14;obtain ⟨e2,f2⟩:=G14.cText;have H15':=(G14.text (List.replicate 12 0) (by simp)).drew;have hsz:=G14.sz (by omega);obtain ⟨A2,eA⟩: ∃A2,A2=zer 12:=⟨_,rfl⟩;have zA2:A2.size=12:=by rw [eA];exact qlA 12
 obtain ⟨LL,hLL⟩: ∃LL,bs l14++A2=LL:=⟨_,rfl⟩;have p3:=qdT hLL (by omega);have HX:Hid (LL=bs (l14++(List.replicate 12 0))):=by unfold Hid;rw [←hLL,eA,←qgF];rfl
 obtain ⟨L,HL⟩:=qaA (bs l14);rw [HL.out]at e2 p3;rw [←HX.out]at H15';have H15':=Lib.hid H15';rw [eA]at p3;clear eA;clear hE14 hl14 hLL zA2 hsz G14;go_upto_region 21 with fail
 go_still_tail 3,(by kernel_rfl)
 still_call (qbO (qcC 12 12 _ rfl (by omega)))
 repeat still_step
 refine wpStill_nil ?_;change wpList _ _ _ _ _ w14.drew;go_upto_region 22 with fail
 obtain ⟨w15,W15⟩: ∃w15,w15=(w14.setCell ⟨w.heap.size+1+1,0,none⟩ (.string LL)).drew:=⟨_,rfl⟩;rw [←W15]at H15'⊢;have H15:=H15'.out;clear H15' W15 e2 f2 p3 HX HL;obtain ⟨E,l,n,hE15,hl15,-,G15⟩:=H15.open;clear H15;have hE':qc9 h=E:=by rw [hE15,HE14.out,HE8.out,HE6.out,hE];rfl
 have hl':l=allL h:=by rw [hl15,Hl14.out,Hl8.out,Hl6.out];unfold allL qb4 qdI;simp only [List.nil_append,List.append_assoc,List.cons_append]
 subst hl';obtain ⟨e1,-⟩:=G15.cErr;obtain ⟨e2,-⟩:=G15.cText;have HB:=Lib.hid G15.2.2.2.1;have HE:=Lib.hid hE';clear hE hE15 hl15 hE' G15 HE14 HE8 HE6 Hl14 Hl8 Hl6
 by_cases h0:E=0
 ·subst h0;have hz:=HE.out;have hlen:=qrJ hz;have HS:=Lib.hid (qxM hz);have hlt:=qiA (allL h) hlen;have HV:=Lib.hid (qgL hlen);have HF:=Lib.hid (qpP hz);have HK:=Lib.hid (qt1 hz);have HO:=Lib.hid (qdW hz);have hfl:=qd8 hz;have hbl:=qlQ hz;obtain ⟨S,HN⟩: ∃S,Hid (bs (allL h)=S):=⟨_,rfl⟩;rw [HN.out]at e2;obtain ⟨N,HM⟩:=qaA (sumH (allL h));rw [HM.out]at hlt;obtain ⟨F,HFN⟩:=qaA (bs (qb4 h));obtain ⟨K,HKN⟩:=qaA (bs (qdI h));obtain ⟨T,HTN⟩:=qaA (bs (D N 6++ [0]));have hS:S.size=512:=by rw [←HN.out,qaB,hlen]
  have HSz:=Lib.hid hS;have y1:148≤S.size:=by omega
  have y2:156≤S.size:=by omega
  have y3:S.size≤512:=by omega
  have x1:S.extract 0 148=F:=by rw [←HN.out,←HFN.out];exact HF.out
  have x2:S.extract 156 S.size=K:=by rw [HSz.out,←HN.out,←HKN.out];exact HK.out
  have zF:F.size=148:=by rw [←HFN.out,qaB,hfl]
  have zK:K.size=356:=by rw [←HKN.out,qaB,hbl]
  have zT:T.size=7:=by rw [←HTN.out,qaB];simp
  have hsl:S.data.toList=allL h:=by rw [←HN.out];rfl
  have HD:Hid (∀W,Calls Tryz.prog 252 #[.string S] W fun e w'=>e= .returned (.tuple #[.int .i64 (N:Int),.int .i64 0])∧W=w'):=by
   intro W;have:=qiX S W (by unfold maxLen;omega);rw [hsl,HV.out,HM.out]at this;exact this
  have HQ:Hid (∀W,Calls Tryz.prog 253 #[.int .i64 (N:Int),.int .i64 7] W fun e w'=>e= .returned (.tuple #[.string T,.int .i64 0])∧W=w'):=by
   intro W;have:=qgQ (N:Int) 7 W;rw [qmL N hlt,HTN.out]at this;exact this
  obtain ⟨B1,hB1⟩: ∃B1,F++T=B1:=⟨_,rfl⟩;obtain ⟨B2,hB2⟩: ∃B2,B1++(⟨#[32]⟩:ByteArray)=B2:=⟨_,rfl⟩;obtain ⟨B3,hB3⟩: ∃B3,B2++K=B3:=⟨_,rfl⟩;have z1:B1.size=155:=by rw [←hB1,ByteArray.size_append];omega
  have z2:B2.size=156:=by rw [←hB2,ByteArray.size_append,z1];rfl
  have p1:=qdT hB1 (by omega);have p2:=qdT hB2 (by rw [z1];decide);have p3:=qdT hB3 (by omega)
  have HR:Hid (B3=(qf2 h).1):=by
   unfold Hid;rw [HO.out,←hB3,←hB2,←hB1,←HFN.out,←HTN.out,←HKN.out,←HS.out,HM.out];show bs _++bs _++bs [32]++bs _=bs _;rw [qgF,qgF,qgF,ckL];simp only [List.append_assoc]
  clear hz hlen hlt hS hsl hfl hbl zF zK zT HF HK hB1 hB2 hB3 z1 z2;go_wp2_with fail;refine (HD.out _).mono ?_;rintro e w16 ⟨rfl,rfl⟩;go_wp2_with fail;refine (HQ.out _).mono ?_;rintro e w16 ⟨rfl,rfl⟩;go_wp2_with fail;go_quiet (fail);go_wp2_with fail;go_ret2;exact ⟨qaU HR.out (by rw [HO.out]),below_drewN HB.out _⟩
 ·have hb:(E !=0)=true:=by simpa using h0
  have HO:=Lib.hid (qlL (h:=h) (by rw [HE.out];exact h0));clear h0;go_wp2_with fail;go_quiet (fail);go_wp2_with fail;go_ret2;exact ⟨qaU (by rw [HO.out]) (by rw [HO.out];exact HE.out.symm),below_drewN HB.out _⟩
theorem qoL (h:HeadV) (w:World)
  (hn:h.name.length≤140737488351232) (hp:h.pre.length≤140737488351232) (hk:h.link.length≤140737488351232) (hu:h.user.length≤140737488351232) (hg:h.group.length≤140737488351232):
  Calls Tryz.prog 224 #[.agg (qaG h)] w fun e w'=>e= .returned (.tuple #[.string (qf2 h).1,.int .i64 (qf2 h).2])∧Below w.heap.size w w':=by
 cases ht:typB h.typ
 ·have e:=qo3 ht;rw [qlL (by rw [e];decide),e];exact quO h w ht
 ·exact q1F h w ht hn hp hk hu hg
end Go.Proofs.YtapgoifimhnbdaaGreatDoor
