/- qaV of one kind, in one file: HedO, HedZ. -/
import Derived.Test.YtapgoifimhnbdaaGreatDoorHdp
import Derived.Test.YtapgoifimhnbdaaGreatDoorHdt
import Derived.Test.YtapgoifimhnbdaaGreatDoorFld
import Derived.Test.YtapgoifimhnbdaaGreatDoorOct
import Derived.Deep.DeepCutAuto
import Derived.Laws.EntriesVeiled
set_option linter.unusedVariables false
set_option maxRecDepth 100000
namespace Go.Proofs.YtapgoifimhnbdaaGreatDoor
open Go.RowKit
open Go.OpenShut
def Ro (a:Nat) (s:ByteArray) (er:Int) (hv:HeadV) (u w:World):Prop:=
 w.heap[a]?=some (.cells #[.string s] 9 (0,0))∧w.heap[a+1]?=some (.cells (qaG qaT) 152 (0,0))∧w.heap[a+1+1]?=some (.cells #[.int .i64 er] 24 (0,0))∧
 w.heap[a+1+1+1]?=some (.cells #[.func (.func 254) #[] #[.pointer (some ⟨a+1+1,0,none⟩)]] 257 (0,0))∧w.heap[a+1+1+1+1]?=some (.cells (qaG hv) 152 (0,0))∧Below a u w
theorem Ro.below {a:Nat} {s:ByteArray} {er:Int} {hv:HeadV} {u w w':World} (H:Ro a s er hv u w) (hb:Below w.heap.size w w'):Ro a s er hv u w':=by
 obtain ⟨h0,h1,h2,h3,h4,h5⟩:=H;exact ⟨(hb.block _ (qiW h0)).trans h0,(hb.block _ (qiW h1)).trans h1,(hb.block _ (qiW h2)).trans h2,(hb.block _ (qiW h3)).trans h3,(hb.block _ (qiW h4)).trans h4,h5.trans (hb.mono (Nat.le_of_lt (qiW h0)))⟩
theorem Ro.err {a:Nat} {s:ByteArray} {er:Int} {hv:HeadV} {u w:World} (H:Ro a s er hv u w) (e2:Int):Ro a s e2 hv u (w.setCell ⟨a+1+1,0,none⟩ (.int .i64 e2)):=by
 obtain ⟨h0,h1,h2,h3,h4,h5⟩:=H;refine ⟨?_,?_,?_,?_,?_,h5.setCell (p:=⟨a+1+1,0,none⟩) (by show a≤a+1+1;omega) _⟩
 ·rw [Below.heap_setCell _ _ _ _ (by show a≠a+1+1;omega)];exact h0
 ·rw [Below.heap_setCell _ _ _ _ (by show a+1≠a+1+1;omega)];exact h1
 ·simp [World.setCell,Array.getElem?_modify,h2]
 ·rw [Below.heap_setCell _ _ _ _ (by show a+1+1+1≠a+1+1;omega)];exact h3
 ·rw [Below.heap_setCell _ _ _ _ (by show a+1+1+1+1≠a+1+1;omega)];exact h4
theorem Ro.set {a:Nat} {s:ByteArray} {er:Int} {hv:HeadV} {u w:World} (H:Ro a s er hv u w) (i:Nat) (v:Value) (hv':HeadV) (he:qaG hv'=(qaG hv).setIfInBounds i v):Ro a s er hv' u (w.setCell ⟨a+1+1+1+1,i,none⟩ v):=by
 obtain ⟨h0,h1,h2,h3,h4,h5⟩:=H;refine ⟨?_,?_,?_,?_,?_,h5.setCell (p:=⟨a+1+1+1+1,i,none⟩) (by show a≤a+1+1+1+1;omega) _⟩
 ·rw [Below.heap_setCell _ _ _ _ (by show a≠a+1+1+1+1;omega)];exact h0
 ·rw [Below.heap_setCell _ _ _ _ (by show a+1≠a+1+1+1+1;omega)];exact h1
 ·rw [Below.heap_setCell _ _ _ _ (by show a+1+1≠a+1+1+1+1;omega)];exact h2
 ·rw [Below.heap_setCell _ _ _ _ (by show a+1+1+1≠a+1+1+1+1;omega)];exact h3
 ·rw [he];simp [World.setCell,Array.getElem?_modify,h4]
theorem Ro.cS {a:Nat} {s:ByteArray} {er:Int} {hv:HeadV} {u w:World} (H:Ro a s er hv u w):w.cell? ⟨a,0,none⟩=some (.string s):=by rw [Lib.cell_of_heap H.1];rfl
theorem Ro.cE {a:Nat} {s:ByteArray} {er:Int} {hv:HeadV} {u w:World} (H:Ro a s er hv u w):w.cell? ⟨a+1+1,0,none⟩=some (.int .i64 er)∧w.frozen? ⟨a+1+1,0,none⟩=false:=⟨by rw [Lib.cell_of_heap H.2.2.1];rfl,Lib.frozen_of_heap H.2.2.1 0⟩
theorem Ro.cN {a:Nat} {s:ByteArray} {er:Int} {hv:HeadV} {u w:World} (H:Ro a s er hv u w):w.cell? ⟨a+1+1+1,0,none⟩=some (.func (.func 254) #[] #[.pointer (some ⟨a+1+1,0,none⟩)]):=by rw [Lib.cell_of_heap H.2.2.2.1];rfl
theorem Ro.at {a:Nat} {s:ByteArray} {er:Int} {hv:HeadV} {u w:World} (H:Ro a s er hv u w) (i:Nat) (hi:i<11): ∃v,w.cell? ⟨a+1+1+1+1,i,none⟩=some v∧w.frozen? ⟨a+1+1+1+1,i,none⟩=false:=by
 have hs:(qaG hv).size=11:=rfl;exact ⟨(qaG hv)[i],by rw [Lib.cell_of_heap H.2.2.2.2.1];exact Array.getElem?_eq_getElem (by omega),Lib.frozen_of_heap H.2.2.2.2.1 i⟩
theorem qv7 {a:Nat} {s:ByteArray} {er:Int} {hv:HeadV} {u w:World} (H:Ro a s er hv u w) (e1:Int):
  Calls Tryz.prog 254 #[.int .i64 e1,.pointer (some ⟨a+1+1,0,none⟩)] w fun e w'=>e= .returned (.tuple #[])∧Ro a s (qbA er e1) hv u w':=by
 obtain ⟨c,f⟩:=H.cE
 by_cases h0:er=0
 ·subst h0;have HE:=Lib.hid (H.err e1);go_enter Tryz.func254,Tryz.ntmps254;go_wp2_with fail
  go_end0
  exact ⟨rfl,HE.out⟩
 ·have hb:(er==0)=false:=by simpa using h0
  have HF:Hid (qbA er e1=er):=if_neg h0;have HE:=Lib.hid H;clear h0 H;go_enter Tryz.func254,Tryz.ntmps254;go_wp2_with fail
  go_end0
  exact ⟨rfl,by rw [HF.out];exact HE.out⟩
theorem qh2 {a:Nat} {s:ByteArray} {er:Int} {hv:HeadV} {u w:World} (H:Ro a s er hv u w) (hs:s.size=512) (k m:Nat) (wh:Bool) (hk:k≤m) (hm:m≤512):
  Calls Tryz.prog 255 #[.int .i64 (k:Int),.int .i64 (m:Int),.bool wh,.pointer (some ⟨a,0,none⟩),.pointer (some ⟨a+1+1+1,0,none⟩)] w fun e w'=>e= .returned (.string (bs (rdS s.data.toList k m wh)))∧Ro a s (qbA er (fldR (sl s.data.toList k m) wh).2) hv u w':=by
 have c:=H.cS;have x1:=qtM s k m;have hl:s.data.toList.length=512:=by rw [←hs];simp
 have hsz:(bs (sl s.data.toList k m)).size≤maxLen:=by rw [qaB,qgO _ _ _ (by omega)];unfold maxLen;omega
 have hC:=fun W=>q6Q (bs (sl s.data.toList k m)) wh W hsz;rw [show (bs (sl s.data.toList k m)).data.toList=sl s.data.toList k m from rfl,show (fldR (sl s.data.toList k m) wh).1=bs (rdS s.data.toList k m wh)from (qcJ _).symm]at hC;obtain ⟨V,HV⟩:=qaA (bs (rdS s.data.toList k m wh));obtain ⟨X,HX⟩:=qaA (bs (sl s.data.toList k m));obtain ⟨E,HE⟩:=qaA (fldR (sl s.data.toList k m) wh).2;rw [HV.out,HX.out,HE.out]at hC;rw [HX.out]at x1;rw [HV.out,HE.out];have HC:=Lib.hid hC;have HH:=Lib.hid H;have y1:m≤s.size:=by omega
 have y2:s.size≤512:=by omega
 clear hs hl hsz hC H;go_enter Tryz.func255,Tryz.ntmps255;go_wp2_with fail;refine (HC.out _).mono ?_;rintro e w1 ⟨rfl,hb⟩;have H1:=HH.out.below hb;have c2:=H1.cN;have HH1:=Lib.hid H1;clear H1 hb c x1;go_wp2_with fail;refine (qv7 HH1.out E).mono ?_;rintro e w2 ⟨rfl,H2⟩;have HH2:=Lib.hid H2;clear H2 c2;go_wp2_with fail;go_ret;exact ⟨rfl,HH2.out⟩
theorem qdJ {a:Nat} {s:ByteArray} {er:Int} {hv:HeadV} {u w:World} (H:Ro a s er hv u w) (hs:s.size=512) (k m:Nat) (hk:k≤m) (hm:m≤512):
  Calls Tryz.prog 257 #[.int .i64 (k:Int),.int .i64 (m:Int),.pointer (some ⟨a,0,none⟩),.pointer (some ⟨a+1+1+1,0,none⟩)] w fun e w'=>e= .returned (.int .i64 (octR (sl s.data.toList k m)).1)∧Ro a s (qbA er (octR (sl s.data.toList k m)).2) hv u w':=by
 have c:=H.cS;have x1:=qtM s k m;have hl:s.data.toList.length=512:=by rw [←hs];simp
 have hsz:(bs (sl s.data.toList k m)).size≤maxLen:=by rw [qaB,qgO _ _ _ (by omega)];unfold maxLen;omega
 have hC:=fun W=>rOf_any (bs (sl s.data.toList k m)) W hsz;rw [show (bs (sl s.data.toList k m)).data.toList=sl s.data.toList k m from rfl]at hC;obtain ⟨V,HV⟩:=qaA (octR (sl s.data.toList k m)).1;obtain ⟨X,HX⟩:=qaA (bs (sl s.data.toList k m));obtain ⟨E,HE⟩:=qaA (octR (sl s.data.toList k m)).2;rw [HV.out,HX.out,HE.out]at hC;rw [HX.out]at x1;rw [HV.out,HE.out];have HC:=Lib.hid hC;have HH:=Lib.hid H;have y1:m≤s.size:=by omega
 have y2:s.size≤512:=by omega
 clear hs hl hsz hC H;go_enter Tryz.func257,Tryz.ntmps257;go_wp2_with fail;refine (HC.out _).mono ?_;rintro e w1 ⟨rfl,hb⟩;have H1:=HH.out.below hb;have c2:=H1.cN;have HH1:=Lib.hid H1;clear H1 hb c x1;go_wp2_with fail;refine (qv7 HH1.out E).mono ?_;rintro e w2 ⟨rfl,H2⟩;have HH2:=Lib.hid H2;clear H2 c2;go_wp2_with fail;go_ret;exact ⟨rfl,HH2.out⟩
theorem qnA (er:Int):qbA er (bad true)=er:=by
 unfold qbA bad
 split
 ·rename_i h;rw [h];rfl
 ·rfl
theorem qoH {a:Nat} {s:ByteArray} {er:Int} {hv:HeadV} {u w:World} (H:Ro a s er hv u w) (hs:s.size=512) (k m:Nat) (t:ByteArray) (hk:k+t.size=m) (hm:m≤512):
  Calls Tryz.prog 259 #[.int .i64 (k:Int),.string t,.pointer (some ⟨a,0,none⟩),.pointer (some ⟨a+1+1+1,0,none⟩)] w fun e w'=>e= .returned (.tuple #[])∧Ro a s (qbA er (bad (decide (sl s.data.toList k m=t.data.toList)))) hv u w':=by
 have c:=H.cS;have c2:=H.cN;have x1:=qtM s k m;obtain ⟨X,HX⟩:=qaA (bs (sl s.data.toList k m))
 have hq:(X.toList==t.toList)=decide (sl s.data.toList k m=t.data.toList):=by
  rw [←HX.out,ByteArray.toList_eq,ByteArray.toList_eq,show (bs (sl s.data.toList k m)).data.toList=sl s.data.toList k m from rfl,Bool.eq_iff_iff];simp
 obtain ⟨q,Hq⟩:=qaA (decide (sl s.data.toList k m=t.data.toList));rw [Hq.out]at hq⊢;rw [HX.out]at x1;subst hk;have HH:=Lib.hid H;have y1:k+t.size≤s.size:=by omega
 have y2:s.size≤512:=by omega
 have hq2:(X.toList !=t.toList)= !q:=by rw [bne,hq]
 clear hs H hm Hq HX;cases q
 ·go_enter Tryz.func259,Tryz.ntmps259;go_wp2_with fail;refine (qv7 HH.out 3).mono ?_;rintro e w2 ⟨rfl,H2⟩;have HH2:=Lib.hid H2;clear H2 c c2 x1 hq hq2;go_wp2_with fail
  go_end0
  exact ⟨rfl,HH2.out⟩
 ·rw [qnA];go_enter Tryz.func259,Tryz.ntmps259;go_wp2_with fail
  go_end0
  exact ⟨rfl,HH.out⟩
def Bx (a r:Nat) (u w:World):Prop:=a≤r∧Below a u w
theorem Bx.set {a r i:Nat} {u w:World} (H:Bx a r u w) (v:Value):Bx a r u (w.setCell ⟨r,i,none⟩ v):=⟨H.1,Below.setCell (p:=⟨r,i,none⟩) H.2 H.1 _⟩
theorem Bx.drew {a r:Nat} {u w:World} (H:Bx a r u w):Bx a r u w.drew:=⟨H.1,H.2.drew⟩
def w5 (w:World) (s:ByteArray):World:=((((w.alloc (.cells #[.string s] 9)).alloc (.cells (qaG qaT) 152)).alloc (.cells #[.int .i64 0] 24)).alloc (.cells #[.func (.func 254) #[] #[.pointer (some ⟨w.heap.size+1+1,0,none⟩)]] 257)).alloc (.cells (qaG qaT) 152)
theorem Ro.start (w:World) (s:ByteArray):Ro w.heap.size s 0 qaT w (w5 w s):=by
 have e0:=heap_alloc_new w (.cells #[.string s] 9);generalize hw1:w.alloc (.cells #[.string s] 9)=w1 at e0;have z1:w1.heap.size=w.heap.size+1:=by rw [←hw1];simp
 have b1:Below w.heap.size w w1:=by rw [←hw1];exact (Below.refl _ w).alloc (Nat.le_refl _) _
 have e1:=heap_alloc_new w1 (.cells (qaG qaT) 152);generalize hw2:w1.alloc (.cells (qaG qaT) 152)=w2 at e1;have z2:w2.heap.size=w.heap.size+1+1:=by rw [←hw2,←z1];simp
 have b2:Below w.heap.size w w2:=by rw [←hw2];exact b1.alloc (by omega) _
 have g0:w2.heap[w.heap.size]?=some (.cells #[.string s] 9 (0,0)):=by rw [←hw2,Lib.alloc_old _ _ _ (by omega)];exact e0
 have e2:=heap_alloc_new w2 (.cells #[.int .i64 0] 24);generalize hw3:w2.alloc (.cells #[.int .i64 0] 24)=w3 at e2;have z3:w3.heap.size=w.heap.size+1+1+1:=by rw [←hw3,←z2];simp
 have b3:Below w.heap.size w w3:=by rw [←hw3];exact b2.alloc (by omega) _
 have e3:=heap_alloc_new w3 (.cells #[.func (.func 254) #[] #[.pointer (some ⟨w.heap.size+1+1,0,none⟩)]] 257);generalize hw4:w3.alloc (.cells #[.func (.func 254) #[] #[.pointer (some ⟨w.heap.size+1+1,0,none⟩)]] 257)=w4 at e3;have z4:w4.heap.size=w.heap.size+1+1+1+1:=by rw [←hw4,←z3];simp
 have b4:Below w.heap.size w w4:=by rw [←hw4];exact b3.alloc (by omega) _
 have e4:=heap_alloc_new w4 (.cells (qaG qaT) 152);have hw5:w5 w s=w4.alloc (.cells (qaG qaT) 152):=by unfold w5;rw [hw1,hw2,hw3,hw4]
 rw [hw5];rw [z1]at e1;rw [z2]at e2;rw [z3]at e3;rw [z4]at e4;refine ⟨?_,?_,?_,?_,e4,b4.alloc (by omega) _⟩
 ·rw [Lib.alloc_old _ _ _ (by omega),←hw4,Lib.alloc_old _ _ _ (by omega),←hw3,Lib.alloc_old _ _ _ (by omega)];exact g0
 ·rw [Lib.alloc_old _ _ _ (by omega),←hw4,Lib.alloc_old _ _ _ (by omega),←hw3,Lib.alloc_old _ _ _ (by omega)];exact e1
 ·rw [Lib.alloc_old _ _ _ (by omega),←hw4,Lib.alloc_old _ _ _ (by omega)];exact e2
 ·rw [Lib.alloc_old _ _ _ (by omega)];exact e3
set_option maxHeartbeats 2000000 in
theorem q1G (s:ByteArray) (w:World) (hs:s.size≤maxLen) (h:s.size≠512):
  Calls Tryz.prog 213 #[.string s] w fun e w'=>e= .returned (.tuple #[.agg (qaG qaT),.int .i64 1])∧Below w.heap.size w w':=by
 have hl:s.data.toList.length=s.size:=by simp
 have HS:=Lib.hid (fun W=>qiX s W hs);rw [qpV (by omega)]at HS;have HB:=Lib.hid (((Below.refl w.heap.size w).alloc (Nat.le_refl _) (.cells #[.string s] 9)).alloc (by simp) (.cells (qaG qaT) 152));clear hl h;go_enter Tryz.func213,Tryz.ntmps213;go_wp2_with fail;refine (HS.out _).mono ?_;rintro e w1 ⟨rfl,rfl⟩;go_wp2_with fail;refine bodyPost_ret (v:= .tuple #[.agg #[.string ⟨#[]⟩,.string ⟨#[]⟩,.string ⟨#[]⟩,.int .i64 0,.int .i64 0,.int .i64 0,.int .i64 0,.int .i64 0,.int .u8 0,.string ⟨#[]⟩,.string ⟨#[]⟩],.int .i64 1]) (by simp [results,Tryz.results213,go_sem, *]) rfl ⟨rfl,?_⟩;exact HB.out
set_option maxHeartbeats 2000000 in
theorem q5K (s:ByteArray) (w:World) (h:s.size=512) (hck:ckOk s.data.toList=false):
  Calls Tryz.prog 213 #[.string s] w fun e w'=>e= .returned (.tuple #[.agg (qaG qaT),.int .i64 8])∧Below w.heap.size w w':=by
 have hl:s.data.toList.length=512:=by rw [←h];simp
 have HS:=Lib.hid (fun W=>qiX s W (by unfold maxLen;omega));rw [qgL hl]at HS;have hlt:=qiA s.data.toList hl;obtain ⟨N,HN⟩:=qaA (sumH s.data.toList);rw [HN.out]at hlt HS;have HQ:=Lib.hid (fun W=>qgQ (N:Int) 7 W);rw [qmL N hlt]at HQ;obtain ⟨T,HT⟩:=qaA (bs (D N 6++ [0]));have zT:T.size=7:=by rw [←HT.out,qaB];simp
 rw [HT.out]at HQ;obtain ⟨C,hC⟩: ∃C,T++(⟨#[32]⟩:ByteArray)=C:=⟨_,rfl⟩;have p1:=qdT hC (by rw [zT];decide);have hC2:C=bs (ckL N):=by rw [←hC,←HT.out];exact qgF _ _
 obtain ⟨M,HM⟩: ∃M,M=s.extract 148 156:=⟨_,rfl⟩
 have hq:(M.toList==C.toList)=false:=by
  rw [←hck,HM,hC2,qcQ,ckOk,HN.out];rw [decide_eq_decide];constructor
  ·intro e;have:=congrArg (fun x:ByteArray=>x.data.toList) e;simp only [qb8]at this;exact this
  ·intro e;apply ByteArray.ext;apply Array.toList_inj.1;rw [qb8];exact e
 have hq2:(M.toList !=C.toList)= !false:=by rw [bne,hq]
 have x1:s.extract 148 156=M:=HM.symm;have y1:156≤s.size:=by omega
 have y2:s.size≤512:=by omega
 have HL:=Lib.hid hl;have HSz:Hid (s.size=512):=h;have HCk:=Lib.hid hck;clear hl h HM hlt zT hC hC2 hck;have HB:=Lib.hid (((Below.refl w.heap.size w).alloc (Nat.le_refl _) (.cells #[.string s] 9)).alloc (by simp) (.cells (qaG qaT) 152));go_enter Tryz.func213,Tryz.ntmps213;go_wp2_with fail;refine (HS.out _).mono ?_;rintro e w1 ⟨rfl,rfl⟩;go_wp2_with fail;refine (HQ.out _).mono ?_;rintro e w1 ⟨rfl,rfl⟩;go_wp2_with fail;refine bodyPost_ret (v:= .tuple #[.agg #[.string ⟨#[]⟩,.string ⟨#[]⟩,.string ⟨#[]⟩,.int .i64 0,.int .i64 0,.int .i64 0,.int .i64 0,.int .i64 0,.int .u8 0,.string ⟨#[]⟩,.string ⟨#[]⟩],.int .i64 8]) (by simp [results,Tryz.results213,go_sem, *]) rfl ⟨rfl,?_⟩;exact HB.out
set_option maxHeartbeats 4000000 in
theorem q5L (s:ByteArray) (w:World) (h:s.size=512) (hck:ckOk s.data.toList=true) (ht:typB (s.data.toList.getD 156 0)=true):
  Calls Tryz.prog 213 #[.string s] w fun e w'=>e= .returned (.tuple #[.agg (qaG (qbW s.data.toList).1),.int .i64 (qbW s.data.toList).2])∧Below w.heap.size w w':=by
 have hl:s.data.toList.length=512:=by rw [←h];simp
 have HS:=Lib.hid (fun W=>qiX s W (by unfold maxLen;omega));rw [qgL hl]at HS;have hlt:=qiA s.data.toList hl;obtain ⟨N,HN⟩:=qaA (sumH s.data.toList);rw [HN.out]at hlt HS;have HQ:=Lib.hid (fun W=>qgQ (N:Int) 7 W);rw [qmL N hlt]at HQ;obtain ⟨T,HT⟩:=qaA (bs (D N 6++ [0]));have zT:T.size=7:=by rw [←HT.out,qaB];simp
 rw [HT.out]at HQ;obtain ⟨C,hC⟩: ∃C,T++(⟨#[32]⟩:ByteArray)=C:=⟨_,rfl⟩;have p1:=qdT hC (by rw [zT];decide);have hC2:C=bs (ckL N):=by rw [←hC,←HT.out];exact qgF _ _
 obtain ⟨M,HM⟩: ∃M,M=s.extract 148 156:=⟨_,rfl⟩
 have hq:(M.toList==C.toList)=true:=by
  rw [←hck,HM,hC2,qcQ,ckOk,HN.out];rw [decide_eq_decide];constructor
  ·intro e;have:=congrArg (fun x:ByteArray=>x.data.toList) e;simp only [qb8]at this;exact this
  ·intro e;apply ByteArray.ext;apply Array.toList_inj.1;rw [qb8];exact e
 have hq2:(M.toList !=C.toList)= !true:=by rw [bne,hq]
 have x1:s.extract 148 156=M:=HM.symm;have y1:156≤s.size:=by omega
 have y2:s.size≤512:=by omega
 have HL:=Lib.hid hl;have HSz:Hid (s.size=512):=h;have HCk:=Lib.hid hck;clear hl h HM hlt zT hC hC2 hck;have H0:=Lib.hid (Ro.start w s);have HTy:Hid (hasB (s.data.toList.getD 156 0) (⟨#[48,49,50,53,120]⟩:ByteArray).data.toList=true):=ht;have hby:Hid (s.data.toList.getD 156 0=s[156]'(by have:=HSz.out;omega)):=qg3 s 156 (by have:=HSz.out;omega) 0;have HTt:=Lib.hid ht;clear ht;go_enter Tryz.func213,Tryz.ntmps213;go_wp2_with fail;refine (HS.out _).mono ?_;rintro e w1 ⟨rfl,rfl⟩;go_wp2_with fail;refine (HQ.out _).mono ?_;rintro e w1 ⟨rfl,rfl⟩;go_upto_region 13 with fail
 clear x1 p1 hq hq2;obtain ⟨w0,W0⟩: ∃w0,w0=w5 w s:=⟨_,rfl⟩;rw [←W0]at H0;have W1:=W0;unfold w5 at W1;change w0=((((w.alloc (.cells #[.string s] 9)).alloc (.cells #[.string ⟨#[]⟩,.string ⟨#[]⟩,.string ⟨#[]⟩,.int .i64 0,.int .i64 0,.int .i64 0,.int .i64 0,.int .i64 0,.int .u8 0,.string ⟨#[]⟩,.string ⟨#[]⟩] 152)).alloc (.cells #[.int .i64 0] 24)).alloc (.cells #[.func (.func 254) #[] #[.pointer (some ⟨w.heap.size+1+1,0,none⟩)]] 257)).alloc (.cells #[.string ⟨#[]⟩,.string ⟨#[]⟩,.string ⟨#[]⟩,.int .i64 0,.int .i64 0,.int .i64 0,.int .i64 0,.int .i64 0,.int .u8 0,.string ⟨#[]⟩,.string ⟨#[]⟩] 152)at W1;rw [←W1];have G0:=H0.out;clear H0 W0 W1;go_wp2_with fail;refine (qh2 G0 HSz.out 0 100 true (by omega) (by omega)).mono ?_;rintro e w1 ⟨rfl,K1⟩;clear G0;obtain ⟨v,c,f⟩:=K1.at 0 (by omega);have G1:=K1.set 0 (.string (bs (rdS s.data.toList 0 100 true))) (hq1 s.data.toList) rfl;clear K1;go_wp2_with fail;refine (qdJ G1 HSz.out 100 108 (by omega) (by omega)).mono ?_;rintro e w2 ⟨rfl,K2⟩;clear G1 c f v;obtain ⟨v,c,f⟩:=K2.at 3 (by omega);have G2:=K2.set 3 (.int .i64 (octR (sl s.data.toList 100 108)).1) (hq2 s.data.toList) rfl;clear K2;go_wp2_with fail;refine (qdJ G2 HSz.out 108 116 (by omega) (by omega)).mono ?_;rintro e w3 ⟨rfl,K3⟩;clear G2 c f v;obtain ⟨v,c,f⟩:=K3.at 4 (by omega);have G3:=K3.set 4 (.int .i64 (octR (sl s.data.toList 108 116)).1) (hq3 s.data.toList) rfl;clear K3;go_wp2_with fail;refine (qdJ G3 HSz.out 116 124 (by omega) (by omega)).mono ?_;rintro e w4 ⟨rfl,K4⟩;clear G3 c f v
 obtain ⟨v,c,f⟩:=K4.at 5 (by omega);have G4:=K4.set 5 (.int .i64 (octR (sl s.data.toList 116 124)).1) (hq4 s.data.toList) rfl;clear K4;go_wp2_with fail;refine (qdJ G4 HSz.out 124 136 (by omega) (by omega)).mono ?_;rintro e w5 ⟨rfl,K5⟩;clear G4 c f v;obtain ⟨v,c,f⟩:=K5.at 6 (by omega);have G5:=K5.set 6 (.int .i64 (octR (sl s.data.toList 124 136)).1) (hq5 s.data.toList) rfl;clear K5;go_wp2_with fail;refine (qdJ G5 HSz.out 136 148 (by omega) (by omega)).mono ?_;rintro e w6 ⟨rfl,K6⟩;clear G5 c f v;obtain ⟨v,c,f⟩:=K6.at 7 (by omega);have G6:=K6.set 7 (.int .i64 (octR (sl s.data.toList 136 148)).1) (hq6 s.data.toList) rfl;clear K6;have cs:=G6.cS;obtain ⟨v2,c2,f2⟩:=G6.at 8 (by omega);have y3:156<s.size:=by have:=HSz.out;omega
 have G7:=G6.set 8 (.int .u8 ((s[156]'y3).toNat:Int)) (hq7 s.data.toList) (by rw [←hby.out];rfl);clear G6;go_wp2_with fail;refine (qb5 ⟨#[48,49,50,53,120]⟩ _ (s.data.toList.getD 156 0) _ (by decide) (by rw [hby.out])).mono ?_;rintro e w' ⟨rfl,rfl⟩;rw [HTy.out];clear c f v v2 c2 f2 cs;have G8:=G7;rw [←qnA (qbA _ _)]at G8;go_wp2_with fail;refine (qh2 G8 HSz.out 157 257 true (by omega) (by omega)).mono ?_;rintro e w9 ⟨rfl,K9⟩;clear G8;obtain ⟨v,c,f⟩:=K9.at 2 (by omega);have G9:=K9.set 2 (.string (bs (rdS s.data.toList 157 257 true))) (hq8 s.data.toList) rfl;clear K9;go_wp2_with fail;refine (qoH G9 HSz.out 257 265 ⟨#[117,115,116,97,114,0,48,48]⟩ rfl (by omega)).mono ?_;rintro e w10 ⟨rfl,G10⟩;clear G9 c f v;go_wp2_with fail;refine (qh2 G10 HSz.out 265 297 false (by omega) (by omega)).mono ?_;rintro e w11 ⟨rfl,K11⟩;clear G10;obtain ⟨v,c,f⟩:=K11.at 9 (by omega);have G11:=K11.set 9 (.string (bs (rdS s.data.toList 265 297 false))) (hq9 s.data.toList) rfl;clear K11;go_wp2_with fail;refine (qh2 G11 HSz.out 297 329 false (by omega) (by omega)).mono ?_;rintro e w12 ⟨rfl,K12⟩;clear G11 c f v;obtain ⟨v,c,f⟩:=K12.at 10 (by omega);have G12:=K12.set 10 (.string (bs (rdS s.data.toList 297 329 false))) (hqA s.data.toList) rfl;clear K12;go_wp2_with fail;refine (qoH G12 HSz.out 329 345 ⟨#[48,48,48,48,48,48,48,0,48,48,48,48,48,48,48,0]⟩ rfl (by omega)).mono ?_;rintro e w13 ⟨rfl,G13⟩;clear G12 c f v;go_wp2_with fail
 refine (qh2 G13 HSz.out 345 500 true (by omega) (by omega)).mono ?_;rintro e w14 ⟨rfl,K14⟩;clear G13;obtain ⟨v,c,f⟩:=K14.at 1 (by omega);have G14:=K14.set 1 (.string (bs (rdS s.data.toList 345 500 true))) (hqB s.data.toList) rfl;clear K14;go_wp2_with fail;refine (qcC 12 12 _ rfl (by omega)).mono ?_;rintro e w' ⟨rfl,rfl⟩;go_wp2_with fail;refine (qoH G14 HSz.out 500 512 (zer 12) rfl (by omega)).mono ?_;rintro e w15 ⟨rfl,G15⟩;clear G14 c f v;obtain ⟨c0,c1,c2,c3,c4,c5,c6,c7,c8,c9,cA⟩:=qaW G15.2.2.2.2.1;obtain ⟨q0,q1,q2,q3,q4,q5,q6,q7,q8,q9,qA⟩:=qaW G15.2.1;have f0:=qaJ G15.2.1 0;have f1:=qaJ G15.2.1 1;have f2:=qaJ G15.2.1 2;have f3:=qaJ G15.2.1 3;have f4:=qaJ G15.2.1 4;have f5:=qaJ G15.2.1 5;have f6:=qaJ G15.2.1 6;have f7:=qaJ G15.2.1 7;have f8:=qaJ G15.2.1 8;have f9:=qaJ G15.2.1 9;have fA:=qaJ G15.2.1 10;have bE: ∀(er:Int),er=qbJ (qf7 s.data.toList)→Ro w.heap.size s er (hqB s.data.toList) w w15→Ro w.heap.size s (qbJ (qf7 s.data.toList)) (hqB s.data.toList) w w15:=fun er e H=>e▸H;have HF:=bE _ (by unfold qf7;rw [HTt.out];rfl) G15;obtain ⟨E,HE⟩:=qaA (qbJ (qf7 s.data.toList));rw [HE.out]at HF;have ce:=HF.cE.1;have HB:Hid (Bx w.heap.size (w.heap.size+1) w w15):=⟨by omega,HF.2.2.2.2.2⟩;clear bE G15 HF
 by_cases h0:E=0
 ·subst h0;have HO:=Lib.hid (qlM HL.out HCk.out HE.out);go_wp2_with fail;refine bodyPost_ret (v:= .tuple #[.agg #[.string (bs (hqB s.data.toList).name),.string (bs (hqB s.data.toList).pre),.string (bs (hqB s.data.toList).link),.int .i64 (hqB s.data.toList).mode,.int .i64 (hqB s.data.toList).uid,.int .i64 (hqB s.data.toList).gid,.int .i64 (hqB s.data.toList).size,.int .i64 (hqB s.data.toList).time,.int .u8 ((hqB s.data.toList).typ.toNat:Int),.string (bs (hqB s.data.toList).user),.string (bs (hqB s.data.toList).group)],.int .i64 0]) (by simp [results,Tryz.results213,go_sem, *]) rfl ⟨by rw [HO.out];rfl,?_⟩;refine (show Bx w.heap.size (w.heap.size+1) w _ from ?_).2
  repeat (first|(with_reducible refine Bx.drew ?_)|(with_reducible refine Bx.set ?_ _))
  exact HB.out
 ·have hb:(E !=0)=true:=by simpa using h0
  have HO:=Lib.hid (qmW HL.out HCk.out (by rw [HE.out];exact h0));clear h0;go_wp2_with fail
  go_region
  all_goals
   go_wp2_with fail;refine bodyPost_ret (v:= .tuple #[.agg #[.string ⟨#[]⟩,.string ⟨#[]⟩,.string ⟨#[]⟩,.int .i64 0,.int .i64 0,.int .i64 0,.int .i64 0,.int .i64 0,.int .u8 0,.string ⟨#[]⟩,.string ⟨#[]⟩],.int .i64 E]) (by simp [results,Tryz.results213,go_sem, *]) rfl ⟨by rw [HO.out,HE.out];rfl,?_⟩;refine (show Bx w.heap.size (w.heap.size+1) w _ from ?_).2
   repeat (first|(with_reducible refine Bx.drew ?_)|(with_reducible refine Bx.set ?_ _))
   exact HB.out
set_option maxHeartbeats 4000000 in
theorem q5M (s:ByteArray) (w:World) (h:s.size=512) (hck:ckOk s.data.toList=true) (ht:typB (s.data.toList.getD 156 0)=false):
  Calls Tryz.prog 213 #[.string s] w fun e w'=>e= .returned (.tuple #[.agg (qaG (qbW s.data.toList).1),.int .i64 (qbW s.data.toList).2])∧Below w.heap.size w w':=by
 have hl:s.data.toList.length=512:=by rw [←h];simp
 have HS:=Lib.hid (fun W=>qiX s W (by unfold maxLen;omega));rw [qgL hl]at HS;have hlt:=qiA s.data.toList hl;obtain ⟨N,HN⟩:=qaA (sumH s.data.toList);rw [HN.out]at hlt HS;have HQ:=Lib.hid (fun W=>qgQ (N:Int) 7 W);rw [qmL N hlt]at HQ;obtain ⟨T,HT⟩:=qaA (bs (D N 6++ [0]));have zT:T.size=7:=by rw [←HT.out,qaB];simp
 rw [HT.out]at HQ;obtain ⟨C,hC⟩: ∃C,T++(⟨#[32]⟩:ByteArray)=C:=⟨_,rfl⟩;have p1:=qdT hC (by rw [zT];decide);have hC2:C=bs (ckL N):=by rw [←hC,←HT.out];exact qgF _ _
 obtain ⟨M,HM⟩: ∃M,M=s.extract 148 156:=⟨_,rfl⟩
 have hq:(M.toList==C.toList)=true:=by
  rw [←hck,HM,hC2,qcQ,ckOk,HN.out];rw [decide_eq_decide];constructor
  ·intro e;have:=congrArg (fun x:ByteArray=>x.data.toList) e;simp only [qb8]at this;exact this
  ·intro e;apply ByteArray.ext;apply Array.toList_inj.1;rw [qb8];exact e
 have hq2:(M.toList !=C.toList)= !true:=by rw [bne,hq]
 have x1:s.extract 148 156=M:=HM.symm;have y1:156≤s.size:=by omega
 have y2:s.size≤512:=by omega
 have HL:=Lib.hid hl;have HSz:Hid (s.size=512):=h;have HCk:=Lib.hid hck;clear hl h HM hlt zT hC hC2 hck;have H0:=Lib.hid (Ro.start w s);have HTy:Hid (hasB (s.data.toList.getD 156 0) (⟨#[48,49,50,53,120]⟩:ByteArray).data.toList=false):=ht;have hby:Hid (s.data.toList.getD 156 0=s[156]'(by have:=HSz.out;omega)):=qg3 s 156 (by have:=HSz.out;omega) 0;have HTt:=Lib.hid ht;clear ht;go_enter Tryz.func213,Tryz.ntmps213;go_wp2_with fail;refine (HS.out _).mono ?_;rintro e w1 ⟨rfl,rfl⟩;go_wp2_with fail;refine (HQ.out _).mono ?_;rintro e w1 ⟨rfl,rfl⟩;go_upto_region 13 with fail
 clear x1 p1 hq hq2;obtain ⟨w0,W0⟩: ∃w0,w0=w5 w s:=⟨_,rfl⟩;rw [←W0]at H0;have W1:=W0;unfold w5 at W1;change w0=((((w.alloc (.cells #[.string s] 9)).alloc (.cells #[.string ⟨#[]⟩,.string ⟨#[]⟩,.string ⟨#[]⟩,.int .i64 0,.int .i64 0,.int .i64 0,.int .i64 0,.int .i64 0,.int .u8 0,.string ⟨#[]⟩,.string ⟨#[]⟩] 152)).alloc (.cells #[.int .i64 0] 24)).alloc (.cells #[.func (.func 254) #[] #[.pointer (some ⟨w.heap.size+1+1,0,none⟩)]] 257)).alloc (.cells #[.string ⟨#[]⟩,.string ⟨#[]⟩,.string ⟨#[]⟩,.int .i64 0,.int .i64 0,.int .i64 0,.int .i64 0,.int .i64 0,.int .u8 0,.string ⟨#[]⟩,.string ⟨#[]⟩] 152)at W1;rw [←W1];have G0:=H0.out;clear H0 W0 W1;go_wp2_with fail;refine (qh2 G0 HSz.out 0 100 true (by omega) (by omega)).mono ?_;rintro e w1 ⟨rfl,K1⟩;clear G0;obtain ⟨v,c,f⟩:=K1.at 0 (by omega);have G1:=K1.set 0 (.string (bs (rdS s.data.toList 0 100 true))) (hq1 s.data.toList) rfl;clear K1;go_wp2_with fail;refine (qdJ G1 HSz.out 100 108 (by omega) (by omega)).mono ?_;rintro e w2 ⟨rfl,K2⟩;clear G1 c f v;obtain ⟨v,c,f⟩:=K2.at 3 (by omega);have G2:=K2.set 3 (.int .i64 (octR (sl s.data.toList 100 108)).1) (hq2 s.data.toList) rfl;clear K2;go_wp2_with fail;refine (qdJ G2 HSz.out 108 116 (by omega) (by omega)).mono ?_;rintro e w3 ⟨rfl,K3⟩;clear G2 c f v;obtain ⟨v,c,f⟩:=K3.at 4 (by omega);have G3:=K3.set 4 (.int .i64 (octR (sl s.data.toList 108 116)).1) (hq3 s.data.toList) rfl;clear K3;go_wp2_with fail;refine (qdJ G3 HSz.out 116 124 (by omega) (by omega)).mono ?_;rintro e w4 ⟨rfl,K4⟩;clear G3 c f v
 obtain ⟨v,c,f⟩:=K4.at 5 (by omega);have G4:=K4.set 5 (.int .i64 (octR (sl s.data.toList 116 124)).1) (hq4 s.data.toList) rfl;clear K4;go_wp2_with fail;refine (qdJ G4 HSz.out 124 136 (by omega) (by omega)).mono ?_;rintro e w5 ⟨rfl,K5⟩;clear G4 c f v;obtain ⟨v,c,f⟩:=K5.at 6 (by omega);have G5:=K5.set 6 (.int .i64 (octR (sl s.data.toList 124 136)).1) (hq5 s.data.toList) rfl;clear K5;go_wp2_with fail;refine (qdJ G5 HSz.out 136 148 (by omega) (by omega)).mono ?_;rintro e w6 ⟨rfl,K6⟩;clear G5 c f v;obtain ⟨v,c,f⟩:=K6.at 7 (by omega);have G6:=K6.set 7 (.int .i64 (octR (sl s.data.toList 136 148)).1) (hq6 s.data.toList) rfl;clear K6;have cs:=G6.cS;obtain ⟨v2,c2,f2⟩:=G6.at 8 (by omega);have y3:156<s.size:=by have:=HSz.out;omega
 have G7:=G6.set 8 (.int .u8 ((s[156]'y3).toNat:Int)) (hq7 s.data.toList) (by rw [←hby.out];rfl);clear G6;go_wp2_with fail;refine (qb5 ⟨#[48,49,50,53,120]⟩ _ (s.data.toList.getD 156 0) _ (by decide) (by rw [hby.out])).mono ?_;rintro e w' ⟨rfl,rfl⟩;rw [HTy.out];clear c f v v2 c2 f2 cs;have cn:=G7.cN;go_wp2_with fail;refine (qv7 G7 3).mono ?_;rintro e w8 ⟨rfl,G8⟩;clear G7 cn;go_wp2_with fail;refine (qh2 G8 HSz.out 157 257 true (by omega) (by omega)).mono ?_;rintro e w9 ⟨rfl,K9⟩;clear G8;obtain ⟨v,c,f⟩:=K9.at 2 (by omega);have G9:=K9.set 2 (.string (bs (rdS s.data.toList 157 257 true))) (hq8 s.data.toList) rfl;clear K9;go_wp2_with fail;refine (qoH G9 HSz.out 257 265 ⟨#[117,115,116,97,114,0,48,48]⟩ rfl (by omega)).mono ?_;rintro e w10 ⟨rfl,G10⟩;clear G9 c f v;go_wp2_with fail;refine (qh2 G10 HSz.out 265 297 false (by omega) (by omega)).mono ?_;rintro e w11 ⟨rfl,K11⟩;clear G10;obtain ⟨v,c,f⟩:=K11.at 9 (by omega);have G11:=K11.set 9 (.string (bs (rdS s.data.toList 265 297 false))) (hq9 s.data.toList) rfl;clear K11;go_wp2_with fail;refine (qh2 G11 HSz.out 297 329 false (by omega) (by omega)).mono ?_;rintro e w12 ⟨rfl,K12⟩;clear G11 c f v;obtain ⟨v,c,f⟩:=K12.at 10 (by omega);have G12:=K12.set 10 (.string (bs (rdS s.data.toList 297 329 false))) (hqA s.data.toList) rfl;clear K12;go_wp2_with fail;refine (qoH G12 HSz.out 329 345 ⟨#[48,48,48,48,48,48,48,0,48,48,48,48,48,48,48,0]⟩ rfl (by omega)).mono ?_;rintro e w13 ⟨rfl,G13⟩;clear G12 c f v;go_wp2_with fail
 refine (qh2 G13 HSz.out 345 500 true (by omega) (by omega)).mono ?_;rintro e w14 ⟨rfl,K14⟩;clear G13;obtain ⟨v,c,f⟩:=K14.at 1 (by omega);have G14:=K14.set 1 (.string (bs (rdS s.data.toList 345 500 true))) (hqB s.data.toList) rfl;clear K14;go_wp2_with fail;refine (qcC 12 12 _ rfl (by omega)).mono ?_;rintro e w' ⟨rfl,rfl⟩;go_wp2_with fail;refine (qoH G14 HSz.out 500 512 (zer 12) rfl (by omega)).mono ?_;rintro e w15 ⟨rfl,G15⟩;clear G14 c f v;obtain ⟨c0,c1,c2,c3,c4,c5,c6,c7,c8,c9,cA⟩:=qaW G15.2.2.2.2.1;obtain ⟨q0,q1,q2,q3,q4,q5,q6,q7,q8,q9,qA⟩:=qaW G15.2.1;have f0:=qaJ G15.2.1 0;have f1:=qaJ G15.2.1 1;have f2:=qaJ G15.2.1 2;have f3:=qaJ G15.2.1 3;have f4:=qaJ G15.2.1 4;have f5:=qaJ G15.2.1 5;have f6:=qaJ G15.2.1 6;have f7:=qaJ G15.2.1 7;have f8:=qaJ G15.2.1 8;have f9:=qaJ G15.2.1 9;have fA:=qaJ G15.2.1 10;have bE: ∀(er:Int),er=qbJ (qf7 s.data.toList)→Ro w.heap.size s er (hqB s.data.toList) w w15→Ro w.heap.size s (qbJ (qf7 s.data.toList)) (hqB s.data.toList) w w15:=fun er e H=>e▸H;have HF:=bE _ (by unfold qf7;rw [HTt.out];rfl) G15;obtain ⟨E,HE⟩:=qaA (qbJ (qf7 s.data.toList));rw [HE.out]at HF;have ce:=HF.cE.1;have HB:Hid (Bx w.heap.size (w.heap.size+1) w w15):=⟨by omega,HF.2.2.2.2.2⟩;clear bE G15 HF
 by_cases h0:E=0
 ·subst h0;have HO:=Lib.hid (qlM HL.out HCk.out HE.out);go_wp2_with fail;refine bodyPost_ret (v:= .tuple #[.agg #[.string (bs (hqB s.data.toList).name),.string (bs (hqB s.data.toList).pre),.string (bs (hqB s.data.toList).link),.int .i64 (hqB s.data.toList).mode,.int .i64 (hqB s.data.toList).uid,.int .i64 (hqB s.data.toList).gid,.int .i64 (hqB s.data.toList).size,.int .i64 (hqB s.data.toList).time,.int .u8 ((hqB s.data.toList).typ.toNat:Int),.string (bs (hqB s.data.toList).user),.string (bs (hqB s.data.toList).group)],.int .i64 0]) (by simp [results,Tryz.results213,go_sem, *]) rfl ⟨by rw [HO.out];rfl,?_⟩;refine (show Bx w.heap.size (w.heap.size+1) w _ from ?_).2
  repeat (first|(with_reducible refine Bx.drew ?_)|(with_reducible refine Bx.set ?_ _))
  exact HB.out
 ·have hb:(E !=0)=true:=by simpa using h0
  have HO:=Lib.hid (qmW HL.out HCk.out (by rw [HE.out];exact h0));clear h0;go_wp2_with fail
  go_region
  all_goals
   go_wp2_with fail;refine bodyPost_ret (v:= .tuple #[.agg #[.string ⟨#[]⟩,.string ⟨#[]⟩,.string ⟨#[]⟩,.int .i64 0,.int .i64 0,.int .i64 0,.int .i64 0,.int .i64 0,.int .u8 0,.string ⟨#[]⟩,.string ⟨#[]⟩],.int .i64 E]) (by simp [results,Tryz.results213,go_sem, *]) rfl ⟨by rw [HO.out,HE.out];rfl,?_⟩;refine (show Bx w.heap.size (w.heap.size+1) w _ from ?_).2
   repeat (first|(with_reducible refine Bx.drew ?_)|(with_reducible refine Bx.set ?_ _))
   exact HB.out
theorem q5N (s:ByteArray) (w:World) (hs:s.size≤maxLen):
  Calls Tryz.prog 213 #[.string s] w fun e w'=>e= .returned (.tuple #[.agg (qaG (qbW s.data.toList).1),.int .i64 (qbW s.data.toList).2])∧Below w.heap.size w w':=by
 by_cases h:s.size=512
 ·cases hck:ckOk s.data.toList
  ·rw [qs5 (by simpa using h) hck];exact q5K s w h hck
  ·cases ht:typB (s.data.toList.getD 156 0)
   ·exact q5M s w h hck ht
   ·exact q5L s w h hck ht
 ·rw [qo2 (by simpa using h)];exact q1G s w hs h
end Go.Proofs.YtapgoifimhnbdaaGreatDoor
