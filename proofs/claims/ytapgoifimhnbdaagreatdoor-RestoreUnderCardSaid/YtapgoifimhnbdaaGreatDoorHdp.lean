/- qaX of one kind, in one file: HedP, HedQ, HedS. -/
import Derived.Test.YtapgoifimhnbdaaGreatDoorWrx
import Derived.Test.YtapgoifimhnbdaaGreatDoorMea
import Derived.Test.YtapgoifimhnbdaaGreatDoorHdb
import Derived.Test.YtapgoifimhnbdaaGreatDoorOct
import Derived.Test.YtapgoifimhnbdaaGreatDoorFld
import Derived.Deep.DeepCutAuto
import Derived.Deep.RegionWith
set_option linter.unusedVariables false
set_option maxRecDepth 100000
namespace Go.Proofs.YtapgoifimhnbdaaGreatDoor
open Go.RowKit
open Go.OpenShut
theorem qtU {w:World} {k:Nat} {o:Obj} (h:w.heap[k]?=some o):k<w.heap.size:=by
 rcases Nat.lt_or_ge k w.heap.size with h'|h'
 ·exact h'
 ·rw [Array.getElem?_eq_none h']at h;cases h
theorem Oth.setR {w:World} {b i:Nat} {v:Value} {cs:Array Value} {fr:Nat×Nat} (hb:w.heap[b]?=some (.cells cs 253 fr)):Oth w (w.setCell ⟨b,i,none⟩ v):=by
 intro k c f e;rw [Below.heap_setCell _ _ _ _ (fun e2=>by subst e2;rw [hb]at e;injection e with e;injection e with _ e _;exact absurd e (by decide))];exact e
def Rd (b:Nat) (L:List UInt8) (k:Nat) (er:Int) (w:World):Prop:=w.heap[b]?=some (.cells #[.string (bs (L.drop k)),.int .i64 er] 253 (0,0))
theorem Rd.below {b:Nat} {L:List UInt8} {k:Nat} {er:Int} {w w':World} (h:Rd b L k er w) (hb:Below w.heap.size w w'):Rd b L k er w':=(hb.block b (qtU h)).trans h
theorem Rd.rest {b:Nat} {L:List UInt8} {k:Nat} {er:Int} {w:World} (h:Rd b L k er w) (m:Nat):Rd b L m er (w.setCell ⟨b,0,none⟩ (.string (bs (L.drop m)))):=by
 unfold Rd at h⊢;simp [World.setCell,Array.getElem?_modify,h]
theorem Rd.err {b:Nat} {L:List UInt8} {k:Nat} {er:Int} {w:World} (h:Rd b L k er w) (e2:Int):Rd b L k e2 (w.setCell ⟨b,1,none⟩ (.int .i64 e2)):=by
 unfold Rd at h⊢;simp [World.setCell,Array.getElem?_modify,h]
theorem Rd.cells {b:Nat} {L:List UInt8} {k:Nat} {er:Int} {w:World} (h:Rd b L k er w):
  (w.cell? ⟨b,0,none⟩=some (.string (bs (L.drop k)))∧w.frozen? ⟨b,0,none⟩=false)∧(w.cell? ⟨b,1,none⟩=some (.int .i64 er)∧w.frozen? ⟨b,1,none⟩=false):=by
 unfold Rd at h;exact ⟨⟨by rw [Lib.cell_of_heap h];rfl,Lib.frozen_of_heap h 0⟩,⟨by rw [Lib.cell_of_heap h];rfl,Lib.frozen_of_heap h 1⟩⟩
theorem rTake (B b:Nat) (L:List UInt8) (k n:Nat) (er:Int) (w:World) (h:Rd b L k er w) (hB:B≤b) (hn:k+n≤L.length) (hL:L.length≤100000):
  Calls Tryz.prog 292 #[.pointer (some ⟨b,0,none⟩),.int .i64 (n:Int)] w fun e w'=>e= .returned (.string (bs (sl L k (k+n))))∧(Rd b L (k+n) er w'∧Bel B w w'):=by
 obtain ⟨⟨c0,f0⟩,-⟩:=h.cells;have x1:=bs_take L k n hn;have x2:=bs_drop L k n;have hz:(bs (L.drop k)).size=L.length-k:=by rw [qaC,List.length_drop]
 have HE:=Lib.hid (h.rest (k+n));have HB:=Lib.hid ((Below.refl B w).setCell (p:=⟨b,0,none⟩) hB (.string (bs (L.drop (k+n)))));have HO:Hid (Oth w (w.setCell ⟨b,0,none⟩ (.string (bs (L.drop (k+n)))))):=Oth.setR h;obtain ⟨S,HS⟩:=qaA (bs (L.drop k));obtain ⟨T,HT⟩:=qaA (bs (L.drop (k+n)));obtain ⟨V,HV⟩:=qaA (bs (sl L k (k+n)));rw [HS.out]at c0 hz x1 x2;rw [HT.out]at x2 HE HB HO;rw [HV.out]at x1⊢;have y1:n≤S.size:=by omega
 have y2:S.size≤100000:=by omega
 clear hz h;go_enter Tryz.func292,Tryz.ntmps292;go_wp2_with fail;go_ret;exact ⟨rfl,HE.out,HB.out,HO.out⟩
theorem rText (B b:Nat) (L:List UInt8) (k n:Nat) (er:Int) (wh:Bool) (w:World) (h:Rd b L k er w) (hB:B≤b) (hn:k+n≤L.length) (hL:L.length≤100000) (hBw:B≤w.heap.size):
  Calls Tryz.prog 290 #[.pointer (some ⟨b,0,none⟩),.int .i64 (n:Int),.bool wh] w fun e w'=>e= .returned (.string (bs (rdS L k (k+n) wh)))∧(Rd b L (k+n) (qcO er (fldR (sl L k (k+n)) wh).2) w'∧Bel B w w'):=by
 have HT:=Lib.hid (rTake B b L k n er w h hB hn hL);have hsz:(bs (sl L k (k+n))).size≤maxLen:=by rw [qaC,qiW _ _ _ hn];unfold maxLen;omega
 have HC:=Lib.hid (fun W=>q7A (bs (sl L k (k+n))) wh W hsz);have hv:(fldR (sl L k (k+n)) wh).1=bs (rdS L k (k+n) wh):=(qgJ _).symm;obtain ⟨V,HV⟩:=qaA (bs (rdS L k (k+n) wh));rw [HV.out]at hv⊢;have Hv:=Lib.hid hv;obtain ⟨S,HS⟩:=qaA (bs (sl L k (k+n)))
 have HC2:Hid (∀W,Calls Tryz.prog 320 #[.string S,.bool wh] W fun e w'=>e= .returned (.tuple #[.string V,.int .i64 (fldR (sl L k (k+n)) wh).2])∧Below W.heap.size W w'):=by
  intro W;have:=HC.out W;rw [show (bs (sl L k (k+n))).data.toList=sl L k (k+n)from rfl,Hv.out,HS.out]at this;exact this
 have HT2:=HT.out;rw [HS.out]at HT2;have HT2:=Lib.hid HT2;have HBw:Hid (B≤w.heap.size):=hBw;have HB:Hid (B≤b):=hB;clear hsz hv h HC HT hn;go_enter Tryz.func290,Tryz.ntmps290;go_wp2_with fail;refine HT2.out.mono ?_;rintro e w1 ⟨rfl,h1,hb1⟩;have H1:=Lib.hid h1;have HB1:=Lib.hid hb1;clear h1 hb1;go_wp2_with fail;refine (HC2.out _).mono ?_;rintro e w2 ⟨rfl,hb2⟩;have h2:=H1.out.below hb2;have HB2:=Lib.hid (HB1.out.trans (Bel.of hb2 (by have:=HBw.out;have:=HB1.out.1.size;omega)));obtain ⟨-,c1,f1⟩:=h2.cells;have H2:=Lib.hid h2;clear h2 hb2;go_wp2_with fail;refine (qjL _ _ _).mono ?_;rintro e w3 ⟨rfl,rfl⟩;go_wp2_with fail;go_ret;exact ⟨rfl,H2.out.err _,HB2.out.1.setCell (p:=⟨b,1,none⟩) HB.out _,HB2.out.2.trans (Oth.setR H2.out)⟩
theorem rNumber (B b:Nat) (L:List UInt8) (k n:Nat) (er:Int) (w:World) (h:Rd b L k er w) (hB:B≤b) (hn:k+n≤L.length) (hL:L.length≤100000) (hBw:B≤w.heap.size):
  Calls Tryz.prog 291 #[.pointer (some ⟨b,0,none⟩),.int .i64 (n:Int)] w fun e w'=>e= .returned (.int .i64 (octR (sl L k (k+n))).1)∧(Rd b L (k+n) (qcO er (octR (sl L k (k+n))).2) w'∧Bel B w w'):=by
 have HT:=Lib.hid (rTake B b L k n er w h hB hn hL);have hsz:(bs (sl L k (k+n))).size≤maxLen:=by rw [qaC,qiW _ _ _ hn];unfold maxLen;omega
 have HC:=Lib.hid (fun W=>qt6 (bs (sl L k (k+n))) W hsz);obtain ⟨S,HS⟩:=qaA (bs (sl L k (k+n)))
 have HC2:Hid (∀W,Calls Tryz.prog 322 #[.string S] W fun e w'=>e= .returned (.tuple #[.int .i64 (octR (sl L k (k+n))).1,.int .i64 (octR (sl L k (k+n))).2])∧W=w'):=by
  intro W;have:=HC.out W;rw [show (bs (sl L k (k+n))).data.toList=sl L k (k+n)from rfl,HS.out]at this;exact this
 have HT2:=HT.out;rw [HS.out]at HT2;have HT2:=Lib.hid HT2;have HB:Hid (B≤b):=hB;clear hsz h HC HT hn;go_enter Tryz.func291,Tryz.ntmps291;go_wp2_with fail;refine HT2.out.mono ?_;rintro e w1 ⟨rfl,h1,hb1⟩;obtain ⟨-,c1,f1⟩:=h1.cells;have H1:=Lib.hid h1;have HB1:=Lib.hid hb1;clear h1 hb1;go_wp2_with fail;refine (HC2.out _).mono ?_;rintro e w2 ⟨rfl,rfl⟩;go_wp2_with fail;refine (qjL _ _ _).mono ?_;rintro e w3 ⟨rfl,rfl⟩;go_wp2_with fail;go_ret;exact ⟨rfl,H1.out.err _,HB1.out.1.setCell (p:=⟨b,1,none⟩) HB.out _,HB1.out.2.trans (Oth.setR H1.out)⟩
theorem zaI (B b:Nat) (L:List UInt8) (k:Nat) (er:Int) (c:Bool) (w:World) (h:Rd b L k er w) (hB:B≤b):
  Calls Tryz.prog 293 #[.pointer (some ⟨b,0,none⟩),.bool c] w fun e w'=>e= .returned (.tuple #[])∧(Rd b L k (qcO er (bad c)) w'∧Bel B w w'):=by
 obtain ⟨-,c1,f1⟩:=h.cells;have H1:=Lib.hid h;cases c
 ·have HB:=Lib.hid ((Below.refl B w).setCell (p:=⟨b,1,none⟩) hB (.int .i64 (qcO er (bad false))));have HO:Hid (Oth w (w.setCell ⟨b,1,none⟩ (.int .i64 (qcO er (bad false))))):=Oth.setR h;clear h;go_enter Tryz.func293,Tryz.ntmps293;go_wp2_with fail;refine (qjL _ _ _).mono ?_;rintro e w3 ⟨rfl,rfl⟩;go_wp2_with fail
  go_end0
  exact ⟨rfl,H1.out.err _,HB.out,HO.out⟩
 ·have he:qcO er (bad true)=er:=by
   unfold qcO bad
   split
   ·rename_i h;rw [h];rfl
   ·rfl
  rw [he];clear he h;go_enter Tryz.func293,Tryz.ntmps293;go_wp2_with fail
  go_end0
  exact ⟨rfl,H1.out,Below.refl _ _,Oth.refl _⟩
def hq1 (L:List UInt8):HeadV:= {qbE with name:=rdS L 0 100 true}
def hq2 (L:List UInt8):HeadV:= {hq1 L with mode:=(octR (sl L 100 108)).1}
def hq3 (L:List UInt8):HeadV:= {hq2 L with uid:=(octR (sl L 108 116)).1}
def hq4 (L:List UInt8):HeadV:= {hq3 L with gid:=(octR (sl L 116 124)).1}
def hq5 (L:List UInt8):HeadV:= {hq4 L with size:=(octR (sl L 124 136)).1}
def hq6 (L:List UInt8):HeadV:= {hq5 L with time:=(octR (sl L 136 148)).1}
def hq7 (L:List UInt8):HeadV:= {hq6 L with typ:=L.getD 156 0}
def hq8 (L:List UInt8):HeadV:= {hq7 L with link:=rdS L 157 257 true}
def hq9 (L:List UInt8):HeadV:= {hq8 L with user:=rdS L 265 297 false}
def hqA (L:List UInt8):HeadV:= {hq9 L with group:=rdS L 297 329 false}
def hqB (L:List UInt8):HeadV:= {hqA L with pre:=rdS L 345 500 true}
theorem sl_one (L:List UInt8) (h:L.length=512):sl L 156 157= [L.getD 156 0]:=by
 unfold sl;rw [List.getD_eq_getElem?_getD,List.getElem?_eq_getElem (by omega),Option.getD_some,List.take_succ_eq_append_getElem (by omega),List.drop_append_of_le_length (by rw [List.length_take];omega),List.drop_of_length_le (by rw [List.length_take];omega),List.nil_append]
theorem qbD {w:World} {g:Nat} {h:HeadV} (H:w.heap[g]?=some (.cells (qaN h) 152 (0,0))):
  w.cell? ⟨g,0,none⟩=some (.string (bs h.name))∧w.cell? ⟨g,1,none⟩=some (.string (bs h.pre))∧w.cell? ⟨g,2,none⟩=some (.string (bs h.link))∧w.cell? ⟨g,3,none⟩=some (.int .i64 h.mode)∧w.cell? ⟨g,4,none⟩=some (.int .i64 h.uid)∧w.cell? ⟨g,5,none⟩=some (.int .i64 h.gid)∧
  w.cell? ⟨g,6,none⟩=some (.int .i64 h.size)∧w.cell? ⟨g,7,none⟩=some (.int .i64 h.time)∧w.cell? ⟨g,8,none⟩=some (.int .u8 (h.typ.toNat:Int))∧w.cell? ⟨g,9,none⟩=some (.string (bs h.user))∧w.cell? ⟨g,10,none⟩=some (.string (bs h.group)):=by
 refine ⟨?_,?_,?_,?_,?_,?_,?_,?_,?_,?_,?_⟩<;>(rw [Lib.cell_of_heap H];rfl)
theorem qbP {w:World} {g:Nat} {h:HeadV} (H:w.heap[g]?=some (.cells (qaN h) 152 (0,0))) (i:Nat):w.frozen? ⟨g,i,none⟩=false:=Lib.frozen_of_heap H i
def Hr (B b g r:Nat) (L:List UInt8) (k:Nat) (er:Int) (hv:HeadV) (u w:World):Prop:=
 Rd b L k er w∧w.heap[g]?=some (.cells (qaN hv) 152 (0,0))∧w.heap[r]?=some (.cells (qaN qbE) 152 (0,0))∧Below B u w∧B≤b∧B≤g∧B≤r∧r≠g∧L.length=512
theorem Hr.bg {B b g r:Nat} {L:List UInt8} {k:Nat} {er:Int} {hv:HeadV} {u w:World} (H:Hr B b g r L k er hv u w):b≠g∧b≠r:=by
 have h1:=H.1;unfold Rd at h1;constructor
 ·rintro rfl;have h2:=H.2.1;rw [h1]at h2;injection h2 with e;injection e with _ e _;exact absurd e (by decide)
 ·rintro rfl;have h2:=H.2.2.1;rw [h1]at h2;injection h2 with e;injection e with _ e _;exact absurd e (by decide)
theorem Hr.size {B b g r:Nat} {L:List UInt8} {k:Nat} {er:Int} {hv:HeadV} {u w:World} (H:Hr B b g r L k er hv u w):B≤w.heap.size:=by
 have:=qtU H.1;have:=H.2.2.2.2.1;omega
theorem Hr.next {B b g r:Nat} {L:List UInt8} {k k2:Nat} {er er2:Int} {hv:HeadV} {u w w':World} (H:Hr B b g r L k er hv u w) (h1:Rd b L k2 er2 w') (hb:Bel B w w'):Hr B b g r L k2 er2 hv u w':=
 ⟨h1,hb.2 _ _ _ H.2.1,hb.2 _ _ _ H.2.2.1,H.2.2.2.1.trans hb.1,H.2.2.2.2⟩
theorem Hr.set {B b g r:Nat} {L:List UInt8} {k:Nat} {er:Int} {hv:HeadV} {u w:World} (H:Hr B b g r L k er hv u w) (i:Nat) (v:Value) (hv':HeadV) (he:qaN hv'=(qaN hv).setIfInBounds i v):Hr B b g r L k er hv' u (w.setCell ⟨g,i,none⟩ v):=by
 obtain ⟨n1,n2⟩:=H.bg;obtain ⟨h1,h2,h3,hb,x⟩:=H;refine ⟨?_,?_,?_,hb.setCell (p:=⟨g,i,none⟩) x.2.1 _,x⟩
 ·unfold Rd at h1⊢;rw [Below.heap_setCell _ _ _ _ (by show b≠g;exact n1)];exact h1
 ·rw [he];simp [World.setCell,Array.getElem?_modify,h2]
 ·rw [Below.heap_setCell _ _ _ _ (by show r≠g;exact x.2.2.2.1)];exact h3
theorem Hr.at {B b g r:Nat} {L:List UInt8} {k:Nat} {er:Int} {hv:HeadV} {u w:World} (H:Hr B b g r L k er hv u w) (i:Nat) (hi:i<11): ∃v,w.cell? ⟨g,i,none⟩=some v∧w.frozen? ⟨g,i,none⟩=false:=by
 have hs:(qaN hv).size=11:=rfl;exact ⟨(qaN hv)[i],by rw [Lib.cell_of_heap H.2.1];exact Array.getElem?_eq_getElem (by omega),Lib.frozen_of_heap H.2.1 i⟩
theorem quN {B b g r:Nat} {L:List UInt8} {k:Nat} {er:Int} {hv:HeadV} {u w:World} (H:Hr B b g r L k er hv u w) (n m:Nat) (wh:Bool) (hm:k+n=m) (hl:m≤512):
  Calls Tryz.prog 290 #[.pointer (some ⟨b,0,none⟩),.int .i64 (n:Int),.bool wh] w fun e w'=>e= .returned (.string (bs (rdS L k m wh)))∧Hr B b g r L m (qcO er (fldR (sl L k m) wh).2) hv u w':=by
 subst hm;have hL:=H.2.2.2.2.2.2.2.2;refine (rText B b L k n er wh w H.1 H.2.2.2.2.1 (by omega) (by omega) H.size).mono ?_;rintro e w' ⟨rfl,h1,hb⟩;exact ⟨rfl,H.next h1 hb⟩
theorem qf1 {B b g r:Nat} {L:List UInt8} {k:Nat} {er:Int} {hv:HeadV} {u w:World} (H:Hr B b g r L k er hv u w) (n m:Nat) (hm:k+n=m) (hl:m≤512):
  Calls Tryz.prog 291 #[.pointer (some ⟨b,0,none⟩),.int .i64 (n:Int)] w fun e w'=>e= .returned (.int .i64 (octR (sl L k m)).1)∧Hr B b g r L m (qcO er (octR (sl L k m)).2) hv u w':=by
 subst hm;have hL:=H.2.2.2.2.2.2.2.2;refine (rNumber B b L k n er w H.1 H.2.2.2.2.1 (by omega) (by omega) H.size).mono ?_;rintro e w' ⟨rfl,h1,hb⟩;exact ⟨rfl,H.next h1 hb⟩
theorem qy8 {B b g r:Nat} {L:List UInt8} {k:Nat} {er:Int} {hv:HeadV} {u w:World} (H:Hr B b g r L k er hv u w) (n m:Nat) (T:ByteArray) (hm:k+n=m) (hl:m≤512) (hT:Hid (bs (sl L k m)=T)):
  Calls Tryz.prog 292 #[.pointer (some ⟨b,0,none⟩),.int .i64 (n:Int)] w fun e w'=>e= .returned (.string T)∧Hr B b g r L m er hv u w':=by
 subst hm;rw [←hT.out];have hL:=H.2.2.2.2.2.2.2.2;refine (rTake B b L k n er w H.1 H.2.2.2.2.1 (by omega) (by omega)).mono ?_;rintro e w' ⟨rfl,h1,hb⟩;exact ⟨rfl,H.next h1 hb⟩
theorem qg0 {B b g r:Nat} {L:List UInt8} {k:Nat} {er:Int} {hv:HeadV} {u w:World} (H:Hr B b g r L k er hv u w) (c:Bool):
  Calls Tryz.prog 293 #[.pointer (some ⟨b,0,none⟩),.bool c] w fun e w'=>e= .returned (.tuple #[])∧Hr B b g r L k (qcO er (bad c)) hv u w':=by
 refine (zaI B b L k er c w H.1 H.2.2.2.2.1).mono ?_;rintro e w' ⟨rfl,h1,hb⟩;exact ⟨rfl,H.next h1 hb⟩
def Fin (B b:Nat) (L:List UInt8) (er:Int) (u w:World):Prop:=Rd b L 512 er w∧Below B u w
theorem Fin.set {B b r i:Nat} {L:List UInt8} {er:Int} {u w:World} (H:Fin B b L er u w) (hne:b≠r) (hB:B≤r) (v:Value):Fin B b L er u (w.setCell ⟨r,i,none⟩ v):=by
 refine ⟨?_,H.2.setCell (p:=⟨r,i,none⟩) hB _⟩;have h1:=H.1;unfold Rd at h1⊢;rw [Below.heap_setCell _ _ _ _ (by show b≠r;exact hne)];exact h1
set_option maxHeartbeats 4000000 in
theorem rHead (b:Nat) (L:List UInt8) (w:World) (h:Rd b L 0 0 w) (hL:L.length=512):
  Calls Tryz.prog 248 #[.pointer (some ⟨b,0,none⟩)] w fun e w'=>e= .returned (.agg (qaN (qiC L)))∧Fin b b L (qb8 (qxU L)) w w':=by
 have hlt:=qtU h;have hS1:Hid (bs (sl L 156 157)=⟨#[L.getD 156 0]⟩):=by unfold Hid;rw [sl_one L hL];rfl
 obtain ⟨T0,hT0⟩:=qaA (bs (sl L 148 156));obtain ⟨T1,hT1⟩:=qaA (bs (sl L 257 265));obtain ⟨T2,hT2⟩:=qaA (bs (sl L 500 512))
 have H0:Hid (Hr b b (w.heap.size+1) w.heap.size L 0 0 qbE w ((w.alloc (.cells #[.string ⟨#[]⟩,.string ⟨#[]⟩,.string ⟨#[]⟩,.int .i64 0,.int .i64 0,.int .i64 0,.int .i64 0,.int .i64 0,.int .u8 0,.string ⟨#[]⟩,.string ⟨#[]⟩] 152)).alloc (.cells #[.string ⟨#[]⟩,.string ⟨#[]⟩,.string ⟨#[]⟩,.int .i64 0,.int .i64 0,.int .i64 0,.int .i64 0,.int .i64 0,.int .u8 0,.string ⟨#[]⟩,.string ⟨#[]⟩] 152))):=by
  have e0:=heap_alloc_new w (.cells (qaN qbE) 152);have e1:=heap_alloc_new (w.alloc (.cells (qaN qbE) 152)) (.cells (qaN qbE) 152);have hz:(w.alloc (.cells (qaN qbE) 152)).heap.size=w.heap.size+1:=by simp
  rw [hz]at e1;have b1:Below b w (w.alloc (.cells (qaN qbE) 152)):=(Below.refl b w).alloc (by omega) _;unfold Hid;change Hr b b (w.heap.size+1) w.heap.size L 0 0 qbE w ((w.alloc (.cells (qaN qbE) 152)).alloc (.cells (qaN qbE) 152));exact ⟨(Lib.alloc_old _ _ _ (by omega)).trans ((Lib.alloc_old _ _ _ hlt).trans h),e1,(Lib.alloc_old _ _ _ (by omega)).trans e0,b1.alloc (by omega) _,Nat.le_refl _,by omega,by omega,by omega,hL⟩
 clear h hlt;have HL:=Lib.hid hL;clear hL;go_enter Tryz.func248,Tryz.ntmps248;go_upto_region 2 with fail
 obtain ⟨w0,W0⟩: ∃w0,w0=(w.alloc (.cells #[.string ⟨#[]⟩,.string ⟨#[]⟩,.string ⟨#[]⟩,.int .i64 0,.int .i64 0,.int .i64 0,.int .i64 0,.int .i64 0,.int .u8 0,.string ⟨#[]⟩,.string ⟨#[]⟩] 152)).alloc (.cells #[.string ⟨#[]⟩,.string ⟨#[]⟩,.string ⟨#[]⟩,.int .i64 0,.int .i64 0,.int .i64 0,.int .i64 0,.int .i64 0,.int .u8 0,.string ⟨#[]⟩,.string ⟨#[]⟩] 152):=⟨_,rfl⟩;rw [←W0]at H0⊢;have G0:=H0.out;clear H0 W0;go_wp2_with fail;refine (quN G0 100 100 true rfl (by omega)).mono ?_;rintro e w1 ⟨rfl,K1⟩;clear G0;obtain ⟨v,c,f⟩:=K1.at 0 (by omega);have G1:=K1.set 0 (.string (bs (rdS L 0 100 true))) (hq1 L) rfl;clear K1;go_wp2_with fail;refine (qf1 G1 8 108 rfl (by omega)).mono ?_;rintro e w2 ⟨rfl,K2⟩;clear G1 c f v;obtain ⟨v,c,f⟩:=K2.at 3 (by omega);have G2:=K2.set 3 (.int .i64 (octR (sl L 100 108)).1) (hq2 L) rfl;clear K2;go_wp2_with fail;refine (qf1 G2 8 116 rfl (by omega)).mono ?_;rintro e w3 ⟨rfl,K3⟩;clear G2 c f v;obtain ⟨v,c,f⟩:=K3.at 4 (by omega);have G3:=K3.set 4 (.int .i64 (octR (sl L 108 116)).1) (hq3 L) rfl;clear K3;go_wp2_with fail;refine (qf1 G3 8 124 rfl (by omega)).mono ?_;rintro e w4 ⟨rfl,K4⟩;clear G3 c f v;obtain ⟨v,c,f⟩:=K4.at 5 (by omega);have G4:=K4.set 5 (.int .i64 (octR (sl L 116 124)).1) (hq4 L) rfl;clear K4;go_wp2_with fail;refine (qf1 G4 12 136 rfl (by omega)).mono ?_;rintro e w5 ⟨rfl,K5⟩;clear G4 c f v;obtain ⟨v,c,f⟩:=K5.at 6 (by omega);have G5:=K5.set 6 (.int .i64 (octR (sl L 124 136)).1) (hq5 L) rfl;clear K5;go_wp2_with fail
 refine (qf1 G5 12 148 rfl (by omega)).mono ?_;rintro e w6 ⟨rfl,K6⟩;clear G5 c f v;obtain ⟨v,c,f⟩:=K6.at 7 (by omega);have G6:=K6.set 7 (.int .i64 (octR (sl L 136 148)).1) (hq6 L) rfl;clear K6;go_wp2_with fail;refine (qy8 G6 8 156 T0 rfl (by omega) hT0).mono ?_;rintro e w7 ⟨rfl,G7⟩;clear G6 c f v;go_wp2_with fail;refine (qy8 G7 1 157 ⟨#[L.getD 156 0]⟩ rfl (by omega) hS1).mono ?_;rintro e w8 ⟨rfl,K8⟩;clear G7;obtain ⟨v,c,f⟩:=K8.at 8 (by omega);have G8:=K8.set 8 (.int .u8 ((L.getD 156 0).toNat:Int)) (hq7 L) rfl;clear K8;obtain ⟨x,hx⟩: ∃x,x=L.getD 156 0:=⟨_,rfl⟩;rw [←hx]at G8⊢;have HX:=Lib.hid hx;clear hx;go_wp2_with fail;refine (qkM x _ _ rfl).mono ?_;rintro e w' ⟨rfl,rfl⟩;go_wp2_with fail;refine (qg0 G8 _).mono ?_;rintro e w9 ⟨rfl,G9⟩;clear G8 c f v;go_wp2_with fail;refine (quN G9 100 257 true rfl (by omega)).mono ?_;rintro e w10 ⟨rfl,K10⟩;clear G9;obtain ⟨v,c,f⟩:=K10.at 2 (by omega);have G10:=K10.set 2 (.string (bs (rdS L 157 257 true))) (hq8 L) rfl;clear K10;go_wp2_with fail;refine (qy8 G10 8 265 T1 rfl (by omega) hT1).mono ?_;rintro e w11 ⟨rfl,G11⟩;clear G10 c f v;go_wp2_with fail;refine (qg0 G11 _).mono ?_;rintro e w12 ⟨rfl,G12⟩;clear G11;go_wp2_with fail;refine (quN G12 32 297 false rfl (by omega)).mono ?_;rintro e w13 ⟨rfl,K13⟩;clear G12;obtain ⟨v,c,f⟩:=K13.at 9 (by omega);have G13:=K13.set 9 (.string (bs (rdS L 265 297 false))) (hq9 L) rfl;clear K13;go_wp2_with fail;refine (quN G13 32 329 false rfl (by omega)).mono ?_;rintro e w14 ⟨rfl,K14⟩;clear G13 c f v
 obtain ⟨v,c,f⟩:=K14.at 10 (by omega);have G14:=K14.set 10 (.string (bs (rdS L 297 329 false))) (hqA L) rfl;clear K14;go_wp2_with fail;refine (qf1 G14 8 337 rfl (by omega)).mono ?_;rintro e w15 ⟨rfl,G15⟩;clear G14 c f v;go_wp2_with fail;refine (qg0 G15 _).mono ?_;rintro e w16 ⟨rfl,G16⟩;clear G15;go_wp2_with fail;refine (qf1 G16 8 345 rfl (by omega)).mono ?_;rintro e w17 ⟨rfl,G17⟩;clear G16;go_wp2_with fail;refine (qg0 G17 _).mono ?_;rintro e w18 ⟨rfl,G18⟩;clear G17;go_wp2_with fail;refine (quN G18 155 500 true rfl (by omega)).mono ?_;rintro e w19 ⟨rfl,K19⟩;clear G18;obtain ⟨v,c,f⟩:=K19.at 1 (by omega);have G19:=K19.set 1 (.string (bs (rdS L 345 500 true))) (hqB L) rfl;clear K19;go_wp2_with fail;refine (qy8 G19 12 512 T2 rfl (by omega) hT2).mono ?_;rintro e w20 ⟨rfl,G20⟩;clear G19 c f v;go_wp2_with fail;refine (qg0 G20 _).mono ?_;rintro e w21 ⟨rfl,G21⟩;clear G20;obtain ⟨c0,c1,c2,c3,c4,c5,c6,c7,c8,c9,cA⟩:=qbD G21.2.1;obtain ⟨q0,q1,q2,q3,q4,q5,q6,q7,q8,q9,qA⟩:=qbD G21.2.2.1;have f0:=qbP G21.2.2.1 0;have f1:=qbP G21.2.2.1 1;have f2:=qbP G21.2.2.1 2;have f3:=qbP G21.2.2.1 3;have f4:=qbP G21.2.2.1 4;have f5:=qbP G21.2.2.1 5;have f6:=qbP G21.2.2.1 6;have f7:=qbP G21.2.2.1 7;have f8:=qbP G21.2.2.1 8;have f9:=qbP G21.2.2.1 9;have fA:=qbP G21.2.2.1 10;have bE: ∀(er:Int),er=qb8 (qxU L)→Rd b L 512 er w21→Fin b b L (qb8 (qxU L)) w w21:=fun er e H=>⟨e▸H,G21.2.2.2.1⟩
 have HF:=Lib.hid (bE _ (by
  have q: ∀(T:ByteArray) (s c:List UInt8),Hid (bs s=T)→(T.toList==c)=decide (s=c):=fun T s c h=>by
   rw [←h.out,ByteArray.toList_eq,show (bs s).data.toList=s from rfl,Bool.eq_iff_iff];simp
  rw [q T1 _ _ hT1,q T2 _ _ hT2,HX.out]
  rfl) G21.1)
 have hbr:Hid (b≠w.heap.size):=G21.bg.2;have hBr:Hid (b≤w.heap.size):=G21.2.2.2.2.2.2.1;clear G21 bE;go_wp2_with fail;refine bodyPost_ret (v:= .agg #[.string (bs (hqB L).name),.string (bs (hqB L).pre),.string (bs (hqB L).link),.int .i64 (hqB L).mode,.int .i64 (hqB L).uid,.int .i64 (hqB L).gid,.int .i64 (hqB L).size,.int .i64 (hqB L).time,.int .u8 ((hqB L).typ.toNat:Int),.string (bs (hqB L).user),.string (bs (hqB L).group)]) (by simp [results,Tryz.results248,go_sem, *]) rfl ⟨rfl,?_⟩
 iterate 11 refine Fin.set ?_ hbr.out hBr.out _
 exact HF.out
def Rz (r:Nat) (u w:World):Prop:=w.heap[r]?=some (.cells (qaN qbE) 152 (0,0))∧Below r u w
theorem Rz.below {r:Nat} {u w w':World} (h:Rz r u w) (hb:Below w.heap.size w w'):Rz r u w':=
 ⟨(hb.block r (qtU h.1)).trans h.1,h.2.trans (hb.mono (Nat.le_of_lt (qtU h.1)))⟩
theorem Rz.drew {r:Nat} {u w:World} (h:Rz r u w):Rz r u w.drew:=⟨h.1,h.2.drew⟩
theorem Rz.new (w:World):Rz w.heap.size w (w.alloc (.cells (qaN qbE) 152)):=⟨heap_alloc_new w _,(Below.refl _ w).alloc (Nat.le_refl _) _⟩
theorem Rz.frozen {r:Nat} {u w:World} (h:Rz r u w) (i:Nat):w.frozen? ⟨r,i,none⟩=false:=Lib.frozen_of_heap h.1 i
def Bw (r:Nat) (u w:World):Prop:=Below r u w
theorem Bw.set {r i:Nat} {u w:World} (H:Bw r u w) (v:Value):Bw r u (w.setCell ⟨r,i,none⟩ v):=Below.setCell (p:=⟨r,i,none⟩) H (Nat.le_refl _) _
theorem Bw.drew {r:Nat} {u w:World} (H:Bw r u w):Bw r u w.drew:=Below.drew H
set_option maxHeartbeats 2000000 in
theorem q14 (s:ByteArray) (w:World) (hs:s.size≤maxLen) (h:s.size≠512):
  Calls Tryz.prog 207 #[.string s] w fun e w'=>e= .returned (.tuple #[.agg (qaN qbE),.int .i64 1])∧Below w.heap.size w w':=by
 have hl:s.data.toList.length=s.size:=by simp
 have HZ:=Lib.hid (Rz.new w);have HS:=Lib.hid (fun W=>qx4 s W hs);rw [q3V (by omega)]at HS;clear hl h;go_enter Tryz.func207,Tryz.ntmps207;go_wp2_with fail;refine (HS.out _).mono ?_;rintro e w1 ⟨rfl,hb1⟩;have H1:=(show Rz w.heap.size w _ from HZ.out).below hb1;obtain ⟨c0,c1,c2,c3,c4,c5,c6,c7,c8,c9,cA⟩:=qbD H1.1;have f0:=H1.frozen 0;have f1:=H1.frozen 1;have f2:=H1.frozen 2;have f3:=H1.frozen 3;have f4:=H1.frozen 4;have f5:=H1.frozen 5;have f6:=H1.frozen 6;have f7:=H1.frozen 7;have f8:=H1.frozen 8;have f9:=H1.frozen 9;have fA:=H1.frozen 10;have HB:Hid (Bw w.heap.size w w1):=H1.2;clear H1 hb1;go_wp2_with fail;refine bodyPost_ret (v:= .tuple #[.agg #[.string ⟨#[]⟩,.string ⟨#[]⟩,.string ⟨#[]⟩,.int .i64 0,.int .i64 0,.int .i64 0,.int .i64 0,.int .i64 0,.int .u8 0,.string ⟨#[]⟩,.string ⟨#[]⟩],.int .i64 1]) (by simp [results,Tryz.results207,go_sem, *]) rfl ⟨rfl,?_⟩;change Bw _ _ _
 iterate 11 refine Bw.set ?_ _
 exact HB.out
set_option maxHeartbeats 4000000 in
theorem zb3 (s:ByteArray) (w:World) (h:s.size=512):
  Calls Tryz.prog 207 #[.string s] w fun e w'=>e= .returned (.tuple #[.agg (qaN (qcM s.data.toList).1),.int .i64 (qcM s.data.toList).2])∧Below w.heap.size w w':=by
 have hl:s.data.toList.length=512:=by rw [←h];simp
 have HZ:=Lib.hid (Rz.new w);have HS:=Lib.hid (fun W=>qx4 s W (by unfold maxLen;omega));rw [qwC hl]at HS;have hlt:=qwD s.data.toList hl;obtain ⟨N,HN⟩:=qaA (sumH s.data.toList);rw [HN.out]at hlt HS;have HQ:=Lib.hid (fun W=>qk4 N W hlt);obtain ⟨C,HC⟩:=qaA (bs (ckL N));rw [HC.out]at HQ;obtain ⟨M,HM⟩: ∃M,M=s.extract 148 156:=⟨_,rfl⟩;obtain ⟨q,Hq⟩:=qaA (ckOk s.data.toList)
 have hq:(M.toList==C.toList)=q:=by
  rw [←Hq.out,HM,←HC.out,qo9,ckOk,HN.out];rw [decide_eq_decide];constructor
  ·intro e;have:=congrArg (fun x:ByteArray=>x.data.toList) e;simp only [qlK]at this;exact this
  ·intro e;apply ByteArray.ext;apply Array.toList_inj.1;rw [qlK];exact e
 have hq2:(M.toList !=C.toList)= !q:=by rw [bne,hq]
 have x1:s.extract 148 156=M:=HM.symm;have y1:156≤s.size:=by omega
 have y2:s.size≤512:=by omega
 have HL:=Lib.hid hl;clear hl h HM hlt;go_enter Tryz.func207,Tryz.ntmps207;go_wp2_with fail;refine (HS.out _).mono ?_;rintro e w1 ⟨rfl,hb1⟩;have H1:=(show Rz w.heap.size w _ from HZ.out).below hb1;clear hb1;go_upto_region 4 with fail
 go_cut [21] (fun s21 wx=>s21= .bool (!q)∧Rz w.heap.size w wx)
 case first=>
  go_region_with (go_at_call 236;refine (HQ.out _).mono ?_;rintro e w5 ⟨rfl,hb5⟩)
  all_goals
   go_wp2_with fail;go_meet;exact ⟨by first|rfl|rw [hq2],(Rz.drew H1).below hb5⟩
 case rest=>
  obtain ⟨rfl,G⟩:=hcut;clear x1 hq hq2 H1;obtain ⟨c0,c1,c2,c3,c4,c5,c6,c7,c8,c9,cA⟩:=qbD G.1;have f0:=G.frozen 0;have f1:=G.frozen 1;have f2:=G.frozen 2;have f3:=G.frozen 3;have f4:=G.frozen 4;have f5:=G.frozen 5;have f6:=G.frozen 6;have f7:=G.frozen 7;have f8:=G.frozen 8;have f9:=G.frozen 9;have fA:=G.frozen 10;have HB:Hid (Bw w.heap.size w wc):=G.2;cases q
  ·have HO:=Lib.hid (q6F HL.out Hq.out);clear G;go_wp2_with fail;refine bodyPost_ret (v:= .tuple #[.agg #[.string ⟨#[]⟩,.string ⟨#[]⟩,.string ⟨#[]⟩,.int .i64 0,.int .i64 0,.int .i64 0,.int .i64 0,.int .i64 0,.int .u8 0,.string ⟨#[]⟩,.string ⟨#[]⟩],.int .i64 8]) (by simp [results,Tryz.results207,go_sem, *]) rfl ⟨by rw [HO.out];rfl,?_⟩;change Bw _ _ _
   iterate 11 refine Bw.set ?_ _
   exact HB.out
  ·have hne:=qtU G.1
   have hR:Rd wc.heap.size s.data.toList 0 0 (wc.alloc (.cells #[.string s,.int .i64 0] 253)):=by
    have:=heap_alloc_new wc (.cells #[.string s,.int .i64 0] 253);unfold Rd;rw [List.drop_zero,qgJ];exact this
   have hG6:(wc.alloc (.cells #[.string s,.int .i64 0] 253)).heap[w.heap.size]?=some (.cells (qaN qbE) 152 (0,0)):=(Lib.alloc_old _ _ _ hne).trans G.1;have hB6:Below w.heap.size w (wc.alloc (.cells #[.string s,.int .i64 0] 253)):=G.2.alloc (by omega) _;have hH:=rHead wc.heap.size s.data.toList _ hR HL.out;obtain ⟨E,HE⟩:=qaA (qb8 (qxU s.data.toList));rw [HE.out]at hH;unfold qaN at hH;have HH:=Lib.hid hH;have HG6:=Lib.hid hG6;have HB6:=Lib.hid hB6;have HNe:=Lib.hid hne;clear hR hH hG6 hB6 hne c0 c1 c2 c3 c4 c5 c6 c7 c8 c9 cA f0 f1 f2 f3 f4 f5 f6 f7 f8 f9 fA G HB;go_wp2_with fail;refine HH.out.mono ?_;rintro e w6 ⟨rfl,hf⟩;have G6:Rz w.heap.size w w6:=⟨(hf.2.block w.heap.size HNe.out).trans HG6.out,HB6.out.trans (hf.2.mono (Nat.le_of_lt HNe.out))⟩;have hb6:=qtU hf.1;have hr6:=qtU G6.1;have ce:=hf.1.cells.2.1;have c1: ∀o,(w6.alloc o).cell? ⟨wc.heap.size,1,none⟩=some (.int .i64 E):=fun o=>by rw [World.cell?_alloc_old _ _ _ (by show wc.heap.size≠_;omega)];exact ce
   have hfz: ∀o i,(w6.alloc o).frozen? ⟨w.heap.size,i,none⟩=false:=fun o i=>Lib.frozen_of_heap ((Lib.alloc_old w6 o _ hr6).trans G6.1) i;have f0: ∀o,(w6.alloc o).frozen? ⟨w.heap.size,0,none⟩=false:=fun o=>hfz o 0;have f1: ∀o,(w6.alloc o).frozen? ⟨w.heap.size,1,none⟩=false:=fun o=>hfz o 1;have f2: ∀o,(w6.alloc o).frozen? ⟨w.heap.size,2,none⟩=false:=fun o=>hfz o 2;have f3: ∀o,(w6.alloc o).frozen? ⟨w.heap.size,3,none⟩=false:=fun o=>hfz o 3;have f4: ∀o,(w6.alloc o).frozen? ⟨w.heap.size,4,none⟩=false:=fun o=>hfz o 4;have f5: ∀o,(w6.alloc o).frozen? ⟨w.heap.size,5,none⟩=false:=fun o=>hfz o 5;have f6: ∀o,(w6.alloc o).frozen? ⟨w.heap.size,6,none⟩=false:=fun o=>hfz o 6;have f7: ∀o,(w6.alloc o).frozen? ⟨w.heap.size,7,none⟩=false:=fun o=>hfz o 7;have f8: ∀o,(w6.alloc o).frozen? ⟨w.heap.size,8,none⟩=false:=fun o=>hfz o 8;have f9: ∀o,(w6.alloc o).frozen? ⟨w.heap.size,9,none⟩=false:=fun o=>hfz o 9;have fA: ∀o,(w6.alloc o).frozen? ⟨w.heap.size,10,none⟩=false:=fun o=>hfz o 10;have hcz: ∀o,(w6.alloc o).heap[w.heap.size]?=some (.cells (qaN qbE) 152 (0,0)):=fun o=>(Lib.alloc_old w6 o _ hr6).trans G6.1;have k0: ∀o,(w6.alloc o).cell? ⟨w.heap.size,0,none⟩=some (.string (bs qbE.name)):=fun o=>(qbD (hcz o)).1;have k1: ∀o,(w6.alloc o).cell? ⟨w.heap.size,1,none⟩=some (.string (bs qbE.pre)):=fun o=>(qbD (hcz o)).2.1;have k2: ∀o,(w6.alloc o).cell? ⟨w.heap.size,2,none⟩=some (.string (bs qbE.link)):=fun o=>(qbD (hcz o)).2.2.1
   have k3: ∀o,(w6.alloc o).cell? ⟨w.heap.size,3,none⟩=some (.int .i64 qbE.mode):=fun o=>(qbD (hcz o)).2.2.2.1;have k4: ∀o,(w6.alloc o).cell? ⟨w.heap.size,4,none⟩=some (.int .i64 qbE.uid):=fun o=>(qbD (hcz o)).2.2.2.2.1;have k5: ∀o,(w6.alloc o).cell? ⟨w.heap.size,5,none⟩=some (.int .i64 qbE.gid):=fun o=>(qbD (hcz o)).2.2.2.2.2.1;have k6: ∀o,(w6.alloc o).cell? ⟨w.heap.size,6,none⟩=some (.int .i64 qbE.size):=fun o=>(qbD (hcz o)).2.2.2.2.2.2.1;have k7: ∀o,(w6.alloc o).cell? ⟨w.heap.size,7,none⟩=some (.int .i64 qbE.time):=fun o=>(qbD (hcz o)).2.2.2.2.2.2.2.1;have k8: ∀o,(w6.alloc o).cell? ⟨w.heap.size,8,none⟩=some (.int .u8 (qbE.typ.toNat:Int)):=fun o=>(qbD (hcz o)).2.2.2.2.2.2.2.2.1;have k9: ∀o,(w6.alloc o).cell? ⟨w.heap.size,9,none⟩=some (.string (bs qbE.user)):=fun o=>(qbD (hcz o)).2.2.2.2.2.2.2.2.2.1;have kA: ∀o,(w6.alloc o).cell? ⟨w.heap.size,10,none⟩=some (.string (bs qbE.group)):=fun o=>(qbD (hcz o)).2.2.2.2.2.2.2.2.2.2;have HB:Hid (∀o,Bw w.heap.size w (w6.alloc o)):=fun o=>G6.2.alloc (Nat.le_of_lt hr6) o;clear hf G6 hb6 hr6 ce hfz hcz HH
   by_cases h0:E=0
   ·subst h0;have HO:=Lib.hid (qzA HL.out Hq.out (by rw [←qn0 _ HL.out];exact HE.out));go_wp2_with fail;refine bodyPost_ret (v:= .tuple #[.agg #[.string (bs (qiC s.data.toList).name),.string (bs (qiC s.data.toList).pre),.string (bs (qiC s.data.toList).link),.int .i64 (qiC s.data.toList).mode,.int .i64 (qiC s.data.toList).uid,.int .i64 (qiC s.data.toList).gid,.int .i64 (qiC s.data.toList).size,.int .i64 (qiC s.data.toList).time,.int .u8 ((qiC s.data.toList).typ.toNat:Int),.string (bs (qiC s.data.toList).user),.string (bs (qiC s.data.toList).group)],.int .i64 0]) (by simp [results,Tryz.results207,go_sem, *]) rfl ⟨by rw [HO.out];rfl,?_⟩;change Bw _ _ _
    iterate 11 refine Bw.set ?_ _
    exact HB.out _
   ·have hb:(E !=0)=true:=by simpa using h0
    have HO:=Lib.hid (q6G HL.out Hq.out (by rw [←qn0 _ HL.out,HE.out];exact h0));have HO2:Hid (qb8 (qn1 s.data.toList)=E):=by unfold Hid;rw [←qn0 _ HL.out];exact HE.out
    have n1:wc.heap.size≠w.heap.size:=by have:=HNe.out;omega
    have n2:w.heap.size≠wc.heap.size:=by have:=HNe.out;omega
    clear h0;go_wp2_with fail
    go_region
    all_goals
     go_wp2_with fail;refine bodyPost_ret (v:= .tuple #[.agg #[.string ⟨#[]⟩,.string ⟨#[]⟩,.string ⟨#[]⟩,.int .i64 0,.int .i64 0,.int .i64 0,.int .i64 0,.int .i64 0,.int .u8 0,.string ⟨#[]⟩,.string ⟨#[]⟩],.int .i64 E]) (by simp [results,Tryz.results207,go_sem, *]) rfl ⟨by rw [HO.out,HO2.out];rfl,?_⟩;change Bw _ _ _
     repeat (first|(with_reducible refine Bw.drew ?_)|(with_reducible refine Bw.set ?_ _))
     exact HB.out _
theorem q6P (s:ByteArray) (w:World) (hs:s.size≤maxLen):
  Calls Tryz.prog 207 #[.string s] w fun e w'=>e= .returned (.tuple #[.agg (qaN (qcM s.data.toList).1),.int .i64 (qcM s.data.toList).2])∧Below w.heap.size w w':=by
 by_cases h:s.size=512
 ·exact zb3 s w h
 ·rw [q11 (by simpa using h)];exact q14 s w hs h
end Go.Proofs.YtapgoifimhnbdaaGreatDoor
