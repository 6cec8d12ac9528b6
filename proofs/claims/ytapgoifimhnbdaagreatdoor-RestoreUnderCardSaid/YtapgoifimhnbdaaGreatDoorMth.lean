/- qaX of one kind, in one file: Num, Blk, FldM, TiM, MetV, PthM, PrtM, SplM, NodM, NodN, LnkM, LnkN, EntM, NodO, CutM, StpM, RecM, RecN, PaxM, HedM, PadM, MemM, PaxN, HedN, MemN, MemO, RepM, Ptj, TreP, TreQ, GlbM, GlbN. -/
import Derived.Test.YtapgoifimhnbdaaGreatDoorRows
import Derived.WalkKit
import Derived.WalkSpells
import Derived.WalkLawsBesides
import Derived.Lib.Hide
import Derived.OpenShut
import Derived.Below
import Derived.Laws.Rows
import Derived.Lib.Bytealg
import Derived.Lib.SplitLaws
import Derived.Lib.LastIndexByte
import Derived.Lib.Join
import Derived.Lib.IndexBytes
import Derived.Lib.ItoaMem
import Derived.Lib.TrimByte
import Derived.Lib.AtoiTie
import Derived.Lib.Strings
import Derived.Lib.Repeat
set_option linter.unusedVariables false
namespace Go.Proofs.YtapgoifimhnbdaaGreatDoor
open Go.RowKit
theorem qaV {k:IntKind} {a b:Int} (h:a=b):Ending.returned (.int k a)= .returned (.int k b):=by rw [h]
theorem qaA {α:Type} (a:α): ∃b,Hid (a=b):=⟨a,rfl⟩
theorem qcA {a b:Bool} (h:a=b):Ending.returned (.bool a)= .returned (.bool b):=by rw [h]
theorem qo9 (a b:ByteArray):(a.toList==b.toList)=decide (a=b):=by
 rw [ByteArray.toList_eq,ByteArray.toList_eq,Bool.eq_iff_iff,beq_iff_eq,decide_eq_true_eq];exact ⟨fun h=>by apply ByteArray.ext;exact Array.toList_inj.1 h,fun h=>by rw [h]⟩
theorem qeY {k k':IntKind} {a b a' b':Int} (h:a=a') (h':b=b'):Ending.returned (.tuple #[.int k a,.int k' b])= .returned (.tuple #[.int k a',.int k' b']):=by rw [h,h']
theorem qfG {P:Program} {f:FuncId} {args:Array Value} {w:World} {v:Value} (h:Calls P f args w fun e w'=>e= .returned v∧w=w'):Calls P f args w fun e w'=>e= .returned v∧w'=w:=h.mono fun _ _ ⟨a,b⟩=>⟨a,b.symm⟩
def strLen:Value→Nat| .string b=>b.size|_=>0
theorem qq2 (a b:List UInt8):(⟨a.toArray⟩:ByteArray)++⟨b.toArray⟩=⟨(a++b).toArray⟩:=by
 apply ByteArray.ext;simp [ByteArray.data_append]
theorem qeL (l:List UInt8):(⟨l.toArray⟩:ByteArray).size=l.length:=rfl
theorem q0O {b:List UInt8} {k:IntKind} {n:Int} (s:ByteArray) (h:s=⟨b.toArray⟩):Ending.returned (.tuple #[.string s,.int k n])= .returned (.tuple #[.string ⟨b.toArray⟩,.int k n]):=by rw [h]
theorem qwM {s s':ByteArray} (h:s=s'):Ending.returned (.string s)= .returned (.string s'):=by rw [h]
theorem qcJ {s s':ByteArray} {k:IntKind} {n n':Int} (h:s=s') (h':n=n'):Ending.returned (.tuple #[.string s,.int k n])= .returned (.tuple #[.string s',.int k n']):=by rw [h,h']
def qeS (l:List UInt8):List Int:=l.map fun (c:UInt8)=>(c.toNat:Int)
def qaU (l:List UInt8):List Value:=(qeS l).map (Value.int .u8)
@[simp] theorem bInts_length (l:List UInt8):(qeS l).length=l.length:=by simp [qeS]
@[simp] theorem bCells_length (l:List UInt8):(qaU l).length=l.length:=by simp [qaU]
theorem q2T (l:List UInt8) (i:Nat) (c:UInt8):(qaU l).set i (.int .u8 (c.toNat:Int))=qaU (l.set i c):=by
 simp [qaU,qeS,List.map_set]
theorem qeE (a b:List UInt8):qaU (a++b)=qaU a++qaU b:=by simp [qaU,qeS]
theorem qkE (n:Nat):(madeCells #[Value.int .u8 0] n).toList=qaU (List.replicate n 0):=by
 apply List.ext_getElem
 ·simp [madeCells]
 ·intro i h1 h2;simp [madeCells,qaU,qeS,Nat.mod_one]
theorem qmD (l:List UInt8):strOfNums (qeS l)=⟨l.toArray⟩:=by
 simp only [strOfNums,qeS,List.map_map]
 congr 1
 have:((fun n:Int=>UInt8.ofNat n.toNat) ∘fun c:UInt8=>(c.toNat:Int))=id:=by funext c;simp
 rw [this,List.map_id]
theorem qeJ (l:List UInt8) (j:Nat) (h:j<l.length):(qaU l)[j]?=some (.int .u8 ((qeS l).getD j 0)):=by
 simp [qaU,qeS,h]
theorem qmJ {P:Program} {w:World} {base e:Nat} {g n cap:Nat} {l:List UInt8} (h:w.ownsRow base e 1 (.slice (some ⟨g,0,none⟩) n cap) n (qaU l))
  (src e' dst:TypeId) (hs:P.underlying src=some (.slice e')) (he:P.underlying e'=some (.int .u8)) (hd:P.underlying dst=some .string):
  (convert src dst (.slice (some ⟨g,0,none⟩) n cap)).run P w= .ok (.string ⟨l.toArray⟩) w:=by
 have hl:l.length=n:=by have:=h.1;simpa using this
 rw [←qmD];refine run_convert_bytes_arg w src e' hs he g 0 n cap (qeS l) (by simpa using hl) (fun i hi=> ?_) dst hd;rw [Nat.zero_add,h.cellAt i (by omega),qeJ _ _ (by omega)]
def wOk (x:Int):Bool:=decide (2≤x∧x≤12)
theorem q28 {x:Int} (h:2≤x∧x≤12):wOk x=true:=by simp [wOk,h]
theorem qs5 {x:Int} (h: ¬(2≤x∧x≤12)):wOk x=false:=by simp only [wOk,decide_eq_false_iff_not];exact h
theorem split12 {x:Int} (h:2≤x∧x≤12):x=2∨x=3∨x=4∨x=5∨x=6∨x=7∨x=8∨x=9∨x=10∨x=11∨x=12:=by omega
def most (x:Int):Int:=8^(x.toNat-1) -1
theorem pow8_le (k:Nat) (h:k≤11):(8:Int) ^k≤8589934592:=by
 have:(8:Nat) ^k≤8^11:=Nat.pow_le_pow_right (by omega) h;have e:((8:Nat) ^k:Nat)=((8:Int) ^k):=by simp
 omega
theorem most_le {x:Int} (h:x≤12):most x≤8589934592:=by
 have:=pow8_le (x.toNat-1) (by omega);unfold most;omega
theorem qe7 (s:ByteArray) (k:Nat) (h:k<s.size):s.data.toList.take (k+1)=s.data.toList.take k++ [s[k]]:=by
 rw [List.take_succ_eq_append_getElem (by simpa using h)];rfl
theorem q88 (c:UInt8):c.toNat<256:=c.toNat_lt
def digL (l:List UInt8):Bool:=l.all fun c=>decide (48≤c.toNat∧c.toNat≤55)
def qdF (l:List UInt8):Nat:=l.foldl (fun a c=>a*8+(c.toNat-48)) 0
theorem qfX (l:List UInt8) (c:UInt8):qdF (l++ [c])=qdF l*8+(c.toNat-48):=by simp [qdF]
theorem qoA (l:List UInt8) (c:UInt8):digL (l++ [c])=(digL l&&decide (48≤c.toNat∧c.toNat≤55)):=by simp [digL,List.all_append]
theorem qq5 {p:List UInt8→Prop} (h0:p []) (h1: ∀l c,p l→p (l++ [c])) (l:List UInt8):p l:=by
 have: ∀r:List UInt8,p r.reverse:=by
  intro r
  induction r with
  |nil=>exact h0
  |cons c r ih=>rw [List.reverse_cons];exact h1 _ _ ih
 simpa using this l.reverse
theorem q5G (l:List UInt8) (h:digL l=true):qdF l<8^l.length:=by
 revert h
 refine qq5 (p:=fun l=>digL l=true→qdF l<8^l.length) (fun _=>by simp [qdF]) (fun l c ih h=> ?_) l;rw [qoA,Bool.and_eq_true,decide_eq_true_eq]at h;have:=ih h.1;rw [qfX,List.length_append,List.length_singleton,Nat.pow_succ];omega
def octR (l:List UInt8):Int×Int:=
 if 2≤l.length∧l.length≤12 then
  if digL (l.take (l.length-1))=true∧l.getD (l.length-1) 1=0 then (qdF (l.take (l.length-1)),0)else (0,3)
 else (0,4)
def D (n:Nat):Nat→List UInt8
 |0=> []
 |j+1=>UInt8.ofNat (48+n/8^j%8)::D n j
@[simp] theorem D_length (n j:Nat):(D n j).length=j:=by induction j with
 |zero=>rfl
 |succ j ih=>simp [D,ih]
theorem D_succ (m k q:Nat) (h:m/8^k=q):D m (k+1)=UInt8.ofNat (48+q%8)::D m k:=by rw [D,h]
theorem zcE (m k q:Nat) (h:m/8^k=q):m/8^(k+1)=q/8:=by rw [Nat.pow_succ,←Nat.div_div_eq_div_mul,h]
def buf (m y k:Nat):List UInt8:=List.replicate (y-1-k) 0++D m k++ [0]
theorem q8A (m y:Nat) (h:1≤y):(madeCells #[Value.int .u8 0] y).toList=qaU (buf m y 0):=by
 obtain ⟨z,rfl⟩: ∃z,y=z+1:=⟨y-1,by omega⟩;rw [qkE];simp [buf,D,List.replicate_succ']
theorem buf_set (m y k q j:Nat) (hq:m/8^k=q) (hj:j+k+1=y) (h1:1≤j):(qaU (buf m y k)).set (j-1) (.int .u8 (48+(q:Int) %8))=qaU (buf m y (k+1)):=by
 obtain ⟨i,rfl⟩: ∃i,j=i+1:=⟨j-1,by omega⟩;have e1:y-1-k=i+1:=by omega
 have e2:y-1-(k+1)=i:=by omega
 have e3:(48+(q:Int) %8)=((UInt8.ofNat (48+q%8)).toNat:Int):=by rw [UInt8.toNat_ofNat'];omega
 rw [e3,q2T];simp only [buf,e1,e2,D_succ _ _ _ hq,List.replicate_succ',List.append_assoc,Nat.add_sub_cancel];rw [List.set_append_right _ _ (by simp)];simp
theorem buf_end (m y:Nat):buf m y (y-1)=D m (y-1)++ [0]:=by simp [buf]
def pick (n m:Int):Int:=(if n<0 then-(n+1)else n) %m
theorem qbG (n m:Int) (h:1≤m):0≤pick n m∧pick n m<m:=by
 unfold pick;exact ⟨Int.emod_nonneg _ (by omega),Int.emod_lt_of_pos _ (by omega)⟩
def octW (n x:Int):ByteArray×Int:=if 2≤x∧x≤12∧0≤n∧n≤most x then (⟨(D n.toNat (x.toNat-1)++ [0]).toArray⟩,0)else (⟨#[]⟩,4)
def q5N (x:Int):Int×Int:=if 2≤x∧x≤12 then (most x,0)else (0,4)
theorem qlZ {n x:Int} (h:2≤x∧x≤12) (h':0≤n∧n≤most x):octW n x=(⟨(D n.toNat (x.toNat-1)++ [0]).toArray⟩,0):=if_pos ⟨h.1,h.2,h'.1,h'.2⟩
theorem qw0 {n x:Int} (h: ¬(2≤x∧x≤12∧0≤n∧n≤most x)):octW n x=(⟨#[]⟩,4):=if_neg h
theorem quT (s:ByteArray) (k:Nat) (h:k<s.size) (d:UInt8):s.data.toList.getD k d=s[k]:=by
 have:k<s.data.toList.length:=by simpa using h
 rw [List.getD_eq_getElem?_getD,List.getElem?_eq_getElem this];rfl
theorem za4 {l:List UInt8} (h: ¬(2≤l.length∧l.length≤12)):octR l=(0,4):=if_neg h
theorem qrL {l:List UInt8} (h1:2≤l.length∧l.length≤12) (h2:digL (l.take (l.length-1))=true) (h3:l.getD (l.length-1) 1=0):octR l=((qdF (l.take (l.length-1)):Int),0):=by
 unfold octR;rw [if_pos h1,if_pos ⟨h2,h3⟩]
theorem qw2 {l:List UInt8} (h1:2≤l.length∧l.length≤12) (h2: ¬(digL (l.take (l.length-1))=true∧l.getD (l.length-1) 1=0)):octR l=(0,3):=by
 unfold octR;rw [if_pos h1,if_neg h2]
theorem qn9 (l:List UInt8) (k n:Nat) (h:k≤n) (hd:digL (l.take k)=false):digL (l.take n)=false:=by
 have e:l.take n=l.take k++(l.take n).drop k:=by
  conv=>lhs;rw [←List.take_append_drop k (l.take n)]
  rw [List.take_take,Nat.min_eq_left h]
 rw [e];simp only [digL,List.all_append]at*;rw [hd];rfl
theorem qm8 (c:UInt8) (l:List UInt8):qdF (c::l)=(c.toNat-48)*8^l.length+qdF l:=by
 refine qq5 (p:=fun l=>qdF (c::l)=(c.toNat-48)*8^l.length+qdF l) (by simp [qdF]) (fun l d ih=> ?_) l;rw [←List.cons_append,qfX,ih,qfX,List.length_append,List.length_singleton,Nat.pow_succ,Nat.add_mul,Nat.mul_assoc];omega
theorem qn8 (r:Nat) (h:r<8):(UInt8.ofNat (48+r)).toNat=48+r:=by rw [UInt8.toNat_ofNat'];omega
theorem za3 (m j:Nat):qdF (D m j)=m%8^j:=by
 induction j with
 |zero=>simp [D,qdF,Nat.mod_one]
 |succ j ih=>
  rw [D,qm8,ih,D_length,qn8 _ (Nat.mod_lt _ (by omega)),Nat.pow_succ,Nat.mod_mul,Nat.add_comm,Nat.mul_comm,Nat.add_sub_cancel_left]
theorem digL_D (m j:Nat):digL (D m j)=true:=by
 induction j with
 |zero=>rfl
 |succ j ih=>
  have:=Nat.mod_lt (m/8^j) (show 0<8 by omega);simp only [digL,D,List.all_cons]at*;rw [ih,qn8 _ this];simp;omega
theorem octR_D (m j:Nat) (h1:1≤j) (h2:j≤11) (h:m<8^j):octR (D m j++ [0])=((m:Int),0):=by
 have hl:(D m j++ [0]).length=j+1:=by simp
 have ht:(D m j++ [0]).take ((D m j++ [0]).length-1)=D m j:=by rw [hl];simp
 rw [qrL (by omega) (by rw [ht];exact digL_D m j) (by rw [hl];simp),ht,za3,Nat.mod_eq_of_lt h]
theorem zbB (x:Int) (h:2≤x) (n:Int) (h0:0≤n) (hn:n≤most x):n.toNat<8^(x.toNat-1):=by
 have e:(8:Int) ^(x.toNat-1)=((8^(x.toNat-1):Nat):Int):=by simp
 unfold most at hn;omega
end Go.Proofs.YtapgoifimhnbdaaGreatDoor
set_option maxRecDepth 100000
namespace Go.Proofs.YtapgoifimhnbdaaGreatDoor
open Go.RowKit
open Go.OpenShut
structure RawV where
 kind:Int
 a:Int
 b:Int
 text:ByteArray
def rawC (r:RawV):List Value:= [.int .i64 r.kind,.int .i64 r.a,.int .i64 r.b,.string r.text]
def RawV.wf (r:RawV):Prop:=(Lit.int .i64 r.kind).wf=true∧(Lit.int .i64 r.a).wf=true∧(Lit.int .i64 r.b).wf=true∧r.text.size≤140737488351232
def Blk (w:World) (g:Nat) (t:TypeId) (cs:Array Value):Prop:=w.heap[g]?=some (.cells cs t (0,0))
section
variable {w w':World} {g:Nat} {t:TypeId} {cs:Array Value}
theorem Blk.lt (h:Blk w g t cs):g<w.heap.size:=by
 rcases Nat.lt_or_ge g w.heap.size with hlt|hge
 ·exact hlt
 ·unfold Blk at h;rw [Array.getElem?_eq_none hge]at h;cases h
theorem Blk.cell (h:Blk w g t cs) (i:Nat):w.cell? ⟨g,i,none⟩=cs[i]?:=cell_of_row w g i cs t (0,0) h
theorem Blk.frozen (h:Blk w g t cs) (i:Nat):w.frozen? ⟨g,i,none⟩=false:=by
 unfold Blk at h;simp [World.frozen?,h]
theorem Blk.new (w:World) (t:TypeId) (cs:Array Value):Blk (w.alloc (.cells cs t)) w.heap.size t cs:=heap_alloc_new w _
theorem Blk.drewN (h:Blk w g t cs) (n:Nat):Blk (w.drewN n) g t cs:=h
theorem Blk.drew_ (h:Blk w g t cs):Blk w.drew g t cs:=h
theorem Blk.alloc (h:Blk w g t cs) (o:Obj):Blk (w.alloc o) g t cs:=(Below.heap_alloc w o g h.lt).trans h
theorem Blk.set_ (h:Blk w g t cs) (i:Nat) (u:Value):Blk (w.setCell ⟨g,i,none⟩ u) g t (cs.setIfInBounds i u):=by
 unfold Blk at h⊢;simp [World.setCell,Array.getElem?_modify,h]
theorem Blk.far (h:Blk w g t cs) {p:Addr} (hp:g≠p.block) (u:Value):Blk (w.setCell p u) g t cs:=(Below.heap_setCell w p u g hp).trans h
theorem Blk.below {B:Nat} (h:Blk w g t cs) (hb:Below B w w') (hg:g<B):Blk w' g t cs:=(hb.block g hg).trans h
theorem Blk.grown {row:Option Nat} (h:Blk w g t cs) (hb:w.grownBy w' row) (hg:some g≠row):Blk w' g t cs:=(hb.block g h.lt hg).trans h
theorem Blk.ne_ {g':Nat} {t':TypeId} {cs':Array Value} (h:Blk w g t cs) (h':Blk w g' t' cs') (hne:t≠t'):g≠g':=by
 rintro rfl;unfold Blk at h h';rw [h]at h';injection h' with h'
 injection h' with _ ht
 exact hne ht
end
theorem Blk.swap {w:World} {g:Nat} {t t0:TypeId} {cs c0:Array Value} (h:Blk (w.alloc (.cells c0 t0)) g t cs) (hne:t≠t0) (o:Obj):Blk (w.alloc o) g t cs:=by
 have hg:g≠w.heap.size:=Blk.ne_ h (Blk.new w t0 c0) hne;have hlt:g<w.heap.size:=by have:=h.lt;simp at this;omega
 unfold Blk at*;rw [Below.heap_alloc w _ g hlt]at*;exact h
theorem ne_two (n:Nat):n≠n+1+1:=by omega
theorem Blk.far7 {w:World} {g g':Nat} {t:TypeId} {cs:Array Value} (h:Blk w g t cs) (hne:g≠g') (v0 v1 v2 v3 v4 v5 v6:Value):
  Blk (((((((w.setCell ⟨g',0,none⟩ v0).setCell ⟨g',1,none⟩ v1).setCell ⟨g',2,none⟩ v2).setCell ⟨g',3,none⟩ v3).setCell ⟨g',4,none⟩ v4).setCell ⟨g',5,none⟩ v5).setCell ⟨g',6,none⟩ v6) g t cs:=
 ((((((h.far (p:=⟨g',0,none⟩) hne v0).far (p:=⟨g',1,none⟩) hne v1).far (p:=⟨g',2,none⟩) hne v2).far (p:=⟨g',3,none⟩) hne v3).far (p:=⟨g',4,none⟩) hne v4).far (p:=⟨g',5,none⟩) hne v5).far (p:=⟨g',6,none⟩) hne v6
theorem Below.set7 {B:Nat} {a w:World} (h:Below B a w) {g:Nat} (hB:B≤g) (v0 v1 v2 v3 v4 v5 v6:Value):
  Below B a (((((((w.setCell ⟨g,0,none⟩ v0).setCell ⟨g,1,none⟩ v1).setCell ⟨g,2,none⟩ v2).setCell ⟨g,3,none⟩ v3).setCell ⟨g,4,none⟩ v4).setCell ⟨g,5,none⟩ v5).setCell ⟨g,6,none⟩ v6):=
 ((((((h.setCell (p:=⟨g,0,none⟩) hB v0).setCell (p:=⟨g,1,none⟩) hB v1).setCell (p:=⟨g,2,none⟩) hB v2).setCell (p:=⟨g,3,none⟩) hB v3).setCell (p:=⟨g,4,none⟩) hB v4).setCell (p:=⟨g,5,none⟩) hB v5).setCell (p:=⟨g,6,none⟩) hB v6
theorem Below.set1 {B:Nat} {a w:World} (h:Below B a w) {g:Nat} (hB:B≤g) (i:Nat) (v:Value):Below B a (w.setCell ⟨g,i,none⟩ v):=h.setCell (p:=⟨g,i,none⟩) hB v
theorem blk4 {w:World} {g t:Nat} {a0 a1 a2 a3:Value} (h:Blk w g t #[a0,a1,a2,a3]):w.cell? ⟨g,0,none⟩=some a0∧w.cell? ⟨g,1,none⟩=some a1∧w.cell? ⟨g,2,none⟩=some a2∧w.cell? ⟨g,3,none⟩=some a3:=
 ⟨h.cell 0,h.cell 1,h.cell 2,h.cell 3⟩
theorem blk7 {w:World} {g t:Nat} {a0 a1 a2 a3 a4 a5 a6:Value} (h:Blk w g t #[a0,a1,a2,a3,a4,a5,a6]):
  (w.cell? ⟨g,0,none⟩=some a0∧w.cell? ⟨g,1,none⟩=some a1∧w.cell? ⟨g,2,none⟩=some a2∧w.cell? ⟨g,3,none⟩=some a3∧w.cell? ⟨g,4,none⟩=some a4∧w.cell? ⟨g,5,none⟩=some a5∧w.cell? ⟨g,6,none⟩=some a6)∧
  (w.frozen? ⟨g,0,none⟩=false∧w.frozen? ⟨g,1,none⟩=false∧w.frozen? ⟨g,2,none⟩=false∧w.frozen? ⟨g,3,none⟩=false∧w.frozen? ⟨g,4,none⟩=false∧w.frozen? ⟨g,5,none⟩=false∧w.frozen? ⟨g,6,none⟩=false):=
 ⟨⟨h.cell 0,h.cell 1,h.cell 2,h.cell 3,h.cell 4,h.cell 5,h.cell 6⟩,h.frozen 0,h.frozen 1,h.frozen 2,h.frozen 3,h.frozen 4,h.frozen 5,h.frozen 6⟩
theorem qbC {w:World} {g t:Nat} {a0 a1 a2 a3 a4 a5 a6 a7 a8 a9 a10 a11:Value} (h:Blk w g t #[a0,a1,a2,a3,a4,a5,a6,a7,a8,a9,a10,a11]):
  (w.cell? ⟨g,0,none⟩=some a0∧w.cell? ⟨g,1,none⟩=some a1∧w.cell? ⟨g,2,none⟩=some a2∧w.cell? ⟨g,3,none⟩=some a3∧w.cell? ⟨g,4,none⟩=some a4∧w.cell? ⟨g,5,none⟩=some a5∧w.cell? ⟨g,6,none⟩=some a6∧w.cell? ⟨g,7,none⟩=some a7∧w.cell? ⟨g,8,none⟩=some a8∧w.cell? ⟨g,9,none⟩=some a9∧w.cell? ⟨g,10,none⟩=some a10∧w.cell? ⟨g,11,none⟩=some a11)∧
  (w.frozen? ⟨g,0,none⟩=false∧w.frozen? ⟨g,1,none⟩=false∧w.frozen? ⟨g,2,none⟩=false∧w.frozen? ⟨g,3,none⟩=false∧w.frozen? ⟨g,4,none⟩=false∧w.frozen? ⟨g,5,none⟩=false∧w.frozen? ⟨g,6,none⟩=false∧w.frozen? ⟨g,7,none⟩=false∧w.frozen? ⟨g,8,none⟩=false∧w.frozen? ⟨g,9,none⟩=false∧w.frozen? ⟨g,10,none⟩=false∧w.frozen? ⟨g,11,none⟩=false):=
 ⟨⟨h.cell 0,h.cell 1,h.cell 2,h.cell 3,h.cell 4,h.cell 5,h.cell 6,h.cell 7,h.cell 8,h.cell 9,h.cell 10,h.cell 11⟩,h.frozen 0,h.frozen 1,h.frozen 2,h.frozen 3,h.frozen 4,h.frozen 5,h.frozen 6,h.frozen 7,h.frozen 8,h.frozen 9,h.frozen 10,h.frozen 11⟩
theorem Blk.far12 {w:World} {g g':Nat} {t:TypeId} {cs:Array Value} (h:Blk w g t cs) (hne:g≠g') (v0 v1 v2 v3 v4 v5 v6 v7 v8 v9 v10 v11:Value):
  Blk ((((((((((((w.setCell ⟨g',0,none⟩ v0).setCell ⟨g',1,none⟩ v1).setCell ⟨g',2,none⟩ v2).setCell ⟨g',3,none⟩ v3).setCell ⟨g',4,none⟩ v4).setCell ⟨g',5,none⟩ v5).setCell ⟨g',6,none⟩ v6).setCell ⟨g',7,none⟩ v7).setCell ⟨g',8,none⟩ v8).setCell ⟨g',9,none⟩ v9).setCell ⟨g',10,none⟩ v10).setCell ⟨g',11,none⟩ v11) g t cs:=
 (((((((((((h.far (p:=⟨g',0,none⟩) hne v0).far (p:=⟨g',1,none⟩) hne v1).far (p:=⟨g',2,none⟩) hne v2).far (p:=⟨g',3,none⟩) hne v3).far (p:=⟨g',4,none⟩) hne v4).far (p:=⟨g',5,none⟩) hne v5).far (p:=⟨g',6,none⟩) hne v6).far (p:=⟨g',7,none⟩) hne v7).far (p:=⟨g',8,none⟩) hne v8).far (p:=⟨g',9,none⟩) hne v9).far (p:=⟨g',10,none⟩) hne v10).far (p:=⟨g',11,none⟩) hne v11
theorem Below.set12 {B:Nat} {a w:World} (h:Below B a w) {g':Nat} (hB:B≤g') (v0 v1 v2 v3 v4 v5 v6 v7 v8 v9 v10 v11:Value):Below B a ((((((((((((w.setCell ⟨g',0,none⟩ v0).setCell ⟨g',1,none⟩ v1).setCell ⟨g',2,none⟩ v2).setCell ⟨g',3,none⟩ v3).setCell ⟨g',4,none⟩ v4).setCell ⟨g',5,none⟩ v5).setCell ⟨g',6,none⟩ v6).setCell ⟨g',7,none⟩ v7).setCell ⟨g',8,none⟩ v8).setCell ⟨g',9,none⟩ v9).setCell ⟨g',10,none⟩ v10).setCell ⟨g',11,none⟩ v11):=
 (((((((((((h.setCell (p:=⟨g',0,none⟩) hB v0).setCell (p:=⟨g',1,none⟩) hB v1).setCell (p:=⟨g',2,none⟩) hB v2).setCell (p:=⟨g',3,none⟩) hB v3).setCell (p:=⟨g',4,none⟩) hB v4).setCell (p:=⟨g',5,none⟩) hB v5).setCell (p:=⟨g',6,none⟩) hB v6).setCell (p:=⟨g',7,none⟩) hB v7).setCell (p:=⟨g',8,none⟩) hB v8).setCell (p:=⟨g',9,none⟩) hB v9).setCell (p:=⟨g',10,none⟩) hB v10).setCell (p:=⟨g',11,none⟩) hB v11
theorem blk2 {w:World} {g t:Nat} {a0 a1:Value} (h:Blk w g t #[a0,a1]):(w.cell? ⟨g,0,none⟩=some a0∧w.cell? ⟨g,1,none⟩=some a1)∧w.frozen? ⟨g,0,none⟩=false∧w.frozen? ⟨g,1,none⟩=false:=
 ⟨⟨h.cell 0,h.cell 1⟩,h.frozen 0,h.frozen 1⟩
theorem Below.set2 {B:Nat} {a w:World} (h:Below B a w) {g:Nat} (hB:B≤g) (v0 v1:Value):Below B a ((w.setCell ⟨g,0,none⟩ v0).setCell ⟨g,1,none⟩ v1):=Below.set1 (Below.set1 h hB 0 v0) hB 1 v1
theorem Blk.far2 {w:World} {g g':Nat} {t:TypeId} {cs:Array Value} (h:Blk w g t cs) (hne:g≠g') (v0 v1:Value):Blk ((w.setCell ⟨g',0,none⟩ v0).setCell ⟨g',1,none⟩ v1) g t cs:=
 (h.far (p:=⟨g',0,none⟩) hne v0).far (p:=⟨g',1,none⟩) hne v1
theorem Blk.put2 {w:World} {g:Nat} {t:TypeId} {a0 a1:Value} (h:Blk w g t #[a0,a1]) (v0 v1:Value):Blk ((w.setCell ⟨g,0,none⟩ v0).setCell ⟨g,1,none⟩ v1) g t #[v0,v1]:=(h.set_ 0 v0).set_ 1 v1
end Go.Proofs.YtapgoifimhnbdaaGreatDoor
namespace Go.Proofs.YtapgoifimhnbdaaGreatDoor
open Go.RowKit
def pos (c:UInt8) (l:List UInt8):Nat:=(l.takeWhile (· !=c)).length
def hasB (c:UInt8) (l:List UInt8):Bool:=l.any (· ==c)
theorem qc3 (c a:UInt8) (l:List UInt8):pos c (a::l)=if a=c then 0 else pos c l+1:=by
 unfold pos;rw [List.takeWhile_cons]
 by_cases h:a=c<;>simp [h]
theorem qcF (c a:UInt8) (l:List UInt8):hasB c (a::l)=((a==c)||hasB c l):=rfl
theorem qgE (c:UInt8) (l:List UInt8):pos c l≤l.length:=by
 induction l with
 |nil=>exact Nat.le_refl _
 |cons a l ih=>rw [qc3,List.length_cons];split<;>omega
theorem qdW (c:UInt8) (l:List UInt8):hasB c l=decide (pos c l<l.length):=by
 induction l with
 |nil=>rfl
 |cons a l ih=>
  rw [qcF,qc3,ih,List.length_cons,Bool.eq_iff_iff]
  by_cases h:a=c
  ·simp [h]
  ·simp [h]
theorem qbX (c:UInt8) (l:List UInt8):Lib.indexByte l c=if hasB c l=true then (pos c l:Int)else-1:=by
 induction l with
 |nil=>rfl
 |cons a l ih=>
  rw [Lib.indexByte,ih,qcF,qc3]
  by_cases h:a=c
  ·simp [h]
  ·have h':(a==c)=false:=by simpa using h
   by_cases hb:hasB c l=true
   ·simp [h,h',hb]
    try omega
   ·simp [h',hb]
theorem qmV (c:UInt8) (l:List UInt8) (h:pos c l<l.length):l[pos c l]=c:=by
 induction l with
 |nil=>exact absurd h (by simp)
 |cons a l ih=>
  by_cases e:a=c
  ·have:pos c (a::l)=0:=by rw [qc3,if_pos e]
   simp only [this];exact e
  ·have hp:pos c (a::l)=pos c l+1:=by rw [qc3,if_neg e]
   have h':pos c l<l.length:=by rw [hp,List.length_cons]at h;omega
   have:=ih h';simp [hp,this]
theorem pos_ne (c:UInt8) (l:List UInt8) (k:Nat) (h:k<pos c l) (hk:k<l.length):l[k]≠c:=by
 induction l generalizing k with
 |nil=>exact absurd hk (by simp)
 |cons a l ih=>
  by_cases e:a=c
  ·rw [qc3,if_pos e]at h;omega
  ·rw [qc3,if_neg e]at h;cases k with
   |zero=>simpa using e
   |succ k=>simpa using ih k (by omega) (by simpa using hk)
theorem qrF (c:UInt8) (a b:List UInt8) (h:hasB c a=false):pos c (a++b)=a.length+pos c b:=by
 induction a with
 |nil=>simp
 |cons x a ih=>
  rw [qcF,Bool.or_eq_false_iff]at h;rw [List.cons_append,qc3,if_neg (by simpa using h.1),ih h.2,List.length_cons];omega
theorem qr4 (c:UInt8) (a b:List UInt8):hasB c (a++b)=(hasB c a||hasB c b):=by simp [hasB]
theorem qnN (c:UInt8) (l:List UInt8) (k:Nat) (h:k≤pos c l):hasB c (l.take k)=false:=by
 rw [qdW];have h2:=qgE c l
 have: ¬pos c (l.take k)<(l.take k).length:=by
  intro h1;have hlen:(l.take k).length=k:=by rw [List.length_take];omega
  have e:=qmV c _ h1;rw [List.getElem_take]at e;exact pos_ne c l _ (by omega) (by omega) e
 exact decide_eq_false this
def allZ (l:List UInt8):Bool:=l.all (· ==0)
theorem ql5 (l:List UInt8):allZ l=decide (l=List.replicate l.length 0):=by
 unfold allZ;rw [Bool.eq_iff_iff];simp only [List.all_eq_true,beq_iff_eq,decide_eq_true_eq];constructor
 ·intro h;exact List.eq_replicate_iff.2 ⟨rfl,h⟩
 ·intro h b hb;rw [h]at hb;exact (List.mem_replicate.1 hb).2
theorem qqM (l:List UInt8) (k:Nat) (hk:k<l.length) (e:l[k]≠0):allZ l=false:=by
 unfold allZ;rw [←Bool.not_eq_true,List.all_eq_true];intro h;exact e (by simpa using h _ (List.getElem_mem hk))
theorem qsW (l:List UInt8) (h:allZ (l.take l.length)=true):allZ l=true:=by rwa [List.take_length]at h
theorem qvK (l:List UInt8) (c:UInt8):allZ (l++ [c])=(allZ l&&(c==0)):=by simp [allZ]
def bs (l:List UInt8):ByteArray:=⟨l.toArray⟩
theorem qaF (l:List UInt8):(bs l).data.toList=l:=rfl
theorem qaC (l:List UInt8):(bs l).size=l.length:=rfl
theorem qgJ (s:ByteArray):bs s.data.toList=s:=by apply ByteArray.ext;simp [bs]
def zer (n:Nat):ByteArray:=⟨(List.replicate n (0:UInt8)).toArray⟩
def fldW (l:List UInt8) (x:Int) (whole:Bool):ByteArray×Int:=
 if x<1∨512<x then (⟨#[]⟩,4)
 else if x<l.length∨(whole=false∧x=l.length)then (⟨#[]⟩,1)
 else if hasB 0 l=true then (⟨#[]⟩,3)
 else (⟨(l++List.replicate (x.toNat-l.length) 0).toArray⟩,0)
def fldR (l:List UInt8) (whole:Bool):ByteArray×Int:=
 if l.length<1∨512<l.length then (⟨#[]⟩,4)
 else if (whole=false∧pos 0 l=l.length)∨allZ (l.drop (pos 0 l))=false then (⟨#[]⟩,3)
 else (⟨(l.take (pos 0 l)).toArray⟩,0)
theorem qp5 {l:List UInt8} {x:Int} {wh:Bool} (h:x<1∨512<x):fldW l x wh=(⟨#[]⟩,4):=if_pos h
theorem quY {l:List UInt8} {x:Int} {wh:Bool} (h: ¬(x<1∨512<x)) (h2:x<l.length∨(wh=false∧x=l.length)):fldW l x wh=(⟨#[]⟩,1):=by
 rw [fldW,if_neg h,if_pos h2]
theorem quZ {l:List UInt8} {x:Int} {wh:Bool} (h: ¬(x<1∨512<x)) (h2: ¬(x<l.length∨(wh=false∧x=l.length))) (h3:hasB 0 l=true):fldW l x wh=(⟨#[]⟩,3):=by
 rw [fldW,if_neg h,if_neg h2,if_pos h3]
theorem qxK {l:List UInt8} {x:Int} {wh:Bool} (h: ¬(x<1∨512<x)) (h2: ¬(x<l.length∨(wh=false∧x=l.length))) (h3:hasB 0 l=false):fldW l x wh=(⟨(l++List.replicate (x.toNat-l.length) 0).toArray⟩,0):=by
 rw [fldW,if_neg h,if_neg h2,if_neg (by simp [h3])]
theorem q19 {l:List UInt8} {wh:Bool} (h:l.length<1∨512<l.length):fldR l wh=(⟨#[]⟩,4):=if_pos h
theorem qu0 {l:List UInt8} {wh:Bool} (h: ¬(l.length<1∨512<l.length)) (h2:(wh=false∧pos 0 l=l.length)∨allZ (l.drop (pos 0 l))=false):fldR l wh=(⟨#[]⟩,3):=by
 rw [fldR,if_neg h,if_pos h2]
theorem q61 {l:List UInt8} {wh:Bool} (h: ¬(l.length<1∨512<l.length)) (h2: ¬(wh=false∧pos 0 l=l.length)) (h3:allZ (l.drop (pos 0 l))=true):fldR l wh=(⟨(l.take (pos 0 l)).toArray⟩,0):=by
 rw [fldR,if_neg h,if_neg (by rintro (a|a);exact h2 a;rw [h3]at a;cases a)]
def inT (a b:Int):Bool:=decide (-1099511627776≤a∧a≤1099511627776∧0≤b∧b≤999999999)
theorem zd1 {a b:Int} (h: -1099511627776≤a∧a≤1099511627776∧0≤b∧b≤999999999):inT a b=true:=decide_eq_true h
theorem inT_no {a b:Int} (h: ¬(-1099511627776≤a∧a≤1099511627776∧0≤b∧b≤999999999)):inT a b=false:=decide_eq_false h
theorem q6D {a b:Int} (h:inT a b=true): -1099511627776≤a∧a≤1099511627776∧0≤b∧b≤999999999:=of_decide_eq_true h
structure MetaV where
 mode:Int
 uid:Int
 gid:Int
 user:List UInt8
 group:List UInt8
 second:Int
 nano:Int
def mdB (n:Int):Bool:=decide (0≤n∧n≤4095)
theorem q5Q {n:Int} (h:0≤n∧n≤4095):mdB n=true:=decide_eq_true h
theorem zdY {n:Int} (h: ¬(0≤n∧n≤4095)):mdB n=false:=decide_eq_false h
def idB (n:Int):Bool:=decide (0≤n∧n≤1125899906842624)
theorem qxC {n:Int} (h:0≤n∧n≤1125899906842624):idB n=true:=decide_eq_true h
theorem zd4 {n:Int} (h: ¬(0≤n∧n≤1125899906842624)):idB n=false:=decide_eq_false h
def inE (a b:Int):Int:=if inT a b=true then 0 else 4
def metE (m:MetaV):Int:=
 if (mdB m.mode&&idB m.uid&&idB m.gid)=true then
  if 60<m.user.length∨60<m.group.length then 1
  else if (hasB 0 m.user||hasB 0 m.group)=true then 3
  else inE m.second m.nano
 else 4
theorem qkD {m:MetaV} (h:(mdB m.mode&&idB m.uid&&idB m.gid)=false):metE m=4:=if_neg (by rw [h];decide)
theorem quE {m:MetaV} (h:(mdB m.mode&&idB m.uid&&idB m.gid)=true) (h2:60<m.user.length∨60<m.group.length):metE m=1:=by
 unfold metE;rw [if_pos h,if_pos h2]
theorem quF {m:MetaV} (h:(mdB m.mode&&idB m.uid&&idB m.gid)=true) (h2: ¬(60<m.user.length∨60<m.group.length)) (h3:(hasB 0 m.user||hasB 0 m.group)=true):metE m=3:=by
 unfold metE;rw [if_pos h,if_neg h2,if_pos h3]
theorem quD {m:MetaV} (h:(mdB m.mode&&idB m.uid&&idB m.gid)=true) (h2: ¬(60<m.user.length∨60<m.group.length)) (h3:(hasB 0 m.user||hasB 0 m.group)=false):metE m=inE m.second m.nano:=by
 unfold metE;rw [if_pos h,if_neg h2,if_neg (by rw [h3];decide)]
structure NodeV where
 path:List UInt8
 kind:Int
 same:Int
 target:List UInt8
 md:MetaV
 data:List UInt8
instance:Inhabited NodeV:=⟨⟨[],0,0, [],⟨0,0,0, [], [],0,0⟩, []⟩⟩
def inB (s d:List UInt8):Bool:=if d= []then !decide (s= [])else decide (d++ [47]<+:s)
theorem inB_nil (s:List UInt8):inB s []= !decide (s= []):=rfl
theorem zd2 {s d:List UInt8} (h:d≠ []):inB s d=decide (d++ [47]<+:s):=if_neg h
theorem zaN (d s:List UInt8) (c:UInt8) (h:d.length<s.length):d++ [c]<+:s↔(s.take d.length=d∧s[d.length]=c):=by
 constructor
 ·rintro ⟨t,rfl⟩;simp
 ·rintro ⟨e,hc⟩;refine ⟨s.drop (d.length+1),?_⟩
  conv=>rhs;rw [←List.take_append_drop d.length s,e,List.drop_eq_getElem_cons h,hc]
  simp
theorem q41 (d s:List UInt8) (c:UInt8) (h: ¬d.length<s.length): ¬(d++ [c]<+:s):=fun e=>by
 have:=e.length_le;simp at this;omega
def rk (c:UInt8):Int:=if c=47 then-1 else (c.toNat:Int)
def sgn (a b:Int):Int:=if a<b then-1 else if b<a then 1 else 0
theorem qlV (a:Int):sgn a a=0:=by unfold sgn;rw [if_neg (by omega),if_neg (by omega)]
theorem qk7 {a b:Int} (h:a<b):sgn a b= -1:=if_pos h
theorem qpD {a b:Int} (h:b<a):sgn a b=1:=by unfold sgn;rw [if_neg (by omega),if_pos h]
theorem zdR {a b:Int} (h1: ¬a<b) (h2: ¬b<a):sgn a b=0:=by unfold sgn;rw [if_neg h1,if_neg h2]
theorem rk_hi (c:UInt8):rk c≤255:=by
 unfold rk;have:=q88 c
 split<;>omega
theorem qyL {a b:UInt8} (h:rk a=rk b):a=b:=by
 unfold rk at h
 split at h<;>split at h
 ·subst_vars;rfl
 ·omega
 ·omega
 ·exact UInt8.toNat_inj.1 (by omega)
def pcmp:List UInt8→List UInt8→Int
 | [], []=>0
 | [],_::_=> -1
 |_::_, []=>1
 |x::a,y::b=>if x=y then pcmp a b else sgn (rk x) (rk y)
theorem qd7 (y:UInt8) (b:List UInt8):pcmp [] (y::b)= -1:=by rw [pcmp]
theorem qd8 (x:UInt8) (a:List UInt8):pcmp (x::a) []=1:=by rw [pcmp]
theorem qgS:pcmp [] []=0:=by rw [pcmp]
theorem qc9 (x y:UInt8) (a b:List UInt8):pcmp (x::a) (y::b)=if x=y then pcmp a b else sgn (rk x) (rk y):=by rw [pcmp]
theorem qi1 (p a b:List UInt8):pcmp (p++a) (p++b)=pcmp a b:=by
 induction p with
 |nil=>rfl
 |cons x p ih=>rw [List.cons_append,List.cons_append,qc9,if_pos rfl,ih]
theorem q02 (a b:List UInt8) (h:a= []∨b= []):pcmp a b=sgn a.length b.length:=by
 rcases h with rfl|rfl
 ·cases b with
  |nil=>rw [qgS];exact (qlV _).symm
  |cons y b=>rw [qd7,qk7 (by simp)]
 ·cases a with
  |nil=>rw [qgS];exact (qlV _).symm
  |cons y b=>rw [qd8,qpD (by simp)]
theorem zaR (a b:List UInt8) (k:Nat) (he:a.take k=b.take k) (ha:k≤a.length) (hb:k≤b.length) (h:k=a.length∨k=b.length):pcmp a b=sgn a.length b.length:=by
 have e1:a=a.take k++a.drop k:=(List.take_append_drop k a).symm;have e2:b=a.take k++b.drop k:=by rw [he];exact (List.take_append_drop k b).symm
 have l1:(a.drop k).length=a.length-k:=List.length_drop ..;have l2:(b.drop k).length=b.length-k:=List.length_drop ..
 have:pcmp a b=pcmp (a.drop k) (b.drop k):=by
  conv=>lhs;rw [e1,e2]
  exact qi1 _ _ _
 rw [this,q02 _ _ (by rcases h with h|h;exact .inl (List.eq_nil_of_length_eq_zero (by omega));exact .inr (List.eq_nil_of_length_eq_zero (by omega))),l1,l2];unfold sgn
 by_cases c1:(a.length:Int)<b.length
 ·rw [if_pos c1,if_pos (by omega)]
 ·rw [if_neg c1,if_neg (by omega)]
  by_cases c2:(b.length:Int)<a.length
  ·rw [if_pos c2,if_pos (by omega)]
  ·rw [if_neg c2,if_neg (by omega)]
theorem pcmp_at (a b:List UInt8) (k:Nat) (he:a.take k=b.take k) (ha:k<a.length) (hb:k<b.length) (h:a[k]≠b[k]):pcmp a b=sgn (rk a[k]) (rk b[k]):=by
 have e1:a=a.take k++a[k]::a.drop (k+1):=by rw [←List.drop_eq_getElem_cons ha];exact (List.take_append_drop k a).symm
 have e2:b=a.take k++b[k]::b.drop (k+1):=by rw [←List.drop_eq_getElem_cons hb,he];exact (List.take_append_drop k b).symm
 have:pcmp a b=pcmp (a[k]::a.drop (k+1)) (b[k]::b.drop (k+1)):=by
  conv=>lhs;rw [e1,e2]
  exact qi1 _ _ _
 rw [this,qc9,if_neg h]
theorem sgn_neg (a b:Int):sgn b a= -sgn a b:=by
 unfold sgn
 by_cases c1:a<b
 ·rw [if_pos c1,if_neg (by omega),if_pos c1];rfl
 ·rw [if_neg c1]
  by_cases c2:b<a
  ·rw [if_pos c2,if_neg c1,if_pos c2]
  ·rw [if_neg c2,if_neg c1,if_neg c2];rfl
theorem qiX (a b:Int):(sgn a b= -1∧a<b)∨(sgn a b=0∧a=b)∨(sgn a b=1∧b<a):=by
 unfold sgn
 by_cases c1:a<b
 ·rw [if_pos c1];exact .inl ⟨rfl,c1⟩
 ·rw [if_neg c1]
  by_cases c2:b<a
  ·rw [if_pos c2];exact .inr (.inr ⟨rfl,c2⟩)
  ·rw [if_neg c2];exact .inr (.inl ⟨rfl,by omega⟩)
theorem qe0 (a b:List UInt8):pcmp b a= -pcmp a b:=by
 induction a generalizing b with
 |nil=>cases b<;>simp [pcmp]
 |cons x a ih=>
  cases b with
  |nil=>simp [pcmp]
  |cons y b=>
   rw [qc9,qc9]
   by_cases h:x=y
   ·rw [if_pos h,if_pos h.symm,ih]
   ·rw [if_neg h,if_neg (fun e=>h e.symm),sgn_neg]
theorem qj7 (a b:List UInt8): -1≤pcmp a b∧pcmp a b≤1:=by
 induction a generalizing b with
 |nil=>cases b<;>simp [pcmp]
 |cons x a ih=>
  cases b with
  |nil=>simp [pcmp]
  |cons y b=>
   rw [qc9]
   by_cases h:x=y
   ·rw [if_pos h];exact ih b
   ·rw [if_neg h];rcases qiX (rk x) (rk y)with ⟨e,_⟩|⟨e,_⟩|⟨e,_⟩<;>rw [e]<;>omega
theorem qeM (a b:List UInt8):pcmp a b=0↔a=b:=by
 induction a generalizing b with
 |nil=>cases b<;>simp [pcmp]
 |cons x a ih=>
  cases b with
  |nil=>simp [pcmp]
  |cons y b=>
   rw [qc9]
   by_cases h:x=y
   ·rw [if_pos h,ih];simp [h]
   ·rw [if_neg h];have hr:rk x≠rk y:=fun e=>h (qyL e);rcases qiX (rk x) (rk y)with ⟨e,_⟩|⟨_,e⟩|⟨e,_⟩
    ·rw [e];simp [h]
    ·exact absurd e hr
    ·rw [e];simp [h]
theorem qj6 (a b c:List UInt8) (h1:pcmp a b≤0) (h2:pcmp b c≤0):pcmp a c≤0:=by
 induction a generalizing b c with
 |nil=>cases c<;>simp [pcmp]
 |cons x a ih=>
  cases b with
  |nil=>rw [qd8]at h1;omega
  |cons y b=>
   cases c with
   |nil=>rw [qd8]at h2;omega
   |cons z c=>
    rw [qc9]at h1 h2⊢
    by_cases e1:x=y
    ·subst e1;rw [if_pos rfl]at h1
     by_cases e2:x=z
     ·subst e2;rw [if_pos rfl]at h2⊢;exact ih b c h1 h2
     ·rw [if_neg e2]at h2⊢;exact h2
    ·rw [if_neg e1]at h1;have hr:rk x≠rk y:=fun e=>e1 (qyL e);have l1:rk x<rk y:=by rcases qiX (rk x) (rk y)with ⟨_,e⟩|⟨_,e⟩|⟨e,_⟩<;>omega
     by_cases e2:y=z
     ·subst e2;rw [if_neg e1];exact h1
     ·rw [if_neg e2]at h2
      have l2:rk y<rk z:=by
       have hr2:rk y≠rk z:=fun e=>e2 (qyL e);rcases qiX (rk y) (rk z)with ⟨_,e⟩|⟨_,e⟩|⟨e,_⟩<;>omega
      rw [if_neg (by intro e;subst e;omega),qk7 (by omega)];omega
theorem qmX (a:List UInt8):pcmp a a=0:=(qeM a a).2 rfl
def qbS (a:UInt8):List (List UInt8)→List (List UInt8)
 | []=> [[a]]
 |h::t=>(a::h)::t
def qaI (c:UInt8):List UInt8→List (List UInt8)
 | []=> [[]]
 |a::l=>if a=c then []::qaI c l else qbS a (qaI c l)
def zbI (a:UInt8):List (List UInt8)→List (List UInt8)
 | []=> [[a]]
 | [h]=> [h++ [a]]
 |h::t::r=>h::zbI a (t::r)
theorem qhL (c:UInt8):qaI c []= [[]]:=rfl
theorem qbZ (c a:UInt8) (l:List UInt8):qaI c (a::l)=if a=c then []::qaI c l else qbS a (qaI c l):=rfl
theorem qxG (a:UInt8) (l:List (List UInt8)):qbS a l≠ []:=by cases l<;>simp [qbS]
theorem qbH (c:UInt8) (l:List UInt8):qaI c l≠ []:=by
 cases l with
 |nil=>simp [qaI]
 |cons a l=>
  rw [qbZ]
  by_cases h:a=c
  ·rw [if_pos h];simp
  ·rw [if_neg h];exact qxG _ _
theorem qnL (a:UInt8) (l:List (List UInt8)) (h:l≠ []):(qbS a l).length=l.length:=by
 cases l with
 |nil=>exact absurd rfl h
 |cons x l=>rfl
theorem qd9 (c:UInt8) (l:List UInt8):(qaI c l).length=l.count c+1:=by
 induction l with
 |nil=>rfl
 |cons a l ih=>
  rw [qbZ,List.count_cons]
  by_cases h:a=c
  ·subst h;rw [if_pos rfl,List.length_cons,ih];simp
  ·rw [if_neg h,qnL _ _ (qbH c l),ih];have:(a==c)=false:=by simpa using h
   rw [this];simp
theorem qi4 (c:UInt8) (l:List UInt8):(qaI c l).length≤l.length+1:=by
 rw [qd9];have:=List.count_le_length (l:=l) (a:=c);omega
def strV (l:List UInt8):Value:= .string ⟨l.toArray⟩
def strC (ls:List (List UInt8)):List Value:=ls.map strV
@[simp] theorem strC_length (ls:List (List UInt8)):(strC ls).length=ls.length:=by simp [strC]
theorem q9I (a b:List (List UInt8)):strC (a++b)=strC a++strC b:=by simp [strC]
theorem q9H (ls:List (List UInt8)) (j:Nat) (h:j<ls.length):(strC ls)[j]?=some (strV (ls.getD j [])):=by
 simp [strC,List.getD_eq_getElem?_getD,h]
def qd4 (x y:List UInt8):Bool:=Op.bytesLess x y
def lcmp:List (List UInt8)→List (List UInt8)→Int
 | [], []=>0
 | [],_::_=> -1
 |_::_, []=>1
 |x::a,y::b=>if qd4 x y=true then-1 else if qd4 y x=true then 1 else lcmp a b
theorem qoI (x:List UInt8):qd4 x []=false:=by cases x<;>rfl
theorem qdT (y:UInt8) (l:List UInt8):qd4 [] (y::l)=true:=rfl
theorem qqK (a b:UInt8) (x y:List UInt8):qd4 (a::x) (b::y)=(decide (a<b)||(a==b&&qd4 x y)):=rfl
theorem qhT (a:UInt8) (x y:List UInt8):qd4 (a::x) (a::y)=qd4 x y:=by
 rw [qqK];have: ¬a<a:=UInt8.lt_irrefl a;simp [this]
theorem qkX (x:List UInt8):qd4 x x=false:=by
 induction x with
 |nil=>rfl
 |cons a x ih=>rw [qhT,ih]
theorem qhU (a b:UInt8) (x y:List UInt8) (h:a≠b):qd4 (a::x) (b::y)=decide (a<b):=by
 rw [qqK];simp [h]
theorem qjE (y:List UInt8) (b:List (List UInt8)):lcmp [] (y::b)= -1:=by rw [lcmp]
theorem qjF (x:List UInt8) (a:List (List UInt8)):lcmp (x::a) []=1:=by rw [lcmp]
theorem qgY:lcmp [] []=0:=by rw [lcmp]
theorem qdA (x y:List UInt8) (a b:List (List UInt8)):lcmp (x::a) (y::b)=if qd4 x y=true then-1 else if qd4 y x=true then 1 else lcmp a b:=by rw [lcmp]
theorem qgX (x:List UInt8) (a b:List (List UInt8)):lcmp (x::a) (x::b)=lcmp a b:=by rw [qdA,qkX];simp
theorem q51 (a:UInt8) (P Q:List (List UInt8)) (hp:P≠ []) (hq:Q≠ []):lcmp (qbS a P) (qbS a Q)=lcmp P Q:=by
 cases P with
 |nil=>exact absurd rfl hp
 |cons x P=>
  cases Q with
  |nil=>exact absurd rfl hq
  |cons y Q=>rw [qbS,qbS,qdA,qdA,qhT,qhT]
theorem q1N (a b:UInt8) (P Q:List (List UInt8)) (hp:P≠ []) (hq:Q≠ []) (h:a≠b):lcmp (qbS a P) (qbS b Q)=sgn (a.toNat:Int) (b.toNat:Int):=by
 cases P with
 |nil=>exact absurd rfl hp
 |cons x P=>
  cases Q with
  |nil=>exact absurd rfl hq
  |cons y Q=>
   rw [qbS,qbS,qdA,qhU _ _ _ _ h,qhU _ _ _ _ (fun e=>h e.symm)];have hn:a.toNat≠b.toNat:=fun e=>h (UInt8.toNat_inj.1 e);simp only [decide_eq_true_eq,UInt8.lt_iff_toNat_lt]
   by_cases hl:a.toNat<b.toNat
   ·rw [if_pos hl,qk7 (by omega)]
   ·rw [if_neg hl,if_pos (by omega),qpD (by omega)]
def pp (l:List UInt8):List (List UInt8):=if l= []then []else qaI 47 l
theorem pp_nil:pp []= []:=rfl
theorem pp_ne {l:List UInt8} (h:l≠ []):pp l=qaI 47 l:=if_neg h
theorem qyK:rk 47= -1:=rfl
theorem qlX {c:UInt8} (h:c≠47):rk c=(c.toNat:Int):=if_neg h
theorem q1M (a b:List UInt8):lcmp (qaI 47 a) (qaI 47 b)=pcmp a b:=by
 induction a generalizing b with
 |nil=>
  cases b with
  |nil=>rw [qhL,qgX,qgY,qgS]
  |cons y b=>
   rw [qhL,qbZ,qd7]
   by_cases h:y=47
   ·rw [if_pos h,qgX];rcases hp:qaI 47 b with _|⟨u,v⟩
    ·exact absurd hp (qbH _ _)
    ·exact qjE _ _
   ·rw [if_neg h];rcases hp:qaI 47 b with _|⟨u,v⟩
    ·exact absurd hp (qbH _ _)
    ·rw [qbS,qdA,qdT];simp
 |cons x a ih=>
  cases b with
  |nil=>
   rw [qhL,qbZ,qd8]
   by_cases h:x=47
   ·rw [if_pos h,qgX];rcases hp:qaI 47 a with _|⟨u,v⟩
    ·exact absurd hp (qbH _ _)
    ·exact qjF _ _
   ·rw [if_neg h];rcases hp:qaI 47 a with _|⟨u,v⟩
    ·exact absurd hp (qbH _ _)
    ·rw [qbS,qdA,qoI,qdT];simp
  |cons y b=>
   rw [qbZ,qbZ,qc9]
   by_cases hx:x=47
   ·subst hx;rw [if_pos rfl]
    by_cases hy:y=47
    ·subst hy;rw [if_pos rfl,if_pos rfl,qgX,ih]
    ·rw [if_neg hy,if_neg (fun e=>hy e.symm),qyK,qlX hy,qk7 (by omega)];rcases hp:qaI 47 b with _|⟨u,v⟩
     ·exact absurd hp (qbH _ _)
     ·rw [qbS,qdA,qdT];simp
   ·rw [if_neg hx]
    by_cases hy:y=47
    ·subst hy;rw [if_pos rfl,if_neg hx,qyK,qlX hx,qpD (by omega)];rcases hp:qaI 47 a with _|⟨u,v⟩
     ·exact absurd hp (qbH _ _)
     ·rw [qbS,qdA,qoI,qdT];simp
    ·rw [if_neg hy]
     by_cases e:x=y
     ·subst e;rw [if_pos rfl,q51 _ _ _ (qbH _ _) (qbH _ _),ih]
     ·rw [if_neg e,q1N _ _ _ _ (qbH _ _) (qbH _ _) e,qlX hx,qlX hy]
theorem qy2 (p a b:List (List UInt8)):lcmp (p++a) (p++b)=lcmp a b:=by
 induction p with
 |nil=>rfl
 |cons x p ih=>rw [List.cons_append,List.cons_append,qgX,ih]
theorem q1L (a b:List (List UInt8)) (h:a= []∨b= []):lcmp a b=sgn a.length b.length:=by
 rcases h with rfl|rfl
 ·cases b with
  |nil=>rw [qgY];exact (qlV _).symm
  |cons y b=>rw [qjE,qk7 (by simp)]
 ·cases a with
  |nil=>rw [qgY];exact (qlV _).symm
  |cons y b=>rw [qjF,qpD (by simp)]
theorem qrW (a b:List (List UInt8)) (k:Nat) (he:a.take k=b.take k) (ha:k≤a.length) (hb:k≤b.length) (h:k=a.length∨k=b.length):lcmp a b=sgn a.length b.length:=by
 have e1:a=a.take k++a.drop k:=(List.take_append_drop k a).symm;have e2:b=a.take k++b.drop k:=by rw [he];exact (List.take_append_drop k b).symm
 have l1:(a.drop k).length=a.length-k:=List.length_drop ..;have l2:(b.drop k).length=b.length-k:=List.length_drop ..
 have:lcmp a b=lcmp (a.drop k) (b.drop k):=by
  conv=>lhs;rw [e1,e2]
  exact qy2 _ _ _
 rw [this,q1L _ _ (by rcases h with h|h;exact .inl (List.eq_nil_of_length_eq_zero (by omega));exact .inr (List.eq_nil_of_length_eq_zero (by omega))),l1,l2];unfold sgn
 by_cases c1:(a.length:Int)<b.length
 ·rw [if_pos c1,if_pos (by omega)]
 ·rw [if_neg c1,if_neg (by omega)]
  by_cases c2:(b.length:Int)<a.length
  ·rw [if_pos c2,if_pos (by omega)]
  ·rw [if_neg c2,if_neg (by omega)]
theorem q52 (a b:List (List UInt8)) (k:Nat) (he:a.take k=b.take k) (ha:k<a.length) (hb:k<b.length):
  lcmp a b=if qd4 a[k] b[k]=true then-1 else if qd4 b[k] a[k]=true then 1 else lcmp (a.drop (k+1)) (b.drop (k+1)):=by
 have e1:a=a.take k++a[k]::a.drop (k+1):=by rw [←List.drop_eq_getElem_cons ha];exact (List.take_append_drop k a).symm
 have e2:b=a.take k++b[k]::b.drop (k+1):=by rw [←List.drop_eq_getElem_cons hb,he];exact (List.take_append_drop k b).symm
 have:lcmp a b=lcmp (a[k]::a.drop (k+1)) (b[k]::b.drop (k+1)):=by
  conv=>lhs;rw [e1,e2]
  exact qy2 _ _ _
 rw [this,qdA]
theorem qiN (x y:List UInt8) (h1:qd4 x y=false) (h2:qd4 y x=false):x=y:=by
 induction x generalizing y with
 |nil=>
  cases y with
  |nil=>rfl
  |cons b y=>rw [qdT]at h1;cases h1
 |cons a x ih=>
  cases y with
  |nil=>rw [qdT]at h2;cases h2
  |cons b y=>
   by_cases e:a=b
   ·subst e;rw [qhT]at h1 h2;rw [ih y h1 h2]
   ·rw [qhU _ _ _ _ e]at h1;rw [qhU _ _ _ _ (fun h=>e h.symm)]at h2;have h1':=of_decide_eq_false h1;have h2':=of_decide_eq_false h2;rw [UInt8.lt_iff_toNat_lt]at h1' h2';exact absurd (UInt8.toNat_inj.1 (by omega)) e
theorem qe4 (ls:List (List UInt8)) (k:Nat) (h:k<ls.length):ls.take (k+1)=ls.take k++ [ls.getD k []]:=by
 rw [List.take_succ_eq_append_getElem h,List.getD_eq_getElem?_getD,List.getElem?_eq_getElem h];rfl
theorem q50 (a b:List (List UInt8)) (k:Nat) (he:a.take k=b.take k) (ha:k<a.length) (hb:k<b.length):
  (qd4 (a.getD k []) (b.getD k [])=true→lcmp a b= -1)∧(qd4 (a.getD k []) (b.getD k [])=false→a.getD k []≠b.getD k []→lcmp a b=1)∧(a.getD k []=b.getD k []→a.take (k+1)=b.take (k+1)):=by
 have ga:a.getD k []=a[k]:=by rw [List.getD_eq_getElem?_getD,List.getElem?_eq_getElem ha];rfl
 have gb:b.getD k []=b[k]:=by rw [List.getD_eq_getElem?_getD,List.getElem?_eq_getElem hb];rfl
 rw [ga,gb];refine ⟨fun h=> ?_,fun h hne=> ?_,fun h=> ?_⟩
 ·rw [q52 a b k he ha hb,if_pos h]
 ·rw [q52 a b k he ha hb,if_neg (by rw [h];simp),if_pos];cases h2:qd4 b[k] a[k]
  ·exact absurd (qiN _ _ h h2) hne
  ·rfl
 ·rw [qe4 a k ha,qe4 b k hb,he,ga,gb,h]
theorem quO (a:UInt8) (l m:List (List UInt8)) (h:l≠ []):qbS a (l++m)=qbS a l++m:=by
 cases l with
 |nil=>exact absurd rfl h
 |cons x l=>rfl
theorem qdN (c:UInt8) (a b:List UInt8):qaI c (a++c::b)=qaI c a++qaI c b:=by
 induction a with
 |nil=>rw [List.nil_append,qbZ,if_pos rfl,qhL];rfl
 |cons x a ih=>
  rw [List.cons_append,qbZ,qbZ,ih]
  by_cases h:x=c
  ·rw [if_pos h,if_pos h];rfl
  ·rw [if_neg h,if_neg h,quO _ _ _ (qbH c a)]
theorem qdM (c:UInt8) (l:List UInt8) (h:hasB c l=false):qaI c l= [l]:=by
 induction l with
 |nil=>rfl
 |cons x l ih=>
  rw [qcF,Bool.or_eq_false_iff]at h;have hx:x≠c:=by simpa using h.1
  rw [qbZ,if_neg hx,ih h.2];rfl
def qjG:List (List UInt8)→List UInt8
 | []=> []
 | [x]=>x
 |x::y::r=>x++47::qjG (y::r)
theorem qdQ (x:List UInt8) (l:List (List UInt8)) (h:l≠ []):qjG (x::l)=x++47::qjG l:=by
 cases l with
 |nil=>exact absurd rfl h
 |cons y l=>rfl
theorem q1T (a:UInt8) (l:List (List UInt8)) (h:l≠ []):qjG (qbS a l)=a::qjG l:=by
 cases l with
 |nil=>exact absurd rfl h
 |cons x l=>
  cases l with
  |nil=>rfl
  |cons y l=>rfl
theorem qdP (l:List UInt8):qjG (qaI 47 l)=l:=by
 induction l with
 |nil=>rfl
 |cons x l ih=>
  rw [qbZ]
  by_cases h:x=47
  ·rw [if_pos h,qdQ _ _ (qbH _ _),ih,h];rfl
  ·rw [if_neg h,q1T _ _ (qbH _ _),ih]
theorem q1S (ls:List (List UInt8)) (x:List UInt8) (h:ls≠ []):qjG (ls++ [x])=qjG ls++47::x:=by
 induction ls with
 |nil=>exact absurd rfl h
 |cons y ls ih=>
  by_cases h2:ls= []
  ·subst h2;rfl
  ·rw [List.cons_append,qdQ _ _ (by simp),ih h2,qdQ _ _ h2];simp
def upL (l:List UInt8):List UInt8:=qjG (qaI 47 l).dropLast
def qo1 (l:List UInt8):List UInt8:=(qaI 47 l).getLast (qbH 47 l)
theorem qo5 (l a b:List UInt8) (h:hasB 47 b=false) (e:l=a++47::b):upL l=a∧qo1 l=b:=by
 have hp:qaI 47 l=qaI 47 a++ [b]:=by rw [e,qdN,qdM 47 b h]
 refine ⟨?_,?_⟩
 ·unfold upL;rw [hp,List.dropLast_concat,qdP]
 ·unfold qo1;simp [hp]
theorem qgL (l:List UInt8) (h:hasB 47 l=false):upL l= []∧qo1 l=l:=by
 have hp:=qdM 47 l h;refine ⟨?_,?_⟩
 ·unfold upL;rw [hp];rfl
 ·unfold qo1;simp [hp]
theorem qf3 (c:UInt8) (l:List UInt8):hasB c l=false↔ ∀x∈l,x≠c:=by
 unfold hasB;simp
theorem q1O (s:ByteArray):(Lib.lastIndexByte s 47= -1∧upL s.data.toList= []∧qo1 s.data.toList=s.data.toList∧hasB 47 s.data.toList=false)∨
  ∃i:Nat,i<s.size∧Lib.lastIndexByte s 47=i∧upL s.data.toList=s.data.toList.take i∧qo1 s.data.toList=s.data.toList.drop (i+1)∧hasB 47 s.data.toList=true:=by
 have hl:s.data.toList.length=s.size:=by simp
 have hg: ∀j (h:j<s.size),s.data[j]! =s.data.toList[j]'(by omega):=fun j h=>by
  rw [getElem!_pos s.data j (by simpa using h)];simp
 rcases Lib.lastIndexByte_spec s 47 with ⟨h1,h2⟩|⟨i,hi,h1,h2,h3⟩
 ·refine .inl ⟨h1,?_⟩
  have hb:hasB 47 s.data.toList=false:=by
   rw [qf3];intro x hx e;obtain ⟨j,hj,rfl⟩:=List.getElem_of_mem hx;refine h2 j (by omega) ?_;rw [hg j (by omega),e];rfl
  obtain ⟨u,b⟩:=qgL _ hb;exact ⟨u,b,hb⟩
 ·refine .inr ⟨i,hi,h1,?_⟩;have hil:i<s.data.toList.length:=by omega
  have e47:s.data.toList[i]=47:=by
   have:=h2;rw [hg i hi]at this;exact UInt8.toNat_inj.1 (by show _=47;omega)
  have hb:hasB 47 (s.data.toList.drop (i+1))=false:=by
   rw [qf3];intro x hx e;obtain ⟨j,hj,rfl⟩:=List.getElem_of_mem hx;rw [List.length_drop]at hj;refine h3 (i+1+j) (by omega) (by omega) ?_;rw [hg _ (by omega)];rw [List.getElem_drop]at e;rw [e];rfl
  have e:s.data.toList=s.data.toList.take i++47::s.data.toList.drop (i+1):=by
   conv=>lhs;rw [←List.take_append_drop i s.data.toList,List.drop_eq_getElem_cons hil,e47]
  obtain ⟨u,b⟩:=qo5 _ _ _ hb e;refine ⟨u,b,?_⟩;rw [e,qr4,qcF];simp
theorem qpP (c:UInt8) (l:List UInt8) (h:hasB c l=true):qaI c l=l.take (pos c l)::qaI c (l.drop (pos c l+1)):=by
 have hp:pos c l<l.length:=by rw [qdW]at h;exact of_decide_eq_true h
 have e:l=l.take (pos c l)++c::l.drop (pos c l+1):=by
  conv=>lhs;rw [←List.take_append_drop (pos c l) l,List.drop_eq_getElem_cons hp,qmV c l hp]
 conv=>lhs;rw [e]
 rw [qdN,qdM c _ (qnN c l _ (Nat.le_refl _))];rfl
theorem q7Y (c:UInt8) (l:List UInt8) (h:hasB c l=true):l.count c=(l.drop (pos c l+1)).count c+1:=by
 have:=qpP c l h;have h2:=congrArg List.length this;rw [qd9,List.length_cons,qd9]at h2;omega
theorem qtH (c:UInt8) (k:Nat) (l:List UInt8) (h:l.count c=k):Lib.splitK [c] 0 k l=qaI c l:=by
 induction k generalizing l with
 |zero=>
  have:hasB c l=false:=by
   rw [qf3];intro x hx e;subst e;have:=List.count_pos_iff.2 hx;omega
  rw [qdM c l this];rfl
 |succ k ih=>
  have hb:hasB c l=true:=by
   rw [←Bool.not_eq_false,qf3];intro h2;have:l.count c=0:=List.count_eq_zero.2 (fun hm=>h2 c hm rfl);omega
  have hi:Lib.index l [c]=(pos c l:Int):=by rw [Lib.index_one,qbX,if_pos hb]
  have hc:=q7Y c l hb;unfold Lib.splitK;rw [hi,if_neg (by simp),qpP c l hb,Int.toNat_natCast,Nat.add_zero,List.length_singleton,ih _ (by omega)]
theorem qvG (s:ByteArray):Lib.countB s ⟨#[47]⟩=s.data.toList.count 47:=Lib.count_one 47 s.data.toList
theorem qtI (s:ByteArray) (k:Nat) (h:s.data.toList.count 47=k):(Lib.splitB ⟨#[47]⟩ 0 k s).map Value.string=strC (qaI 47 s.data.toList):=by
 have hd:=Lib.splitB_data ⟨#[47]⟩ 0 k s;rw [show (⟨#[47]⟩:ByteArray).data.toList= [47]from rfl,qtH 47 k _ h]at hd;rw [←hd];unfold strC;rw [List.map_map];refine List.map_congr_left fun x _=> ?_;show Value.string x=strV x.data.toList;unfold strV
 congr 1
def qgI (l:List UInt8):Bool:= !(decide (l= [])) && !(decide (l= [46])) && !(decide (l= [46,46]))
theorem qiG (l:List UInt8) (h:l= []∨l= [46]∨l= [46,46]):qgI l=false:=by
 rcases h with rfl|rfl|rfl<;>rfl
theorem q1G (l:List UInt8) (h:l≠ []) (h1:l≠ [46]) (h2:l≠ [46,46]):qgI l=true:=by simp [qgI,h,h1,h2]
def qa6 (l:List UInt8):Int:=
 if l.length<1∨400<l.length then 1 else if hasB 0 l=true then 3 else if (qaI 47 l).all qgI=true then 0 else 9
theorem qhK {l:List UInt8} (h:l.length<1∨400<l.length):qa6 l=1:=if_pos h
theorem q04 {l:List UInt8} (h: ¬(l.length<1∨400<l.length)) (h2:hasB 0 l=true):qa6 l=3:=by rw [qa6,if_neg h,if_pos h2]
theorem qi2 {l:List UInt8} (h: ¬(l.length<1∨400<l.length)) (h2:hasB 0 l=false) (h3:(qaI 47 l).all qgI=true):qa6 l=0:=by rw [qa6,if_neg h,if_neg (by simp [h2]),if_pos h3]
theorem zaV {l:List UInt8} (h: ¬(l.length<1∨400<l.length)) (h2:hasB 0 l=false) (h3:(qaI 47 l).all qgI=false):qa6 l=9:=by rw [qa6,if_neg h,if_neg (by simp [h2]),if_neg (by simp [h3])]
def allE (ls:List (List UInt8)):Int:=if ls.all qgI=true then 0 else 9
theorem qzW {ls:List (List UInt8)} (h:ls.all qgI=true):allE ls=0:=if_pos h
theorem q8K {ls:List (List UInt8)} (h:ls.all qgI=false):allE ls=9:=if_neg (by simp [h])
theorem qx0 (ls:List (List UInt8)) (p:List UInt8→Bool) (k:Nat) (hk:k<ls.length) (h:p (ls.getD k [])=false):ls.all p=false:=by
 rw [←Bool.not_eq_true,List.all_eq_true];intro h2;rw [List.getD_eq_getElem?_getD,List.getElem?_eq_getElem hk]at h;have:=h2 _ (List.getElem_mem hk);rw [Option.getD_some]at h;rw [h]at this;cases this
theorem qsV (ls:List (List UInt8)) (p:List UInt8→Bool) (k:Nat) (hk:k<ls.length) (h0:(ls.take k).all p=true) (h:p (ls.getD k [])=true):(ls.take (k+1)).all p=true:=by
 rw [qe4 ls k hk,List.all_append,h0];simpa using h
theorem qsG (s:ByteArray) (l:List UInt8):(s.toList=l)=(s.data.toList=l):=by
 rw [ByteArray.toList_eq]
theorem MetaV.ext_iff' (a b:MetaV):(a.mode=b.mode∧a.uid=b.uid∧a.gid=b.gid∧a.user=b.user∧a.group=b.group∧a.second=b.second∧a.nano=b.nano)↔a=b:=by
 constructor
 ·rintro ⟨h1,h2,h3,h4,h5,h6,h7⟩;cases a;cases b;simp_all
 ·rintro rfl;exact ⟨rfl,rfl,rfl,rfl,rfl,rfl,rfl⟩
instance:DecidableEq MetaV:=fun a b=>decidable_of_iff _ (MetaV.ext_iff' a b)
theorem NodeV.ext_iff' (a b:NodeV):(a.path=b.path∧a.kind=b.kind∧a.same=b.same∧a.target=b.target∧a.md=b.md∧a.data=b.data)↔a=b:=by
 constructor
 ·rintro ⟨h1,h2,h3,h4,h5,h6⟩;cases a;cases b;simp_all
 ·rintro rfl;exact ⟨rfl,rfl,rfl,rfl,rfl,rfl⟩
instance:DecidableEq NodeV:=fun a b=>decidable_of_iff _ (NodeV.ext_iff' a b)
def nodK (n:NodeV):Int:=
 if n.kind=1 then (if n.target≠ []∨n.same<0 then 3 else if 2000<n.data.length then 1 else 0)
 else if n.kind=2∨n.kind=3 then
  (if n.data≠ []∨n.same≠0∨(n.kind=2∧n.target≠ [])∨(n.kind=3∧n.target= [])∨hasB 0 n.target=true then 3 else if 400<n.target.length then 1 else 0)
 else 2
def nodE (n:NodeV):Int:=if qa6 n.path≠0 then qa6 n.path else if metE n.md≠0 then metE n.md else nodK n
theorem qgV {n:NodeV} (h:qa6 n.path≠0):nodE n=qa6 n.path:=if_pos h
theorem qnD {n:NodeV} (h:qa6 n.path=0) (h2:metE n.md≠0):nodE n=metE n.md:=by unfold nodE;rw [if_neg (by simp [h]),if_pos h2]
theorem qeP {n:NodeV} (h:qa6 n.path=0) (h2:metE n.md=0):nodE n=nodK n:=by unfold nodE;rw [if_neg (by simp [h]),if_neg (by simp [h2])]
def qaR (t:List NodeV) (s:List UInt8):Nat:=(t.takeWhile fun n=> !decide (n.path=s)).length
theorem qeB (t:List NodeV) (s:List UInt8):qaR t s≤t.length:=by
 unfold qaR
 induction t with
 |nil=>exact Nat.le_refl _
 |cons a t ih=>rw [List.takeWhile_cons];split<;>simp_all<;>omega
theorem qsB (t:List NodeV) (s:List UInt8) (k:Nat) (h:k<qaR t s) (hk:k<t.length):t[k].path≠s:=by
 induction t generalizing k with
 |nil=>exact absurd hk (by simp)
 |cons a t ih=>
  unfold qaR at h;rw [List.takeWhile_cons]at h
  by_cases e:a.path=s
  ·simp [e]at h
  ·simp only [e,decide_false,Bool.not_false,if_true,List.length_cons]at h;cases k with
   |zero=>simpa using e
   |succ k=>simpa using ih k (by unfold qaR;omega) (by simpa using hk)
theorem qf6 (t:List NodeV) (s:List UInt8) (h:qaR t s<t.length):(t[qaR t s]'h).path=s:=by
 induction t with
 |nil=>exact absurd h (by simp)
 |cons a t ih=>
  by_cases e:a.path=s
  ·have h0:qaR (a::t) s=0:=by unfold qaR;simp [e]
   simp only [h0];exact e
  ·have h1:qaR (a::t) s=qaR t s+1:=by unfold qaR;simp [e]
   have h':qaR t s<t.length:=by rw [h1,List.length_cons]at h;omega
   have:=ih h';simp [h1,this]
theorem qp7 (t:List NodeV) (s:List UInt8) (k:Nat) (hk:k<t.length) (h:k≤qaR t s) (e:t[k].path=s):qaR t s=k:=by
 rcases Nat.lt_or_eq_of_le h with h'|h'
 ·exact absurd e (qsB t s k h' hk)
 ·exact h'.symm
theorem qp8 (t:List NodeV) (s:List UInt8) (k:Nat) (hk:k<t.length) (h:k≤qaR t s) (e:t[k].path≠s):k+1≤qaR t s:=by
 rcases Nat.lt_or_eq_of_le h with h'|h'
 ·exact h'
 ·subst h';exact absurd (qf6 t s hk) e
def upOk (t:List NodeV) (p:List UInt8):Bool:=decide (upL p= [])||t.any fun n=>decide (n.path=upL p) &&decide (n.kind=2)
def qdG (t:List NodeV) (n:NodeV):Bool:=decide (n.same≠0) &&t.any fun x=>decide (x.same=n.same) && !(decide (x.md=n.md) &&decide (x.data=n.data))
def atE (t:List NodeV) (n:NodeV):Int:=
 if nodE n≠0 then nodE n
 else if (match t.getLast? with|some x=> !decide (pcmp x.path n.path= -1)|none=>false)=true then 6
 else if upOk t n.path=false then 10
 else if qdG t n=true then 11
 else 0
def qc4 (t:List NodeV):List NodeV→Int
 | []=>0
 |n::l=>if atE t n≠0 then atE t n else qc4 (t++ [n]) l
def qaO (t:List NodeV):Int:=if 40<t.length then 1 else qc4 [] t
theorem ql9 (t l m:List NodeV) (h:qc4 t l=0):qc4 t (l++m)=qc4 (t++l) m:=by
 induction l generalizing t with
 |nil=>simp
 |cons n l ih=>
  rw [qc4]at h;rw [List.cons_append,qc4]
  by_cases e:atE t n≠0
  ·rw [if_pos e]at h;exact absurd h e
  ·rw [if_neg e]at h⊢;rw [ih _ h];simp
theorem qz1 (l:List NodeV) (k:Nat) (hk:k<l.length) (h:qc4 [] (l.take k)=0) (he:atE (l.take k) l[k]≠0):qc4 [] l=atE (l.take k) l[k]:=by
 have h1:=ql9 [] (l.take k) (l.drop k) h;rw [List.take_append_drop,List.nil_append,List.drop_eq_getElem_cons hk,qc4,if_pos he]at h1;exact h1
theorem qz2 (l:List NodeV) (k:Nat) (hk:k<l.length) (h:qc4 [] (l.take k)=0) (he:atE (l.take k) l[k]=0):qc4 [] (l.take (k+1))=0:=by
 have h1:=ql9 [] (l.take k) [l[k]] h;rw [←List.take_succ_eq_append_getElem hk,List.nil_append,qc4,if_neg (by simp [he]),qc4]at h1;exact h1
def putL (t:List NodeV) (n:NodeV):List NodeV:=t.filter (fun x=>decide (pcmp x.path n.path<0))++n::t.filter fun x=>decide (0<pcmp x.path n.path)
def remL (t:List NodeV) (s:List UInt8):List NodeV:=t.filter fun n=> !(decide (n.path=s)||inB n.path s)
def putT (t:List NodeV) (n:NodeV):List NodeV×Int:=if qaO t≠0 then ([],qaO t)else if qaO (putL t n)≠0 then ([],qaO (putL t n))else (putL t n,0)
def remT (t:List NodeV) (s:List UInt8):List NodeV×Int:=if qaO t≠0 then ([],qaO t)else if qaR t s=t.length then ([],5)else (remL t s,0)
def qeW (t:List NodeV):Prop:=t.Pairwise fun x y=>pcmp x.path y.path= -1
theorem qmW {a b c:List UInt8} (h1:pcmp a b= -1) (h2:pcmp b c= -1):pcmp a c= -1:=by
 have h:=qj6 a b c (by omega) (by omega);have hb:=qj7 a c;rcases Int.lt_or_eq_of_le h with h|h
 ·omega
 ·have:=(qeM a c).1 h;subst this;have:=qe0 a b;omega
theorem qgQ (a:List UInt8):pcmp a a≠ -1:=by rw [qmX];decide
theorem qyV {a b:List UInt8} (h:pcmp a b= -1):pcmp b a≠ -1:=by rw [qe0,h];decide
theorem qqV {p:List UInt8} (h:upL p≠ []):p=upL p++47::qo1 p:=by
 have hd:(qaI 47 p).dropLast≠ []:=by
  intro e;apply h;unfold upL;rw [e];rfl
 have h1:=q1S (qaI 47 p).dropLast (qo1 p) hd;unfold qo1 at h1⊢;rw [List.dropLast_concat_getLast,qdP]at h1;exact h1
theorem qiS {p:List UInt8} (h:upL p≠ []):pcmp (upL p) p= -1:=by
 have h1:hasB 47 p=true:=by
  rcases e:hasB 47 p with _|_
  ·exact absurd (qgL p e).1 h
  ·rfl
 obtain ⟨b,e⟩: ∃b,p=upL p++47::b:=⟨qo1 p,qqV h⟩;have h2:pcmp (upL p++ []) (upL p++47::b)= -1:=by rw [qi1,qd7]
 rw [List.append_nil,←e]at h2;exact h2
structure Sound (t:List NodeV):Prop where
 rises:qeW t
 node: ∀n∈t,nodE n=0
 up: ∀n∈t,upL n.path= []∨ ∃d∈t,d.path=upL n.path∧d.kind=2
 link: ∀x∈t,∀y∈t,x.same=y.same→x.same≠0→x.md=y.md∧x.data=y.data
theorem qgB (t:List NodeV) (n:NodeV):atE t n=0↔nodE n=0∧(∀x,t.getLast?=some x→pcmp x.path n.path= -1)∧upOk t n.path=true∧qdG t n=false:=by
 unfold atE
 by_cases h1:nodE n≠0
 ·rw [if_pos h1];exact ⟨fun h=>absurd h h1,fun h=>absurd h.1 h1⟩
 ·rw [if_neg h1];have h1':nodE n=0:=by simpa using h1
  cases hg:t.getLast? with
  |none=>
   simp only [Bool.false_eq_true,if_false];cases upOk t n.path<;>cases qdG t n<;>simp [h1']
  |some x=>
   by_cases h2:pcmp x.path n.path= -1
   ·cases upOk t n.path<;>cases qdG t n<;>simp [h1',h2]
   ·simp [h2]
theorem q27 (l:List NodeV): ∀s,qc4 s l=0↔ ∀k (hk:k<l.length),atE (s++l.take k) l[k]=0:=by
 induction l with
 |nil=>intro s;simp [qc4]
 |cons n l ih=>
  intro s;rw [qc4];constructor
  ·intro h k hk
   by_cases e:atE s n≠0
   ·rw [if_pos e]at h;exact absurd h e
   ·rw [if_neg e]at h;cases k with
    |zero=>simp only [List.take_zero,List.append_nil,List.getElem_cons_zero];simpa using e
    |succ k=>
     have:=(ih _).1 h k (by simpa using hk);simpa using this
  ·intro h
   have h0:atE s n=0:=by
    have:=h 0 (by simp);simpa only [List.take_zero,List.append_nil,List.getElem_cons_zero]using this
   rw [if_neg (by simp [h0])];refine (ih _).2 fun k hk=> ?_;have:=h (k+1) (by simpa using hk);simpa using this
theorem qbW {t:List NodeV} (h:qeW t) (i j:Nat) (hi:i<t.length) (hj:j<t.length) (hij:i<j):pcmp t[i].path t[j].path= -1:=
 (List.pairwise_iff_getElem.1 h) i j hi hj hij
theorem qpJ {t:List NodeV} {n:NodeV} (h:qeW t) (hl: ∀x,t.getLast?=some x→pcmp x.path n.path= -1):qeW (t++ [n]):=by
 unfold qeW at*;rw [List.pairwise_append];refine ⟨h,List.pairwise_singleton _ _,fun x hx y hy=> ?_⟩;obtain rfl:y=n:=by simpa using hy
 obtain ⟨i,hi,rfl⟩:=List.getElem_of_mem hx;have hne:t≠ []:=by intro e;subst e;simp at hi
 have hlast:=hl _ (List.getLast?_eq_some_getLast hne);rw [List.getLast_eq_getElem]at hlast;rcases Nat.lt_or_eq_of_le (show i≤t.length-1 by omega)with h'|h'
 ·exact qmW (qbW h i (t.length-1) hi (by omega) h') hlast
 ·subst h';exact hlast
theorem qfT {t:List NodeV} (h:qeW t) (k:Nat) (hk:k<t.length) (d:NodeV) (hd:d∈t) (hp:pcmp d.path t[k].path= -1):d∈t.take k:=by
 obtain ⟨i,hi,rfl⟩:=List.getElem_of_mem hd
 have hik:i<k:=by
  rcases Nat.lt_trichotomy i k with h'|h'|h'
  ·exact h'
  ·subst h';exact absurd hp (qgQ _)
  ·exact absurd (qbW h k i hk hi h') (qyV hp)
 exact List.mem_take_iff_getElem.2 ⟨i,by omega,rfl⟩
theorem qhD {t:List NodeV} {n:NodeV} (h:Sound t) (ha:atE t n=0):Sound (t++ [n]):=by
 obtain ⟨h1,h2,h3,h4⟩:=(qgB t n).1 ha;refine ⟨qpJ h.rises h2,fun x hx=> ?_,fun x hx=> ?_,fun x hx y hy e hne=> ?_⟩
 ·rcases List.mem_append.1 hx with a|a
  ·exact h.node x a
  ·obtain rfl:x=n:=by simpa using a
   exact h1
 ·rcases List.mem_append.1 hx with a|a
  ·rcases h.up x a with e|⟨d,hd,e⟩
   ·exact .inl e
   ·exact .inr ⟨d,List.mem_append_left _ hd,e⟩
  ·obtain rfl:x=n:=by simpa using a
   unfold upOk at h3;rw [Bool.or_eq_true]at h3;rcases h3 with e|e
   ·exact .inl (by simpa using e)
   ·obtain ⟨d,hd,e2⟩:=List.any_eq_true.1 e;rw [Bool.and_eq_true]at e2;exact .inr ⟨d,List.mem_append_left _ hd,by simpa using e2.1,by simpa using e2.2⟩
 ·have key: ∀z∈t,z.same=n.same→n.same≠0→z.md=n.md∧z.data=n.data:=by
   intro z hz ez hz0
   by_cases hc:z.md=n.md∧z.data=n.data
   ·exact hc
   ·exfalso
    have:qdG t n=true:=by
     unfold qdG;rw [Bool.and_eq_true];refine ⟨by simpa using hz0,List.any_eq_true.2 ⟨z,hz,?_⟩⟩;rw [Bool.and_eq_true];refine ⟨by simpa using ez,?_⟩;rcases Classical.em (z.md=n.md)with em|em
     ·have ed: ¬z.data=n.data:=fun e'=>hc ⟨em,e'⟩;simp [em,ed]
     ·simp [em]
    rw [h4]at this;cases this
  rcases List.mem_append.1 hx with a|a<;>rcases List.mem_append.1 hy with b|b
  ·exact h.link x a y b e hne
  ·obtain rfl:y=n:=by simpa using b
   exact key x a e (by rw [←e];exact hne)
  ·obtain rfl:x=n:=by simpa using a
   have:=key y b e.symm hne;exact ⟨this.1.symm,this.2.symm⟩
  ·obtain rfl:x=n:=by simpa using a
   obtain rfl:y=x:=by simpa using b
   exact ⟨rfl,rfl⟩
theorem q33:Sound []:=⟨List.Pairwise.nil,fun n h=>by simp at h,fun n h=>by simp at h,fun n h=>by simp at h⟩
theorem qhC (t:List NodeV):qc4 [] t=0↔Sound t:=by
 rw [q27];constructor
 ·intro h
  have key: ∀k,k≤t.length→Sound (t.take k):=by
   intro k
   induction k with
   |zero=>intro _;rw [List.take_zero];exact q33
   |succ k ih=>
    intro hk;rw [List.take_succ_eq_append_getElem (by omega)];exact qhD (ih (by omega)) (by have:=h k (by omega);rwa [List.nil_append]at this)
  have:=key t.length (Nat.le_refl _)
  rwa [List.take_length]at this
 ·intro h k hk;rw [List.nil_append,qgB];refine ⟨h.node _ (List.getElem_mem hk),fun x hx=> ?_,?_,?_⟩
  ·cases k with
   |zero=>simp at hx
   |succ k=>
    rw [List.take_succ_eq_append_getElem (by omega),List.getLast?_append]at hx;simp only [List.getLast?_singleton,Option.some_or,Option.some.injEq]at hx;subst hx;exact qbW h.rises k (k+1) (by omega) hk (by omega)
  ·unfold upOk;rw [Bool.or_eq_true];rcases h.up _ (List.getElem_mem hk)with e|⟨d,hd,e1,e2⟩
   ·exact .inl (by simpa using e)
   ·by_cases hu:upL t[k].path= []
    ·exact .inl (by simpa using hu)
    ·refine .inr (List.any_eq_true.2 ⟨d,qfT h.rises k hk d hd (by rw [e1];exact qiS hu),?_⟩);simp [e1,e2]
  ·rw [Bool.eq_false_iff];intro hl;unfold qdG at hl;rw [Bool.and_eq_true]at hl;obtain ⟨z,hz,hz2⟩:=List.any_eq_true.1 hl.2;rw [Bool.and_eq_true]at hz2
   have h1:=h.link z (List.mem_of_mem_take hz) _ (List.getElem_mem hk) (by simpa using hz2.1) (by
    have e1:z.same=t[k].same:=by simpa using hz2.1
    rw [e1];simpa using hl.1)
   simp [h1.1,h1.2]at hz2
theorem qaT (t:List NodeV):qaO t=0↔t.length≤40∧Sound t:=by
 unfold qaO
 by_cases h:40<t.length
 ·rw [if_pos h];exact ⟨fun e=>absurd e (by decide),fun e=>by omega⟩
 ·rw [if_neg h,qhC];exact ⟨fun e=>⟨by omega,e⟩,fun e=>e.2⟩
theorem quK (a b:List (List UInt8)) (ha:a≠ []) (hb:b≠ []):qjG (a++b)=qjG a++47::qjG b:=by
 induction a with
 |nil=>exact absurd rfl ha
 |cons x a ih=>
  by_cases h:a= []
  ·subst h;rw [List.cons_append,List.nil_append,qdQ _ _ hb];rfl
  ·rw [List.cons_append,qdQ _ _ (by simp [h]),qdQ _ _ h,ih h];simp
theorem qp2 {p s:List UInt8} (h:s≠ []):inB p s=true↔ ∃r,p=s++47::r:=by
 rw [zd2 h,decide_eq_true_eq];constructor
 ·rintro ⟨r,e⟩;exact ⟨r,by rw [←e];simp⟩
 ·rintro ⟨r,rfl⟩;exact ⟨r,by simp⟩
theorem up_in {p s:List UInt8} (h:s≠ []) (hi:inB p s=true):upL p=s∨inB (upL p) s=true:=by
 obtain ⟨r,rfl⟩:=(qp2 h).1 hi
 have e:upL (s++47::r)=qjG (qaI 47 s++(qaI 47 r).dropLast):=by
  unfold upL;rw [qdN,List.dropLast_append_of_ne_nil (qbH 47 r)]
 by_cases hd:(qaI 47 r).dropLast= []
 ·rw [hd,List.append_nil,qdP]at e;exact .inl e
 ·rw [quK _ _ (qbH 47 s) hd,qdP]at e;exact .inr ((qp2 h).2 ⟨_,e⟩)
theorem path_ne {n:NodeV} (h:nodE n=0):n.path≠ []:=by
 intro e;unfold nodE at h;rw [e,show qa6 []=1 from rfl,if_pos (by decide)]at h;exact absurd h (by decide)
theorem qhQ {t:List NodeV} {s:List UInt8} :qaR t s=t.length↔ ∀n∈t,n.path≠s:=by
 constructor
 ·intro h n hn;obtain ⟨i,hi,rfl⟩:=List.getElem_of_mem hn;exact qsB t s i (by rw [h];exact hi) hi
 ·intro h;rcases Nat.lt_or_eq_of_le (qeB t s)with h'|h'
  ·exact absurd (qf6 t s h') (h _ (List.getElem_mem h'))
  ·exact h'
theorem q66 {t:List NodeV} (h:qeW t) {n:NodeV} (hn:n∈t): ∃hk:qaR t n.path<t.length,t[qaR t n.path]=n:=by
 have hk:qaR t n.path<t.length:=by
  rcases Nat.lt_or_eq_of_le (qeB t n.path)with h'|h'
  ·exact h'
  ·exact absurd rfl (qhQ.1 h' n hn)
 refine ⟨hk,?_⟩;obtain ⟨i,hi,rfl⟩:=List.getElem_of_mem hn;have he:=qf6 t _ hk;rcases Nat.lt_trichotomy (qaR t t[i].path) i with h'|h'|h'
 ·exact absurd (qbW h _ _ hk hi h') (by rw [he];exact qgQ _)
 ·simp only [h']
 ·exact absurd (qbW h _ _ hi hk h') (by rw [he];exact qgQ _)
theorem zbD {t:List NodeV} {n x:NodeV} :x∈putL t n↔x=n∨(x∈t∧x.path≠n.path):=by
 unfold putL;rw [List.mem_append,List.mem_cons,List.mem_filter,List.mem_filter];have h0:x.path≠n.path↔pcmp x.path n.path≠0:=not_congr (qeM _ _).symm;have hb:=qj7 x.path n.path;rw [h0];simp only [decide_eq_true_eq];constructor
 ·rintro (⟨a,b⟩|a|⟨a,b⟩)
  ·exact .inr ⟨a,by omega⟩
  ·exact .inl a
  ·exact .inr ⟨a,by omega⟩
 ·rintro (a|⟨a,b⟩)
  ·exact .inr (.inl a)
  ·rcases Int.lt_or_lt_of_ne b with c|c
   ·exact .inl ⟨a,c⟩
   ·exact .inr (.inr ⟨a,c⟩)
def AllLt (t:List NodeV) (p:List UInt8):Prop:= ∀x∈t,pcmp x.path p<0
theorem putL_lt {t:List NodeV} {n:NodeV} (h:AllLt t n.path):putL t n=t++ [n]:=by
 have e1:t.filter (fun x=>decide (pcmp x.path n.path<0))=t:=List.filter_eq_self.2 fun x hx=>by simpa using h x hx
 have e2:t.filter (fun x=>decide (0<pcmp x.path n.path))= []:=List.filter_eq_nil_iff.2 fun x hx=>by have:=h x hx;simp;omega
 unfold putL;rw [e1,e2]
def qaG (t:List NodeV) (i:Nat):Int:=(t[i]?.map NodeV.same).getD 0
theorem qbL {t:List NodeV} {i:Nat} (h:i<t.length):qaG t i=t[i].same:=by unfold qaG;rw [List.getElem?_eq_getElem h];rfl
def eqF (t:List NodeV) (k i:Nat):Bool:=decide (qaG t i≠0∧qaG t k=qaG t i)
def qaB (t:List NodeV) (i:Nat):Nat:=((List.range i).find? fun k=>eqF t k i).getD i
theorem qbU (t:List NodeV) (i:Nat):qaB t i≤i∧(qaB t i<i→eqF t (qaB t i) i=true)∧ ∀k,k<qaB t i→eqF t k i=false:=by
 unfold qaB;cases h:(List.range i).find? fun k=>eqF t k i with
 |none=>
  rw [Option.getD_none];refine ⟨Nat.le_refl _,fun h=>absurd h (Nat.lt_irrefl _),fun k hk=> ?_⟩;have:=List.find?_eq_none.1 h k (List.mem_range.2 hk);simpa using this
 |some m=>
  rw [Option.getD_some];have hm:=List.find?_some h;have hmem:=List.mem_range.1 (List.mem_of_find?_eq_some h);refine ⟨Nat.le_of_lt hmem,fun _=>hm,fun k hk=> ?_⟩;obtain ⟨h1,la,lb,h2,h3⟩:=List.find?_eq_some_iff_append.1 h
  have hk2:k∈la:=by
   have hl:la.length=m:=by
    have e1:(List.range i)[la.length]?=some m:=by rw [h2];simp
    have e2:la.length<i:=by
     have:=congrArg List.length h2;simp at this;omega
    rw [List.getElem?_range e2]at e1;simpa using e1
   have e3:(List.range i)[k]?=some k:=List.getElem?_range (by omega);rw [h2,List.getElem?_append_left (by omega)]at e3;exact List.mem_of_getElem? e3
  have:=h3 k hk2;simpa using this
theorem qnY {t:List NodeV} {i k:Nat} (hk:k≤i) (h: ∀j,j<k→eqF t j i=false) (he:k=i∨eqF t k i=true):qaB t i=k:=by
 obtain ⟨h1,h2,h3⟩:=qbU t i;rcases Nat.lt_trichotomy (qaB t i) k with hl|hl|hl
 ·have:=h _ hl;rw [h2 (by omega)]at this;cases this
 ·exact hl
 ·rcases he with e|e
  ·omega
  ·rw [h3 k hl]at e;cases e
def isF (t:List NodeV) (i k:Nat):Bool:=decide (k=i)||(decide (0<qaG t i) &&decide (qaG t k=qaG t i))
def qcN (t:List NodeV) (i:Nat):Nat:=(List.range t.length).countP (isF t i)
theorem qlG (t:List NodeV) (i:Nat):qaB t (qaB t i)=qaB t i:=by
 obtain ⟨h1,h2,h3⟩:=qbU t i;refine qnY (Nat.le_refl _) (fun j hj=> ?_) (.inl rfl);rcases Nat.lt_or_eq_of_le h1 with hl|hl
 ·have e:=h2 hl;have f:=h3 j hj;unfold eqF at e f⊢;obtain ⟨e1,e2⟩:=of_decide_eq_true e;rw [e2];exact f
 ·rw [hl]at hj⊢;exact h3 j (by rw [hl];exact hj)
theorem qjM {t:List NodeV} (h0: ∀i,0≤qaG t i) (i j:Nat):qaB t j=qaB t i↔isF t i j=true:=by
 obtain ⟨i1,i2,i3⟩:=qbU t i;obtain ⟨j1,j2,j3⟩:=qbU t j;unfold isF;rw [Bool.or_eq_true,decide_eq_true_eq,Bool.and_eq_true,decide_eq_true_eq,decide_eq_true_eq];constructor
 ·intro h
  by_cases hij:j=i
  ·exact .inl hij
  ·right;rw [h]at j1 j2;have hi:qaB t i<i→qaG t i≠0∧qaG t (qaB t i)=qaG t i:=fun hl=>of_decide_eq_true (i2 hl);have hj:qaB t i<j→qaG t j≠0∧qaG t (qaB t i)=qaG t j:=fun hl=>of_decide_eq_true (j2 hl);have hi0:=h0 i;have hj0:=h0 j;rcases Nat.lt_or_eq_of_le i1 with a|a
   ·obtain ⟨a1,a2⟩:=hi a;rcases Nat.lt_or_eq_of_le j1 with b|b
    ·obtain ⟨b1,b2⟩:=hj b;exact ⟨by omega,by omega⟩
    ·rw [b]at a2;exact ⟨by omega,a2⟩
   ·rcases Nat.lt_or_eq_of_le j1 with b|b
    ·obtain ⟨b1,b2⟩:=hj b;rw [a]at b2;exact ⟨by omega,b2.symm⟩
    ·omega
 ·rintro (rfl|⟨h1,h2⟩)
  ·rfl
  ·have hne:qaG t i≠0:=by omega
   have hk:qaB t i≤j:=by
    apply Classical.byContradiction;intro hc;have:=i3 j (by omega);unfold eqF at this;exact of_decide_eq_false this ⟨hne,h2⟩
   refine qnY hk (fun k hk2=> ?_) ?_
   ·have:=i3 k hk2;unfold eqF at this⊢;rw [h2];exact this
   ·right;unfold eqF;rw [h2];apply decide_eq_true;refine ⟨hne,?_⟩;rcases Nat.lt_or_eq_of_le i1 with a|a
    ·exact (of_decide_eq_true (i2 a):qaG t i≠0∧qaG t (qaB t i)=qaG t i).2
    ·rw [a]
theorem quC {t:List NodeV} (h0: ∀i,0≤qaG t i) (i:Nat):qcN t i=(List.range t.length).countP fun j=>decide (qaB t j=qaB t i):=by
 unfold qcN;apply List.countP_congr;intro j _;rw [decide_eq_true_eq,qjM h0]
def qeT (t:List NodeV) (i:Nat) (x:NodeV):NodeV:= {x with same:=if 1<qcN t i then (qaB t i:Int)+1 else 0}
def qa8 (t:List NodeV):List NodeV:=t.mapIdx fun i x=>qeT t i x
theorem qbA (t:List NodeV):(qa8 t).length=t.length:=by unfold qa8;rw [List.length_mapIdx]
theorem qcY (t:List NodeV) (i:Nat) (h:i<t.length):(qa8 t)[i]'(by rw [qbA];exact h)=qeT t i t[i]:=by unfold qa8;rw [List.getElem_mapIdx]
theorem qi8 {x:NodeV} (h:nodE x=0):nodK x=0:=by
 unfold nodE at h
 split at h
 ·rename_i h1;exact absurd h h1
 ·split at h
  ·rename_i h1;exact absurd h h1
  ·exact h
theorem qfD {x:NodeV} (h:nodE x=0):0≤x.same∧(x.same≠0→x.kind=1):=by
 have hk:=qi8 h;unfold nodK at hk
 split at hk
 ·rename_i h1
  split at hk
  ·cases hk
  ·rename_i h2;refine ⟨?_,fun _=>h1⟩;apply Classical.byContradiction;intro hc;exact h2 (.inr (by omega))
 ·split at hk
  ·split at hk
   ·cases hk
   ·rename_i h2
    have h0:x.same=0:=by
     apply Classical.byContradiction;intro hc;exact h2 (.inr (.inl hc))
    exact ⟨by omega,fun hc=>absurd h0 hc⟩
  ·cases hk
theorem qnC {x:NodeV} (h:nodE x=0) {z:Int} (hz:0≤z) (hk:z≠0→x.kind=1):nodE {x with same:=z} =0:=by
 have h1:=qi8 h;unfold nodE at h⊢;simp only
 by_cases hp:qa6 x.path≠0
 ·rw [if_pos hp]at h;exact absurd h hp
 ·rw [if_neg hp]at h⊢
  by_cases hm:metE x.md≠0
  ·rw [if_pos hm]at h;exact absurd h hm
  ·rw [if_neg hm];have h2:=h1;unfold nodK at h2⊢;simp only
   by_cases k1:x.kind=1
   ·rw [if_pos k1]at h2⊢
    by_cases k2:x.target≠ []∨x.same<0
    ·rw [if_pos k2]at h2;cases h2
    ·rw [if_neg k2]at h2
     rw [if_neg (fun hc=>by
      rcases hc with hc|hc
      ·exact k2 (.inl hc)
      ·omega)]
     exact h2
   ·rw [if_neg k1]at h2⊢
    have hz0:z=0:=by
     apply Classical.byContradiction;intro hc;exact k1 (hk hc)
    by_cases k2:x.kind=2∨x.kind=3
    ·rw [if_pos k2]at h2⊢
     have hs:x.same=0:=by
      apply Classical.byContradiction;intro hc;rw [if_pos (.inr (.inl hc))]at h2;cases h2
     rw [hs]at h2;rw [hz0];exact h2
    ·rw [if_neg k2]at h2;cases h2
theorem Sound.pos {t:List NodeV} (h:Sound t) (i:Nat):0≤qaG t i:=by
 by_cases hi:i<t.length
 ·rw [qbL hi];exact (qfD (h.node _ (List.getElem_mem hi))).1
 ·unfold qaG;rw [List.getElem?_eq_none (by omega)];exact Int.le_refl _
theorem count_one (i n:Nat):(List.range n).countP (fun k=>decide (k=i))≤if i<n then 1 else 0:=by
 induction n with
 |zero=>simp
 |succ n ih=>
  rw [List.range_succ,List.countP_append,List.countP_singleton]
  by_cases h1:n=i
  ·rw [if_pos (decide_eq_true h1),if_pos (by omega)];rw [if_neg (by omega)]at ih;omega
  ·rw [if_neg (by simpa using h1)]
   by_cases h2:i<n
   ·rw [if_pos h2]at ih;rw [if_pos (by omega)];omega
   ·rw [if_neg h2]at ih;rw [if_neg (by omega)];omega
theorem qw3 {t:List NodeV} {i:Nat} (h:1<qcN t i):0<qaG t i:=by
 apply Classical.byContradiction;intro hc
 have e:qcN t i=(List.range t.length).countP fun k=>decide (k=i):=by
  unfold qcN;apply List.countP_congr;intro k _;unfold isF;rw [decide_eq_false hc,Bool.false_and,Bool.or_false]
 have h2:=count_one i t.length;rw [←e]at h2
 split at h2<;>omega
theorem qzH {t:List NodeV} (h:Sound t) {k i:Nat} (hk:k<t.length) (hi:i<t.length) (he:eqF t k i=true):t[k].md=t[i].md∧t[k].data=t[i].data:=by
 obtain ⟨h1,h2⟩:qaG t i≠0∧qaG t k=qaG t i:=of_decide_eq_true he;rw [qbL hi]at h1 h2;rw [qbL hk]at h2;exact h.link _ (List.getElem_mem hk) _ (List.getElem_mem hi) h2 (by rw [h2];exact h1)
theorem qvJ (t:List NodeV):(qa8 t).map (·.path)=t.map (·.path):=by
 apply List.ext_getElem
 ·rw [List.length_map,List.length_map,qbA]
 ·intro i h1 h2;rw [List.length_map]at h2;rw [List.getElem_map,List.getElem_map,qcY t i h2];rfl
theorem qjC {t:List NodeV} {x:NodeV} (h:x∈qa8 t): ∃i,∃hi:i<t.length,x=qeT t i t[i]:=by
 obtain ⟨i,hi,e⟩:=List.getElem_of_mem h;have hi2:i<t.length:=by rwa [qbA]at hi
 exact ⟨i,hi2,by rw [←e,qcY t i hi2]⟩
theorem qpA {t:List NodeV} (h:Sound t):Sound (qa8 t):=by
 have h0:=fun i=>h.pos i;refine ⟨?_,fun x hx=> ?_,fun x hx=> ?_,fun x hx y hy he hne=> ?_⟩
 ·have h1:(t.map (·.path)).Pairwise fun a b=>pcmp a b= -1:=List.pairwise_map.2 h.rises;rw [←qvJ]at h1;exact List.pairwise_map.1 h1
 ·obtain ⟨i,hi,rfl⟩:=qjC hx;have hn:=h.node _ (List.getElem_mem hi);refine qnC hn ?_ fun hz=> ?_
  ·split<;>omega
  ·split at hz
   ·rename_i hg;have:=qw3 hg;rw [qbL hi]at this;exact (qfD hn).2 (by omega)
   ·exact absurd rfl hz
 ·obtain ⟨i,hi,rfl⟩:=qjC hx;rcases h.up _ (List.getElem_mem hi)with h1|⟨d,hd,h1,h2⟩
  ·exact .inl h1
  ·obtain ⟨j,hj,rfl⟩:=List.getElem_of_mem hd;refine .inr ⟨qeT t j t[j],?_,h1,h2⟩;rw [←qcY t j hj];exact List.getElem_mem _
 ·obtain ⟨i,hi,rfl⟩:=qjC hx;obtain ⟨j,hj,rfl⟩:=qjC hy;have e1:(qeT t i t[i]).same=if 1<qcN t i then (qaB t i:Int)+1 else 0:=rfl
  have e2:(qeT t j t[j]).same=if 1<qcN t j then (qaB t j:Int)+1 else 0:=rfl
  rw [e1]at he hne;rw [e2]at he
  have c1:1<qcN t i:=by
   apply Classical.byContradiction;intro hc;exact hne (if_neg hc)
  rw [if_pos c1]at he
  have c2:1<qcN t j:=by
   apply Classical.byContradiction;intro hc;rw [if_neg hc]at he;omega
  rw [if_pos c2]at he;have h3:qaB t i=qaB t j:=by omega
  have h4:=(qjM h0 j i).1 h3;unfold isF at h4;rw [Bool.or_eq_true,decide_eq_true_eq,Bool.and_eq_true,decide_eq_true_eq,decide_eq_true_eq]at h4;rcases h4 with rfl|⟨h4,h5⟩
  ·exact ⟨rfl,rfl⟩
  ·exact qzH h hi hj (decide_eq_true ⟨by omega,h5⟩)
def q8L (a b:List NodeV):Prop:=a.length=b.length∧(∀i (h:i<a.length) (h2:i<b.length),({a[i]with same:=0} :NodeV)= {b[i]with same:=0})∧
 ∀i k,k<i→i<a.length→(0<qaG a i∧qaG a i=qaG a k↔0<qaG b i∧qaG b i=qaG b k)
structure EntV where
 path:List UInt8
 kind:Int
 target:List UInt8
 md:MetaV
 data:List UInt8
instance:Inhabited EntV:=⟨⟨[],0, [],⟨0,0,0, [], [],0,0⟩, []⟩⟩
theorem EntV.ext_iff' (a b:EntV):(a.path=b.path∧a.kind=b.kind∧a.target=b.target∧a.md=b.md∧a.data=b.data)↔a=b:=by
 constructor
 ·rintro ⟨h1,h2,h3,h4,h5⟩;cases a;cases b;simp_all
 ·rintro rfl;exact ⟨rfl,rfl,rfl,rfl,rfl⟩
instance:DecidableEq EntV:=fun a b=>decidable_of_iff _ (EntV.ext_iff' a b)
def EntV.nod (x:EntV):NodeV:=⟨x.path,x.kind,0,x.target,x.md,x.data⟩
def NodeV.ent (x:NodeV):EntV:=⟨x.path,x.kind,x.target,x.md,x.data⟩
def entK (x:EntV):Int:=
 if x.kind<1∨4<x.kind then 2
 else if (2<x.kind∧x.target= [])∨(¬2<x.kind∧x.target≠ [])∨(1<x.kind∧x.data≠ [])then 3
 else if 2000<x.data.length∨400<x.target.length then 1
 else if x.kind=4 then qa6 x.target
 else if hasB 0 x.target=true then 3 else 0
def entE (x:EntV):Int:=if qa6 x.path≠0 then qa6 x.path else if metE x.md≠0 then metE x.md else entK x
theorem qfK {x:EntV} (h:entE x=0):qa6 x.path=0∧metE x.md=0∧entK x=0:=by
 unfold entE at h
 split at h
 ·rename_i h1;exact absurd h h1
 ·rename_i h1
  split at h
  ·rename_i h2;exact absurd h h2
  ·rename_i h2;exact ⟨by simpa using h1,by simpa using h2,h⟩
def qaS (l:List EntV) (s:List UInt8):Nat:=qaR (l.map EntV.nod) s
theorem ql3 (l:List EntV) (s:List UInt8):qaS l s≤l.length:=by
 have:=qeB (l.map EntV.nod) s
 rwa [List.length_map]at this
theorem qdC (l:List EntV) (s:List UInt8) (h:qaS l s<l.length):(l[qaS l s]'h).path=s:=by
 have:=qf6 (l.map EntV.nod) s (by rw [List.length_map];exact h);rw [List.getElem_map]at this;exact this
theorem qjO (l:List EntV) (s:List UInt8) (k:Nat) (h:k<qaS l s) (hk:k<l.length):l[k].path≠s:=by
 have:=qsB (l.map EntV.nod) s k h (by rw [List.length_map];exact hk);rw [List.getElem_map]at this;exact this
theorem qeI (l:List EntV) (s:List UInt8) (k:Nat) (hk:k<l.length) (h:k≤qaS l s) (e:l[k].path=s):qaS l s=k:=
 qp7 (l.map EntV.nod) s k (by rw [List.length_map];exact hk) h (by rw [List.getElem_map];exact e)
theorem q2B (l:List EntV) (s:List UInt8) (k:Nat) (hk:k<l.length) (h:k≤qaS l s) (e:l[k].path≠s):k+1≤qaS l s:=
 qp8 (l.map EntV.nod) s k (by rw [List.length_map];exact hk) h (by rw [List.getElem_map];exact e)
def upE (l:List EntV) (p:List UInt8):Bool:=decide (upL p= [])||if h:qaS l (upL p)<l.length then decide ((l[qaS l (upL p)]'h).kind=2)else false
def aimE (l:List EntV) (x:EntV):Bool:=decide (x.kind≠4)||if h:qaS l x.target<l.length then decide ((l[qaS l x.target]'h).kind=1) &&decide ((l[qaS l x.target]'h).md=x.md)else false
def eatE (l:List EntV) (x:EntV):Int:=
 if entE x≠0 then entE x
 else if (match l.getLast? with|some y=> !decide (pcmp y.path x.path= -1)|none=>false)=true then 6
 else if upE l x.path=false then 10
 else if aimE l x=false then 11
 else 0
def qb3 (l:List EntV):List EntV→Int
 | []=>0
 |x::m=>if eatE l x≠0 then eatE l x else qb3 (l++ [x]) m
def qbJ (l:List EntV):Int:=if 40<l.length then 1 else qb3 [] l
theorem qp9 (t l m:List EntV) (h:qb3 t l=0):qb3 t (l++m)=qb3 (t++l) m:=by
 induction l generalizing t with
 |nil=>simp
 |cons n l ih=>
  rw [qb3]at h;rw [List.cons_append,qb3]
  by_cases e:eatE t n≠0
  ·rw [if_pos e]at h;exact absurd h e
  ·rw [if_neg e]at h⊢;rw [ih _ h];simp
theorem qxS (l:List EntV) (k:Nat) (hk:k<l.length) (h:qb3 [] (l.take k)=0) (he:eatE (l.take k) l[k]≠0):qb3 [] l=eatE (l.take k) l[k]:=by
 have h1:=qp9 [] (l.take k) (l.drop k) h;rw [List.take_append_drop,List.nil_append,List.drop_eq_getElem_cons hk,qb3,if_pos he]at h1;exact h1
theorem qxT (l:List EntV) (k:Nat) (hk:k<l.length) (h:qb3 [] (l.take k)=0) (he:eatE (l.take k) l[k]=0):qb3 [] (l.take (k+1))=0:=by
 have h1:=qp9 [] (l.take k) [l[k]] h;rw [←List.take_succ_eq_append_getElem hk,List.nil_append,qb3,if_neg (by simp [he]),qb3]at h1;exact h1
theorem qfI (l:List EntV): ∀s,qb3 s l=0↔ ∀k (hk:k<l.length),eatE (s++l.take k) l[k]=0:=by
 induction l with
 |nil=>intro s;simp [qb3]
 |cons n l ih=>
  intro s;rw [qb3];constructor
  ·intro h k hk
   by_cases e:eatE s n≠0
   ·rw [if_pos e]at h;exact absurd h e
   ·rw [if_neg e]at h;cases k with
    |zero=>simp only [List.take_zero,List.append_nil,List.getElem_cons_zero];simpa using e
    |succ k=>
     have:=(ih _).1 h k (by simpa using hk);simpa using this
  ·intro h
   have h0:eatE s n=0:=by
    have:=h 0 (by simp);simpa only [List.take_zero,List.append_nil,List.getElem_cons_zero]using this
   rw [if_neg (by simp [h0])];refine (ih _).2 fun k hk=> ?_;have:=h (k+1) (by simpa using hk);simpa using this
theorem qfL (l:List EntV) (x:EntV):eatE l x=0↔entE x=0∧(∀y,l.getLast?=some y→pcmp y.path x.path= -1)∧upE l x.path=true∧aimE l x=true:=by
 unfold eatE
 by_cases h1:entE x≠0
 ·rw [if_pos h1];exact ⟨fun h=>absurd h h1,fun h=>absurd h.1 h1⟩
 ·rw [if_neg h1];have h1':entE x=0:=by simpa using h1
  cases hg:l.getLast? with
  |none=>
   simp only [Bool.false_eq_true,if_false];cases upE l x.path<;>cases aimE l x<;>simp [h1']
  |some y=>
   by_cases h2:pcmp y.path x.path= -1
   ·cases upE l x.path<;>cases aimE l x<;>simp [h1',h2]
   ·simp [h2]
def qcW (t:List NodeV) (i:Nat) (x:NodeV):EntV:=
 if 0<x.same∧qaB t i<i then ⟨x.path,4,((t[qaB t i]?).map NodeV.path).getD [],x.md, []⟩else x.ent
def qaM (t:List NodeV):List EntV:=t.mapIdx fun i x=>qcW t i x
theorem qaQ (t:List NodeV):(qaM t).length=t.length:=by unfold qaM;rw [List.length_mapIdx]
theorem qcV (t:List NodeV) (i:Nat) (h:i<t.length):(qaM t)[i]'(by rw [qaQ];exact h)=qcW t i t[i]:=by
 unfold qaM;rw [List.getElem_mapIdx]
def qd2 (l:List EntV) (i:Nat) (x:EntV):NodeV:=
 if x.kind=4 then ⟨x.path,1,(qaS l x.target:Nat)+1, [],x.md,((l[qaS l x.target]?).map EntV.data).getD []⟩
 else ⟨x.path,x.kind,if x.kind=1∧(l.any fun y=>decide (y.kind=4) &&decide (y.target=x.path))=true then (i:Int)+1 else 0,x.target,x.md,x.data⟩
def qa9 (l:List EntV):List NodeV:=l.mapIdx fun i x=>qd2 l i x
theorem qa7 (l:List EntV):(qa9 l).length=l.length:=by unfold qa9;rw [List.length_mapIdx]
theorem qeA (l:List EntV) (i:Nat) (h:i<l.length):(qa9 l)[i]'(by rw [qa7];exact h)=qd2 l i l[i]:=by
 unfold qa9;rw [List.getElem_mapIdx]
structure LowAt (t:List NodeV) (p:List UInt8) (i:Nat):Prop where
 le:i≤t.length
 lt: ∀k (hk:k<t.length),k<i→pcmp t[k].path p<0
 ge: ∀k (hk:k<t.length),i≤k→ ¬pcmp t[k].path p<0
theorem qpZ {t:List NodeV} (h:qeW t) {p:List UInt8} (k m:Nat) (hm:m<t.length) (hkm:k≤m) (hl:pcmp t[m].path p<0):pcmp (t[k]'(by omega)).path p<0:=by
 rcases Nat.lt_or_eq_of_le hkm with h'|h'
 ·have h1:=qbW h k m (by omega) hm h';have hb:=qj7 t[m].path p;have:=qmW h1 (show pcmp t[m].path p= -1 by omega);omega
 ·subst h';exact hl
theorem qw5 {t:List NodeV} (h:qeW t) {p:List UInt8} (k m:Nat) (hm:m<t.length) (hkm:k≤m) (hl: ¬pcmp (t[k]'(by omega)).path p<0): ¬pcmp t[m].path p<0:=
 fun e=>hl (qpZ h k m hm hkm e)
theorem qsD {t:List NodeV} {p:List UInt8} {i:Nat} (h:LowAt t p i):t.filter (fun x=>decide (pcmp x.path p<0))=t.take i:=by
 conv=>lhs;rw [←List.take_append_drop i t]
 rw [List.filter_append]
 have e1:(t.take i).filter (fun x=>decide (pcmp x.path p<0))=t.take i:=List.filter_eq_self.2 fun x hx=>by
  obtain ⟨k,hk,rfl⟩:=List.mem_take_iff_getElem.1 hx;exact decide_eq_true (h.lt k (by omega) (by omega))
 have e2:(t.drop i).filter (fun x=>decide (pcmp x.path p<0))= []:=List.filter_eq_nil_iff.2 fun x hx=>by
  obtain ⟨k,hk,rfl⟩:=List.getElem_of_mem hx;rw [List.length_drop]at hk;rw [List.getElem_drop];have:=h.ge (i+k) (by omega) (by omega);simpa using this
 rw [e1,e2,List.append_nil]
theorem qsE {t:List NodeV} (hr:qeW t) {p:List UInt8} {i e:Nat} (h:LowAt t p i) (he:e=if hi:i<t.length then (if pcmp t[i].path p=0 then i+1 else i)else i):t.filter (fun x=>decide (0<pcmp x.path p))=t.drop e:=by
 have hie:i≤e:=by rw [he];split<;>(try split)<;>omega
 conv=>lhs;rw [←List.take_append_drop e t]
 rw [List.filter_append]
 have e1:(t.take e).filter (fun x=>decide (0<pcmp x.path p))= []:=List.filter_eq_nil_iff.2 fun x hx=>by
  obtain ⟨k,hk,rfl⟩:=List.mem_take_iff_getElem.1 hx;rcases Nat.lt_or_ge k i with h'|h'
  ·have:=h.lt k (by omega) h';simp;omega
  ·have hi:i<t.length:=by omega
   rw [dif_pos hi]at he
   by_cases hz:pcmp t[i].path p=0
   ·rw [if_pos hz]at he;obtain rfl:k=i:=by omega
    simp [hz]
   ·rw [if_neg hz]at he;omega
 have e2:(t.drop e).filter (fun x=>decide (0<pcmp x.path p))=t.drop e:=List.filter_eq_self.2 fun x hx=>by
  obtain ⟨k,hk,rfl⟩:=List.getElem_of_mem hx;rw [List.length_drop]at hk;rw [List.getElem_drop];have hi:i<t.length:=by omega
  rw [dif_pos hi]at he;refine decide_eq_true ?_;have h1:=h.ge (e+k) (by omega) (by omega)
  by_cases hz:pcmp t[i].path p=0
  ·rw [if_pos hz]at he;have hlt:=qbW hr i (e+k) hi (by omega) (by omega);have hp:=(qeM _ _).1 hz;have hn:=qe0 t[e+k].path p;rw [hp]at hlt;omega
  ·rw [if_neg hz]at he
   by_cases hk0:e+k=i
   ·have:pcmp t[e+k].path p≠0:=by
     simp only [hk0];exact hz
    omega
   ·have hlt:=qbW hr i (e+k) hi (by omega) (by omega)
    have hne:pcmp t[e+k].path p≠0:=fun e0=>by
     have hp:=(qeM _ _).1 e0;rw [hp]at hlt;exact h.ge i hi (Nat.le_refl _) (by omega)
    omega
 rw [e1,e2,List.nil_append]
theorem zaL {t:List NodeV} (hr:qeW t) {n:NodeV} {i e:Nat} (h:LowAt t n.path i) (he:e=if hi:i<t.length then (if pcmp t[i].path n.path=0 then i+1 else i)else i):putL t n=t.take i++([n]++t.drop e):=by
 unfold putL;rw [qsD h,qsE hr h he];rfl
theorem q1I {t:List NodeV} (h:Sound t) {n y:NodeV} (hy:y∈t) (hs:y.same=n.same) (h0:n.same≠0):qdG t n= !(decide (y.md=n.md) &&decide (y.data=n.data)):=by
 unfold qdG;rw [decide_eq_true h0,Bool.true_and,Bool.eq_iff_iff,List.any_eq_true];constructor
 ·rintro ⟨x,hx,hx2⟩;rw [Bool.and_eq_true,decide_eq_true_eq]at hx2;have:=h.link x hx y hy (by rw [hx2.1,hs]) (by rw [hx2.1];exact h0);rw [←this.1,←this.2];exact hx2.2
 ·intro e;exact ⟨y,hy,by rw [Bool.and_eq_true,decide_eq_true_eq];exact ⟨hs,e⟩⟩
theorem qw9 {t:List NodeV} {n:NodeV} (h: ∀y∈t,y.same≠n.same):qdG t n=false:=by
 unfold qdG;rw [Bool.and_eq_false_iff];right;rw [Bool.eq_false_iff];intro e;obtain ⟨x,hx,hx2⟩:=List.any_eq_true.1 e;rw [Bool.and_eq_true,decide_eq_true_eq]at hx2;exact h x hx hx2.1
theorem qiH {t:List NodeV} {n:NodeV} (h:n.same=0):qdG t n=false:=by
 unfold qdG;rw [decide_eq_false (by simp [h])];rfl
def fits (l:List UInt8) (i:Nat):Bool:=decide (1≤i∧i≤155∧i+2≤l.length∧l.length≤i+101) &&(l.getD i 0==47)
def qlR (l:List UInt8):Option Nat:=(List.range l.length).find? (fits l)
theorem q63 {l:List UInt8} {i:Nat} (h:fits l i=true):i<l.length:=by
 unfold fits at h;rw [Bool.and_eq_true,decide_eq_true_eq]at h;omega
theorem qr8 {l:List UInt8} {i:Nat} (h:fits l i=true):1≤i∧i≤155∧i+2≤l.length∧l.length≤i+101:=by
 unfold fits at h;rw [Bool.and_eq_true,decide_eq_true_eq]at h;exact h.1
theorem qu2 {l:List UInt8} {i:Nat} (h:fits l i=true):l.getD i 0=47:=by
 unfold fits at h;rw [Bool.and_eq_true,beq_iff_eq]at h;exact h.2
theorem fits_mk {l:List UInt8} {i:Nat} (h:1≤i∧i≤155∧i+2≤l.length∧l.length≤i+101) (e:l.getD i 0=47):fits l i=true:=by
 unfold fits;rw [Bool.and_eq_true,decide_eq_true_eq,beq_iff_eq];exact ⟨h,e⟩
theorem q62 {l:List UInt8} {i:Nat} (h: ¬(1≤i∧i≤155∧i+2≤l.length∧l.length≤i+101)):fits l i=false:=by
 rw [←Bool.not_eq_true];exact fun e=>h (qr8 e)
theorem fits_ne {l:List UInt8} {i:Nat} (h:l.getD i 0≠47):fits l i=false:=by
 rw [←Bool.not_eq_true];exact fun e=>h (qu2 e)
def q1D (l:List UInt8) (k:Nat):Prop:= ∀j,j<k→fits l j=false
theorem q1C {l:List UInt8} {k:Nat} (h:q1D l k) (e:fits l k=false):q1D l (k+1):=fun j hj=>by
 rcases Nat.lt_or_eq_of_le (Nat.le_of_lt_succ hj)with a|a
 ·exact h j a
 ·rw [a];exact e
theorem q2M {l:List UInt8} {k:Nat} (h:q1D l k) (e:fits l k=true):qlR l=some k:=by
 unfold qlR;rw [List.find?_range_eq_some];exact ⟨e,List.mem_range.2 (q63 e),fun j hj=>by rw [h j hj];rfl⟩
theorem q2N {l:List UInt8} {k:Nat} (h:q1D l k) (hk:l.length<k+2∨155<k):qlR l=none:=by
 unfold qlR;rw [List.find?_range_eq_none];intro j hj
 by_cases a:j<k
 ·rw [h j a];rfl
 ·rw [q62 (by omega)];rfl
theorem qsO {l:List UInt8} {k:Nat} (h:qlR l=some k):fits l k=true:=by
 unfold qlR at h;rw [List.find?_range_eq_some]at h;exact h.1
def qiV (l:List UInt8):Int:=match qlR l with|some k=>k|none=> -1
def cutV (l:List UInt8):List UInt8×List UInt8×Int:=
 if l= []∨hasB 0 l=true then ([], [],3)
 else if l.length≤100 then ([],l,0)
 else match qlR l with
  |some k=>(l.take k,l.drop (k+1),0)
  |none=>([], [],1)
theorem qoB {l:List UInt8} (h:l= []∨hasB 0 l=true):cutV l=([], [],3):=if_pos h
theorem qqF {l:List UInt8} (h:l≠ []) (h0:hasB 0 l=false) (h1:l.length≤100):cutV l=([],l,0):=by
 rw [cutV,if_neg (by rintro (a|a);exact h a;rw [h0]at a;cases a),if_pos h1]
theorem qvC {l:List UInt8} {k:Nat} (h0:hasB 0 l=false) (h1:100<l.length) (e:qlR l=some k):cutV l=(l.take k,l.drop (k+1),0):=by
 rw [cutV,if_neg (by rintro (a|a);rw [a]at h1;exact absurd h1 (by simp);rw [h0]at a;cases a),if_neg (by omega),e]
theorem qvD {l:List UInt8} (h0:hasB 0 l=false) (h1:100<l.length) (e:qlR l=none):cutV l=([], [],1):=by
 rw [cutV,if_neg (by rintro (a|a);rw [a]at h1;exact absurd h1 (by simp);rw [h0]at a;cases a),if_neg (by omega),e]
def qdE (p n:List UInt8):List UInt8:=if p= []then n else p++ [47]++n
def oneV (p n:List UInt8):List UInt8×Int:=
 if n.length<1∨100<n.length∨155<p.length then ([],1)
 else if cutV (qdE p n)=(p,n,0)then (qdE p n,0)
 else ([],3)
theorem qm7 {p n:List UInt8} (h:n.length<1∨100<n.length∨155<p.length):oneV p n=([],1):=if_pos h
theorem q5E {p n:List UInt8} (h: ¬(n.length<1∨100<n.length∨155<p.length)) (e:cutV (qdE p n)=(p,n,0)):oneV p n=(qdE p n,0):=by
 rw [oneV,if_neg h,if_pos e]
theorem q5F {p n:List UInt8} (h: ¬(n.length<1∨100<n.length∨155<p.length)) (e:cutV (qdE p n)≠(p,n,0)):oneV p n=([],3):=by
 rw [oneV,if_neg h,if_neg e]
theorem qsN {l:List UInt8} {p n:List UInt8} (h:cutV l=(p,n,0)):oneV p n=(l,0)∧p.length≤155∧n.length≤100:=by
 have hj:qdE p n=l∧1≤n.length∧n.length≤100∧p.length≤155:=by
  by_cases h1:l= []∨hasB 0 l=true
  ·rw [qoB h1]at h;simp at h
  ·have hne:l≠ []:=fun a=>h1 (.inl a);have h0:hasB 0 l=false:=by rw [←Bool.not_eq_true];exact fun a=>h1 (.inr a)
   have hpos:=List.length_pos_iff.2 hne
   by_cases h2:l.length≤100
   ·rw [qqF hne h0 h2]at h;simp only [Prod.mk.injEq]at h;obtain ⟨rfl,rfl,-⟩:=h;exact ⟨if_pos rfl,hpos,h2,by simp⟩
   ·cases hc:qlR l with
    |none=>rw [qvD h0 (by omega) hc]at h;simp at h
    |some k=>
     have hf:=qsO hc;have hb:=qr8 hf;have hk:=q63 hf;rw [qvC h0 (by omega) hc]at h;simp only [Prod.mk.injEq]at h;obtain ⟨rfl,rfl,-⟩:=h;have hy:=qu2 hf;rw [List.getD_eq_getElem?_getD,List.getElem?_eq_getElem hk]at hy;refine ⟨?_,by rw [List.length_drop];omega,by rw [List.length_drop];omega,by rw [List.length_take];omega⟩
     have hn: ¬l.take k= []:=by
      intro a;have h9:(l.take k).length=0:=by rw [a];rfl
      rw [List.length_take]at h9;omega
     rw [qdE,if_neg hn];have e:l[k]=47:=hy;rw [←e,←List.take_succ_eq_append_getElem hk,List.take_append_drop]
 refine ⟨?_,hj.2.2.2,hj.2.2.1⟩;rw [q5E (by omega) (by rw [hj.1];exact h),hj.1]
theorem cut_bad {l:List UInt8} (h:(cutV l).2.2≠0):(cutV l).1= []∧(cutV l).2.1= []:=by
 revert h;unfold cutV
 split
 ·simp
 ·split
  ·simp
  ·split<;>simp
def xyz (a b c:Nat):List UInt8:=List.replicate a 120++ [47]++List.replicate b 121++ [47]++List.replicate c 122
theorem qfM (r:Nat) (h:r<10):(UInt8.ofNat (48+r)).toNat=48+r:=by rw [UInt8.toNat_ofNat'];omega
theorem qg6 (r:Nat) (h:r<10):Lib.digitVal (UInt8.ofNat (48+r))=some r:=by
 unfold Lib.digitVal;rw [qfM r h,if_pos (by omega)];congr 1;omega
theorem qxV (l r:List UInt8) (acc v:Nat) (h:Lib.decFrom acc l=some v):Lib.decFrom acc (l++r)=Lib.decFrom v r:=by
 induction l generalizing acc with
 |nil=>simp only [Lib.decFrom,Option.some.injEq]at h;subst h;rfl
 |cons c l ih=>
  cases hc:Lib.digitVal c with
  |none=>simp [Lib.decFrom,hc]at h
  |some d=>
   simp only [Lib.decFrom,hc,List.cons_append]at h⊢;exact ih _ h
theorem qcG (u:Nat):Lib.decFrom 0 (Lib.decDigits u)=some u:=by
 induction u using Nat.strongRecOn with
 |_ u ih=>
  by_cases h:u<10
  ·rw [Lib.decDigits,dif_pos h];simp only [Lib.decFrom,qg6 u h];congr 1;omega
  ·rw [Lib.decDigits,dif_neg h,qxV _ _ _ _ (ih (u/10) (by omega))];simp only [Lib.decFrom,qg6 (u%10) (by omega)]
   congr 1;omega
theorem qcX (u k:Nat) (h:u<10^(k+1)):(Lib.decDigits u).length≤k+1:=by
 induction k generalizing u with
 |zero=>rw [Lib.decDigits,dif_pos (by simpa using h)];simp
 |succ k ih=>
  by_cases h':u<10
  ·rw [Lib.decDigits,dif_pos h'];simp
  ·rw [Lib.decDigits,dif_neg h',List.length_append,List.length_singleton];have:=ih (u/10) (by rw [Nat.pow_succ]at h;omega);omega
theorem qeC (u:Nat): ∀c∈Lib.decDigits u,48≤c.toNat∧c.toNat≤57:=by
 induction u using Nat.strongRecOn with
 |_ u ih=>
  intro c hc
  by_cases h:u<10
  ·rw [Lib.decDigits,dif_pos h,List.mem_singleton]at hc;subst hc;rw [qfM u h];omega
  ·rw [Lib.decDigits,dif_neg h,List.mem_append,List.mem_singleton]at hc;rcases hc with hc|rfl
   ·exact ih _ (by omega) c hc
   ·rw [qfM _ (by omega)];omega
theorem qdY (u:Nat): ∃c r,Lib.decDigits u=c::r∧48≤c.toNat∧c.toNat≤57∧(1≤u→c.toNat≠48):=by
 induction u using Nat.strongRecOn with
 |_ u ih=>
  by_cases h:u<10
  ·rw [Lib.decDigits,dif_pos h];refine ⟨_,_,rfl,?_⟩;rw [qfM u h];omega
  ·obtain ⟨c,r,e,h1,h2,h3⟩:=ih (u/10) (by omega);rw [Lib.decDigits,dif_neg h,e];exact ⟨c,r++_,rfl,h1,h2,fun _=>h3 (by omega)⟩
theorem ql1 (l:List UInt8) (h: ∀c∈l,48≤c.toNat∧c.toNat≤57) (x:UInt8) (hx:x.toNat<48):hasB x l=false:=by
 unfold hasB;rw [←Bool.not_eq_true,List.any_eq_true];rintro ⟨c,hc,e⟩;have:=h c hc;rw [beq_iff_eq]at e;rw [e]at this;omega
def d10:Nat→Nat→List UInt8
 |0,_=> []
 |j+1,m=>UInt8.ofNat (48+m/10^j)::d10 j (m%10^j)
def fr:Nat→Nat→List UInt8
 |0,_=> []
 |j+1,m=>if m=0 then []else UInt8.ofNat (48+m/10^j)::fr j (m%10^j)
theorem qmU (j:Nat):0<10^j:=Nat.pow_pos (by omega)
theorem qsK {m j:Nat} (h:m<10^(j+1)):m/10^j<10:=by
 rw [Nat.div_lt_iff_lt_mul (qmU j),Nat.mul_comm];rwa [Nat.pow_succ]at h
theorem qi9 (m j:Nat):m%10^j<10^j:=Nat.mod_lt _ (qmU j)
theorem qqE (j m:Nat):(d10 j m).length=j:=by
 induction j generalizing m with
 |zero=>rfl
 |succ j ih=>simp [d10,ih]
theorem zcK (j m:Nat):d10 (j+1) m=d10 j (m/10)++ [UInt8.ofNat (48+m%10)]∨ ¬m<10^(j+1):=by
 by_cases h:m<10^(j+1)
 ·left
  induction j generalizing m with
  |zero=>
   have:m<10:=by simpa using h
   simp only [d10,Nat.pow_zero,Nat.div_one,List.nil_append]
   congr 3;omega
  |succ j ih=>
   rw [d10,ih _ (qi9 m (j+1)),d10];have e1:m%10^(j+1) /10=m/10%10^j:=by rw [Nat.pow_succ,Nat.mul_comm,Nat.mod_mul_right_div_self]
   have e2:m%10^(j+1) %10=m%10:=by rw [Nat.pow_succ,Nat.mod_mul_left_mod]
   have e3:m/10^(j+1)=m/10/10^j:=by rw [Nat.div_div_eq_div_mul,Nat.pow_succ,Nat.mul_comm]
   rw [e1,e2,e3];rfl
 ·exact .inr h
theorem qoZ (j m:Nat) (h:m<10^j):Lib.decDigits (10^j+m)=49::d10 j m:=by
 induction j generalizing m with
 |zero=>
  have:m=0:=by simpa using h
  subst this;rw [Lib.decDigits,dif_pos (by decide)];rfl
 |succ j ih=>
  have hp:=qmU j;have e1:(10^(j+1)+m) /10=10^j+m/10:=by rw [Nat.pow_succ];omega
  have e2:(10^(j+1)+m) %10=m%10:=by rw [Nat.pow_succ];omega
  have h':m/10<10^j:=by rw [Nat.pow_succ]at h;omega
  rw [Lib.decDigits,dif_neg (by rw [Nat.pow_succ];omega),e1,e2,ih _ h'];rcases zcK j m with e|e
  ·rw [e];rfl
  ·exact absurd h e
theorem qz5 (c:UInt8) (l:List UInt8):Lib.trimRightB (c::l) 48=if Lib.trimRightB l 48= []then (if c=48 then []else [c])else c::Lib.trimRightB l 48:=by
 unfold Lib.trimRightB;rw [List.reverse_cons,List.dropWhile_append]
 by_cases h:l.reverse.dropWhile (· ==(48:UInt8))= []
 ·rw [h]
  by_cases hc:c=48
  ·simp [hc]
  ·simp [hc]
 ·have h2: ¬(l.reverse.dropWhile (· ==(48:UInt8))).isEmpty=true:=by simpa using h
  rw [if_neg h2,if_neg (by simpa using h),List.reverse_append];rfl
theorem q6W (j:Nat):fr j 0= []:=by cases j<;>simp [fr]
theorem fr_nil {j m:Nat} (h:m<10^j) (e:fr j m= []):m=0:=by
 cases j with
 |zero=>simpa using h
 |succ j=>
  rw [fr]at e
  split at e
  ·assumption
  ·cases e
theorem q3K (j m:Nat) (h:m<10^j):Lib.trimRightB (d10 j m) 48=fr j m:=by
 induction j generalizing m with
 |zero=>rfl
 |succ j ih=>
  rw [d10,qz5,ih _ (qi9 m j),fr];have hd:=qsK h;have hdm:=Nat.div_add_mod m (10^j)
  by_cases h0:m=0
  ·subst h0;simp [q6W]
  ·rw [if_neg h0]
   by_cases hf:fr j (m%10^j)= []
   ·rw [if_pos hf,hf];have hm:=fr_nil (qi9 m j) hf;rw [hm]at hdm;rw [if_neg ?_];intro e;have e2:=congrArg UInt8.toNat e;rw [qfM _ hd]at e2;have:(48:UInt8).toNat=48:=rfl;have h1:m/10^j=0:=by omega
    rw [h1]at hdm;omega
   ·rw [if_neg hf]
theorem q6X (j m:Nat):(fr j m).length≤j:=by
 induction j generalizing m with
 |zero=>simp [fr]
 |succ j ih=>
  rw [fr];split
  ·simp
  ·have:=ih (m%10^j);simp;omega
theorem zd5 (j m:Nat) (h:m<10^j): ∀c∈fr j m,48≤c.toNat∧c.toNat≤57:=by
 induction j generalizing m with
 |zero=>intro c hc;cases hc
 |succ j ih=>
  intro c hc;rw [fr]at hc
  split at hc
  ·cases hc
  ·rcases List.mem_cons.1 hc with rfl|hc
   ·have:=qsK h;rw [qfM _ this];revert this;generalize m/10^j=q;omega
   ·exact ih _ (qi9 m j) c hc
theorem qsM (k acc:Nat):Lib.decFrom acc (List.replicate k 48)=some (acc*10^k):=by
 induction k generalizing acc with
 |zero=>simp [Lib.decFrom]
 |succ k ih=>
  rw [List.replicate_succ];have:Lib.digitVal 48=some 0:=rfl;simp only [Lib.decFrom,this];rw [ih,Nat.pow_succ];congr 1;rw [Nat.add_zero,Nat.mul_assoc,Nat.mul_comm 10]
theorem q2L (j m acc:Nat) (h:m<10^j):Lib.decFrom acc (fr j m++List.replicate (j-(fr j m).length) 48)=some (acc*10^j+m):=by
 induction j generalizing m acc with
 |zero=>
  have:m=0:=by simpa using h
  subst this;simp [fr,Lib.decFrom]
 |succ j ih=>
  rw [fr]
  by_cases h0:m=0
  ·subst h0;rw [if_pos rfl,List.nil_append,List.length_nil,qsM];rfl
  ·have hd:=qsK h;have hdm:=Nat.div_add_mod m (10^j);rw [if_neg h0,List.length_cons,List.cons_append,Nat.add_sub_add_right];simp only [Lib.decFrom,qg6 _ hd];rw [ih _ _ (qi9 m j),Nat.add_mul,Nat.mul_assoc,Nat.pow_succ,Nat.mul_comm 10,Nat.add_assoc,Nat.mul_comm (m/10^j),hdm]
def qlP (n:Nat):List UInt8:=if n=0 then []else 46::fr 9 n
def negV (a b:Int):Int×Int:=if b=0 then (if a= -9223372036854775808 then-9223372036854775808 else-a,0)else (if a= -9223372036854775808 then 9223372036854775807 else-a-1,1000000000-b)
def absT (m n:Nat):List UInt8:=Lib.decDigits m++qlP n
def qgM (a b:Int):List UInt8:=if a<0 then 45::absT (negV a b).1.toNat (negV a b).2.toNat else absT a.toNat b.toNat
def qe8 (a b:Int):ByteArray×Int:=if inT a b=true then (bs (qgM a b),0)else (⟨#[]⟩,4)
theorem quW (n:Nat):(qlP n).length≤10:=by
 unfold qlP;split
 ·simp
 ·have:=q6X 9 n;simp;omega
theorem zdA (m n:Nat) (h:m<10^14):(absT m n).length≤24:=by
 have h1:=qcX m 13 h;have h2:=quW n;rw [absT,List.length_append];omega
def qlA:List UInt8→Bool
 | []=>false
 |c::_=>c==45
def qcU (l:List UInt8):List UInt8:=if qlA l=true then l.drop 1 else l
def qgK (l:List UInt8):List UInt8:=l.take (pos 46 l)
def qoY (l:List UInt8):List UInt8:=l.drop (pos 46 l+1)
def numO:Lib.NumEnd Int→Option Int
 | .ok v=>some v
 |_=>none
def qjK (d:List UInt8):Option Int:=if d.length≤9 then numO (Lib.atoiAll (d++List.replicate (9-d.length) 48))else none
def qfB (l:List UInt8):Option (Int×Int):=
 match numO (Lib.atoiAll (qgK (qcU l))),qjK (qoY (qcU l))with
 |some a,some b=>some (if qlA l=true then negV a b else (a,b))
 |_,_=>none
def qcC (l:List UInt8):Int×Int×Int:=
 match qfB l with
 |some (a,b)=>if inT a b=true∧qgM a b=l then (a,b,0)else (0,0,3)
 |none=>(0,0,3)
theorem qv6 {l:List UInt8} (h:qfB l=none):qcC l=(0,0,3):=by simp [qcC,h]
theorem qo7 {l:List UInt8} {a b:Int} (h:qfB l=some (a,b)) (h1:inT a b=true) (h2:qgM a b=l):qcC l=(a,b,0):=by
 simp only [qcC,h];rw [if_pos ⟨h1,h2⟩]
theorem qs6 {l:List UInt8} {a b:Int} (h:qfB l=some (a,b)) (h1: ¬(inT a b=true∧qgM a b=l)):qcC l=(0,0,3):=by
 simp only [qcC,h];rw [if_neg h1]
theorem qzR (u:Nat) (h:u<10^14):Lib.atoiAll (Lib.decDigits u)= .ok (u:Int):=by
 rw [Lib.atoiAll_short _ (Nat.le_trans (qcX u 13 h) (by decide))];obtain ⟨c,r,e,h1,h2,-⟩:=qdY u;have hv:=qcG u;rw [e]at hv⊢;have c1:(c==45)=false:=by rw [beq_eq_false_iff_ne];rintro rfl;exact absurd h1 (by decide)
 have c2:(c==43)=false:=by rw [beq_eq_false_iff_ne];rintro rfl;exact absurd h1 (by decide)
 simp only [Lib.atoi,c1,c2];simp [Lib.decNat,hv,Lib.NumEnd.ofOption]
theorem q8D (m:Nat) (h:m<10^9):qjK (fr 9 m)=some (m:Int):=by
 have hl:=q6X 9 m;have hv:=q2L 9 m 0 h;rw [Nat.zero_mul,Nat.zero_add]at hv;unfold qjK;rw [if_pos hl,Lib.atoiAll_short _ (by rw [List.length_append,List.length_replicate];omega)]
 have hd: ∀c∈fr 9 m++List.replicate (9-(fr 9 m).length) 48,48≤c.toNat:=by
  intro c hc;rcases List.mem_append.1 hc with hc|hc
  ·exact (zd5 9 m h c hc).1
  ·rw [(List.mem_replicate.1 hc).2];decide
 have hn:(fr 9 m++List.replicate (9-(fr 9 m).length) 48).length=9:=by rw [List.length_append,List.length_replicate];omega
 revert hv hd hn
 generalize fr 9 m++List.replicate (9-(fr 9 m).length) 48=L;intro hv hd hn;cases L with
 |nil=>cases hn
 |cons c r=>
  have h1:=hd c (by simp);have c1:(c==45)=false:=by rw [beq_eq_false_iff_ne];rintro rfl;exact absurd h1 (by decide)
  have c2:(c==43)=false:=by rw [beq_eq_false_iff_ne];rintro rfl;exact absurd h1 (by decide)
  simp only [Lib.atoi,c1,c2];simp [Lib.decNat,hv,Lib.NumEnd.ofOption,numO]
theorem qhY (m n:Nat):qgK (absT m n)=Lib.decDigits m∧qoY (absT m n)=fr 9 n:=by
 have h1:hasB 46 (Lib.decDigits m)=false:=ql1 _ (qeC m) 46 (by decide)
 have h2:pos 46 (absT m n)=(Lib.decDigits m).length:=by
  rw [absT,qrF _ _ _ h1];unfold qlP;split
  ·rfl
  ·rw [qc3,if_pos rfl];rfl
 unfold qgK qoY;rw [h2];refine ⟨by rw [absT];simp,?_⟩;rw [absT,List.drop_append,List.drop_of_length_le (by omega),List.nil_append,Nat.add_sub_cancel_left];unfold qlP;split
 ·rename_i h;subst h;rw [q6W];rfl
 ·rfl
theorem qpW (m n:Nat):qlA (absT m n)=false:=by
 obtain ⟨c,r,e,h1,-,-⟩:=qdY m;rw [absT,e];show (c==45)=false;rw [beq_eq_false_iff_ne];rintro rfl;exact absurd h1 (by decide)
theorem qmB (a b:Int) (h:inT a b=true): ∃m n:Nat,m<10^14∧n<10^9∧((a<0∧qgM a b=45::absT m n∧negV m n=(a,b)∧negV a b=((m:Int),(n:Int)))∨(0≤a∧qgM a b=absT m n∧(a,b)=((m:Int),(n:Int)))):=by
 have hr:=q6D h;have e14:(10:Nat) ^14=100000000000000:=by decide
 have e9:(10:Nat) ^9=1000000000:=by decide
 rw [e14,e9]
 by_cases h0:a<0
 ·unfold qgM;rw [if_pos h0]
  by_cases hb:b=0
  ·subst hb;have e:negV a 0=(-a,0):=by unfold negV;rw [if_pos rfl,if_neg (by omega)]
   refine ⟨(-a).toNat,0,by omega,by omega,.inl ⟨h0,by rw [e];rfl,?_,?_⟩⟩
   ·unfold negV;rw [if_pos (show ((0:Nat):Int)=0 from rfl),if_neg (by omega)];apply Prod.ext
    ·show-((-a).toNat:Int)=a;omega
    ·rfl
   ·rw [e];apply Prod.ext
    ·show-a=((-a).toNat:Int);omega
    ·rfl
  ·have e:negV a b=(-a-1,1000000000-b):=by unfold negV;rw [if_neg hb,if_neg (by omega)]
   refine ⟨(-a-1).toNat,(1000000000-b).toNat,by omega,by omega,.inl ⟨h0,by rw [e],?_,?_⟩⟩
   ·unfold negV;rw [if_neg (by omega),if_neg (by omega)];apply Prod.ext
    ·show-((-a-1).toNat:Int) -1=a;omega
    ·show 1000000000-((1000000000-b).toNat:Int)=b;omega
   ·rw [e];apply Prod.ext
    ·show-a-1=((-a-1).toNat:Int);omega
    ·show 1000000000-b=((1000000000-b).toNat:Int);omega
 ·refine ⟨a.toNat,b.toNat,by omega,by omega,.inr ⟨by omega,by unfold qgM;rw [if_neg h0],?_⟩⟩;apply Prod.ext
  ·show a=(a.toNat:Int);omega
  ·show b=(b.toNat:Int);omega
theorem qwX (a b:Int) (h:inT a b=true):qfB (qgM a b)=some (a,b):=by
 obtain ⟨m,n,hm,hn,⟨h0,e,e2,-⟩|⟨h0,e,e2⟩⟩:=qmB a b h
 ·have hs:qcU (45::absT m n)=absT m n:=rfl;rw [e];unfold qfB;rw [hs,(qhY m n).1,(qhY m n).2,qzR m hm,q8D n hn];show some (negV m n)=_;rw [e2]
 ·have hs:qcU (absT m n)=absT m n:=by unfold qcU;rw [qpW];rfl
  rw [e];unfold qfB;rw [hs,(qhY m n).1,(qhY m n).2,qzR m hm,q8D n hn,qpW];show some ((m:Int),(n:Int))=_;rw [e2]
theorem qh6 (a b:Int) (h:inT a b=true):qcC (qgM a b)=(a,b,0):=qo7 (qwX a b h) h rfl
def isD (c:UInt8):Bool:=decide (48≤c.toNat∧c.toNat≤57)
def qwR:Nat→Nat→List UInt8→Nat×List UInt8
 |0,acc,l=>(acc,l)
 |f+1,acc, []=>(acc, [])
 |f+1,acc,c::r=>if isD c=true then qwR f (10*acc+(c.toNat-48)) r else (acc,c::r)
def zdT:Nat→Nat→List UInt8→Nat
 |0,acc,_=>acc
 |j+1,acc, []=>acc
 |j+1,acc,c::r=>if isD c=true then zdT j (acc+10^j*(c.toNat-48)) r else acc
def qsY:List UInt8→Nat
 | []=>0
 |c::r=>if c=46 then zdT 9 0 r else 0
def refV (l:List UInt8):Int×Int:=
 if qlA l=true then
  (if qsY (qwR 14 0 (qcU l)).2=0 then (-((qwR 14 0 (qcU l)).1:Int),0)else (-((qwR 14 0 (qcU l)).1:Int) -1,1000000000-(qsY (qwR 14 0 (qcU l)).2:Int)))
 else ((qwR 14 0 (qcU l)).1,qsY (qwR 14 0 (qcU l)).2)
theorem isD_val {c:UInt8} {d:Nat} (h:Lib.digitVal c=some d):isD c=true∧c.toNat-48=d:=by
 obtain ⟨h1,h2,h3⟩:=Lib.digitVal_eq h;exact ⟨decide_eq_true ⟨h1,h2⟩,h3.symm⟩
def recN (L:Nat):Nat:=if L+1<10 then L+1 else if L+2<100 then L+2 else L+3
theorem nDig1 {n:Nat} (h:n<10):Lib.nDigits n=1:=Lib.nDigits_small h
theorem q5M {n:Nat} (h0:10≤n) (h:n<100):Lib.nDigits n=2:=Lib.nDigits_unique 1 n (by omega) (by omega)
theorem zbA {n:Nat} (h0:100≤n) (h:n<1000):Lib.nDigits n=3:=Lib.nDigits_unique 2 n (by omega) (by omega)
theorem qrC (L:Nat):L<recN L∧recN L≤L+3:=by
 unfold recN;split
 ·omega
 ·split<;>omega
theorem zaD (L:Nat) (h:L≤900):Lib.nDigits (recN L)+L=recN L:=by
 unfold recN
 split
 ·rw [nDig1 (by omega)];omega
 ·split
  ·rw [q5M (by omega) (by omega)];omega
  ·rw [zbA (by omega) (by omega)];omega
def chkR (k v:List UInt8):Int:=
 if k.length=0∨60<k.length∨500<v.length then 1
 else if hasB 61 k=true∨hasB 10 k=true∨hasB 0 v=true then 3 else 0
theorem qoD {k v:List UInt8} (h:k.length=0∨60<k.length∨500<v.length):chkR k v=1:=if_pos h
theorem qvH {k v:List UInt8} (h: ¬(k.length=0∨60<k.length∨500<v.length)) (h2:hasB 61 k=true∨hasB 10 k=true∨hasB 0 v=true):chkR k v=3:=by
 rw [chkR,if_neg h,if_pos h2]
theorem q74 {k v:List UInt8} (h: ¬(k.length=0∨60<k.length∨500<v.length)) (h2: ¬(hasB 61 k=true∨hasB 10 k=true∨hasB 0 v=true)):chkR k v=0:=by
 rw [chkR,if_neg h,if_neg h2]
theorem qg8 {k v:List UInt8} (h:chkR k v=0):1≤k.length∧k.length≤60∧v.length≤500∧hasB 61 k=false∧hasB 10 k=false∧hasB 0 v=false:=by
 unfold chkR at h
 split at h
 ·cases h
 ·split at h
  ·cases h
  ·rename_i h1 h2;refine ⟨by omega,by omega,by omega,?_,?_,?_⟩
   ·cases e:hasB 61 k
    ·rfl
    ·exact absurd (.inl e) h2
   ·cases e:hasB 10 k
    ·rfl
    ·exact absurd (.inr (.inl e)) h2
   ·cases e:hasB 0 v
    ·rfl
    ·exact absurd (.inr (.inr e)) h2
def recT (k v:List UInt8):List UInt8:=32::(k++61::(v++ [10]))
def recL (k v:List UInt8):List UInt8:=Lib.decDigits (recN (k.length+v.length+3))++recT k v
theorem qyP (k v:List UInt8):(recT k v).length=k.length+v.length+3:=by simp [recT];omega
theorem qrD (k v:List UInt8) (h:k.length+v.length≤800):(recL k v).length=recN (k.length+v.length+3):=by
 rw [recL,List.length_append,Lib.decDigits_length,qyP];exact zaD _ (by omega)
def recW (k v:List UInt8):ByteArray×Int:=if chkR k v=0 then (bs (recL k v),0)else (⟨#[]⟩,chkR k v)
theorem qrA {k v:List UInt8} (h:chkR k v=0):recW k v=(bs (recL k v),0):=if_pos h
theorem q4P {k v:List UInt8} (h:chkR k v≠0):recW k v=(⟨#[]⟩,chkR k v):=if_neg h
def dVal (l:List UInt8):Nat:=l.foldl (fun a c=>10*a+(c.toNat-48)) 0
theorem q7U (l:List UInt8) (c:UInt8):dVal (l++ [c])=10*dVal l+(c.toNat-48):=by simp [dVal]
theorem q6Y (l:List UInt8) (acc v:Nat) (h:Lib.decFrom acc l=some v):l.foldl (fun a c=>10*a+(c.toNat-48)) acc=v:=by
 induction l generalizing acc with
 |nil=>simpa [Lib.decFrom]using h
 |cons c l ih=>
  cases hc:Lib.digitVal c with
  |none=>simp [Lib.decFrom,hc]at h
  |some d=>
   simp only [Lib.decFrom,hc]at h;rw [List.foldl_cons,(isD_val hc).2,Nat.mul_comm];exact ih _ h
theorem qzK (n:Nat):dVal (Lib.decDigits n)=n:=q6Y _ _ _ (qcG n)
theorem dVal_lt (l:List UInt8) (h: ∀c∈l,isD c=true):dVal l<10^l.length:=by
 revert h
 refine qq5 (p:=fun l=>(∀c∈l,isD c=true)→dVal l<10^l.length) (fun _=>by simp [dVal]) (fun l c ih h=> ?_) l;have h1:=ih fun x hx=>h x (List.mem_append_left _ hx);have h2:=(of_decide_eq_true (h c (by simp))).2;rw [q7U,List.length_append,List.length_singleton,Nat.pow_succ];omega
def digP (l:List UInt8):List UInt8:=l.takeWhile isD
theorem zcG (l:List UInt8): ∀c∈digP l,isD c=true:=by
 intro c hc;unfold digP at hc
 induction l with
 |nil=>cases hc
 |cons x l ih=>
  rw [List.takeWhile_cons]at hc
  split at hc
  ·rename_i hx;rcases List.mem_cons.1 hc with rfl|hc
   ·exact hx
   ·exact ih hc
  ·cases hc
theorem qsL (a b:List UInt8) (ha: ∀c∈a,isD c=true) (hb: ∀c t,b=c::t→isD c=false):digP (a++b)=a:=by
 unfold digP
 induction a with
 |nil=>
  cases b with
  |nil=>rfl
  |cons c t=>rw [List.nil_append,List.takeWhile_cons,if_neg (by rw [hb c t rfl];decide)]
 |cons x a ih=>
  rw [List.cons_append,List.takeWhile_cons,if_pos (ha x (by simp)),ih fun c hc=>ha c (List.mem_cons_of_mem _ hc)]
theorem q7R (l:List UInt8):digP l=l.take (digP l).length:=by
 unfold digP
 induction l with
 |nil=>rfl
 |cons x l ih=>
  rw [List.takeWhile_cons]
  split
  ·rw [List.length_cons,List.take_succ_cons,←ih]
  ·rfl
def qg2 (l:List UInt8):Prop:=1≤(digP l).length∧(digP l).length≤4∧l.head?≠some 48∧l[(digP l).length]?=some 32
instance (l:List UInt8):Decidable (qg2 l):=by unfold qg2;infer_instance
def qc2 (l:List UInt8):List UInt8:=(l.take (dVal (digP l) -1)).drop ((digP l).length+1)
def recR (l:List UInt8):List UInt8×List UInt8×List UInt8×Int:=
 if¬qg2 l then ([], [], [],3)
 else if l.length<dVal (digP l)then ([], [], [],7)
 else if dVal (digP l)<(digP l).length+2∨l[dVal (digP l) -1]?≠some 10 then ([], [], [],3)
 else if hasB 61 (qc2 l)=false then ([], [], [],3)
 else if chkR ((qc2 l).take (pos 61 (qc2 l))) ((qc2 l).drop (pos 61 (qc2 l)+1))≠0 then ([], [], [],chkR ((qc2 l).take (pos 61 (qc2 l))) ((qc2 l).drop (pos 61 (qc2 l)+1)))
 else if recL ((qc2 l).take (pos 61 (qc2 l))) ((qc2 l).drop (pos 61 (qc2 l)+1))≠l.take (dVal (digP l))then ([], [], [],3)
 else ((qc2 l).take (pos 61 (qc2 l)),(qc2 l).drop (pos 61 (qc2 l)+1),l.drop (dVal (digP l)),0)
theorem isD_dig (n:Nat): ∀c∈Lib.decDigits n,isD c=true:=fun c hc=>decide_eq_true (qeC n c hc)
theorem qzJ (n:Nat) (r:List UInt8):digP (Lib.decDigits n++32::r)=Lib.decDigits n:=
 qsL _ _ (isD_dig n) (fun c t e=>by injection e with e _;subst e;rfl)
theorem q6U (n:Nat) (r:List UInt8) (h1:1≤n) (h2:n<10000):qg2 (Lib.decDigits n++32::r):=by
 unfold qg2;rw [qzJ];obtain ⟨c,t,e,-,-,hc⟩:=qdY n;refine ⟨by rw [e];simp,qcX n 3 (by omega),?_,?_⟩
 ·rw [e,List.cons_append,List.head?_cons];intro x;injection x with x;exact hc h1 (by rw [x];rfl)
 ·rw [List.getElem?_append_right (Nat.le_refl _),Nat.sub_self];rfl
theorem qtR (k v more:List UInt8) (h:chkR k v=0):recR (recL k v++more)=(k,v,more,0):=by
 obtain ⟨k1,k2,v1,hk,hk2,hv⟩:=qg8 h;have hL:=qrD k v (by omega);have hb:=qrC (k.length+v.length+3);obtain ⟨n,hn⟩: ∃n,recN (k.length+v.length+3)=n:=⟨_,rfl⟩
 have e:recL k v++more=Lib.decDigits n++32::(k++61::(v++ [10])++more):=by
  unfold recL recT;rw [hn];simp
 have eL:recL k v=Lib.decDigits n++32::(k++61::(v++ [10])):=by unfold recL recT;rw [hn]
 rw [hn]at hL hb;have hd:digP (recL k v++more)=Lib.decDigits n:=by rw [e];exact qzJ _ _
 have hf:qg2 (recL k v++more):=by rw [e];exact q6U _ _ (by omega) (by omega)
 have hdl:(Lib.decDigits n).length+(k.length+v.length+3)=n:=by
  rw [eL]at hL;simp at hL;omega
 have htk:(recL k v++more).take (n-1)=Lib.decDigits n++32::(k++61::v):=by
  rw [List.take_append_of_le_length (by omega),eL];have:Lib.decDigits n++32::(k++61::(v++ [10]))=(Lib.decDigits n++32::(k++61::v))++ [10]:=by simp
  rw [this,List.take_append_of_le_length (by simp;omega),List.take_of_length_le (by simp;omega)]
 have hbody:qc2 (recL k v++more)=k++61::v:=by
  unfold qc2;rw [hd,qzK,htk,List.drop_append,List.drop_of_length_le (by omega),List.nil_append,Nat.add_sub_cancel_left];rfl
 have hpos:pos 61 (k++61::v)=k.length:=by rw [qrF _ _ _ hk,qc3,if_pos rfl];rfl
 have e1:(k++61::v).take k.length=k:=by simp
 have e2:(k++61::v).drop (k.length+1)=v:=by
  rw [List.drop_append,List.drop_of_length_le (by omega),List.nil_append,Nat.add_sub_cancel_left];rfl
 have hlast:(recL k v++more)[n-1]?=some 10:=by
  rw [List.getElem?_append_left (by omega),eL];have:Lib.decDigits n++32::(k++61::(v++ [10]))=(Lib.decDigits n++32::(k++61::v))++ [10]:=by simp
  rw [this,List.getElem?_append_right (by simp;omega)];have:n-1-(Lib.decDigits n++32::(k++61::v)).length=0:=by simp;omega
  rw [this];rfl
 unfold recR;rw [if_neg (by simpa using hf),hd,qzK,if_neg (by rw [List.length_append];omega),if_neg ?_,hbody,hpos,e1,e2,if_neg ?_,if_neg (by simpa using h),if_neg ?_]
 ·rw [List.drop_append,List.drop_of_length_le (by omega),List.nil_append,hL,Nat.sub_self];rfl
 ·rw [List.take_append_of_le_length (by omega),List.take_of_length_le (by omega)];simp
 ·rw [qr4,hk,qcF];simp
 ·rw [hlast];simp;omega
def numB (l:List UInt8):Bool:=decide (1≤l.length∧l.length≤4∧l.head?≠some 48) &&l.all isD
theorem qfY {l:List UInt8} (h:numB l=true):(1≤l.length∧l.length≤4∧l.head?≠some 48)∧ ∀c∈l,isD c=true:=by
 unfold numB at h;rw [Bool.and_eq_true,decide_eq_true_eq,List.all_eq_true]at h;exact h
theorem q5H {l:List UInt8} (h:1≤l.length∧l.length≤4∧l.head?≠some 48) (h2: ∀c∈l,isD c=true):numB l=true:=by
 unfold numB;rw [Bool.and_eq_true,decide_eq_true_eq,List.all_eq_true];exact ⟨h,h2⟩
theorem qxW (l:List UInt8) (acc:Nat) (h: ∀c∈l,isD c=true):Lib.decFrom acc l=some (l.foldl (fun a c=>10*a+(c.toNat-48)) acc):=by
 induction l generalizing acc with
 |nil=>rfl
 |cons c l ih=>
  have hc:=of_decide_eq_true (h c (List.mem_cons_self ..));have hv:Lib.digitVal c=some (c.toNat-48):=by unfold Lib.digitVal;rw [if_pos hc]
  simp only [Lib.decFrom,hv,List.foldl_cons];rw [Nat.mul_comm 10 acc];exact ih _ fun x hx=>h x (List.mem_cons_of_mem _ hx)
theorem zcV (l:List UInt8) (h:numB l=true):Lib.atoiAll l= .ok (dVal l:Int):=by
 obtain ⟨⟨h1,h2,h3⟩,h4⟩:=qfY h;rw [Lib.atoiAll_short l (by omega)];cases l with
 |nil=>simp at h1
 |cons c r=>
  have hc:=of_decide_eq_true (h4 c (List.mem_cons_self ..));have c1:(c==45)=false:=by rw [beq_eq_false_iff_ne];rintro rfl;revert hc;decide
  have c2:(c==43)=false:=by rw [beq_eq_false_iff_ne];rintro rfl;revert hc;decide
  have hd:Lib.decNat (c::r)=some (dVal (c::r)):=qxW (c::r) 0 h4;unfold Lib.atoi;simp only [c1,c2,hd]
  rfl
theorem qjQ (l:List UInt8) (h:numB l=true):1≤dVal l∧dVal l<10000:=by
 obtain ⟨⟨h1,h2,h3⟩,h4⟩:=qfY h;constructor
 ·cases l with
  |nil=>simp at h1
  |cons c r=>
   have hc:=of_decide_eq_true (h4 c (List.mem_cons_self ..));have hc48:c.toNat≠48:=fun e=>h3 (by rw [List.head?_cons];congr 1;exact UInt8.toNat_inj.1 e)
   have key: ∀(r:List UInt8) (a:Nat),1≤a→1≤r.foldl (fun a c=>10*a+(c.toNat-48)) a:=by
    intro r
    induction r with
    |nil=>intro a ha;exact ha
    |cons x r ih=>intro a ha;rw [List.foldl_cons];exact ih _ (by omega)
   unfold dVal;rw [List.foldl_cons];exact key r _ (by omega)
 ·have:=dVal_lt l h4;have h5:10^l.length≤10^4:=Nat.pow_le_pow_right (by omega) h2;have:(10:Nat) ^4=10000:=by decide
  omega
theorem no32 {l:List UInt8} (h: ∀c∈l,isD c=true):hasB 32 l=false:=by
 unfold hasB;rw [←Bool.not_eq_true,List.any_eq_true];rintro ⟨x,hx,e⟩;have:=h x hx;rw [eq_of_beq e]at this
 revert this;decide
theorem qpH {c:UInt8} {l:List UInt8} (h:hasB c l=true):l=l.take (pos c l)++c::l.drop (pos c l+1):=by
 rw [qdW]at h;have h':=of_decide_eq_true h
 conv=>lhs;rw [←List.take_append_drop (pos c l) l]
 congr 1
 rw [List.drop_eq_getElem_cons h',qmV c l h']
theorem qjJ (l:List UInt8):qg2 l↔hasB 32 l=true∧numB (l.take (pos 32 l))=true:=by
 constructor
 ·rintro ⟨h1,h2,h3,h4⟩;obtain ⟨n,hn⟩: ∃n,(digP l).length=n:=⟨_,rfl⟩;have ht:=q7R l;have hall:=zcG l;rw [hn]at h1 h2 h4 ht
  have hlt:n<l.length:=by
   rcases Nat.lt_or_ge n l.length with h|h
   ·exact h
   ·rw [List.getElem?_eq_none h]at h4;cases h4
  rw [List.getElem?_eq_getElem hlt]at h4;have h4':=Option.some.inj h4
  have hp:pos 32 l=n:=by
   have e:l=l.take n++l.drop n:=(List.take_append_drop n l).symm;rw [e,qrF _ _ _ (no32 (by rw [←ht];exact hall)),List.length_take,List.drop_eq_getElem_cons hlt,h4',qc3,if_pos rfl];omega
  have hb:hasB 32 l=true:=by rw [qdW,hp];exact decide_eq_true hlt
  refine ⟨hb,?_⟩;rw [hp,←ht];refine q5H ⟨by omega,by omega,?_⟩ hall;rw [ht,List.head?_take];rw [if_neg (by omega)];exact h3
 ·rintro ⟨hb,hn⟩;obtain ⟨⟨h1,h2,h3⟩,h4⟩:=qfY hn;have hs:=qpH hb
  have hd:digP l=l.take (pos 32 l):=by
   conv=>lhs;rw [hs]
   exact qsL _ _ h4 (fun c t e=>by injection e with e _;subst e;rfl)
  have hlt:pos 32 l<l.length:=by rw [qdW]at hb;exact of_decide_eq_true hb
  have hlen:(l.take (pos 32 l)).length=pos 32 l:=by rw [List.length_take];omega
  rw [hlen]at h1 h2;refine ⟨by rw [hd,hlen];exact h1,by rw [hd,hlen];exact h2,?_,?_⟩
  ·rw [List.head?_take,if_neg (by omega)]at h3;exact h3
  ·rw [hd,hlen,List.getElem?_eq_getElem hlt,qmV 32 l hlt]
theorem qnS {l:List UInt8} (hb:hasB 32 l=true) (hn:numB (l.take (pos 32 l))=true):digP l=l.take (pos 32 l)∧(digP l).length=pos 32 l:=by
 obtain ⟨-,h4⟩:=qfY hn;have hs:=qpH hb
 have hd:digP l=l.take (pos 32 l):=by
  conv=>lhs;rw [hs]
  exact qsL _ _ h4 (fun c t e=>by injection e with e _;subst e;rfl)
 have hlt:pos 32 l<l.length:=by rw [qdW]at hb;exact of_decide_eq_true hb
 exact ⟨hd,by rw [hd,List.length_take];omega⟩
def splB (l:List UInt8) (st:Nat):List UInt8:=Lib.trimSuffix (l.drop st) [10]
def splO (l:List UInt8) (st:Nat):Bool:=decide (st<l.length) &&(Lib.hasSuffix (l.drop st) [10] &&hasB 61 (splB l st))
def splK (l:List UInt8) (st:Nat):List UInt8:=(splB l st).take (pos 61 (splB l st))
def splV (l:List UInt8) (st:Nat):List UInt8:=(splB l st).drop (pos 61 (splB l st)+1)
theorem qyD (l:List UInt8) (c:UInt8):Lib.hasSuffix (l++ [c]) [10]=(c==10):=by
 unfold Lib.hasSuffix;rw [Bool.eq_iff_iff,List.isSuffixOf_iff_suffix,beq_iff_eq];constructor
 ·rintro ⟨t,ht⟩;have:=List.append_inj_right' ht rfl;injection this with h _;exact h.symm
 ·rintro rfl;exact ⟨l,rfl⟩
theorem q3J (l:List UInt8):Lib.trimSuffix (l++ [10]) [10]=l:=by
 unfold Lib.trimSuffix;rw [qyD,if_pos (by decide)];simp
theorem q9P {l:List UInt8} {n d:Nat} (h1:d+2≤n) (h2:n≤l.length):(l.take n).drop (d+1)=(l.take (n-1)).drop (d+1)++ [l[n-1]'(by omega)]:=by
 obtain ⟨m,rfl⟩: ∃m,n=m+1:=⟨n-1,by omega⟩;rw [List.take_succ_eq_append_getElem (by omega),List.drop_append_of_le_length (by rw [List.length_take];omega)]
 rfl
theorem qtJ {l:List UInt8} (hl:dVal (digP l)≤l.length):
  splO (l.take (dVal (digP l))) ((digP l).length+1)=decide (¬(dVal (digP l)<(digP l).length+2∨l[dVal (digP l) -1]?≠some 10)∧hasB 61 (qc2 l)=true)∧
  (splO (l.take (dVal (digP l))) ((digP l).length+1)=true→splB (l.take (dVal (digP l))) ((digP l).length+1)=qc2 l):=by
 unfold qc2;generalize (digP l).length=d;generalize dVal (digP l)=n at*
 by_cases h1:n<d+2
 ·have e:splO (l.take n) (d+1)=false:=by
   unfold splO;rw [decide_eq_false (by rw [List.length_take];omega),Bool.false_and]
  rw [e];refine ⟨(decide_eq_false (fun h=>h.1 (.inl h1))).symm,fun h=>by cases h⟩
 ·have hb:=q9P (l:=l) (n:=n) (d:=d) (by omega) hl;have hlt:n-1<l.length:=by omega
  have e:splO (l.take n) (d+1)=((l[n-1]==10) &&hasB 61 (splB (l.take n) (d+1))):=by
   unfold splO;rw [decide_eq_true (by rw [List.length_take];omega),Bool.true_and,hb,qyD]
  rw [e,List.getElem?_eq_getElem hlt]
  by_cases hc:l[n-1]=10
  ·have eB:splB (l.take n) (d+1)=(l.take (n-1)).drop (d+1):=by
    unfold splB;rw [hb,hc,q3J]
   rw [eB,hc];refine ⟨?_,fun _=>rfl⟩;rw [show ((10:UInt8)==10)=true from rfl,Bool.true_and,Bool.eq_iff_iff,decide_eq_true_eq];exact ⟨fun h=>⟨fun h'=>h'.elim (fun a=>h1 a) (fun a=>a rfl),h⟩,fun h=>h.2⟩
  ·have hc':(l[n-1]==10)=false:=by simpa using hc
   rw [hc',Bool.false_and];refine ⟨(decide_eq_false (fun h=>h.1 (.inr (fun a=>hc (Option.some.inj a))))).symm,fun h=>by cases h⟩
theorem q0W {l:List UInt8} (h: ¬(hasB 32 l=true∧numB (l.take (pos 32 l))=true)):recR l=([], [], [],3):=by
 unfold recR;rw [if_pos (by rw [qjJ];exact h)]
section
variable {l:List UInt8} {n p:Nat} (hb:hasB 32 l=true) (hn:numB (l.take (pos 32 l))=true) (hp:pos 32 l=p) (hv:dVal (l.take (pos 32 l))=n)
include hb hn hv
theorem q0V (h:l.length<n):recR l=([], [], [],7):=by
 obtain ⟨e1,e2⟩:=qnS hb hn;unfold recR;rw [if_neg (by rw [qjJ];exact fun a=>a ⟨hb,hn⟩),if_pos (by rw [e1,hv];exact h)]
include hp
theorem q0U (h:n≤l.length) (h2:splO (l.take n) (p+1)=false):recR l=([], [], [],3):=by
 obtain ⟨e1,e2⟩:=qnS hb hn;have e3:dVal (digP l)=n:=by rw [e1,hv]
 have hs:=(qtJ (l:=l) (by rw [e3];exact h)).1;rw [e2,e3,hp,h2]at hs;unfold recR;rw [if_neg (by rw [qjJ];exact fun a=>a ⟨hb,hn⟩),e3,if_neg (by omega),e2,hp]
 by_cases hx:n<p+2∨l[n-1]?≠some 10
 ·rw [if_pos hx]
 ·rw [if_neg hx];have:=of_decide_eq_false hs.symm
  rw [if_pos (by
   cases e:hasB 61 (qc2 l)
   ·rfl
   ·exact absurd ⟨hx,e⟩ this)]
theorem qmS (h:n≤l.length) (h2:splO (l.take n) (p+1)=true):
  recR l=if chkR (splK (l.take n) (p+1)) (splV (l.take n) (p+1))≠0 then ([], [], [],chkR (splK (l.take n) (p+1)) (splV (l.take n) (p+1)))
   else if recL (splK (l.take n) (p+1)) (splV (l.take n) (p+1))≠l.take n then ([], [], [],3)
   else (splK (l.take n) (p+1),splV (l.take n) (p+1),l.drop n,0):=by
 obtain ⟨e1,e2⟩:=qnS hb hn;have e3:dVal (digP l)=n:=by rw [e1,hv]
 obtain ⟨hs,hB⟩:=qtJ (l:=l) (by rw [e3];exact h);rw [e2,e3,hp]at hs hB;rw [h2]at hs;obtain ⟨hx,hy⟩:=of_decide_eq_true hs.symm;have hB':=hB h2;unfold splK splV;rw [hB'];unfold recR;rw [if_neg (by rw [qjJ];exact fun a=>a ⟨hb,hn⟩),e3,if_neg (by omega),e2,hp,if_neg hx,if_neg (by rw [hy];decide)]
theorem zaB (h:n≤l.length) (h2:splO (l.take n) (p+1)=true) (h3:chkR (splK (l.take n) (p+1)) (splV (l.take n) (p+1))≠0):recR l=([], [], [],chkR (splK (l.take n) (p+1)) (splV (l.take n) (p+1))):=by
 rw [qmS hb hn hp hv h h2,if_pos h3]
theorem zaA (h:n≤l.length) (h2:splO (l.take n) (p+1)=true) (h3:chkR (splK (l.take n) (p+1)) (splV (l.take n) (p+1))=0) (h4:recL (splK (l.take n) (p+1)) (splV (l.take n) (p+1))≠l.take n):recR l=([], [], [],3):=by
 rw [qmS hb hn hp hv h h2,if_neg (by simpa using h3),if_pos h4]
theorem q99 (h:n≤l.length) (h2:splO (l.take n) (p+1)=true) (h3:chkR (splK (l.take n) (p+1)) (splV (l.take n) (p+1))=0) (h4:recL (splK (l.take n) (p+1)) (splV (l.take n) (p+1))=l.take n):recR l=(splK (l.take n) (p+1),splV (l.take n) (p+1),l.drop n,0):=by
 rw [qmS hb hn hp hv h h2,if_neg (by simpa using h3),if_neg (by simpa using h4)]
end
end Go.Proofs.YtapgoifimhnbdaaGreatDoor
namespace Go.Proofs.YtapgoifimhnbdaaGreatDoor
open Go.RowKit
theorem quH (a:List UInt8):Op.bytesLess a a=false:=by
 induction a with
 |nil=>rfl
 |cons x a ih=>simp [Op.bytesLess,ih]
theorem q5Y (a b:List UInt8) (h:Op.bytesLess a b=true):Op.bytesLess b a=false:=by
 induction a generalizing b with
 |nil=>
  cases b with
  |nil=>rfl
  |cons y b=>rfl
 |cons x a ih=>
  cases b with
  |nil=>cases h
  |cons y b=>
   simp only [Op.bytesLess,Bool.or_eq_true,Bool.and_eq_true,decide_eq_true_eq,beq_iff_eq]at h;rcases h with h|⟨rfl,h⟩
   ·have h1: ¬y<x:=fun h'=>by simp only [UInt8.lt_iff_toNat_lt]at h h';omega
    have h2:(y==x)=false:=by rw [beq_eq_false_iff_ne];rintro rfl;simp only [UInt8.lt_iff_toNat_lt]at h;omega
    simp [Op.bytesLess,h1,h2]
   ·have h1: ¬x<x:=fun h'=>by simp only [UInt8.lt_iff_toNat_lt]at h';omega
    simp [Op.bytesLess,h1,ih b h]
theorem q1K (a b:List UInt8) (h:Op.bytesLess a b=false) (hne:a≠b):Op.bytesLess b a=true:=by
 induction a generalizing b with
 |nil=>
  cases b with
  |nil=>exact absurd rfl hne
  |cons y b=>cases h
 |cons x a ih=>
  cases b with
  |nil=>rfl
  |cons y b=>
   simp only [Op.bytesLess,Bool.or_eq_false_iff,Bool.and_eq_false_iff,decide_eq_false_iff_not,beq_eq_false_iff_ne]at h;obtain ⟨h1,h2⟩:=h;simp only [Op.bytesLess,Bool.or_eq_true,Bool.and_eq_true,decide_eq_true_eq,beq_iff_eq]
   by_cases e:x=y
   ·subst e;rcases h2 with h2|h2
    ·exact absurd rfl h2
    ·exact .inr ⟨rfl,ih b h2 (fun e=>hne (by rw [e]))⟩
   ·refine .inl ?_;simp only [UInt8.lt_iff_toNat_lt]at h1⊢;have:x.toNat≠y.toNat:=fun e'=>e (UInt8.toNat_inj.1 e');omega
theorem le_less (a b:List UInt8):(Op.bytesLess a b||a==b)= !(Op.bytesLess b a):=by
 cases h:Op.bytesLess b a
 ·cases h2:Op.bytesLess a b
  ·by_cases e:a=b
   ·simp [e]
   ·rw [q1K a b h2 e]at h;cases h
  ·simp
 ·rw [q5Y b a h];have:(a==b)=false:=by rw [beq_eq_false_iff_ne];rintro rfl;rw [quH]at h;cases h
  rw [this];rfl
abbrev Rc:Type:=List UInt8×List UInt8
def chkG:List UInt8→List Rc→Int
 |_, []=>0
 |last,r::l=>if chkR r.1 r.2≠0 then chkR r.1 r.2 else if Op.bytesLess last r.1=true then chkG r.1 l else 6
def chkP (l:List Rc):Int:=if 12<l.length then 1 else chkG [] l
theorem qzM {last:List UInt8} {r:Rc} {l:List Rc} (h:chkR r.1 r.2≠0):chkG last (r::l)=chkR r.1 r.2:=by rw [chkG,if_pos h]
theorem qqH {last:List UInt8} {r:Rc} {l:List Rc} (h:chkR r.1 r.2=0) (h2:Op.bytesLess last r.1=false):chkG last (r::l)=6:=by rw [chkG,if_neg (by simpa using h),if_neg (by rw [h2];decide)]
theorem qsS {last:List UInt8} {r:Rc} {l:List Rc} (h:chkR r.1 r.2=0) (h2:Op.bytesLess last r.1=true):chkG last (r::l)=chkG r.1 l:=by rw [chkG,if_neg (by simpa using h),if_pos h2]
theorem qjR {l:List Rc} (h:12<l.length):chkP l=1:=if_pos h
theorem qsR {l:List Rc} (h:l.length≤12):chkP l=chkG [] l:=if_neg (by omega)
theorem zcP {last:List UInt8} {l:List Rc} (h:chkG last l=0): ∀r∈l,chkR r.1 r.2=0:=by
 induction l generalizing last with
 |nil=>intro r hr;cases hr
 |cons x l ih=>
  unfold chkG at h
  split at h
  ·rename_i h1;exact absurd h h1
  ·rename_i h1
   split at h
   ·intro r hr;rcases List.mem_cons.1 hr with rfl|hr
    ·simpa using h1
    ·exact ih h r hr
   ·cases h
theorem qf9 {l:List Rc} (h:chkP l=0):l.length≤12∧chkG [] l=0∧ ∀r∈l,chkR r.1 r.2=0:=by
 by_cases hl:12<l.length
 ·rw [qjR hl]at h;cases h
 ·rw [qsR (by omega)]at h;exact ⟨by omega,h,zcP h⟩
def qcD (l:List Rc):List UInt8:=l.flatMap fun r=>recL r.1 r.2
theorem q3N:qcD []= []:=rfl
theorem qjY (r:Rc) (l:List Rc):qcD (r::l)=recL r.1 r.2++qcD l:=rfl
theorem q3O (a b:List Rc):qcD (a++b)=qcD a++qcD b:=by simp [qcD]
theorem qyQ (k v:List UInt8):1≤(recL k v).length:=by
 unfold recL recT;rw [List.length_append,List.length_cons];omega
theorem qs9 {l:List Rc} (h: ∀r∈l,chkR r.1 r.2=0):(qcD l).length≤l.length*566:=by
 induction l with
 |nil=>exact Nat.le_refl _
 |cons r l ih=>
  have h1:=ih fun x hx=>h x (List.mem_cons_of_mem _ hx);obtain ⟨-,k2,v2,-⟩:=qg8 (h r (List.mem_cons_self ..));have h2:=qrD r.1 r.2 (by omega);have h3:=qrC (r.1.length+r.2.length+3);rw [qjY,List.length_append,List.length_cons];omega
def paxW (l:List Rc):List UInt8×Int:=if chkP l=0 then (qcD l,0)else ([],chkP l)
theorem paxW_ok {l:List Rc} (h:chkP l=0):paxW l=(qcD l,0):=if_pos h
theorem paxW_no {l:List Rc} (h:chkP l≠0):paxW l=([],chkP l):=if_neg h
theorem qtS {l:List UInt8} (h:(recR l).2.2.2=0):(recR l).2.2.1.length<l.length:=by
 unfold recR at h⊢
 split at h
 ·cases h
 ·rename_i h1
  split at h
  ·cases h
  ·rename_i h2
   split at h
   ·cases h
   ·rename_i h3
    split at h
    ·cases h
    ·rename_i h4
     split at h
     ·rename_i h5;exact absurd h h5
     ·rename_i h5
      split at h
      ·cases h
      ·rename_i h6;rw [if_neg h1,if_neg h2,if_neg h3,if_neg h4,if_neg h5,if_neg h6];have hn:1≤dVal (digP l):=by omega
       show (l.drop (dVal (digP l))).length<l.length;rw [List.length_drop];omega
def rdP:Nat→List UInt8→List Rc×Int
 |0,_=>([],0)
 |_+1, []=>([],0)
 |f+1,c::l=>
  if (recR (c::l)).2.2.2≠0 then ([],(recR (c::l)).2.2.2)
  else if (rdP f (recR (c::l)).2.2.1).2≠0 then ([],(rdP f (recR (c::l)).2.2.1).2)
  else (((recR (c::l)).1,(recR (c::l)).2.1)::(rdP f (recR (c::l)).2.2.1).1,0)
theorem zaF (f g:Nat) (l:List UInt8) (hf:l.length≤f) (hg:l.length≤g):rdP f l=rdP g l:=by
 induction f generalizing g l with
 |zero=>
  have:l= []:=List.eq_nil_of_length_eq_zero (by omega);subst this;cases g<;>rfl
 |succ f ih=>
  cases l with
  |nil=>cases g<;>rfl
  |cons c l=>
   cases g with
   |zero=>simp at hg
   |succ g=>
    rw [rdP,rdP]
    by_cases h:(recR (c::l)).2.2.2=0
    ·have hr:=qtS h;simp only [List.length_cons]at hr hf hg;rw [ih g _ (by omega) (by omega)]
    ·rw [if_pos h,if_pos h]
def qcK (l:List UInt8):List Rc×Int:=rdP l.length l
def qmT (acc:List Rc) (l:List UInt8):List Rc×Int:=if (qcK l).2≠0 then ([],(qcK l).2)else (acc++(qcK l).1,0)
theorem q4V:qcK []=([],0):=rfl
theorem qj4 {l:List UInt8} (hl:l≠ []) (h:(recR l).2.2.2=0):
  qcK l=if (qcK (recR l).2.2.1).2≠0 then ([],(qcK (recR l).2.2.1).2)else (((recR l).1,(recR l).2.1)::(qcK (recR l).2.2.1).1,0):=by
 cases l with
 |nil=>exact absurd rfl hl
 |cons c l=>
  have hr:=qtS h;unfold qcK;rw [List.length_cons,rdP,if_neg (by simpa using h)];rw [List.length_cons]at hr;rw [zaF l.length (recR (c::l)).2.2.1.length _ (by omega) (Nat.le_refl _)]
theorem qtW {l:List UInt8} (hl:l≠ []) (h:(recR l).2.2.2≠0):qcK l=([],(recR l).2.2.2):=by
 cases l with
 |nil=>exact absurd rfl hl
 |cons c l=>
  unfold qcK;rw [List.length_cons,rdP,if_pos h]
theorem q4W (l:List UInt8):qmT [] l=qcK l:=by
 have key:(qcK l).2=0∨(qcK l).1= []:=by
  cases l with
  |nil=>exact .inl rfl
  |cons c l=>
   by_cases h:(recR (c::l)).2.2.2=0
   ·rw [qj4 (by simp) h]
    split
    ·exact .inr rfl
    ·exact .inl rfl
   ·rw [qtW (by simp) h];exact .inr rfl
 unfold qmT
 split
 ·rename_i h;rcases key with k|k
  ·exact absurd k h
  ·rw [←k]
 ·rename_i h;rw [List.nil_append];have:(qcK l).2=0:=by simpa using h
  rw [←this]
theorem q4X (acc:List Rc):qmT acc []=(acc,0):=by
 unfold qmT;rw [q4V,if_neg (by decide),List.append_nil]
theorem q4Y {acc:List Rc} {l:List UInt8} (hl:l≠ []) (h:(recR l).2.2.2≠0):qmT acc l=([],(recR l).2.2.2):=by
 unfold qmT;rw [qtW hl h,if_pos h]
theorem q0Z {acc:List Rc} {l:List UInt8} (hl:l≠ []) (h:(recR l).2.2.2=0):qmT acc l=qmT (acc++ [((recR l).1,(recR l).2.1)]) (recR l).2.2.1:=by
 unfold qmT;rw [qj4 hl h]
 by_cases e:(qcK (recR l).2.2.1).2=0
 ·rw [if_neg (show¬(qcK (recR l).2.2.1).2≠0 by simpa using e)];simp [e]
 ·rw [if_pos e,if_pos e,if_pos e]
def paxR (l:List UInt8):List Rc×Int:=if (qcK l).2≠0 then ([],(qcK l).2)else if chkP (qcK l).1≠0 then ([],chkP (qcK l).1)else ((qcK l).1,0)
theorem zaS {l:List UInt8} {e:Int} (h:qcK l=([],e)) (he:e≠0):paxR l=([],e):=by unfold paxR;rw [h,if_pos he]
theorem qrI {l:List UInt8} {x:List Rc} (h:qcK l=(x,0)) (hx:chkP x≠0):paxR l=([],chkP x):=by unfold paxR;rw [h,if_neg (fun a=>a rfl),if_pos hx]
theorem qrH {l:List UInt8} {x:List Rc} (h:qcK l=(x,0)) (hx:chkP x=0):paxR l=(x,0):=by unfold paxR;rw [h,if_neg (fun a=>a rfl),if_neg (by simpa using hx)]
theorem q0Y (x:List Rc) (h: ∀r∈x,chkR r.1 r.2=0):qcK (qcD x)=(x,0):=by
 induction x with
 |nil=>rfl
 |cons r x ih=>
  have h1:=h r (List.mem_cons_self ..);have h2:=ih fun y hy=>h y (List.mem_cons_of_mem _ hy);have hr:=qtR r.1 r.2 (qcD x) h1;rw [qjY];rw [qj4 ?_ (by rw [hr]),hr,h2,if_neg (fun a=>a rfl)];intro e;have:=congrArg List.length e;rw [List.length_append,List.length_nil]at this;have:=qyQ r.1 r.2;omega
def paxF:List Rc→List UInt8→List UInt8×Bool
 | [],_=>([],false)
 |r::l,key=>if r.1=key then (r.2,true)else paxF l key
def sumB (l:List UInt8):Nat:=(l.map fun c=>c.toNat).sum
theorem q9F:sumB []=0:=rfl
theorem qtD (c:UInt8) (l:List UInt8):sumB (c::l)=c.toNat+sumB l:=by simp [sumB]
theorem q9G (a b:List UInt8):sumB (a++b)=sumB a+sumB b:=by simp [sumB]
theorem qmC (l:List UInt8):sumB l≤255*l.length:=by
 induction l with
 |nil=>exact Nat.le_refl _
 |cons c l ih=>rw [qtD,List.length_cons];have:=c.toNat_lt;omega
def sumK (l:List UInt8) (k:Nat):Nat:=sumB (l.take (min k 148))+32*(min k 156-148)+sumB ((l.take k).drop 156)
def sumH (l:List UInt8):Nat:=sumB (l.take 148)+256+sumB (l.drop 156)
theorem qwD (l:List UInt8) (h:l.length=512):sumH l<262144:=by
 unfold sumH;have h1:=qmC (l.take 148);have h2:=qmC (l.drop 156);rw [List.length_take]at h1;rw [List.length_drop]at h2;omega
def sumV (l:List UInt8):Int×Int:=if l.length=512 then ((sumH l:Int),0)else (0,1)
theorem qwC {l:List UInt8} (h:l.length=512):sumV l=((sumH l:Int),0):=if_pos h
theorem q3V {l:List UInt8} (h: ¬l.length=512):sumV l=(0,1):=if_neg h
theorem qyC (a c b:List UInt8) (ha:a.length=148) (hc:c.length=8):sumH (a++(c++b))=sumB a+256+sumB b:=by
 unfold sumH
 have e:(a++(c++b)).drop 156=b:=by
  rw [←List.append_assoc,show (156:Nat)=(a++c).length by rw [List.length_append];omega,List.drop_left]
 rw [List.take_left' ha,e]
def ckL (n:Nat):List UInt8:=D n 6++ [0]++ [32]
theorem qhS (n:Nat):(ckL n).length=8:=by simp [ckL]
theorem octW_ck (n:Nat) (h:n<262144):octW (n:Int) 7=(bs (D n 6++ [0]),0):=by
 rw [qlZ (by omega) ⟨by omega,by unfold most;simp;omega⟩];rfl
def ckOk (l:List UInt8):Bool:=decide ((l.take 156).drop 148=ckL (sumH l))
theorem zcN (a c b:List UInt8) (ha:a.length=148) (hc:c.length=8):ckOk (a++(c++b))=decide (c=ckL (sumB a+256+sumB b)):=by
 unfold ckOk;rw [qyC a c b ha hc]
 have e:((a++(c++b)).take 156).drop 148=c:=by
  rw [←List.append_assoc,List.take_append_of_le_length (by rw [List.length_append];omega),List.take_of_length_le (by rw [List.length_append];omega),←ha,List.drop_left]
 rw [e]
structure HeadV where
 name:List UInt8
 pre:List UInt8
 link:List UInt8
 mode:Int
 uid:Int
 gid:Int
 size:Int
 time:Int
 typ:UInt8
 user:List UInt8
 group:List UInt8
def qbE:HeadV:=⟨[], [], [],0,0,0,0,0,0, [], []⟩
def typB (c:UInt8):Bool:=hasB c [48,49,50,53,120]
def qlC:List UInt8:= [117,115,116,97,114,0,48,48]
def qcO (w e:Int):Int:=if w=0 then e else w
def qb8 (l:List Int):Int:=l.foldl qcO 0
theorem qxM (e:Int):qcO 0 e=e:=rfl
theorem qg3 (l:List Int) (h: ∀e∈l,e=0):qb8 l=0:=by
 unfold qb8
 induction l with
 |nil=>rfl
 |cons x l ih=>
  rw [List.foldl_cons,h x (List.mem_cons_self ..)];exact ih fun e he=>h e (List.mem_cons_of_mem _ he)
theorem qxJ (l:List Int) (w:Int) (h:w≠0):l.foldl qcO w=w:=by
 induction l with
 |nil=>rfl
 |cons x l ih=>
  rw [List.foldl_cons,show qcO w x=w from if_neg h];exact ih
theorem qiL {l:List Int} (h:qb8 l=0): ∀e∈l,e=0:=by
 induction l with
 |nil=>intro e he;cases he
 |cons x l ih=>
  unfold qb8 at h ih;rw [List.foldl_cons,qxM]at h
  by_cases hx:x=0
  ·subst hx;intro e he;rcases List.mem_cons.1 he with rfl|he
   ·rfl
   ·exact ih h e he
  ·rw [qxJ l x hx]at h;exact absurd h hx
def fw (l:List UInt8) (x:Int) (wh:Bool):List UInt8:=(fldW l x wh).1.data.toList
def ow (n x:Int):List UInt8:=(octW n x).1.data.toList
def qc0 (h:HeadV):List UInt8:=fw h.name 100 true++ow h.mode 8++ow h.uid 8++ow h.gid 8++ow h.size 12++ow h.time 12
def qe5 (h:HeadV):List UInt8:= [h.typ]++fw h.link 100 true++qlC++fw h.user 32 false++fw h.group 32 false++ow 0 8++ow 0 8++fw h.pre 155 true++List.replicate 12 0
def qc7 (h:HeadV):List Int:= [(fldW h.name 100 true).2,(octW h.mode 8).2,(octW h.uid 8).2,(octW h.gid 8).2,(octW h.size 12).2,(octW h.time 12).2,(fldW h.link 100 true).2,(fldW h.user 32 false).2,(fldW h.group 32 false).2,(octW 0 8).2,(octW 0 8).2,(fldW h.pre 155 true).2]
def qdB (h:HeadV):Int:=if typB h.typ=true then qb8 (qc7 h)else 2
def qjH (h:HeadV):ByteArray×Int:=if qdB h=0 then (bs (qc0 h++(ckL (sumB (qc0 h)+256+sumB (qe5 h))++qe5 h)),0)else (⟨#[]⟩,qdB h)
theorem ql0 {h:HeadV} (e:qdB h=0):qjH h=(bs (qc0 h++(ckL (sumB (qc0 h)+256+sumB (qe5 h))++qe5 h)),0):=if_pos e
theorem qy9 {h:HeadV} (e:qdB h≠0):qjH h=(⟨#[]⟩,qdB h):=if_neg e
theorem qg1 {l:List UInt8} {n:Nat} {wh:Bool} (h:(fldW l n wh).2=0):(fw l n wh).length=n∧hasB 0 l=false∧l.length≤n∧(wh=true∨l.length<n)∧1≤n∧n≤512∧fw l n wh=l++List.replicate (n-l.length) 0:=by
 by_cases h1:(n:Int)<1∨512<(n:Int)
 ·rw [qp5 h1]at h;cases h
 ·by_cases h2:(n:Int)<l.length∨(wh=false∧(n:Int)=l.length)
  ·rw [quY h1 h2]at h;cases h
  ·by_cases h3:hasB 0 l=true
   ·rw [quZ h1 h2 h3]at h;cases h
   ·have e:fw l n wh=l++List.replicate (n-l.length) 0:=by
     unfold fw;rw [qxK h1 h2 (by simpa using h3),Int.toNat_natCast]
    refine ⟨?_,by simpa using h3,by omega,?_,by omega,by omega,e⟩
    ·rw [e,List.length_append,List.length_replicate];omega
    ·cases wh
     ·right;rcases Nat.lt_or_ge l.length n with a|a
      ·exact a
      ·exact absurd (.inr ⟨rfl,by omega⟩) h2
     ·left;rfl
theorem qgF {v:Int} {n:Nat} (h:(octW v n).2=0):(ow v n).length=n∧2≤n∧n≤12∧0≤v∧v.toNat<8^(n-1)∧ow v n=D v.toNat (n-1)++ [0]:=by
 by_cases h1:2≤(n:Int)∧(n:Int)≤12∧0≤v∧v≤most n
 ·obtain ⟨a,b,c,d⟩:=h1
  have e:ow v n=D v.toNat (n-1)++ [0]:=by
   unfold ow;rw [qlZ ⟨a,b⟩ ⟨c,d⟩,Int.toNat_natCast]
  refine ⟨by rw [e];simp;omega,by omega,by omega,c,?_,e⟩;have:=zbB n (by omega) v c d
  rwa [Int.toNat_natCast]at this
 ·rw [qw0 h1]at h;cases h
theorem qr3 {h:HeadV} (e:qdB h=0):typB h.typ=true∧ ∀x∈qc7 h,x=0:=by
 unfold qdB at e
 split at e
 ·rename_i ht;exact ⟨ht,qiL e⟩
 ·cases e
theorem qfF {h:HeadV} (e:qdB h=0):(qc0 h).length=148:=by
 obtain ⟨-,he⟩:=qr3 e;have h1:=(qg1 (n:=100) (he (fldW h.name 100 true).2 (by simp [qc7]))).1;have h2:=(qgF (n:=8) (he (octW h.mode 8).2 (by simp [qc7]))).1;have h3:=(qgF (n:=8) (he (octW h.uid 8).2 (by simp [qc7]))).1;have h4:=(qgF (n:=8) (he (octW h.gid 8).2 (by simp [qc7]))).1;have h5:=(qgF (n:=12) (he (octW h.size 12).2 (by simp [qc7]))).1;have h6:=(qgF (n:=12) (he (octW h.time 12).2 (by simp [qc7]))).1;unfold qc0;simp only [List.length_append];show (fw h.name (100:Nat) true).length+(ow h.mode (8:Nat)).length+(ow h.uid (8:Nat)).length+(ow h.gid (8:Nat)).length+(ow h.size (12:Nat)).length+(ow h.time (12:Nat)).length=148;omega
theorem qsT {h:HeadV} (e:qdB h=0):(qe5 h).length=356:=by
 obtain ⟨-,he⟩:=qr3 e;have h1:=(qg1 (n:=100) (he (fldW h.link 100 true).2 (by simp [qc7]))).1;have h2:=(qg1 (n:=32) (he (fldW h.user 32 false).2 (by simp [qc7]))).1;have h3:=(qg1 (n:=32) (he (fldW h.group 32 false).2 (by simp [qc7]))).1;have h4:=(qgF (n:=8) (he (octW 0 8).2 (by simp [qc7]))).1;have h5:=(qg1 (n:=155) (he (fldW h.pre 155 true).2 (by simp [qc7]))).1;unfold qe5 qlC;simp only [List.length_append,List.length_cons,List.length_nil,List.length_replicate];show 0+1+(fw h.link (100:Nat) true).length+8+(fw h.user (32:Nat) false).length+(fw h.group (32:Nat) false).length+(ow 0 (8:Nat)).length+(ow 0 (8:Nat)).length+(fw h.pre (155:Nat) true).length+12=356;omega
theorem qnK {h:HeadV} (e:qdB h=0):(qc0 h++(ckL (sumB (qc0 h)+256+sumB (qe5 h))++qe5 h)).length=512∧ckOk (qc0 h++(ckL (sumB (qc0 h)+256+sumB (qe5 h))++qe5 h))=true:=by
 have h1:=qfF e;have h2:=qsT e;refine ⟨?_,?_⟩
 ·rw [List.length_append,List.length_append,qhS,h1,h2]
 ·rw [zcN _ _ _ h1 (qhS _)];exact decide_eq_true rfl
def sl (l:List UInt8) (a b:Nat):List UInt8:=(l.take b).drop a
theorem qiW (l:List UInt8) (a b:Nat) (h:b≤l.length):(sl l a b).length=b-a:=by
 unfold sl;rw [List.length_drop,List.length_take];omega
theorem sl_flat (ps:List (List UInt8)) (i:Nat) (hi:i<ps.length) (a b:Nat) (ha:a=((ps.take i).map List.length).sum) (hb:b=a+ps[i].length):sl ps.flatten a b=ps[i]:=by
 have e:ps.flatten=(ps.take i).flatten++(ps[i]++(ps.drop (i+1)).flatten):=by
  conv=>lhs;rw [←List.take_append_drop i ps,List.drop_eq_getElem_cons hi,List.flatten_append,List.flatten_cons]
 have hl:(ps.take i).flatten.length=a:=by rw [List.length_flatten,ha]
 unfold sl;rw [e,←List.append_assoc,List.take_append_of_le_length (by rw [List.length_append];omega),List.take_of_length_le (by rw [List.length_append];omega),←hl,List.drop_left]
def qvY:List UInt8:= [48,48,48,48,48,48,48,0,48,48,48,48,48,48,48,0]
def rdS (l:List UInt8) (a b:Nat) (wh:Bool):List UInt8:=(fldR (sl l a b) wh).1.data.toList
def qiC (l:List UInt8):HeadV:=
 ⟨rdS l 0 100 true,rdS l 345 500 true,rdS l 157 257 true,(octR (sl l 100 108)).1,(octR (sl l 108 116)).1,(octR (sl l 116 124)).1,(octR (sl l 124 136)).1,(octR (sl l 136 148)).1,l.getD 156 0,rdS l 265 297 false,rdS l 297 329 false⟩
def bad (b:Bool):Int:=if b=true then 0 else 3
def qn1 (l:List UInt8):List Int:=
 [(fldR (sl l 0 100) true).2,(octR (sl l 100 108)).2,(octR (sl l 108 116)).2,(octR (sl l 116 124)).2,(octR (sl l 124 136)).2,(octR (sl l 136 148)).2,bad (typB (l.getD 156 0)),(fldR (sl l 157 257) true).2,bad (decide (sl l 257 265=qlC)),
  (fldR (sl l 265 297) false).2,(fldR (sl l 297 329) false).2,bad (decide (sl l 329 345=qvY)),(fldR (sl l 345 500) true).2,bad (decide (sl l 500 512=List.replicate 12 0))]
def qcM (l:List UInt8):HeadV×Int:=
 if l.length≠512 then (qbE,1)else if ckOk l=false then (qbE,8)else if qb8 (qn1 l)≠0 then (qbE,qb8 (qn1 l))else (qiC l,0)
theorem q11 {l:List UInt8} (h:l.length≠512):qcM l=(qbE,1):=if_pos h
theorem q6F {l:List UInt8} (h:l.length=512) (h2:ckOk l=false):qcM l=(qbE,8):=by rw [qcM,if_neg (by simpa using h),if_pos h2]
theorem q6G {l:List UInt8} (h:l.length=512) (h2:ckOk l=true) (h3:qb8 (qn1 l)≠0):qcM l=(qbE,qb8 (qn1 l)):=by rw [qcM,if_neg (by simpa using h),if_neg (by simp [h2]),if_pos h3]
theorem qzA {l:List UInt8} (h:l.length=512) (h2:ckOk l=true) (h3:qb8 (qn1 l)=0):qcM l=(qiC l,0):=by rw [qcM,if_neg (by simpa using h),if_neg (by simp [h2]),if_neg (by simpa using h3)]
theorem qlH {l:List Int} (h: ∀e∈l,e=0∨e=3):qb8 l=0∨qb8 l=3:=by
 unfold qb8
 have key: ∀(l:List Int) (w:Int),(w=0∨w=3)→(∀e∈l,e=0∨e=3)→(l.foldl qcO w=0∨l.foldl qcO w=3):=by
  intro l
  induction l with
  |nil=>intro w hw _;exact hw
  |cons x l ih=>
   intro w hw h;rw [List.foldl_cons];refine ih _ ?_ fun e he=>h e (List.mem_cons_of_mem _ he);unfold qcO
   split
   ·exact h x (List.mem_cons_self ..)
   ·exact hw
 exact key l 0 (.inl rfl) h
theorem zaP (k:Nat):pos 0 (List.replicate k 0)=0:=by
 cases k with
 |zero=>rfl
 |succ k=>rw [List.replicate_succ,qc3,if_pos rfl]
theorem q8I (k:Nat):allZ (List.replicate k 0)=true:=by
 rw [ql5,List.length_replicate];exact decide_eq_true rfl
theorem qnT {l:List UInt8} {n:Nat} {wh:Bool} (h:(fldW l n wh).2=0):fldR (fw l n wh) wh=(bs l,0):=by
 obtain ⟨h1,h2,h3,h4,h5,h6,e⟩:=qg1 h;have hp:pos 0 (l++List.replicate (n-l.length) 0)=l.length:=by rw [qrF _ _ _ h2,zaP];rfl
 rw [e]at h1⊢;rw [q61 (by omega) ?_ ?_,hp,List.take_left]
 ·rfl
 ·rintro ⟨rfl,e2⟩;rw [hp]at e2;rcases h4 with h4|h4
  ·cases h4
  ·omega
 ·rw [hp,List.drop_left];exact q8I _
theorem qm9 {v:Int} {n:Nat} (h:(octW v n).2=0):octR (ow v n)=(v,0):=by
 obtain ⟨-,h2,h3,h4,h5,e⟩:=qgF h;rw [e,octR_D _ _ (by omega) (by omega) h5,Int.toNat_of_nonneg h4]
theorem ow_zero:ow 0 8= [48,48,48,48,48,48,48,0]:=by decide+kernel
def qbK (h:HeadV) (ck:List UInt8):List (List UInt8):=
 [fw h.name (100:Nat) true,ow h.mode (8:Nat),ow h.uid (8:Nat),ow h.gid (8:Nat),ow h.size (12:Nat),ow h.time (12:Nat),ck, [h.typ],fw h.link (100:Nat) true,qlC,fw h.user (32:Nat) false,fw h.group (32:Nat) false,qvY,fw h.pre (155:Nat) true,List.replicate 12 0]
theorem q07 (h:HeadV) (ck:List UInt8):qc0 h++(ck++qe5 h)=(qbK h ck).flatten:=by
 have e:ow 0 8++ow 0 8=qvY:=by rw [ow_zero];rfl
 unfold qc0 qe5 qbK;rw [←e];simp
theorem qxF {h:HeadV} (e:qdB h=0):qcM (qc0 h++(ckL (sumB (qc0 h)+256+sumB (qe5 h))++qe5 h))=(h,0):=by
 obtain ⟨hlen,hck⟩:=qnK e;obtain ⟨ht,he⟩:=qr3 e;have w1:=he (fldW h.name 100 true).2 (by simp [qc7]);have w2:=he (octW h.mode 8).2 (by simp [qc7]);have w3:=he (octW h.uid 8).2 (by simp [qc7]);have w4:=he (octW h.gid 8).2 (by simp [qc7]);have w5:=he (octW h.size 12).2 (by simp [qc7]);have w6:=he (octW h.time 12).2 (by simp [qc7]);have w7:=he (fldW h.link 100 true).2 (by simp [qc7]);have w8:=he (fldW h.user 32 false).2 (by simp [qc7]);have w9:=he (fldW h.group 32 false).2 (by simp [qc7]);have wA:=he (fldW h.pre 155 true).2 (by simp [qc7]);have l1:=(qg1 (n:=100) w1).1;have l2:=(qgF (n:=8) w2).1;have l3:=(qgF (n:=8) w3).1;have l4:=(qgF (n:=8) w4).1;have l5:=(qgF (n:=12) w5).1;have l6:=(qgF (n:=12) w6).1;have l7:=(qg1 (n:=100) w7).1;have l8:=(qg1 (n:=32) w8).1;have l9:=(qg1 (n:=32) w9).1;have lA:=(qg1 (n:=155) wA).1;have lk:=qhS (sumB (qc0 h)+256+sumB (qe5 h));have r1:=qnT (n:=100) w1;have r2:=qm9 (n:=8) w2;have r3:=qm9 (n:=8) w3;have r4:=qm9 (n:=8) w4;have r5:=qm9 (n:=12) w5;have r6:=qm9 (n:=12) w6;have r7:=qnT (n:=100) w7;have r8:=qnT (n:=32) w8;have r9:=qnT (n:=32) w9;have rA:=qnT (n:=155) wA;generalize ckL (sumB (qc0 h)+256+sumB (qe5 h))=ck at*;rw [q07]at hlen hck⊢;have hps:(qbK h ck).length=15:=rfl;have S: ∀i (hi:i<(qbK h ck).length) a b,a=(((qbK h ck).take i).map List.length).sum→b=a+(qbK h ck)[i].length→sl (qbK h ck).flatten a b=(qbK h ck)[i]:=fun i hi a b ha hb=>sl_flat _ i hi a b ha hb;have lm:qlC.length=8:=rfl;have lz:qvY.length=16:=rfl
 have lr:(List.replicate 12 (0:UInt8)).length=12:=rfl;have s0:sl (qbK h ck).flatten 0 100=fw h.name (100:Nat) true:=S 0 (by omega) 0 100 rfl (by show 100=0+(fw h.name (100:Nat) true).length;omega);have s1:sl (qbK h ck).flatten 100 108=ow h.mode (8:Nat):=S 1 (by omega) 100 108 (by simp only [qbK,List.take_succ_cons,List.take_zero,List.map_cons,List.map_nil,List.sum_cons,List.sum_nil];omega) (by show 108=100+(ow h.mode (8:Nat)).length;omega);have s2:sl (qbK h ck).flatten 108 116=ow h.uid (8:Nat):=S 2 (by omega) 108 116 (by simp only [qbK,List.take_succ_cons,List.take_zero,List.map_cons,List.map_nil,List.sum_cons,List.sum_nil];omega) (by show 116=108+(ow h.uid (8:Nat)).length;omega);have s3:sl (qbK h ck).flatten 116 124=ow h.gid (8:Nat):=S 3 (by omega) 116 124 (by simp only [qbK,List.take_succ_cons,List.take_zero,List.map_cons,List.map_nil,List.sum_cons,List.sum_nil];omega) (by show 124=116+(ow h.gid (8:Nat)).length;omega);have s4:sl (qbK h ck).flatten 124 136=ow h.size (12:Nat):=S 4 (by omega) 124 136 (by simp only [qbK,List.take_succ_cons,List.take_zero,List.map_cons,List.map_nil,List.sum_cons,List.sum_nil];omega) (by show 136=124+(ow h.size (12:Nat)).length;omega);have s5:sl (qbK h ck).flatten 136 148=ow h.time (12:Nat):=S 5 (by omega) 136 148 (by simp only [qbK,List.take_succ_cons,List.take_zero,List.map_cons,List.map_nil,List.sum_cons,List.sum_nil];omega) (by show 148=136+(ow h.time (12:Nat)).length;omega)
 have s7:sl (qbK h ck).flatten 156 157= [h.typ]:=S 7 (by omega) 156 157 (by simp only [qbK,List.take_succ_cons,List.take_zero,List.map_cons,List.map_nil,List.sum_cons,List.sum_nil];omega) rfl;have s8:sl (qbK h ck).flatten 157 257=fw h.link (100:Nat) true:=S 8 (by omega) 157 257 (by simp only [qbK,List.take_succ_cons,List.take_zero,List.map_cons,List.map_nil,List.sum_cons,List.sum_nil,List.length_cons,List.length_nil];omega) (by show 257=157+(fw h.link (100:Nat) true).length;omega);have s9:sl (qbK h ck).flatten 257 265=qlC:=S 9 (by omega) 257 265 (by simp only [qbK,List.take_succ_cons,List.take_zero,List.map_cons,List.map_nil,List.sum_cons,List.sum_nil,List.length_cons,List.length_nil];omega) rfl;have sA:sl (qbK h ck).flatten 265 297=fw h.user (32:Nat) false:=S 10 (by omega) 265 297 (by simp only [qbK,List.take_succ_cons,List.take_zero,List.map_cons,List.map_nil,List.sum_cons,List.sum_nil,List.length_cons,List.length_nil];omega) (by show 297=265+(fw h.user (32:Nat) false).length;omega);have sB:sl (qbK h ck).flatten 297 329=fw h.group (32:Nat) false:=S 11 (by omega) 297 329 (by simp only [qbK,List.take_succ_cons,List.take_zero,List.map_cons,List.map_nil,List.sum_cons,List.sum_nil,List.length_cons,List.length_nil];omega) (by show 329=297+(fw h.group (32:Nat) false).length;omega)
 have sC:sl (qbK h ck).flatten 329 345=qvY:=S 12 (by omega) 329 345 (by simp only [qbK,List.take_succ_cons,List.take_zero,List.map_cons,List.map_nil,List.sum_cons,List.sum_nil,List.length_cons,List.length_nil];omega) rfl;have sD:sl (qbK h ck).flatten 345 500=fw h.pre (155:Nat) true:=S 13 (by omega) 345 500 (by simp only [qbK,List.take_succ_cons,List.take_zero,List.map_cons,List.map_nil,List.sum_cons,List.sum_nil,List.length_cons,List.length_nil];omega) (by show 500=345+(fw h.pre (155:Nat) true).length;omega);have sE:sl (qbK h ck).flatten 500 512=List.replicate 12 0:=S 14 (by omega) 500 512 (by simp only [qbK,List.take_succ_cons,List.take_zero,List.map_cons,List.map_nil,List.sum_cons,List.sum_nil,List.length_cons,List.length_nil];omega) rfl
 have sT:(qbK h ck).flatten.getD 156 0=h.typ:=by
  generalize (qbK h ck).flatten=l at*;have e1:(sl l 156 157)[0]?=some h.typ:=by rw [s7];rfl
  unfold sl at e1;rw [List.getElem?_drop,List.getElem?_take_of_lt (by omega)]at e1;rw [List.getD_eq_getElem?_getD,e1];rfl
 have hE:qb8 (qn1 (qbK h ck).flatten)=0:=by
  refine qg3 _ ?_;unfold qn1;rw [s0,s1,s2,s3,s4,s5,s8,s9,sA,sB,sC,sD,sE,sT,r1,r2,r3,r4,r5,r6,r7,r8,r9,rA,ht];simp [bad]
 rw [qzA hlen hck hE];unfold qiC rdS;rw [s0,s1,s2,s3,s4,s5,s8,sA,sB,sD,sT,r1,r2,r3,r4,r5,r6,r7,r8,r9,rA]
 rfl
def padN (n:Nat):Nat:=(n+511) /512
theorem qm2 (n:Nat):n≤512*padN n:=by unfold padN;omega
theorem qiE (n:Nat):512*padN n<n+512:=by unfold padN;omega
def padB (n:Int):Int×Int:=if 0≤n∧n<8589934592 then ((padN n.toNat:Int),0)else (0,4)
theorem qm4 {n:Int} (h:0≤n∧n<8589934592):padB n=((padN n.toNat:Int),0):=if_pos h
theorem qwZ {n:Int} (h: ¬(0≤n∧n<8589934592)):padB n=(0,4):=if_neg h
def padF (l:List UInt8):List UInt8:=l++List.replicate (512*padN l.length-l.length) 0
theorem qcL (l:List UInt8):(padF l).length=512*padN l.length:=by
 have:=qm2 l.length;unfold padF;rw [List.length_append,List.length_replicate];omega
def padC (l:List UInt8) (n:Int):(List UInt8×List UInt8) ×Int:=
 if 0≤n∧n<8589934592 then
  if l.length<512*padN n.toNat then (([], []),7)
  else if allZ ((l.take (512*padN n.toNat)).drop n.toNat)=true then ((l.take n.toNat,l.drop (512*padN n.toNat)),0)else (([], []),3)
 else (([], []),4)
theorem qhM {l:List UInt8} {n:Int} (h: ¬(0≤n∧n<8589934592)):padC l n=(([], []),4):=if_neg h
theorem qpQ {l:List UInt8} {n:Int} (h:0≤n∧n<8589934592) (h2:l.length<512*padN n.toNat):padC l n=(([], []),7):=by rw [padC,if_pos h,if_pos h2]
theorem qi5 {l:List UInt8} {n:Int} (h:0≤n∧n<8589934592) (h2:512*padN n.toNat≤l.length) (h3:allZ ((l.take (512*padN n.toNat)).drop n.toNat)=false):padC l n=(([], []),3):=by
 rw [padC,if_pos h,if_neg (by omega),if_neg (by simp [h3])]
theorem qm3 {l:List UInt8} {n:Int} (h:0≤n∧n<8589934592) (h2:512*padN n.toNat≤l.length) (h3:allZ ((l.take (512*padN n.toNat)).drop n.toNat)=true):padC l n=((l.take n.toNat,l.drop (512*padN n.toNat)),0):=by
 rw [padC,if_pos h,if_neg (by omega),if_pos h3]
theorem qoU (k:Nat):allZ (List.replicate k 0)=true:=by rw [ql5,List.length_replicate];exact decide_eq_true rfl
theorem q49 (l m:List UInt8) (h:l.length<8589934592):padC (padF l++m) (l.length:Int)=((l,m),0):=by
 have hl:=qcL l;have e1:(padF l++m).take (512*padN l.length)=padF l:=List.take_left' hl;have e2:(padF l++m).drop (512*padN l.length)=m:=by rw [←hl,List.drop_left]
 have e3:(padF l++m).take l.length=l:=by unfold padF;rw [List.append_assoc,List.take_left]
 have e4:(padF l).drop l.length=List.replicate (512*padN l.length-l.length) 0:=by unfold padF;rw [List.drop_left]
 rw [qm3 ⟨by omega,by omega⟩ (by rw [Int.toNat_natCast,List.length_append,hl];omega) (by rw [Int.toNat_natCast,e1,e4];exact qoU _),Int.toNat_natCast,e2,e3]
def kGid:List UInt8:= [103,105,100]
def qaY:List UInt8:= [103,110,97,109,101]
def qbM:List UInt8:= [108,105,110,107,112,97,116,104]
def qaW:List UInt8:= [109,116,105,109,101]
def qbF:List UInt8:= [112,97,116,104]
def kUid:List UInt8:= [117,105,100]
def qaZ:List UInt8:= [117,110,97,109,101]
def qfO:List UInt8:= [64,108,111,110,103]
def atPax:List UInt8:= [64,112,97,120]
def qnH (x:EntV):Bool:=decide (x.md.nano≠0∨x.md.second<0∨8589934592≤x.md.second)
def qbB (b:Bool) (k v:List UInt8):List Rc:=if b=true then [(k,v)]else []
def qa1 (x:EntV):List Rc:=
 qbB (decide (2097152≤x.md.gid)) kGid (Lib.itoa x.md.gid)++(qbB (decide (31<x.md.group.length)) qaY x.md.group++(qbB (decide (100<x.target.length)) qbM x.target++
 (qbB (qnH x) qaW (qe8 x.md.second x.md.nano).1.data.toList++(qbB (decide ((cutV x.path).2.2≠0)) qbF x.path++(qbB (decide (2097152≤x.md.uid)) kUid (Lib.itoa x.md.uid)++qbB (decide (31<x.md.user.length)) qaZ x.md.user)))))
def typM (k:Int):UInt8:=if k=1 then 48 else if k=2 then 53 else if k=3 then 50 else 49
def qb9 (x:EntV):HeadV:=
 {name:=if (cutV x.path).2.2≠0 then qfO else (cutV x.path).2.1
  pre:=(cutV x.path).1
  link:=if 100<x.target.length then qfO else x.target
  mode:=x.md.mode
  uid:=if 2097152≤x.md.uid then 0 else x.md.uid
  gid:=if 2097152≤x.md.gid then 0 else x.md.gid
  size:=x.data.length
  time:=if qnH x=true then 0 else x.md.second
  typ:=typM x.kind
  user:=if 31<x.md.user.length then []else x.md.user
  group:=if 31<x.md.group.length then []else x.md.group}
def paxH (n:Nat):HeadV:= {qbE with name:=atPax,size:=n,typ:=120}
def qa4 (x:EntV):List UInt8:=
 (if qa1 x= []then []else (qjH (paxH (paxW (qa1 x)).1.length)).1.data.toList++padF (paxW (qa1 x)).1)++((qjH (qb9 x)).1.data.toList++padF x.data)
theorem qmR {l:List UInt8} (h:(recR l).2.2.2=0):chkR (recR l).1 (recR l).2.1=0∧l=recL (recR l).1 (recR l).2.1++(recR l).2.2.1:=by
 unfold recR at h⊢
 split at h
 ·cases h
 ·rename_i h1
  split at h
  ·cases h
  ·rename_i h2
   split at h
   ·cases h
   ·rename_i h3
    split at h
    ·cases h
    ·rename_i h4
     split at h
     ·rename_i h5;exact absurd h h5
     ·rename_i h5
      split at h
      ·cases h
      ·rename_i h6;rw [if_neg h1,if_neg h2,if_neg h3,if_neg h4,if_neg h5,if_neg h6];refine ⟨by simpa using h5,?_⟩;have h7:=Decidable.not_not.1 h6;show l=recL _ _++l.drop (dVal (digP l));rw [h7];exact (List.take_append_drop _ _).symm
theorem q4Q {l:List UInt8} (h:(recR l).2.2.2≠0):recR l=([], [], [],(recR l).2.2.2):=by
 unfold recR at h⊢
 by_cases h1: ¬qg2 l
 ·rw [if_pos h1]
 ·rw [if_neg h1]at h⊢
  by_cases h2:l.length<dVal (digP l)
  ·rw [if_pos h2]
  ·rw [if_neg h2]at h⊢
   by_cases h3:dVal (digP l)<(digP l).length+2∨l[dVal (digP l) -1]?≠some 10
   ·rw [if_pos h3]
   ·rw [if_neg h3]at h⊢
    by_cases h4:hasB 61 (qc2 l)=false
    ·rw [if_pos h4]
    ·rw [if_neg h4]at h⊢
     by_cases h5:chkR ((qc2 l).take (pos 61 (qc2 l))) ((qc2 l).drop (pos 61 (qc2 l)+1))≠0
     ·rw [if_pos h5]
     ·rw [if_neg h5]at h⊢
      by_cases h6:recL ((qc2 l).take (pos 61 (qc2 l))) ((qc2 l).drop (pos 61 (qc2 l)+1))≠l.take (dVal (digP l))
      ·rw [if_pos h6]
      ·rw [if_neg h6]at h;exact absurd rfl h
def szR (l:List UInt8):Nat:=if (recR l).2.2.2=0 then (recL (recR l).1 (recR l).2.1).length else 0
theorem szR_no {l:List UInt8} (h:(recR l).2.2.2≠0):szR l=0:=if_neg h
theorem qtB {l:List UInt8} (h:(recR l).2.2.2=0):szR l=(recL (recR l).1 (recR l).2.1).length∧szR l+(recR l).2.2.1.length=l.length∧l.drop (szR l)=(recR l).2.2.1∧1≤szR l:=by
 obtain ⟨-,e⟩:=qmR h;have e1:szR l=(recL (recR l).1 (recR l).2.1).length:=if_pos h;refine ⟨e1,?_,?_,by rw [e1];exact qyQ _ _⟩
 ·rw [e1]
  conv=>rhs;rw [e]
  rw [List.length_append]
 ·rw [e1];generalize (recR l).2.2.1=r at*;generalize recL (recR l).1 (recR l).2.1=f at*;subst e;exact List.drop_left
theorem qrB {l:List UInt8} {m:Nat} (h:(recR (l.take m)).2.2.2=0):
  (recR l).1=(recR (l.take m)).1∧(recR l).2.1=(recR (l.take m)).2.1∧(recR l).2.2.2=0∧szR l=(l.take m).length-(recR (l.take m)).2.2.1.length:=by
 obtain ⟨hc,e⟩:=qmR h;have h2:=qtB h
 have e2:recR l=((recR (l.take m)).1,(recR (l.take m)).2.1,(recR (l.take m)).2.2.1++l.drop m,0):=by
  conv=>lhs;rw [←List.take_append_drop m l,e]
  rw [List.append_assoc];exact qtR _ _ _ hc
 have h3:(recR l).2.2.2=0:=by rw [e2]
 refine ⟨by rw [e2],by rw [e2],h3,?_⟩;rw [(qtB h3).1,e2];show (recL (recR (l.take m)).1 (recR (l.take m)).2.1).length=_;omega
theorem q75 (a:List Rc):chkP (a.take 13)=chkP a:=by
 by_cases h:a.length≤12
 ·rw [List.take_of_length_le (by omega)]
 ·rw [qjR (by rw [List.length_take];omega),qjR (by omega)]
theorem qz9 {a:List Rc} (r:Rc) (h:(a.take 13).length≤12):(a++ [r]).take 13=a.take 13++ [r]:=by
 rw [List.length_take]at h;rw [List.take_of_length_le (by rw [List.length_append,List.length_singleton];omega),List.take_of_length_le (by omega)]
theorem qwA {a:List Rc} (r:Rc) (h: ¬(a.take 13).length≤12):(a++ [r]).take 13=a.take 13:=by
 rw [List.length_take]at h;rw [List.take_append_of_le_length (by omega)]
theorem q3R {a:List Rc} (h:chkP a=0):a.take 13=a:=by
 obtain ⟨h1,-⟩:=qf9 h;exact List.take_of_length_le (by omega)
theorem zaT {l:List UInt8} {a:List Rc} (h:qcK l=(a,0)):paxR l=if chkP (a.take 13)≠0 then ([],chkP (a.take 13))else (a.take 13,0):=by
 rw [q75]
 by_cases hc:chkP a=0
 ·rw [if_neg (by simpa using hc),q3R hc,qrH h hc]
 ·rw [if_pos hc,qrI h hc]
theorem q1J (a b c:List UInt8) (h:Op.bytesLess a b=true) (h2:Op.bytesLess b c=true):Op.bytesLess a c=true:=by
 induction a generalizing b c with
 |nil=>
  cases b with
  |nil=>cases h
  |cons y b=>
   cases c with
   |nil=>cases h2
   |cons z c=>rfl
 |cons x a ih=>
  cases b with
  |nil=>cases h
  |cons y b=>
   cases c with
   |nil=>cases h2
   |cons z c=>
    simp only [Op.bytesLess,Bool.or_eq_true,Bool.and_eq_true,decide_eq_true_eq,beq_iff_eq]at h h2⊢;rcases h with h|⟨rfl,h⟩
    ·rcases h2 with h2|⟨rfl,h2⟩
     ·exact .inl (by simp only [UInt8.lt_iff_toNat_lt]at*;omega)
     ·exact .inl h
    ·rcases h2 with h2|⟨rfl,h2⟩
     ·exact .inl h2
     ·exact .inr ⟨rfl,ih b c h h2⟩
theorem q7S (c:UInt8) (l:List UInt8):digL (c::l)=(decide (48≤c.toNat∧c.toNat≤55) &&digL l):=rfl
theorem qw1 (l:List UInt8) (hd:digL l=true) (h:qdF l=0):l=List.replicate l.length 48:=by
 induction l with
 |nil=>rfl
 |cons c l ih=>
  rw [q7S,Bool.and_eq_true,decide_eq_true_eq]at hd;rw [qm8]at h;have h1:=Nat.eq_zero_of_add_eq_zero_left h;have h2:(c.toNat-48)*8^l.length=0:=by omega
  have h3:c.toNat-48=0:=by
   rcases Nat.mul_eq_zero.1 h2 with a|a
   ·exact a
   ·have:=Nat.pow_pos (a:=8) (n:=l.length) (by omega);omega
  have h4:c=48:=UInt8.toNat_inj.1 (by show c.toNat=48;omega);rw [List.length_cons,List.replicate_succ,←ih hd.2 h1,h4]
theorem za5 (l:List UInt8) (h:2≤l.length∧l.length≤12):(octR l).2=0∨(octR l).2=3:=by
 unfold octR;rw [if_pos h]
 split
 ·exact .inl rfl
 ·exact .inr rfl
theorem zb8 (l:List UInt8) (wh:Bool) (h:1≤l.length∧l.length≤512):(fldR l wh).2=0∨(fldR l wh).2=3:=by
 unfold fldR;rw [if_neg (by omega)]
 split
 ·exact .inr rfl
 ·exact .inl rfl
theorem qgA (b:Bool):bad b=0∨bad b=3:=by cases b<;>simp [bad]
theorem zcT (b:Bool):bad b=0↔b=true:=by cases b<;>simp [bad]
def q26:List UInt8:= [48,48,48,48,48,48,48,0]
theorem qpT (l:List UInt8) (hl:l.length=8):((octR l).2=0∧(octR l).1=0)↔l=q26:=by
 constructor
 ·rintro ⟨h1,h2⟩
  by_cases h:digL (l.take (l.length-1))=true∧l.getD (l.length-1) 1=0
  ·rw [qrL (by omega) h.1 h.2]at h2;have h3:=qw1 _ h.1 (by simpa using h2);have e:=h.2;rw [hl]at h3 e;rw [List.length_take,hl]at h3;rw [List.getD_eq_getElem?_getD,List.getElem?_eq_getElem (by omega)]at e
   have e2:l=l.take 7++ [l[7]]:=by
    conv=>lhs;rw [←List.take_append_drop 7 l,List.drop_eq_getElem_cons (by omega),List.drop_of_length_le (by omega)]
   rw [e2,h3];simp only [Option.getD_some]at e;rw [e];rfl
  ·rw [qw2 (by omega) h]at h1;cases h1
 ·rintro rfl;exact ⟨by decide+kernel,by decide+kernel⟩
def qxU (l:List UInt8):List Int:=
 [(fldR (sl l 0 100) true).2,(octR (sl l 100 108)).2,(octR (sl l 108 116)).2,(octR (sl l 116 124)).2,(octR (sl l 124 136)).2,(octR (sl l 136 148)).2,bad (typB (l.getD 156 0)),(fldR (sl l 157 257) true).2,bad (decide (sl l 257 265=qlC)),
  (fldR (sl l 265 297) false).2,(fldR (sl l 297 329) false).2,(octR (sl l 329 337)).2,bad (decide ((octR (sl l 329 337)).1=0)),(octR (sl l 337 345)).2,bad (decide ((octR (sl l 337 345)).1=0)),(fldR (sl l 345 500) true).2,bad (decide (sl l 500 512=List.replicate 12 0))]
theorem sl_app (l:List UInt8) (a b c:Nat) (h1:a≤b) (h2:b≤c):sl l a c=sl l a b++sl l b c:=by
 unfold sl;have e:l.take b=(l.take c).take b:=by rw [List.take_take,Nat.min_eq_left h2]
 rw [e];generalize l.take c=m;rcases Nat.lt_or_ge m.length b with h|h
 ·rw [List.take_of_length_le (by omega:m.length≤b),List.drop_of_length_le (show m.length≤b by omega),List.append_nil]
 ·conv=>lhs;rw [←List.take_append_drop b m]
  rw [List.drop_append_of_le_length (by rw [List.length_take];omega)]
theorem zero16 (l:List UInt8) (h:l.length=512):(sl l 329 345=qvY)↔(sl l 329 337=q26∧sl l 337 345=q26):=by
 rw [sl_app l 329 337 345 (by omega) (by omega),show qvY=q26++q26 from rfl];have h1:=qiW l 329 337 (by omega);constructor
 ·intro e;exact List.append_inj e (by rw [h1];rfl)
 ·rintro ⟨a,b⟩;rw [a,b]
theorem qxL {a b:List Int} (ha: ∀e∈a,e=0∨e=3) (hb: ∀e∈b,e=0∨e=3) (h:(∀e∈a,e=0)↔(∀e∈b,e=0)):qb8 a=qb8 b:=by
 rcases qlH ha with h1|h1
 ·rw [h1,qg3 b (h.1 (qiL h1))]
 ·rcases qlH hb with h2|h2
  ·rw [h2,qg3 a (h.2 (qiL h2))]
  ·rw [h1,h2]
theorem qn0 (l:List UInt8) (h:l.length=512):qb8 (qxU l)=qb8 (qn1 l):=by
 have F: ∀a b wh,a<b→b≤512→(fldR (sl l a b) wh).2=0∨(fldR (sl l a b) wh).2=3:=fun a b wh h1 h2=>zb8 _ _ (by rw [qiW _ _ _ (by omega)];omega);have O: ∀a b,a+2≤b→b≤a+12→b≤512→(octR (sl l a b)).2=0∨(octR (sl l a b)).2=3:=fun a b h1 h2 h3=>za5 _ (by rw [qiW _ _ _ (by omega)];omega);have z1:=qpT (sl l 329 337) (by rw [qiW _ _ _ (by omega)]);have z2:=qpT (sl l 337 345) (by rw [qiW _ _ _ (by omega)]);have z3:=zero16 l h;refine qxL ?_ ?_ ?_
 ·simp only [qxU,List.mem_cons,List.not_mem_nil,or_false,forall_eq_or_imp,forall_eq];exact ⟨F _ _ _ (by omega) (by omega),O _ _ (by omega) (by omega) (by omega),O _ _ (by omega) (by omega) (by omega),O _ _ (by omega) (by omega) (by omega),O _ _ (by omega) (by omega) (by omega),O _ _ (by omega) (by omega) (by omega),qgA _,F _ _ _ (by omega) (by omega),qgA _,F _ _ _ (by omega) (by omega),F _ _ _ (by omega) (by omega),O _ _ (by omega) (by omega) (by omega),qgA _,O _ _ (by omega) (by omega) (by omega),qgA _,F _ _ _ (by omega) (by omega),qgA _⟩
 ·simp only [qn1,List.mem_cons,List.not_mem_nil,or_false,forall_eq_or_imp,forall_eq];exact ⟨F _ _ _ (by omega) (by omega),O _ _ (by omega) (by omega) (by omega),O _ _ (by omega) (by omega) (by omega),O _ _ (by omega) (by omega) (by omega),O _ _ (by omega) (by omega) (by omega),O _ _ (by omega) (by omega) (by omega),qgA _,F _ _ _ (by omega) (by omega),qgA _,F _ _ _ (by omega) (by omega),F _ _ _ (by omega) (by omega),qgA _,F _ _ _ (by omega) (by omega),qgA _⟩
 ·simp only [qxU,qn1,List.mem_cons,List.not_mem_nil,or_false,forall_eq_or_imp,forall_eq,zcT,decide_eq_true_eq,z3,←z1,←z2];constructor
  ·rintro ⟨a1,a2,a3,a4,a5,a6,a7,a8,a9,aA,aB,aC,aD,aE,aF,aG,aH⟩;exact ⟨a1,a2,a3,a4,a5,a6,a7,a8,a9,aA,aB,⟨⟨aC,aD⟩,aE,aF⟩,aG,aH⟩
  ·rintro ⟨a1,a2,a3,a4,a5,a6,a7,a8,a9,aA,aB,⟨⟨aC,aD⟩,aE,aF⟩,aG,aH⟩;exact ⟨a1,a2,a3,a4,a5,a6,a7,a8,a9,aA,aB,aC,aD,aE,aF,aG,aH⟩
theorem bs_take (l:List UInt8) (k n:Nat) (h:k+n≤l.length):(bs (l.drop k)).extract 0 n=bs (sl l k (k+n)):=by
 apply ByteArray.ext;apply Array.toList_inj.1;rw [ByteArray.data_extract,Array.toList_extract];simp [List.extract,bs,sl,List.take_drop]
theorem bs_drop (l:List UInt8) (k n:Nat):(bs (l.drop k)).extract n (bs (l.drop k)).size=bs (l.drop (k+n)):=by
 apply ByteArray.ext;apply Array.toList_inj.1;rw [ByteArray.data_extract,Array.toList_extract,qaC];simp [List.extract,bs];rw [List.take_of_length_le (by simp;omega)]
theorem fw_le (l:List UInt8) (x:Int) (wh:Bool):(fw l x wh).length≤512:=by
 unfold fw fldW
 split
 ·simp
 ·split
  ·simp
  ·split
   ·simp
   ·rename_i h1 h2 h3;simp only [List.length_append,List.length_replicate];omega
theorem ow_le (n x:Int):(ow n x).length≤512:=by
 unfold ow octW
 split
 ·simp only [List.length_append,D_length,List.length_cons,List.length_nil];omega
 ·simp
theorem qp4 {c:UInt8} {a b:List UInt8} (h:hasB c a=false) (hs: ∀x∈b,x∈a):hasB c b=false:=
 (qf3 c b).2 fun x hx=>(qf3 c a).1 h x (hs x hx)
structure GoodT (x:EntV):Prop where
 path:1≤x.path.length∧x.path.length≤400∧hasB 0 x.path=false
 target:x.target.length≤400∧hasB 0 x.target=false
 data:x.data.length≤2000
 kind:1≤x.kind∧x.kind≤4
 mode:0≤x.md.mode∧x.md.mode≤4095
 uid:0≤x.md.uid∧x.md.uid≤1125899906842624
 gid:0≤x.md.gid∧x.md.gid≤1125899906842624
 user:x.md.user.length≤60∧hasB 0 x.md.user=false
 group:x.md.group.length≤60∧hasB 0 x.md.group=false
 time:inT x.md.second x.md.nano=true
theorem qmZ {p:List UInt8} (h:qa6 p=0):1≤p.length∧p.length≤400∧hasB 0 p=false:=by
 unfold qa6 at h
 split at h
 ·cases h
 ·rename_i h1
  split at h
  ·cases h
  ·rename_i h2;exact ⟨by omega,by omega,by simpa using h2⟩
theorem qcP {x:EntV} (h:entE x=0):GoodT x:=by
 obtain ⟨h1,h2,h3⟩:=qfK h
 have hm:((0≤x.md.mode∧x.md.mode≤4095)∧(0≤x.md.uid∧x.md.uid≤1125899906842624)∧(0≤x.md.gid∧x.md.gid≤1125899906842624))∧(x.md.user.length≤60∧x.md.group.length≤60)∧(hasB 0 x.md.user=false∧hasB 0 x.md.group=false)∧inT x.md.second x.md.nano=true:=by
  unfold metE at h2
  split at h2
  ·rename_i a;rw [Bool.and_eq_true,Bool.and_eq_true]at a;obtain ⟨⟨a1,a2⟩,a3⟩:=a
   split at h2
   ·cases h2
   ·rename_i b
    split at h2
    ·cases h2
    ·rename_i c;have c':(hasB 0 x.md.user||hasB 0 x.md.group)=false:=by simpa using c
     rw [Bool.or_eq_false_iff]at c';refine ⟨⟨of_decide_eq_true a1,of_decide_eq_true a2,of_decide_eq_true a3⟩,by omega,c',?_⟩;unfold inE at h2
     split at h2
     ·assumption
     ·cases h2
  ·cases h2
 have hk:(1≤x.kind∧x.kind≤4)∧x.data.length≤2000∧x.target.length≤400∧hasB 0 x.target=false:=by
  unfold entK at h3
  split at h3
  ·cases h3
  ·rename_i a
   split at h3
   ·cases h3
   ·split at h3
    ·cases h3
    ·rename_i c
     split at h3
     ·exact ⟨by omega,by omega,by omega,(qmZ h3).2.2⟩
     ·split at h3
      ·cases h3
      ·rename_i d;exact ⟨by omega,by omega,by omega,by simpa using d⟩
 exact ⟨qmZ h1,⟨hk.2.2.1,hk.2.2.2⟩,hk.2.1,hk.1,hm.1.1,hm.1.2.1,hm.1.2.2,⟨hm.2.1.1,hm.2.2.1.1⟩,⟨hm.2.1.2,hm.2.2.1.2⟩,hm.2.2.2⟩
theorem qvE {l:List UInt8} (h:hasB 0 l=false):(cutV l).1.length≤155∧(cutV l).2.1.length≤100∧hasB 0 (cutV l).1=false∧hasB 0 (cutV l).2.1=false:=by
 unfold cutV
 split
 ·exact ⟨by simp,by simp,rfl,rfl⟩
 ·split
  ·rename_i h1;exact ⟨by simp,h1,rfl,h⟩
  ·split
   ·rename_i k hk;have hb:=qr8 (qsO hk);exact ⟨by simp only [List.length_take];omega,by simp only [List.length_drop];omega,qp4 h fun x hx=>List.mem_of_mem_take hx,qp4 h fun x hx=>List.mem_of_mem_drop hx⟩
   ·exact ⟨by simp,by simp,rfl,rfl⟩
theorem qh2:most 8=2097151:=by decide
theorem qrP:most 12=8589934591:=by decide
theorem qh3 {l:List UInt8} {x:Int} {wh:Bool} (h:1≤x∧x≤512) (hl:(l.length:Int)≤x∧(wh=false→(l.length:Int)≠x)) (h0:hasB 0 l=false):(fldW l x wh).2=0:=by
 rw [qxK (by omega) (by rintro (a|⟨a,b⟩);omega;exact hl.2 a b.symm) h0]
theorem qe2 {n x:Int} (h:2≤x∧x≤12) (hn:0≤n∧n≤most x):(octW n x).2=0:=by rw [qlZ h hn]
theorem qhP {x:EntV} (h:entE x=0):qdB (qb9 x)=0:=by
 have g:=qcP h;obtain ⟨c1,c2,c3,c4⟩:=qvE g.path.2.2
 have ht:typB (typM x.kind)=true:=by
  unfold typM
  split
  ·decide
  ·split
   ·decide
   ·split<;>decide
 unfold qdB;rw [if_pos (show typB (qb9 x).typ=true from ht)];refine qg3 _ fun e he=> ?_;unfold qc7 qb9 at he;simp only [List.mem_cons,List.not_mem_nil,or_false]at he;have i1:=q6D g.time;rcases he with rfl|rfl|rfl|rfl|rfl|rfl|rfl|rfl|rfl|rfl|rfl|rfl
 ·refine qh3 (by omega) ?_ ?_
  ·split
   ·exact ⟨by decide,fun h=>by cases h⟩
   ·exact ⟨by omega,fun h=>by cases h⟩
  ·split
   ·decide
   ·exact c4
 ·exact qe2 (by omega) (by rw [qh2];have:=g.mode;omega)
 ·refine qe2 (by omega) (by rw [qh2];have:=g.uid;split<;>omega)
 ·refine qe2 (by omega) (by rw [qh2];have:=g.gid;split<;>omega)
 ·exact qe2 (by omega) (by rw [qrP];have:=g.data;omega)
 ·refine qe2 (by omega) ?_;rw [qrP]
  split
  ·omega
  ·rename_i hl;unfold qnH at hl;have hl2: ¬(x.md.nano≠0∨x.md.second<0∨8589934592≤x.md.second):=by simpa using hl
   omega
 ·refine qh3 (by omega) ?_ ?_
  ·split
   ·exact ⟨by decide,fun h=>by cases h⟩
   ·exact ⟨by omega,fun h=>by cases h⟩
  ·split
   ·decide
   ·exact g.target.2
 ·refine qh3 (by omega) ?_ ?_
  ·split
   ·exact ⟨by decide,fun _=>by decide⟩
   ·exact ⟨by omega,fun _=>by omega⟩
  ·split
   ·decide
   ·exact g.user.2
 ·refine qh3 (by omega) ?_ ?_
  ·split
   ·exact ⟨by decide,fun _=>by decide⟩
   ·exact ⟨by omega,fun _=>by omega⟩
  ·split
   ·decide
   ·exact g.group.2
 ·exact qe2 (by omega) (by rw [qh2];omega)
 ·exact qe2 (by omega) (by rw [qh2];omega)
 ·exact qh3 (by omega) ⟨by omega,fun h=>by cases h⟩ c3
def q0T (L:List (Bool×List UInt8×List UInt8)):List Rc:=L.flatMap fun t=>qbB t.1 t.2.1 t.2.2
theorem qyO (x:EntV):qa1 x=q0T [(decide (2097152≤x.md.gid),kGid,Lib.itoa x.md.gid),(decide (31<x.md.group.length),qaY,x.md.group),(decide (100<x.target.length),qbM,x.target),(qnH x,qaW,(qe8 x.md.second x.md.nano).1.data.toList),
  (decide ((cutV x.path).2.2≠0),qbF,x.path),(decide (2097152≤x.md.uid),kUid,Lib.itoa x.md.uid),(decide (31<x.md.user.length),qaZ,x.md.user)]:=by
 unfold qa1 q0T;simp only [List.flatMap_cons,List.flatMap_nil,List.append_nil]
theorem chk3 (L:List (Bool×List UInt8×List UInt8)): ∀(last:List UInt8),(∀t∈L,Op.bytesLess last t.2.1=true)→L.Pairwise (fun a b=>Op.bytesLess a.2.1 b.2.1=true)→(∀t∈L,t.1=true→chkR t.2.1 t.2.2=0)→chkG last (q0T L)=0:=by
 induction L with
 |nil=>intro last _ _ _;rfl
 |cons t L ih=>
  intro last hs hp hc;rw [List.pairwise_cons]at hp;show chkG last (qbB t.1 t.2.1 t.2.2++q0T L)=0;have hc':=fun u hu=>hc u (List.mem_cons_of_mem _ hu);unfold qbB
  by_cases hb:t.1=true
  ·rw [if_pos hb,List.singleton_append];rw [qsS (hc t List.mem_cons_self hb) (hs t List.mem_cons_self)];exact ih _ hp.1 hp.2 hc'
  ·rw [if_neg hb,List.nil_append];exact ih _ (fun u hu=>hs u (List.mem_cons_of_mem _ hu)) hp.2 hc'
theorem q4O (L:List (Bool×List UInt8×List UInt8)):(q0T L).length≤L.length:=by
 induction L with
 |nil=>exact Nat.le_refl _
 |cons t L ih=>
  show (qbB t.1 t.2.1 t.2.2++q0T L).length≤_;rw [List.length_append,List.length_cons];have:(qbB t.1 t.2.1 t.2.2).length≤1:=by unfold qbB;split<;>simp
  omega
theorem qy3 {n:Int} (h:0≤n) (h2:n≤1125899906842624):(Lib.itoa n).length≤16∧hasB 0 (Lib.itoa n)=false:=by
 have e:Lib.itoa n=Lib.decDigits n.toNat:=by unfold Lib.itoa;rw [if_neg (by omega)]
 rw [e];exact ⟨qcX _ 15 (by omega),ql1 _ (qeC _) 0 (by decide)⟩
theorem qlU {a b:Int} (h:inT a b=true):(qe8 a b).1.data.toList=qgM a b:=by
 unfold qe8;rw [if_pos h,qaF]
theorem zc9 (m n:Nat) (h:n<10^9):hasB 0 (absT m n)=false:=by
 unfold absT;rw [qr4,ql1 _ (qeC _) 0 (by decide),Bool.false_or];unfold qlP
 split
 ·rfl
 ·rw [qcF,ql1 _ (zd5 9 n h) 0 (by decide)];rfl
theorem q3P {a b:Int} (h:inT a b=true):(qgM a b).length≤25∧hasB 0 (qgM a b)=false:=by
 obtain ⟨m,n,hm,hn,hc⟩:=qmB a b h;have hl:=zdA m n hm;have h0:=zc9 m n hn;rcases hc with ⟨-,e,-⟩|⟨-,e,-⟩
 ·rw [e];exact ⟨by rw [List.length_cons];omega,by rw [qcF,h0];rfl⟩
 ·rw [e];exact ⟨by omega,h0⟩
theorem qi0 {x:EntV} (h:entE x=0):chkP (qa1 x)=0:=by
 have g:=qcP h
 have hlen:(qa1 x).length≤12:=by
  rw [qyO];refine Nat.le_trans (q4O _) (by simp)
 rw [qsR hlen,qyO];refine chk3 _ _ ?_ ?_ ?_
 ·intro t ht;simp only [List.mem_cons,List.not_mem_nil,or_false]at ht;rcases ht with rfl|rfl|rfl|rfl|rfl|rfl|rfl<;>(dsimp only;decide+kernel)
 ·simp only [List.pairwise_cons,List.mem_cons,List.not_mem_nil,or_false,List.Pairwise.nil,and_true];refine ⟨?_,?_,?_,?_,?_,?_,?_⟩
  ·rintro t (rfl|rfl|rfl|rfl|rfl|rfl)<;>(dsimp only;decide+kernel)
  ·rintro t (rfl|rfl|rfl|rfl|rfl)<;>(dsimp only;decide+kernel)
  ·rintro t (rfl|rfl|rfl|rfl)<;>(dsimp only;decide+kernel)
  ·rintro t (rfl|rfl|rfl)<;>(dsimp only;decide+kernel)
  ·rintro t (rfl|rfl)<;>(dsimp only;decide+kernel)
  ·rintro t rfl;dsimp only;decide+kernel
  ·intro t ht;exact ht.elim
 ·have i1:=qy3 g.gid.1 g.gid.2;have i2:=qy3 g.uid.1 g.uid.2;have tt:=q3P g.time;rw [←qlU g.time]at tt;intro t ht _;simp only [List.mem_cons,List.not_mem_nil,or_false]at ht
  have hx: ∀(k v:List UInt8),(1≤k.length∧k.length≤60)→hasB 61 k=false→hasB 10 k=false→v.length≤500→hasB 0 v=false→chkR k v=0:=fun k v a b c d e=>
   q74 (by omega) (by rintro (q|q|q);rw [b]at q;cases q;rw [c]at q;cases q;rw [e]at q;cases q)
  rcases ht with rfl|rfl|rfl|rfl|rfl|rfl|rfl
  ·exact hx kGid _ (by decide) (by decide) (by decide) (by show (Lib.itoa x.md.gid).length≤500;omega) i1.2
  ·exact hx qaY _ (by decide) (by decide) (by decide) (by show x.md.group.length≤500;have:=g.group;omega) g.group.2
  ·exact hx qbM _ (by decide) (by decide) (by decide) (by show x.target.length≤500;have:=g.target;omega) g.target.2
  ·exact hx qaW _ (by decide) (by decide) (by decide) (by show (qe8 x.md.second x.md.nano).1.data.toList.length≤500;have:=tt.1;omega) tt.2
  ·exact hx qbF _ (by decide) (by decide) (by decide) (by show x.path.length≤500;have:=g.path;omega) g.path.2.2
  ·exact hx kUid _ (by decide) (by decide) (by decide) (by show (Lib.itoa x.md.uid).length≤500;omega) i2.2
  ·exact hx qaZ _ (by decide) (by decide) (by decide) (by show x.md.user.length≤500;have:=g.user;omega) g.user.2
theorem qmY {x:EntV} (h:entE x=0):paxW (qa1 x)=(qcD (qa1 x),0):=by unfold paxW;rw [if_pos (qi0 h)]
def longM (x:EntV):Nat:=(if 2097152≤x.md.gid then 1 else 0)+(if 31<x.md.group.length then 1 else 0)+(if 100<x.target.length then 1 else 0)+(if qnH x=true then 1 else 0)+(if 2097152≤x.md.uid then 1 else 0)+(if 31<x.md.user.length then 1 else 0)
theorem q4R (b:Bool) (k v:List UInt8):(qbB b k v).length=if b=true then 1 else 0:=by unfold qbB;split<;>rfl
theorem qr2 {h:HeadV} (e:qdB h=0):(qjH h).1.data.toList.length=512:=by
 rw [ql0 e,qaF];exact (qnK e).1
theorem qhF {x:EntV} (h:entE x=0):(qcD (qa1 x)).length≤6792:=by
 have h1:=qf9 (qi0 h);have h2:=qs9 h1.2.2;omega
theorem qiD {n:Nat} (h:n≤6792):qdB (paxH n)=0:=by
 unfold qdB;rw [if_pos (show typB (paxH n).typ=true by show typB 120=true;decide)];refine qg3 _ fun e he=> ?_;unfold qc7 paxH qbE at he;simp only [List.mem_cons,List.not_mem_nil,or_false]at he;rcases he with rfl|rfl|rfl|rfl|rfl|rfl|rfl|rfl|rfl|rfl|rfl|rfl
 ·exact qh3 (by omega) ⟨by decide,fun h=>by cases h⟩ (by decide)
 ·exact qe2 (by omega) (by rw [qh2];omega)
 ·exact qe2 (by omega) (by rw [qh2];omega)
 ·exact qe2 (by omega) (by rw [qh2];omega)
 ·exact qe2 (by omega) (by rw [qrP];omega)
 ·exact qe2 (by omega) (by rw [qrP];omega)
 ·exact qh3 (by omega) ⟨by decide,fun h=>by cases h⟩ (by decide)
 ·exact qh3 (by omega) ⟨by decide,fun _=>by decide⟩ (by decide)
 ·exact qh3 (by omega) ⟨by decide,fun _=>by decide⟩ (by decide)
 ·exact qe2 (by omega) (by rw [qh2];omega)
 ·exact qe2 (by omega) (by rw [qh2];omega)
 ·exact qh3 (by omega) ⟨by decide,fun h=>by cases h⟩ (by decide)
theorem qqJ {x:EntV} (h:entE x=0):(qa4 x).length=512*(1+padN x.data.length)+if qa1 x= []then 0 else 512*(1+padN (qcD (qa1 x)).length):=by
 have h1:=qr2 (qhP h);have h2:=qhF h;unfold qa4;rw [qmY h];simp only
 split
 ·rw [List.nil_append,List.length_append,h1,qcL];omega
 ·have h3:=qr2 (qiD h2);rw [List.length_append,List.length_append,List.length_append,h1,h3,qcL,qcL];omega
def look (K:List UInt8) (l:List Rc):Option (List UInt8):=(l.find? fun r=>decide (r.1=K)).map (·.2)
theorem qgW (K:List UInt8) (b:Bool) (k v:List UInt8) (l:List Rc):look K (qbB b k v++l)=if b=true∧k=K then some v else look K l:=by
 unfold look qbB;cases b with
 |false=>rw [if_neg (by decide),if_neg (by simp),List.nil_append]
 |true=>
  rw [if_pos rfl,List.singleton_append,List.find?_cons]
  by_cases hk:k=K
  ·rw [if_pos ⟨rfl,hk⟩];simp [hk]
  ·rw [if_neg (fun h=>hk h.2)];simp [hk]
theorem qfZ (K:List UInt8) (b:Bool) (k v:List UInt8):look K (qbB b k v)=if b=true∧k=K then some v else none:=by
 have:=qgW K b k v []
 rwa [List.append_nil]at this
theorem qrV (x:EntV):look kGid (qa1 x)=if 2097152≤x.md.gid then some (Lib.itoa x.md.gid)else none:=by
 unfold qa1;simp only [qgW,qfZ,decide_eq_true_eq];have d0:qaY≠kGid:=by decide
 have d1:qbM≠kGid:=by decide
 have d2:qaW≠kGid:=by decide
 have d3:qbF≠kGid:=by decide
 have d4:kUid≠kGid:=by decide
 have d5:qaZ≠kGid:=by decide
 simp [*]
theorem qkI (x:EntV):look qaY (qa1 x)=if 31<x.md.group.length then some x.md.group else none:=by
 unfold qa1;simp only [qgW,qfZ,decide_eq_true_eq];have d0:kGid≠qaY:=by decide
 have d1:qbM≠qaY:=by decide
 have d2:qaW≠qaY:=by decide
 have d3:qbF≠qaY:=by decide
 have d4:kUid≠qaY:=by decide
 have d5:qaZ≠qaY:=by decide
 simp [*]
theorem qnG (x:EntV):look qbM (qa1 x)=if 100<x.target.length then some x.target else none:=by
 unfold qa1;simp only [qgW,qfZ,decide_eq_true_eq];have d0:kGid≠qbM:=by decide
 have d1:qaY≠qbM:=by decide
 have d2:qaW≠qbM:=by decide
 have d3:qbF≠qbM:=by decide
 have d4:kUid≠qbM:=by decide
 have d5:qaZ≠qbM:=by decide
 simp [*]
theorem qkH (x:EntV):look qaW (qa1 x)=if qnH x=true then some (qe8 x.md.second x.md.nano).1.data.toList else none:=by
 unfold qa1;simp only [qgW,qfZ,decide_eq_true_eq];have d0:kGid≠qaW:=by decide
 have d1:qaY≠qaW:=by decide
 have d2:qbM≠qaW:=by decide
 have d3:qbF≠qaW:=by decide
 have d4:kUid≠qaW:=by decide
 have d5:qaZ≠qaW:=by decide
 simp [*]
theorem qnF (x:EntV):look qbF (qa1 x)=if (cutV x.path).2.2≠0 then some x.path else none:=by
 unfold qa1;simp only [qgW,qfZ,decide_eq_true_eq];have d0:kGid≠qbF:=by decide
 have d1:qaY≠qbF:=by decide
 have d2:qbM≠qbF:=by decide
 have d3:qaW≠qbF:=by decide
 have d4:kUid≠qbF:=by decide
 have d5:qaZ≠qbF:=by decide
 simp [*]
theorem qrU (x:EntV):look kUid (qa1 x)=if 2097152≤x.md.uid then some (Lib.itoa x.md.uid)else none:=by
 unfold qa1;simp only [qgW,qfZ,decide_eq_true_eq];have d0:kGid≠kUid:=by decide
 have d1:qaY≠kUid:=by decide
 have d2:qbM≠kUid:=by decide
 have d3:qaW≠kUid:=by decide
 have d4:qbF≠kUid:=by decide
 have d5:qaZ≠kUid:=by decide
 simp [*]
theorem qkG (x:EntV):look qaZ (qa1 x)=if 31<x.md.user.length then some x.md.user else none:=by
 unfold qa1;simp only [qgW,qfZ,decide_eq_true_eq];have d0:kGid≠qaZ:=by decide
 have d1:qaY≠qaZ:=by decide
 have d2:qbM≠qaZ:=by decide
 have d3:qaW≠qaZ:=by decide
 have d4:qbF≠qaZ:=by decide
 have d5:kUid≠qaZ:=by decide
 simp [*]
theorem qy4 {a b:Int} (ha:0≤a) (hb:0≤b) (h:Lib.itoa a=Lib.itoa b):a=b:=by
 unfold Lib.itoa at h;rw [if_neg (by omega),if_neg (by omega)]at h;have h1:=qcG a.toNat;rw [h,qcG]at h1;injection h1 with h1
 omega
theorem q89 {a b:Int} (ha:1≤a∧a≤4) (hb:1≤b∧b≤4) (h:typM a=typM b):a=b:=by
 have:a=1∨a=2∨a=3∨a=4:=by omega
 have:b=1∨b=2∨b=3∨b=4:=by omega
 rcases ‹a=1∨a=2∨a=3∨a=4› with rfl|rfl|rfl|rfl<;>rcases ‹b=1∨b=2∨b=3∨b=4› with rfl|rfl|rfl|rfl<;>first|rfl|(exact absurd h (by decide))
theorem qn5 {α β:Type} {p q:Prop} [Decidable p] [Decidable q] {u v:α} {a b z:β} (h1:(if p then some u else none)=if q then some v else none) (h2:(if p then z else a)=if q then z else b):(p∧q∧u=v)∨(¬p∧ ¬q∧a=b):=by
 by_cases hp:p
 ·rw [if_pos hp]at h1
  by_cases hq:q
  ·rw [if_pos hq]at h1;injection h1 with h1
   exact .inl ⟨hp,hq,h1⟩
  ·rw [if_neg hq]at h1;cases h1
 ·rw [if_neg hp]at h1 h2
  by_cases hq:q
  ·rw [if_pos hq]at h1;cases h1
  ·rw [if_neg hq]at h2;exact .inr ⟨hp,hq,h2⟩
theorem qw6 {x y:EntV} (hx:entE x=0) (hy:entE y=0) (h1:qb9 x=qb9 y) (h2:qa1 x=qa1 y):({x with data:= [] } :EntV)= {y with data:= [] } ∧x.data.length=y.data.length:=by
 have gx:=qcP hx;have gy:=qcP hy;have hn:=congrArg HeadV.name h1;have hp:=congrArg HeadV.pre h1;have hl:=congrArg HeadV.link h1;have hm:x.md.mode=y.md.mode:=congrArg HeadV.mode h1;have hu:=congrArg HeadV.uid h1;have hg:=congrArg HeadV.gid h1;have hs:=congrArg HeadV.size h1;have ht:=congrArg HeadV.time h1;have hk:=q89 gx.kind gy.kind (congrArg HeadV.typ h1);have hus:=congrArg HeadV.user h1;have hgr:=congrArg HeadV.group h1;unfold qb9 at hn hp hl hu hg hs ht hus hgr;simp only at hn hp hl hu hg hs ht hus hgr;have r1:=congrArg (look kGid) h2;have r2:=congrArg (look qaY) h2;have r3:=congrArg (look qbM) h2;have r4:=congrArg (look qaW) h2;have r5:=congrArg (look qbF) h2;have r6:=congrArg (look kUid) h2;have r7:=congrArg (look qaZ) h2;rw [qrV,qrV]at r1;rw [qkI,qkI]at r2;rw [qnG,qnG]at r3;rw [qkH,qkH]at r4;rw [qnF,qnF]at r5;rw [qrU,qrU]at r6;rw [qkG,qkG]at r7
 have e1:x.md.gid=y.md.gid:=by
  rcases qn5 r1 hg with ⟨-,-,e⟩|⟨-,-,e⟩
  ·exact qy4 gx.gid.1 gy.gid.1 e
  ·exact e
 have e2:x.md.group=y.md.group:=by rcases qn5 r2 hgr with ⟨-,-,e⟩|⟨-,-,e⟩<;>exact e
 have e3:x.target=y.target:=by rcases qn5 r3 hl with ⟨-,-,e⟩|⟨-,-,e⟩<;>exact e
 have e4:x.md.second=y.md.second∧x.md.nano=y.md.nano:=by
  rcases qn5 r4 ht with ⟨-,-,e⟩|⟨a,b,e⟩
  ·rw [qlU gx.time,qlU gy.time]at e;have p1:=qh6 _ _ gx.time;rw [e,qh6 _ _ gy.time]at p1;injection p1 with p1 p2
   injection p2 with p2 _
   exact ⟨p1.symm,p2.symm⟩
  ·have a': ¬(x.md.nano≠0∨x.md.second<0∨8589934592≤x.md.second):=fun h=>a (decide_eq_true h);have b': ¬(y.md.nano≠0∨y.md.second<0∨8589934592≤y.md.second):=fun h=>b (decide_eq_true h);exact ⟨e,by omega⟩
 have e5:x.path=y.path:=by
  rcases qn5 r5 hn with ⟨-,-,e⟩|⟨a,b,e⟩
  ·exact e
  ·have cx:cutV x.path=((cutV x.path).1,(cutV x.path).2.1,0):=by
    have:(cutV x.path).2.2=0:=by simpa using a
    rw [←this]
   have cy:cutV y.path=((cutV y.path).1,(cutV y.path).2.1,0):=by
    have:(cutV y.path).2.2=0:=by simpa using b
    rw [←this]
   have o1:=(qsN cx).1;have o2:=(qsN cy).1;rw [hp,e,o2]at o1;injection o1 with o1 _
   exact o1.symm
 have e6:x.md.uid=y.md.uid:=by
  rcases qn5 r6 hu with ⟨-,-,e⟩|⟨-,-,e⟩
  ·exact qy4 gx.uid.1 gy.uid.1 e
  ·exact e
 have e7:x.md.user=y.md.user:=by rcases qn5 r7 hus with ⟨-,-,e⟩|⟨-,-,e⟩<;>exact e
 refine ⟨?_,by omega⟩;obtain ⟨xp,xk,xt,⟨x0,x1,x2,x3,x4,x5,x6⟩,xd⟩:=x;obtain ⟨yp,yk,yt,⟨y0,y1,y2,y3,y4,y5,y6⟩,yd⟩:=y;simp only at e1 e2 e3 e4 e5 e6 e7 hm hk;obtain ⟨e4,e8⟩:=e4;subst e1 e2 e3 e4 e5 e6 e7 e8 hm hk
 rfl
def rep (c d:UInt8) (l:List UInt8):List UInt8:=l.map fun x=>if x=c then d else x
theorem q0P (c d:UInt8) (l:List UInt8):(rep c d l).length=l.length:=by simp [rep]
theorem qq7 (c d:UInt8) (l:List UInt8) (h:hasB c l=false):rep c d l=l:=by
 unfold rep
 conv=>rhs;rw [←List.map_id l]
 apply List.map_congr_left;intro x hx
 have:x≠c:=by
  rintro rfl;have h':hasB x l=true:=by unfold hasB;rw [List.any_eq_true];exact ⟨x,hx,by simp⟩
  rw [h]at h';cases h'
 simp [this]
theorem qfN (c:UInt8) (l:List UInt8):l.count c=0↔hasB c l=false:=by
 rw [List.count_eq_zero];unfold hasB;rw [←Bool.not_eq_true,List.any_eq_true];constructor
 ·rintro h ⟨x,hx,e⟩;exact h (by have:=eq_of_beq e;subst this;exact hx)
 ·intro h hx;exact h ⟨c,hx,by simp⟩
theorem qtG (c:UInt8) (l:List UInt8) (h:pos c l<l.length):l=l.take (pos c l)++c::l.drop (pos c l+1):=by
 conv=>lhs;rw [←List.take_append_drop (pos c l) l]
 congr 1
 rw [List.drop_eq_getElem_cons h,qmV c l h]
theorem q4I (c d:UInt8) (l:List UInt8) (h:pos c l<l.length):rep c d l=l.take (pos c l)++ [d]++rep c d (l.drop (pos c l+1)):=by
 conv=>lhs;rw [qtG c l h]
 have h1:=qq7 c d _ (qnN c l (pos c l) (Nat.le_refl _));unfold rep at h1⊢;rw [List.map_append,h1,List.map_cons];simp
theorem qxX (c:UInt8) (l:List UInt8) (h:pos c l<l.length):l.count c=(l.drop (pos c l+1)).count c+1:=by
 conv=>lhs;rw [qtG c l h]
 have h1:=(qfN c _).2 (qnN c l (pos c l) (Nat.le_refl _));rw [List.count_append,h1,List.count_cons];simp
def qdH (l:List UInt8) (m:Nat):List UInt8:=(rep 0 48 l).take m
theorem q6N (c:UInt8) (l:List UInt8) (m:Nat) (h:hasB c l=false):hasB c (l.take m)=false:=by
 unfold hasB at*;rw [←Bool.not_eq_true,List.any_eq_true]at*;rintro ⟨x,hx,e⟩;exact h ⟨x,List.mem_of_mem_take hx,e⟩
theorem zb2 (c d:UInt8) (l:List UInt8) (h:c≠d):hasB c (rep c d l)=false:=by
 unfold hasB rep;rw [←Bool.not_eq_true,List.any_eq_true];rintro ⟨x,hx,e⟩;rw [List.mem_map]at hx;obtain ⟨y,_,rfl⟩:=hx
 by_cases hy:y=c
 ·rw [if_pos hy]at e;exact h (eq_of_beq e).symm
 ·rw [if_neg hy]at e;exact hy (eq_of_beq e)
theorem qqG (l:List UInt8) (m:Nat):hasB 0 (qdH l m)=false:=q6N _ _ _ (zb2 0 48 l (by decide))
theorem qg7 (l:List UInt8) (m:Nat):(qdH l m).length≤m:=by unfold qdH;rw [List.length_take];omega
theorem qeN {s:List UInt8} (h:qa6 s=0):(1≤s.length∧s.length≤400)∧hasB 0 s=false∧(qaI 47 s).all qgI=true:=by
 refine ⟨?_,?_⟩
 ·apply Classical.byContradiction;intro hc;rw [qhK (by omega)]at h;cases h
 ·unfold qa6 at h
  split at h
  ·exact absurd h (by decide)
  ·split at h
   ·exact absurd h (by decide)
   ·rename_i hh
    split at h
    ·rename_i ha;exact ⟨by simpa using hh,ha⟩
    ·exact absurd h (by decide)
theorem q03 {s t:List UInt8} (h:qa6 s=0) (h':qa6 t=0) (hl:s.length+t.length<400):qa6 (s++47::t)=0:=by
 obtain ⟨h1,h2,h3⟩:=qeN h;obtain ⟨k1,k2,k3⟩:=qeN h';refine qi2 (by rw [List.length_append,List.length_cons];omega) ?_ ?_
 ·rw [show hasB 0 (s++47::t)=(hasB 0 s||hasB 0 (47::t)) by simp [hasB],h2,qcF,k2];rfl
 ·rw [qdN,List.all_append,h3,k3];rfl
def qd5:List (List UInt8):= [[97], [98], [97,98], [66], [120,32,121], [195,169], [99,46,116,120,116],List.replicate 60 110,List.replicate 130 109, [97,33], [45]]
theorem qrN:qd5.length=11:=rfl
def qk5:List UInt8:= [115,116,97,102,102]
def qeQ (r:RawV):MetaV:=
 {mode:=pick r.a 4096
  uid:=if pick r.kind 9=2 then pick r.b 1125899906842625 else pick r.b 3000
  gid:=if pick r.kind 9=3 then pick r.a 1125899906842625 else pick r.a 3000
  user:=qdH r.text.data.toList 40
  group:=if pick r.kind 9=4 then List.replicate (pick r.a 61).toNat 103 else qk5
  second:=if pick r.kind 9=1 then-(pick r.b 17179869184) -1 else pick r.b 17179869184
  nano:=if pick r.kind 9=0 then pick r.a 1000000000 else 0}
def qbO (ds:List (List UInt8)) (r:RawV):List UInt8:=
 let d:=ds.getD (pick r.b ds.length).toNat []
 (if d= []then []else d++ [47])++qd5.getD (pick r.a 11).toNat []
def qo0 (r:RawV):List UInt8:=Lib.repeatL (qdH r.text.data.toList 40) (pick r.b 30).toNat
def qh7 (r:RawV):List UInt8:=116::Lib.repeatL (qdH r.text.data.toList 10) (pick r.a 20).toNat
def qdR (p:List UInt8) (r:RawV):NodeV:=⟨p,1,0, [],qeQ r,qo0 r⟩
def qbV (m:Nat) (st:List NodeV×List (List UInt8)) (r:RawV):List NodeV×List (List UInt8):=
 if m≤st.1.length then st else
 let p:=qbO st.2 r
 if 400<p.length∨(st.1.any fun n=>decide (n.path=p))=true then st else
 let n:=qdR p r
 let k:=pick r.kind 7
 if k=0∨k=1 then (st.1++ [{n with kind:=2,data:= [] }],st.2++ [p])
 else if k=2 then (st.1++ [{n with kind:=3,data:= [],target:=qh7 r}],st.2)
 else if k=3∨k=4 then
  let j:=(pick r.a (st.1.length+1)).toNat
  match st.1[j]? with
  |none=>(st.1++ [n],st.2)
  |some x=>if x.kind=1 then
    let x':=if x.same=0 then {x with same:=(j:Int)+1} else x
    (st.1.set j x'++ [{x' with path:=p}],st.2)
   else (st.1++ [n],st.2)
 else (st.1++ [n],st.2)
theorem q3Y (m:Nat) (st:List NodeV×List (List UInt8)) (r:RawV) (h: ¬m≤st.1.length) (hp:400<(qbO st.2 r).length):qbV m st r=st:=by
 unfold qbV;rw [if_neg h];simp only;rw [if_pos (.inl hp)]
theorem q9L (m:Nat) (st:List NodeV×List (List UInt8)) (r:RawV) (h: ¬m≤st.1.length) (hp:(st.1.any fun n=>decide (n.path=qbO st.2 r))=true):qbV m st r=st:=by
 unfold qbV;rw [if_neg h];simp only;rw [if_pos (.inr hp)]
def qcI (m:Nat) (rs:List RawV):List NodeV×List (List UInt8):=rs.foldl (qbV m) ([], [[]])
theorem qo6 (m:Nat) (rs:List RawV) (k:Nat) (h:k<rs.length):qcI m (rs.take (k+1))=qbV m (qcI m (rs.take k)) rs[k]:=by
 unfold qcI;rw [List.take_succ_eq_append_getElem h,List.foldl_append];rfl
theorem q30 (m:Nat) (st:List NodeV×List (List UInt8)) (r:RawV) (h:m≤st.1.length):qbV m st r=st:=by
 unfold qbV;rw [if_pos h]
theorem qz6 (m:Nat) (rs:List RawV) (k:Nat) (h:m≤(qcI m (rs.take k)).1.length):qcI m rs=qcI m (rs.take k):=by
 have e:qcI m rs=(rs.drop k).foldl (qbV m) (qcI m (rs.take k)):=by
  unfold qcI
  conv=>lhs;rw [←List.take_append_drop k rs,List.foldl_append]
 rw [e];generalize qcI m (rs.take k)=st at h
 induction rs.drop k with
 |nil=>rfl
 |cons r l ih=>rw [List.foldl_cons,q30 m st r h,ih]
def Fits (n:NodeV):Prop:=n.path.length≤400∧n.data.length≤1160
theorem za9: ∀x∈qd5,hasB 47 x=false∧hasB 0 x=false∧qgI x=true:=by decide+kernel
theorem name_at (a:Int):qd5.getD (pick a 11).toNat []∈qd5:=by
 have h:=qbG a 11 (by omega);rw [List.getD_eq_getElem?_getD,List.getElem?_eq_getElem (by rw [qrN];omega)];exact List.getElem_mem _
theorem qiK (c:UInt8) (a b:List UInt8):hasB c (a++b)=(hasB c a||hasB c b):=by simp [hasB]
theorem qwP (c:UInt8) (l:List UInt8) (n:Nat) (h:hasB c l=false):hasB c (Lib.repeatL l n)=false:=by
 induction n with
 |zero=>rfl
 |succ n ih=>
  rw [show Lib.repeatL l (n+1)=l++Lib.repeatL l n from rfl,qiK,h,ih];rfl
theorem qmN (l:List UInt8) (n:Nat):(Lib.repeatL l n).length=l.length*n:=by
 induction n with
 |zero=>rfl
 |succ n ih=>rw [show Lib.repeatL l (n+1)=l++Lib.repeatL l n from rfl,List.length_append,ih,Nat.mul_succ,Nat.add_comm]
theorem qnE (r:RawV):metE (qeQ r)=0:=by
 have m1:=qbG r.a 4096 (by omega);have u1:=qbG r.b 1125899906842625 (by omega);have u2:=qbG r.b 3000 (by omega);have g1:=qbG r.a 1125899906842625 (by omega);have g2:=qbG r.a 3000 (by omega);have s1:=qbG r.b 17179869184 (by omega);have n1:=qbG r.a 1000000000 (by omega);have k1:=qbG r.a 61 (by omega);have hu:=qqG r.text.data.toList 40;have hl:=qg7 r.text.data.toList 40
 have hg:(qeQ r).group.length≤60∧hasB 0 (qeQ r).group=false:=by
  unfold qeQ;simp only
  split
  ·refine ⟨by rw [List.length_replicate];omega,?_⟩;rw [qf3];intro x hx;rw [(List.mem_replicate.1 hx).2];decide
  ·exact ⟨by decide,by decide⟩
 rw [quD]
 ·unfold inE;rw [if_pos (zd1 _)];unfold qeQ;simp only;refine ⟨?_,?_,?_,?_⟩<;>split<;>omega
 ·unfold qeQ;simp only [Bool.and_eq_true];refine ⟨⟨q5Q (by omega),qxC ?_⟩,qxC ?_⟩<;>split<;>omega
 ·have:(qeQ r).user.length≤40:=hl;omega
 ·rw [hg.2,Bool.or_false];exact hu
theorem zcJ (r:RawV):(qo0 r).length≤1160:=by
 have h:=qbG r.b 30 (by omega);have hl:=qg7 r.text.data.toList 40;unfold qo0;rw [qmN]
 calc _≤40*29:=Nat.mul_le_mul hl (by omega)
  _≤1160:=by decide
theorem targ_ok (r:RawV):(qh7 r).length≤400∧hasB 0 (qh7 r)=false∧qh7 r≠ []:=by
 have h:=qbG r.a 20 (by omega);have hl:=qg7 r.text.data.toList 10;refine ⟨?_,?_,by unfold qh7;simp⟩
 ·unfold qh7;rw [List.length_cons,qmN];have:(qdH r.text.data.toList 10).length*(pick r.a 20).toNat≤10*19:=Nat.mul_le_mul hl (by omega);omega
 ·unfold qh7;rw [qcF,qwP 0 _ _ (qqG _ _)];rfl
theorem q45 (d name:List UInt8) (hd:d= []∨qa6 d=0) (hn:name∈qd5) (hl: ¬400<((if d= []then []else d++ [47])++name).length):
  qa6 ((if d= []then []else d++ [47])++name)=0∧upL ((if d= []then []else d++ [47])++name)=d:=by
 obtain ⟨h1,h2,h3⟩:=za9 name hn;have hne:name≠ []:=by intro e;rw [e]at h3;exact absurd h3 (by decide)
 have hpos:1≤name.length:=by
  cases name with
  |nil=>exact absurd rfl hne
  |cons a l=>simp
 by_cases e:d= []
 ·subst e;rw [if_pos rfl,List.nil_append]at hl⊢;refine ⟨qi2 (by omega) h2 ?_,(qgL name h1).1⟩;rw [qdM 47 name h1];simp [h3]
 ·rw [if_neg e]at hl⊢
  have hpd:qa6 d=0:=by
   rcases hd with h|h
   ·exact absurd h e
   ·exact h
  have hz:hasB 0 d=false∧(qaI 47 d).all qgI=true:=by
   unfold qa6 at hpd
   split at hpd
   ·exact absurd hpd (by decide)
   ·split at hpd
    ·exact absurd hpd (by decide)
    ·rename_i hh
     split at hpd
     ·rename_i ha;exact ⟨by simpa using hh,ha⟩
     ·exact absurd hpd (by decide)
  have ee:d++ [47]++name=d++47::name:=by simp
  rw [ee]at hl⊢;refine ⟨qi2 (by rw [List.length_append,List.length_cons]at*;omega) ?_ ?_,(qo5 _ d name h1 rfl).1⟩
  ·rw [qiK,hz.1,qcF,h2];rfl
  ·rw [qdN,List.all_append,hz.2,qdM 47 name h1];simp [h3]
structure Drawn (ns:List NodeV) (ds:List (List UInt8)):Prop where
 dirs: ∀d∈ds,d= []∨(qa6 d=0∧ ∃n∈ns,n.path=d∧n.kind=2)
 some:ds≠ []
 node: ∀n∈ns,nodE n=0
 up: ∀n∈ns,upL n.path= []∨ ∃x∈ns,x.path=upL n.path∧x.kind=2
 apart:(ns.map NodeV.path).Pairwise (· ≠ ·)
 first: ∀x∈ns,x.same≠0→ ∃j,∃hj:j<ns.length,x.same=(j:Int)+1∧ns[j].same=(j:Int)+1∧ns[j].md=x.md∧ns[j].data=x.data
 plain: ∀x∈ns,x.same≠0→x.kind=1
theorem q7N:Drawn [] [[]]:=⟨fun d hd=> .inl (by simpa using hd),by simp,fun n h=>by simp at h,fun n h=>by simp at h,List.Pairwise.nil,fun n h=>by simp at h,fun n h=>by simp at h⟩
theorem Drawn.push {ns:List NodeV} {ds:List (List UInt8)} (h:Drawn ns ds) {n:NodeV} {ds':List (List UInt8)} (he:nodE n=0) (hs:n.same=0) (hu:upL n.path= []∨ ∃x∈ns,x.path=upL n.path∧x.kind=2)
  (ha: ∀x∈ns,x.path≠n.path) (hd:ds'=ds∨(ds'=ds++ [n.path]∧n.kind=2∧qa6 n.path=0)):Drawn (ns++ [n]) ds':=by
 refine ⟨fun d hd'=> ?_,?_,fun x hx=> ?_,fun x hx=> ?_,?_,fun x hx hne=> ?_,fun x hx hne=> ?_⟩
 ·have old:d∈ds→d= []∨(qa6 d=0∧ ∃y∈ns++ [n],y.path=d∧y.kind=2):=fun hm=>by
   rcases h.dirs d hm with e|⟨e,y,hy,e2⟩
   ·exact .inl e
   ·exact .inr ⟨e,y,List.mem_append_left _ hy,e2⟩
  rcases hd with rfl|⟨rfl,hk,hp⟩
  ·exact old hd'
  ·rcases List.mem_append.1 hd' with a|a
   ·exact old a
   ·obtain rfl:d=n.path:=by simpa using a
    exact .inr ⟨hp,n,by simp,rfl,hk⟩
 ·rcases hd with rfl|⟨rfl,-⟩
  ·exact h.some
  ·simp
 ·rcases List.mem_append.1 hx with a|a
  ·exact h.node x a
  ·obtain rfl:x=n:=by simpa using a
   exact he
 ·have hu':upL n.path= []∨ ∃x∈ns++ [n],x.path=upL n.path∧x.kind=2:=by
   rcases hu with e|⟨y,hy,e⟩
   ·exact .inl e
   ·exact .inr ⟨y,List.mem_append_left _ hy,e⟩
  rcases List.mem_append.1 hx with a|a
  ·rcases h.up x a with e|⟨y,hy,e⟩
   ·exact .inl e
   ·exact .inr ⟨y,List.mem_append_left _ hy,e⟩
  ·obtain rfl:x=n:=by simpa using a
   exact hu'
 ·rw [List.map_append,List.pairwise_append];refine ⟨h.apart,List.pairwise_singleton _ _,fun x hx y hy=> ?_⟩;obtain rfl:y=n.path:=by simpa using hy
  obtain ⟨z,hz,rfl⟩:=List.mem_map.1 hx;exact ha z hz
 ·rcases List.mem_append.1 hx with a|a
  ·obtain ⟨j,hj,e1,e2,e3⟩:=h.first x a hne;exact ⟨j,by rw [List.length_append];omega,e1,by rw [List.getElem_append_left hj];exact e2,by rw [List.getElem_append_left hj];exact e3⟩
  ·obtain rfl:x=n:=by simpa using a
   exact absurd hs hne
 ·rcases List.mem_append.1 hx with a|a
  ·exact h.plain x a hne
  ·obtain rfl:x=n:=by simpa using a
   exact absurd hs hne
theorem qyY {n:NodeV} (h:nodE n=0) (hk:n.kind=1):n.target= []∧0≤n.same∧n.data.length≤2000∧qa6 n.path=0∧metE n.md=0:=by
 by_cases h1:qa6 n.path=0
 ·by_cases h2:metE n.md=0
  ·rw [qeP h1 h2]at h;unfold nodK at h;rw [if_pos hk]at h
   by_cases h3:n.target≠ []∨n.same<0
   ·rw [if_pos h3]at h;exact absurd h (by decide)
   ·rw [if_neg h3]at h
    by_cases h4:2000<n.data.length
    ·rw [if_pos h4]at h;exact absurd h (by decide)
    ·refine ⟨Classical.byContradiction fun e=>h3 (.inl e),?_,by omega,h1,h2⟩;rcases Int.lt_or_le n.same 0 with e|e
     ·exact absurd (.inr e) h3
     ·exact e
  ·rw [qnD h1 h2]at h;exact absurd h h2
 ·rw [qgV h1]at h;exact absurd h h1
theorem qrM {n:NodeV} (hk:n.kind=1) (ht:n.target= []) (hs:0≤n.same) (hd:n.data.length≤2000) (hp:qa6 n.path=0) (hm:metE n.md=0):nodE n=0:=by
 rw [qeP hp hm];unfold nodK;rw [if_pos hk,if_neg (by rintro (e|e);exact e ht;omega),if_neg (by omega)]
theorem Drawn.name {ns:List NodeV} {ds:List (List UInt8)} (h:Drawn ns ds) {j:Nat} (hj:j<ns.length) (hk:ns[j].kind=1) {x':NodeV} (hx':x'=if ns[j].same=0 then {ns[j]with same:=(j:Int)+1} else ns[j])
  {p:List UInt8} (hp:qa6 p=0) (hu:upL p= []∨ ∃x∈ns,x.path=upL p∧x.kind=2) (ha: ∀x∈ns,x.path≠p):Drawn (ns.set j x'++ [{x' with path:=p}]) ds:=by
 have e1:x'.path=ns[j].path∧x'.kind=1∧x'.md=ns[j].md∧x'.data=ns[j].data∧x'.target=ns[j].target∧x'.same≠0∧0≤x'.same:=by
  have:=qyY (h.node _ (List.getElem_mem hj)) hk;rw [hx']
  by_cases e:ns[j].same=0
  ·rw [if_pos e];exact ⟨rfl,hk,rfl,rfl,rfl,by show (j:Int)+1≠0;omega,by show 0≤(j:Int)+1;omega⟩
  ·rw [if_neg e];exact ⟨rfl,hk,rfl,rfl,rfl,e,this.2.1⟩
 obtain ⟨p1,p2,p3,p4,p5,p6,p7⟩:=e1;obtain ⟨q1,q2,q3,q4,q5⟩:=qyY (h.node _ (List.getElem_mem hj)) hk
 have stay: ∀y∈ns,y.kind=2→y∈ns.set j x':=by
  intro y hy hky;obtain ⟨i,hi,rfl⟩:=List.getElem_of_mem hy;have hij:j≠i:=by rintro rfl;rw [hk]at hky;exact absurd hky (by decide)
  have e:(ns.set j x')[i]'(by rw [List.length_set];exact hi)=ns[i]:=List.getElem_set_ne hij _;rw [←e];exact List.getElem_mem _
 have hfirst: ∀(s:Int) (md:MetaV) (dt:List UInt8),(∃i:Nat,∃hi:i<ns.length,s=(i:Int)+1∧ns[i].same=(i:Int)+1∧ns[i].md=md∧ns[i].data=dt)→
   ∃i:Nat,∃hi:i<(ns.set j x'++ [{x' with path:=p}]).length,s=(i:Int)+1∧(ns.set j x'++ [{x' with path:=p}])[i].same=(i:Int)+1∧(ns.set j x'++ [{x' with path:=p}])[i].md=md∧(ns.set j x'++ [{x' with path:=p}])[i].data=dt:=by
  rintro s md dt ⟨i,hi,e1,e2,e3,e4⟩;have hi2:i<(ns.set j x').length:=by rw [List.length_set];exact hi
  refine ⟨i,by rw [List.length_append];omega,e1,?_⟩;rw [List.getElem_append_left hi2]
  by_cases hij:j=i
  ·subst hij;rw [List.getElem_set_self,hx',if_neg (by omega)];exact ⟨e2,e3,e4⟩
  ·rw [List.getElem_set_ne hij];exact ⟨e2,e3,e4⟩
 have hnew: ∃i:Nat,∃hi:i<(ns.set j x'++ [{x' with path:=p}]).length,x'.same=(i:Int)+1∧(ns.set j x'++ [{x' with path:=p}])[i].same=(i:Int)+1∧(ns.set j x'++ [{x' with path:=p}])[i].md=x'.md∧(ns.set j x'++ [{x' with path:=p}])[i].data=x'.data:=by
  by_cases e:ns[j].same=0
  ·have hj2:j<(ns.set j x').length:=by rw [List.length_set];exact hj
   refine ⟨j,by rw [List.length_append];omega,by rw [hx',if_pos e],?_⟩;rw [List.getElem_append_left hj2,List.getElem_set_self];exact ⟨by rw [hx',if_pos e],rfl,rfl⟩
  ·have e3:x'.same=ns[j].same:=by rw [hx',if_neg e]
   exact hfirst x'.same x'.md x'.data (by rw [e3,p3,p4];exact h.first _ (List.getElem_mem hj) e)
 refine ⟨fun d hd=> ?_,h.some,fun x hx=> ?_,fun x hx=> ?_,?_,fun x hx hne=> ?_,fun x hx hne=> ?_⟩
 ·rcases h.dirs d hd with e|⟨e,y,hy,e2,e3⟩
  ·exact .inl e
  ·exact .inr ⟨e,y,List.mem_append_left _ (stay y hy e3),e2,e3⟩
 ·rcases List.mem_append.1 hx with a|a
  ·rcases List.mem_or_eq_of_mem_set a with b|b
   ·exact h.node x b
   ·subst b;exact qrM p2 (by rw [p5,q1]) p7 (by rw [p4];exact q3) (by rw [p1];exact q4) (by rw [p3];exact q5)
  ·obtain rfl:x= {x' with path:=p} :=by simpa using a
   exact qrM p2 (show x'.target= [] by rw [p5,q1]) p7 (show x'.data.length≤2000 by rw [p4];exact q3) hp (show metE x'.md=0 by rw [p3];exact q5)
 ·have lift: ∀q:List UInt8,(upL q= []∨ ∃y∈ns,y.path=upL q∧y.kind=2)→upL q= []∨ ∃y∈ns.set j x'++ [{x' with path:=p}],y.path=upL q∧y.kind=2:=by
   rintro q (e|⟨y,hy,e2,e3⟩)
   ·exact .inl e
   ·exact .inr ⟨y,List.mem_append_left _ (stay y hy e3),e2,e3⟩
  rcases List.mem_append.1 hx with a|a
  ·rcases List.mem_or_eq_of_mem_set a with b|b
   ·exact lift _ (h.up x b)
   ·subst b;exact lift _ (by rw [p1];exact h.up _ (List.getElem_mem hj))
  ·obtain rfl:x= {x' with path:=p} :=by simpa using a
   exact lift _ hu
 ·have em:(ns.set j x').map NodeV.path=ns.map NodeV.path:=by
   rw [List.map_set,p1];apply List.ext_getElem
   ·simp
   ·intro i h1 h2;rw [List.getElem_set]
    split
    ·rename_i e;subst e;simp
    ·rfl
  rw [List.map_append,em,List.pairwise_append];refine ⟨h.apart,List.pairwise_singleton _ _,fun x hx y hy=> ?_⟩;obtain rfl:y=p:=by simpa using hy
  obtain ⟨z,hz,rfl⟩:=List.mem_map.1 hx;exact ha z hz
 ·rcases List.mem_append.1 hx with a|a
  ·rcases List.mem_or_eq_of_mem_set a with b|b
   ·exact hfirst _ _ _ (h.first x b hne)
   ·subst b;exact hnew
  ·obtain rfl:x= {x' with path:=p} :=by simpa using a
   exact hnew
 ·rcases List.mem_append.1 hx with a|a
  ·rcases List.mem_or_eq_of_mem_set a with b|b
   ·exact h.plain x b hne
   ·subst b;exact p2
  ·obtain rfl:x= {x' with path:=p} :=by simpa using a
   exact p2
theorem Drawn.step {ns:List NodeV} {ds:List (List UInt8)} (h:Drawn ns ds) (m:Nat) (r:RawV):Drawn (qbV m (ns,ds) r).1 (qbV m (ns,ds) r).2:=by
 unfold qbV
 by_cases hm:m≤ns.length
 ·rw [if_pos hm];exact h
 rw [if_neg hm];simp only
 by_cases hp:400<(qbO ds r).length∨(ns.any fun n=>decide (n.path=qbO ds r))=true
 ·rw [if_pos hp];exact h
 rw [if_neg hp];have ha: ∀x∈ns,x.path≠qbO ds r:=fun x hx e=>hp (.inr (List.any_eq_true.2 ⟨x,hx,by simpa using e⟩))
 have hpos:1≤ds.length:=by
  rcases hds:ds with _|⟨a,l⟩
  ·exact absurd hds h.some
  ·simp
 have hb:=qbG r.b ds.length (by omega)
 have hdm:ds.getD (pick r.b ds.length).toNat []∈ds:=by
  rw [List.getD_eq_getElem?_getD,List.getElem?_eq_getElem (by omega)];exact List.getElem_mem _
 have hdir:=h.dirs _ hdm;have hpath:=q45 (ds.getD (pick r.b ds.length).toNat []) (qd5.getD (pick r.a 11).toNat []) (by rcases hdir with e|⟨e,-⟩;exact .inl e;exact .inr e) (name_at r.a) (fun e=>hp (.inl e));have hpe:qa6 (qbO ds r)=0:=hpath.1
 have hup:upL (qbO ds r)= []∨ ∃x∈ns,x.path=upL (qbO ds r)∧x.kind=2:=by
  have e:upL (qbO ds r)=ds.getD (pick r.b ds.length).toNat []:=hpath.2;rw [e];rcases hdir with e|⟨-,y,hy,e2⟩
  ·exact .inl e
  ·exact .inr ⟨y,hy,e2⟩
 have hfile:nodE (qdR (qbO ds r) r)=0:=qrM rfl rfl (Int.le_refl 0) (by have:=zcJ r;show (qo0 r).length≤2000;omega) hpe (qnE r);have one:Drawn (ns++ [qdR (qbO ds r) r]) ds:=h.push hfile rfl hup ha (.inl rfl);obtain ⟨t1,t2,t3⟩:=targ_ok r
 split
 ·refine h.push ?_ rfl hup ha (.inr ⟨rfl,rfl,hpe⟩);rw [qeP hpe (qnE r)]
  rfl
 ·split
  ·refine h.push ?_ rfl hup ha (.inl rfl);rw [qeP hpe (qnE r)];unfold nodK;simp only [qdR];rw [if_neg (by decide),if_pos (by decide),if_neg (by simp [t2,t3]),if_neg (by omega)]
  ·split
   ·cases hx:ns[(pick r.a (ns.length+1)).toNat]? with
    |none=>exact one
    |some x=>
     obtain ⟨hj,rfl⟩:=List.getElem?_eq_some_iff.1 hx;simp only
     split
     ·rename_i hk;exact h.name hj hk rfl hpe hup ha
     ·exact one
   ·exact one
theorem qvA (m:Nat) (rs:List RawV):Drawn (qcI m rs).1 (qcI m rs).2:=by
 unfold qcI
 suffices key: ∀(st:List NodeV×List (List UInt8)),Drawn st.1 st.2→Drawn (rs.foldl (qbV m) st).1 (rs.foldl (qbV m) st).2 from key _ q7N
 induction rs with
 |nil=>intro st h;exact h
 |cons r rs ih=>intro st h;rw [List.foldl_cons];exact ih _ (h.step m r)
theorem q9K (m:Nat) (st:List NodeV×List (List UInt8)) (r:RawV) (h:st.1.length≤m):(qbV m st r).1.length≤m:=by
 unfold qbV
 by_cases hm:m≤st.1.length
 ·rw [if_pos hm];exact h
 rw [if_neg hm];simp only
 repeat' split
 all_goals first|exact h|(simp only [List.length_append,List.length_cons,List.length_nil,List.length_set];omega)
theorem q7O (m:Nat) (rs:List RawV):(qcI m rs).1.length≤m:=by
 unfold qcI
 suffices key: ∀(st:List NodeV×List (List UInt8)),st.1.length≤m→(rs.foldl (qbV m) st).1.length≤m from key _ (Nat.zero_le _)
 induction rs with
 |nil=>intro st h;exact h
 |cons r rs ih=>intro st h;rw [List.foldl_cons];exact ih _ (q9K m st r h)
theorem qn7 {m:Nat} {rs:List RawV} {l:List NodeV} (hp:l.Perm (qcI m rs).1) (hs: ∀i j (hi:i<j) (hj:j<l.length),pcmp (l[i]'(by omega)).path l[j].path≤0):l.length≤m∧Sound l:=by
 have h:=qvA m rs;have hlen:=hp.length_eq;have hdist:(l.map NodeV.path).Pairwise (· ≠ ·):=(hp.map NodeV.path).symm.pairwise h.apart (fun h=>h.symm);refine ⟨by rw [hlen];exact q7O m rs,?_,fun n hn=>h.node n (hp.mem_iff.1 hn),fun n hn=> ?_,fun x hx y hy e hne=> ?_⟩
 ·refine List.pairwise_iff_getElem.2 fun i j hi hj hij=> ?_;have h1:=hs i j hij hj;have h2:=(List.pairwise_iff_getElem.1 hdist) i j (by simpa using hi) (by simpa using hj) hij;rw [List.getElem_map,List.getElem_map]at h2;have h3:=qj7 l[i].path l[j].path;have h4:pcmp l[i].path l[j].path≠0:=fun e=>h2 ((qeM _ _).1 e);omega
 ·rcases h.up n (hp.mem_iff.1 hn)with e|⟨d,hd,e⟩
  ·exact .inl e
  ·exact .inr ⟨d,hp.mem_iff.2 hd,e⟩
 ·obtain ⟨i,hi,a1,a2,a3,a4⟩:=h.first x (hp.mem_iff.1 hx) hne;obtain ⟨k,hk,b1,b2,b3,b4⟩:=h.first y (hp.mem_iff.1 hy) (by rw [←e];exact hne);obtain rfl:i=k:=by omega
  exact ⟨by rw [←a3,b3],by rw [←a4,b4]⟩
section
variable {α β:Type} (star:α→Bool) (fits:α→β→Bool)
def fitL:List α→List β→Bool
 | [], []=>true
 | [],_::_=>false
 |a::us, []=>star a&&fitL us []
 |a::us,b::bs=>if star a then fitL us (b::bs)||fitL (a::us) bs else fits a b&&fitL us bs
termination_by us bs=>us.length+bs.length
variable {star fits}
end
abbrev Tok:Type:=Bool×(UInt8→Bool)
def span (low high:UInt8):UInt8→Bool:=fun x=>decide (low≤x∧x≤high)
def setG (first:Bool) (acc:UInt8→Bool):List UInt8→Option ((UInt8→Bool) ×List UInt8)
 | []=>none
 | [c]=>if first=false∧c=93 then some (acc, [])else none
 | [c,d]=>if first=false∧c=93 then some (acc, [d])else setG false (fun x=>acc x||span c c x) [d]
 |c::d::h::r=>if first=false∧c=93 then some (acc,d::h::r)else if d=45∧h≠93 then setG false (fun x=>acc x||span c h x) r else setG false (fun x=>acc x||span c c x) (d::h::r)
termination_by l=>l.length
theorem qtM: ∀(n:Nat) (first:Bool) (acc:UInt8→Bool) (l:List UInt8) (f:UInt8→Bool) (r:List UInt8),l.length≤n→setG first acc l=some (f,r)→r.length<l.length:=by
 intro n
 induction n with
 |zero=>
  intro first acc l f r hl h
  rw [List.eq_nil_of_length_eq_zero (Nat.le_zero.1 hl)]at h;rw [setG]at h;cases h
 |succ n ih=>
  intro first acc l f r hl h
  match l,hl,h with
  | [],_,h=>rw [setG]at h;cases h
  | [c],_,h=>
   rw [setG]at h
   split at h
   ·injection h with h;injection h with _ h;rw [←h];simp
   ·cases h
  | [c,d],hl,h=>
   rw [setG]at h
   split at h
   ·injection h with h;injection h with _ h;rw [←h];simp
   ·have:=ih _ _ _ _ _ (by simp only [List.length_cons,List.length_nil]at hl⊢;omega) h;simp only [List.length_cons,List.length_nil]at this⊢;omega
  |c::d::e::l,hl,h=>
   rw [setG]at h;simp only [List.length_cons]at hl
   split at h
   ·injection h with h;injection h with _ h;rw [←h];simp
   ·split at h
    ·have:=ih _ _ _ _ _ (by omega) h;simp only [List.length_cons];omega
    ·have:=ih _ _ _ _ _ (by simp only [List.length_cons];omega) h;simp only [List.length_cons]at this⊢;omega
def setP (r:List UInt8):Option ((UInt8→Bool) ×List UInt8):=
 match r with
 | []=>none
 |c::r'=>if c=33 then (setG true (fun _=>false) r').map fun q=>(fun x=> !q.1 x,q.2)else setG true (fun _=>false) (c::r')
theorem q4A {r:List UInt8} {f:UInt8→Bool} {r2:List UInt8} (h:setP r=some (f,r2)):r2.length<r.length:=by
 unfold setP at h;cases r with
 |nil=>cases h
 |cons c r=>
  simp only at h
  split at h
  ·obtain ⟨q,hq,e⟩:=Option.map_eq_some_iff.1 h;obtain ⟨g,r3⟩:=q;injection e with _ e
   simp only at e;subst e;have:=qtM _ _ _ _ _ _ (Nat.le_refl _) hq;rw [List.length_cons];omega
  ·exact qtM _ _ _ _ _ _ (Nat.le_refl _) h
def tokL:List UInt8→Option (List Tok)
 | []=>some []
 |c::r=>
  if c=91 then
   match h:setP r with
   |none=>none
   |some (f,r2)=>(tokL r2).map fun ts=>(false,f)::ts
  else (tokL r).map fun ts=>(if c=42 then (true,span 42 42)else if c=63 then (false,fun _=>true)else (false,span c c))::ts
termination_by l=>l.length
decreasing_by
 ·have:=q4A h;simp only [List.length_cons];omega
 ·simp
def tokStar (t:Tok):Bool:=t.1
def tokFits (t:Tok) (c:UInt8):Bool:=t.2 c
def partF (p s:List UInt8):Bool:=fitL tokStar tokFits ((tokL p).getD []) s
def q9A (p:List UInt8):Bool:=decide (p= [42,42])
def zdV:List (List UInt8)→Int
 | []=>0
 |s::l=>if s= []then 9 else if (tokL s).isNone then 3 else zdV l
def qr5 (p:List UInt8):Int:=if p= []∨400<p.length then 1 else zdV (qaI 47 p)
def globF (p s:List UInt8):Bool:=fitL q9A partF (qaI 47 p) (qaI 47 s)
end Go.Proofs.YtapgoifimhnbdaaGreatDoor
namespace Go.Proofs.YtapgoifimhnbdaaGreatDoor
open Go.RowKit
def plainC (c:UInt8):Prop:=c≠42∧c≠63∧c≠91
def starL (c:UInt8):Nat→List UInt8
 |0=> []
 |n+1=>42::c::starL c n
def starT (c:UInt8):Nat→List Tok
 |0=> []
 |n+1=>(true,span 42 42)::(false,span c c)::starT c n
end Go.Proofs.YtapgoifimhnbdaaGreatDoor
