/- qaV of one kind, in one file: Num, FldM, TiM, MetV, PthM, PrtM, SplM, NodM, NodN, LnkM, LnkN, EntM, NodO, CutM, StpM, RecM, RecN, PaxM, HedM, PadM, MemM, PaxN, HedN, MemN, MemO, RepM. -/
import Derived.Test.YtapgoifimhnbdaaGreatDoorRows
import Derived.WalkKit
import Derived.WalkSpells
import Derived.WalkLawsBesides
import Derived.Lib.Hide
import Derived.OpenShut
import Derived.Lib.Bytealg
import Derived.Lib.SplitLaws
import Derived.Lib.LastIndexByte
import Derived.Lib.Join
import Derived.Lib.IndexBytes
import Derived.Lib.ItoaMem
import Derived.Lib.TrimByte
import Derived.Lib.AtoiTie
import Derived.Lib.Strings
set_option linter.unusedVariables false
namespace Go.Proofs.YtapgoifimhnbdaaGreatDoor
open Go.RowKit
theorem qaR {k:IntKind} {a b:Int} (h:a=b):Ending.returned (.int k a)= .returned (.int k b):=by rw [h]
theorem qaA {α:Type} (a:α): ∃b,Hid (a=b):=⟨a,rfl⟩
theorem qa7 {a b:Bool} (h:a=b):Ending.returned (.bool a)= .returned (.bool b):=by rw [h]
theorem qcQ (a b:ByteArray):(a.toList==b.toList)=decide (a=b):=by
 rw [ByteArray.toList_eq,ByteArray.toList_eq,Bool.eq_iff_iff,beq_iff_eq,decide_eq_true_eq];exact ⟨fun h=>by apply ByteArray.ext;exact Array.toList_inj.1 h,fun h=>by rw [h]⟩
theorem qb9 {k k':IntKind} {a b a' b':Int} (h:a=a') (h':b=b'):Ending.returned (.tuple #[.int k a,.int k' b])= .returned (.tuple #[.int k a',.int k' b']):=by rw [h,h']
theorem qbO {P:Program} {f:FuncId} {args:Array Value} {w:World} {v:Value} (h:Calls P f args w fun e w'=>e= .returned v∧w=w'):Calls P f args w fun e w'=>e= .returned v∧w'=w:=h.mono fun _ _ ⟨a,b⟩=>⟨a,b.symm⟩
def qv4:Value→Nat| .string b=>b.size|_=>0
theorem qdC (a b:List UInt8):(⟨a.toArray⟩:ByteArray)++⟨b.toArray⟩=⟨(a++b).toArray⟩:=by
 apply ByteArray.ext;simp [ByteArray.data_append]
theorem qjU (l:List UInt8):(⟨l.toArray⟩:ByteArray).size=l.length:=rfl
theorem qhL {b:List UInt8} {k:IntKind} {n:Int} (s:ByteArray) (h:s=⟨b.toArray⟩):Ending.returned (.tuple #[.string s,.int k n])= .returned (.tuple #[.string ⟨b.toArray⟩,.int k n]):=by rw [h]
theorem ret_str {s s':ByteArray} (h:s=s'):Ending.returned (.string s)= .returned (.string s'):=by rw [h]
theorem qaU {s s':ByteArray} {k:IntKind} {n n':Int} (h:s=s') (h':n=n'):Ending.returned (.tuple #[.string s,.int k n])= .returned (.tuple #[.string s',.int k n']):=by rw [h,h']
def qeZ (l:List UInt8):List Int:=l.map fun (c:UInt8)=>(c.toNat:Int)
def qaX (l:List UInt8):List Value:=(qeZ l).map (Value.int .u8)
@[simp] theorem bInts_length (l:List UInt8):(qeZ l).length=l.length:=by simp [qeZ]
@[simp] theorem bCells_length (l:List UInt8):(qaX l).length=l.length:=by simp [qaX]
theorem qzT (l:List UInt8) (i:Nat) (c:UInt8):(qaX l).set i (.int .u8 (c.toNat:Int))=qaX (l.set i c):=by
 simp [qaX,qeZ,List.map_set]
theorem qdZ (a b:List UInt8):qaX (a++b)=qaX a++qaX b:=by simp [qaX,qeZ]
theorem qkA (n:Nat):(madeCells #[Value.int .u8 0] n).toList=qaX (List.replicate n 0):=by
 apply List.ext_getElem
 ·simp [madeCells]
 ·intro i h1 h2;simp [madeCells,qaX,qeZ,Nat.mod_one]
theorem qgM (l:List UInt8):strOfNums (qeZ l)=⟨l.toArray⟩:=by
 simp only [strOfNums,qeZ,List.map_map]
 congr 1
 have:((fun n:Int=>UInt8.ofNat n.toNat) ∘fun c:UInt8=>(c.toNat:Int))=id:=by funext c;simp
 rw [this,List.map_id]
theorem qfJ (l:List UInt8) (j:Nat) (h:j<l.length):(qaX l)[j]?=some (.int .u8 ((qeZ l).getD j 0)):=by
 simp [qaX,qeZ,h]
theorem ql3 {P:Program} {w:World} {base e:Nat} {g n cap:Nat} {l:List UInt8} (h:w.ownsRow base e 1 (.slice (some ⟨g,0,none⟩) n cap) n (qaX l))
  (src e' dst:TypeId) (hs:P.underlying src=some (.slice e')) (he:P.underlying e'=some (.int .u8)) (hd:P.underlying dst=some .string):
  (convert src dst (.slice (some ⟨g,0,none⟩) n cap)).run P w= .ok (.string ⟨l.toArray⟩) w:=by
 have hl:l.length=n:=by have:=h.1;simpa using this
 rw [←qgM];refine run_convert_bytes_arg w src e' hs he g 0 n cap (qeZ l) (by simpa using hl) (fun i hi=> ?_) dst hd;rw [Nat.zero_add,h.cellAt i (by omega),qfJ _ _ (by omega)]
def wOk (x:Int):Bool:=decide (2≤x∧x≤12)
theorem qz3 {x:Int} (h:2≤x∧x≤12):wOk x=true:=by simp [wOk,h]
theorem qrQ {x:Int} (h: ¬(2≤x∧x≤12)):wOk x=false:=by simp only [wOk,decide_eq_false_iff_not];exact h
theorem split12 {x:Int} (h:2≤x∧x≤12):x=2∨x=3∨x=4∨x=5∨x=6∨x=7∨x=8∨x=9∨x=10∨x=11∨x=12:=by omega
def most (x:Int):Int:=8^(x.toNat-1) -1
theorem qqE (k:Nat) (h:k≤11):(8:Int) ^k≤8589934592:=by
 have:(8:Nat) ^k≤8^11:=Nat.pow_le_pow_right (by omega) h;have e:((8:Nat) ^k:Nat)=((8:Int) ^k):=by simp
 omega
theorem q18 {x:Int} (h:x≤12):most x≤8589934592:=by
 have:=qqE (x.toNat-1) (by omega);unfold most;omega
theorem qqD (k:Nat):(1:Int)≤8^k:=by
 have:0<(8:Nat) ^k:=Nat.pow_pos (by omega);have e:((8:Nat) ^k:Nat)=((8:Int) ^k):=by simp
 omega
theorem qc4 (s:ByteArray) (k:Nat) (h:k<s.size):s.data.toList.take (k+1)=s.data.toList.take k++ [s[k]]:=by
 rw [List.take_succ_eq_append_getElem (by simpa using h)];rfl
theorem qlU (c:UInt8):c.toNat<256:=c.toNat_lt
def digL (l:List UInt8):Bool:=l.all fun c=>decide (48≤c.toNat∧c.toNat≤55)
def qcF (l:List UInt8):Nat:=l.foldl (fun a c=>a*8+(c.toNat-48)) 0
theorem qd6 (l:List UInt8) (c:UInt8):qcF (l++ [c])=qcF l*8+(c.toNat-48):=by simp [qcF]
theorem qfD (l:List UInt8) (c:UInt8):digL (l++ [c])=(digL l&&decide (48≤c.toNat∧c.toNat≤55)):=by simp [digL,List.all_append]
theorem qp2 {p:List UInt8→Prop} (h0:p []) (h1: ∀l c,p l→p (l++ [c])) (l:List UInt8):p l:=by
 have: ∀r:List UInt8,p r.reverse:=by
  intro r
  induction r with
  |nil=>exact h0
  |cons c r ih=>rw [List.reverse_cons];exact h1 _ _ ih
 simpa using this l.reverse
theorem qsW (l:List UInt8) (h:digL l=true):qcF l<8^l.length:=by
 revert h
 refine qp2 (p:=fun l=>digL l=true→qcF l<8^l.length) (fun _=>by simp [qcF]) (fun l c ih h=> ?_) l;rw [qfD,Bool.and_eq_true,decide_eq_true_eq]at h;have:=ih h.1;rw [qd6,List.length_append,List.length_singleton,Nat.pow_succ];omega
theorem q46 (l:List UInt8) (c:UInt8) (n k:Nat) (hn:k+2≤n) (h:48≤c.toNat):
  ((qcF l*8^(n-1-k):Nat):Int)+((c.toNat:Int) -48)*8^(n-2-k)=((qcF (l++ [c])*8^(n-1-(k+1)):Nat):Int):=by
 have e1:n-1-k=(n-2-k)+1:=by omega
 have e2:n-1-(k+1)=n-2-k:=by omega
 have e3:(c.toNat:Int) -48=((c.toNat-48:Nat):Int):=by omega
 have e4:(8:Int) ^(n-2-k)=((8^(n-2-k):Nat):Int):=by simp
 rw [e1,e2,e3,e4,qd6,Nat.pow_succ,←Int.natCast_mul,←Int.natCast_add]
 congr 1
 rw [Nat.add_mul,Nat.mul_comm (8^(n-2-k)) 8,Nat.mul_assoc]
def octR (l:List UInt8):Int×Int:=
 if 2≤l.length∧l.length≤12 then
  if digL (l.take (l.length-1))=true∧l.getD (l.length-1) 1=0 then (qcF (l.take (l.length-1)),0)else (0,3)
 else (0,4)
def D (n:Nat):Nat→List UInt8
 |0=> []
 |j+1=>UInt8.ofNat (48+n/8^j%8)::D n j
@[simp] theorem D_length (n j:Nat):(D n j).length=j:=by induction j with
 |zero=>rfl
 |succ j ih=>simp [D,ih]
theorem qtU (r:Nat) (h:r<8):(⟨#[48,49,50,51,52,53,54,55]⟩:ByteArray).extract r (r+1)=⟨[UInt8.ofNat (48+r)].toArray⟩:=by
 match r,h with
 |0,_=>rfl
 |1,_=>rfl
 |2,_=>rfl
 |3,_=>rfl
 |4,_=>rfl
 |5,_=>rfl
 |6,_=>rfl
 |7,_=>rfl
theorem q76 (m k q:Nat) (h:m/8^k=q):D m (k+1)=UInt8.ofNat (48+q%8)::D m k:=by rw [D,h]
theorem qxD (m k q:Nat) (h:m/8^k=q):m/8^(k+1)=q/8:=by rw [Nat.pow_succ,←Nat.div_div_eq_div_mul,h]
def buf (m y k:Nat):List UInt8:=List.replicate (y-1-k) 0++D m k++ [0]
theorem q35 (m y:Nat) (h:1≤y):(madeCells #[Value.int .u8 0] y).toList=qaX (buf m y 0):=by
 obtain ⟨z,rfl⟩: ∃z,y=z+1:=⟨y-1,by omega⟩;rw [qkA];simp [buf,D,List.replicate_succ']
theorem buf_set (m y k q j:Nat) (hq:m/8^k=q) (hj:j+k+1=y) (h1:1≤j):(qaX (buf m y k)).set (j-1) (.int .u8 (48+(q:Int) %8))=qaX (buf m y (k+1)):=by
 obtain ⟨i,rfl⟩: ∃i,j=i+1:=⟨j-1,by omega⟩;have e1:y-1-k=i+1:=by omega
 have e2:y-1-(k+1)=i:=by omega
 have e3:(48+(q:Int) %8)=((UInt8.ofNat (48+q%8)).toNat:Int):=by rw [UInt8.toNat_ofNat'];omega
 rw [e3,qzT];simp only [buf,e1,e2,q76 _ _ _ hq,List.replicate_succ',List.append_assoc,Nat.add_sub_cancel];rw [List.set_append_right _ _ (by simp)];simp
theorem buf_end (m y:Nat):buf m y (y-1)=D m (y-1)++ [0]:=by simp [buf]
def pick (n m:Int):Int:=(if n<0 then-(n+1)else n) %m
def octW (n x:Int):ByteArray×Int:=if 2≤x∧x≤12∧0≤n∧n≤most x then (⟨(D n.toNat (x.toNat-1)++ [0]).toArray⟩,0)else (⟨#[]⟩,4)
def q19 (x:Int):Int×Int:=if 2≤x∧x≤12 then (most x,0)else (0,4)
theorem qi5 {n x:Int} (h:2≤x∧x≤12) (h':0≤n∧n≤most x):octW n x=(⟨(D n.toNat (x.toNat-1)++ [0]).toArray⟩,0):=if_pos ⟨h.1,h.2,h'.1,h'.2⟩
theorem qmK {n x:Int} (h: ¬(2≤x∧x≤12∧0≤n∧n≤most x)):octW n x=(⟨#[]⟩,4):=if_neg h
theorem qg3 (s:ByteArray) (k:Nat) (h:k<s.size) (d:UInt8):s.data.toList.getD k d=s[k]:=by
 have:k<s.data.toList.length:=by simpa using h
 rw [List.getD_eq_getElem?_getD,List.getElem?_eq_getElem this];rfl
theorem qwT {l:List UInt8} (h: ¬(2≤l.length∧l.length≤12)):octR l=(0,4):=if_neg h
theorem qlJ {l:List UInt8} (h1:2≤l.length∧l.length≤12) (h2:digL (l.take (l.length-1))=true) (h3:l.getD (l.length-1) 1=0):octR l=((qcF (l.take (l.length-1)):Int),0):=by
 unfold octR;rw [if_pos h1,if_pos ⟨h2,h3⟩]
theorem qj7 {l:List UInt8} (h1:2≤l.length∧l.length≤12) (h2: ¬(digL (l.take (l.length-1))=true∧l.getD (l.length-1) 1=0)):octR l=(0,3):=by
 unfold octR;rw [if_pos h1,if_neg h2]
theorem qeC (l:List UInt8) (k n:Nat) (h:k≤n) (hd:digL (l.take k)=false):digL (l.take n)=false:=by
 have e:l.take n=l.take k++(l.take n).drop k:=by
  conv=>lhs;rw [←List.take_append_drop k (l.take n)]
  rw [List.take_take,Nat.min_eq_left h]
 rw [e];simp only [digL,List.all_append]at*;rw [hd];rfl
theorem qmM (c:UInt8) (l:List UInt8):qcF (c::l)=(c.toNat-48)*8^l.length+qcF l:=by
 refine qp2 (p:=fun l=>qcF (c::l)=(c.toNat-48)*8^l.length+qcF l) (by simp [qcF]) (fun l d ih=> ?_) l;rw [←List.cons_append,qd6,ih,qd6,List.length_append,List.length_singleton,Nat.pow_succ,Nat.add_mul,Nat.mul_assoc];omega
theorem qnH (r:Nat) (h:r<8):(UInt8.ofNat (48+r)).toNat=48+r:=by rw [UInt8.toNat_ofNat'];omega
theorem q52 (m j:Nat):qcF (D m j)=m%8^j:=by
 induction j with
 |zero=>simp [D,qcF,Nat.mod_one]
 |succ j ih=>
  rw [D,qmM,ih,D_length,qnH _ (Nat.mod_lt _ (by omega)),Nat.pow_succ,Nat.mod_mul,Nat.add_comm,Nat.mul_comm,Nat.add_sub_cancel_left]
theorem digL_D (m j:Nat):digL (D m j)=true:=by
 induction j with
 |zero=>rfl
 |succ j ih=>
  have:=Nat.mod_lt (m/8^j) (show 0<8 by omega);simp only [digL,D,List.all_cons]at*;rw [ih,qnH _ this];simp;omega
theorem octR_D (m j:Nat) (h1:1≤j) (h2:j≤11) (h:m<8^j):octR (D m j++ [0])=((m:Int),0):=by
 have hl:(D m j++ [0]).length=j+1:=by simp
 have ht:(D m j++ [0]).take ((D m j++ [0]).length-1)=D m j:=by rw [hl];simp
 rw [qlJ (by omega) (by rw [ht];exact digL_D m j) (by rw [hl];simp),ht,q52,Nat.mod_eq_of_lt h]
theorem q55 (x:Int) (h:2≤x) (n:Int) (h0:0≤n) (hn:n≤most x):n.toNat<8^(x.toNat-1):=by
 have e:(8:Int) ^(x.toNat-1)=((8^(x.toNat-1):Nat):Int):=by simp
 unfold most at hn;omega
def pos (c:UInt8) (l:List UInt8):Nat:=(l.takeWhile (· !=c)).length
def hasB (c:UInt8) (l:List UInt8):Bool:=l.any (· ==c)
theorem qcW (c a:UInt8) (l:List UInt8):pos c (a::l)=if a=c then 0 else pos c l+1:=by
 unfold pos;rw [List.takeWhile_cons]
 by_cases h:a=c<;>simp [h]
theorem qcT (c a:UInt8) (l:List UInt8):hasB c (a::l)=((a==c)||hasB c l):=rfl
theorem qeK (c:UInt8) (l:List UInt8):pos c l≤l.length:=by
 induction l with
 |nil=>exact Nat.le_refl _
 |cons a l ih=>rw [qcW,List.length_cons];split<;>omega
theorem qdA (c:UInt8) (l:List UInt8):hasB c l=decide (pos c l<l.length):=by
 induction l with
 |nil=>rfl
 |cons a l ih=>
  rw [qcT,qcW,ih,List.length_cons,Bool.eq_iff_iff]
  by_cases h:a=c
  ·simp [h]
  ·simp [h]
theorem qbZ (c:UInt8) (l:List UInt8):Lib.indexByte l c=if hasB c l=true then (pos c l:Int)else-1:=by
 induction l with
 |nil=>rfl
 |cons a l ih=>
  rw [Lib.indexByte,ih,qcT,qcW]
  by_cases h:a=c
  ·simp [h]
  ·have h':(a==c)=false:=by simpa using h
   by_cases hb:hasB c l=true
   ·simp [h,h',hb]
    try omega
   ·simp [h',hb]
theorem qj0 (c:UInt8) (l:List UInt8) (h:pos c l<l.length):l[pos c l]=c:=by
 induction l with
 |nil=>exact absurd h (by simp)
 |cons a l ih=>
  by_cases e:a=c
  ·have:pos c (a::l)=0:=by rw [qcW,if_pos e]
   simp only [this];exact e
  ·have hp:pos c (a::l)=pos c l+1:=by rw [qcW,if_neg e]
   have h':pos c l<l.length:=by rw [hp,List.length_cons]at h;omega
   have:=ih h';simp [hp,this]
theorem q1L (c:UInt8) (l:List UInt8) (k:Nat) (h:k<pos c l) (hk:k<l.length):l[k]≠c:=by
 induction l generalizing k with
 |nil=>exact absurd hk (by simp)
 |cons a l ih=>
  by_cases e:a=c
  ·rw [qcW,if_pos e]at h;omega
  ·rw [qcW,if_neg e]at h;cases k with
   |zero=>simpa using e
   |succ k=>simpa using ih k (by omega) (by simpa using hk)
theorem qwL (c:UInt8) (l:List UInt8) (k:Nat) (h:k≤pos c l) (hk:k<l.length) (e:l[k]=c):pos c l=k:=by
 rcases Nat.lt_or_eq_of_le h with h'|h'
 ·exact absurd e (q1L c l k h' hk)
 ·exact h'.symm
theorem qwM (c:UInt8) (l:List UInt8) (k:Nat) (h:k≤pos c l) (hk:k<l.length) (e:l[k]≠c):k+1≤pos c l:=by
 rcases Nat.lt_or_eq_of_le h with h'|h'
 ·exact h'
 ·subst h';exact absurd (qj0 c l hk) e
theorem qqF (c:UInt8) (a b:List UInt8) (h:hasB c a=false):pos c (a++b)=a.length+pos c b:=by
 induction a with
 |nil=>simp
 |cons x a ih=>
  rw [qcT,Bool.or_eq_false_iff]at h;rw [List.cons_append,qcW,if_neg (by simpa using h.1),ih h.2,List.length_cons];omega
theorem qq0 (c:UInt8) (a b:List UInt8):hasB c (a++b)=(hasB c a||hasB c b):=by simp [hasB]
theorem q2Z (c:UInt8) (l:List UInt8) (k:Nat) (h:k≤pos c l):hasB c (l.take k)=false:=by
 rw [qdA];have h2:=qeK c l
 have: ¬pos c (l.take k)<(l.take k).length:=by
  intro h1;have hlen:(l.take k).length=k:=by rw [List.length_take];omega
  have e:=qj0 c _ h1;rw [List.getElem_take]at e;exact q1L c l _ (by omega) (by omega) e
 exact decide_eq_false this
def allZ (l:List UInt8):Bool:=l.all (· ==0)
theorem qhZ (l:List UInt8):allZ l=decide (l=List.replicate l.length 0):=by
 unfold allZ;rw [Bool.eq_iff_iff];simp only [List.all_eq_true,beq_iff_eq,decide_eq_true_eq];constructor
 ·intro h;exact List.eq_replicate_iff.2 ⟨rfl,h⟩
 ·intro h b hb;rw [h]at hb;exact (List.mem_replicate.1 hb).2
theorem qkS (l:List UInt8) (k:Nat) (hk:k<l.length) (e:l[k]≠0):allZ l=false:=by
 unfold allZ;rw [←Bool.not_eq_true,List.all_eq_true];intro h;exact e (by simpa using h _ (List.getElem_mem hk))
theorem qrI (l:List UInt8) (h:allZ (l.take l.length)=true):allZ l=true:=by rwa [List.take_length]at h
theorem qnR (l:List UInt8) (c:UInt8):allZ (l++ [c])=(allZ l&&(c==0)):=by simp [allZ]
def bs (l:List UInt8):ByteArray:=⟨l.toArray⟩
theorem qaH (l:List UInt8):(bs l).data.toList=l:=rfl
theorem qaB (l:List UInt8):(bs l).size=l.length:=rfl
theorem qcJ (s:ByteArray):bs s.data.toList=s:=by apply ByteArray.ext;simp [bs]
def zer (n:Nat):ByteArray:=⟨(List.replicate n (0:UInt8)).toArray⟩
theorem qlA (n:Nat):(zer n).size=n:=by rw [zer,qjU,List.length_replicate]
theorem q4J (k:Nat):zer (k+1)=zer k++⟨#[0]⟩:=by
 rw [zer,List.replicate_succ',←qdC];rfl
theorem q0H (s:ByteArray) (n:Nat):s++zer n=⟨(s.data.toList++List.replicate n 0).toArray⟩:=by
 rw [←qdC,zer]
def fldW (l:List UInt8) (x:Int) (whole:Bool):ByteArray×Int:=
 if x<1∨512<x then (⟨#[]⟩,4)
 else if x<l.length∨(whole=false∧x=l.length)then (⟨#[]⟩,1)
 else if hasB 0 l=true then (⟨#[]⟩,3)
 else (⟨(l++List.replicate (x.toNat-l.length) 0).toArray⟩,0)
def fldR (l:List UInt8) (whole:Bool):ByteArray×Int:=
 if l.length<1∨512<l.length then (⟨#[]⟩,4)
 else if (whole=false∧pos 0 l=l.length)∨allZ (l.drop (pos 0 l))=false then (⟨#[]⟩,3)
 else (⟨(l.take (pos 0 l)).toArray⟩,0)
theorem qkJ {l:List UInt8} {x:Int} {wh:Bool} (h:x<1∨512<x):fldW l x wh=(⟨#[]⟩,4):=if_pos h
theorem qm6 {l:List UInt8} {x:Int} {wh:Bool} (h: ¬(x<1∨512<x)) (h2:x<l.length∨(wh=false∧x=l.length)):fldW l x wh=(⟨#[]⟩,1):=by
 rw [fldW,if_neg h,if_pos h2]
theorem qm7 {l:List UInt8} {x:Int} {wh:Bool} (h: ¬(x<1∨512<x)) (h2: ¬(x<l.length∨(wh=false∧x=l.length))) (h3:hasB 0 l=true):fldW l x wh=(⟨#[]⟩,3):=by
 rw [fldW,if_neg h,if_neg h2,if_pos h3]
theorem qq1 {l:List UInt8} {x:Int} {wh:Bool} (h: ¬(x<1∨512<x)) (h2: ¬(x<l.length∨(wh=false∧x=l.length))) (h3:hasB 0 l=false):fldW l x wh=(⟨(l++List.replicate (x.toNat-l.length) 0).toArray⟩,0):=by
 rw [fldW,if_neg h,if_neg h2,if_neg (by simp [h3])]
theorem qo5 {l:List UInt8} {wh:Bool} (h:l.length<1∨512<l.length):fldR l wh=(⟨#[]⟩,4):=if_pos h
theorem qfA {l:List UInt8} {wh:Bool} (h: ¬(l.length<1∨512<l.length)) (h2:(wh=false∧pos 0 l=l.length)∨allZ (l.drop (pos 0 l))=false):fldR l wh=(⟨#[]⟩,3):=by
 rw [fldR,if_neg h,if_pos h2]
theorem qkK {l:List UInt8} {wh:Bool} (h: ¬(l.length<1∨512<l.length)) (h2: ¬(wh=false∧pos 0 l=l.length)) (h3:allZ (l.drop (pos 0 l))=true):fldR l wh=(⟨(l.take (pos 0 l)).toArray⟩,0):=by
 rw [fldR,if_neg h,if_neg (by rintro (a|a);exact h2 a;rw [h3]at a;cases a)]
theorem qtA (s:ByteArray) (k:Nat) (h:k<s.size):s.data.toList[k]'(by simpa using h)=s[k]:=rfl
def inT (a b:Int):Bool:=decide (-1099511627776≤a∧a≤1099511627776∧0≤b∧b≤999999999)
theorem q7W {a b:Int} (h: -1099511627776≤a∧a≤1099511627776∧0≤b∧b≤999999999):inT a b=true:=decide_eq_true h
theorem q7V {a b:Int} (h: ¬(-1099511627776≤a∧a≤1099511627776∧0≤b∧b≤999999999)):inT a b=false:=decide_eq_false h
theorem qw4 {a b:Int} (h:inT a b=true): -1099511627776≤a∧a≤1099511627776∧0≤b∧b≤999999999:=of_decide_eq_true h
structure MetaV where
 mode:Int
 uid:Int
 gid:Int
 user:List UInt8
 group:List UInt8
 second:Int
 nano:Int
def mdB (n:Int):Bool:=decide (0≤n∧n≤4095)
theorem mdB_yes {n:Int} (h:0≤n∧n≤4095):mdB n=true:=decide_eq_true h
theorem q7S {n:Int} (h: ¬(0≤n∧n≤4095)):mdB n=false:=decide_eq_false h
theorem mdB_of {n:Int} (h:mdB n=true):0≤n∧n≤4095:=of_decide_eq_true h
theorem mdB_off {n:Int} (h:mdB n=false): ¬(0≤n∧n≤4095):=of_decide_eq_false h
def idB (n:Int):Bool:=decide (0≤n∧n≤1125899906842624)
theorem idB_yes {n:Int} (h:0≤n∧n≤1125899906842624):idB n=true:=decide_eq_true h
theorem q70 {n:Int} (h: ¬(0≤n∧n≤1125899906842624)):idB n=false:=decide_eq_false h
theorem q7Z {n:Int} (h:idB n=true):0≤n∧n≤1125899906842624:=of_decide_eq_true h
theorem q2X {n:Int} (h:idB n=false): ¬(0≤n∧n≤1125899906842624):=of_decide_eq_false h
def inE (a b:Int):Int:=if inT a b=true then 0 else 4
def metE (m:MetaV):Int:=
 if (mdB m.mode&&idB m.uid&&idB m.gid)=true then
  if 60<m.user.length∨60<m.group.length then 1
  else if (hasB 0 m.user||hasB 0 m.group)=true then 3
  else inE m.second m.nano
 else 4
theorem qhR {m:MetaV} (h:(mdB m.mode&&idB m.uid&&idB m.gid)=false):metE m=4:=if_neg (by rw [h];decide)
theorem qi7 {m:MetaV} (h:(mdB m.mode&&idB m.uid&&idB m.gid)=true) (h2:60<m.user.length∨60<m.group.length):metE m=1:=by
 unfold metE;rw [if_pos h,if_pos h2]
theorem qi8 {m:MetaV} (h:(mdB m.mode&&idB m.uid&&idB m.gid)=true) (h2: ¬(60<m.user.length∨60<m.group.length)) (h3:(hasB 0 m.user||hasB 0 m.group)=true):metE m=3:=by
 unfold metE;rw [if_pos h,if_neg h2,if_pos h3]
theorem qsZ {m:MetaV} (h:(mdB m.mode&&idB m.uid&&idB m.gid)=true) (h2: ¬(60<m.user.length∨60<m.group.length)) (h3:(hasB 0 m.user||hasB 0 m.group)=false):metE m=inE m.second m.nano:=by
 unfold metE;rw [if_pos h,if_neg h2,if_neg (by rw [h3];decide)]
structure NodeV where
 path:List UInt8
 kind:Int
 same:Int
 target:List UInt8
 md:MetaV
 data:List UInt8
instance:Inhabited NodeV:=⟨⟨[],0,0, [],⟨0,0,0, [], [],0,0⟩, []⟩⟩
def inB (s d:List UInt8):Bool:=if d= []then !decide (s= [])else decide (d++ [47]<+:s)
theorem q2W (s:List UInt8):inB s []= !decide (s= []):=rfl
theorem q7X {s d:List UInt8} (h:d≠ []):inB s d=decide (d++ [47]<+:s):=if_neg h
theorem q5Q (d s:List UInt8) (c:UInt8) (h:d.length<s.length):d++ [c]<+:s↔(s.take d.length=d∧s[d.length]=c):=by
 constructor
 ·rintro ⟨t,rfl⟩;simp
 ·rintro ⟨e,hc⟩;refine ⟨s.drop (d.length+1),?_⟩
  conv=>rhs;rw [←List.take_append_drop d.length s,e,List.drop_eq_getElem_cons h,hc]
  simp
theorem q1K (d s:List UInt8) (c:UInt8) (h: ¬d.length<s.length): ¬(d++ [c]<+:s):=fun e=>by
 have:=e.length_le;simp at this;omega
def rk (c:UInt8):Int:=if c=47 then-1 else (c.toNat:Int)
def sgn (a b:Int):Int:=if a<b then-1 else if b<a then 1 else 0
theorem qlE (a:Int):sgn a a=0:=by unfold sgn;rw [if_neg (by omega),if_neg (by omega)]
theorem ql2 {a b:Int} (h:a<b):sgn a b= -1:=if_pos h
theorem qoE {a b:Int} (h:b<a):sgn a b=1:=by unfold sgn;rw [if_neg (by omega),if_pos h]
theorem q7P {a b:Int} (h1: ¬a<b) (h2: ¬b<a):sgn a b=0:=by unfold sgn;rw [if_neg h1,if_neg h2]
theorem q0W {a b:UInt8} (h:rk a=rk b):a=b:=by
 unfold rk at h
 split at h<;>split at h
 ·subst_vars;rfl
 ·omega
 ·omega
 ·exact UInt8.toNat_inj.1 (by omega)
def pcmp:List UInt8→List UInt8→Int
 | [], []=>0
 | [],_::_=> -1
 |_::_, []=>1
 |x::a,y::b=>if x=y then pcmp a b else sgn (rk x) (rk y)
theorem qfS (y:UInt8) (b:List UInt8):pcmp [] (y::b)= -1:=by rw [pcmp]
theorem qc5 (x:UInt8) (a:List UInt8):pcmp (x::a) []=1:=by rw [pcmp]
theorem qgR:pcmp [] []=0:=by rw [pcmp]
theorem qdP (x y:UInt8) (a b:List UInt8):pcmp (x::a) (y::b)=if x=y then pcmp a b else sgn (rk x) (rk y):=by rw [pcmp]
theorem qwN (p a b:List UInt8):pcmp (p++a) (p++b)=pcmp a b:=by
 induction p with
 |nil=>rfl
 |cons x p ih=>rw [List.cons_append,List.cons_append,qdP,if_pos rfl,ih]
theorem qyK (a b:List UInt8) (h:a= []∨b= []):pcmp a b=sgn a.length b.length:=by
 rcases h with rfl|rfl
 ·cases b with
  |nil=>rw [qgR];exact (qlE _).symm
  |cons y b=>rw [qfS,ql2 (by simp)]
 ·cases a with
  |nil=>rw [qgR];exact (qlE _).symm
  |cons y b=>rw [qc5,qoE (by simp)]
theorem q5U (a b:List UInt8) (k:Nat) (he:a.take k=b.take k) (ha:k≤a.length) (hb:k≤b.length) (h:k=a.length∨k=b.length):pcmp a b=sgn a.length b.length:=by
 have e1:a=a.take k++a.drop k:=(List.take_append_drop k a).symm;have e2:b=a.take k++b.drop k:=by rw [he];exact (List.take_append_drop k b).symm
 have l1:(a.drop k).length=a.length-k:=List.length_drop ..;have l2:(b.drop k).length=b.length-k:=List.length_drop ..
 have:pcmp a b=pcmp (a.drop k) (b.drop k):=by
  conv=>lhs;rw [e1,e2]
  exact qwN _ _ _
 rw [this,qyK _ _ (by rcases h with h|h;exact .inl (List.eq_nil_of_length_eq_zero (by omega));exact .inr (List.eq_nil_of_length_eq_zero (by omega))),l1,l2];unfold sgn
 by_cases c1:(a.length:Int)<b.length
 ·rw [if_pos c1,if_pos (by omega)]
 ·rw [if_neg c1,if_neg (by omega)]
  by_cases c2:(b.length:Int)<a.length
  ·rw [if_pos c2,if_pos (by omega)]
  ·rw [if_neg c2,if_neg (by omega)]
theorem pcmp_at (a b:List UInt8) (k:Nat) (he:a.take k=b.take k) (ha:k<a.length) (hb:k<b.length) (h:a[k]≠b[k]):pcmp a b=sgn (rk a[k]) (rk b[k]):=by
 have e1:a=a.take k++a[k]::a.drop (k+1):=by rw [←List.drop_eq_getElem_cons ha];exact (List.take_append_drop k a).symm
 have e2:b=a.take k++b[k]::b.drop (k+1):=by rw [←List.drop_eq_getElem_cons hb,he];exact (List.take_append_drop k b).symm
 have:pcmp a b=pcmp (a[k]::a.drop (k+1)) (b[k]::b.drop (k+1)):=by
  conv=>lhs;rw [e1,e2]
  exact qwN _ _ _
 rw [this,qdP,if_neg h]
theorem sgn_neg (a b:Int):sgn b a= -sgn a b:=by
 unfold sgn
 by_cases c1:a<b
 ·rw [if_pos c1,if_neg (by omega),if_pos c1];rfl
 ·rw [if_neg c1]
  by_cases c2:b<a
  ·rw [if_pos c2,if_neg c1,if_pos c2]
  ·rw [if_neg c2,if_neg c1,if_neg c2];rfl
theorem qiQ (a b:Int):(sgn a b= -1∧a<b)∨(sgn a b=0∧a=b)∨(sgn a b=1∧b<a):=by
 unfold sgn
 by_cases c1:a<b
 ·rw [if_pos c1];exact .inl ⟨rfl,c1⟩
 ·rw [if_neg c1]
  by_cases c2:b<a
  ·rw [if_pos c2];exact .inr (.inr ⟨rfl,c2⟩)
  ·rw [if_neg c2];exact .inr (.inl ⟨rfl,by omega⟩)
theorem q5T (a b:List UInt8):pcmp b a= -pcmp a b:=by
 induction a generalizing b with
 |nil=>cases b<;>simp [pcmp]
 |cons x a ih=>
  cases b with
  |nil=>simp [pcmp]
  |cons y b=>
   rw [qdP,qdP]
   by_cases h:x=y
   ·rw [if_pos h,if_pos h.symm,ih]
   ·rw [if_neg h,if_neg (fun e=>h e.symm),sgn_neg]
theorem quR (a b:List UInt8): -1≤pcmp a b∧pcmp a b≤1:=by
 induction a generalizing b with
 |nil=>cases b<;>simp [pcmp]
 |cons x a ih=>
  cases b with
  |nil=>simp [pcmp]
  |cons y b=>
   rw [qdP]
   by_cases h:x=y
   ·rw [if_pos h];exact ih b
   ·rw [if_neg h];rcases qiQ (rk x) (rk y)with ⟨e,_⟩|⟨e,_⟩|⟨e,_⟩<;>rw [e]<;>omega
theorem qsR (a b:List UInt8):pcmp a b=0↔a=b:=by
 induction a generalizing b with
 |nil=>cases b<;>simp [pcmp]
 |cons x a ih=>
  cases b with
  |nil=>simp [pcmp]
  |cons y b=>
   rw [qdP]
   by_cases h:x=y
   ·rw [if_pos h,ih];simp [h]
   ·rw [if_neg h];have hr:rk x≠rk y:=fun e=>h (q0W e);rcases qiQ (rk x) (rk y)with ⟨e,_⟩|⟨_,e⟩|⟨e,_⟩
    ·rw [e];simp [h]
    ·exact absurd e hr
    ·rw [e];simp [h]
theorem qyJ (a b c:List UInt8) (h1:pcmp a b≤0) (h2:pcmp b c≤0):pcmp a c≤0:=by
 induction a generalizing b c with
 |nil=>cases c<;>simp [pcmp]
 |cons x a ih=>
  cases b with
  |nil=>rw [qc5]at h1;omega
  |cons y b=>
   cases c with
   |nil=>rw [qc5]at h2;omega
   |cons z c=>
    rw [qdP]at h1 h2⊢
    by_cases e1:x=y
    ·subst e1;rw [if_pos rfl]at h1
     by_cases e2:x=z
     ·subst e2;rw [if_pos rfl]at h2⊢;exact ih b c h1 h2
     ·rw [if_neg e2]at h2⊢;exact h2
    ·rw [if_neg e1]at h1;have hr:rk x≠rk y:=fun e=>e1 (q0W e);have l1:rk x<rk y:=by rcases qiQ (rk x) (rk y)with ⟨_,e⟩|⟨_,e⟩|⟨e,_⟩<;>omega
     by_cases e2:y=z
     ·subst e2;rw [if_neg e1];exact h1
     ·rw [if_neg e2]at h2
      have l2:rk y<rk z:=by
       have hr2:rk y≠rk z:=fun e=>e2 (q0W e);rcases qiQ (rk y) (rk z)with ⟨_,e⟩|⟨_,e⟩|⟨e,_⟩<;>omega
      rw [if_neg (by intro e;subst e;omega),ql2 (by omega)];omega
theorem q1N (a:List UInt8):pcmp a a=0:=(qsR a a).2 rfl
def qa3 (a:UInt8):List (List UInt8)→List (List UInt8)
 | []=> [[a]]
 |h::t=>(a::h)::t
def qaK (c:UInt8):List UInt8→List (List UInt8)
 | []=> [[]]
 |a::l=>if a=c then []::qaK c l else qa3 a (qaK c l)
def qdV (a:UInt8):List (List UInt8)→List (List UInt8)
 | []=> [[a]]
 | [h]=> [h++ [a]]
 |h::t::r=>h::qdV a (t::r)
theorem qhP (c:UInt8):qaK c []= [[]]:=rfl
theorem qa0 (c a:UInt8) (l:List UInt8):qaK c (a::l)=if a=c then []::qaK c l else qa3 a (qaK c l):=rfl
theorem qu5 (a:UInt8) (l:List (List UInt8)):qa3 a l≠ []:=by cases l<;>simp [qa3]
theorem qa4 (c:UInt8) (l:List UInt8):qaK c l≠ []:=by
 cases l with
 |nil=>simp [qaK]
 |cons a l=>
  rw [qa0]
  by_cases h:a=c
  ·rw [if_pos h];simp
  ·rw [if_neg h];exact qu5 _ _
theorem qyN (c:UInt8) (l:List UInt8):1≤(qaK c l).length:=by
 have:=qa4 c l;rcases h:qaK c l with _|⟨x,y⟩
 ·exact absurd h this
 ·simp
theorem qmX (a:UInt8) (l:List (List UInt8)) (h:l≠ []):(qa3 a l).length=l.length:=by
 cases l with
 |nil=>exact absurd rfl h
 |cons x l=>rfl
theorem qdU (c:UInt8) (l:List UInt8):(qaK c l).length=l.count c+1:=by
 induction l with
 |nil=>rfl
 |cons a l ih=>
  rw [qa0,List.count_cons]
  by_cases h:a=c
  ·subst h;rw [if_pos rfl,List.length_cons,ih];simp
  ·rw [if_neg h,qmX _ _ (qa4 c l),ih];have:(a==c)=false:=by simpa using h
   rw [this];simp
theorem qe4 (c:UInt8) (l:List UInt8):(qaK c l).length≤l.length+1:=by
 rw [qdU];have:=List.count_le_length (l:=l) (a:=c);omega
theorem qnX (c:UInt8) (l:List UInt8):qaK c (l++ [c])=qaK c l++ [[]]:=by
 induction l with
 |nil=>simp [qaK]
 |cons a l ih=>
  rw [List.cons_append,qa0,qa0,ih]
  by_cases h:a=c
  ·rw [if_pos h,if_pos h];rfl
  ·rw [if_neg h,if_neg h];cases hp:qaK c l with
   |nil=>exact absurd hp (qa4 c l)
   |cons x y=>rfl
theorem qjA (a:UInt8) (x:List UInt8) (l:List (List UInt8)) (h:l≠ []):qdV a (x::l)=x::qdV a l:=by
 cases l with
 |nil=>exact absurd rfl h
 |cons y l=>rfl
theorem qqO (a b:UInt8) (l:List (List UInt8)) (h:l≠ []):qdV a (qa3 b l)=qa3 b (qdV a l):=by
 cases l with
 |nil=>exact absurd rfl h
 |cons x l=>
  cases l with
  |nil=>rfl
  |cons y l=>rfl
theorem qnW (c a:UInt8) (l:List UInt8) (h:a≠c):qaK c (l++ [a])=qdV a (qaK c l):=by
 induction l with
 |nil=>simp [qaK,h,qa3,qdV]
 |cons b l ih=>
  rw [List.cons_append,qa0,qa0,ih]
  by_cases hb:b=c
  ·rw [if_pos hb,if_pos hb,qjA _ _ _ (qa4 c l)]
  ·rw [if_neg hb,if_neg hb,qqO _ _ _ (qa4 c l)]
theorem qk0 (a:UInt8) (l:List (List UInt8)) (n:Nat) (h:l.length=n+1):qdV a l=l.set n (l.getD n []++ [a]):=by
 induction l generalizing n with
 |nil=>simp at h
 |cons x l ih=>
  cases l with
  |nil=>
   have:n=0:=by simpa using h.symm
   subst this;rfl
  |cons y l=>
   obtain ⟨m,rfl⟩: ∃m,n=m+1:=⟨n-1,by simp at h;omega⟩;rw [qjA _ _ _ (by simp),ih m (by simpa using h)];rfl
theorem qs7 (a:UInt8) (l:List (List UInt8)) (n:Nat) (h: ∀x∈l,x.length≤n): ∀x∈qa3 a l,x.length≤n+1:=by
 cases l with
 |nil=>intro x hx;simp [qa3]at hx;subst hx;simp
 |cons y l=>
  intro x hx;simp only [qa3,List.mem_cons]at hx;rcases hx with rfl|hx
  ·have:=h y (by simp);simp;omega
  ·have:=h x (by simp [hx]);omega
theorem qyO (c:UInt8) (l:List UInt8): ∀x∈qaK c l,x.length≤l.length:=by
 induction l with
 |nil=>intro x hx;simp [qaK]at hx;subst hx;exact Nat.le_refl _
 |cons a l ih=>
  rw [qa0]
  by_cases h:a=c
  ·rw [if_pos h];intro x hx;rcases List.mem_cons.1 hx with rfl|hx
   ·simp
   ·have:=ih x hx;simp;omega
  ·rw [if_neg h];exact qs7 a _ _ ih
theorem qmH (c:UInt8) (l:List UInt8) (j:Nat):((qaK c l).getD j []).length≤l.length:=by
 rw [List.getD_eq_getElem?_getD]
 by_cases h:j<(qaK c l).length
 ·rw [List.getElem?_eq_getElem h];exact qyO c l _ (List.getElem_mem h)
 ·rw [List.getElem?_eq_none (by omega)];simp
def strV (l:List UInt8):Value:= .string ⟨l.toArray⟩
def strC (ls:List (List UInt8)):List Value:=ls.map strV
@[simp] theorem strC_length (ls:List (List UInt8)):(strC ls).length=ls.length:=by simp [strC]
theorem q4S (a b:List (List UInt8)):strC (a++b)=strC a++strC b:=by simp [strC]
theorem q4Q (ls:List (List UInt8)) (i:Nat) (x:List UInt8):(strC ls).set i (strV x)=strC (ls.set i x):=by simp [strC,List.map_set]
theorem q4R (ls:List (List UInt8)) (j:Nat) (h:j<ls.length):(strC ls)[j]?=some (strV (ls.getD j [])):=by
 simp [strC,List.getD_eq_getElem?_getD,h]
def qfG (x y:List UInt8):Bool:=Op.bytesLess x y
def lcmp:List (List UInt8)→List (List UInt8)→Int
 | [], []=>0
 | [],_::_=> -1
 |_::_, []=>1
 |x::a,y::b=>if qfG x y=true then-1 else if qfG y x=true then 1 else lcmp a b
theorem qnO (x:List UInt8):qfG x []=false:=by cases x<;>rfl
theorem qdH (y:UInt8) (l:List UInt8):qfG [] (y::l)=true:=rfl
theorem qpN (a b:UInt8) (x y:List UInt8):qfG (a::x) (b::y)=(decide (a<b)||(a==b&&qfG x y)):=rfl
theorem qhX (a:UInt8) (x y:List UInt8):qfG (a::x) (a::y)=qfG x y:=by
 rw [qpN];have: ¬a<a:=UInt8.lt_irrefl a;simp [this]
theorem qzR (x:List UInt8):qfG x x=false:=by
 induction x with
 |nil=>rfl
 |cons a x ih=>rw [qhX,ih]
theorem qhY (a b:UInt8) (x y:List UInt8) (h:a≠b):qfG (a::x) (b::y)=decide (a<b):=by
 rw [qpN];simp [h]
theorem qfY (y:List UInt8) (b:List (List UInt8)):lcmp [] (y::b)= -1:=by rw [lcmp]
theorem qfZ (x:List UInt8) (a:List (List UInt8)):lcmp (x::a) []=1:=by rw [lcmp]
theorem qgY:lcmp [] []=0:=by rw [lcmp]
theorem qc8 (x y:List UInt8) (a b:List (List UInt8)):lcmp (x::a) (y::b)=if qfG x y=true then-1 else if qfG y x=true then 1 else lcmp a b:=by rw [lcmp]
theorem qgX (x:List UInt8) (a b:List (List UInt8)):lcmp (x::a) (x::b)=lcmp a b:=by rw [qc8,qzR];simp
theorem q2P (a:UInt8) (P Q:List (List UInt8)) (hp:P≠ []) (hq:Q≠ []):lcmp (qa3 a P) (qa3 a Q)=lcmp P Q:=by
 cases P with
 |nil=>exact absurd rfl hp
 |cons x P=>
  cases Q with
  |nil=>exact absurd rfl hq
  |cons y Q=>rw [qa3,qa3,qc8,qc8,qhX,qhX]
theorem qy2 (a b:UInt8) (P Q:List (List UInt8)) (hp:P≠ []) (hq:Q≠ []) (h:a≠b):lcmp (qa3 a P) (qa3 b Q)=sgn (a.toNat:Int) (b.toNat:Int):=by
 cases P with
 |nil=>exact absurd rfl hp
 |cons x P=>
  cases Q with
  |nil=>exact absurd rfl hq
  |cons y Q=>
   rw [qa3,qa3,qc8,qhY _ _ _ _ h,qhY _ _ _ _ (fun e=>h e.symm)];have hn:a.toNat≠b.toNat:=fun e=>h (UInt8.toNat_inj.1 e);simp only [decide_eq_true_eq,UInt8.lt_iff_toNat_lt]
   by_cases hl:a.toNat<b.toNat
   ·rw [if_pos hl,ql2 (by omega)]
   ·rw [if_neg hl,if_pos (by omega),qoE (by omega)]
def pp (l:List UInt8):List (List UInt8):=if l= []then []else qaK 47 l
theorem qwK:pp []= []:=rfl
theorem pp_ne {l:List UInt8} (h:l≠ []):pp l=qaK 47 l:=if_neg h
theorem qqC (a:UInt8) (l:List UInt8):pp (a::l)=qaK 47 (a::l):=if_neg (by simp)
theorem qv8:rk 47= -1:=rfl
theorem qlF {c:UInt8} (h:c≠47):rk c=(c.toNat:Int):=if_neg h
theorem qy1 (a b:List UInt8):lcmp (qaK 47 a) (qaK 47 b)=pcmp a b:=by
 induction a generalizing b with
 |nil=>
  cases b with
  |nil=>rw [qhP,qgX,qgY,qgR]
  |cons y b=>
   rw [qhP,qa0,qfS]
   by_cases h:y=47
   ·rw [if_pos h,qgX];rcases hp:qaK 47 b with _|⟨u,v⟩
    ·exact absurd hp (qa4 _ _)
    ·exact qfY _ _
   ·rw [if_neg h];rcases hp:qaK 47 b with _|⟨u,v⟩
    ·exact absurd hp (qa4 _ _)
    ·rw [qa3,qc8,qdH];simp
 |cons x a ih=>
  cases b with
  |nil=>
   rw [qhP,qa0,qc5]
   by_cases h:x=47
   ·rw [if_pos h,qgX];rcases hp:qaK 47 a with _|⟨u,v⟩
    ·exact absurd hp (qa4 _ _)
    ·exact qfZ _ _
   ·rw [if_neg h];rcases hp:qaK 47 a with _|⟨u,v⟩
    ·exact absurd hp (qa4 _ _)
    ·rw [qa3,qc8,qnO,qdH];simp
  |cons y b=>
   rw [qa0,qa0,qdP]
   by_cases hx:x=47
   ·subst hx;rw [if_pos rfl]
    by_cases hy:y=47
    ·subst hy;rw [if_pos rfl,if_pos rfl,qgX,ih]
    ·rw [if_neg hy,if_neg (fun e=>hy e.symm),qv8,qlF hy,ql2 (by omega)];rcases hp:qaK 47 b with _|⟨u,v⟩
     ·exact absurd hp (qa4 _ _)
     ·rw [qa3,qc8,qdH];simp
   ·rw [if_neg hx]
    by_cases hy:y=47
    ·subst hy;rw [if_pos rfl,if_neg hx,qv8,qlF hx,qoE (by omega)];rcases hp:qaK 47 a with _|⟨u,v⟩
     ·exact absurd hp (qa4 _ _)
     ·rw [qa3,qc8,qnO,qdH];simp
    ·rw [if_neg hy]
     by_cases e:x=y
     ·subst e;rw [if_pos rfl,q2P _ _ _ (qa4 _ _) (qa4 _ _),ih]
     ·rw [if_neg e,qy2 _ _ _ _ (qa4 _ _) (qa4 _ _) e,qlF hx,qlF hy]
theorem lcmp_pp (a b:List UInt8):lcmp (pp a) (pp b)=pcmp a b:=by
 cases a with
 |nil=>
  cases b with
  |nil=>rfl
  |cons y b=>
   rw [qwK,qqC,qfS];rcases hp:qaK 47 (y::b)with _|⟨u,v⟩
   ·exact absurd hp (qa4 _ _)
   ·exact qfY _ _
 |cons x a=>
  cases b with
  |nil=>
   rw [qwK,qqC,qc5];rcases hp:qaK 47 (x::a)with _|⟨u,v⟩
   ·exact absurd hp (qa4 _ _)
   ·exact qfZ _ _
  |cons y b=>rw [qqC,qqC,qy1]
theorem qwX (p a b:List (List UInt8)):lcmp (p++a) (p++b)=lcmp a b:=by
 induction p with
 |nil=>rfl
 |cons x p ih=>rw [List.cons_append,List.cons_append,qgX,ih]
theorem qy0 (a b:List (List UInt8)) (h:a= []∨b= []):lcmp a b=sgn a.length b.length:=by
 rcases h with rfl|rfl
 ·cases b with
  |nil=>rw [qgY];exact (qlE _).symm
  |cons y b=>rw [qfY,ql2 (by simp)]
 ·cases a with
  |nil=>rw [qgY];exact (qlE _).symm
  |cons y b=>rw [qfZ,qoE (by simp)]
theorem qwW (a b:List (List UInt8)) (k:Nat) (he:a.take k=b.take k) (ha:k≤a.length) (hb:k≤b.length) (h:k=a.length∨k=b.length):lcmp a b=sgn a.length b.length:=by
 have e1:a=a.take k++a.drop k:=(List.take_append_drop k a).symm;have e2:b=a.take k++b.drop k:=by rw [he];exact (List.take_append_drop k b).symm
 have l1:(a.drop k).length=a.length-k:=List.length_drop ..;have l2:(b.drop k).length=b.length-k:=List.length_drop ..
 have:lcmp a b=lcmp (a.drop k) (b.drop k):=by
  conv=>lhs;rw [e1,e2]
  exact qwX _ _ _
 rw [this,qy0 _ _ (by rcases h with h|h;exact .inl (List.eq_nil_of_length_eq_zero (by omega));exact .inr (List.eq_nil_of_length_eq_zero (by omega))),l1,l2];unfold sgn
 by_cases c1:(a.length:Int)<b.length
 ·rw [if_pos c1,if_pos (by omega)]
 ·rw [if_neg c1,if_neg (by omega)]
  by_cases c2:(b.length:Int)<a.length
  ·rw [if_pos c2,if_pos (by omega)]
  ·rw [if_neg c2,if_neg (by omega)]
theorem q2Q (a b:List (List UInt8)) (k:Nat) (he:a.take k=b.take k) (ha:k<a.length) (hb:k<b.length):
  lcmp a b=if qfG a[k] b[k]=true then-1 else if qfG b[k] a[k]=true then 1 else lcmp (a.drop (k+1)) (b.drop (k+1)):=by
 have e1:a=a.take k++a[k]::a.drop (k+1):=by rw [←List.drop_eq_getElem_cons ha];exact (List.take_append_drop k a).symm
 have e2:b=a.take k++b[k]::b.drop (k+1):=by rw [←List.drop_eq_getElem_cons hb,he];exact (List.take_append_drop k b).symm
 have:lcmp a b=lcmp (a[k]::a.drop (k+1)) (b[k]::b.drop (k+1)):=by
  conv=>lhs;rw [e1,e2]
  exact qwX _ _ _
 rw [this,qc8]
theorem qvM (x y:List UInt8) (h1:qfG x y=false) (h2:qfG y x=false):x=y:=by
 induction x generalizing y with
 |nil=>
  cases y with
  |nil=>rfl
  |cons b y=>rw [qdH]at h1;cases h1
 |cons a x ih=>
  cases y with
  |nil=>rw [qdH]at h2;cases h2
  |cons b y=>
   by_cases e:a=b
   ·subst e;rw [qhX]at h1 h2;rw [ih y h1 h2]
   ·rw [qhY _ _ _ _ e]at h1;rw [qhY _ _ _ _ (fun h=>e h.symm)]at h2;have h1':=of_decide_eq_false h1;have h2':=of_decide_eq_false h2;rw [UInt8.lt_iff_toNat_lt]at h1' h2';exact absurd (UInt8.toNat_inj.1 (by omega)) e
theorem qdK (ls:List (List UInt8)) (k:Nat) (h:k<ls.length):ls.take (k+1)=ls.take k++ [ls.getD k []]:=by
 rw [List.take_succ_eq_append_getElem h,List.getD_eq_getElem?_getD,List.getElem?_eq_getElem h];rfl
theorem q2O (a b:List (List UInt8)) (k:Nat) (he:a.take k=b.take k) (ha:k<a.length) (hb:k<b.length):
  (qfG (a.getD k []) (b.getD k [])=true→lcmp a b= -1)∧(qfG (a.getD k []) (b.getD k [])=false→a.getD k []≠b.getD k []→lcmp a b=1)∧(a.getD k []=b.getD k []→a.take (k+1)=b.take (k+1)):=by
 have ga:a.getD k []=a[k]:=by rw [List.getD_eq_getElem?_getD,List.getElem?_eq_getElem ha];rfl
 have gb:b.getD k []=b[k]:=by rw [List.getD_eq_getElem?_getD,List.getElem?_eq_getElem hb];rfl
 rw [ga,gb];refine ⟨fun h=> ?_,fun h hne=> ?_,fun h=> ?_⟩
 ·rw [q2Q a b k he ha hb,if_pos h]
 ·rw [q2Q a b k he ha hb,if_neg (by rw [h];simp),if_pos];cases h2:qfG b[k] a[k]
  ·exact absurd (qvM _ _ h h2) hne
  ·rfl
 ·rw [qdK a k ha,qdK b k hb,he,ga,gb,h]
theorem qs8 (a:UInt8) (l m:List (List UInt8)) (h:l≠ []):qa3 a (l++m)=qa3 a l++m:=by
 cases l with
 |nil=>exact absurd rfl h
 |cons x l=>rfl
theorem qoR (c:UInt8) (a b:List UInt8):qaK c (a++c::b)=qaK c a++qaK c b:=by
 induction a with
 |nil=>rw [List.nil_append,qa0,if_pos rfl,qhP];rfl
 |cons x a ih=>
  rw [List.cons_append,qa0,qa0,ih]
  by_cases h:x=c
  ·rw [if_pos h,if_pos h];rfl
  ·rw [if_neg h,if_neg h,qs8 _ _ _ (qa4 c a)]
theorem qfU (c:UInt8) (l:List UInt8) (h:hasB c l=false):qaK c l= [l]:=by
 induction l with
 |nil=>rfl
 |cons x l ih=>
  rw [qcT,Bool.or_eq_false_iff]at h;have hx:x≠c:=by simpa using h.1
  rw [qa0,if_neg hx,ih h.2];rfl
def qgI:List (List UInt8)→List UInt8
 | []=> []
 | [x]=>x
 |x::y::r=>x++47::qgI (y::r)
theorem qe7 (x:List UInt8) (l:List (List UInt8)) (h:l≠ []):qgI (x::l)=x++47::qgI l:=by
 cases l with
 |nil=>exact absurd rfl h
 |cons y l=>rfl
theorem qzA (a:UInt8) (l:List (List UInt8)) (h:l≠ []):qgI (qa3 a l)=a::qgI l:=by
 cases l with
 |nil=>exact absurd rfl h
 |cons x l=>
  cases l with
  |nil=>rfl
  |cons y l=>rfl
theorem qmR (l:List UInt8):qgI (qaK 47 l)=l:=by
 induction l with
 |nil=>rfl
 |cons x l ih=>
  rw [qa0]
  by_cases h:x=47
  ·rw [if_pos h,qe7 _ _ (qa4 _ _),ih,h];rfl
  ·rw [if_neg h,qzA _ _ (qa4 _ _),ih]
theorem qy9 (ls:List (List UInt8)) (x:List UInt8) (h:ls≠ []):qgI (ls++ [x])=qgI ls++47::x:=by
 induction ls with
 |nil=>exact absurd rfl h
 |cons y ls ih=>
  by_cases h2:ls= []
  ·subst h2;rfl
  ·rw [List.cons_append,qe7 _ _ (by simp),ih h2,qe7 _ _ h2];simp
theorem qqR (ls:List (List UInt8)) (k:Nat):(qgI (ls.take k)).length≤(qgI ls).length:=by
 induction ls generalizing k with
 |nil=>simp
 |cons x ls ih=>
  cases k with
  |zero=>simp [qgI]
  |succ k=>
   rw [List.take_succ_cons]
   by_cases h:ls= []
   ·subst h;simp
   ·rw [qe7 x ls h]
    by_cases h2:ls.take k= []
    ·rw [h2];simp [qgI]
    ·rw [qe7 _ _ h2];have:=ih k;simp only [List.length_append,List.length_cons];omega
def upL (l:List UInt8):List UInt8:=qgI (qaK 47 l).dropLast
def qrH (l:List UInt8):List UInt8:=(qaK 47 l).getLast (qa4 47 l)
theorem qxT (l a b:List UInt8) (h:hasB 47 b=false) (e:l=a++47::b):upL l=a∧qrH l=b:=by
 have hp:qaK 47 l=qaK 47 a++ [b]:=by rw [e,qoR,qfU 47 b h]
 refine ⟨?_,?_⟩
 ·unfold upL;rw [hp,List.dropLast_concat,qmR]
 ·unfold qrH;simp [hp]
theorem qrR (l:List UInt8) (h:hasB 47 l=false):upL l= []∧qrH l=l:=by
 have hp:=qfU 47 l h;refine ⟨?_,?_⟩
 ·unfold upL;rw [hp];rfl
 ·unfold qrH;simp [hp]
theorem qhS (c:UInt8) (l:List UInt8):hasB c l=false↔ ∀x∈l,x≠c:=by
 unfold hasB;simp
theorem qy3 (s:ByteArray):(Lib.lastIndexByte s 47= -1∧upL s.data.toList= []∧qrH s.data.toList=s.data.toList∧hasB 47 s.data.toList=false)∨
  ∃i:Nat,i<s.size∧Lib.lastIndexByte s 47=i∧upL s.data.toList=s.data.toList.take i∧qrH s.data.toList=s.data.toList.drop (i+1)∧hasB 47 s.data.toList=true:=by
 have hl:s.data.toList.length=s.size:=by simp
 have hg: ∀j (h:j<s.size),s.data[j]! =s.data.toList[j]'(by omega):=fun j h=>by
  rw [getElem!_pos s.data j (by simpa using h)];simp
 rcases Lib.lastIndexByte_spec s 47 with ⟨h1,h2⟩|⟨i,hi,h1,h2,h3⟩
 ·refine .inl ⟨h1,?_⟩
  have hb:hasB 47 s.data.toList=false:=by
   rw [qhS];intro x hx e;obtain ⟨j,hj,rfl⟩:=List.getElem_of_mem hx;refine h2 j (by omega) ?_;rw [hg j (by omega),e];rfl
  obtain ⟨u,b⟩:=qrR _ hb;exact ⟨u,b,hb⟩
 ·refine .inr ⟨i,hi,h1,?_⟩;have hil:i<s.data.toList.length:=by omega
  have e47:s.data.toList[i]=47:=by
   have:=h2;rw [hg i hi]at this;exact UInt8.toNat_inj.1 (by show _=47;omega)
  have hb:hasB 47 (s.data.toList.drop (i+1))=false:=by
   rw [qhS];intro x hx e;obtain ⟨j,hj,rfl⟩:=List.getElem_of_mem hx;rw [List.length_drop]at hj;refine h3 (i+1+j) (by omega) (by omega) ?_;rw [hg _ (by omega)];rw [List.getElem_drop]at e;rw [e];rfl
  have e:s.data.toList=s.data.toList.take i++47::s.data.toList.drop (i+1):=by
   conv=>lhs;rw [←List.take_append_drop i s.data.toList,List.drop_eq_getElem_cons hil,e47]
  obtain ⟨u,b⟩:=qxT _ _ _ hb e;refine ⟨u,b,?_⟩;rw [e,qq0,qcT];simp
theorem qoQ (c:UInt8) (l:List UInt8) (h:hasB c l=true):qaK c l=l.take (pos c l)::qaK c (l.drop (pos c l+1)):=by
 have hp:pos c l<l.length:=by rw [qdA]at h;exact of_decide_eq_true h
 have e:l=l.take (pos c l)++c::l.drop (pos c l+1):=by
  conv=>lhs;rw [←List.take_append_drop (pos c l) l,List.drop_eq_getElem_cons hp,qj0 c l hp]
 conv=>lhs;rw [e]
 rw [qoR,qfU c _ (q2Z c l _ (Nat.le_refl _))];rfl
theorem q30 (c:UInt8) (l:List UInt8) (h:hasB c l=true):l.count c=(l.drop (pos c l+1)).count c+1:=by
 have:=qoQ c l h;have h2:=congrArg List.length this;rw [qdU,List.length_cons,qdU]at h2;omega
theorem qr2 (c:UInt8) (k:Nat) (l:List UInt8) (h:l.count c=k):Lib.splitK [c] 0 k l=qaK c l:=by
 induction k generalizing l with
 |zero=>
  have:hasB c l=false:=by
   rw [qhS];intro x hx e;subst e;have:=List.count_pos_iff.2 hx;omega
  rw [qfU c l this];rfl
 |succ k ih=>
  have hb:hasB c l=true:=by
   rw [←Bool.not_eq_false,qhS];intro h2;have:l.count c=0:=List.count_eq_zero.2 (fun hm=>h2 c hm rfl);omega
  have hi:Lib.index l [c]=(pos c l:Int):=by rw [Lib.index_one,qbZ,if_pos hb]
  have hc:=q30 c l hb;unfold Lib.splitK;rw [hi,if_neg (by simp),qoQ c l hb,Int.toNat_natCast,Nat.add_zero,List.length_singleton,ih _ (by omega)]
theorem qtY (s:ByteArray):Lib.countB s ⟨#[47]⟩=s.data.toList.count 47:=Lib.count_one 47 s.data.toList
theorem qr3 (s:ByteArray) (k:Nat) (h:s.data.toList.count 47=k):(Lib.splitB ⟨#[47]⟩ 0 k s).map Value.string=strC (qaK 47 s.data.toList):=by
 have hd:=Lib.splitB_data ⟨#[47]⟩ 0 k s;rw [show (⟨#[47]⟩:ByteArray).data.toList= [47]from rfl,qr2 47 k _ h]at hd;rw [←hd];unfold strC;rw [List.map_map];refine List.map_congr_left fun x _=> ?_;show Value.string x=strV x.data.toList;unfold strV
 congr 1
def qeU (l:List UInt8):Bool:= !(decide (l= [])) && !(decide (l= [46])) && !(decide (l= [46,46]))
theorem qfW (l:List UInt8) (h:l= []∨l= [46]∨l= [46,46]):qeU l=false:=by
 rcases h with rfl|rfl|rfl<;>rfl
theorem qoX (l:List UInt8) (h:l≠ []) (h1:l≠ [46]) (h2:l≠ [46,46]):qeU l=true:=by simp [qeU,h,h1,h2]
def qc6 (l:List UInt8):Int:=
 if l.length<1∨400<l.length then 1 else if hasB 0 l=true then 3 else if (qaK 47 l).all qeU=true then 0 else 9
theorem qoO {l:List UInt8} (h:l.length<1∨400<l.length):qc6 l=1:=if_pos h
theorem qoP {l:List UInt8} (h: ¬(l.length<1∨400<l.length)) (h2:hasB 0 l=true):qc6 l=3:=by rw [qc6,if_neg h,if_pos h2]
theorem qwP {l:List UInt8} (h: ¬(l.length<1∨400<l.length)) (h2:hasB 0 l=false) (h3:(qaK 47 l).all qeU=true):qc6 l=0:=by rw [qc6,if_neg h,if_neg (by simp [h2]),if_pos h3]
theorem qwQ {l:List UInt8} (h: ¬(l.length<1∨400<l.length)) (h2:hasB 0 l=false) (h3:(qaK 47 l).all qeU=false):qc6 l=9:=by rw [qc6,if_neg h,if_neg (by simp [h2]),if_neg (by simp [h3])]
def allE (ls:List (List UInt8)):Int:=if ls.all qeU=true then 0 else 9
theorem qlR {ls:List (List UInt8)} (h:ls.all qeU=true):allE ls=0:=if_pos h
theorem qrK {ls:List (List UInt8)} (h:ls.all qeU=false):allE ls=9:=if_neg (by simp [h])
theorem qnQ (ls:List (List UInt8)) (p:List UInt8→Bool) (k:Nat) (hk:k<ls.length) (h:p (ls.getD k [])=false):ls.all p=false:=by
 rw [←Bool.not_eq_true,List.all_eq_true];intro h2;rw [List.getD_eq_getElem?_getD,List.getElem?_eq_getElem hk]at h;have:=h2 _ (List.getElem_mem hk);rw [Option.getD_some]at h;rw [h]at this;cases this
theorem qjM (ls:List (List UInt8)) (p:List UInt8→Bool) (k:Nat) (hk:k<ls.length) (h0:(ls.take k).all p=true) (h:p (ls.getD k [])=true):(ls.take (k+1)).all p=true:=by
 rw [qdK ls k hk,List.all_append,h0];simpa using h
theorem qhU (s:ByteArray) (l:List UInt8):(s.toList=l)=(s.data.toList=l):=by
 rw [ByteArray.toList_eq]
theorem MetaV.ext_iff' (a b:MetaV):(a.mode=b.mode∧a.uid=b.uid∧a.gid=b.gid∧a.user=b.user∧a.group=b.group∧a.second=b.second∧a.nano=b.nano)↔a=b:=by
 constructor
 ·rintro ⟨h1,h2,h3,h4,h5,h6,h7⟩;cases a;cases b;simp_all
 ·rintro rfl;exact ⟨rfl,rfl,rfl,rfl,rfl,rfl,rfl⟩
instance:DecidableEq MetaV:=fun a b=>decidable_of_iff _ (MetaV.ext_iff' a b)
theorem NodeV.ext_iff' (a b:NodeV):(a.path=b.path∧a.kind=b.kind∧a.same=b.same∧a.target=b.target∧a.md=b.md∧a.data=b.data)↔a=b:=by
 constructor
 ·rintro ⟨h1,h2,h3,h4,h5,h6⟩;cases a;cases b;simp_all
 ·rintro rfl;exact ⟨rfl,rfl,rfl,rfl,rfl,rfl⟩
instance:DecidableEq NodeV:=fun a b=>decidable_of_iff _ (NodeV.ext_iff' a b)
def nodK (n:NodeV):Int:=
 if n.kind=1 then (if n.target≠ []∨n.same<0 then 3 else if 2000<n.data.length then 1 else 0)
 else if n.kind=2∨n.kind=3 then
  (if n.data≠ []∨n.same≠0∨(n.kind=2∧n.target≠ [])∨(n.kind=3∧n.target= [])∨hasB 0 n.target=true then 3 else if 400<n.target.length then 1 else 0)
 else 2
def nodE (n:NodeV):Int:=if qc6 n.path≠0 then qc6 n.path else if metE n.md≠0 then metE n.md else nodK n
def qb7 (t:List NodeV) (s:List UInt8):Nat:=(t.takeWhile fun n=> !decide (n.path=s)).length
theorem qjH (t:List NodeV) (s:List UInt8):qb7 t s≤t.length:=by
 unfold qb7
 induction t with
 |nil=>exact Nat.le_refl _
 |cons a t ih=>rw [List.takeWhile_cons];split<;>simp_all<;>omega
theorem qxA (t:List NodeV) (s:List UInt8) (k:Nat) (h:k<qb7 t s) (hk:k<t.length):t[k].path≠s:=by
 induction t generalizing k with
 |nil=>exact absurd hk (by simp)
 |cons a t ih=>
  unfold qb7 at h;rw [List.takeWhile_cons]at h
  by_cases e:a.path=s
  ·simp [e]at h
  ·simp only [e,decide_false,Bool.not_false,if_true,List.length_cons]at h;cases k with
   |zero=>simpa using e
   |succ k=>simpa using ih k (by unfold qb7;omega) (by simpa using hk)
theorem qxB (t:List NodeV) (s:List UInt8) (h:qb7 t s<t.length):(t[qb7 t s]'h).path=s:=by
 induction t with
 |nil=>exact absurd h (by simp)
 |cons a t ih=>
  by_cases e:a.path=s
  ·have h0:qb7 (a::t) s=0:=by unfold qb7;simp [e]
   simp only [h0];exact e
  ·have h1:qb7 (a::t) s=qb7 t s+1:=by unfold qb7;simp [e]
   have h':qb7 t s<t.length:=by rw [h1,List.length_cons]at h;omega
   have:=ih h';simp [h1,this]
theorem qo6 (t:List NodeV) (s:List UInt8) (k:Nat) (hk:k<t.length) (h:k≤qb7 t s) (e:t[k].path=s):qb7 t s=k:=by
 rcases Nat.lt_or_eq_of_le h with h'|h'
 ·exact absurd e (qxA t s k h' hk)
 ·exact h'.symm
theorem qo7 (t:List NodeV) (s:List UInt8) (k:Nat) (hk:k<t.length) (h:k≤qb7 t s) (e:t[k].path≠s):k+1≤qb7 t s:=by
 rcases Nat.lt_or_eq_of_le h with h'|h'
 ·exact h'
 ·subst h';exact absurd (qxB t s hk) e
def upOk (t:List NodeV) (p:List UInt8):Bool:=decide (upL p= [])||t.any fun n=>decide (n.path=upL p) &&decide (n.kind=2)
def linkNo (t:List NodeV) (n:NodeV):Bool:=decide (n.same≠0) &&t.any fun x=>decide (x.same=n.same) && !(decide (x.md=n.md) &&decide (x.data=n.data))
def atE (t:List NodeV) (n:NodeV):Int:=
 if nodE n≠0 then nodE n
 else if (match t.getLast? with|some x=> !decide (pcmp x.path n.path= -1)|none=>false)=true then 6
 else if upOk t n.path=false then 10
 else if linkNo t n=true then 11
 else 0
def walkE (t:List NodeV):List NodeV→Int
 | []=>0
 |n::l=>if atE t n≠0 then atE t n else walkE (t++ [n]) l
def qrS (t:List NodeV):Int:=if 40<t.length then 1 else walkE [] t
def putL (t:List NodeV) (n:NodeV):List NodeV:=t.filter (fun x=>decide (pcmp x.path n.path<0))++n::t.filter fun x=>decide (0<pcmp x.path n.path)
def remL (t:List NodeV) (s:List UInt8):List NodeV:=t.filter fun n=> !(decide (n.path=s)||inB n.path s)
def putT (t:List NodeV) (n:NodeV):List NodeV×Int:=if qrS t≠0 then ([],qrS t)else if qrS (putL t n)≠0 then ([],qrS (putL t n))else (putL t n,0)
def remT (t:List NodeV) (s:List UInt8):List NodeV×Int:=if qrS t≠0 then ([],qrS t)else if qb7 t s=t.length then ([],5)else (remL t s,0)
def qvS (t:List NodeV):Prop:=t.Pairwise fun x y=>pcmp x.path y.path= -1
theorem q1M {a b c:List UInt8} (h1:pcmp a b= -1) (h2:pcmp b c= -1):pcmp a c= -1:=by
 have h:=qyJ a b c (by omega) (by omega);have hb:=quR a c;rcases Int.lt_or_eq_of_le h with h|h
 ·omega
 ·have:=(qsR a c).1 h;subst this;have:=q5T a b;omega
structure Sound (t:List NodeV):Prop where
 rises:qvS t
 node: ∀n∈t,nodE n=0
 up: ∀n∈t,upL n.path= []∨ ∃d∈t,d.path=upL n.path∧d.kind=2
 link: ∀x∈t,∀y∈t,x.same=y.same→x.same≠0→x.md=y.md∧x.data=y.data
theorem q0X {t:List NodeV} (h:qvS t) (i j:Nat) (hi:i<t.length) (hj:j<t.length) (hij:i<j):pcmp t[i].path t[j].path= -1:=
 (List.pairwise_iff_getElem.1 h) i j hi hj hij
theorem qx1 {t:List NodeV} {n:NodeV} (h:qvS t) (hl: ∀x,t.getLast?=some x→pcmp x.path n.path= -1):qvS (t++ [n]):=by
 unfold qvS at*;rw [List.pairwise_append];refine ⟨h,List.pairwise_singleton _ _,fun x hx y hy=> ?_⟩;obtain rfl:y=n:=by simpa using hy
 obtain ⟨i,hi,rfl⟩:=List.getElem_of_mem hx;have hne:t≠ []:=by intro e;subst e;simp at hi
 have hlast:=hl _ (List.getLast?_eq_some_getLast hne);rw [List.getLast_eq_getElem]at hlast;rcases Nat.lt_or_eq_of_le (show i≤t.length-1 by omega)with h'|h'
 ·exact q1M (q0X h i (t.length-1) hi (by omega) h') hlast
 ·subst h';exact hlast
def AllLt (t:List NodeV) (p:List UInt8):Prop:= ∀x∈t,pcmp x.path p<0
def qgC (t:List NodeV) (i:Nat):Int:=(t[i]?.map NodeV.same).getD 0
def eqF (t:List NodeV) (k i:Nat):Bool:=decide (qgC t i≠0∧qgC t k=qgC t i)
def qw9 (t:List NodeV) (i:Nat):Nat:=((List.range i).find? fun k=>eqF t k i).getD i
def isF (t:List NodeV) (i k:Nat):Bool:=decide (k=i)||(decide (0<qgC t i) &&decide (qgC t k=qgC t i))
def namesF (t:List NodeV) (i:Nat):Nat:=(List.range t.length).countP (isF t i)
def anewN (t:List NodeV) (i:Nat) (x:NodeV):NodeV:= {x with same:=if 1<namesF t i then (qw9 t i:Int)+1 else 0}
def q69 (t:List NodeV):List NodeV:=t.mapIdx fun i x=>anewN t i x
def alikeF (a b:List NodeV):Prop:=a.length=b.length∧(∀i (h:i<a.length) (h2:i<b.length),({a[i]with same:=0} :NodeV)= {b[i]with same:=0})∧
 ∀i k,k<i→i<a.length→(0<qgC a i∧qgC a i=qgC a k↔0<qgC b i∧qgC b i=qgC b k)
structure EntV where
 path:List UInt8
 kind:Int
 target:List UInt8
 md:MetaV
 data:List UInt8
instance:Inhabited EntV:=⟨⟨[],0, [],⟨0,0,0, [], [],0,0⟩, []⟩⟩
theorem EntV.ext_iff' (a b:EntV):(a.path=b.path∧a.kind=b.kind∧a.target=b.target∧a.md=b.md∧a.data=b.data)↔a=b:=by
 constructor
 ·rintro ⟨h1,h2,h3,h4,h5⟩;cases a;cases b;simp_all
 ·rintro rfl;exact ⟨rfl,rfl,rfl,rfl,rfl⟩
instance:DecidableEq EntV:=fun a b=>decidable_of_iff _ (EntV.ext_iff' a b)
def EntV.nod (x:EntV):NodeV:=⟨x.path,x.kind,0,x.target,x.md,x.data⟩
def NodeV.ent (x:NodeV):EntV:=⟨x.path,x.kind,x.target,x.md,x.data⟩
def entK (x:EntV):Int:=
 if x.kind<1∨4<x.kind then 2
 else if (2<x.kind∧x.target= [])∨(¬2<x.kind∧x.target≠ [])∨(1<x.kind∧x.data≠ [])then 3
 else if 2000<x.data.length∨400<x.target.length then 1
 else if x.kind=4 then qc6 x.target
 else if hasB 0 x.target=true then 3 else 0
def entE (x:EntV):Int:=if qc6 x.path≠0 then qc6 x.path else if metE x.md≠0 then metE x.md else entK x
theorem qdF {x:EntV} (h:entE x=0):qc6 x.path=0∧metE x.md=0∧entK x=0:=by
 unfold entE at h
 split at h
 ·rename_i h1;exact absurd h h1
 ·rename_i h1
  split at h
  ·rename_i h2;exact absurd h h2
  ·rename_i h2;exact ⟨by simpa using h1,by simpa using h2,h⟩
def qaQ (l:List EntV) (s:List UInt8):Nat:=qb7 (l.map EntV.nod) s
theorem qf5 (l:List EntV) (s:List UInt8):qaQ l s≤l.length:=by
 have:=qjH (l.map EntV.nod) s
 rwa [List.length_map]at this
theorem qdL (l:List EntV) (s:List UInt8) (h:qaQ l s<l.length):(l[qaQ l s]'h).path=s:=by
 have:=qxB (l.map EntV.nod) s (by rw [List.length_map];exact h);rw [List.getElem_map]at this;exact this
theorem qjI (l:List EntV) (s:List UInt8) (k:Nat) (h:k<qaQ l s) (hk:k<l.length):l[k].path≠s:=by
 have:=qxA (l.map EntV.nod) s k h (by rw [List.length_map];exact hk);rw [List.getElem_map]at this;exact this
theorem qd3 (l:List EntV) (s:List UInt8) (k:Nat) (hk:k<l.length) (h:k≤qaQ l s) (e:l[k].path=s):qaQ l s=k:=
 qo6 (l.map EntV.nod) s k (by rw [List.length_map];exact hk) h (by rw [List.getElem_map];exact e)
theorem qo8 (l:List EntV) (s:List UInt8) (k:Nat) (hk:k<l.length) (h:k≤qaQ l s) (e:l[k].path≠s):k+1≤qaQ l s:=
 qo7 (l.map EntV.nod) s k (by rw [List.length_map];exact hk) h (by rw [List.getElem_map];exact e)
def upE (l:List EntV) (p:List UInt8):Bool:=decide (upL p= [])||if h:qaQ l (upL p)<l.length then decide ((l[qaQ l (upL p)]'h).kind=2)else false
def aimE (l:List EntV) (x:EntV):Bool:=decide (x.kind≠4)||if h:qaQ l x.target<l.length then decide ((l[qaQ l x.target]'h).kind=1) &&decide ((l[qaQ l x.target]'h).md=x.md)else false
def eatE (l:List EntV) (x:EntV):Int:=
 if entE x≠0 then entE x
 else if (match l.getLast? with|some y=> !decide (pcmp y.path x.path= -1)|none=>false)=true then 6
 else if upE l x.path=false then 10
 else if aimE l x=false then 11
 else 0
def qbQ (l:List EntV):List EntV→Int
 | []=>0
 |x::m=>if eatE l x≠0 then eatE l x else qbQ (l++ [x]) m
def qbE (l:List EntV):Int:=if 40<l.length then 1 else qbQ [] l
theorem qpA (t l m:List EntV) (h:qbQ t l=0):qbQ t (l++m)=qbQ (t++l) m:=by
 induction l generalizing t with
 |nil=>simp
 |cons n l ih=>
  rw [qbQ]at h;rw [List.cons_append,qbQ]
  by_cases e:eatE t n≠0
  ·rw [if_pos e]at h;exact absurd h e
  ·rw [if_neg e]at h⊢;rw [ih _ h];simp
theorem qnC (l:List EntV) (k:Nat) (hk:k<l.length) (h:qbQ [] (l.take k)=0) (he:eatE (l.take k) l[k]≠0):qbQ [] l=eatE (l.take k) l[k]:=by
 have h1:=qpA [] (l.take k) (l.drop k) h;rw [List.take_append_drop,List.nil_append,List.drop_eq_getElem_cons hk,qbQ,if_pos he]at h1;exact h1
theorem qnD (l:List EntV) (k:Nat) (hk:k<l.length) (h:qbQ [] (l.take k)=0) (he:eatE (l.take k) l[k]=0):qbQ [] (l.take (k+1))=0:=by
 have h1:=qpA [] (l.take k) [l[k]] h;rw [←List.take_succ_eq_append_getElem hk,List.nil_append,qbQ,if_neg (by simp [he]),qbQ]at h1;exact h1
theorem qhT (l:List EntV): ∀s,qbQ s l=0↔ ∀k (hk:k<l.length),eatE (s++l.take k) l[k]=0:=by
 induction l with
 |nil=>intro s;simp [qbQ]
 |cons n l ih=>
  intro s;rw [qbQ];constructor
  ·intro h k hk
   by_cases e:eatE s n≠0
   ·rw [if_pos e]at h;exact absurd h e
   ·rw [if_neg e]at h;cases k with
    |zero=>simp only [List.take_zero,List.append_nil,List.getElem_cons_zero];simpa using e
    |succ k=>
     have:=(ih _).1 h k (by simpa using hk);simpa using this
  ·intro h
   have h0:eatE s n=0:=by
    have:=h 0 (by simp);simpa only [List.take_zero,List.append_nil,List.getElem_cons_zero]using this
   rw [if_neg (by simp [h0])];refine (ih _).2 fun k hk=> ?_;have:=h (k+1) (by simpa using hk);simpa using this
theorem qfC (l:List EntV) (x:EntV):eatE l x=0↔entE x=0∧(∀y,l.getLast?=some y→pcmp y.path x.path= -1)∧upE l x.path=true∧aimE l x=true:=by
 unfold eatE
 by_cases h1:entE x≠0
 ·rw [if_pos h1];exact ⟨fun h=>absurd h h1,fun h=>absurd h.1 h1⟩
 ·rw [if_neg h1];have h1':entE x=0:=by simpa using h1
  cases hg:l.getLast? with
  |none=>
   simp only [Bool.false_eq_true,if_false];cases upE l x.path<;>cases aimE l x<;>simp [h1']
  |some y=>
   by_cases h2:pcmp y.path x.path= -1
   ·cases upE l x.path<;>cases aimE l x<;>simp [h1',h2]
   ·simp [h2]
def planE (t:List NodeV) (i:Nat) (x:NodeV):EntV:=
 if 0<x.same∧qw9 t i<i then ⟨x.path,4,((t[qw9 t i]?).map NodeV.path).getD [],x.md, []⟩else x.ent
def planL (t:List NodeV):List EntV:=t.mapIdx fun i x=>planE t i x
def qdS (l:List EntV) (i:Nat) (x:EntV):NodeV:=
 if x.kind=4 then ⟨x.path,1,(qaQ l x.target:Nat)+1, [],x.md,((l[qaQ l x.target]?).map EntV.data).getD []⟩
 else ⟨x.path,x.kind,if x.kind=1∧(l.any fun y=>decide (y.kind=4) &&decide (y.target=x.path))=true then (i:Int)+1 else 0,x.target,x.md,x.data⟩
def qeG (l:List EntV):List NodeV:=l.mapIdx fun i x=>qdS l i x
theorem qbT (l:List EntV):(qeG l).length=l.length:=by unfold qeG;rw [List.length_mapIdx]
theorem qeQ (l:List EntV) (i:Nat) (h:i<l.length):(qeG l)[i]'(by rw [qbT];exact h)=qdS l i l[i]:=by
 unfold qeG;rw [List.getElem_mapIdx]
structure LowAt (t:List NodeV) (p:List UInt8) (i:Nat):Prop where
 le:i≤t.length
 lt: ∀k (hk:k<t.length),k<i→pcmp t[k].path p<0
 ge: ∀k (hk:k<t.length),i≤k→ ¬pcmp t[k].path p<0
def fits (l:List UInt8) (i:Nat):Bool:=decide (1≤i∧i≤155∧i+2≤l.length∧l.length≤i+101) &&(l.getD i 0==47)
def qk9 (l:List UInt8):Option Nat:=(List.range l.length).find? (fits l)
theorem q3I {l:List UInt8} {i:Nat} (h:fits l i=true):i<l.length:=by
 unfold fits at h;rw [Bool.and_eq_true,decide_eq_true_eq]at h;omega
theorem qq3 {l:List UInt8} {i:Nat} (h:fits l i=true):1≤i∧i≤155∧i+2≤l.length∧l.length≤i+101:=by
 unfold fits at h;rw [Bool.and_eq_true,decide_eq_true_eq]at h;exact h.1
theorem qtH {l:List UInt8} {i:Nat} (h:fits l i=true):l.getD i 0=47:=by
 unfold fits at h;rw [Bool.and_eq_true,beq_iff_eq]at h;exact h.2
theorem q3H {l:List UInt8} {i:Nat} (h:1≤i∧i≤155∧i+2≤l.length∧l.length≤i+101) (e:l.getD i 0=47):fits l i=true:=by
 unfold fits;rw [Bool.and_eq_true,decide_eq_true_eq,beq_iff_eq];exact ⟨h,e⟩
theorem qq2 {l:List UInt8} {i:Nat} (h: ¬(1≤i∧i≤155∧i+2≤l.length∧l.length≤i+101)):fits l i=false:=by
 rw [←Bool.not_eq_true];exact fun e=>h (qq3 e)
theorem q3G {l:List UInt8} {i:Nat} (h:l.getD i 0≠47):fits l i=false:=by
 rw [←Bool.not_eq_true];exact fun e=>h (qtH e)
def qqJ (l:List UInt8) (k:Nat):Prop:= ∀j,j<k→fits l j=false
theorem qj8 {l:List UInt8} {k:Nat} (h:qqJ l k) (e:fits l k=false):qqJ l (k+1):=fun j hj=>by
 rcases Nat.lt_or_eq_of_le (Nat.le_of_lt_succ hj)with a|a
 ·exact h j a
 ·rw [a];exact e
theorem qpG {l:List UInt8} {k:Nat} (h:qqJ l k) (e:fits l k=true):qk9 l=some k:=by
 unfold qk9;rw [List.find?_range_eq_some];exact ⟨e,List.mem_range.2 (q3I e),fun j hj=>by rw [h j hj];rfl⟩
theorem qpH {l:List UInt8} {k:Nat} (h:qqJ l k) (hk:l.length<k+2∨155<k):qk9 l=none:=by
 unfold qk9;rw [List.find?_range_eq_none];intro j hj
 by_cases a:j<k
 ·rw [h j a];rfl
 ·rw [qq2 (by omega)];rfl
theorem qrE {l:List UInt8} {k:Nat} (h:qk9 l=some k):fits l k=true:=by
 unfold qk9 at h;rw [List.find?_range_eq_some]at h;exact h.1
def qiP (l:List UInt8):Int:=match qk9 l with|some k=>k|none=> -1
def cutV (l:List UInt8):List UInt8×List UInt8×Int:=
 if l= []∨hasB 0 l=true then ([], [],3)
 else if l.length≤100 then ([],l,0)
 else match qk9 l with
  |some k=>(l.take k,l.drop (k+1),0)
  |none=>([], [],1)
theorem qfE {l:List UInt8} (h:l= []∨hasB 0 l=true):cutV l=([], [],3):=if_pos h
theorem qkP {l:List UInt8} (h:l≠ []) (h0:hasB 0 l=false) (h1:l.length≤100):cutV l=([],l,0):=by
 rw [cutV,if_neg (by rintro (a|a);exact h a;rw [h0]at a;cases a),if_pos h1]
theorem qnJ {l:List UInt8} {k:Nat} (h0:hasB 0 l=false) (h1:100<l.length) (e:qk9 l=some k):cutV l=(l.take k,l.drop (k+1),0):=by
 rw [cutV,if_neg (by rintro (a|a);rw [a]at h1;exact absurd h1 (by simp);rw [h0]at a;cases a),if_neg (by omega),e]
theorem qnK {l:List UInt8} (h0:hasB 0 l=false) (h1:100<l.length) (e:qk9 l=none):cutV l=([], [],1):=by
 rw [cutV,if_neg (by rintro (a|a);rw [a]at h1;exact absurd h1 (by simp);rw [h0]at a;cases a),if_neg (by omega),e]
def qcP (p n:List UInt8):List UInt8:=if p= []then n else p++ [47]++n
def oneV (p n:List UInt8):List UInt8×Int:=
 if n.length<1∨100<n.length∨155<p.length then ([],1)
 else if cutV (qcP p n)=(p,n,0)then (qcP p n,0)
 else ([],3)
theorem qe6 {p n:List UInt8} (h:n.length<1∨100<n.length∨155<p.length):oneV p n=([],1):=if_pos h
theorem q1Y {p n:List UInt8} (h: ¬(n.length<1∨100<n.length∨155<p.length)) (e:cutV (qcP p n)=(p,n,0)):oneV p n=(qcP p n,0):=by
 rw [oneV,if_neg h,if_pos e]
theorem q10 {p n:List UInt8} (h: ¬(n.length<1∨100<n.length∨155<p.length)) (e:cutV (qcP p n)≠(p,n,0)):oneV p n=([],3):=by
 rw [oneV,if_neg h,if_neg e]
theorem qrD {l:List UInt8} {p n:List UInt8} (h:cutV l=(p,n,0)):oneV p n=(l,0)∧p.length≤155∧n.length≤100:=by
 have hj:qcP p n=l∧1≤n.length∧n.length≤100∧p.length≤155:=by
  by_cases h1:l= []∨hasB 0 l=true
  ·rw [qfE h1]at h;simp at h
  ·have hne:l≠ []:=fun a=>h1 (.inl a);have h0:hasB 0 l=false:=by rw [←Bool.not_eq_true];exact fun a=>h1 (.inr a)
   have hpos:=List.length_pos_iff.2 hne
   by_cases h2:l.length≤100
   ·rw [qkP hne h0 h2]at h;simp only [Prod.mk.injEq]at h;obtain ⟨rfl,rfl,-⟩:=h;exact ⟨if_pos rfl,hpos,h2,by simp⟩
   ·cases hc:qk9 l with
    |none=>rw [qnK h0 (by omega) hc]at h;simp at h
    |some k=>
     have hf:=qrE hc;have hb:=qq3 hf;have hk:=q3I hf;rw [qnJ h0 (by omega) hc]at h;simp only [Prod.mk.injEq]at h;obtain ⟨rfl,rfl,-⟩:=h;have hy:=qtH hf;rw [List.getD_eq_getElem?_getD,List.getElem?_eq_getElem hk]at hy;refine ⟨?_,by rw [List.length_drop];omega,by rw [List.length_drop];omega,by rw [List.length_take];omega⟩
     have hn: ¬l.take k= []:=by
      intro a;have h9:(l.take k).length=0:=by rw [a];rfl
      rw [List.length_take]at h9;omega
     rw [qcP,if_neg hn];have e:l[k]=47:=hy;rw [←e,←List.take_succ_eq_append_getElem hk,List.take_append_drop]
 refine ⟨?_,hj.2.2.2,hj.2.2.1⟩;rw [q1Y (by omega) (by rw [hj.1];exact h),hj.1]
theorem cut_bad {l:List UInt8} (h:(cutV l).2.2≠0):(cutV l).1= []∧(cutV l).2.1= []:=by
 revert h;unfold cutV
 split
 ·simp
 ·split
  ·simp
  ·split<;>simp
def xyz (a b c:Nat):List UInt8:=List.replicate a 120++ [47]++List.replicate b 121++ [47]++List.replicate c 122
theorem qdR (r:Nat) (h:r<10):(UInt8.ofNat (48+r)).toNat=48+r:=by rw [UInt8.toNat_ofNat'];omega
theorem qg9 (r:Nat) (h:r<10):Lib.digitVal (UInt8.ofNat (48+r))=some r:=by
 unfold Lib.digitVal;rw [qdR r h,if_pos (by omega)];congr 1;omega
theorem qvJ (l r:List UInt8) (acc v:Nat) (h:Lib.decFrom acc l=some v):Lib.decFrom acc (l++r)=Lib.decFrom v r:=by
 induction l generalizing acc with
 |nil=>simp only [Lib.decFrom,Option.some.injEq]at h;subst h;rfl
 |cons c l ih=>
  cases hc:Lib.digitVal c with
  |none=>simp [Lib.decFrom,hc]at h
  |some d=>
   simp only [Lib.decFrom,hc,List.cons_append]at h⊢;exact ih _ h
theorem qbR (u:Nat):Lib.decFrom 0 (Lib.decDigits u)=some u:=by
 induction u using Nat.strongRecOn with
 |_ u ih=>
  by_cases h:u<10
  ·rw [Lib.decDigits,dif_pos h];simp only [Lib.decFrom,qg9 u h];congr 1;omega
  ·rw [Lib.decDigits,dif_neg h,qvJ _ _ _ _ (ih (u/10) (by omega))];simp only [Lib.decFrom,qg9 (u%10) (by omega)]
   congr 1;omega
theorem qcA (u k:Nat) (h:u<10^(k+1)):(Lib.decDigits u).length≤k+1:=by
 induction k generalizing u with
 |zero=>rw [Lib.decDigits,dif_pos (by simpa using h)];simp
 |succ k ih=>
  by_cases h':u<10
  ·rw [Lib.decDigits,dif_pos h'];simp
  ·rw [Lib.decDigits,dif_neg h',List.length_append,List.length_singleton];have:=ih (u/10) (by rw [Nat.pow_succ]at h;omega);omega
theorem qdX (u:Nat): ∀c∈Lib.decDigits u,48≤c.toNat∧c.toNat≤57:=by
 induction u using Nat.strongRecOn with
 |_ u ih=>
  intro c hc
  by_cases h:u<10
  ·rw [Lib.decDigits,dif_pos h,List.mem_singleton]at hc;subst hc;rw [qdR u h];omega
  ·rw [Lib.decDigits,dif_neg h,List.mem_append,List.mem_singleton]at hc;rcases hc with hc|rfl
   ·exact ih _ (by omega) c hc
   ·rw [qdR _ (by omega)];omega
theorem qdM (u:Nat): ∃c r,Lib.decDigits u=c::r∧48≤c.toNat∧c.toNat≤57∧(1≤u→c.toNat≠48):=by
 induction u using Nat.strongRecOn with
 |_ u ih=>
  by_cases h:u<10
  ·rw [Lib.decDigits,dif_pos h];refine ⟨_,_,rfl,?_⟩;rw [qdR u h];omega
  ·obtain ⟨c,r,e,h1,h2,h3⟩:=ih (u/10) (by omega);rw [Lib.decDigits,dif_neg h,e];exact ⟨c,r++_,rfl,h1,h2,fun _=>h3 (by omega)⟩
theorem qlN (l:List UInt8) (h: ∀c∈l,48≤c.toNat∧c.toNat≤57) (x:UInt8) (hx:x.toNat<48):hasB x l=false:=by
 unfold hasB;rw [←Bool.not_eq_true,List.any_eq_true];rintro ⟨c,hc,e⟩;have:=h c hc;rw [beq_iff_eq]at e;rw [e]at this;omega
def d10:Nat→Nat→List UInt8
 |0,_=> []
 |j+1,m=>UInt8.ofNat (48+m/10^j)::d10 j (m%10^j)
def fr:Nat→Nat→List UInt8
 |0,_=> []
 |j+1,m=>if m=0 then []else UInt8.ofNat (48+m/10^j)::fr j (m%10^j)
theorem qcR (j:Nat):0<10^j:=Nat.pow_pos (by omega)
theorem qhV {m j:Nat} (h:m<10^(j+1)):m/10^j<10:=by
 rw [Nat.div_lt_iff_lt_mul (qcR j),Nat.mul_comm];rwa [Nat.pow_succ]at h
theorem qeO (m j:Nat):m%10^j<10^j:=Nat.mod_lt _ (qcR j)
theorem qpF (j m:Nat):(d10 j m).length=j:=by
 induction j generalizing m with
 |zero=>rfl
 |succ j ih=>simp [d10,ih]
theorem q6Z (j m:Nat):d10 (j+1) m=d10 j (m/10)++ [UInt8.ofNat (48+m%10)]∨ ¬m<10^(j+1):=by
 by_cases h:m<10^(j+1)
 ·left
  induction j generalizing m with
  |zero=>
   have:m<10:=by simpa using h
   simp only [d10,Nat.pow_zero,Nat.div_one,List.nil_append]
   congr 3;omega
  |succ j ih=>
   rw [d10,ih _ (qeO m (j+1)),d10];have e1:m%10^(j+1) /10=m/10%10^j:=by rw [Nat.pow_succ,Nat.mul_comm,Nat.mod_mul_right_div_self]
   have e2:m%10^(j+1) %10=m%10:=by rw [Nat.pow_succ,Nat.mod_mul_left_mod]
   have e3:m/10^(j+1)=m/10/10^j:=by rw [Nat.div_div_eq_div_mul,Nat.pow_succ,Nat.mul_comm]
   rw [e1,e2,e3];rfl
 ·exact .inr h
theorem qn2 (j m:Nat) (h:m<10^j):Lib.decDigits (10^j+m)=49::d10 j m:=by
 induction j generalizing m with
 |zero=>
  have:m=0:=by simpa using h
  subst this;rw [Lib.decDigits,dif_pos (by decide)];rfl
 |succ j ih=>
  have hp:=qcR j;have e1:(10^(j+1)+m) /10=10^j+m/10:=by rw [Nat.pow_succ];omega
  have e2:(10^(j+1)+m) %10=m%10:=by rw [Nat.pow_succ];omega
  have h':m/10<10^j:=by rw [Nat.pow_succ]at h;omega
  rw [Lib.decDigits,dif_neg (by rw [Nat.pow_succ];omega),e1,e2,ih _ h'];rcases q6Z j m with e|e
  ·rw [e];rfl
  ·exact absurd h e
theorem qxU (c:UInt8) (l:List UInt8):Lib.trimRightB (c::l) 48=if Lib.trimRightB l 48= []then (if c=48 then []else [c])else c::Lib.trimRightB l 48:=by
 unfold Lib.trimRightB;rw [List.reverse_cons,List.dropWhile_append]
 by_cases h:l.reverse.dropWhile (· ==(48:UInt8))= []
 ·rw [h]
  by_cases hc:c=48
  ·simp [hc]
  ·simp [hc]
 ·have h2: ¬(l.reverse.dropWhile (· ==(48:UInt8))).isEmpty=true:=by simpa using h
  rw [if_neg h2,if_neg (by simpa using h),List.reverse_append];rfl
theorem qm5 (j:Nat):fr j 0= []:=by cases j<;>simp [fr]
theorem fr_nil {j m:Nat} (h:m<10^j) (e:fr j m= []):m=0:=by
 cases j with
 |zero=>simpa using h
 |succ j=>
  rw [fr]at e
  split at e
  ·assumption
  ·cases e
theorem qz6 (j m:Nat) (h:m<10^j):Lib.trimRightB (d10 j m) 48=fr j m:=by
 induction j generalizing m with
 |zero=>rfl
 |succ j ih=>
  rw [d10,qxU,ih _ (qeO m j),fr];have hd:=qhV h;have hdm:=Nat.div_add_mod m (10^j)
  by_cases h0:m=0
  ·subst h0;simp [qm5]
  ·rw [if_neg h0]
   by_cases hf:fr j (m%10^j)= []
   ·rw [if_pos hf,hf];have hm:=fr_nil (qeO m j) hf;rw [hm]at hdm;rw [if_neg ?_];intro e;have e2:=congrArg UInt8.toNat e;rw [qdR _ hd]at e2;have:(48:UInt8).toNat=48:=rfl;have h1:m/10^j=0:=by omega
    rw [h1]at hdm;omega
   ·rw [if_neg hf]
theorem q3B (j m:Nat):(fr j m).length≤j:=by
 induction j generalizing m with
 |zero=>simp [fr]
 |succ j ih=>
  rw [fr];split
  ·simp
  ·have:=ih (m%10^j);simp;omega
theorem q71 (j m:Nat) (h:m<10^j): ∀c∈fr j m,48≤c.toNat∧c.toNat≤57:=by
 induction j generalizing m with
 |zero=>intro c hc;cases hc
 |succ j ih=>
  intro c hc;rw [fr]at hc
  split at hc
  ·cases hc
  ·rcases List.mem_cons.1 hc with rfl|hc
   ·have:=qhV h;rw [qdR _ this];revert this;generalize m/10^j=q;omega
   ·exact ih _ (qeO m j) c hc
theorem qrC (k acc:Nat):Lib.decFrom acc (List.replicate k 48)=some (acc*10^k):=by
 induction k generalizing acc with
 |zero=>simp [Lib.decFrom]
 |succ k ih=>
  rw [List.replicate_succ];have:Lib.digitVal 48=some 0:=rfl;simp only [Lib.decFrom,this];rw [ih,Nat.pow_succ];congr 1;rw [Nat.add_zero,Nat.mul_assoc,Nat.mul_comm 10]
theorem qzO (j m acc:Nat) (h:m<10^j):Lib.decFrom acc (fr j m++List.replicate (j-(fr j m).length) 48)=some (acc*10^j+m):=by
 induction j generalizing m acc with
 |zero=>
  have:m=0:=by simpa using h
  subst this;simp [fr,Lib.decFrom]
 |succ j ih=>
  rw [fr]
  by_cases h0:m=0
  ·subst h0;rw [if_pos rfl,List.nil_append,List.length_nil,qrC];rfl
  ·have hd:=qhV h;have hdm:=Nat.div_add_mod m (10^j);rw [if_neg h0,List.length_cons,List.cons_append,Nat.add_sub_add_right];simp only [Lib.decFrom,qg9 _ hd];rw [ih _ _ (qeO m j),Nat.add_mul,Nat.mul_assoc,Nat.pow_succ,Nat.mul_comm 10,Nat.add_assoc,Nat.mul_comm (m/10^j),hdm]
def qe9 (n:Nat):List UInt8:=if n=0 then []else 46::fr 9 n
def negV (a b:Int):Int×Int:=if b=0 then (if a= -9223372036854775808 then-9223372036854775808 else-a,0)else (if a= -9223372036854775808 then 9223372036854775807 else-a-1,1000000000-b)
def absT (m n:Nat):List UInt8:=Lib.decDigits m++qe9 n
def qc3 (a b:Int):List UInt8:=if a<0 then 45::absT (negV a b).1.toNat (negV a b).2.toNat else absT a.toNat b.toNat
def qcD (a b:Int):ByteArray×Int:=if inT a b=true then (bs (qc3 a b),0)else (⟨#[]⟩,4)
theorem qtE (n:Nat):(qe9 n).length≤10:=by
 unfold qe9;split
 ·simp
 ·have:=q3B 9 n;simp;omega
theorem q7D (m n:Nat) (h:m<10^14):(absT m n).length≤24:=by
 have h1:=qcA m 13 h;have h2:=qtE n;rw [absT,List.length_append];omega
def qd7:List UInt8→Bool
 | []=>false
 |c::_=>c==45
def qbD (l:List UInt8):List UInt8:=if qd7 l=true then l.drop 1 else l
def qgJ (l:List UInt8):List UInt8:=l.take (pos 46 l)
def qn1 (l:List UInt8):List UInt8:=l.drop (pos 46 l+1)
def numO:Lib.NumEnd Int→Option Int
 | .ok v=>some v
 |_=>none
def qjD (d:List UInt8):Option Int:=if d.length≤9 then numO (Lib.atoiAll (d++List.replicate (9-d.length) 48))else none
def qeL (l:List UInt8):Option (Int×Int):=
 match numO (Lib.atoiAll (qgJ (qbD l))),qjD (qn1 (qbD l))with
 |some a,some b=>some (if qd7 l=true then negV a b else (a,b))
 |_,_=>none
def qa8 (l:List UInt8):Int×Int×Int:=
 match qeL l with
 |some (a,b)=>if inT a b=true∧qc3 a b=l then (a,b,0)else (0,0,3)
 |none=>(0,0,3)
theorem qlV {l:List UInt8} (h:qeL l=none):qa8 l=(0,0,3):=by simp [qa8,h]
theorem qjP {l:List UInt8} {a b:Int} (h:qeL l=some (a,b)) (h1:inT a b=true) (h2:qc3 a b=l):qa8 l=(a,b,0):=by
 simp only [qa8,h];rw [if_pos ⟨h1,h2⟩]
theorem qlW {l:List UInt8} {a b:Int} (h:qeL l=some (a,b)) (h1: ¬(inT a b=true∧qc3 a b=l)):qa8 l=(0,0,3):=by
 simp only [qa8,h];rw [if_neg h1]
theorem qxK (u:Nat) (h:u<10^14):Lib.atoiAll (Lib.decDigits u)= .ok (u:Int):=by
 rw [Lib.atoiAll_short _ (Nat.le_trans (qcA u 13 h) (by decide))];obtain ⟨c,r,e,h1,h2,-⟩:=qdM u;have hv:=qbR u;rw [e]at hv⊢;have c1:(c==45)=false:=by rw [beq_eq_false_iff_ne];rintro rfl;exact absurd h1 (by decide)
 have c2:(c==43)=false:=by rw [beq_eq_false_iff_ne];rintro rfl;exact absurd h1 (by decide)
 simp only [Lib.atoi,c1,c2];simp [Lib.decNat,hv,Lib.NumEnd.ofOption]
theorem q37 (m:Nat) (h:m<10^9):qjD (fr 9 m)=some (m:Int):=by
 have hl:=q3B 9 m;have hv:=qzO 9 m 0 h;rw [Nat.zero_mul,Nat.zero_add]at hv;unfold qjD;rw [if_pos hl,Lib.atoiAll_short _ (by rw [List.length_append,List.length_replicate];omega)]
 have hd: ∀c∈fr 9 m++List.replicate (9-(fr 9 m).length) 48,48≤c.toNat:=by
  intro c hc;rcases List.mem_append.1 hc with hc|hc
  ·exact (q71 9 m h c hc).1
  ·rw [(List.mem_replicate.1 hc).2];decide
 have hn:(fr 9 m++List.replicate (9-(fr 9 m).length) 48).length=9:=by rw [List.length_append,List.length_replicate];omega
 revert hv hd hn
 generalize fr 9 m++List.replicate (9-(fr 9 m).length) 48=L;intro hv hd hn;cases L with
 |nil=>cases hn
 |cons c r=>
  have h1:=hd c (by simp);have c1:(c==45)=false:=by rw [beq_eq_false_iff_ne];rintro rfl;exact absurd h1 (by decide)
  have c2:(c==43)=false:=by rw [beq_eq_false_iff_ne];rintro rfl;exact absurd h1 (by decide)
  simp only [Lib.atoi,c1,c2];simp [Lib.decNat,hv,Lib.NumEnd.ofOption,numO]
theorem qh0 (m n:Nat):qgJ (absT m n)=Lib.decDigits m∧qn1 (absT m n)=fr 9 n:=by
 have h1:hasB 46 (Lib.decDigits m)=false:=qlN _ (qdX m) 46 (by decide)
 have h2:pos 46 (absT m n)=(Lib.decDigits m).length:=by
  rw [absT,qqF _ _ _ h1];unfold qe9;split
  ·rfl
  ·rw [qcW,if_pos rfl];rfl
 unfold qgJ qn1;rw [h2];refine ⟨by rw [absT];simp,?_⟩;rw [absT,List.drop_append,List.drop_of_length_le (by omega),List.nil_append,Nat.add_sub_cancel_left];unfold qe9;split
 ·rename_i h;subst h;rw [qm5];rfl
 ·rfl
theorem qhQ (m n:Nat):qd7 (absT m n)=false:=by
 obtain ⟨c,r,e,h1,-,-⟩:=qdM m;rw [absT,e];show (c==45)=false;rw [beq_eq_false_iff_ne];rintro rfl;exact absurd h1 (by decide)
theorem qgK (a b:Int) (h:inT a b=true): ∃m n:Nat,m<10^14∧n<10^9∧((a<0∧qc3 a b=45::absT m n∧negV m n=(a,b)∧negV a b=((m:Int),(n:Int)))∨(0≤a∧qc3 a b=absT m n∧(a,b)=((m:Int),(n:Int)))):=by
 have hr:=qw4 h;have e14:(10:Nat) ^14=100000000000000:=by decide
 have e9:(10:Nat) ^9=1000000000:=by decide
 rw [e14,e9]
 by_cases h0:a<0
 ·unfold qc3;rw [if_pos h0]
  by_cases hb:b=0
  ·subst hb;have e:negV a 0=(-a,0):=by unfold negV;rw [if_pos rfl,if_neg (by omega)]
   refine ⟨(-a).toNat,0,by omega,by omega,.inl ⟨h0,by rw [e];rfl,?_,?_⟩⟩
   ·unfold negV;rw [if_pos (show ((0:Nat):Int)=0 from rfl),if_neg (by omega)];apply Prod.ext
    ·show-((-a).toNat:Int)=a;omega
    ·rfl
   ·rw [e];apply Prod.ext
    ·show-a=((-a).toNat:Int);omega
    ·rfl
  ·have e:negV a b=(-a-1,1000000000-b):=by unfold negV;rw [if_neg hb,if_neg (by omega)]
   refine ⟨(-a-1).toNat,(1000000000-b).toNat,by omega,by omega,.inl ⟨h0,by rw [e],?_,?_⟩⟩
   ·unfold negV;rw [if_neg (by omega),if_neg (by omega)];apply Prod.ext
    ·show-((-a-1).toNat:Int) -1=a;omega
    ·show 1000000000-((1000000000-b).toNat:Int)=b;omega
   ·rw [e];apply Prod.ext
    ·show-a-1=((-a-1).toNat:Int);omega
    ·show 1000000000-b=((1000000000-b).toNat:Int);omega
 ·refine ⟨a.toNat,b.toNat,by omega,by omega,.inr ⟨by omega,by unfold qc3;rw [if_neg h0],?_⟩⟩;apply Prod.ext
  ·show a=(a.toNat:Int);omega
  ·show b=(b.toNat:Int);omega
theorem qiF (a b:Int) (h:inT a b=true):qeL (qc3 a b)=some (a,b):=by
 obtain ⟨m,n,hm,hn,⟨h0,e,e2,-⟩|⟨h0,e,e2⟩⟩:=qgK a b h
 ·have hs:qbD (45::absT m n)=absT m n:=rfl;rw [e];unfold qeL;rw [hs,(qh0 m n).1,(qh0 m n).2,qxK m hm,q37 n hn];show some (negV m n)=_;rw [e2]
 ·have hs:qbD (absT m n)=absT m n:=by unfold qbD;rw [qhQ];rfl
  rw [e];unfold qeL;rw [hs,(qh0 m n).1,(qh0 m n).2,qxK m hm,q37 n hn,qhQ];show some ((m:Int),(n:Int))=_;rw [e2]
theorem qh9 (a b:Int) (h:inT a b=true):qa8 (qc3 a b)=(a,b,0):=qjP (qiF a b h) h rfl
theorem qrT (l:List UInt8):(∃a b,inT a b=true∧qc3 a b=l∧qa8 l=(a,b,0))∨(qa8 l=(0,0,3)∧ ∀a b,inT a b=true→qc3 a b≠l):=by
 cases h:qeL l with
 |none=>exact .inr ⟨qlV h,fun a b hi e=>by rw [←e,qiF a b hi]at h;cases h⟩
 |some p=>
  obtain ⟨a,b⟩:=p
  by_cases hc:inT a b=true∧qc3 a b=l
  ·exact .inl ⟨a,b,hc.1,hc.2,qjP h hc.1 hc.2⟩
  ·refine .inr ⟨qlW h hc,fun a' b' hi e=> ?_⟩;rw [←e,qiF a' b' hi]at h;obtain ⟨rfl,rfl⟩:=Prod.mk.inj (Option.some.inj h);exact hc ⟨hi,e⟩
def isD (c:UInt8):Bool:=decide (48≤c.toNat∧c.toNat≤57)
def qbL:Nat→Nat→List UInt8→Nat×List UInt8
 |0,acc,l=>(acc,l)
 |f+1,acc, []=>(acc, [])
 |f+1,acc,c::r=>if isD c=true then qbL f (10*acc+(c.toNat-48)) r else (acc,c::r)
def qdB:Nat→Nat→List UInt8→Nat
 |0,acc,_=>acc
 |j+1,acc, []=>acc
 |j+1,acc,c::r=>if isD c=true then qdB j (acc+10^j*(c.toNat-48)) r else acc
def qbK:List UInt8→Nat
 | []=>0
 |c::r=>if c=46 then qdB 9 0 r else 0
def refV (l:List UInt8):Int×Int:=
 if qd7 l=true then
  (if qbK (qbL 14 0 (qbD l)).2=0 then (-((qbL 14 0 (qbD l)).1:Int),0)else (-((qbL 14 0 (qbD l)).1:Int) -1,1000000000-(qbK (qbL 14 0 (qbD l)).2:Int)))
 else ((qbL 14 0 (qbD l)).1,qbK (qbL 14 0 (qbD l)).2)
theorem q2V {c:UInt8} {d:Nat} (h:Lib.digitVal c=some d):isD c=true∧c.toNat-48=d:=by
 obtain ⟨h1,h2,h3⟩:=Lib.digitVal_eq h;exact ⟨decide_eq_true ⟨h1,h2⟩,h3.symm⟩
theorem q06 (l r:List UInt8) (f acc v:Nat) (h:Lib.decFrom acc l=some v) (hl:l.length≤f) (hr: ∀c t,r=c::t→isD c=false):qbL f acc (l++r)=(v,r):=by
 induction l generalizing f acc with
 |nil=>
  simp only [Lib.decFrom,Option.some.injEq]at h;subst h;cases f with
  |zero=>rfl
  |succ f=>
   cases r with
   |nil=>rfl
   |cons c t=>show qbL (f+1) acc (c::t)=_;rw [qbL,hr c t rfl];rfl
 |cons c l ih=>
  cases f with
  |zero=>simp at hl
  |succ f=>
   cases hc:Lib.digitVal c with
   |none=>simp [Lib.decFrom,hc]at h
   |some d=>
    simp only [Lib.decFrom,hc]at h;obtain ⟨h1,h2⟩:=q2V hc;rw [List.cons_append,qbL,if_pos h1,h2,Nat.mul_comm];exact ih f _ h (by simpa using hl)
theorem q08 (j m acc:Nat) (h:m<10^j):qdB j acc (fr j m)=acc+m:=by
 induction j generalizing m acc with
 |zero=>
  have:m=0:=by simpa using h
  subst this;rfl
 |succ j ih=>
  by_cases h0:m=0
  ·subst h0;rw [qm5];rfl
  ·have hd:=qhV h;have hdm:=Nat.div_add_mod m (10^j);have hD:isD (UInt8.ofNat (48+m/10^j))=true:=by unfold isD;rw [qdR _ hd];refine decide_eq_true ?_;revert hd;generalize m/10^j=q;omega
   rw [fr,if_neg h0,qdB,if_pos hD,qdR _ hd,Nat.add_sub_cancel_left,ih _ _ (qeO m j),Nat.add_assoc,hdm]
theorem qwI (m n:Nat) (hm:m<10^14) (hn:n<10^9):(qbL 14 0 (absT m n)).1=m∧qbK (qbL 14 0 (absT m n)).2=n:=by
 have h:qbL 14 0 (absT m n)=(m,qe9 n):=by
  refine q06 _ _ _ _ _ (qbR m) (qcA m 13 hm) ?_;intro c t e;unfold qe9 at e
  split at e
  ·cases e
  ·injection e with e1 _;subst e1;rfl
 rw [h];refine ⟨rfl,?_⟩;show qbK (qe9 n)=n;unfold qe9
 split
 ·rename_i e;rw [e];rfl
 ·rw [qbK,if_pos rfl,q08 9 n 0 hn,Nat.zero_add]
theorem q0Z (a b:Int) (h:inT a b=true):refV (qc3 a b)=(a,b):=by
 obtain ⟨m,n,hm,hn,⟨h0,e,e2,-⟩|⟨h0,e,e2⟩⟩:=qgK a b h
 ·have hs:qbD (45::absT m n)=absT m n:=rfl;have e14:(10:Nat) ^14=100000000000000:=by decide
  rw [e];unfold refV;rw [if_pos (show qd7 (45::absT m n)=true from rfl),hs,(qwI m n hm hn).1,(qwI m n hm hn).2,←e2];unfold negV
  by_cases hz:n=0
  ·subst hz;rw [if_pos rfl,if_pos (show ((0:Nat):Int)=0 from rfl),if_neg (by omega)]
  ·rw [if_neg hz,if_neg (by omega),if_neg (by omega)]
 ·have hs:qbD (absT m n)=absT m n:=by unfold qbD;rw [qhQ];rfl
  rw [e];unfold refV;rw [if_neg (by rw [qhQ];decide),hs,(qwI m n hm hn).1,(qwI m n hm hn).2,e2]
theorem qxV (l:List UInt8):qa8 l=if inT (refV l).1 (refV l).2=true∧qc3 (refV l).1 (refV l).2=l then ((refV l).1,(refV l).2,0)else (0,0,3):=by
 rcases qrT l with ⟨a,b,h1,h2,h3⟩|⟨h1,h2⟩
 ·have e:refV l=(a,b):=by rw [←h2,q0Z a b h1]
  rw [e,h3,if_pos ⟨h1,h2⟩]
 ·rw [h1,if_neg];rintro ⟨x,y⟩;exact h2 _ _ x y
def recN (L:Nat):Nat:=if L+1<10 then L+1 else if L+2<100 then L+2 else L+3
theorem q54 {n:Nat} (h:n<10):Lib.nDigits n=1:=Lib.nDigits_small h
theorem qyV {n:Nat} (h0:10≤n) (h:n<100):Lib.nDigits n=2:=Lib.nDigits_unique 1 n (by omega) (by omega)
theorem q17 {n:Nat} (h0:100≤n) (h:n<1000):Lib.nDigits n=3:=Lib.nDigits_unique 2 n (by omega) (by omega)
theorem qjV (L:Nat):L<recN L∧recN L≤L+3:=by
 unfold recN;split
 ·omega
 ·split<;>omega
theorem qwB (L:Nat) (h:L≤900):Lib.nDigits (recN L)+L=recN L:=by
 unfold recN
 split
 ·rw [q54 (by omega)];omega
 ·split
  ·rw [qyV (by omega) (by omega)];omega
  ·rw [q17 (by omega) (by omega)];omega
theorem qx6 (L m:Nat) (h:L≤900) (hm:m<recN L):Lib.nDigits m+L≠m:=by
 have hb:=qjV L;have hm3:m<L+3:=by omega
 clear hb;intro e;unfold recN at hm
 by_cases h1:m<10
 ·rw [q54 h1]at e
  split at hm
  ·omega
  ·split at hm<;>omega
 ·by_cases h2:m<100
  ·rw [qyV (by omega) h2]at e
   split at hm
   ·omega
   ·split at hm<;>omega
  ·rw [q17 (by omega) (by omega)]at e
   split at hm
   ·omega
   ·split at hm<;>omega
def chkR (k v:List UInt8):Int:=
 if k.length=0∨60<k.length∨500<v.length then 1
 else if hasB 61 k=true∨hasB 10 k=true∨hasB 0 v=true then 3 else 0
theorem qfF {k v:List UInt8} (h:k.length=0∨60<k.length∨500<v.length):chkR k v=1:=if_pos h
theorem qhC {k v:List UInt8} (h: ¬(k.length=0∨60<k.length∨500<v.length)) (h2:hasB 61 k=true∨hasB 10 k=true∨hasB 0 v=true):chkR k v=3:=by
 rw [chkR,if_neg h,if_pos h2]
theorem qvL {k v:List UInt8} (h: ¬(k.length=0∨60<k.length∨500<v.length)) (h2: ¬(hasB 61 k=true∨hasB 10 k=true∨hasB 0 v=true)):chkR k v=0:=by
 rw [chkR,if_neg h,if_neg h2]
theorem qeW {k v:List UInt8} (h:chkR k v=0):1≤k.length∧k.length≤60∧v.length≤500∧hasB 61 k=false∧hasB 10 k=false∧hasB 0 v=false:=by
 unfold chkR at h
 split at h
 ·cases h
 ·split at h
  ·cases h
  ·rename_i h1 h2;refine ⟨by omega,by omega,by omega,?_,?_,?_⟩
   ·cases e:hasB 61 k
    ·rfl
    ·exact absurd (.inl e) h2
   ·cases e:hasB 10 k
    ·rfl
    ·exact absurd (.inr (.inl e)) h2
   ·cases e:hasB 0 v
    ·rfl
    ·exact absurd (.inr (.inr e)) h2
def recT (k v:List UInt8):List UInt8:=32::(k++61::(v++ [10]))
def recL (k v:List UInt8):List UInt8:=Lib.decDigits (recN (k.length+v.length+3))++recT k v
theorem qp6 (k v:List UInt8):(recT k v).length=k.length+v.length+3:=by simp [recT];omega
theorem qp8 (k v:List UInt8) (h:k.length+v.length≤800):(recL k v).length=recN (k.length+v.length+3):=by
 rw [recL,List.length_append,Lib.decDigits_length,qp6];exact qwB _ (by omega)
def recW (k v:List UInt8):ByteArray×Int:=if chkR k v=0 then (bs (recL k v),0)else (⟨#[]⟩,chkR k v)
theorem qiC {k v:List UInt8} (h:chkR k v=0):recW k v=(bs (recL k v),0):=if_pos h
theorem qp5 {k v:List UInt8} (h:chkR k v≠0):recW k v=(⟨#[]⟩,chkR k v):=if_neg h
def dVal (l:List UInt8):Nat:=l.foldl (fun a c=>10*a+(c.toNat-48)) 0
theorem qtV (l:List UInt8) (c:UInt8):dVal (l++ [c])=10*dVal l+(c.toNat-48):=by simp [dVal]
theorem q3D (l:List UInt8) (acc v:Nat) (h:Lib.decFrom acc l=some v):l.foldl (fun a c=>10*a+(c.toNat-48)) acc=v:=by
 induction l generalizing acc with
 |nil=>simpa [Lib.decFrom]using h
 |cons c l ih=>
  cases hc:Lib.digitVal c with
  |none=>simp [Lib.decFrom,hc]at h
  |some d=>
   simp only [Lib.decFrom,hc]at h;rw [List.foldl_cons,(q2V hc).2,Nat.mul_comm];exact ih _ h
theorem qxG (n:Nat):dVal (Lib.decDigits n)=n:=q3D _ _ _ (qbR n)
theorem q3X (l:List UInt8) (h: ∀c∈l,isD c=true):dVal l<10^l.length:=by
 revert h
 refine qp2 (p:=fun l=>(∀c∈l,isD c=true)→dVal l<10^l.length) (fun _=>by simp [dVal]) (fun l c ih h=> ?_) l;have h1:=ih fun x hx=>h x (List.mem_append_left _ hx);have h2:=(of_decide_eq_true (h c (by simp))).2;rw [qtV,List.length_append,List.length_singleton,Nat.pow_succ];omega
def digP (l:List UInt8):List UInt8:=l.takeWhile isD
theorem qrA (l:List UInt8): ∀c∈digP l,isD c=true:=by
 intro c hc;unfold digP at hc
 induction l with
 |nil=>cases hc
 |cons x l ih=>
  rw [List.takeWhile_cons]at hc
  split at hc
  ·rename_i hx;rcases List.mem_cons.1 hc with rfl|hc
   ·exact hx
   ·exact ih hc
  ·cases hc
theorem qq9 (a b:List UInt8) (ha: ∀c∈a,isD c=true) (hb: ∀c t,b=c::t→isD c=false):digP (a++b)=a:=by
 unfold digP
 induction a with
 |nil=>
  cases b with
  |nil=>rfl
  |cons c t=>rw [List.nil_append,List.takeWhile_cons,if_neg (by rw [hb c t rfl];decide)]
 |cons x a ih=>
  rw [List.cons_append,List.takeWhile_cons,if_pos (ha x (by simp)),ih fun c hc=>ha c (List.mem_cons_of_mem _ hc)]
theorem qeB (l:List UInt8):digP l=l.take (digP l).length:=by
 unfold digP
 induction l with
 |nil=>rfl
 |cons x l ih=>
  rw [List.takeWhile_cons]
  split
  ·rw [List.length_cons,List.take_succ_cons,←ih]
  ·rfl
theorem qkO (l:List UInt8):(digP l).length≤l.length:=List.Sublist.length_le (List.takeWhile_sublist _)
theorem q3V (l:List UInt8) (k:Nat) (h:k<l.length) (hk:k=(digP l).length):isD l[k]=false:=by
 induction l generalizing k with
 |nil=>cases h
 |cons x l ih=>
  unfold digP at hk;rw [List.takeWhile_cons]at hk
  split at hk
  ·rw [List.length_cons]at hk;subst hk;simp only [List.getElem_cons_succ];exact ih _ (by simpa using h) rfl
  ·rename_i hx;subst hk;simpa using hx
def qcE (l:List UInt8):Prop:=1≤(digP l).length∧(digP l).length≤4∧l.head?≠some 48∧l[(digP l).length]?=some 32
instance (l:List UInt8):Decidable (qcE l):=by unfold qcE;infer_instance
def qcK (l:List UInt8):List UInt8:=(l.take (dVal (digP l) -1)).drop ((digP l).length+1)
def recR (l:List UInt8):List UInt8×List UInt8×List UInt8×Int:=
 if¬qcE l then ([], [], [],3)
 else if l.length<dVal (digP l)then ([], [], [],7)
 else if dVal (digP l)<(digP l).length+2∨l[dVal (digP l) -1]?≠some 10 then ([], [], [],3)
 else if hasB 61 (qcK l)=false then ([], [], [],3)
 else if chkR ((qcK l).take (pos 61 (qcK l))) ((qcK l).drop (pos 61 (qcK l)+1))≠0 then ([], [], [],chkR ((qcK l).take (pos 61 (qcK l))) ((qcK l).drop (pos 61 (qcK l)+1)))
 else if recL ((qcK l).take (pos 61 (qcK l))) ((qcK l).drop (pos 61 (qcK l)+1))≠l.take (dVal (digP l))then ([], [], [],3)
 else ((qcK l).take (pos 61 (qcK l)),(qcK l).drop (pos 61 (qcK l)+1),l.drop (dVal (digP l)),0)
theorem isD_dig (n:Nat): ∀c∈Lib.decDigits n,isD c=true:=fun c hc=>decide_eq_true (qdX n c hc)
theorem qxE (n:Nat) (r:List UInt8):digP (Lib.decDigits n++32::r)=Lib.decDigits n:=
 qq9 _ _ (isD_dig n) (fun c t e=>by injection e with e _;subst e;rfl)
theorem q29 (n:Nat) (r:List UInt8) (h1:1≤n) (h2:n<10000):qcE (Lib.decDigits n++32::r):=by
 unfold qcE;rw [qxE];obtain ⟨c,t,e,-,-,hc⟩:=qdM n;refine ⟨by rw [e];simp,qcA n 3 (by omega),?_,?_⟩
 ·rw [e,List.cons_append,List.head?_cons];intro x;injection x with x;exact hc h1 (by rw [x];rfl)
 ·rw [List.getElem?_append_right (Nat.le_refl _),Nat.sub_self];rfl
theorem qsA (k v more:List UInt8) (h:chkR k v=0):recR (recL k v++more)=(k,v,more,0):=by
 obtain ⟨k1,k2,v1,hk,hk2,hv⟩:=qeW h;have hL:=qp8 k v (by omega);have hb:=qjV (k.length+v.length+3);obtain ⟨n,hn⟩: ∃n,recN (k.length+v.length+3)=n:=⟨_,rfl⟩
 have e:recL k v++more=Lib.decDigits n++32::(k++61::(v++ [10])++more):=by
  unfold recL recT;rw [hn];simp
 have eL:recL k v=Lib.decDigits n++32::(k++61::(v++ [10])):=by unfold recL recT;rw [hn]
 rw [hn]at hL hb;have hd:digP (recL k v++more)=Lib.decDigits n:=by rw [e];exact qxE _ _
 have hf:qcE (recL k v++more):=by rw [e];exact q29 _ _ (by omega) (by omega)
 have hdl:(Lib.decDigits n).length+(k.length+v.length+3)=n:=by
  rw [eL]at hL;simp at hL;omega
 have htk:(recL k v++more).take (n-1)=Lib.decDigits n++32::(k++61::v):=by
  rw [List.take_append_of_le_length (by omega),eL];have:Lib.decDigits n++32::(k++61::(v++ [10]))=(Lib.decDigits n++32::(k++61::v))++ [10]:=by simp
  rw [this,List.take_append_of_le_length (by simp;omega),List.take_of_length_le (by simp;omega)]
 have hbody:qcK (recL k v++more)=k++61::v:=by
  unfold qcK;rw [hd,qxG,htk,List.drop_append,List.drop_of_length_le (by omega),List.nil_append,Nat.add_sub_cancel_left];rfl
 have hpos:pos 61 (k++61::v)=k.length:=by rw [qqF _ _ _ hk,qcW,if_pos rfl];rfl
 have e1:(k++61::v).take k.length=k:=by simp
 have e2:(k++61::v).drop (k.length+1)=v:=by
  rw [List.drop_append,List.drop_of_length_le (by omega),List.nil_append,Nat.add_sub_cancel_left];rfl
 have hlast:(recL k v++more)[n-1]?=some 10:=by
  rw [List.getElem?_append_left (by omega),eL];have:Lib.decDigits n++32::(k++61::(v++ [10]))=(Lib.decDigits n++32::(k++61::v))++ [10]:=by simp
  rw [this,List.getElem?_append_right (by simp;omega)];have:n-1-(Lib.decDigits n++32::(k++61::v)).length=0:=by simp;omega
  rw [this];rfl
 unfold recR;rw [if_neg (by simpa using hf),hd,qxG,if_neg (by rw [List.length_append];omega),if_neg ?_,hbody,hpos,e1,e2,if_neg ?_,if_neg (by simpa using h),if_neg ?_]
 ·rw [List.drop_append,List.drop_of_length_le (by omega),List.nil_append,hL,Nat.sub_self];rfl
 ·rw [List.take_append_of_le_length (by omega),List.take_of_length_le (by omega)];simp
 ·rw [qq0,hk,qcT];simp
 ·rw [hlast];simp;omega
def numB (l:List UInt8):Bool:=decide (1≤l.length∧l.length≤4∧l.head?≠some 48) &&l.all isD
theorem qfV {l:List UInt8} (h:numB l=true):(1≤l.length∧l.length≤4∧l.head?≠some 48)∧ ∀c∈l,isD c=true:=by
 unfold numB at h;rw [Bool.and_eq_true,decide_eq_true_eq,List.all_eq_true]at h;exact h
theorem q13 {l:List UInt8} (h:1≤l.length∧l.length≤4∧l.head?≠some 48) (h2: ∀c∈l,isD c=true):numB l=true:=by
 unfold numB;rw [Bool.and_eq_true,decide_eq_true_eq,List.all_eq_true];exact ⟨h,h2⟩
theorem qvK (l:List UInt8) (acc:Nat) (h: ∀c∈l,isD c=true):Lib.decFrom acc l=some (l.foldl (fun a c=>10*a+(c.toNat-48)) acc):=by
 induction l generalizing acc with
 |nil=>rfl
 |cons c l ih=>
  have hc:=of_decide_eq_true (h c (List.mem_cons_self ..));have hv:Lib.digitVal c=some (c.toNat-48):=by unfold Lib.digitVal;rw [if_pos hc]
  simp only [Lib.decFrom,hv,List.foldl_cons];rw [Nat.mul_comm 10 acc];exact ih _ fun x hx=>h x (List.mem_cons_of_mem _ hx)
theorem q65 (l:List UInt8) (h:numB l=true):Lib.atoiAll l= .ok (dVal l:Int):=by
 obtain ⟨⟨h1,h2,h3⟩,h4⟩:=qfV h;rw [Lib.atoiAll_short l (by omega)];cases l with
 |nil=>simp at h1
 |cons c r=>
  have hc:=of_decide_eq_true (h4 c (List.mem_cons_self ..));have c1:(c==45)=false:=by rw [beq_eq_false_iff_ne];rintro rfl;revert hc;decide
  have c2:(c==43)=false:=by rw [beq_eq_false_iff_ne];rintro rfl;revert hc;decide
  have hd:Lib.decNat (c::r)=some (dVal (c::r)):=qvK (c::r) 0 h4;unfold Lib.atoi;simp only [c1,c2,hd]
  rfl
theorem qjK (l:List UInt8) (h:numB l=true):1≤dVal l∧dVal l<10000:=by
 obtain ⟨⟨h1,h2,h3⟩,h4⟩:=qfV h;constructor
 ·cases l with
  |nil=>simp at h1
  |cons c r=>
   have hc:=of_decide_eq_true (h4 c (List.mem_cons_self ..));have hc48:c.toNat≠48:=fun e=>h3 (by rw [List.head?_cons];congr 1;exact UInt8.toNat_inj.1 e)
   have key: ∀(r:List UInt8) (a:Nat),1≤a→1≤r.foldl (fun a c=>10*a+(c.toNat-48)) a:=by
    intro r
    induction r with
    |nil=>intro a ha;exact ha
    |cons x r ih=>intro a ha;rw [List.foldl_cons];exact ih _ (by omega)
   unfold dVal;rw [List.foldl_cons];exact key r _ (by omega)
 ·have:=q3X l h4;have h5:10^l.length≤10^4:=Nat.pow_le_pow_right (by omega) h2;have:(10:Nat) ^4=10000:=by decide
  omega
theorem no32 {l:List UInt8} (h: ∀c∈l,isD c=true):hasB 32 l=false:=by
 unfold hasB;rw [←Bool.not_eq_true,List.any_eq_true];rintro ⟨x,hx,e⟩;have:=h x hx;rw [eq_of_beq e]at this
 revert this;decide
theorem qoF {c:UInt8} {l:List UInt8} (h:hasB c l=true):l=l.take (pos c l)++c::l.drop (pos c l+1):=by
 rw [qdA]at h;have h':=of_decide_eq_true h
 conv=>lhs;rw [←List.take_append_drop (pos c l) l]
 congr 1
 rw [List.drop_eq_getElem_cons h',qj0 c l h']
theorem qjC (l:List UInt8):qcE l↔hasB 32 l=true∧numB (l.take (pos 32 l))=true:=by
 constructor
 ·rintro ⟨h1,h2,h3,h4⟩;obtain ⟨n,hn⟩: ∃n,(digP l).length=n:=⟨_,rfl⟩;have ht:=qeB l;have hall:=qrA l;rw [hn]at h1 h2 h4 ht
  have hlt:n<l.length:=by
   rcases Nat.lt_or_ge n l.length with h|h
   ·exact h
   ·rw [List.getElem?_eq_none h]at h4;cases h4
  rw [List.getElem?_eq_getElem hlt]at h4;have h4':=Option.some.inj h4
  have hp:pos 32 l=n:=by
   have e:l=l.take n++l.drop n:=(List.take_append_drop n l).symm;rw [e,qqF _ _ _ (no32 (by rw [←ht];exact hall)),List.length_take,List.drop_eq_getElem_cons hlt,h4',qcW,if_pos rfl];omega
  have hb:hasB 32 l=true:=by rw [qdA,hp];exact decide_eq_true hlt
  refine ⟨hb,?_⟩;rw [hp,←ht];refine q13 ⟨by omega,by omega,?_⟩ hall;rw [ht,List.head?_take];rw [if_neg (by omega)];exact h3
 ·rintro ⟨hb,hn⟩;obtain ⟨⟨h1,h2,h3⟩,h4⟩:=qfV hn;have hs:=qoF hb
  have hd:digP l=l.take (pos 32 l):=by
   conv=>lhs;rw [hs]
   exact qq9 _ _ h4 (fun c t e=>by injection e with e _;subst e;rfl)
  have hlt:pos 32 l<l.length:=by rw [qdA]at hb;exact of_decide_eq_true hb
  have hlen:(l.take (pos 32 l)).length=pos 32 l:=by rw [List.length_take];omega
  rw [hlen]at h1 h2;refine ⟨by rw [hd,hlen];exact h1,by rw [hd,hlen];exact h2,?_,?_⟩
  ·rw [List.head?_take,if_neg (by omega)]at h3;exact h3
  ·rw [hd,hlen,List.getElem?_eq_getElem hlt,qj0 32 l hlt]
theorem qm4 {l:List UInt8} (hb:hasB 32 l=true) (hn:numB (l.take (pos 32 l))=true):digP l=l.take (pos 32 l)∧(digP l).length=pos 32 l:=by
 obtain ⟨-,h4⟩:=qfV hn;have hs:=qoF hb
 have hd:digP l=l.take (pos 32 l):=by
  conv=>lhs;rw [hs]
  exact qq9 _ _ h4 (fun c t e=>by injection e with e _;subst e;rfl)
 have hlt:pos 32 l<l.length:=by rw [qdA]at hb;exact of_decide_eq_true hb
 exact ⟨hd,by rw [hd,List.length_take];omega⟩
def splB (l:List UInt8) (st:Nat):List UInt8:=Lib.trimSuffix (l.drop st) [10]
def splO (l:List UInt8) (st:Nat):Bool:=decide (st<l.length) &&(Lib.hasSuffix (l.drop st) [10] &&hasB 61 (splB l st))
def splK (l:List UInt8) (st:Nat):List UInt8:=(splB l st).take (pos 61 (splB l st))
def splV (l:List UInt8) (st:Nat):List UInt8:=(splB l st).drop (pos 61 (splB l st)+1)
theorem qv3 (l:List UInt8) (c:UInt8):Lib.hasSuffix (l++ [c]) [10]=(c==10):=by
 unfold Lib.hasSuffix;rw [Bool.eq_iff_iff,List.isSuffixOf_iff_suffix,beq_iff_eq];constructor
 ·rintro ⟨t,ht⟩;have:=List.append_inj_right' ht rfl;injection this with h _;exact h.symm
 ·rintro rfl;exact ⟨l,rfl⟩
theorem qz5 (l:List UInt8):Lib.trimSuffix (l++ [10]) [10]=l:=by
 unfold Lib.trimSuffix;rw [qv3,if_pos (by decide)];simp
theorem q4U {l:List UInt8} {n d:Nat} (h1:d+2≤n) (h2:n≤l.length):(l.take n).drop (d+1)=(l.take (n-1)).drop (d+1)++ [l[n-1]'(by omega)]:=by
 obtain ⟨m,rfl⟩: ∃m,n=m+1:=⟨n-1,by omega⟩;rw [List.take_succ_eq_append_getElem (by omega),List.drop_append_of_le_length (by rw [List.length_take];omega)]
 rfl
theorem qr4 {l:List UInt8} (hl:dVal (digP l)≤l.length):
  splO (l.take (dVal (digP l))) ((digP l).length+1)=decide (¬(dVal (digP l)<(digP l).length+2∨l[dVal (digP l) -1]?≠some 10)∧hasB 61 (qcK l)=true)∧
  (splO (l.take (dVal (digP l))) ((digP l).length+1)=true→splB (l.take (dVal (digP l))) ((digP l).length+1)=qcK l):=by
 unfold qcK;generalize (digP l).length=d;generalize dVal (digP l)=n at*
 by_cases h1:n<d+2
 ·have e:splO (l.take n) (d+1)=false:=by
   unfold splO;rw [decide_eq_false (by rw [List.length_take];omega),Bool.false_and]
  rw [e];refine ⟨(decide_eq_false (fun h=>h.1 (.inl h1))).symm,fun h=>by cases h⟩
 ·have hb:=q4U (l:=l) (n:=n) (d:=d) (by omega) hl;have hlt:n-1<l.length:=by omega
  have e:splO (l.take n) (d+1)=((l[n-1]==10) &&hasB 61 (splB (l.take n) (d+1))):=by
   unfold splO;rw [decide_eq_true (by rw [List.length_take];omega),Bool.true_and,hb,qv3]
  rw [e,List.getElem?_eq_getElem hlt]
  by_cases hc:l[n-1]=10
  ·have eB:splB (l.take n) (d+1)=(l.take (n-1)).drop (d+1):=by
    unfold splB;rw [hb,hc,qz5]
   rw [eB,hc];refine ⟨?_,fun _=>rfl⟩;rw [show ((10:UInt8)==10)=true from rfl,Bool.true_and,Bool.eq_iff_iff,decide_eq_true_eq];exact ⟨fun h=>⟨fun h'=>h'.elim (fun a=>h1 a) (fun a=>a rfl),h⟩,fun h=>h.2⟩
  ·have hc':(l[n-1]==10)=false:=by simpa using hc
   rw [hc',Bool.false_and];refine ⟨(decide_eq_false (fun h=>h.1 (.inr (fun a=>hc (Option.some.inj a))))).symm,fun h=>by cases h⟩
theorem qx5 {l:List UInt8} (h: ¬(hasB 32 l=true∧numB (l.take (pos 32 l))=true)):recR l=([], [], [],3):=by
 unfold recR;rw [if_pos (by rw [qjC];exact h)]
section
variable {l:List UInt8} {n p:Nat} (hb:hasB 32 l=true) (hn:numB (l.take (pos 32 l))=true) (hp:pos 32 l=p) (hv:dVal (l.take (pos 32 l))=n)
include hb hn hv
theorem qx4 (h:l.length<n):recR l=([], [], [],7):=by
 obtain ⟨e1,e2⟩:=qm4 hb hn;unfold recR;rw [if_neg (by rw [qjC];exact fun a=>a ⟨hb,hn⟩),if_pos (by rw [e1,hv];exact h)]
include hp
theorem qx3 (h:n≤l.length) (h2:splO (l.take n) (p+1)=false):recR l=([], [], [],3):=by
 obtain ⟨e1,e2⟩:=qm4 hb hn;have e3:dVal (digP l)=n:=by rw [e1,hv]
 have hs:=(qr4 (l:=l) (by rw [e3];exact h)).1;rw [e2,e3,hp,h2]at hs;unfold recR;rw [if_neg (by rw [qjC];exact fun a=>a ⟨hb,hn⟩),e3,if_neg (by omega),e2,hp]
 by_cases hx:n<p+2∨l[n-1]?≠some 10
 ·rw [if_pos hx]
 ·rw [if_neg hx];have:=of_decide_eq_false hs.symm
  rw [if_pos (by
   cases e:hasB 61 (qcK l)
   ·rfl
   ·exact absurd ⟨hx,e⟩ this)]
theorem ql7 (h:n≤l.length) (h2:splO (l.take n) (p+1)=true):
  recR l=if chkR (splK (l.take n) (p+1)) (splV (l.take n) (p+1))≠0 then ([], [], [],chkR (splK (l.take n) (p+1)) (splV (l.take n) (p+1)))
   else if recL (splK (l.take n) (p+1)) (splV (l.take n) (p+1))≠l.take n then ([], [], [],3)
   else (splK (l.take n) (p+1),splV (l.take n) (p+1),l.drop n,0):=by
 obtain ⟨e1,e2⟩:=qm4 hb hn;have e3:dVal (digP l)=n:=by rw [e1,hv]
 obtain ⟨hs,hB⟩:=qr4 (l:=l) (by rw [e3];exact h);rw [e2,e3,hp]at hs hB;rw [h2]at hs;obtain ⟨hx,hy⟩:=of_decide_eq_true hs.symm;have hB':=hB h2;unfold splK splV;rw [hB'];unfold recR;rw [if_neg (by rw [qjC];exact fun a=>a ⟨hb,hn⟩),e3,if_neg (by omega),e2,hp,if_neg hx,if_neg (by rw [hy];decide)]
theorem q5A (h:n≤l.length) (h2:splO (l.take n) (p+1)=true) (h3:chkR (splK (l.take n) (p+1)) (splV (l.take n) (p+1))≠0):recR l=([], [], [],chkR (splK (l.take n) (p+1)) (splV (l.take n) (p+1))):=by
 rw [ql7 hb hn hp hv h h2,if_pos h3]
theorem q49 (h:n≤l.length) (h2:splO (l.take n) (p+1)=true) (h3:chkR (splK (l.take n) (p+1)) (splV (l.take n) (p+1))=0) (h4:recL (splK (l.take n) (p+1)) (splV (l.take n) (p+1))≠l.take n):recR l=([], [], [],3):=by
 rw [ql7 hb hn hp hv h h2,if_neg (by simpa using h3),if_pos h4]
theorem q48 (h:n≤l.length) (h2:splO (l.take n) (p+1)=true) (h3:chkR (splK (l.take n) (p+1)) (splV (l.take n) (p+1))=0) (h4:recL (splK (l.take n) (p+1)) (splV (l.take n) (p+1))=l.take n):recR l=(splK (l.take n) (p+1),splV (l.take n) (p+1),l.drop n,0):=by
 rw [ql7 hb hn hp hv h h2,if_neg (by simpa using h3),if_neg (by simpa using h4)]
end
end Go.Proofs.YtapgoifimhnbdaaGreatDoor
namespace Go.Proofs.YtapgoifimhnbdaaGreatDoor
open Go.RowKit
theorem qs1 (a:List UInt8):Op.bytesLess a a=false:=by
 induction a with
 |nil=>rfl
 |cons x a ih=>simp [Op.bytesLess,ih]
theorem q2L (a b:List UInt8) (h:Op.bytesLess a b=true):Op.bytesLess b a=false:=by
 induction a generalizing b with
 |nil=>
  cases b with
  |nil=>rfl
  |cons y b=>rfl
 |cons x a ih=>
  cases b with
  |nil=>cases h
  |cons y b=>
   simp only [Op.bytesLess,Bool.or_eq_true,Bool.and_eq_true,decide_eq_true_eq,beq_iff_eq]at h;rcases h with h|⟨rfl,h⟩
   ·have h1: ¬y<x:=fun h'=>by simp only [UInt8.lt_iff_toNat_lt]at h h';omega
    have h2:(y==x)=false:=by rw [beq_eq_false_iff_ne];rintro rfl;simp only [UInt8.lt_iff_toNat_lt]at h;omega
    simp [Op.bytesLess,h1,h2]
   ·have h1: ¬x<x:=fun h'=>by simp only [UInt8.lt_iff_toNat_lt]at h';omega
    simp [Op.bytesLess,h1,ih b h]
theorem qyZ (a b:List UInt8) (h:Op.bytesLess a b=false) (hne:a≠b):Op.bytesLess b a=true:=by
 induction a generalizing b with
 |nil=>
  cases b with
  |nil=>exact absurd rfl hne
  |cons y b=>cases h
 |cons x a ih=>
  cases b with
  |nil=>rfl
  |cons y b=>
   simp only [Op.bytesLess,Bool.or_eq_false_iff,Bool.and_eq_false_iff,decide_eq_false_iff_not,beq_eq_false_iff_ne]at h;obtain ⟨h1,h2⟩:=h;simp only [Op.bytesLess,Bool.or_eq_true,Bool.and_eq_true,decide_eq_true_eq,beq_iff_eq]
   by_cases e:x=y
   ·subst e;rcases h2 with h2|h2
    ·exact absurd rfl h2
    ·exact .inr ⟨rfl,ih b h2 (fun e=>hne (by rw [e]))⟩
   ·refine .inl ?_;simp only [UInt8.lt_iff_toNat_lt]at h1⊢;have:x.toNat≠y.toNat:=fun e'=>e (UInt8.toNat_inj.1 e');omega
theorem le_less (a b:List UInt8):(Op.bytesLess a b||a==b)= !(Op.bytesLess b a):=by
 cases h:Op.bytesLess b a
 ·cases h2:Op.bytesLess a b
  ·by_cases e:a=b
   ·simp [e]
   ·rw [qyZ a b h2 e]at h;cases h
  ·simp
 ·rw [q2L b a h];have:(a==b)=false:=by rw [beq_eq_false_iff_ne];rintro rfl;rw [qs1]at h;cases h
  rw [this];rfl
abbrev Rc:Type:=List UInt8×List UInt8
def chkG:List UInt8→List Rc→Int
 |_, []=>0
 |last,r::l=>if chkR r.1 r.2≠0 then chkR r.1 r.2 else if Op.bytesLess last r.1=true then chkG r.1 l else 6
def chkP (l:List Rc):Int:=if 12<l.length then 1 else chkG [] l
theorem qrF {last:List UInt8} {r:Rc} {l:List Rc} (h:chkR r.1 r.2≠0):chkG last (r::l)=chkR r.1 r.2:=by rw [chkG,if_pos h]
theorem qkQ {last:List UInt8} {r:Rc} {l:List Rc} (h:chkR r.1 r.2=0) (h2:Op.bytesLess last r.1=false):chkG last (r::l)=6:=by rw [chkG,if_neg (by simpa using h),if_neg (by rw [h2];decide)]
theorem qnL {last:List UInt8} {r:Rc} {l:List Rc} (h:chkR r.1 r.2=0) (h2:Op.bytesLess last r.1=true):chkG last (r::l)=chkG r.1 l:=by rw [chkG,if_neg (by simpa using h),if_pos h2]
theorem qhD {l:List Rc} (h:12<l.length):chkP l=1:=if_pos h
theorem qlP {l:List Rc} (h:l.length≤12):chkP l=chkG [] l:=if_neg (by omega)
theorem q62 {last:List UInt8} {l:List Rc} (h:chkG last l=0): ∀r∈l,chkR r.1 r.2=0:=by
 induction l generalizing last with
 |nil=>intro r hr;cases hr
 |cons x l ih=>
  unfold chkG at h
  split at h
  ·rename_i h1;exact absurd h h1
  ·rename_i h1
   split at h
   ·intro r hr;rcases List.mem_cons.1 hr with rfl|hr
    ·simpa using h1
    ·exact ih h r hr
   ·cases h
theorem qdY {l:List Rc} (h:chkP l=0):l.length≤12∧chkG [] l=0∧ ∀r∈l,chkR r.1 r.2=0:=by
 by_cases hl:12<l.length
 ·rw [qhD hl]at h;cases h
 ·rw [qlP (by omega)]at h;exact ⟨by omega,h,q62 h⟩
def qbC (l:List Rc):List UInt8:=l.flatMap fun r=>recL r.1 r.2
theorem qz8:qbC []= []:=rfl
theorem qjQ (r:Rc) (l:List Rc):qbC (r::l)=recL r.1 r.2++qbC l:=rfl
theorem qz9 (a b:List Rc):qbC (a++b)=qbC a++qbC b:=by simp [qbC]
theorem qwC (k v:List UInt8):1≤(recL k v).length:=by
 unfold recL recT;rw [List.length_append,List.length_cons];omega
theorem qlX {l:List Rc} (h: ∀r∈l,chkR r.1 r.2=0):(qbC l).length≤l.length*566:=by
 induction l with
 |nil=>exact Nat.le_refl _
 |cons r l ih=>
  have h1:=ih fun x hx=>h x (List.mem_cons_of_mem _ hx);obtain ⟨-,k2,v2,-⟩:=qeW (h r (List.mem_cons_self ..));have h2:=qp8 r.1 r.2 (by omega);have h3:=qjV (r.1.length+r.2.length+3);rw [qjQ,List.length_append,List.length_cons];omega
def paxW (l:List Rc):List UInt8×Int:=if chkP l=0 then (qbC l,0)else ([],chkP l)
theorem q1O {l:List Rc} (h:chkP l=0):paxW l=(qbC l,0):=if_pos h
theorem q1P {l:List Rc} (h:chkP l≠0):paxW l=([],chkP l):=if_neg h
theorem qsB {l:List UInt8} (h:(recR l).2.2.2=0):(recR l).2.2.1.length<l.length:=by
 unfold recR at h⊢
 split at h
 ·cases h
 ·rename_i h1
  split at h
  ·cases h
  ·rename_i h2
   split at h
   ·cases h
   ·rename_i h3
    split at h
    ·cases h
    ·rename_i h4
     split at h
     ·rename_i h5;exact absurd h h5
     ·rename_i h5
      split at h
      ·cases h
      ·rename_i h6;rw [if_neg h1,if_neg h2,if_neg h3,if_neg h4,if_neg h5,if_neg h6];have hn:1≤dVal (digP l):=by omega
       show (l.drop (dVal (digP l))).length<l.length;rw [List.length_drop];omega
def rdP:Nat→List UInt8→List Rc×Int
 |0,_=>([],0)
 |_+1, []=>([],0)
 |f+1,c::l=>
  if (recR (c::l)).2.2.2≠0 then ([],(recR (c::l)).2.2.2)
  else if (rdP f (recR (c::l)).2.2.1).2≠0 then ([],(rdP f (recR (c::l)).2.2.1).2)
  else (((recR (c::l)).1,(recR (c::l)).2.1)::(rdP f (recR (c::l)).2.2.1).1,0)
theorem q5C (f g:Nat) (l:List UInt8) (hf:l.length≤f) (hg:l.length≤g):rdP f l=rdP g l:=by
 induction f generalizing g l with
 |zero=>
  have:l= []:=List.eq_nil_of_length_eq_zero (by omega);subst this;cases g<;>rfl
 |succ f ih=>
  cases l with
  |nil=>cases g<;>rfl
  |cons c l=>
   cases g with
   |zero=>simp at hg
   |succ g=>
    rw [rdP,rdP]
    by_cases h:(recR (c::l)).2.2.2=0
    ·have hr:=qsB h;simp only [List.length_cons]at hr hf hg;rw [ih g _ (by omega) (by omega)]
    ·rw [if_pos h,if_pos h]
def qbV (l:List UInt8):List Rc×Int:=rdP l.length l
def qjX (acc:List Rc) (l:List UInt8):List Rc×Int:=if (qbV l).2≠0 then ([],(qbV l).2)else (acc++(qbV l).1,0)
theorem q1A:qbV []=([],0):=rfl
theorem qjW {l:List UInt8} (hl:l≠ []) (h:(recR l).2.2.2=0):
  qbV l=if (qbV (recR l).2.2.1).2≠0 then ([],(qbV (recR l).2.2.1).2)else (((recR l).1,(recR l).2.1)::(qbV (recR l).2.2.1).1,0):=by
 cases l with
 |nil=>exact absurd rfl hl
 |cons c l=>
  have hr:=qsB h;unfold qbV;rw [List.length_cons,rdP,if_neg (by simpa using h)];rw [List.length_cons]at hr;rw [q5C l.length (recR (c::l)).2.2.1.length _ (by omega) (Nat.le_refl _)]
theorem qsE {l:List UInt8} (hl:l≠ []) (h:(recR l).2.2.2≠0):qbV l=([],(recR l).2.2.2):=by
 cases l with
 |nil=>exact absurd rfl hl
 |cons c l=>
  unfold qbV;rw [List.length_cons,rdP,if_pos h]
theorem qsF (l:List UInt8):qjX [] l=qbV l:=by
 have key:(qbV l).2=0∨(qbV l).1= []:=by
  cases l with
  |nil=>exact .inl rfl
  |cons c l=>
   by_cases h:(recR (c::l)).2.2.2=0
   ·rw [qjW (by simp) h]
    split
    ·exact .inr rfl
    ·exact .inl rfl
   ·rw [qsE (by simp) h];exact .inr rfl
 unfold qjX
 split
 ·rename_i h;rcases key with k|k
  ·exact absurd k h
  ·rw [←k]
 ·rename_i h;rw [List.nil_append];have:(qbV l).2=0:=by simpa using h
  rw [←this]
theorem qsG (acc:List Rc):qjX acc []=(acc,0):=by
 unfold qjX;rw [q1A,if_neg (by decide),List.append_nil]
theorem qsH {acc:List Rc} {l:List UInt8} (hl:l≠ []) (h:(recR l).2.2.2≠0):qjX acc l=([],(recR l).2.2.2):=by
 unfold qjX;rw [qsE hl h,if_pos h]
theorem qoJ {acc:List Rc} {l:List UInt8} (hl:l≠ []) (h:(recR l).2.2.2=0):qjX acc l=qjX (acc++ [((recR l).1,(recR l).2.1)]) (recR l).2.2.1:=by
 unfold qjX;rw [qjW hl h]
 by_cases e:(qbV (recR l).2.2.1).2=0
 ·rw [if_neg (show¬(qbV (recR l).2.2.1).2≠0 by simpa using e)];simp [e]
 ·rw [if_pos e,if_pos e,if_pos e]
def paxR (l:List UInt8):List Rc×Int:=if (qbV l).2≠0 then ([],(qbV l).2)else if chkP (qbV l).1≠0 then ([],chkP (qbV l).1)else ((qbV l).1,0)
theorem qwO {l:List UInt8} {e:Int} (h:qbV l=([],e)) (he:e≠0):paxR l=([],e):=by unfold paxR;rw [h,if_pos he]
theorem qi2 {l:List UInt8} {x:List Rc} (h:qbV l=(x,0)) (hx:chkP x≠0):paxR l=([],chkP x):=by unfold paxR;rw [h,if_neg (fun a=>a rfl),if_pos hx]
theorem qj1 {l:List UInt8} {x:List Rc} (h:qbV l=(x,0)) (hx:chkP x=0):paxR l=(x,0):=by unfold paxR;rw [h,if_neg (fun a=>a rfl),if_neg (by simpa using hx)]
theorem qx8 (x:List Rc) (h: ∀r∈x,chkR r.1 r.2=0):qbV (qbC x)=(x,0):=by
 induction x with
 |nil=>rfl
 |cons r x ih=>
  have h1:=h r (List.mem_cons_self ..);have h2:=ih fun y hy=>h y (List.mem_cons_of_mem _ hy);have hr:=qsA r.1 r.2 (qbC x) h1;rw [qjQ];rw [qjW ?_ (by rw [hr]),hr,h2,if_neg (fun a=>a rfl)];intro e;have:=congrArg List.length e;rw [List.length_append,List.length_nil]at this;have:=qwC r.1 r.2;omega
def paxF:List Rc→List UInt8→List UInt8×Bool
 | [],_=>([],false)
 |r::l,key=>if r.1=key then (r.2,true)else paxF l key
def sumB (l:List UInt8):Nat:=(l.map fun c=>c.toNat).sum
theorem qiM:sumB []=0:=rfl
theorem qiN (c:UInt8) (l:List UInt8):sumB (c::l)=c.toNat+sumB l:=by simp [sumB]
theorem qpW (a b:List UInt8):sumB (a++b)=sumB a+sumB b:=by simp [sumB]
theorem qiB (l:List UInt8):sumB l≤255*l.length:=by
 induction l with
 |nil=>exact Nat.le_refl _
 |cons c l ih=>rw [qiN,List.length_cons];have:=c.toNat_lt;omega
theorem q0G (l:List UInt8) (k:Nat) (h:k<l.length):sumB (l.take (k+1))=sumB (l.take k)+l[k].toNat:=by
 rw [List.take_succ_eq_append_getElem h,qpW,qiN,qiM];rfl
def sumK (l:List UInt8) (k:Nat):Nat:=sumB (l.take (min k 148))+32*(min k 156-148)+sumB ((l.take k).drop 156)
theorem q0F (l:List UInt8):sumK l 0=0:=by simp [sumK,qiM]
theorem sumK_in (l:List UInt8) (k:Nat) (h:148≤k) (h2:k<156):sumK l (k+1)=sumK l k+32:=by
 unfold sumK;rw [show min (k+1) 148=148 by omega,show min (k+1) 156=k+1 by omega,show min k 148=148 by omega,show min k 156=k by omega,show (l.take (k+1)).drop 156= []from List.drop_of_length_le (by rw [List.length_take];omega),show (l.take k).drop 156= []from List.drop_of_length_le (by rw [List.length_take];omega)];omega
theorem q4N (l:List UInt8) (k:Nat) (h: ¬(148≤k∧k<156)) (hk:k<l.length):sumK l (k+1)=sumK l k+l[k].toNat:=by
 unfold sumK
 by_cases h1:k<148
 ·rw [show min (k+1) 148=k+1 by omega,show min (k+1) 156=k+1 by omega,show min k 148=k by omega,show min k 156=k by omega,show (l.take (k+1)).drop 156= []from List.drop_of_length_le (by rw [List.length_take];omega),show (l.take k).drop 156= []from List.drop_of_length_le (by rw [List.length_take];omega),q0G l k hk];simp only [qiM];omega
 ·rw [show min (k+1) 148=148 by omega,show min (k+1) 156=156 by omega,show min k 148=148 by omega,show min k 156=156 by omega,List.take_succ_eq_append_getElem hk,List.drop_append_of_le_length (by rw [List.length_take];omega),qpW,qiN,qiM];omega
def sumH (l:List UInt8):Nat:=sumB (l.take 148)+256+sumB (l.drop 156)
theorem q4O (l:List UInt8) (h:l.length=512):sumK l 512=sumH l:=by
 unfold sumK sumH;rw [show l.take 512=l from List.take_of_length_le (by omega)]
 rfl
theorem sumK_le (l:List UInt8) (k:Nat) (h:k≤512):sumK l k≤512*255+256+512*255:=by
 unfold sumK;have h1:=qiB (l.take (min k 148));have h2:=qiB ((l.take k).drop 156);rw [List.length_take]at h1;rw [List.length_drop,List.length_take]at h2;omega
theorem qiA (l:List UInt8) (h:l.length=512):sumH l<262144:=by
 unfold sumH;have h1:=qiB (l.take 148);have h2:=qiB (l.drop 156);rw [List.length_take]at h1;rw [List.length_drop]at h2;omega
def sumV (l:List UInt8):Int×Int:=if l.length=512 then ((sumH l:Int),0)else (0,1)
theorem qgL {l:List UInt8} (h:l.length=512):sumV l=((sumH l:Int),0):=if_pos h
theorem qpV {l:List UInt8} (h: ¬l.length=512):sumV l=(0,1):=if_neg h
theorem qv2 (a c b:List UInt8) (ha:a.length=148) (hc:c.length=8):sumH (a++(c++b))=sumB a+256+sumB b:=by
 unfold sumH
 have e:(a++(c++b)).drop 156=b:=by
  rw [←List.append_assoc,show (156:Nat)=(a++c).length by rw [List.length_append];omega,List.drop_left]
 rw [List.take_left' ha,e]
def ckL (n:Nat):List UInt8:=D n 6++ [0]++ [32]
theorem qhW (n:Nat):(ckL n).length=8:=by simp [ckL]
theorem qmL (n:Nat) (h:n<262144):octW (n:Int) 7=(bs (D n 6++ [0]),0):=by
 rw [qi5 (by omega) ⟨by omega,by unfold most;simp;omega⟩];rfl
def ckOk (l:List UInt8):Bool:=decide ((l.take 156).drop 148=ckL (sumH l))
theorem q61 (a c b:List UInt8) (ha:a.length=148) (hc:c.length=8):ckOk (a++(c++b))=decide (c=ckL (sumB a+256+sumB b)):=by
 unfold ckOk;rw [qv2 a c b ha hc]
 have e:((a++(c++b)).take 156).drop 148=c:=by
  rw [←List.append_assoc,List.take_append_of_le_length (by rw [List.length_append];omega),List.take_of_length_le (by rw [List.length_append];omega),←ha,List.drop_left]
 rw [e]
structure HeadV where
 name:List UInt8
 pre:List UInt8
 link:List UInt8
 mode:Int
 uid:Int
 gid:Int
 size:Int
 time:Int
 typ:UInt8
 user:List UInt8
 group:List UInt8
def qaT:HeadV:=⟨[], [], [],0,0,0,0,0,0, [], []⟩
def typB (c:UInt8):Bool:=hasB c [48,49,50,53,120]
def qgE:List UInt8:= [117,115,116,97,114,0,48,48]
def qbA (w e:Int):Int:=if w=0 then e else w
def qbJ (l:List Int):Int:=l.foldl qbA 0
theorem qvE (e:Int):qbA 0 e=e:=rfl
theorem qg6 (l:List Int) (h: ∀e∈l,e=0):qbJ l=0:=by
 unfold qbJ
 induction l with
 |nil=>rfl
 |cons x l ih=>
  rw [List.foldl_cons,h x (List.mem_cons_self ..)];exact ih fun e he=>h e (List.mem_cons_of_mem _ he)
theorem qvC (l:List Int) (w:Int) (h:w≠0):l.foldl qbA w=w:=by
 induction l with
 |nil=>rfl
 |cons x l ih=>
  rw [List.foldl_cons,show qbA w x=w from if_neg h];exact ih
theorem qiK {l:List Int} (h:qbJ l=0): ∀e∈l,e=0:=by
 induction l with
 |nil=>intro e he;cases he
 |cons x l ih=>
  unfold qbJ at h ih;rw [List.foldl_cons,qvE]at h
  by_cases hx:x=0
  ·subst hx;intro e he;rcases List.mem_cons.1 he with rfl|he
   ·rfl
   ·exact ih h e he
  ·rw [qvC l x hx]at h;exact absurd h hx
def fw (l:List UInt8) (x:Int) (wh:Bool):List UInt8:=(fldW l x wh).1.data.toList
def ow (n x:Int):List UInt8:=(octW n x).1.data.toList
def qb4 (h:HeadV):List UInt8:=fw h.name 100 true++ow h.mode 8++ow h.uid 8++ow h.gid 8++ow h.size 12++ow h.time 12
def qdI (h:HeadV):List UInt8:= [h.typ]++fw h.link 100 true++qgE++fw h.user 32 false++fw h.group 32 false++ow 0 8++ow 0 8++fw h.pre 155 true++List.replicate 12 0
def qc2 (h:HeadV):List Int:= [(fldW h.name 100 true).2,(octW h.mode 8).2,(octW h.uid 8).2,(octW h.gid 8).2,(octW h.size 12).2,(octW h.time 12).2,(fldW h.link 100 true).2,(fldW h.user 32 false).2,(fldW h.group 32 false).2,(octW 0 8).2,(octW 0 8).2,(fldW h.pre 155 true).2]
def qc9 (h:HeadV):Int:=if typB h.typ=true then qbJ (qc2 h)else 2
def qf2 (h:HeadV):ByteArray×Int:=if qc9 h=0 then (bs (qb4 h++(ckL (sumB (qb4 h)+256+sumB (qdI h))++qdI h)),0)else (⟨#[]⟩,qc9 h)
theorem qdW {h:HeadV} (e:qc9 h=0):qf2 h=(bs (qb4 h++(ckL (sumB (qb4 h)+256+sumB (qdI h))++qdI h)),0):=if_pos e
theorem qlL {h:HeadV} (e:qc9 h≠0):qf2 h=(⟨#[]⟩,qc9 h):=if_neg e
theorem qg4 {l:List UInt8} {n:Nat} {wh:Bool} (h:(fldW l n wh).2=0):(fw l n wh).length=n∧hasB 0 l=false∧l.length≤n∧(wh=true∨l.length<n)∧1≤n∧n≤512∧fw l n wh=l++List.replicate (n-l.length) 0:=by
 by_cases h1:(n:Int)<1∨512<(n:Int)
 ·rw [qkJ h1]at h;cases h
 ·by_cases h2:(n:Int)<l.length∨(wh=false∧(n:Int)=l.length)
  ·rw [qm6 h1 h2]at h;cases h
  ·by_cases h3:hasB 0 l=true
   ·rw [qm7 h1 h2 h3]at h;cases h
   ·have e:fw l n wh=l++List.replicate (n-l.length) 0:=by
     unfold fw;rw [qq1 h1 h2 (by simpa using h3),Int.toNat_natCast]
    refine ⟨?_,by simpa using h3,by omega,?_,by omega,by omega,e⟩
    ·rw [e,List.length_append,List.length_replicate];omega
    ·cases wh
     ·right;rcases Nat.lt_or_ge l.length n with a|a
      ·exact a
      ·exact absurd (.inr ⟨rfl,by omega⟩) h2
     ·left;rfl
theorem qgD {v:Int} {n:Nat} (h:(octW v n).2=0):(ow v n).length=n∧2≤n∧n≤12∧0≤v∧v.toNat<8^(n-1)∧ow v n=D v.toNat (n-1)++ [0]:=by
 by_cases h1:2≤(n:Int)∧(n:Int)≤12∧0≤v∧v≤most n
 ·obtain ⟨a,b,c,d⟩:=h1
  have e:ow v n=D v.toNat (n-1)++ [0]:=by
   unfold ow;rw [qi5 ⟨a,b⟩ ⟨c,d⟩,Int.toNat_natCast]
  refine ⟨by rw [e];simp;omega,by omega,by omega,c,?_,e⟩;have:=q55 n (by omega) v c d
  rwa [Int.toNat_natCast]at this
 ·rw [qmK h1]at h;cases h
theorem qqX {h:HeadV} (e:qc9 h=0):typB h.typ=true∧ ∀x∈qc2 h,x=0:=by
 unfold qc9 at e
 split at e
 ·rename_i ht;exact ⟨ht,qiK e⟩
 ·cases e
theorem qd8 {h:HeadV} (e:qc9 h=0):(qb4 h).length=148:=by
 obtain ⟨-,he⟩:=qqX e;have h1:=(qg4 (n:=100) (he (fldW h.name 100 true).2 (by simp [qc2]))).1;have h2:=(qgD (n:=8) (he (octW h.mode 8).2 (by simp [qc2]))).1;have h3:=(qgD (n:=8) (he (octW h.uid 8).2 (by simp [qc2]))).1;have h4:=(qgD (n:=8) (he (octW h.gid 8).2 (by simp [qc2]))).1;have h5:=(qgD (n:=12) (he (octW h.size 12).2 (by simp [qc2]))).1;have h6:=(qgD (n:=12) (he (octW h.time 12).2 (by simp [qc2]))).1;unfold qb4;simp only [List.length_append];show (fw h.name (100:Nat) true).length+(ow h.mode (8:Nat)).length+(ow h.uid (8:Nat)).length+(ow h.gid (8:Nat)).length+(ow h.size (12:Nat)).length+(ow h.time (12:Nat)).length=148;omega
theorem qlQ {h:HeadV} (e:qc9 h=0):(qdI h).length=356:=by
 obtain ⟨-,he⟩:=qqX e;have h1:=(qg4 (n:=100) (he (fldW h.link 100 true).2 (by simp [qc2]))).1;have h2:=(qg4 (n:=32) (he (fldW h.user 32 false).2 (by simp [qc2]))).1;have h3:=(qg4 (n:=32) (he (fldW h.group 32 false).2 (by simp [qc2]))).1;have h4:=(qgD (n:=8) (he (octW 0 8).2 (by simp [qc2]))).1;have h5:=(qg4 (n:=155) (he (fldW h.pre 155 true).2 (by simp [qc2]))).1;unfold qdI qgE;simp only [List.length_append,List.length_cons,List.length_nil,List.length_replicate];show 0+1+(fw h.link (100:Nat) true).length+8+(fw h.user (32:Nat) false).length+(fw h.group (32:Nat) false).length+(ow 0 (8:Nat)).length+(ow 0 (8:Nat)).length+(fw h.pre (155:Nat) true).length+12=356;omega
theorem qmV {h:HeadV} (e:qc9 h=0):(qb4 h++(ckL (sumB (qb4 h)+256+sumB (qdI h))++qdI h)).length=512∧ckOk (qb4 h++(ckL (sumB (qb4 h)+256+sumB (qdI h))++qdI h))=true:=by
 have h1:=qd8 e;have h2:=qlQ e;refine ⟨?_,?_⟩
 ·rw [List.length_append,List.length_append,qhW,h1,h2]
 ·rw [q61 _ _ _ h1 (qhW _)];exact decide_eq_true rfl
def sl (l:List UInt8) (a b:Nat):List UInt8:=(l.take b).drop a
theorem qgO (l:List UInt8) (a b:Nat) (h:b≤l.length):(sl l a b).length=b-a:=by
 unfold sl;rw [List.length_drop,List.length_take];omega
theorem sl_flat (ps:List (List UInt8)) (i:Nat) (hi:i<ps.length) (a b:Nat) (ha:a=((ps.take i).map List.length).sum) (hb:b=a+ps[i].length):sl ps.flatten a b=ps[i]:=by
 have e:ps.flatten=(ps.take i).flatten++(ps[i]++(ps.drop (i+1)).flatten):=by
  conv=>lhs;rw [←List.take_append_drop i ps,List.drop_eq_getElem_cons hi,List.flatten_append,List.flatten_cons]
 have hl:(ps.take i).flatten.length=a:=by rw [List.length_flatten,ha]
 unfold sl;rw [e,←List.append_assoc,List.take_append_of_le_length (by rw [List.length_append];omega),List.take_of_length_le (by rw [List.length_append];omega),←hl,List.drop_left]
def qt5:List UInt8:= [48,48,48,48,48,48,48,0,48,48,48,48,48,48,48,0]
def rdS (l:List UInt8) (a b:Nat) (wh:Bool):List UInt8:=(fldR (sl l a b) wh).1.data.toList
def qiD (l:List UInt8):HeadV:=
 ⟨rdS l 0 100 true,rdS l 345 500 true,rdS l 157 257 true,(octR (sl l 100 108)).1,(octR (sl l 108 116)).1,(octR (sl l 116 124)).1,(octR (sl l 124 136)).1,(octR (sl l 136 148)).1,l.getD 156 0,rdS l 265 297 false,rdS l 297 329 false⟩
def bad (b:Bool):Int:=if b=true then 0 else 3
def qf7 (l:List UInt8):List Int:=
 [(fldR (sl l 0 100) true).2,(octR (sl l 100 108)).2,(octR (sl l 108 116)).2,(octR (sl l 116 124)).2,(octR (sl l 124 136)).2,(octR (sl l 136 148)).2,bad (typB (l.getD 156 0)),(fldR (sl l 157 257) true).2,bad (decide (sl l 257 265=qgE)),
  (fldR (sl l 265 297) false).2,(fldR (sl l 297 329) false).2,bad (decide (sl l 329 345=qt5)),(fldR (sl l 345 500) true).2,bad (decide (sl l 500 512=List.replicate 12 0))]
def qbW (l:List UInt8):HeadV×Int:=
 if l.length≠512 then (qaT,1)else if ckOk l=false then (qaT,8)else if qbJ (qf7 l)≠0 then (qaT,qbJ (qf7 l))else (qiD l,0)
theorem qo2 {l:List UInt8} (h:l.length≠512):qbW l=(qaT,1):=if_pos h
theorem qs5 {l:List UInt8} (h:l.length=512) (h2:ckOk l=false):qbW l=(qaT,8):=by rw [qbW,if_neg (by simpa using h),if_pos h2]
theorem qmW {l:List UInt8} (h:l.length=512) (h2:ckOk l=true) (h3:qbJ (qf7 l)≠0):qbW l=(qaT,qbJ (qf7 l)):=by rw [qbW,if_neg (by simpa using h),if_neg (by simp [h2]),if_pos h3]
theorem qlM {l:List UInt8} (h:l.length=512) (h2:ckOk l=true) (h3:qbJ (qf7 l)=0):qbW l=(qiD l,0):=by rw [qbW,if_neg (by simpa using h),if_neg (by simp [h2]),if_neg (by simpa using h3)]
theorem qk3 {l:List Int} (h: ∀e∈l,e=0∨e=3):qbJ l=0∨qbJ l=3:=by
 unfold qbJ
 have key: ∀(l:List Int) (w:Int),(w=0∨w=3)→(∀e∈l,e=0∨e=3)→(l.foldl qbA w=0∨l.foldl qbA w=3):=by
  intro l
  induction l with
  |nil=>intro w hw _;exact hw
  |cons x l ih=>
   intro w hw h;rw [List.foldl_cons];refine ih _ ?_ fun e he=>h e (List.mem_cons_of_mem _ he);unfold qbA
   split
   ·exact h x (List.mem_cons_self ..)
   ·exact hw
 exact key l 0 (.inl rfl) h
theorem q5S (k:Nat):pos 0 (List.replicate k 0)=0:=by
 cases k with
 |zero=>rfl
 |succ k=>rw [List.replicate_succ,qcW,if_pos rfl]
theorem q4C (k:Nat):allZ (List.replicate k 0)=true:=by
 rw [qhZ,List.length_replicate];exact decide_eq_true rfl
theorem qm8 {l:List UInt8} {n:Nat} {wh:Bool} (h:(fldW l n wh).2=0):fldR (fw l n wh) wh=(bs l,0):=by
 obtain ⟨h1,h2,h3,h4,h5,h6,e⟩:=qg4 h;have hp:pos 0 (l++List.replicate (n-l.length) 0)=l.length:=by rw [qqF _ _ _ h2,q5S];rfl
 rw [e]at h1⊢;rw [qkK (by omega) ?_ ?_,hp,List.take_left]
 ·rfl
 ·rintro ⟨rfl,e2⟩;rw [hp]at e2;rcases h4 with h4|h4
  ·cases h4
  ·omega
 ·rw [hp,List.drop_left];exact q4C _
theorem qmN {v:Int} {n:Nat} (h:(octW v n).2=0):octR (ow v n)=(v,0):=by
 obtain ⟨-,h2,h3,h4,h5,e⟩:=qgD h;rw [e,octR_D _ _ (by omega) (by omega) h5,Int.toNat_of_nonneg h4]
theorem ow_zero:ow 0 8= [48,48,48,48,48,48,48,0]:=by decide+kernel
def qbB (h:HeadV) (ck:List UInt8):List (List UInt8):=
 [fw h.name (100:Nat) true,ow h.mode (8:Nat),ow h.uid (8:Nat),ow h.gid (8:Nat),ow h.size (12:Nat),ow h.time (12:Nat),ck, [h.typ],fw h.link (100:Nat) true,qgE,fw h.user (32:Nat) false,fw h.group (32:Nat) false,qt5,fw h.pre (155:Nat) true,List.replicate 12 0]
theorem qyM (h:HeadV) (ck:List UInt8):qb4 h++(ck++qdI h)=(qbB h ck).flatten:=by
 have e:ow 0 8++ow 0 8=qt5:=by rw [ow_zero];rfl
 unfold qb4 qdI qbB;rw [←e];simp
theorem qu4 {h:HeadV} (e:qc9 h=0):qbW (qb4 h++(ckL (sumB (qb4 h)+256+sumB (qdI h))++qdI h))=(h,0):=by
 obtain ⟨hlen,hck⟩:=qmV e;obtain ⟨ht,he⟩:=qqX e;have w1:=he (fldW h.name 100 true).2 (by simp [qc2]);have w2:=he (octW h.mode 8).2 (by simp [qc2]);have w3:=he (octW h.uid 8).2 (by simp [qc2]);have w4:=he (octW h.gid 8).2 (by simp [qc2]);have w5:=he (octW h.size 12).2 (by simp [qc2]);have w6:=he (octW h.time 12).2 (by simp [qc2]);have w7:=he (fldW h.link 100 true).2 (by simp [qc2]);have w8:=he (fldW h.user 32 false).2 (by simp [qc2]);have w9:=he (fldW h.group 32 false).2 (by simp [qc2]);have wA:=he (fldW h.pre 155 true).2 (by simp [qc2]);have l1:=(qg4 (n:=100) w1).1;have l2:=(qgD (n:=8) w2).1;have l3:=(qgD (n:=8) w3).1;have l4:=(qgD (n:=8) w4).1;have l5:=(qgD (n:=12) w5).1;have l6:=(qgD (n:=12) w6).1;have l7:=(qg4 (n:=100) w7).1;have l8:=(qg4 (n:=32) w8).1;have l9:=(qg4 (n:=32) w9).1;have lA:=(qg4 (n:=155) wA).1;have lk:=qhW (sumB (qb4 h)+256+sumB (qdI h));have r1:=qm8 (n:=100) w1;have r2:=qmN (n:=8) w2;have r3:=qmN (n:=8) w3;have r4:=qmN (n:=8) w4;have r5:=qmN (n:=12) w5;have r6:=qmN (n:=12) w6;have r7:=qm8 (n:=100) w7;have r8:=qm8 (n:=32) w8;have r9:=qm8 (n:=32) w9;have rA:=qm8 (n:=155) wA;generalize ckL (sumB (qb4 h)+256+sumB (qdI h))=ck at*;rw [qyM]at hlen hck⊢;have hps:(qbB h ck).length=15:=rfl;have S: ∀i (hi:i<(qbB h ck).length) a b,a=(((qbB h ck).take i).map List.length).sum→b=a+(qbB h ck)[i].length→sl (qbB h ck).flatten a b=(qbB h ck)[i]:=fun i hi a b ha hb=>sl_flat _ i hi a b ha hb;have lm:qgE.length=8:=rfl;have lz:qt5.length=16:=rfl
 have lr:(List.replicate 12 (0:UInt8)).length=12:=rfl;have s0:sl (qbB h ck).flatten 0 100=fw h.name (100:Nat) true:=S 0 (by omega) 0 100 rfl (by show 100=0+(fw h.name (100:Nat) true).length;omega);have s1:sl (qbB h ck).flatten 100 108=ow h.mode (8:Nat):=S 1 (by omega) 100 108 (by simp only [qbB,List.take_succ_cons,List.take_zero,List.map_cons,List.map_nil,List.sum_cons,List.sum_nil];omega) (by show 108=100+(ow h.mode (8:Nat)).length;omega);have s2:sl (qbB h ck).flatten 108 116=ow h.uid (8:Nat):=S 2 (by omega) 108 116 (by simp only [qbB,List.take_succ_cons,List.take_zero,List.map_cons,List.map_nil,List.sum_cons,List.sum_nil];omega) (by show 116=108+(ow h.uid (8:Nat)).length;omega);have s3:sl (qbB h ck).flatten 116 124=ow h.gid (8:Nat):=S 3 (by omega) 116 124 (by simp only [qbB,List.take_succ_cons,List.take_zero,List.map_cons,List.map_nil,List.sum_cons,List.sum_nil];omega) (by show 124=116+(ow h.gid (8:Nat)).length;omega);have s4:sl (qbB h ck).flatten 124 136=ow h.size (12:Nat):=S 4 (by omega) 124 136 (by simp only [qbB,List.take_succ_cons,List.take_zero,List.map_cons,List.map_nil,List.sum_cons,List.sum_nil];omega) (by show 136=124+(ow h.size (12:Nat)).length;omega);have s5:sl (qbB h ck).flatten 136 148=ow h.time (12:Nat):=S 5 (by omega) 136 148 (by simp only [qbB,List.take_succ_cons,List.take_zero,List.map_cons,List.map_nil,List.sum_cons,List.sum_nil];omega) (by show 148=136+(ow h.time (12:Nat)).length;omega)
 have s7:sl (qbB h ck).flatten 156 157= [h.typ]:=S 7 (by omega) 156 157 (by simp only [qbB,List.take_succ_cons,List.take_zero,List.map_cons,List.map_nil,List.sum_cons,List.sum_nil];omega) rfl;have s8:sl (qbB h ck).flatten 157 257=fw h.link (100:Nat) true:=S 8 (by omega) 157 257 (by simp only [qbB,List.take_succ_cons,List.take_zero,List.map_cons,List.map_nil,List.sum_cons,List.sum_nil,List.length_cons,List.length_nil];omega) (by show 257=157+(fw h.link (100:Nat) true).length;omega);have s9:sl (qbB h ck).flatten 257 265=qgE:=S 9 (by omega) 257 265 (by simp only [qbB,List.take_succ_cons,List.take_zero,List.map_cons,List.map_nil,List.sum_cons,List.sum_nil,List.length_cons,List.length_nil];omega) rfl;have sA:sl (qbB h ck).flatten 265 297=fw h.user (32:Nat) false:=S 10 (by omega) 265 297 (by simp only [qbB,List.take_succ_cons,List.take_zero,List.map_cons,List.map_nil,List.sum_cons,List.sum_nil,List.length_cons,List.length_nil];omega) (by show 297=265+(fw h.user (32:Nat) false).length;omega);have sB:sl (qbB h ck).flatten 297 329=fw h.group (32:Nat) false:=S 11 (by omega) 297 329 (by simp only [qbB,List.take_succ_cons,List.take_zero,List.map_cons,List.map_nil,List.sum_cons,List.sum_nil,List.length_cons,List.length_nil];omega) (by show 329=297+(fw h.group (32:Nat) false).length;omega)
 have sC:sl (qbB h ck).flatten 329 345=qt5:=S 12 (by omega) 329 345 (by simp only [qbB,List.take_succ_cons,List.take_zero,List.map_cons,List.map_nil,List.sum_cons,List.sum_nil,List.length_cons,List.length_nil];omega) rfl;have sD:sl (qbB h ck).flatten 345 500=fw h.pre (155:Nat) true:=S 13 (by omega) 345 500 (by simp only [qbB,List.take_succ_cons,List.take_zero,List.map_cons,List.map_nil,List.sum_cons,List.sum_nil,List.length_cons,List.length_nil];omega) (by show 500=345+(fw h.pre (155:Nat) true).length;omega);have sE:sl (qbB h ck).flatten 500 512=List.replicate 12 0:=S 14 (by omega) 500 512 (by simp only [qbB,List.take_succ_cons,List.take_zero,List.map_cons,List.map_nil,List.sum_cons,List.sum_nil,List.length_cons,List.length_nil];omega) rfl
 have sT:(qbB h ck).flatten.getD 156 0=h.typ:=by
  generalize (qbB h ck).flatten=l at*;have e1:(sl l 156 157)[0]?=some h.typ:=by rw [s7];rfl
  unfold sl at e1;rw [List.getElem?_drop,List.getElem?_take_of_lt (by omega)]at e1;rw [List.getD_eq_getElem?_getD,e1];rfl
 have hE:qbJ (qf7 (qbB h ck).flatten)=0:=by
  refine qg6 _ ?_;unfold qf7;rw [s0,s1,s2,s3,s4,s5,s8,s9,sA,sB,sC,sD,sE,sT,r1,r2,r3,r4,r5,r6,r7,r8,r9,rA,ht];simp [bad]
 rw [qlM hlen hck hE];unfold qiD rdS;rw [s0,s1,s2,s3,s4,s5,s8,sA,sB,sD,sT,r1,r2,r3,r4,r5,r6,r7,r8,r9,rA]
 rfl
def padN (n:Nat):Nat:=(n+511) /512
theorem qgT (n:Nat):n≤512*padN n:=by unfold padN;omega
theorem qdE (n:Nat):512*padN n<n+512:=by unfold padN;omega
theorem q5Y (k:Nat):padN (512*k)=k:=by unfold padN;omega
theorem q5X (n:Nat):padN n=if n/512*512<n then n/512+1 else n/512:=by unfold padN;split<;>omega
def padB (n:Int):Int×Int:=if 0≤n∧n<8589934592 then ((padN n.toNat:Int),0)else (0,4)
theorem qiG {n:Int} (h:0≤n∧n<8589934592):padB n=((padN n.toNat:Int),0):=if_pos h
theorem qmI {n:Int} (h: ¬(0≤n∧n<8589934592)):padB n=(0,4):=if_neg h
def padF (l:List UInt8):List UInt8:=l++List.replicate (512*padN l.length-l.length) 0
theorem qbM (l:List UInt8):(padF l).length=512*padN l.length:=by
 have:=qgT l.length;unfold padF;rw [List.length_append,List.length_replicate];omega
theorem qyQ (l:List UInt8) (k:Nat) (h:l.length=512*k):padF l=l:=by
 unfold padF;rw [h,q5Y,Nat.sub_self,List.replicate_zero,List.append_nil]
theorem q1S (l:List UInt8) (h:l.length%512≠0):padF (l++ [0])=padF l:=by
 have e:padN (l.length+1)=padN l.length:=by unfold padN;omega
 have g:=qgT l.length;have g2:l.length+1≤512*padN l.length:=by unfold padN;omega
 unfold padF;rw [List.length_append,List.length_singleton,e,List.append_assoc]
 congr 1
 obtain ⟨k,hk⟩: ∃k,512*padN l.length-l.length=k+1:=⟨512*padN l.length-l.length-1,by omega⟩;rw [hk,show 512*padN l.length-(l.length+1)=k by omega,List.replicate_succ]
 rfl
def padC (l:List UInt8) (n:Int):(List UInt8×List UInt8) ×Int:=
 if 0≤n∧n<8589934592 then
  if l.length<512*padN n.toNat then (([], []),7)
  else if allZ ((l.take (512*padN n.toNat)).drop n.toNat)=true then ((l.take n.toNat,l.drop (512*padN n.toNat)),0)else (([], []),3)
 else (([], []),4)
theorem qe5 {l:List UInt8} {n:Int} (h: ¬(0≤n∧n<8589934592)):padC l n=(([], []),4):=if_neg h
theorem qj4 {l:List UInt8} {n:Int} (h:0≤n∧n<8589934592) (h2:l.length<512*padN n.toNat):padC l n=(([], []),7):=by rw [padC,if_pos h,if_pos h2]
theorem qgU {l:List UInt8} {n:Int} (h:0≤n∧n<8589934592) (h2:512*padN n.toNat≤l.length) (h3:allZ ((l.take (512*padN n.toNat)).drop n.toNat)=false):padC l n=(([], []),3):=by
 rw [padC,if_pos h,if_neg (by omega),if_neg (by simp [h3])]
theorem qj5 {l:List UInt8} {n:Int} (h:0≤n∧n<8589934592) (h2:512*padN n.toNat≤l.length) (h3:allZ ((l.take (512*padN n.toNat)).drop n.toNat)=true):padC l n=((l.take n.toNat,l.drop (512*padN n.toNat)),0):=by
 rw [padC,if_pos h,if_neg (by omega),if_pos h3]
theorem qnY (k:Nat):allZ (List.replicate k 0)=true:=by rw [qhZ,List.length_replicate];exact decide_eq_true rfl
theorem q1V (l m:List UInt8) (h:l.length<8589934592):padC (padF l++m) (l.length:Int)=((l,m),0):=by
 have hl:=qbM l;have e1:(padF l++m).take (512*padN l.length)=padF l:=List.take_left' hl;have e2:(padF l++m).drop (512*padN l.length)=m:=by rw [←hl,List.drop_left]
 have e3:(padF l++m).take l.length=l:=by unfold padF;rw [List.append_assoc,List.take_left]
 have e4:(padF l).drop l.length=List.replicate (512*padN l.length-l.length) 0:=by unfold padF;rw [List.drop_left]
 rw [qj5 ⟨by omega,by omega⟩ (by rw [Int.toNat_natCast,List.length_append,hl];omega) (by rw [Int.toNat_natCast,e1,e4];exact qnY _),Int.toNat_natCast,e2,e3]
def kGid:List UInt8:= [103,105,100]
def qaO:List UInt8:= [103,110,97,109,101]
def qa6:List UInt8:= [108,105,110,107,112,97,116,104]
def qaM:List UInt8:= [109,116,105,109,101]
def qaZ:List UInt8:= [112,97,116,104]
def kUid:List UInt8:= [117,105,100]
def qaS:List UInt8:= [117,110,97,109,101]
def qfK:List UInt8:= [64,108,111,110,103]
def atPax:List UInt8:= [64,112,97,120]
def qkE (x:EntV):Bool:=decide (x.md.nano≠0∨x.md.second<0∨8589934592≤x.md.second)
def qaP (b:Bool) (k v:List UInt8):List Rc:=if b=true then [(k,v)]else []
def qaN (x:EntV):List Rc:=
 qaP (decide (2097152≤x.md.gid)) kGid (Lib.itoa x.md.gid)++(qaP (decide (31<x.md.group.length)) qaO x.md.group++(qaP (decide (100<x.target.length)) qa6 x.target++
 (qaP (qkE x) qaM (qcD x.md.second x.md.nano).1.data.toList++(qaP (decide ((cutV x.path).2.2≠0)) qaZ x.path++(qaP (decide (2097152≤x.md.uid)) kUid (Lib.itoa x.md.uid)++qaP (decide (31<x.md.user.length)) qaS x.md.user)))))
def typM (k:Int):UInt8:=if k=1 then 48 else if k=2 then 53 else if k=3 then 50 else 49
def qbN (x:EntV):HeadV:=
 {name:=if (cutV x.path).2.2≠0 then qfK else (cutV x.path).2.1
  pre:=(cutV x.path).1
  link:=if 100<x.target.length then qfK else x.target
  mode:=x.md.mode
  uid:=if 2097152≤x.md.uid then 0 else x.md.uid
  gid:=if 2097152≤x.md.gid then 0 else x.md.gid
  size:=x.data.length
  time:=if qkE x=true then 0 else x.md.second
  typ:=typM x.kind
  user:=if 31<x.md.user.length then []else x.md.user
  group:=if 31<x.md.group.length then []else x.md.group}
def paxH (n:Nat):HeadV:= {qaT with name:=atPax,size:=n,typ:=120}
def qa5 (x:EntV):List UInt8:=
 (if qaN x= []then []else (qf2 (paxH (paxW (qaN x)).1.length)).1.data.toList++padF (paxW (qaN x)).1)++((qf2 (qbN x)).1.data.toList++padF x.data)
theorem qiV {l:List UInt8} (h:(recR l).2.2.2=0):chkR (recR l).1 (recR l).2.1=0∧l=recL (recR l).1 (recR l).2.1++(recR l).2.2.1:=by
 unfold recR at h⊢
 split at h
 ·cases h
 ·rename_i h1
  split at h
  ·cases h
  ·rename_i h2
   split at h
   ·cases h
   ·rename_i h3
    split at h
    ·cases h
    ·rename_i h4
     split at h
     ·rename_i h5;exact absurd h h5
     ·rename_i h5
      split at h
      ·cases h
      ·rename_i h6;rw [if_neg h1,if_neg h2,if_neg h3,if_neg h4,if_neg h5,if_neg h6];refine ⟨by simpa using h5,?_⟩;have h7:=Decidable.not_not.1 h6;show l=recL _ _++l.drop (dVal (digP l));rw [h7];exact (List.take_append_drop _ _).symm
theorem quH {l:List UInt8} (h:(recR l).2.2.2≠0):recR l=([], [], [],(recR l).2.2.2):=by
 unfold recR at h⊢
 by_cases h1: ¬qcE l
 ·rw [if_pos h1]
 ·rw [if_neg h1]at h⊢
  by_cases h2:l.length<dVal (digP l)
  ·rw [if_pos h2]
  ·rw [if_neg h2]at h⊢
   by_cases h3:dVal (digP l)<(digP l).length+2∨l[dVal (digP l) -1]?≠some 10
   ·rw [if_pos h3]
   ·rw [if_neg h3]at h⊢
    by_cases h4:hasB 61 (qcK l)=false
    ·rw [if_pos h4]
    ·rw [if_neg h4]at h⊢
     by_cases h5:chkR ((qcK l).take (pos 61 (qcK l))) ((qcK l).drop (pos 61 (qcK l)+1))≠0
     ·rw [if_pos h5]
     ·rw [if_neg h5]at h⊢
      by_cases h6:recL ((qcK l).take (pos 61 (qcK l))) ((qcK l).drop (pos 61 (qcK l)+1))≠l.take (dVal (digP l))
      ·rw [if_pos h6]
      ·rw [if_neg h6]at h;exact absurd rfl h
def szR (l:List UInt8):Nat:=if (recR l).2.2.2=0 then (recL (recR l).1 (recR l).2.1).length else 0
theorem szR_no {l:List UInt8} (h:(recR l).2.2.2≠0):szR l=0:=if_neg h
theorem qoB {l:List UInt8} (h:(recR l).2.2.2=0):szR l=(recL (recR l).1 (recR l).2.1).length∧szR l+(recR l).2.2.1.length=l.length∧l.drop (szR l)=(recR l).2.2.1∧1≤szR l:=by
 obtain ⟨-,e⟩:=qiV h;have e1:szR l=(recL (recR l).1 (recR l).2.1).length:=if_pos h;refine ⟨e1,?_,?_,by rw [e1];exact qwC _ _⟩
 ·rw [e1]
  conv=>rhs;rw [e]
  rw [List.length_append]
 ·rw [e1];generalize (recR l).2.2.1=r at*;generalize recL (recR l).1 (recR l).2.1=f at*;subst e;exact List.drop_left
theorem qp7 {l:List UInt8} {m:Nat} (h:(recR (l.take m)).2.2.2=0):
  (recR l).1=(recR (l.take m)).1∧(recR l).2.1=(recR (l.take m)).2.1∧(recR l).2.2.2=0∧szR l=(l.take m).length-(recR (l.take m)).2.2.1.length:=by
 obtain ⟨hc,e⟩:=qiV h;have h2:=qoB h
 have e2:recR l=((recR (l.take m)).1,(recR (l.take m)).2.1,(recR (l.take m)).2.2.1++l.drop m,0):=by
  conv=>lhs;rw [←List.take_append_drop m l,e]
  rw [List.append_assoc];exact qsA _ _ _ hc
 have h3:(recR l).2.2.2=0:=by rw [e2]
 refine ⟨by rw [e2],by rw [e2],h3,?_⟩;rw [(qoB h3).1,e2];show (recL (recR (l.take m)).1 (recR (l.take m)).2.1).length=_;omega
theorem q33 (a:List Rc):chkP (a.take 13)=chkP a:=by
 by_cases h:a.length≤12
 ·rw [List.take_of_length_le (by omega)]
 ·rw [qhD (by rw [List.length_take];omega),qhD (by omega)]
theorem qxX {a:List Rc} (r:Rc) (h:(a.take 13).length≤12):(a++ [r]).take 13=a.take 13++ [r]:=by
 rw [List.length_take]at h;rw [List.take_of_length_le (by rw [List.length_append,List.length_singleton];omega),List.take_of_length_le (by omega)]
theorem quA {a:List Rc} (r:Rc) (h: ¬(a.take 13).length≤12):(a++ [r]).take 13=a.take 13:=by
 rw [List.length_take]at h;rw [List.take_append_of_le_length (by omega)]
theorem q0C {a:List Rc} (h:chkP a=0):a.take 13=a:=by
 obtain ⟨h1,-⟩:=qdY h;exact List.take_of_length_le (by omega)
theorem q5V {l:List UInt8} {a:List Rc} (h:qbV l=(a,0)):paxR l=if chkP (a.take 13)≠0 then ([],chkP (a.take 13))else (a.take 13,0):=by
 rw [q33]
 by_cases hc:chkP a=0
 ·rw [if_neg (by simpa using hc),q0C hc,qj1 h hc]
 ·rw [if_pos hc,qi2 h hc]
theorem qyY (a b c:List UInt8) (h:Op.bytesLess a b=true) (h2:Op.bytesLess b c=true):Op.bytesLess a c=true:=by
 induction a generalizing b c with
 |nil=>
  cases b with
  |nil=>cases h
  |cons y b=>
   cases c with
   |nil=>cases h2
   |cons z c=>rfl
 |cons x a ih=>
  cases b with
  |nil=>cases h
  |cons y b=>
   cases c with
   |nil=>cases h2
   |cons z c=>
    simp only [Op.bytesLess,Bool.or_eq_true,Bool.and_eq_true,decide_eq_true_eq,beq_iff_eq]at h h2⊢;rcases h with h|⟨rfl,h⟩
    ·rcases h2 with h2|⟨rfl,h2⟩
     ·exact .inl (by simp only [UInt8.lt_iff_toNat_lt]at*;omega)
     ·exact .inl h
    ·rcases h2 with h2|⟨rfl,h2⟩
     ·exact .inl h2
     ·exact .inr ⟨rfl,ih b c h h2⟩
theorem q3W (c:UInt8) (l:List UInt8):digL (c::l)=(decide (48≤c.toNat∧c.toNat≤55) &&digL l):=rfl
theorem quU (l:List UInt8) (hd:digL l=true) (h:qcF l=0):l=List.replicate l.length 48:=by
 induction l with
 |nil=>rfl
 |cons c l ih=>
  rw [q3W,Bool.and_eq_true,decide_eq_true_eq]at hd;rw [qmM]at h;have h1:=Nat.eq_zero_of_add_eq_zero_left h;have h2:(c.toNat-48)*8^l.length=0:=by omega
  have h3:c.toNat-48=0:=by
   rcases Nat.mul_eq_zero.1 h2 with a|a
   ·exact a
   ·have:=Nat.pow_pos (a:=8) (n:=l.length) (by omega);omega
  have h4:c=48:=UInt8.toNat_inj.1 (by show c.toNat=48;omega);rw [List.length_cons,List.replicate_succ,←ih hd.2 h1,h4]
theorem q53 (l:List UInt8) (h:2≤l.length∧l.length≤12):(octR l).2=0∨(octR l).2=3:=by
 unfold octR;rw [if_pos h]
 split
 ·exact .inl rfl
 ·exact .inr rfl
theorem q6T (l:List UInt8) (wh:Bool) (h:1≤l.length∧l.length≤512):(fldR l wh).2=0∨(fldR l wh).2=3:=by
 unfold fldR;rw [if_neg (by omega)]
 split
 ·exact .inr rfl
 ·exact .inl rfl
theorem qf9 (b:Bool):bad b=0∨bad b=3:=by cases b<;>simp [bad]
theorem q64 (b:Bool):bad b=0↔b=true:=by cases b<;>simp [bad]
def qz2:List UInt8:= [48,48,48,48,48,48,48,0]
theorem qoV (l:List UInt8) (hl:l.length=8):((octR l).2=0∧(octR l).1=0)↔l=qz2:=by
 constructor
 ·rintro ⟨h1,h2⟩
  by_cases h:digL (l.take (l.length-1))=true∧l.getD (l.length-1) 1=0
  ·rw [qlJ (by omega) h.1 h.2]at h2;have h3:=quU _ h.1 (by simpa using h2);have e:=h.2;rw [hl]at h3 e;rw [List.length_take,hl]at h3;rw [List.getD_eq_getElem?_getD,List.getElem?_eq_getElem (by omega)]at e
   have e2:l=l.take 7++ [l[7]]:=by
    conv=>lhs;rw [←List.take_append_drop 7 l,List.drop_eq_getElem_cons (by omega),List.drop_of_length_le (by omega)]
   rw [e2,h3];simp only [Option.getD_some]at e;rw [e];rfl
  ·rw [qj7 (by omega) h]at h1;cases h1
 ·rintro rfl;exact ⟨by decide+kernel,by decide+kernel⟩
def qvI (l:List UInt8):List Int:=
 [(fldR (sl l 0 100) true).2,(octR (sl l 100 108)).2,(octR (sl l 108 116)).2,(octR (sl l 116 124)).2,(octR (sl l 124 136)).2,(octR (sl l 136 148)).2,bad (typB (l.getD 156 0)),(fldR (sl l 157 257) true).2,bad (decide (sl l 257 265=qgE)),
  (fldR (sl l 265 297) false).2,(fldR (sl l 297 329) false).2,(octR (sl l 329 337)).2,bad (decide ((octR (sl l 329 337)).1=0)),(octR (sl l 337 345)).2,bad (decide ((octR (sl l 337 345)).1=0)),(fldR (sl l 345 500) true).2,bad (decide (sl l 500 512=List.replicate 12 0))]
theorem sl_app (l:List UInt8) (a b c:Nat) (h1:a≤b) (h2:b≤c):sl l a c=sl l a b++sl l b c:=by
 unfold sl;have e:l.take b=(l.take c).take b:=by rw [List.take_take,Nat.min_eq_left h2]
 rw [e];generalize l.take c=m;rcases Nat.lt_or_ge m.length b with h|h
 ·rw [List.take_of_length_le (by omega:m.length≤b),List.drop_of_length_le (show m.length≤b by omega),List.append_nil]
 ·conv=>lhs;rw [←List.take_append_drop b m]
  rw [List.drop_append_of_le_length (by rw [List.length_take];omega)]
theorem zero16 (l:List UInt8) (h:l.length=512):(sl l 329 345=qt5)↔(sl l 329 337=qz2∧sl l 337 345=qz2):=by
 rw [sl_app l 329 337 345 (by omega) (by omega),show qt5=qz2++qz2 from rfl];have h1:=qgO l 329 337 (by omega);constructor
 ·intro e;exact List.append_inj e (by rw [h1];rfl)
 ·rintro ⟨a,b⟩;rw [a,b]
theorem qvD {a b:List Int} (ha: ∀e∈a,e=0∨e=3) (hb: ∀e∈b,e=0∨e=3) (h:(∀e∈a,e=0)↔(∀e∈b,e=0)):qbJ a=qbJ b:=by
 rcases qk3 ha with h1|h1
 ·rw [h1,qg6 b (h.1 (qiK h1))]
 ·rcases qk3 hb with h2|h2
  ·rw [h2,qg6 a (h.2 (qiK h2))]
  ·rw [h1,h2]
theorem qnE (l:List UInt8) (h:l.length=512):qbJ (qvI l)=qbJ (qf7 l):=by
 have F: ∀a b wh,a<b→b≤512→(fldR (sl l a b) wh).2=0∨(fldR (sl l a b) wh).2=3:=fun a b wh h1 h2=>q6T _ _ (by rw [qgO _ _ _ (by omega)];omega);have O: ∀a b,a+2≤b→b≤a+12→b≤512→(octR (sl l a b)).2=0∨(octR (sl l a b)).2=3:=fun a b h1 h2 h3=>q53 _ (by rw [qgO _ _ _ (by omega)];omega);have z1:=qoV (sl l 329 337) (by rw [qgO _ _ _ (by omega)]);have z2:=qoV (sl l 337 345) (by rw [qgO _ _ _ (by omega)]);have z3:=zero16 l h;refine qvD ?_ ?_ ?_
 ·simp only [qvI,List.mem_cons,List.not_mem_nil,or_false,forall_eq_or_imp,forall_eq];exact ⟨F _ _ _ (by omega) (by omega),O _ _ (by omega) (by omega) (by omega),O _ _ (by omega) (by omega) (by omega),O _ _ (by omega) (by omega) (by omega),O _ _ (by omega) (by omega) (by omega),O _ _ (by omega) (by omega) (by omega),qf9 _,F _ _ _ (by omega) (by omega),qf9 _,F _ _ _ (by omega) (by omega),F _ _ _ (by omega) (by omega),O _ _ (by omega) (by omega) (by omega),qf9 _,O _ _ (by omega) (by omega) (by omega),qf9 _,F _ _ _ (by omega) (by omega),qf9 _⟩
 ·simp only [qf7,List.mem_cons,List.not_mem_nil,or_false,forall_eq_or_imp,forall_eq];exact ⟨F _ _ _ (by omega) (by omega),O _ _ (by omega) (by omega) (by omega),O _ _ (by omega) (by omega) (by omega),O _ _ (by omega) (by omega) (by omega),O _ _ (by omega) (by omega) (by omega),O _ _ (by omega) (by omega) (by omega),qf9 _,F _ _ _ (by omega) (by omega),qf9 _,F _ _ _ (by omega) (by omega),F _ _ _ (by omega) (by omega),qf9 _,F _ _ _ (by omega) (by omega),qf9 _⟩
 ·simp only [qvI,qf7,List.mem_cons,List.not_mem_nil,or_false,forall_eq_or_imp,forall_eq,q64,decide_eq_true_eq,z3,←z1,←z2];constructor
  ·rintro ⟨a1,a2,a3,a4,a5,a6,a7,a8,a9,aA,aB,aC,aD,aE,aF,aG,aH⟩;exact ⟨a1,a2,a3,a4,a5,a6,a7,a8,a9,aA,aB,⟨⟨aC,aD⟩,aE,aF⟩,aG,aH⟩
  ·rintro ⟨a1,a2,a3,a4,a5,a6,a7,a8,a9,aA,aB,⟨⟨aC,aD⟩,aE,aF⟩,aG,aH⟩;exact ⟨a1,a2,a3,a4,a5,a6,a7,a8,a9,aA,aB,aC,aD,aE,aF,aG,aH⟩
theorem bs_take (l:List UInt8) (k n:Nat) (h:k+n≤l.length):(bs (l.drop k)).extract 0 n=bs (sl l k (k+n)):=by
 apply ByteArray.ext;apply Array.toList_inj.1;rw [ByteArray.data_extract,Array.toList_extract];simp [List.extract,bs,sl,List.take_drop]
theorem bs_drop (l:List UInt8) (k n:Nat):(bs (l.drop k)).extract n (bs (l.drop k)).size=bs (l.drop (k+n)):=by
 apply ByteArray.ext;apply Array.toList_inj.1;rw [ByteArray.data_extract,Array.toList_extract,qaB];simp [List.extract,bs];rw [List.take_of_length_le (by simp;omega)]
theorem fw_le (l:List UInt8) (x:Int) (wh:Bool):(fw l x wh).length≤512:=by
 unfold fw fldW
 split
 ·simp
 ·split
  ·simp
  ·split
   ·simp
   ·rename_i h1 h2 h3;simp only [List.length_append,List.length_replicate];omega
theorem ow_le (n x:Int):(ow n x).length≤512:=by
 unfold ow octW
 split
 ·simp only [List.length_append,D_length,List.length_cons,List.length_nil];omega
 ·simp
theorem qo4 {c:UInt8} {a b:List UInt8} (h:hasB c a=false) (hs: ∀x∈b,x∈a):hasB c b=false:=
 (qhS c b).2 fun x hx=>(qhS c a).1 h x (hs x hx)
structure GoodT (x:EntV):Prop where
 path:1≤x.path.length∧x.path.length≤400∧hasB 0 x.path=false
 target:x.target.length≤400∧hasB 0 x.target=false
 data:x.data.length≤2000
 kind:1≤x.kind∧x.kind≤4
 mode:0≤x.md.mode∧x.md.mode≤4095
 uid:0≤x.md.uid∧x.md.uid≤1125899906842624
 gid:0≤x.md.gid∧x.md.gid≤1125899906842624
 user:x.md.user.length≤60∧hasB 0 x.md.user=false
 group:x.md.group.length≤60∧hasB 0 x.md.group=false
 time:inT x.md.second x.md.nano=true
theorem qmE {p:List UInt8} (h:qc6 p=0):1≤p.length∧p.length≤400∧hasB 0 p=false:=by
 unfold qc6 at h
 split at h
 ·cases h
 ·rename_i h1
  split at h
  ·cases h
  ·rename_i h2;exact ⟨by omega,by omega,by simpa using h2⟩
theorem qbU {x:EntV} (h:entE x=0):GoodT x:=by
 obtain ⟨h1,h2,h3⟩:=qdF h
 have hm:((0≤x.md.mode∧x.md.mode≤4095)∧(0≤x.md.uid∧x.md.uid≤1125899906842624)∧(0≤x.md.gid∧x.md.gid≤1125899906842624))∧(x.md.user.length≤60∧x.md.group.length≤60)∧(hasB 0 x.md.user=false∧hasB 0 x.md.group=false)∧inT x.md.second x.md.nano=true:=by
  unfold metE at h2
  split at h2
  ·rename_i a;rw [Bool.and_eq_true,Bool.and_eq_true]at a;obtain ⟨⟨a1,a2⟩,a3⟩:=a
   split at h2
   ·cases h2
   ·rename_i b
    split at h2
    ·cases h2
    ·rename_i c;have c':(hasB 0 x.md.user||hasB 0 x.md.group)=false:=by simpa using c
     rw [Bool.or_eq_false_iff]at c';refine ⟨⟨of_decide_eq_true a1,of_decide_eq_true a2,of_decide_eq_true a3⟩,by omega,c',?_⟩;unfold inE at h2
     split at h2
     ·assumption
     ·cases h2
  ·cases h2
 have hk:(1≤x.kind∧x.kind≤4)∧x.data.length≤2000∧x.target.length≤400∧hasB 0 x.target=false:=by
  unfold entK at h3
  split at h3
  ·cases h3
  ·rename_i a
   split at h3
   ·cases h3
   ·split at h3
    ·cases h3
    ·rename_i c
     split at h3
     ·exact ⟨by omega,by omega,by omega,(qmE h3).2.2⟩
     ·split at h3
      ·cases h3
      ·rename_i d;exact ⟨by omega,by omega,by omega,by simpa using d⟩
 exact ⟨qmE h1,⟨hk.2.2.1,hk.2.2.2⟩,hk.2.1,hk.1,hm.1.1,hm.1.2.1,hm.1.2.2,⟨hm.2.1.1,hm.2.2.1.1⟩,⟨hm.2.1.2,hm.2.2.1.2⟩,hm.2.2.2⟩
theorem qtW {l:List UInt8} (h:hasB 0 l=false):(cutV l).1.length≤155∧(cutV l).2.1.length≤100∧hasB 0 (cutV l).1=false∧hasB 0 (cutV l).2.1=false:=by
 unfold cutV
 split
 ·exact ⟨by simp,by simp,rfl,rfl⟩
 ·split
  ·rename_i h1;exact ⟨by simp,h1,rfl,h⟩
  ·split
   ·rename_i k hk;have hb:=qq3 (qrE hk);exact ⟨by simp only [List.length_take];omega,by simp only [List.length_drop];omega,qo4 h fun x hx=>List.mem_of_mem_take hx,qo4 h fun x hx=>List.mem_of_mem_drop hx⟩
   ·exact ⟨by simp,by simp,rfl,rfl⟩
theorem qh4:most 8=2097151:=by decide
theorem qqK:most 12=8589934591:=by decide
theorem qh5 {l:List UInt8} {x:Int} {wh:Bool} (h:1≤x∧x≤512) (hl:(l.length:Int)≤x∧(wh=false→(l.length:Int)≠x)) (h0:hasB 0 l=false):(fldW l x wh).2=0:=by
 rw [qq1 (by omega) (by rintro (a|⟨a,b⟩);omega;exact hl.2 a b.symm) h0]
theorem qeN {n x:Int} (h:2≤x∧x≤12) (hn:0≤n∧n≤most x):(octW n x).2=0:=by rw [qi5 h hn]
theorem qjB {x:EntV} (h:entE x=0):qc9 (qbN x)=0:=by
 have g:=qbU h;obtain ⟨c1,c2,c3,c4⟩:=qtW g.path.2.2
 have ht:typB (typM x.kind)=true:=by
  unfold typM
  split
  ·decide
  ·split
   ·decide
   ·split<;>decide
 unfold qc9;rw [if_pos (show typB (qbN x).typ=true from ht)];refine qg6 _ fun e he=> ?_;unfold qc2 qbN at he;simp only [List.mem_cons,List.not_mem_nil,or_false]at he;have i1:=qw4 g.time;rcases he with rfl|rfl|rfl|rfl|rfl|rfl|rfl|rfl|rfl|rfl|rfl|rfl
 ·refine qh5 (by omega) ?_ ?_
  ·split
   ·exact ⟨by decide,fun h=>by cases h⟩
   ·exact ⟨by omega,fun h=>by cases h⟩
  ·split
   ·decide
   ·exact c4
 ·exact qeN (by omega) (by rw [qh4];have:=g.mode;omega)
 ·refine qeN (by omega) (by rw [qh4];have:=g.uid;split<;>omega)
 ·refine qeN (by omega) (by rw [qh4];have:=g.gid;split<;>omega)
 ·exact qeN (by omega) (by rw [qqK];have:=g.data;omega)
 ·refine qeN (by omega) ?_;rw [qqK]
  split
  ·omega
  ·rename_i hl;unfold qkE at hl;have hl2: ¬(x.md.nano≠0∨x.md.second<0∨8589934592≤x.md.second):=by simpa using hl
   omega
 ·refine qh5 (by omega) ?_ ?_
  ·split
   ·exact ⟨by decide,fun h=>by cases h⟩
   ·exact ⟨by omega,fun h=>by cases h⟩
  ·split
   ·decide
   ·exact g.target.2
 ·refine qh5 (by omega) ?_ ?_
  ·split
   ·exact ⟨by decide,fun _=>by decide⟩
   ·exact ⟨by omega,fun _=>by omega⟩
  ·split
   ·decide
   ·exact g.user.2
 ·refine qh5 (by omega) ?_ ?_
  ·split
   ·exact ⟨by decide,fun _=>by decide⟩
   ·exact ⟨by omega,fun _=>by omega⟩
  ·split
   ·decide
   ·exact g.group.2
 ·exact qeN (by omega) (by rw [qh4];omega)
 ·exact qeN (by omega) (by rw [qh4];omega)
 ·exact qh5 (by omega) ⟨by omega,fun h=>by cases h⟩ c3
def qx2 (L:List (Bool×List UInt8×List UInt8)):List Rc:=L.flatMap fun t=>qaP t.1 t.2.1 t.2.2
theorem qwA (x:EntV):qaN x=qx2 [(decide (2097152≤x.md.gid),kGid,Lib.itoa x.md.gid),(decide (31<x.md.group.length),qaO,x.md.group),(decide (100<x.target.length),qa6,x.target),(qkE x,qaM,(qcD x.md.second x.md.nano).1.data.toList),
  (decide ((cutV x.path).2.2≠0),qaZ,x.path),(decide (2097152≤x.md.uid),kUid,Lib.itoa x.md.uid),(decide (31<x.md.user.length),qaS,x.md.user)]:=by
 unfold qaN qx2;simp only [List.flatMap_cons,List.flatMap_nil,List.append_nil]
theorem chk3 (L:List (Bool×List UInt8×List UInt8)): ∀(last:List UInt8),(∀t∈L,Op.bytesLess last t.2.1=true)→L.Pairwise (fun a b=>Op.bytesLess a.2.1 b.2.1=true)→(∀t∈L,t.1=true→chkR t.2.1 t.2.2=0)→chkG last (qx2 L)=0:=by
 induction L with
 |nil=>intro last _ _ _;rfl
 |cons t L ih=>
  intro last hs hp hc;rw [List.pairwise_cons]at hp;show chkG last (qaP t.1 t.2.1 t.2.2++qx2 L)=0;have hc':=fun u hu=>hc u (List.mem_cons_of_mem _ hu);unfold qaP
  by_cases hb:t.1=true
  ·rw [if_pos hb,List.singleton_append];rw [qnL (hc t List.mem_cons_self hb) (hs t List.mem_cons_self)];exact ih _ hp.1 hp.2 hc'
  ·rw [if_neg hb,List.nil_append];exact ih _ (fun u hu=>hs u (List.mem_cons_of_mem _ hu)) hp.2 hc'
theorem q02 (L:List (Bool×List UInt8×List UInt8)):(qx2 L).length≤L.length:=by
 induction L with
 |nil=>exact Nat.le_refl _
 |cons t L ih=>
  show (qaP t.1 t.2.1 t.2.2++qx2 L).length≤_;rw [List.length_append,List.length_cons];have:(qaP t.1 t.2.1 t.2.2).length≤1:=by unfold qaP;split<;>simp
  omega
theorem qwY {n:Int} (h:0≤n) (h2:n≤1125899906842624):(Lib.itoa n).length≤16∧hasB 0 (Lib.itoa n)=false:=by
 have e:Lib.itoa n=Lib.decDigits n.toNat:=by unfold Lib.itoa;rw [if_neg (by omega)]
 rw [e];exact ⟨qcA _ 15 (by omega),qlN _ (qdX _) 0 (by decide)⟩
theorem qlB {a b:Int} (h:inT a b=true):(qcD a b).1.data.toList=qc3 a b:=by
 unfold qcD;rw [if_pos h,qaH]
theorem q7C (m n:Nat) (h:n<10^9):hasB 0 (absT m n)=false:=by
 unfold absT;rw [qq0,qlN _ (qdX _) 0 (by decide),Bool.false_or];unfold qe9
 split
 ·rfl
 ·rw [qcT,qlN _ (q71 9 n h) 0 (by decide)];rfl
theorem q0A {a b:Int} (h:inT a b=true):(qc3 a b).length≤25∧hasB 0 (qc3 a b)=false:=by
 obtain ⟨m,n,hm,hn,hc⟩:=qgK a b h;have hl:=q7D m n hm;have h0:=q7C m n hn;rcases hc with ⟨-,e,-⟩|⟨-,e,-⟩
 ·rw [e];exact ⟨by rw [List.length_cons];omega,by rw [qcT,h0];rfl⟩
 ·rw [e];exact ⟨by omega,h0⟩
theorem qiU {x:EntV} (h:entE x=0):chkP (qaN x)=0:=by
 have g:=qbU h
 have hlen:(qaN x).length≤12:=by
  rw [qwA];refine Nat.le_trans (q02 _) (by simp)
 rw [qlP hlen,qwA];refine chk3 _ _ ?_ ?_ ?_
 ·intro t ht;simp only [List.mem_cons,List.not_mem_nil,or_false]at ht;rcases ht with rfl|rfl|rfl|rfl|rfl|rfl|rfl<;>(dsimp only;decide+kernel)
 ·simp only [List.pairwise_cons,List.mem_cons,List.not_mem_nil,or_false,List.Pairwise.nil,and_true];refine ⟨?_,?_,?_,?_,?_,?_,?_⟩
  ·rintro t (rfl|rfl|rfl|rfl|rfl|rfl)<;>(dsimp only;decide+kernel)
  ·rintro t (rfl|rfl|rfl|rfl|rfl)<;>(dsimp only;decide+kernel)
  ·rintro t (rfl|rfl|rfl|rfl)<;>(dsimp only;decide+kernel)
  ·rintro t (rfl|rfl|rfl)<;>(dsimp only;decide+kernel)
  ·rintro t (rfl|rfl)<;>(dsimp only;decide+kernel)
  ·rintro t rfl;dsimp only;decide+kernel
  ·intro t ht;exact ht.elim
 ·have i1:=qwY g.gid.1 g.gid.2;have i2:=qwY g.uid.1 g.uid.2;have tt:=q0A g.time;rw [←qlB g.time]at tt;intro t ht _;simp only [List.mem_cons,List.not_mem_nil,or_false]at ht
  have hx: ∀(k v:List UInt8),(1≤k.length∧k.length≤60)→hasB 61 k=false→hasB 10 k=false→v.length≤500→hasB 0 v=false→chkR k v=0:=fun k v a b c d e=>
   qvL (by omega) (by rintro (q|q|q);rw [b]at q;cases q;rw [c]at q;cases q;rw [e]at q;cases q)
  rcases ht with rfl|rfl|rfl|rfl|rfl|rfl|rfl
  ·exact hx kGid _ (by decide) (by decide) (by decide) (by show (Lib.itoa x.md.gid).length≤500;omega) i1.2
  ·exact hx qaO _ (by decide) (by decide) (by decide) (by show x.md.group.length≤500;have:=g.group;omega) g.group.2
  ·exact hx qa6 _ (by decide) (by decide) (by decide) (by show x.target.length≤500;have:=g.target;omega) g.target.2
  ·exact hx qaM _ (by decide) (by decide) (by decide) (by show (qcD x.md.second x.md.nano).1.data.toList.length≤500;have:=tt.1;omega) tt.2
  ·exact hx qaZ _ (by decide) (by decide) (by decide) (by show x.path.length≤500;have:=g.path;omega) g.path.2.2
  ·exact hx kUid _ (by decide) (by decide) (by decide) (by show (Lib.itoa x.md.uid).length≤500;omega) i2.2
  ·exact hx qaS _ (by decide) (by decide) (by decide) (by show x.md.user.length≤500;have:=g.user;omega) g.user.2
theorem qi0 {x:EntV} (h:entE x=0):paxW (qaN x)=(qbC (qaN x),0):=by unfold paxW;rw [if_pos (qiU h)]
def longM (x:EntV):Nat:=(if 2097152≤x.md.gid then 1 else 0)+(if 31<x.md.group.length then 1 else 0)+(if 100<x.target.length then 1 else 0)+(if qkE x=true then 1 else 0)+(if 2097152≤x.md.uid then 1 else 0)+(if 31<x.md.user.length then 1 else 0)
theorem q03 (b:Bool) (k v:List UInt8):(qaP b k v).length=if b=true then 1 else 0:=by unfold qaP;split<;>rfl
theorem qqW {h:HeadV} (e:qc9 h=0):(qf2 h).1.data.toList.length=512:=by
 rw [qdW e,qaH];exact (qmV e).1
theorem qiT {x:EntV} (h:entE x=0):(qbC (qaN x)).length≤6792:=by
 have h1:=qdY (qiU h);have h2:=qlX h1.2.2;omega
theorem qj2 {n:Nat} (h:n≤6792):qc9 (paxH n)=0:=by
 unfold qc9;rw [if_pos (show typB (paxH n).typ=true by show typB 120=true;decide)];refine qg6 _ fun e he=> ?_;unfold qc2 paxH qaT at he;simp only [List.mem_cons,List.not_mem_nil,or_false]at he;rcases he with rfl|rfl|rfl|rfl|rfl|rfl|rfl|rfl|rfl|rfl|rfl|rfl
 ·exact qh5 (by omega) ⟨by decide,fun h=>by cases h⟩ (by decide)
 ·exact qeN (by omega) (by rw [qh4];omega)
 ·exact qeN (by omega) (by rw [qh4];omega)
 ·exact qeN (by omega) (by rw [qh4];omega)
 ·exact qeN (by omega) (by rw [qqK];omega)
 ·exact qeN (by omega) (by rw [qqK];omega)
 ·exact qh5 (by omega) ⟨by decide,fun h=>by cases h⟩ (by decide)
 ·exact qh5 (by omega) ⟨by decide,fun _=>by decide⟩ (by decide)
 ·exact qh5 (by omega) ⟨by decide,fun _=>by decide⟩ (by decide)
 ·exact qeN (by omega) (by rw [qh4];omega)
 ·exact qeN (by omega) (by rw [qh4];omega)
 ·exact qh5 (by omega) ⟨by decide,fun h=>by cases h⟩ (by decide)
theorem qpM {x:EntV} (h:entE x=0):(qa5 x).length=512*(1+padN x.data.length)+if qaN x= []then 0 else 512*(1+padN (qbC (qaN x)).length):=by
 have h1:=qqW (qjB h);have h2:=qiT h;unfold qa5;rw [qi0 h];simp only
 split
 ·rw [List.nil_append,List.length_append,h1,qbM];omega
 ·have h3:=qqW (qj2 h2);rw [List.length_append,List.length_append,List.length_append,h1,h3,qbM,qbM];omega
def look (K:List UInt8) (l:List Rc):Option (List UInt8):=(l.find? fun r=>decide (r.1=K)).map (·.2)
theorem qgW (K:List UInt8) (b:Bool) (k v:List UInt8) (l:List Rc):look K (qaP b k v++l)=if b=true∧k=K then some v else look K l:=by
 unfold look qaP;cases b with
 |false=>rw [if_neg (by decide),if_neg (by simp),List.nil_append]
 |true=>
  rw [if_pos rfl,List.singleton_append,List.find?_cons]
  by_cases hk:k=K
  ·rw [if_pos ⟨rfl,hk⟩];simp [hk]
  ·rw [if_neg (fun h=>hk h.2)];simp [hk]
theorem qfX (K:List UInt8) (b:Bool) (k v:List UInt8):look K (qaP b k v)=if b=true∧k=K then some v else none:=by
 have:=qgW K b k v []
 rwa [List.append_nil]at this
theorem qqN (x:EntV):look kGid (qaN x)=if 2097152≤x.md.gid then some (Lib.itoa x.md.gid)else none:=by
 unfold qaN;simp only [qgW,qfX,decide_eq_true_eq];have d0:qaO≠kGid:=by decide
 have d1:qa6≠kGid:=by decide
 have d2:qaM≠kGid:=by decide
 have d3:qaZ≠kGid:=by decide
 have d4:kUid≠kGid:=by decide
 have d5:qaS≠kGid:=by decide
 simp [*]
theorem qkD (x:EntV):look qaO (qaN x)=if 31<x.md.group.length then some x.md.group else none:=by
 unfold qaN;simp only [qgW,qfX,decide_eq_true_eq];have d0:kGid≠qaO:=by decide
 have d1:qa6≠qaO:=by decide
 have d2:qaM≠qaO:=by decide
 have d3:qaZ≠qaO:=by decide
 have d4:kUid≠qaO:=by decide
 have d5:qaS≠qaO:=by decide
 simp [*]
theorem qmQ (x:EntV):look qa6 (qaN x)=if 100<x.target.length then some x.target else none:=by
 unfold qaN;simp only [qgW,qfX,decide_eq_true_eq];have d0:kGid≠qa6:=by decide
 have d1:qaO≠qa6:=by decide
 have d2:qaM≠qa6:=by decide
 have d3:qaZ≠qa6:=by decide
 have d4:kUid≠qa6:=by decide
 have d5:qaS≠qa6:=by decide
 simp [*]
theorem qkC (x:EntV):look qaM (qaN x)=if qkE x=true then some (qcD x.md.second x.md.nano).1.data.toList else none:=by
 unfold qaN;simp only [qgW,qfX,decide_eq_true_eq];have d0:kGid≠qaM:=by decide
 have d1:qaO≠qaM:=by decide
 have d2:qa6≠qaM:=by decide
 have d3:qaZ≠qaM:=by decide
 have d4:kUid≠qaM:=by decide
 have d5:qaS≠qaM:=by decide
 simp [*]
theorem qmP (x:EntV):look qaZ (qaN x)=if (cutV x.path).2.2≠0 then some x.path else none:=by
 unfold qaN;simp only [qgW,qfX,decide_eq_true_eq];have d0:kGid≠qaZ:=by decide
 have d1:qaO≠qaZ:=by decide
 have d2:qa6≠qaZ:=by decide
 have d3:qaM≠qaZ:=by decide
 have d4:kUid≠qaZ:=by decide
 have d5:qaS≠qaZ:=by decide
 simp [*]
theorem qqM (x:EntV):look kUid (qaN x)=if 2097152≤x.md.uid then some (Lib.itoa x.md.uid)else none:=by
 unfold qaN;simp only [qgW,qfX,decide_eq_true_eq];have d0:kGid≠kUid:=by decide
 have d1:qaO≠kUid:=by decide
 have d2:qa6≠kUid:=by decide
 have d3:qaM≠kUid:=by decide
 have d4:qaZ≠kUid:=by decide
 have d5:qaS≠kUid:=by decide
 simp [*]
theorem qkB (x:EntV):look qaS (qaN x)=if 31<x.md.user.length then some x.md.user else none:=by
 unfold qaN;simp only [qgW,qfX,decide_eq_true_eq];have d0:kGid≠qaS:=by decide
 have d1:qaO≠qaS:=by decide
 have d2:qa6≠qaS:=by decide
 have d3:qaM≠qaS:=by decide
 have d4:qaZ≠qaS:=by decide
 have d5:kUid≠qaS:=by decide
 simp [*]
theorem qwZ {a b:Int} (ha:0≤a) (hb:0≤b) (h:Lib.itoa a=Lib.itoa b):a=b:=by
 unfold Lib.itoa at h;rw [if_neg (by omega),if_neg (by omega)]at h;have h1:=qbR a.toNat;rw [h,qbR]at h1;injection h1 with h1
 omega
theorem q4K {a b:Int} (ha:1≤a∧a≤4) (hb:1≤b∧b≤4) (h:typM a=typM b):a=b:=by
 have:a=1∨a=2∨a=3∨a=4:=by omega
 have:b=1∨b=2∨b=3∨b=4:=by omega
 rcases ‹a=1∨a=2∨a=3∨a=4› with rfl|rfl|rfl|rfl<;>rcases ‹b=1∨b=2∨b=3∨b=4› with rfl|rfl|rfl|rfl<;>first|rfl|(exact absurd h (by decide))
theorem qnG {α β:Type} {p q:Prop} [Decidable p] [Decidable q] {u v:α} {a b z:β} (h1:(if p then some u else none)=if q then some v else none) (h2:(if p then z else a)=if q then z else b):(p∧q∧u=v)∨(¬p∧ ¬q∧a=b):=by
 by_cases hp:p
 ·rw [if_pos hp]at h1
  by_cases hq:q
  ·rw [if_pos hq]at h1;injection h1 with h1
   exact .inl ⟨hp,hq,h1⟩
  ·rw [if_neg hq]at h1;cases h1
 ·rw [if_neg hp]at h1 h2
  by_cases hq:q
  ·rw [if_pos hq]at h1;cases h1
  ·rw [if_neg hq]at h2;exact .inr ⟨hp,hq,h2⟩
theorem quZ {x y:EntV} (hx:entE x=0) (hy:entE y=0) (h1:qbN x=qbN y) (h2:qaN x=qaN y):({x with data:= [] } :EntV)= {y with data:= [] } ∧x.data.length=y.data.length:=by
 have gx:=qbU hx;have gy:=qbU hy;have hn:=congrArg HeadV.name h1;have hp:=congrArg HeadV.pre h1;have hl:=congrArg HeadV.link h1;have hm:x.md.mode=y.md.mode:=congrArg HeadV.mode h1;have hu:=congrArg HeadV.uid h1;have hg:=congrArg HeadV.gid h1;have hs:=congrArg HeadV.size h1;have ht:=congrArg HeadV.time h1;have hk:=q4K gx.kind gy.kind (congrArg HeadV.typ h1);have hus:=congrArg HeadV.user h1;have hgr:=congrArg HeadV.group h1;unfold qbN at hn hp hl hu hg hs ht hus hgr;simp only at hn hp hl hu hg hs ht hus hgr;have r1:=congrArg (look kGid) h2;have r2:=congrArg (look qaO) h2;have r3:=congrArg (look qa6) h2;have r4:=congrArg (look qaM) h2;have r5:=congrArg (look qaZ) h2;have r6:=congrArg (look kUid) h2;have r7:=congrArg (look qaS) h2;rw [qqN,qqN]at r1;rw [qkD,qkD]at r2;rw [qmQ,qmQ]at r3;rw [qkC,qkC]at r4;rw [qmP,qmP]at r5;rw [qqM,qqM]at r6;rw [qkB,qkB]at r7
 have e1:x.md.gid=y.md.gid:=by
  rcases qnG r1 hg with ⟨-,-,e⟩|⟨-,-,e⟩
  ·exact qwZ gx.gid.1 gy.gid.1 e
  ·exact e
 have e2:x.md.group=y.md.group:=by rcases qnG r2 hgr with ⟨-,-,e⟩|⟨-,-,e⟩<;>exact e
 have e3:x.target=y.target:=by rcases qnG r3 hl with ⟨-,-,e⟩|⟨-,-,e⟩<;>exact e
 have e4:x.md.second=y.md.second∧x.md.nano=y.md.nano:=by
  rcases qnG r4 ht with ⟨-,-,e⟩|⟨a,b,e⟩
  ·rw [qlB gx.time,qlB gy.time]at e;have p1:=qh9 _ _ gx.time;rw [e,qh9 _ _ gy.time]at p1;injection p1 with p1 p2
   injection p2 with p2 _
   exact ⟨p1.symm,p2.symm⟩
  ·have a': ¬(x.md.nano≠0∨x.md.second<0∨8589934592≤x.md.second):=fun h=>a (decide_eq_true h);have b': ¬(y.md.nano≠0∨y.md.second<0∨8589934592≤y.md.second):=fun h=>b (decide_eq_true h);exact ⟨e,by omega⟩
 have e5:x.path=y.path:=by
  rcases qnG r5 hn with ⟨-,-,e⟩|⟨a,b,e⟩
  ·exact e
  ·have cx:cutV x.path=((cutV x.path).1,(cutV x.path).2.1,0):=by
    have:(cutV x.path).2.2=0:=by simpa using a
    rw [←this]
   have cy:cutV y.path=((cutV y.path).1,(cutV y.path).2.1,0):=by
    have:(cutV y.path).2.2=0:=by simpa using b
    rw [←this]
   have o1:=(qrD cx).1;have o2:=(qrD cy).1;rw [hp,e,o2]at o1;injection o1 with o1 _
   exact o1.symm
 have e6:x.md.uid=y.md.uid:=by
  rcases qnG r6 hu with ⟨-,-,e⟩|⟨-,-,e⟩
  ·exact qwZ gx.uid.1 gy.uid.1 e
  ·exact e
 have e7:x.md.user=y.md.user:=by rcases qnG r7 hus with ⟨-,-,e⟩|⟨-,-,e⟩<;>exact e
 refine ⟨?_,by omega⟩;obtain ⟨xp,xk,xt,⟨x0,x1,x2,x3,x4,x5,x6⟩,xd⟩:=x;obtain ⟨yp,yk,yt,⟨y0,y1,y2,y3,y4,y5,y6⟩,yd⟩:=y;simp only at e1 e2 e3 e4 e5 e6 e7 hm hk;obtain ⟨e4,e8⟩:=e4;subst e1 e2 e3 e4 e5 e6 e7 e8 hm hk
 rfl
def rep (c d:UInt8) (l:List UInt8):List UInt8:=l.map fun x=>if x=c then d else x
def cleanL (l:List UInt8) (m:Nat):List UInt8:=(rep 0 48 l).take m
end Go.Proofs.YtapgoifimhnbdaaGreatDoor
