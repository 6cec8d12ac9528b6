/- qaX of one kind, in one file: PaxA, PaxB, PaxC, PaxD, PaxE. -/
import Derived.Test.YtapgoifimhnbdaaGreatDoorBas
import Derived.Test.YtapgoifimhnbdaaGreatDoorMth
import Derived.Test.YtapgoifimhnbdaaGreatDoorFld
import Derived.Deep.AppendLies
import Derived.Laws.OwnMore
import Derived.Deep.DeepCutAuto
import Derived.Test.YtapgoifimhnbdaaGreatDoorRca
import Derived.BigQuiet
import Derived.Test.YtapgoifimhnbdaaGreatDoorTrm
import Derived.Lib.MinMax
import Derived.OwnWalk
set_option linter.unusedVariables false
set_option maxRecDepth 100000
namespace Go.Proofs.YtapgoifimhnbdaaGreatDoor
open Go.RowKit
open Go.OpenShut
theorem qh8 (s:ByteArray):s.data.toList.length=s.size:=by simp
def qgH (w:World) (A:Option Addr) (l:List Rc):Prop:=
 ∀(j:Nat) (h:j<l.length),∃b o,A=some ⟨b,o,none⟩∧w.cell? ⟨b,o+j*2,none⟩=some (.string (bs l[j].1))∧w.cell? ⟨b,o+j*2+1,none⟩=some (.string (bs l[j].2))
def unb (r:ByteArray×ByteArray):Rc:=(r.1.data.toList,r.2.data.toList)
theorem qgH.below {w w':World} {A:Option Addr} {l:List Rc} (h:qgH w A l) (hb:Below w.heap.size w w'):qgH w' A l:=fun j hj=>by
 obtain ⟨b,o,e,h0,h1⟩:=h j hj;have hlt:b<w.heap.size:=World.block_lt_of_cell? w _ h0;exact ⟨b,o,e,(hb.cell (p:=⟨b,o+j*2,none⟩) hlt).trans h0,(hb.cell (p:=⟨b,o+j*2+1,none⟩) hlt).trans h1⟩
theorem qgH.nil (w:World) (A:Option Addr):qgH w A []:=fun j hj=>by cases hj
def SzR (l:List Rc):Prop:= ∀r∈l,r.1.length≤140737488351232∧r.2.length≤140737488351232
theorem qgH.get {w w':World} {A:Option Addr} {l:List Rc} (h:qgH w A l) (hb:Below w.heap.size w w') {n:Nat} (hn:l.length=n) (k:Nat) (hk:k<n):
  ∃b o K V,A=some ⟨b,o,none⟩∧w'.cell? ⟨b,o+k*2,none⟩=some (.string K)∧w'.cell? ⟨b,o+k*2+1,none⟩=some (.string V)∧Hid (l.drop k=(K.data.toList,V.data.toList)::l.drop (k+1))∧Hid ((K.data.toList,V.data.toList)∈l):=by
 subst hn;obtain ⟨b,o,e,h0,h1⟩:=h.below hb k hk;refine ⟨b,o,_,_,e,h0,h1,?_,?_⟩
 ·unfold Hid;rw [qaF,qaF,List.drop_eq_getElem_cons hk]
 ·unfold Hid;rw [qaF,qaF];exact List.getElem_mem _
def q1P (l:List Rc):Nat→List UInt8
 |0=> []
 |k+1=>(l[k]?.map (·.1)).getD []
theorem qrX {l:List Rc} {k:Nat} {x:Rc} {t:List Rc} (h:l.drop k=x::t):q1P l (k+1)=x.1:=by
 have e:l[k]?=some x:=by
  have:=congrArg (fun t=>t[0]?) h;simpa using this
 show (l[k]?.map (·.1)).getD []=x.1;rw [e];rfl
theorem zbF {K:List UInt8} (h:1≤K.length):Op.bytesLess [] K=true:=by
 cases K with
 |nil=>simp at h
 |cons _ _=>rfl
theorem zdZ (K L:ByteArray):(Op.bytesLess K.toList L.toList||K.toList==L.toList)= !(Op.bytesLess L.data.toList K.data.toList):=by
 rw [Lib.toList_data,Lib.toList_data];exact le_less _ _
set_option maxHeartbeats 4000000 in
theorem qpR (A:Option Addr) (n c:Nat) (l:List Rc) (hn:l.length=n) (hn2:n≤140737488355328) (hz:SzR l) (w:World) (hA:qgH w A l):
  Calls Tryz.prog 185 #[.slice A n c] w fun e w'=>e= .returned (.int .i64 (chkP l))∧Below w.heap.size w w':=by
 by_cases h12:12<n
 ·have HX:=Lib.hid (show (1:Int)=chkP l from (qjR (by omega)).symm);rw [←HX.out];go_enter Tryz.func185,Tryz.ntmps185;go_wp2_with fail;go_ret;exact ⟨rfl,Below.refl _ _⟩
 ·have HA:=Lib.hid hA;have HN:=Lib.hid hn;have HZ:=Lib.hid hz;obtain ⟨R,HR⟩:=qaA (chkG [] l);rw [qsR (by omega),HR.out];clear hA hn hz;go_enter Tryz.func185,Tryz.ntmps185;go_wp2_with fail
  go_loopw [11] (fun i wr=> ∃k:Nat,i= .int .i64 k∧k≤n∧Hid (chkG (q1P l k) (l.drop k)=R)∧Hid (Below w.heap.size w wr)) (fun i _=>n-(intOf i).toNat)
  case atStart=>exact ⟨0,rfl,Nat.zero_le _,HR.out,Below.refl _ _⟩
  case round=>
   obtain ⟨k,rfl,hk,HP,HB⟩:=hrel;have hws:w.heap.size≤wr.heap.size:=HB.out.size
   by_cases hlt:k<n
   ·obtain ⟨b,o,K,V,rfl,e0,e1,HD,HM⟩:=HA.out.get HB.out HN.out k hlt;obtain ⟨hK,hV⟩:=HZ.out _ HM.out;rw [qh8]at hK hV;have HC:=Lib.hid fun W=>qpM K V W (by unfold maxLen;omega) (by unfold maxLen;omega);unfold recV at HC;have hb1:=Blk.new wr 190 #[.string K,.string V];have hB1:=HB.out.alloc hws (.cells #[.string K,.string V] 190);clear hK hV
    by_cases hc:chkR K.data.toList V.data.toList=0
    ·rw [hc]at HC;have HK1:=Lib.hid (qg8 hc).1
     by_cases hk0:k=0
     ·have HX:Hid (chkG (q1P l (k+1)) (l.drop (k+1))=R):=by
       have h:=HP.out;have hl:=qrX HD.out;rw [HD.out,show q1P l k= [] by rw [hk0];rfl,qsS (r:=(K.data.toList,V.data.toList)) hc (zbF HK1.out)]at h;unfold Hid;rw [hl];exact h
      have hd:decide (0<k)=false:=decide_eq_false (by omega);clear hc hk0;go_wp2_with fail;refine (HC.out _).mono ?_;rintro e w1 ⟨rfl,hb⟩;have HW1:=Lib.hid (hB1.trans (hb.mono hB1.size));obtain ⟨⟨c0,c1⟩,-⟩:=blk2 (hb1.below hb hb1.lt);clear hb1 hB1 hb e0 e1;go_upto_region 9 with fail
      go_quiet (fail);go_wp2_with fail;go_roundw
      case rel=>exact ⟨k+1,by go_num,by omega,HX,below_drewN HW1.out _⟩
      case measure=>simp [intOf];omega
     ·have hgs: ∀w1:World,Below w.heap.size w w1→ ∃L:ByteArray,w1.cell? ⟨b,o+(k-1)*2,none⟩=some (.string L)∧Hid (q1P l k=L.data.toList):=fun w1 hb1=>by
       obtain ⟨b',o',L,LV,hA',f0,-,HD',-⟩:=HA.out.get hb1 HN.out (k-1) (by omega);cases hA';refine ⟨L,f0,?_⟩;have:=qrX HD'.out;rw [show k-1+1=k by omega]at this;exact this
      have hd:decide (0<k)=true:=decide_eq_true (by omega);have b0:(0:Int)≤(k:Int) -1:=by omega
      have b1:(k:Int) -1<(n:Int):=by omega
      have b2:IntKind.i64.wrap ((k:Int) -1)=(k:Int) -1:=IntWalk.i64_in _ (by omega);have b7:((k:Int) -1).toNat=k-1:=by omega
      obtain ⟨L0,-,HL0⟩:=hgs wr HB.out;clear hk0;cases hls:Op.bytesLess L0.data.toList K.data.toList
      ·have HX:Hid ((6:Int)=R):=by
        have h:=HP.out;rw [HD.out,HL0.out,qqH (r:=(K.data.toList,V.data.toList)) hc hls]at h;exact h
       have HLS:=Lib.hid hls;clear hc hls;go_wp2_with fail;refine (HC.out _).mono ?_;rintro e w1 ⟨rfl,hb⟩;have HW1:=Lib.hid (hB1.trans (hb.mono hB1.size));obtain ⟨⟨c0,c1⟩,-⟩:=blk2 (hb1.below hb hb1.lt);obtain ⟨L,f0,HL⟩:=hgs w1 HW1.out;have hle:=zdZ K L;rw [←HL.out,HL0.out,HLS.out,Bool.not_false]at hle;clear hb1 hB1 hb e0 e1 hgs;go_upto_region 9 with fail
       go_quiet (fail);go_wp2_with fail;go_ret;exact ⟨by rw [←HX.out];rfl,below_drewN HW1.out _⟩
      ·have HX:Hid (chkG (q1P l (k+1)) (l.drop (k+1))=R):=by
        have h:=HP.out;have hl:=qrX HD.out;rw [HD.out,HL0.out,qsS (r:=(K.data.toList,V.data.toList)) hc hls]at h;unfold Hid;rw [hl];exact h
       have HLS:=Lib.hid hls;clear hc hls;go_wp2_with fail;refine (HC.out _).mono ?_;rintro e w1 ⟨rfl,hb⟩;have HW1:=Lib.hid (hB1.trans (hb.mono hB1.size));obtain ⟨⟨c0,c1⟩,-⟩:=blk2 (hb1.below hb hb1.lt);obtain ⟨L,f0,HL⟩:=hgs w1 HW1.out;have hle:=zdZ K L;rw [←HL.out,HL0.out,HLS.out,Bool.not_true]at hle;clear hb1 hB1 hb e0 e1 hgs;go_upto_region 9 with fail
       go_quiet (fail);go_wp2_with fail;go_roundw
       case rel=>exact ⟨k+1,by go_num,by omega,HX,below_drewN HW1.out _⟩
       case measure=>simp [intOf];omega
    ·have HX:Hid (chkR K.data.toList V.data.toList=R):=by
      have h:=HP.out;rw [HD.out,qzM hc]at h;exact h
     rw [HX.out]at HC hc;have tc:(R !=0)=true:=by simpa using hc
     clear hc;go_wp2_with fail;refine (HC.out _).mono ?_;rintro e w1 ⟨rfl,hb⟩;have HW1:=Lib.hid (hB1.trans (hb.mono hB1.size));clear hb1 hB1 hb e0 e1;go_wp2_with fail;go_ret;exact ⟨rfl,HW1.out⟩
   ·obtain rfl:k=n:=by omega
    have HX:Hid (R=0):=by
     have h:=HP.out;rw [List.drop_of_length_le (by rw [HN.out];omega)]at h;exact h.symm
    have hx:=HX.out;subst hx;go_wp2_with fail;go_ret;exact ⟨rfl,HB.out⟩
theorem qgZ {T e:TypeId} {B b:Nat} {l:List Value} {w w':World} (h:Lib.IsBuilder T e B b l w) (hb:Below w.heap.size w w'):Lib.IsBuilder T e B b l w':=by
 have key: ∀p,Lib.BuilderAt T e B b p l w→Lib.BuilderAt T e B b p l w':=by
  intro p h;have hlt:=h.lt;obtain ⟨hB,v,hk,ho,hne⟩:=h;refine ⟨hB,v,(hb.block b hlt).trans hk,qcB ho fun g hg=> ?_,hne⟩;obtain ⟨-,cur,hc⟩:=qa2 ho g hg;refine hb.block g ?_;rcases Nat.lt_or_ge g w.heap.size with h1|h1
  ·exact h1
  ·rw [Array.getElem?_eq_none h1]at hc;cases hc
 rcases h with h|h
 ·exact .inl (key _ h)
 ·exact .inr (key _ h)
theorem qrZ (T e:TypeId) (B:Nat) (w:World) (hB:B≤w.heap.size):Lib.IsBuilder T e B w.heap.size [] (w.alloc (.cells #[.pointer none,.slice none 0 0] T)):=
 .inl ⟨hB,_,heap_alloc_new w _,World.ownsRow_nil _ _ _ _,by simp [Value.ownBlock]⟩
theorem qz7 {l:List Rc} {k:Nat} {x:Rc} {t:List Rc} (h:l.drop k=x::t):qcD (l.take (k+1))=qcD (l.take k)++recL x.1 x.2:=by
 have e:l.take (k+1)=l.take k++ [x]:=by
  rw [List.take_add,h];rfl
 rw [e,q3O,qjY,q3N,List.append_nil]
theorem q3Q {l:List Rc} (h: ∀r∈l,chkR r.1 r.2=0) (k:Nat): ∀r∈l.take k,chkR r.1 r.2=0:=fun r hr=>h r (List.mem_of_mem_take hr)
theorem zaE {k v:List UInt8} (h:chkR k v=0):(recL k v).length≤566:=by
 obtain ⟨-,k2,v2,-⟩:=qg8 h;have h2:=qrD k v (by omega);have h3:=qrC (k.length+v.length+3);omega
set_option maxHeartbeats 4000000 in
theorem q09 (A:Option Addr) (n c:Nat) (l:List Rc) (hn:l.length=n) (hn2:n≤140737488355328) (hz:SzR l) (w:World) (T:Tab w) (hA:qgH w A l):
  Calls Tryz.prog 132 #[.slice A n c] w fun e w'=>e= .returned (.tuple #[.string (bs (paxW l).1),.int .i64 (paxW l).2])∧Below w.heap.size w w':=by
 have HC:=Lib.hid fun W h=>qpR A n c l hn hn2 hz W h;have HA:=Lib.hid hA
 by_cases h0:chkP l=0
 ·obtain ⟨h12,-,hall⟩:=qf9 h0;rw [paxW_ok h0];rw [h0]at HC;show Calls Tryz.prog 132 _ w fun e w'=>e= .returned (.tuple #[.string (bs (qcD l)),.int .i64 0])∧Below w.heap.size w w';have HN:=Lib.hid hn;have HO:=Lib.hid hall;have hn12:n≤12:=by omega
  clear hA hn hz h0 h12 hall;go_enter Tryz.func132,Tryz.ntmps132;go_wp2_with fail;refine (HC.out _ HA.out).mono ?_;rintro e w1 ⟨rfl,hb⟩;have hw1:w.heap.size≤w1.heap.size:=hb.size;have H0:=Lib.hid (qrZ 114 5 w.heap.size w1 hw1);have HB0:=Lib.hid (hb.alloc hw1 (.cells #[.pointer none,.slice none 0 0] 114));clear hb;go_wp2_with fail
  go_loopw [17] (fun i wr=> ∃k:Nat,i= .int .i64 k∧k≤n∧Hid (Lib.IsBuilder 114 5 w.heap.size w1.heap.size (Lib.byteCells (qcD (l.take k))) wr)∧Hid (Below w.heap.size w wr)) (fun i _=>n-(intOf i).toNat)
  case atStart=>exact ⟨0,rfl,Nat.zero_le _,H0,HB0⟩
  case round=>
   obtain ⟨k,rfl,hk,HI,HB⟩:=hrel;have hws:w.heap.size≤wr.heap.size:=HB.out.size
   by_cases hlt:k<n
   ·obtain ⟨b,o,K,V,rfl,e0,e1,HD,HM⟩:=HA.out.get HB.out HN.out k hlt;have hc:=HO.out _ HM.out;have hc':chkR K.data.toList V.data.toList=0:=hc;have HT:=Lib.hid (qz7 HD.out);obtain ⟨-,hK,hV,-⟩:=qg8 hc';rw [qh8]at hK hV;have HW:=Lib.hid fun W TW=>qhH K V W TW (by unfold maxLen;omega) (by unfold maxLen;omega);rw [qrA hc']at HW;unfold recV at HW
    have hls:(qcD (l.take k)).length+(bs (recL K.data.toList V.data.toList)).size≤140737488355328:=by
     have h1:=qs9 (q3Q HO.out k);have h2:=zaE hc';rw [List.length_take]at h1;have:min k l.length*566≤12*566:=Nat.mul_le_mul_right _ (by omega);rw [qaC];omega
    obtain ⟨S,HS⟩:=qaA (bs (recL K.data.toList V.data.toList));rw [HS.out]at HW hls
    have HTS:Hid (Lib.byteCells (qcD (l.take k))++Lib.strCells S=Lib.byteCells (qcD (l.take (k+1)))):=by
     unfold Hid;rw [HT.out,Lib.strCells_eq,←HS.out,Lib.byteCells_append];rfl
    have hb1:=HI.out;have hI1:=qgZ HI.out ((Below.refl wr.heap.size wr).alloc (Nat.le_refl _) (.cells #[.string K,.string V] 190));have hB1:=HB.out.alloc hws (.cells #[.string K,.string V] 190);clear hc hc' hK hV hb1 HT;go_wp2_with fail;refine (HW.out _ (T.below hB1)).mono ?_;rintro e w2 ⟨rfl,hb⟩;have hI2:=qgZ hI1 hb;have hB2:=hB1.trans (hb.mono hB1.size);have HI2:=Lib.hid hI2;have HB2:=Lib.hid hB2;have hBw2:w.heap.size≤w2.heap.size:=hB2.size;clear hI1 hB1 hI2 hB2 hb;go_wp2_with fail;refine (qzQ w.heap.size w1.heap.size _ S w2 HI2.out (by rw [Lib.byteCells_length];exact hls) hBw2).mono ?_;rintro e w3 ⟨rfl,h3,hb3⟩;rw [HTS.out]at h3;have H3:=Lib.hid (Or.inr h3:Lib.IsBuilder 114 5 w.heap.size w1.heap.size _ w3);have HB3:=Lib.hid (HB2.out.trans hb3);clear h3 hb3;go_wp2_with fail;go_roundw
    case rel=>exact ⟨k+1,by go_num,by omega,H3,HB3⟩
    case measure=>simp [intOf];omega
   ·obtain rfl:k=n:=by omega
    have HX:Hid (l.take k=l):=List.take_of_length_le (by rw [HN.out];omega);rw [HX.out]at HI;go_wp2_with fail;refine (q8C w.heap.size w1.heap.size _ wr HI.out hws).mono ?_;rintro e w5 ⟨rfl,hb5⟩;have Hb5:=Lib.hid (HB.out.trans hb5);clear hb5;go_wp2_with fail;go_ret2;exact ⟨rfl,Hb5.out⟩
 ·rw [paxW_no h0];obtain ⟨R,HR⟩:=qaA (chkP l);rw [HR.out]at h0 HC⊢;show Calls Tryz.prog 132 _ w fun e w'=>e= .returned (.tuple #[.string ⟨#[]⟩,.int .i64 R])∧Below w.heap.size w w';have tc:(R !=0)=true:=by simpa using h0
  clear hA hn hz h0;go_enter Tryz.func132,Tryz.ntmps132;go_wp2_with fail;refine (HC.out _ HA.out).mono ?_;rintro e w1 ⟨rfl,hb⟩;have HB:=Lib.hid hb;clear hb;go_wp2_with fail;go_ret2;exact ⟨rfl,HB.out⟩
def frV (l:List UInt8):Value:= .tuple #[.agg #[.string (bs (recR l).1),.string (bs (recR l).2.1)],.int .i64 (szR l:Nat),.int .i64 (recR l).2.2.2]
theorem zd6 {l:List UInt8} (h:(recR l).2.2.2≠0):frV l= .tuple #[.agg #[.string ⟨#[]⟩,.string ⟨#[]⟩],.int .i64 0,.int .i64 (recR l).2.2.2]:=by
 have e:=q4Q h;unfold frV;rw [szR_no h];generalize (recR l).2.2.2=c at*;rw [e];rfl
theorem q9O (s:ByteArray): ∃m:Nat,min (s.size:Int) 566=m∧(m:Int)≤s.size∧Hid (s.extract 0 m=bs (s.data.toList.take 566)):=by
 by_cases h:s.size≤566
 ·refine ⟨s.size,by omega,by omega,?_⟩;refine qzP ?_;rw [qfH,←qh8,List.take_length,List.take_of_length_le (by rw [qh8];exact h)]
 ·refine ⟨566,by omega,by omega,?_⟩;exact qzP (qfH s 566)
set_option maxHeartbeats 2000000 in
theorem qrJ (s:ByteArray) (w:World) (T:Tab w) (hs:s.size≤281474976710656):
  Calls Tryz.prog 210 #[.string s] w fun e w'=>e= .returned (frV s.data.toList)∧Below w.heap.size w w':=by
 have HR2:=Lib.hid fun W T=>qzY s W T hs;have HR1:=Lib.hid fun W T=>qzY (bs (s.data.toList.take 566)) W T (by rw [qaC,List.length_take];omega);rw [qaF]at HR1;obtain ⟨m,hmin,hms,HE⟩:=q9O s;have hb0:=Blk.new w 190 #[.string ⟨#[]⟩,.string ⟨#[]⟩];have hw0:Below w.heap.size w (w.alloc (.cells #[.string ⟨#[]⟩,.string ⟨#[]⟩] 190)):=(Below.refl _ _).alloc (Nat.le_refl _) _;have hPs:(bs (s.data.toList.take 566)).size=(s.data.toList.take 566).length:=rfl
 by_cases h1:(recR (s.data.toList.take 566)).2.2.2=0
 ·obtain ⟨e1,e2,e3,e4⟩:=qrB h1;have hle:=(qtB h1).2.1;obtain ⟨K,HK⟩:=qaA (bs (recR (s.data.toList.take 566)).1);obtain ⟨V,HV⟩:=qaA (bs (recR (s.data.toList.take 566)).2.1);obtain ⟨R,HR⟩:=qaA (bs (recR (s.data.toList.take 566)).2.2.1);have hRs:R.size=(recR (s.data.toList.take 566)).2.2.1.length:=by rw [←HR.out];rfl
  have HF:Hid (frV s.data.toList= .tuple #[.agg #[.string K,.string V],.int .i64 (((bs (s.data.toList.take 566)).size:Int) -(R.size:Int)),.int .i64 0]):=by
   unfold Hid frV;rw [e1,e2,e3,HK.out,HV.out,e4,hPs,hRs,Int.ofNat_sub (by omega)]
  rw [HF.out];unfold rdV recV at HR1;rw [HK.out,HV.out,HR.out,h1]at HR1;have hR:R.size≤(bs (s.data.toList.take 566)).size:=by rw [hPs,hRs];omega
  have hP566:(bs (s.data.toList.take 566)).size≤566:=by rw [hPs,List.length_take];omega
  clear e1 e2 e3 e4 hle h1 hPs hRs;obtain ⟨P,HP⟩:=qaA (bs (s.data.toList.take 566));rw [HP.out]at HR1 HE hR hP566⊢;go_enter Tryz.func210,Tryz.ntmps210;go_wp2_with fail;rw [HE.out];refine (HR1.out _ (T.below hw0)).mono ?_;rintro e w1 ⟨rfl,hb⟩;have hb1:=(hb0.below hb hb0.lt).alloc (.cells #[.string K,.string V] 190);have hn1:=Blk.new w1 190 #[.string K,.string V];have hw1:=hw0.trans (hb.mono hw0.size);have HW1:=Lib.hid (hw1.alloc hw1.size (.cells #[.string K,.string V] 190));obtain ⟨⟨c0,c1⟩,f0,f1⟩:=blk2 hb1;obtain ⟨⟨d0,d1⟩,-⟩:=blk2 hn1;have HPz:=Lib.hid (Blk.put2 hb1 (.string K) (.string V));clear hb0 hw0 hb hb1 hn1 hw1;go_wp2_with fail;obtain ⟨⟨x0,x1⟩,-⟩:=blk2 HPz.out;exact bodyPost_ret (v:= .tuple #[.agg #[.string K,.string V],.int .i64 ((P.size:Int) -(R.size:Int)),.int .i64 0]) (by simp [results,Tryz.results210,go_sem, *]) rfl ⟨rfl,Below.set2 HW1.out (Nat.le_refl _) _ _⟩
 ·obtain ⟨K0,HK0⟩:=qaA (bs (recR (s.data.toList.take 566)).1);obtain ⟨V0,HV0⟩:=qaA (bs (recR (s.data.toList.take 566)).2.1);obtain ⟨R0,HR0⟩:=qaA (bs (recR (s.data.toList.take 566)).2.2.1);obtain ⟨c0,HC0⟩:=qaA (recR (s.data.toList.take 566)).2.2.2;unfold rdV recV at HR1;rw [HK0.out,HV0.out,HR0.out,HC0.out]at HR1;rw [HC0.out]at h1;have tc0:(c0 !=0)=true:=by simpa using h1
  obtain ⟨P,HP⟩:=qaA (bs (s.data.toList.take 566));rw [HP.out]at HR1 HE;clear h1 hPs
  by_cases h2:(recR s.data.toList).2.2.2=0
  ·have hle:=(qtB h2).2.1;obtain ⟨K,HK⟩:=qaA (bs (recR s.data.toList).1);obtain ⟨V,HV⟩:=qaA (bs (recR s.data.toList).2.1);obtain ⟨R,HR⟩:=qaA (bs (recR s.data.toList).2.2.1);have hRs:R.size=(recR s.data.toList).2.2.1.length:=by rw [←HR.out];rfl
   have hss:s.data.toList.length=s.size:=qh8 s
   have HF:Hid (frV s.data.toList= .tuple #[.agg #[.string K,.string V],.int .i64 ((s.size:Int) -(R.size:Int)),.int .i64 0]):=by
    unfold Hid frV;rw [h2,HK.out,HV.out,hRs,show ((szR s.data.toList:Nat):Int)=(s.size:Int) -((recR s.data.toList).2.2.1.length:Int) by omega]
   rw [HF.out];unfold rdV recV at HR2;rw [HK.out,HV.out,HR.out,h2]at HR2;have hR:R.size≤s.size:=by rw [hRs];omega
   clear hle h2 hRs hss;go_enter Tryz.func210,Tryz.ntmps210;go_wp2_with fail;rw [HE.out];refine (HR1.out _ (T.below hw0)).mono ?_;rintro e w1 ⟨rfl,hb⟩;have hb1:=(hb0.below hb hb0.lt).alloc (.cells #[.string K0,.string V0] 190);have hn1:=Blk.new w1 190 #[.string K0,.string V0];have hw1:=hw0.trans (hb.mono hw0.size);have hw1':=hw1.alloc hw1.size (.cells #[.string K0,.string V0] 190);have hle1:w.heap.size≤w1.heap.size:=hw1.size;have hne:w.heap.size≠w1.heap.size:=by have:=hb.size;simp at this;omega
   clear hb0 hw0 hb hw1;go_wp2_with fail;refine (HR2.out _ (T.below hw1')).mono ?_;rintro e w2 ⟨rfl,hb⟩;have hb2:=hb1.below hb hb1.lt;have hn2:=hn1.below hb hn1.lt;have HW2:=Lib.hid (hw1'.trans (hb.mono hw1'.size));obtain ⟨⟨c0,c1⟩,f0,f1⟩:=blk2 hb2;obtain ⟨⟨d0,d1⟩,g0,g1⟩:=blk2 hn2;have hn3:=Blk.put2 hn2 (.string K) (.string V);have hb3:=Blk.far2 hb2 hne (.string K) (.string V);obtain ⟨⟨c2,c3⟩,f2,f3⟩:=blk2 hb3;obtain ⟨⟨d2,d3⟩,-⟩:=blk2 hn3;have HPz:=Lib.hid (Blk.put2 hb3 (.string K) (.string V));clear hb1 hn1 hw1' hb hb2 hn2 hn3 hb3;go_wp2_with fail;obtain ⟨⟨x0,x1⟩,-⟩:=blk2 HPz.out;exact bodyPost_ret (v:= .tuple #[.agg #[.string K,.string V],.int .i64 ((s.size:Int) -(R.size:Int)),.int .i64 0]) (by simp [results,Tryz.results210,go_sem, *]) rfl ⟨rfl,Below.set2 (Below.set2 HW2.out hle1 _ _) (Nat.le_refl _) _ _⟩
  ·rw [zd6 h2];have HRN:=Lib.hid (q4Q h2);obtain ⟨c,hc⟩:=qaA (recR s.data.toList).2.2.2;have hr2:=HRN.out;rw [hc.out]at hr2 h2⊢;unfold rdV recV at HR2;rw [hr2]at HR2;have HR3:Hid (∀W,Tab W→Calls Tryz.prog 249 #[.string s] W fun e w'=>e= .returned (.tuple #[.agg #[.string ⟨#[]⟩,.string ⟨#[]⟩],.string ⟨#[]⟩,.int .i64 c])∧Below W.heap.size W w'):=HR2.out;have tc:(c !=0)=true:=by simpa using h2
   clear hr2 HR2 h2;go_enter Tryz.func210,Tryz.ntmps210;go_wp2_with fail;rw [HE.out];refine (HR1.out _ (T.below hw0)).mono ?_;rintro e w1 ⟨rfl,hb⟩;have hb1:=(hb0.below hb hb0.lt).alloc (.cells #[.string K0,.string V0] 190);have hn1:=Blk.new w1 190 #[.string K0,.string V0];have hw1:=hw0.trans (hb.mono hw0.size);have hw1':=hw1.alloc hw1.size (.cells #[.string K0,.string V0] 190);have hle1:w.heap.size≤w1.heap.size:=hw1.size;have hne:w.heap.size≠w1.heap.size:=by have:=hb.size;simp at this;omega
   clear hb0 hw0 hb hw1;go_wp2_with fail;refine (HR3.out _ (T.below hw1')).mono ?_;rintro e w2 ⟨rfl,hb⟩;have hb2:=hb1.below hb hb1.lt;have hn2:=hn1.below hb hn1.lt;have HW2:=Lib.hid (hw1'.trans (hb.mono hw1'.size));obtain ⟨⟨c0,c1⟩,f0,f1⟩:=blk2 hb2;obtain ⟨⟨d0,d1⟩,g0,g1⟩:=blk2 hn2;have hb3:=Blk.far2 hb2 hne (.string ⟨#[]⟩) (.string ⟨#[]⟩);obtain ⟨⟨c2,c3⟩,f2,f3⟩:=blk2 hb3;have HPz:=Lib.hid (Blk.put2 hb3 (.string ⟨#[]⟩) (.string ⟨#[]⟩));clear hb1 hn1 hw1' hb hb2 hn2 hb3;go_wp2_with fail;obtain ⟨⟨x0,x1⟩,-⟩:=blk2 HPz.out;exact bodyPost_ret (v:= .tuple #[.agg #[.string ⟨#[]⟩,.string ⟨#[]⟩],.int .i64 0,.int .i64 c]) (by simp [results,Tryz.results210,go_sem, *]) rfl ⟨rfl,Below.set2 (Below.set2 HW2.out hle1 _ _) (Nat.le_refl _) _ _⟩
def recC (l:List Rc):List Value:=l.flatMap fun r=> [.string (bs r.1),.string (bs r.2)]
theorem qyT (a b:List Rc):recC (a++b)=recC a++recC b:=by simp [recC]
theorem qyR (r:Rc):recC [r]= [.string (bs r.1),.string (bs r.2)]:=rfl
theorem qyS (l:List Rc) (j:Nat) (h:j<l.length):(recC l)[j*2]?=some (.string (bs l[j].1))∧(recC l)[j*2+1]?=some (.string (bs l[j].2)):=by
 induction l generalizing j with
 |nil=>cases h
 |cons x l ih=>
  have e:recC (x::l)= .string (bs x.1):: .string (bs x.2)::recC l:=rfl;rw [e];cases j with
  |zero=>exact ⟨rfl,rfl⟩
  |succ j=>
   have hj:j<l.length:=by simpa using h
   have:=ih j hj;rw [show (j+1)*2=j*2+2 by omega];simpa using this
def Own (w:World) (B:Nat) (v:Value) (n:Nat) (l:List Rc):Prop:=l.length=n∧w.ownsRow B 190 2 v n (recC l)
theorem Own.at {w:World} {B n c:Nat} {A:Option Addr} {l:List Rc} (h:Own w B (.slice A n c) n l):qgH w A l:=fun j hj=>by
 obtain ⟨hl,ho⟩:=h;have hb:=ho.2;rcases hb with ⟨e,h0⟩|⟨g,cap,cur,e,-⟩
 ·omega
 ·injection e with e1 e2 e3
  subst e1 e3;refine ⟨g,0,rfl,?_,?_⟩
  ·rw [Nat.zero_add,ho.cellAt (j*2) (by omega),(qyS l j hj).1]
  ·rw [Nat.zero_add,ho.cellAt (j*2+1) (by omega),(qyS l j hj).2]
theorem Own.nil (w:World) (B:Nat):Own w B (.slice none 0 0) 0 []:=⟨rfl,World.ownsRow_nil _ _ _ _⟩
theorem Own.below {w w':World} {B:Nat} {v:Value} {n:Nat} {l:List Rc} (h:Own w B v n l) (hb:Below w.heap.size w w'):Own w' B v n l:=by
 refine ⟨h.1,qcB h.2 fun g hg=> ?_⟩;obtain ⟨-,cur,hc⟩:=qa2 h.2 g hg;refine hb.block g ?_;rcases Nat.lt_or_ge g w.heap.size with h1|h1
 ·exact h1
 ·rw [Array.getElem?_eq_none h1]at hc;cases hc
theorem Own.alloc {w:World} {B:Nat} {v:Value} {n:Nat} {l:List Rc} (h:Own w B v n l) (o:Obj):Own (w.alloc o) B v n l:=h.below ((Below.refl _ _).alloc (Nat.le_refl _) o)
theorem Own.form {w:World} {B:Nat} {v:Value} {n:Nat} {l:List Rc} (h:Own w B v n l): ∃A c,v= .slice A n c:=by
 rcases h.2.2 with ⟨e,h0⟩|⟨g,cap,cur,e,-⟩
 ·exact ⟨none,0,by rw [e,h0]⟩
 ·exact ⟨_,_,e⟩
theorem Own.above {w:World} {B:Nat} {v:Value} {n:Nat} {l:List Rc} (h:Own w B v n l): ∀g0,v.ownBlock=some g0→B≤g0:=fun g0 e=>(qa2 h.2 g0 e).1
theorem zdP {l:List Rc} (h: ∀r∈l,chkR r.1 r.2=0):SzR l:=fun r hr=>by
 obtain ⟨-,h1,h2,-⟩:=qg8 (h r hr);omega
theorem qy6:(Tryz.prog.info? 190).map (fun i=>(i.zero,i.size,i.bytes))=some (some (.agg #[.string ⟨#[]⟩,.string ⟨#[]⟩]),2,32):=by kernel_rfl
theorem str_ne {s:ByteArray} (h:s.size≠0):s.toList.isEmpty=false:=qqZ h
theorem list_ne {s:ByteArray} (h:s.size≠0):s.data.toList≠ []:=fun e=>h (by rw [←qh8,e];rfl)
theorem za2 {w6:World} {B n g' cap':Nat} {l:List Rc} {r:Rc} (h:l.length=n)
  (hown:w6.ownsRow B 190 2 (.slice (some ⟨g',0,none⟩) (n+1) cap') (n+1) (recC l++ [.string (bs r.1),.string (bs r.2)])):Own w6 B (.slice (some ⟨g',0,none⟩) (n+1) cap') (n+1) (l++ [r]):=
 ⟨by rw [List.length_append,h];rfl,by rw [qyT,qyR];exact hown⟩
theorem ok_push {a:List Rc} {r:Rc} (h: ∀x∈a,chkR x.1 x.2=0) (hr:chkR r.1 r.2=0): ∀x∈a++ [r],chkR x.1 x.2=0:=fun x hx=>by
 rcases List.mem_append.1 hx with h1|h1
 ·exact h x h1
 ·obtain rfl:x=r:=by simpa using h1
  exact hr
end Go.Proofs.YtapgoifimhnbdaaGreatDoor
