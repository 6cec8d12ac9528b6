/- qaX of one kind, in one file: OctA, Rep, TreA, LesA, TreB. -/
import Derived.Test.YtapgoifimhnbdaaGreatDoorMth
import Derived.Test.YtapgoifimhnbdaaGreatDoorShelf
import Derived.Deep.LoopGhost
import Derived.Test.YtapgoifimhnbdaaGreatDoorPts
import Derived.Deep.RegionHeld3
import Derived.Deep.DrawnRows
import Derived.Deep.DeepCutAuto
import Derived.Laws.Rows
set_option linter.unusedVariables false
namespace Go.Proofs.YtapgoifimhnbdaaGreatDoor
open Go.RowKit
open Go.OpenShut
set_option maxHeartbeats 400000 in
theorem qf0 (x:Int) (w:World):Calls Tryz.prog 274 #[.int .i64 x] w fun e w'=>e= .returned (.bool (wOk x))∧w=w':=by
 by_cases h2:2≤x
 ·by_cases h12:x≤12
  ·rw [q28 ⟨h2,h12⟩];go_enter Tryz.func274,Tryz.ntmps274;go_wp2;go_ret;exact ⟨rfl,rfl⟩
  ·rw [qs5 (by omega)];go_enter Tryz.func274,Tryz.ntmps274;go_wp2;go_ret;exact ⟨rfl,rfl⟩
 ·rw [qs5 (by omega)];go_enter Tryz.func274,Tryz.ntmps274;go_wp2;go_ret;exact ⟨rfl,rfl⟩
set_option maxHeartbeats 400000 in
theorem q8U (x:Int) (w:World) (h:wOk x=false):Calls Tryz.prog 229 #[.int .i64 x] w fun e w'=>e= .returned (.tuple #[.int .i64 0,.int .i64 4])∧w=w':=by
 go_enter Tryz.func229,Tryz.ntmps229;go_wp2_with (go_at_call 274;refine (qf0 _ _).mono ?_;rintro e w' ⟨rfl,rfl⟩);go_ret2;exact ⟨rfl,rfl⟩
set_option maxHeartbeats 400000 in
theorem ql6 (x:Int) (w:World) (h:2≤x∧x≤12):Calls Tryz.prog 229 #[.int .i64 x] w fun e w'=>e= .returned (.tuple #[.int .i64 (most x),.int .i64 0])∧w=w':=by
 have hw:=q28 h;rcases split12 h with rfl|rfl|rfl|rfl|rfl|rfl|rfl|rfl|rfl|rfl|rfl
 all_goals
  go_enter Tryz.func229,Tryz.ntmps229;go_wp2_with (go_at_call 274;refine (qf0 _ _).mono ?_;rintro e w' ⟨rfl,rfl⟩);go_ret2;exact ⟨rfl,rfl⟩
theorem qzZ (x:Int) (w:World):Calls Tryz.prog 229 #[.int .i64 x] w fun e w'=>e= .returned (.tuple #[.int .i64 (q5N x).1,.int .i64 (q5N x).2])∧w=w':=by
 by_cases h:2≤x∧x≤12
 ·rw [show q5N x=(most x,0) by simp [q5N,h]];exact ql6 x w h
 ·rw [show q5N x=(0,4)from if_neg h];exact q8U x w (qs5 h)
def digB (c:Int):Bool:=decide (48≤c∧c≤55)
set_option maxHeartbeats 400000 in
theorem qnJ (c:Int) (w:World):Calls Tryz.prog 343 #[.int .u8 c] w fun e w'=>e= .returned (.bool (digB c))∧w=w':=by
 by_cases h2:48≤c
 ·by_cases h12:c≤55
  ·rw [show digB c=true by simp [digB,h2,h12]];go_enter Tryz.func343,Tryz.ntmps343;go_wp2;go_ret;exact ⟨rfl,rfl⟩
  ·rw [show digB c=false by simp [digB,h12]];go_enter Tryz.func343,Tryz.ntmps343;go_wp2;go_ret;exact ⟨rfl,rfl⟩
 ·rw [show digB c=false by simp [digB,h2]];go_enter Tryz.func343,Tryz.ntmps343;go_wp2;go_ret;exact ⟨rfl,rfl⟩
set_option maxHeartbeats 400000 in
theorem qbR (n m:Int) (w:World) (hn:(Lit.int .i64 n).wf=true) (hm:1≤m):Calls Tryz.prog 22 #[.int .i64 n,.int .i64 m] w fun e w'=>e= .returned (.int .i64 (pick n m))∧w=w':=by
 obtain ⟨b1,b2⟩:=bounds_i64 hn;clear hn
 by_cases h:n<0
 ·have h9:0≤ -(n+1):=by omega
  go_enter Tryz.func22,Tryz.ntmps22;go_wp2;go_ret;exact ⟨qaV (by rw [pick,if_pos h,←Int.neg_tmod,Int.tmod_eq_emod_of_nonneg h9]),rfl⟩
 ·go_enter Tryz.func22,Tryz.ntmps22;go_wp2;go_ret;exact ⟨qaV (by rw [pick,if_neg (by omega)]),rfl⟩
theorem ext0 (s:ByteArray) (k:Nat):s.extract 0 k=⟨(s.data.toList.take k).toArray⟩:=by
 apply ByteArray.ext;apply Array.toList_inj.1;rw [ByteArray.data_extract,Array.toList_extract];simp [List.extract]
theorem bGrow (B b n:Nat) (w:World) (hB:B≤b) (hbk:w.heap[b]?=some (.cells #[.pointer none,.slice none 0 0] 114 (0,0))) (hBw:B≤w.heap.size) (hn:n≤281474976710656):
  Calls Tryz.prog 92 #[.pointer (some ⟨b,0,none⟩),.int .i64 n] w fun e w'=>e= .returned (.tuple #[])∧(Lib.BuilderAt 114 5 B b (.pointer (some ⟨b,0,none⟩)) [] w'∧Below B w w'):=
 Any.Builder_Grow_fresh {Tryz.lays154 with} Tryz.Builder_Extra_154 B b n w hB hbk hBw hn
theorem qzQ (B b:Nat) (bs:List Value) (s:ByteArray) (w:World) (h:Lib.IsBuilder 114 5 B b bs w) (hlen:bs.length+s.size≤140737488355328) (hBw:B≤w.heap.size):
  Calls Tryz.prog 93 #[.pointer (some ⟨b,0,none⟩),.string s] w fun e w'=>e= .returned (.tuple #[.int .i64 s.size,.nilIface])∧(Lib.BuilderAt 114 5 B b (.pointer (some ⟨b,0,none⟩)) (bs++Lib.strCells s) w'∧Below B w w'):=
 Any.Builder_WriteString {Tryz.lays154 with} Tryz.Builder_Extra_154 B b bs s w h hlen hBw
theorem q8C (B b:Nat) (l:List UInt8) (w:World) (h:Lib.IsBuilder 114 5 B b (Lib.byteCells l) w) (hBw:B≤w.heap.size):
  Calls Tryz.prog 95 #[.pointer (some ⟨b,0,none⟩)] w fun e w'=>e= .returned (.string ⟨l.toArray⟩)∧Below B w w':=
 Any.Builder_String_any {Tryz.lays154 with} Tryz.Builder_Extra_154 B b l w h hBw
theorem qvT (s:ByteArray) (c:UInt8) (w:World):Calls Tryz.prog 192 #[.string s,.string ⟨#[c]⟩] w fun e w'=>e= .returned (.int .i64 (s.data.toList.count c:Nat))∧w=w':=
 (Tryz.strings_Count_one s c w).mono fun e w' ⟨a,b⟩=>⟨a,b.symm⟩
theorem q8W (s:ByteArray) (c:UInt8) (w:World) (h:pos c s.data.toList<s.data.toList.length):Calls Tryz.prog 193 #[.string s,.string ⟨#[c]⟩] w fun e w'=>e= .returned (.int .i64 (pos c s.data.toList:Nat))∧w=w':=
 (Tryz.strings_Index_one s c w).mono fun e w' ⟨a,b⟩=>⟨by rw [a,qbX,if_pos (by rw [qdW];exact decide_eq_true h)],b.symm⟩
theorem qo2 (s:ByteArray) (c d:UInt8) (w:World) (hcd:c≠d) (h:hasB c s.data.toList=false):
  Calls Tryz.prog 140 #[.string s,.string ⟨#[c]⟩,.string ⟨#[d]⟩,.int .i64 (-1)] w fun e w'=>e= .returned (.string ⟨(rep c d s.data.toList).toArray⟩)∧Below w.heap.size w w':=by
 have hne:(c==d)=false:=beq_eq_false_iff_ne.2 hcd;have h0:=(qfN c _).2 h;have hr:=Lib.hid (qq7 c d _ h);clear h;go_enter Tryz.func140,Tryz.ntmps140;go_wp2_with fail;refine (qvT s c _).mono ?_;rintro e w' ⟨rfl,rfl⟩;rw [h0];clear h0;go_wp2_with fail;go_ret;exact ⟨qwM (by rw [hr.out]),Below.refl _ _⟩
set_option maxHeartbeats 1000000 in
theorem qvO (s:ByteArray) (c d:UInt8) (w:World) (hcd:c≠d) (hs:s.size≤140737488355328) (h:hasB c s.data.toList=true):
  Calls Tryz.prog 140 #[.string s,.string ⟨#[c]⟩,.string ⟨#[d]⟩,.int .i64 (-1)] w fun e w'=>e= .returned (.string ⟨(rep c d s.data.toList).toArray⟩)∧Below w.heap.size w w':=by
 have hne:(c==d)=false:=beq_eq_false_iff_ne.2 hcd;have hl:s.data.toList.length=s.size:=by simp
 obtain ⟨K,HK⟩:=qaA (s.data.toList.count c);have hKs:K≤s.size:=by rw [←HK.out,←hl];exact List.count_le_length
 have hK0:1≤K:=by
  rcases Nat.eq_zero_or_pos K with h0|h0
  ·rw [←HK.out,qfN,h]at h0;cases h0
  ·exact h0
 have hKz:((K:Int)==0)=false:=beq_eq_false_iff_ne.2 (by omega);have HL:=Lib.hid hl;clear h hl;go_enter Tryz.func140,Tryz.ntmps140;go_wp2_with fail;refine (qvT s c _).mono ?_;rintro e w' ⟨rfl,rfl⟩;rw [HK.out];go_wp2_with fail;refine (bGrow w.heap.size w.heap.size _ _ (Nat.le_refl _) (heap_alloc_new w _) (by simp) (by omega)).mono ?_;rintro e w1 ⟨rfl,hb0,hb1⟩;have H1:=Lib.hid (Or.inr hb0:Lib.IsBuilder 114 5 w.heap.size w.heap.size (Lib.byteCells []) w1);have Hb1:=Lib.hid (((Below.refl w.heap.size w).alloc (Nat.le_refl _) _).trans hb1);clear hb0 hb1;go_wp2_with fail
 go_loopg [11,53] K (fun g s11 s53 wx=> ∃(i start:Nat) (acc:List UInt8),s53= .int .i64 i∧s11= .int .i64 start∧i+g=K∧start≤s.size∧
   Hid (Lib.IsBuilder 114 5 w.heap.size w.heap.size (Lib.byteCells acc) wx)∧Hid (Below w.heap.size w wx)∧Hid (acc++rep c d (s.data.toList.drop start)=rep c d s.data.toList)∧
   Hid (g=(s.data.toList.drop start).count c)∧Hid (acc.length=start))
 case atStart=>exact ⟨0,0, [],rfl,rfl,by omega,Nat.zero_le _,H1,Hb1,by simp [Hid],by unfold Hid;rw [List.drop_zero,HK.out],rfl⟩
 case round=>
  obtain ⟨i,start,acc,rfl,rfl,hig,hst,HB,HW,HR,HG,HA⟩:=hrel;have hBw:w.heap.size≤wr.heap.size:=HW.out.size;have hlen:(s.data.toList.drop start).length=s.size-start:=by rw [List.length_drop,HL.out]
  have hac:acc.length≤start:=Nat.le_of_eq HA.out;cases gk with
  |zero=>
   have hiK: ¬((i:Int)<(K:Int)):=by omega
   have hfin:=HR.out;rw [qq7 c d _ ((qfN c _).1 HG.out.symm)]at hfin;have Hfin:=Lib.hid hfin;clear hfin hlen;go_wp2_with fail;refine (qzQ w.heap.size w.heap.size _ _ wr HB.out (by rw [Lib.byteCells_length,ByteArray.size_extract];omega) hBw).mono ?_;rintro e w3 ⟨rfl,h3,hb3⟩;rw [Lib.strCells_eq,Lib.extract_to_end,←Lib.byteCells_append,Hfin.out]at h3;have H3:=Lib.hid (Or.inr h3:Lib.IsBuilder 114 5 w.heap.size w.heap.size _ w3);have Hb3:=Lib.hid (HW.out.trans hb3);have hBw3:w.heap.size≤w3.heap.size:=Hb3.out.size;clear h3 hb3;go_wp2_with fail;refine (q8C w.heap.size w.heap.size _ w3 H3.out hBw3).mono ?_;rintro e w5 ⟨rfl,hb5⟩;have Hb5:=Lib.hid (Hb3.out.trans hb5);clear hb5;go_wp2;go_ret;exact ⟨rfl,Hb5.out⟩
  |succ g=>
   have hiK:(i:Int)<(K:Int):=by omega
   have hp:pos c (s.data.toList.drop start)<(s.data.toList.drop start).length:=by
    have:hasB c (s.data.toList.drop start)=true:=by
     rw [←Bool.not_eq_false];intro h0;have:=(qfN c _).2 h0;have:=HG.out;omega
    rw [qdW]at this;exact of_decide_eq_true this
   have Hrs:=Lib.hid (q4I c d _ hp);have Hcs:=Lib.hid (qxX c _ hp);obtain ⟨p,Hp⟩:=qaA (pos c (s.data.toList.drop start));rw [Hp.out]at hp Hrs Hcs;rw [hlen]at hp;have Hlen:=Lib.hid hlen;clear hlen;have c3:(start:Int)≤(start:Int)+(p:Int):=by omega
   have c4:(start:Int)+(p:Int)≤(s.size:Int):=by omega
   have Hn:Hid (Lib.byteCells acc++Lib.strCells (s.extract start (start+p))++Lib.strCells ⟨#[d]⟩=Lib.byteCells (acc++(s.data.toList.drop start).take p++ [d])):=by
    unfold Hid;rw [Lib.strCells_eq,Lib.strCells_eq,Lib.extract_data,Nat.add_sub_cancel_left,←Lib.byteCells_append,←Lib.byteCells_append]
   have Hr:Hid ((acc++(s.data.toList.drop start).take p++ [d])++rep c d (s.data.toList.drop (start+p+1))=rep c d s.data.toList):=by
    unfold Hid;rw [←HR.out,Hrs.out,List.drop_drop,←Nat.add_assoc];simp only [List.append_assoc]
   have Hc:Hid (g=(s.data.toList.drop (start+p+1)).count c):=by
    unfold Hid;have:=HG.out;rw [Hcs.out,List.drop_drop,←Nat.add_assoc]at this;omega
   have Hlt:Hid ((acc++(s.data.toList.drop start).take p++ [d]).length=start+p+1):=by
    unfold Hid;rw [List.length_append,List.length_append,List.length_take,Hlen.out,HA.out,List.length_singleton];omega
   go_wp2_with fail;refine (q8W _ c _ (by rw [Lib.extract_to_end,Hp.out,Hlen.out];exact hp)).mono ?_;rintro e w' ⟨rfl,rfl⟩;rw [Lib.extract_to_end,Hp.out];go_wp2_with fail;refine (qzQ w.heap.size w.heap.size _ (s.extract start (start+p)) wr HB.out (by rw [Lib.byteCells_length,ByteArray.size_extract];omega) hBw).mono ?_;rintro e w3 ⟨rfl,h3,hb3⟩;have hBw3:w.heap.size≤w3.heap.size:=Nat.le_trans hBw hb3.size;have H3:=Lib.hid h3;have Hb3:=Lib.hid hb3;clear h3 hb3;go_wp2_with fail;refine (qzQ w.heap.size w.heap.size _ ⟨#[d]⟩ w3 (Or.inr H3.out) (by rw [List.length_append,Lib.byteCells_length,Lib.strCells_eq,Lib.byteCells_length,←Lib.size_eq,ByteArray.size_extract];show _+1≤_;omega) hBw3).mono ?_;rintro e w4 ⟨rfl,h4,hb4⟩;rw [Hn.out]at h4;have H4:=Lib.hid (Or.inr h4:Lib.IsBuilder 114 5 w.heap.size w.heap.size _ w4);have Hb4:=Lib.hid ((HW.out.trans Hb3.out).trans hb4);clear h4 hb4;go_wp2
   go_roundg g
   case measure=>omega
   case rel=>exact ⟨i+1,start+p+1,_,by go_num,by go_num,by omega,by omega,H4,Hb4,Hr,Hc,Hlt⟩
theorem qvP (s:ByteArray) (c d:UInt8) (w:World) (hcd:c≠d) (hs:s.size≤140737488355328):
  Calls Tryz.prog 140 #[.string s,.string ⟨#[c]⟩,.string ⟨#[d]⟩,.int .i64 (-1)] w fun e w'=>e= .returned (.string ⟨(rep c d s.data.toList).toArray⟩)∧Below w.heap.size w w':=by
 cases h:hasB c s.data.toList
 ·exact qo2 s c d w hcd h
 ·exact qvO s c d w hcd hs h
theorem qoP (s:ByteArray) (c d:UInt8) (w:World) (hcd:c≠d) (hs:s.size≤140737488355328):
  Calls Tryz.prog 96 #[.string s,.string ⟨#[c]⟩,.string ⟨#[d]⟩] w fun e w'=>e= .returned (.string ⟨(rep c d s.data.toList).toArray⟩)∧Below w.heap.size w w':=by
 go_enter Tryz.func96,Tryz.ntmps96;go_wp2_with fail;refine (qvP s c d _ hcd hs).mono ?_;rintro e w1 ⟨rfl,hb⟩;go_wp2_with fail;go_ret;exact ⟨rfl,hb⟩
theorem qoC (s:ByteArray) (m:Nat) (w:World) (hs:s.size≤140737488355328) (hm:m≤1000000):
  Calls Tryz.prog 57 #[.string s,.int .i64 m] w fun e w'=>e= .returned (.string ⟨(qdH s.data.toList m).toArray⟩)∧Below w.heap.size w w':=by
 go_enter Tryz.func57,Tryz.ntmps57;go_wp2_with fail;refine (qoP s 0 48 _ (by decide) hs).mono ?_;rintro e w1 ⟨rfl,hb⟩;obtain ⟨r,Hr⟩:=qaA (⟨(rep 0 48 s.data.toList).toArray⟩:ByteArray);rw [Hr.out];have hrs:r.size=s.size:=by rw [←Hr.out,qeL,q0P];simp
 have h1:r.size≤s.size:=by omega
 clear hrs;have HT:Hid (qdH s.data.toList m=r.data.toList.take m):=by unfold Hid qdH;rw [←Hr.out]
 go_wp2;go_ret;exact ⟨qwM (by rw [HT.out,ext0];congr 2;rw [List.take_eq_take_iff];simp;omega),hb⟩
set_option maxRecDepth 100000
theorem qwQ (c:UInt8) (n:Nat):(⟨(Lib.repeatL (⟨#[c]⟩:ByteArray).data.toList n).toArray⟩:ByteArray)=⟨(List.replicate n c).toArray⟩:=by
 have:=Lib.repeatL_replicate c 1 n;rw [Nat.mul_one]at this;rw [←this];rfl
theorem quB (w:World):Calls Tryz.prog 54 #[] w fun e w'=> ∃g,e= .returned (.slice (some ⟨g,0,none⟩) 11 11)∧qaX w' w.heap.size (.slice (some ⟨g,0,none⟩) 11 11) qd5∧Below w.heap.size w w':=by
 go_enter Tryz.func54,Tryz.ntmps54;go_wp2_with fail;refine (Tryz.strings_Repeat ⟨#[110]⟩ 60 _ (by decide) (by decide)).mono ?_;rintro e w1 ⟨rfl,hb1⟩;rw [qwQ];obtain ⟨s1,Hs1⟩:=qaA (⟨(List.replicate 60 110).toArray⟩:ByteArray);rw [Hs1.out];have HB1:=Lib.hid hb1;clear hb1;go_wp2_with fail;refine (Tryz.strings_Repeat ⟨#[109]⟩ 130 _ (by decide) (by decide)).mono ?_;rintro e w2 ⟨rfl,hb2⟩;rw [qwQ];obtain ⟨s2,Hs2⟩:=qaA (⟨(List.replicate 130 109).toArray⟩:ByteArray);rw [Hs2.out];have HB2:=Lib.hid (HB1.out.trans (hb2.mono HB1.out.size));clear hb2 HB1;go_wp2_with fail;go_ret;have ht:=(qaX.lit (w:=w2) qd5 (by decide)).mono HB2.out.size
 have hc:(strC qd5).toArray= #[.string ⟨#[97]⟩,.string ⟨#[98]⟩,.string ⟨#[97,98]⟩,.string ⟨#[66]⟩,.string ⟨#[120,32,121]⟩,.string ⟨#[195,169]⟩,.string ⟨#[99,46,116,120,116]⟩,.string s1,.string s2,.string ⟨#[97,33]⟩,.string ⟨#[45]⟩]:=by
  rw [←Hs1.out,←Hs2.out];rfl
 rw [hc]at ht;exact ⟨_,rfl,ht,HB2.out.alloc HB2.out.size _⟩
def qkC (m:MetaV):List Value:= [.int .i64 m.mode,.int .i64 m.uid,.int .i64 m.gid,strV m.user,strV m.group,.int .i64 m.second,.int .i64 m.nano]
def cmpS (x y:List UInt8):Int:=if qd4 x y=true then-1 else if qd4 y x=true then 1 else 0
theorem qkN (s:ByteArray) (w:World):Calls Tryz.prog 200 #[.string s] w fun e w'=>e= .returned (.bool false)∧w=w':=by
 go_enter Tryz.func200,Tryz.ntmps200;go_wp2;go_ret;exact ⟨rfl,rfl⟩
theorem qzL (a b:ByteArray) (w:World):Calls Tryz.prog 151 #[.string a,.string b] w fun e w'=>e= .returned (.int .i64 (cmpS a.toList b.toList))∧w=w':=by
 cases hl:qd4 a.toList b.toList
 ·cases hg:qd4 b.toList a.toList
  ·have he:=qiN _ _ hl hg;have hr:Hid (cmpS a.toList b.toList=0):=by unfold Hid cmpS;rw [hl,hg];simp
   have h1:Op.bytesLess a.toList b.toList=false:=hl;have h2:(a.toList==b.toList)=true:=by simpa using he
   clear hl hg he;go_enter Tryz.func151,Tryz.ntmps151;go_wp2_with (go_at_call 200;refine (qkN _ _).mono ?_;rintro e w' ⟨rfl,rfl⟩);go_ret;exact ⟨qaV hr.out.symm,rfl⟩
  ·have hr:Hid (cmpS a.toList b.toList=1):=by unfold Hid cmpS;rw [hl,hg];simp
   have h1:Op.bytesLess a.toList b.toList=false:=hl
   have h2:(a.toList==b.toList)=false:=by
    rw [beq_eq_false_iff_ne];intro e;rw [e,qkX]at hg;cases hg
   clear hl hg;go_enter Tryz.func151,Tryz.ntmps151;go_wp2_with (go_at_call 200;refine (qkN _ _).mono ?_;rintro e w' ⟨rfl,rfl⟩);go_ret;exact ⟨qaV hr.out.symm,rfl⟩
 ·have hr:Hid (cmpS a.toList b.toList= -1):=by unfold Hid cmpS;rw [hl];simp
  have h1:Op.bytesLess a.toList b.toList=true:=hl;clear hl;go_enter Tryz.func151,Tryz.ntmps151;go_wp2_with (go_at_call 200;refine (qkN _ _).mono ?_;rintro e w' ⟨rfl,rfl⟩);go_ret;exact ⟨qaV hr.out.symm,rfl⟩
theorem q73 (a b:List (List UInt8)) (k:Nat) (he:a.take k=b.take k) (ha:k<a.length) (hb:k<b.length):
  (cmpS (a.getD k []) (b.getD k [])≠0→lcmp a b=cmpS (a.getD k []) (b.getD k []))∧(cmpS (a.getD k []) (b.getD k [])=0→a.take (k+1)=b.take (k+1)):=by
 obtain ⟨s1,s2,s3⟩:=q50 a b k he ha hb;unfold cmpS;cases hl:qd4 (a.getD k []) (b.getD k [])
 ·cases hg:qd4 (b.getD k []) (a.getD k [])
  ·simp;exact s3 (qiN _ _ hl hg)
  ·simp;exact s2 hl (fun e=>by rw [e,qkX]at hg;cases hg)
 ·simp;exact s1 hl
set_option maxHeartbeats 1000000 in
theorem Cmp_any (A B:Option Addr) (ca cb:Nat) (xs ys:List (List UInt8)) (w:World) (hx:xs.length≤8000000000001) (hy:ys.length≤8000000000001)
  (hA: ∀j,j<xs.length→ ∃g,A=some ⟨g,0,none⟩∧w.cell? ⟨g,j,none⟩=some (strV (xs.getD j []))) (hB: ∀j,j<ys.length→ ∃g,B=some ⟨g,0,none⟩∧w.cell? ⟨g,j,none⟩=some (strV (ys.getD j []))):
  Calls Tryz.prog 99 #[.slice A xs.length ca,.slice B ys.length cb] w fun e w'=>e= .returned (.int .i64 (lcmp xs ys))∧w=w':=by
 have HA:=Lib.hid hA;have HB:=Lib.hid hB;obtain ⟨nx,Hx⟩:=qaA xs.length;obtain ⟨ny,Hy⟩:=qaA ys.length;rw [Hx.out]at hx⊢;rw [Hy.out]at hy⊢;clear hA hB;go_enter Tryz.func99,Tryz.ntmps99;go_wp2_with fail
 go_loop [11] (fun i=> ∃k:Nat,i= .int .i64 k∧k≤nx∧k≤ny∧Hid (xs.take k=ys.take k)) (fun i=>nx-(intOf i).toNat)
 case atStart=>exact ⟨0,rfl,Nat.zero_le _,Nat.zero_le _,rfl⟩
 case round=>
  obtain ⟨k,rfl,hk1,hk2,HE⟩:=hrel
  by_cases hlt1:k<nx
  ·obtain ⟨ga,rfl,hca⟩:=HA.out k (by rw [Hx.out];exact hlt1);unfold strV at hca;obtain ⟨sx,Hsx⟩:=qaA (⟨(xs.getD k []).toArray⟩:ByteArray);have ex:sx.toList=xs.getD k []:=by rw [ByteArray.toList_eq,←Hsx.out]
   rw [Hsx.out]at hca
   by_cases hlt2:k<ny
   ·obtain ⟨gb,rfl,hcb⟩:=HB.out k (by rw [Hy.out];exact hlt2);obtain ⟨st1,st2⟩:=q73 xs ys k HE.out (by rw [Hx.out];exact hlt1) (by rw [Hy.out];exact hlt2);unfold strV at hcb;obtain ⟨sy,Hsy⟩:=qaA (⟨(ys.getD k []).toArray⟩:ByteArray);have ey:sy.toList=ys.getD k []:=by rw [ByteArray.toList_eq,←Hsy.out]
    rw [Hsy.out]at hcb;rw [←ex,←ey]at st1 st2;clear ex ey;obtain ⟨c,Hc⟩:=qaA (cmpS sx.toList sy.toList);rw [Hc.out]at st1 st2
    by_cases hc:c=0
    ·have HE1:=Lib.hid (st2 hc);have hc':(c !=0)=false:=by simp [hc]
     clear st1 st2 hc;go_wp2_with fail;refine (qzL _ _ _).mono ?_;rintro e w' ⟨rfl,rfl⟩;rw [Hc.out];go_wp2_with fail;go_round
     case rel=>exact ⟨k+1,by go_num,by omega,by omega,HE1⟩
     case measure=>simp [intOf];omega
    ·have HR:=Lib.hid (st1 hc);have hc':(c !=0)=true:=by simp [hc]
     clear st1 st2 hc;go_wp2_with fail;refine (qzL _ _ _).mono ?_;rintro e w' ⟨rfl,rfl⟩;rw [Hc.out];go_wp2_with fail;go_ret;exact ⟨qaV HR.out.symm,rfl⟩
   ·have HR:Hid (lcmp xs ys=1):=by
     unfold Hid;rw [qrW xs ys k HE.out (by rw [Hx.out];exact hk1) (by rw [Hy.out];exact hk2) (.inr (by rw [Hy.out];omega)),Hx.out,Hy.out,qpD (by omega)]
    clear ex;go_wp2_with fail;go_ret;exact ⟨qaV HR.out.symm,rfl⟩
  ·by_cases hlt2:k<ny
   ·have HR:Hid (lcmp xs ys= -1):=by
     unfold Hid;rw [qrW xs ys k HE.out (by rw [Hx.out];exact hk1) (by rw [Hy.out];exact hk2) (.inl (by rw [Hx.out];omega)),Hx.out,Hy.out,qk7 (by omega)]
    obtain rfl:k=nx:=by omega
    go_wp2_with fail;go_ret;exact ⟨qaV HR.out.symm,rfl⟩
   ·have HR:Hid (lcmp xs ys=0):=by
     unfold Hid;rw [qrW xs ys k HE.out (by rw [Hx.out];exact hk1) (by rw [Hy.out];exact hk2) (.inl (by rw [Hx.out];omega)),Hx.out,Hy.out,zdR (by omega) (by omega)]
    obtain rfl:k=nx:=by omega
    go_wp2_with fail;go_ret;exact ⟨qaV HR.out.symm,rfl⟩
def qeO (s:ByteArray):Obj:= .cells (strC (qaI 47 s.data.toList)).toArray 9
theorem zbG (a b:ByteArray) (w:World) (ha:a.size<4294967281) (hb:b.size<4294967281):
  Calls Tryz.prog 61 #[.string a,.string b] w fun e w'=>e= .returned (.int .i64 (pcmp a.data.toList b.data.toList))∧w'=(w.alloc (qeO a)).alloc (qeO b):=by
 have hla:=qi4 47 a.data.toList;have hlb:=qi4 47 b.data.toList;have h1:a.data.toList.length=a.size:=by simp
 have h2:b.data.toList.length=b.size:=by simp
 have HP:=Lib.hid (q1M a.data.toList b.data.toList);have hma:(qaI 47 a.data.toList).length≤8000000000001:=by omega
 have hmb:(qaI 47 b.data.toList).length≤8000000000001:=by omega
 have ht1:qaX ((w.alloc (qeO a)).alloc (qeO b)) w.heap.size (.slice (some ⟨w.heap.size,0,none⟩) (qaI 47 a.data.toList).length (qaI 47 a.data.toList).length) (qaI 47 a.data.toList):=(qaX.lit (w:=w) (qaI 47 a.data.toList) (by unfold maxLen;omega)).below ((Below.refl _ _).alloc (Nat.le_refl _) _);have ht2:qaX ((w.alloc (qeO a)).alloc (qeO b)) (w.alloc (qeO a)).heap.size (.slice (some ⟨(w.alloc (qeO a)).heap.size,0,none⟩) (qaI 47 b.data.toList).length (qaI 47 b.data.toList).length) (qaI 47 b.data.toList):=qaX.lit (w:=w.alloc (qeO a)) (qaI 47 b.data.toList) (by unfold maxLen;omega);have HT1:=Lib.hid ht1;have HT2:=Lib.hid ht2;have hpa:Obj.cells (strC (qaI 47 a.data.toList)).toArray 9=qeO a:=rfl;have hpb:Obj.cells (strC (qaI 47 b.data.toList)).toArray 9=qeO b:=rfl;have HPA:=Lib.hid hpa;have HPB:=Lib.hid hpb;clear ht1 ht2 h1 h2 hpa hpb hla hlb;go_enter Tryz.func61,Tryz.ntmps61;go_wp2_with fail;refine (qiQ a _ ha).mono ?_;rintro e w1 ⟨rfl,rfl⟩;rw [HPA.out];go_wp2_with fail;refine (qiQ b _ hb).mono ?_;rintro e w2 ⟨rfl,rfl⟩;rw [HPB.out];go_wp2_with fail;refine (Cmp_any _ _ _ _ (qaI 47 a.data.toList) (qaI 47 b.data.toList) _ hma hmb (fun j hj=>⟨w.heap.size,rfl,HT1.out.cell rfl j hj⟩) (fun j hj=>⟨w.heap.size+1,rfl,?_⟩)).mono ?_
 ·have:=HT2.out.cell (by rfl) j hj;simpa using this
 rintro e w' ⟨rfl,rfl⟩;rw [HP.out];go_wp2_with fail;go_ret;exact ⟨rfl,rfl⟩
theorem metaN {w w1:World} {B Z:Obj} {t:TypeId} {cs:Array Value} (hb:Below ((((w.alloc B).alloc Z).alloc (.cells cs t)).drew).heap.size (((w.alloc B).alloc Z).alloc (.cells cs t)).drew w1):Blk w1 (w.heap.size+2) t cs:=by
 have h:=Blk.new ((w.alloc B).alloc Z) t cs;have e:((w.alloc B).alloc Z).heap.size=w.heap.size+2:=by simp
 rw [e]at h;exact Blk.below (w:=(((w.alloc B).alloc Z).alloc (.cells cs t)).drew) h hb (by simp)
def meta0 (r:RawV):Array Value:= #[.int .i64 (pick r.a 4096),.int .i64 (pick r.b 3000),.int .i64 (pick r.a 3000),strV (qdH r.text.data.toList 40),strV qk5,.int .i64 (pick r.b 17179869184),.int .i64 0]
def qjB:Array Value:= #[.int .i64 0,.int .i64 0,.int .i64 0,.string ⟨#[]⟩,.string ⟨#[]⟩,.int .i64 0,.int .i64 0]
def q8V (r:RawV) (w:World) (g:Nat) (wx:World):Prop:=
 w.heap.size+2≤g∧Blk wx w.heap.size 43 (rawC r).toArray∧Blk wx (w.heap.size+1) 47 qjB∧Blk wx g 47 (meta0 r)∧Below w.heap.size w wx
theorem qyZ {w w1 W:World} {kind a b:Int} {text:ByteArray}
  (hW:Blk W w.heap.size 43 #[.int .i64 kind,.int .i64 a,.int .i64 b,.string text]∧Blk W (w.heap.size+1) 47 qjB∧w.heap.size+2≤W.heap.size∧Below w.heap.size w W) (hb:Below W.heap.size W w1):
  Blk w1 w.heap.size 43 #[.int .i64 kind,.int .i64 a,.int .i64 b,.string text]∧Blk w1 (w.heap.size+1) 47 qjB∧w.heap.size+2≤w1.heap.size∧Below w.heap.size w w1:=
 ⟨hW.1.below hb hW.1.lt,hW.2.1.below hb hW.2.1.lt,Nat.le_trans hW.2.2.1 hb.size,hW.2.2.2.trans (hb.mono (by have:=hW.2.2.1;omega))⟩
theorem qjA (w:World) (kind a b:Int) (text:ByteArray):
  Blk ((w.alloc (.cells #[.int .i64 kind,.int .i64 a,.int .i64 b,.string text] 43)).alloc (.cells qjB 47)) w.heap.size 43 #[.int .i64 kind,.int .i64 a,.int .i64 b,.string text]∧
  Blk ((w.alloc (.cells #[.int .i64 kind,.int .i64 a,.int .i64 b,.string text] 43)).alloc (.cells qjB 47)) (w.heap.size+1) 47 qjB∧
  w.heap.size+2≤((w.alloc (.cells #[.int .i64 kind,.int .i64 a,.int .i64 b,.string text] 43)).alloc (.cells qjB 47)).heap.size∧
  Below w.heap.size w ((w.alloc (.cells #[.int .i64 kind,.int .i64 a,.int .i64 b,.string text] 43)).alloc (.cells qjB 47)):=by
 refine ⟨(Blk.new _ _ _).alloc _,?_,by simp,((Below.refl _ _).alloc (Nat.le_refl _) _).alloc (by simp) _⟩;have:=Blk.new (w.alloc (.cells #[.int .i64 kind,.int .i64 a,.int .i64 b,.string text] 43)) 47 qjB;simpa using this
theorem meta_A {w w1:World} {kind a b:Int} {text:ByteArray}
  (hb:Below ((w.alloc (.cells #[.int .i64 kind,.int .i64 a,.int .i64 b,.string text] 43)).alloc (.cells #[.int .i64 0,.int .i64 0,.int .i64 0,.string ⟨#[]⟩,.string ⟨#[]⟩,.int .i64 0,.int .i64 0] 47)).drew.heap.size
   ((w.alloc (.cells #[.int .i64 kind,.int .i64 a,.int .i64 b,.string text] 43)).alloc (.cells #[.int .i64 0,.int .i64 0,.int .i64 0,.string ⟨#[]⟩,.string ⟨#[]⟩,.int .i64 0,.int .i64 0] 47)).drew w1):
  q8V ⟨kind,a,b,text⟩ w w1.heap.size (w1.alloc (.cells #[.int .i64 (pick a 4096),.int .i64 (pick b 3000),.int .i64 (pick a 3000),.string ⟨(qdH text.data.toList 40).toArray⟩,.string ⟨#[115,116,97,102,102]⟩,.int .i64 (pick b 17179869184),.int .i64 0] 47)):=by
 obtain ⟨h1,h2,h3,h4⟩:=qyZ (W:=((w.alloc (.cells #[.int .i64 kind,.int .i64 a,.int .i64 b,.string text] 43)).alloc (.cells qjB 47)).drew) ⟨(qjA w kind a b text).1,(qjA w kind a b text).2.1,(qjA w kind a b text).2.2.1,(qjA w kind a b text).2.2.2.drew⟩ hb;exact ⟨h3,h1.alloc _,h2.alloc _,Blk.new _ _ _,h4.alloc (by omega) _⟩
theorem meta_B {w w1:World} {kind a b:Int} {text:ByteArray}
  (hb:Below (((w.alloc (.cells #[.int .i64 kind,.int .i64 a,.int .i64 b,.string text] 43)).alloc (.cells #[.int .i64 0,.int .i64 0,.int .i64 0,.string ⟨#[]⟩,.string ⟨#[]⟩,.int .i64 0,.int .i64 0] 47)).alloc (.cells #[.int .i64 0,.int .i64 0,.int .i64 0,.string ⟨#[]⟩,.string ⟨#[]⟩,.int .i64 0,.int .i64 0] 47)).drew.heap.size
   (((w.alloc (.cells #[.int .i64 kind,.int .i64 a,.int .i64 b,.string text] 43)).alloc (.cells #[.int .i64 0,.int .i64 0,.int .i64 0,.string ⟨#[]⟩,.string ⟨#[]⟩,.int .i64 0,.int .i64 0] 47)).alloc (.cells #[.int .i64 0,.int .i64 0,.int .i64 0,.string ⟨#[]⟩,.string ⟨#[]⟩,.int .i64 0,.int .i64 0] 47)).drew w1):
  q8V ⟨kind,a,b,text⟩ w (w.heap.size+1+1) (((((((w1.setCell ⟨w.heap.size+1+1,0,none⟩ (.int .i64 (pick a 4096))).setCell ⟨w.heap.size+1+1,1,none⟩ (.int .i64 (pick b 3000))).setCell ⟨w.heap.size+1+1,2,none⟩ (.int .i64 (pick a 3000))).setCell ⟨w.heap.size+1+1,3,none⟩ (.string ⟨(qdH text.data.toList 40).toArray⟩)).setCell ⟨w.heap.size+1+1,4,none⟩ (.string ⟨#[115,116,97,102,102]⟩)).setCell ⟨w.heap.size+1+1,5,none⟩ (.int .i64 (pick b 17179869184))).setCell ⟨w.heap.size+1+1,6,none⟩ (.int .i64 0)):=by
 obtain ⟨m1,m2,m3,m4⟩:=qjA w kind a b text;obtain ⟨h1,h2,h3,h4⟩:=qyZ (W:=(((w.alloc (.cells #[.int .i64 kind,.int .i64 a,.int .i64 b,.string text] 43)).alloc (.cells qjB 47)).alloc (.cells qjB 47)).drew) ⟨m1.alloc _,m2.alloc _,by simp,(m4.alloc (Nat.le_trans (by omega) m3) _).drew⟩ hb;have h5:Blk w1 (w.heap.size+1+1) 47 qjB:=metaN hb;refine ⟨by omega,h1.far7 (by omega) _ _ _ _ _ _ _,h2.far7 (by omega) _ _ _ _ _ _ _,?_,?_⟩
 ·have:=((((((h5.set_ 0 (.int .i64 (pick a 4096))).set_ 1 (.int .i64 (pick b 3000))).set_ 2 (.int .i64 (pick a 3000))).set_ 3 (.string ⟨(qdH text.data.toList 40).toArray⟩)).set_ 4 (.string ⟨#[115,116,97,102,102]⟩)).set_ 5 (.int .i64 (pick b 17179869184))).set_ 6 (.int .i64 0);exact this
 ·exact ((((((h4.setCell (p:=⟨w.heap.size+1+1,0,none⟩) (by show _≤w.heap.size+1+1;omega) _).setCell (p:=⟨w.heap.size+1+1,1,none⟩) (by show _≤w.heap.size+1+1;omega) _).setCell (p:=⟨w.heap.size+1+1,2,none⟩) (by show _≤w.heap.size+1+1;omega) _).setCell (p:=⟨w.heap.size+1+1,3,none⟩) (by show _≤w.heap.size+1+1;omega) _).setCell (p:=⟨w.heap.size+1+1,4,none⟩) (by show _≤w.heap.size+1+1;omega) _).setCell (p:=⟨w.heap.size+1+1,5,none⟩) (by show _≤w.heap.size+1+1;omega) _).setCell (p:=⟨w.heap.size+1+1,6,none⟩) (by show _≤w.heap.size+1+1;omega) _
attribute [local go_sem ↓] Go.wp_at_zero Go.wp_at_succ
set_option maxHeartbeats 4000000 in
theorem zdG (r:RawV) (hr:r.wf) (w:World):Calls Tryz.prog 55 #[.agg (rawC r).toArray] w fun e w'=>e= .returned (.agg (qkC (qeQ r)).toArray)∧Below w.heap.size w w':=by
 obtain ⟨hk,ha,hb,ht⟩:=hr;obtain ⟨kind,a,b,text⟩:=r;simp only at hk ha hb ht;have HK:=Lib.hid hk;have HA:=Lib.hid ha;have HB:=Lib.hid hb;have ht':text.size≤140737488355328:=by omega
 clear hk ha hb;unfold rawC;have r0: ∀W:World,Blk W w.heap.size 43 #[.int .i64 kind,.int .i64 a,.int .i64 b,.string text]→W.cell? ⟨w.heap.size,0,none⟩=some (.int .i64 kind):=fun W h=>(blk4 h).1;have r1: ∀W:World,Blk W w.heap.size 43 #[.int .i64 kind,.int .i64 a,.int .i64 b,.string text]→W.cell? ⟨w.heap.size,1,none⟩=some (.int .i64 a):=fun W h=>(blk4 h).2.1;have r2: ∀W:World,Blk W w.heap.size 43 #[.int .i64 kind,.int .i64 a,.int .i64 b,.string text]→W.cell? ⟨w.heap.size,2,none⟩=some (.int .i64 b):=fun W h=>(blk4 h).2.2.1;have r3: ∀W:World,Blk W w.heap.size 43 #[.int .i64 kind,.int .i64 a,.int .i64 b,.string text]→W.cell? ⟨w.heap.size,3,none⟩=some (.string text):=fun W h=>(blk4 h).2.2.2;go_enter Tryz.func55,Tryz.ntmps55;go_upto_region 1 with fail
 go_cut [3] (fun s3 wx=> ∃g:Nat,s3= .pointer (some ⟨g,0,none⟩)∧q8V ⟨kind,a,b,text⟩ w g wx)
 case first=>
  go_region_held3 (fun w'=>Blk w' w.heap.size 43 #[.int .i64 kind,.int .i64 a,.int .i64 b,.string text])
   (first
    |(with_reducible assumption)
    |(with_reducible exact Blk.swap (by with_reducible assumption) (by decide) _)
    |(with_reducible refine Blk.alloc ?_ _;with_reducible assumption)
    |(with_reducible refine Blk.far7 ?_ (ne_two _) _ _ _ _ _ _ _;with_reducible assumption)|(with_reducible refine Blk.far7 ?_ (ne_two' _) _ _ _ _ _ _ _;with_reducible assumption)
    |(with_reducible exact Blk.below (by with_reducible assumption) hb1 (Blk.lt (by with_reducible assumption)))
    |(with_reducible refine Blk.drew_ ?_;repeat (first|with_reducible exact Blk.new _ _ _|with_reducible refine Blk.alloc ?_ _)))
   (first|(go_at_call 22;refine (qbR _ _ _ (by first|exact HA.out|exact HB.out) (by omega)).mono ?_;rintro e w' ⟨rfl,rfl⟩)|(go_at_call 57;refine (qoC text 40 _ ht' (by omega)).mono ?_;rintro e w1 ⟨rfl,hb1⟩;(first|(with_reducible have hN:Blk w1 (w.heap.size+2) 47 #[.int .i64 0,.int .i64 0,.int .i64 0,.string ⟨#[]⟩,.string ⟨#[]⟩,.int .i64 0,.int .i64 0]:=metaN hb1;obtain ⟨⟨n0,n1,n2,n3,n4,n5,n6⟩,m0,m1,m2,m3,m4,m5,m6⟩:=blk7 hN;clear hN)|skip)))
  all_goals (go_wp2_with fail;go_meet;first|exact ⟨_,rfl,meta_A hb1⟩|exact ⟨_,rfl,meta_B hb1⟩)
 case rest=>
  obtain ⟨g,rfl,hM⟩:=hcut;obtain ⟨hg,hm1,hm2,hm3,hm4⟩:=hM;unfold rawC at hm1;unfold qjB at hm2;unfold meta0 strV qk5 at hm3;simp only at hm1 hm3;obtain ⟨q0,q1,q2,q3⟩:=blk4 hm1;obtain ⟨⟨z0,z1,z2,z3,z4,z5,z6⟩,y0,y1,y2,y3,y4,y5,y6⟩:=blk7 hm2;obtain ⟨⟨n0,n1,n2,n3,n4,n5,n6⟩,m0,m1,m2,m3,m4,m5,m6⟩:=blk7 hm3;have HM4:=Lib.hid hm4;have HZ:=Lib.hid hm2;have HN:=Lib.hid hm3;clear hm1 hm2 hm3 hm4 r0 r1 r2 r3;have hB1:w.heap.size≤w.heap.size+1:=Nat.le_succ _;have hB2:w.heap.size≤g:=by omega
  obtain ⟨s1,s2⟩:=qbG b 17179869184 (by omega);obtain ⟨t1,t2⟩:=qbG a 61 (by omega);obtain ⟨x1,x2⟩:=qbG kind 9 (by omega)
  by_cases h0:pick kind 9=0
  ·go_wp2_with (go_at_call 22;refine (qbR _ _ _ (by first|exact HK.out|exact HA.out|exact HB.out) (by omega)).mono ?_;rintro e w' ⟨rfl,rfl⟩);refine bodyPost_ret (v:= .agg (qkC (qeQ ⟨kind,a,b,text⟩)).toArray) (by simp [results,Tryz.results55,go_sem,qkC,qeQ,strV,qk5, *]) rfl ⟨rfl,?_⟩;with_reducible (first|exact Below.set7 HM4.out hB1 _ _ _ _ _ _ _|exact Below.set7 (Below.set1 HM4.out hB2 _ _) hB1 _ _ _ _ _ _ _)
  ·by_cases h1:pick kind 9=1
   ·have d0:((1:Int)==0)=false:=rfl;go_wp2_with (go_at_call 22;refine (qbR _ _ _ (by first|exact HK.out|exact HA.out|exact HB.out) (by omega)).mono ?_;rintro e w' ⟨rfl,rfl⟩);refine bodyPost_ret (v:= .agg (qkC (qeQ ⟨kind,a,b,text⟩)).toArray) (by simp [results,Tryz.results55,go_sem,qkC,qeQ,strV,qk5, *]) rfl ⟨rfl,?_⟩;with_reducible (first|exact Below.set7 HM4.out hB1 _ _ _ _ _ _ _|exact Below.set7 (Below.set1 HM4.out hB2 _ _) hB1 _ _ _ _ _ _ _)
   ·by_cases h2:pick kind 9=2
    ·go_wp2_with (go_at_call 22;refine (qbR _ _ _ (by first|exact HK.out|exact HA.out|exact HB.out) (by omega)).mono ?_;rintro e w' ⟨rfl,rfl⟩);refine bodyPost_ret (v:= .agg (qkC (qeQ ⟨kind,a,b,text⟩)).toArray) (by simp [results,Tryz.results55,go_sem,qkC,qeQ,strV,qk5, *]) rfl ⟨rfl,?_⟩;with_reducible (first|exact Below.set7 HM4.out hB1 _ _ _ _ _ _ _|exact Below.set7 (Below.set1 HM4.out hB2 _ _) hB1 _ _ _ _ _ _ _)
    ·by_cases h3:pick kind 9=3
     ·go_wp2_with (go_at_call 22;refine (qbR _ _ _ (by first|exact HK.out|exact HA.out|exact HB.out) (by omega)).mono ?_;rintro e w' ⟨rfl,rfl⟩);refine bodyPost_ret (v:= .agg (qkC (qeQ ⟨kind,a,b,text⟩)).toArray) (by simp [results,Tryz.results55,go_sem,qkC,qeQ,strV,qk5, *]) rfl ⟨rfl,?_⟩;with_reducible (first|exact Below.set7 HM4.out hB1 _ _ _ _ _ _ _|exact Below.set7 (Below.set1 HM4.out hB2 _ _) hB1 _ _ _ _ _ _ _)
     ·by_cases h4:pick kind 9=4
      ·obtain ⟨k,Hk⟩: ∃k:Nat,Hid (pick a 61=k):=⟨(pick a 61).toNat,show _=_ by omega⟩;have hk61:k≤60:=by have:=Hk.out;omega
       go_wp2_with (go_at_call 22;refine (qbR _ _ _ (by first|exact HK.out|exact HA.out|exact HB.out) (by omega)).mono ?_;rintro e w' ⟨rfl,rfl⟩);rw [Hk.out];refine (Tryz.strings_Repeat ⟨#[103]⟩ k _ (by omega) (by show 1*k≤_;omega)).mono ?_;rintro e w1 ⟨rfl,hb1⟩;rw [qwQ];obtain ⟨sg,Hsg⟩:=qaA (⟨(List.replicate k 103).toArray⟩:ByteArray);rw [Hsg.out];have hz1:=HZ.out.below hb1 HZ.out.lt;have hn1:=HN.out.below hb1 HN.out.lt;have hwc:w.heap.size≤wc.heap.size:=HM4.out.size;have HM5:=Lib.hid (HM4.out.trans (hb1.mono hwc))
       have Hmv:Hid ((qkC (qeQ ⟨kind,a,b,text⟩)).toArray= #[.int .i64 (pick a 4096),.int .i64 (pick b 3000),.int .i64 (pick a 3000),.string ⟨(qdH text.data.toList 40).toArray⟩,.string sg,.int .i64 (pick b 17179869184),.int .i64 0]):=by
        unfold Hid;have hk2:(pick a 61).toNat=k:=by rw [Hk.out];simp
        rw [←Hsg.out];simp [qkC,qeQ,strV,h4,hk2]
       clear q0 q1 q2 q3 z0 z1 z2 z3 z4 z5 z6 y0 y1 y2 y3 y4 y5 y6 n0 n1 n2 n3 n4 n5 n6 m0 m1 m2 m3 m4 m5 m6 hb1 hwc;obtain ⟨⟨z0,z1,z2,z3,z4,z5,z6⟩,y0,y1,y2,y3,y4,y5,y6⟩:=blk7 hz1;obtain ⟨⟨n0,n1,n2,n3,n4,n5,n6⟩,m0,m1,m2,m3,m4,m5,m6⟩:=blk7 hn1;clear hz1 hn1;go_wp2_with fail;refine bodyPost_ret (v:= .agg #[.int .i64 (pick a 4096),.int .i64 (pick b 3000),.int .i64 (pick a 3000),.string ⟨(qdH text.data.toList 40).toArray⟩,.string sg,.int .i64 (pick b 17179869184),.int .i64 0]) (by simp [results,Tryz.results55,go_sem, *]) rfl ⟨?_,?_⟩
       ·rw [Hmv.out]
       ·with_reducible exact Below.set7 (Below.set1 HM5.out hB2 _ _) hB1 _ _ _ _ _ _ _
      ·have d0:(pick kind 9==0)=false:=by simpa using h0
       have d1:(pick kind 9==1)=false:=by simpa using h1
       have d2:(pick kind 9==2)=false:=by simpa using h2
       have d3:(pick kind 9==3)=false:=by simpa using h3
       have d4:(pick kind 9==4)=false:=by simpa using h4
       go_wp2_with (go_at_call 22;refine (qbR _ _ _ (by first|exact HK.out|exact HA.out|exact HB.out) (by omega)).mono ?_;rintro e w' ⟨rfl,rfl⟩);refine bodyPost_ret (v:= .agg (qkC (qeQ ⟨kind,a,b,text⟩)).toArray) (by simp [results,Tryz.results55,go_sem,qkC,qeQ,strV,qk5, *]) rfl ⟨rfl,?_⟩;with_reducible (first|exact Below.set7 HM4.out hB1 _ _ _ _ _ _ _|exact Below.set7 (Below.set1 HM4.out hB2 _ _) hB1 _ _ _ _ _ _ _)
end Go.Proofs.YtapgoifimhnbdaaGreatDoor
