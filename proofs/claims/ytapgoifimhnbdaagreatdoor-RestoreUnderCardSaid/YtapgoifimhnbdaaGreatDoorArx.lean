/- qaX of one kind, in one file: ArcM, ArcA. -/
import Derived.Test.YtapgoifimhnbdaaGreatDoorMer
import Derived.Test.YtapgoifimhnbdaaGreatDoorMcv
import Derived.Test.YtapgoifimhnbdaaGreatDoorEnt
import Derived.Test.YtapgoifimhnbdaaGreatDoorLnp
import Derived.Test.YtapgoifimhnbdaaGreatDoorPda
set_option linter.unusedVariables false
namespace Go.Proofs.YtapgoifimhnbdaaGreatDoor
open Go.RowKit
theorem qf7 {l:List EntV} (h:qbJ l=0):l.length≤40:=by
 unfold qbJ at h
 by_cases c:40<l.length
 ·rw [if_pos c]at h;exact absurd h (by decide)
 ·omega
theorem q7C {l:List EntV} (h:qbJ l=0):qb3 [] l=0:=by
 have c:=qf7 h;unfold qbJ at h
 rwa [if_neg (by omega)]at h
theorem q7F {l:List EntV} (h:qbJ l=0) (k:Nat) (hk:k<l.length):eatE (l.take k) l[k]=0:=by
 have h1:=(qfI l []).1 (q7C h) k hk
 rwa [List.nil_append]at h1
theorem qc1 {l:List EntV} (h:qbJ l=0): ∀x∈l,entE x=0:=fun x hx=>by
 obtain ⟨k,hk,rfl⟩:=List.mem_iff_getElem.1 hx;exact ((qfL _ _).1 (q7F h k hk)).1
theorem qqA {l:List EntV} (h:qbJ l=0) (k:Nat):qbJ (l.take k)=0:=by
 have c:=qf7 h;unfold qbJ;rw [if_neg (by rw [List.length_take];omega)];refine (qfI _ []).2 fun j hj=> ?_;rw [List.length_take]at hj;have h1:=q7F h j (by omega);rw [List.nil_append,List.getElem_take,List.take_take,Nat.min_eq_left (by omega)];exact h1
theorem qkV {x:EntV} (h:entE x=0):512≤(qa4 x).length∧(qa4 x).length≤20000∧(qa4 x).length%512=0:=by
 have h1:=qqJ h;have h2:=qhF h;have h3:=qiE x.data.length;have h4:=qiE (qcD (qa1 x)).length;have h5:=(qcP h).data;rw [h1]
 split<;>omega
def arcB (l:List EntV):List UInt8:=l.flatMap qa4
theorem zc0:arcB []= []:=rfl
theorem qzT (l m:List EntV):arcB (l++m)=arcB l++arcB m:=List.flatMap_append
theorem qzS (x:EntV):arcB [x]=qa4 x:=by unfold arcB;rw [List.flatMap_cons,List.flatMap_nil,List.append_nil]
theorem qjW (x:EntV) (l:List EntV):arcB (x::l)=qa4 x++arcB l:=List.flatMap_cons
theorem q8H {l:List EntV} {k:Nat} (hk:k<l.length):arcB (l.take (k+1))=arcB (l.take k)++qa4 l[k]:=by
 rw [List.take_succ_eq_append_getElem hk,qzT,qzS]
theorem ql4: ∀(l:List EntV),(∀x∈l,entE x=0)→512*l.length≤(arcB l).length∧(arcB l).length≤20000*l.length∧(arcB l).length%512=0
 | [],_=>⟨Nat.le_refl _,Nat.le_refl _,rfl⟩
 |x::l,h=>by
  have h1:=ql4 l fun y hy=>h y (List.mem_cons_of_mem _ hy);have h2:=qkV (h x List.mem_cons_self);rw [qjW,List.length_append,List.length_cons];omega
def arcE (l:List EntV):List UInt8:=if qbJ l=0 then arcB l++List.replicate 1024 0 else []
theorem qoL {l:List EntV} (h:qbJ l=0):arcE l=arcB l++List.replicate 1024 0:=if_pos h
theorem arcE_no {l:List EntV} (h:qbJ l≠0):arcE l= []:=if_neg h
theorem zcZ {l:List EntV} (h:qbJ l=0):(arcE l).length=(arcB l).length+1024:=by rw [qoL h,List.length_append,List.length_replicate]
theorem qsU {l:List EntV} (h:qbJ l=0):(arcE l).length≤801024:=by
 have h1:=ql4 l (qc1 h);have h2:=qf7 h;rw [zcZ h];omega
def plcN (l:List EntV) (k:Nat):List Int:=(List.range k).map fun i=>((arcB (l.take i)).length:Int)
def plcA (l:List EntV):List Int:=if qbJ l=0 then plcN l (l.length+1)else []
theorem arc_bd {l:List EntV} (h:qbJ l=0) (k:Nat):(arcB (l.take k)).length≤800000:=by
 have h1:=ql4 _ (qc1 (qqA h k));have h2:=qf7 (qqA h k);omega
theorem arc_end {l:List EntV} (h:qbJ l=0):(arcE l).drop (arcB l).length=List.replicate 1024 0:=by rw [qoL h];exact List.drop_left' rfl
end Go.Proofs.YtapgoifimhnbdaaGreatDoor
set_option maxRecDepth 100000
namespace Go.Proofs.YtapgoifimhnbdaaGreatDoor
open Go.RowKit
open Go.OpenShut
theorem enc_any (x:EntV) (D:Option Addr) (c:Nat) (hx:x.sz) (h0:entE x=0) (w:World) (T:Tab w) (hD:qaE w D x.data) (hsl:SlOk D x.data.length c):
  Calls Tryz.prog 48 #[.agg (entC x D c).toArray] w fun e w'=> ∃A n cc,e= .returned (.slice A n cc)∧SlOk A n cc∧(qa4 x).length=n∧qaE w' A (qa4 x)∧Below w.heap.size w w':=by
 have H2:=Lib.hid fun W TW hA=>qkF x D c hx W TW hA hsl;rw [h0]at H2;have hbo:bytO x=qa4 x:=if_pos h0;rw [hbo]at H2;generalize qa4 x=BM at H2⊢;have HB:=Lib.hid ((Below.refl w.heap.size w).alloc (Nat.le_refl _) (.cells (entC x D c).toArray 73));have HE:=Lib.hid (Blk.new w 73 (entC x D c).toArray);have HD:=Lib.hid (hD.below HB.out);have HT:=Lib.hid (T.below HB.out);clear hx h0 hbo hD hsl;obtain ⟨path,kind,target,⟨m0,m1,m2,m3,m4,m5,m6⟩,data⟩:=x;unfold entC at H2 HB HE HD HT⊢;simp only at H2 HB HE HD HT⊢;generalize data.length=dl at*;obtain ⟨⟨q0,q1,q2,q3,q4,q5,q6,q7,q8,q9,qA⟩,-⟩:=qaP HE.out;have H3:=Lib.hid (H2.out _ HT.out HD.out);clear H2 HE HD HT;go_enter Tryz.func48,Tryz.ntmps48;go_wp2_with fail;refine H3.out.mono ?_;rintro e x2 ⟨A,n,cc,rfl,hs,hn,ha,hb⟩;have HS:=Lib.hid hs;have HN:=Lib.hid hn;have HA:=Lib.hid ha;have HB2:=Lib.hid (HB.out.trans (hb.mono HB.out.size));clear hs hn ha hb H3;go_wp2_with fail;go_ret;exact ⟨A,n,cc,rfl,HS.out,HN.out,HA.out,HB2.out⟩
set_option maxHeartbeats 4000000 in
theorem qmA (A:Option Addr) (n c:Nat) (l:List EntV) (hn:l.length=n) (hc:SlOk A n c) (hsz: ∀x∈l,x.sz) (w:World) (T:Tab w) (hA:qdJ w A l):
  Calls Tryz.prog 17 #[.slice A n c] w fun e w'=> ∃v,e= .returned (.tuple #[v,.int .i64 (qbJ l)])∧OwnB w' w.heap.size v (arcE l)∧Below w.heap.size w w':=by
 have HC:=Lib.hid (qdX A n c l hn hc hsz w hA)
 by_cases h0:qbJ l=0
 ·have h40:=qf7 h0;have HE:=Lib.hid (qc1 h0);have HL:=Lib.hid (qoL h0);have HBd:=Lib.hid fun k=>arc_bd h0 k;rw [h0]at HC⊢;have HN:=Lib.hid hn;have HA:=Lib.hid hA;have HSZ:=Lib.hid hsz;have h41:n≤40:=by omega
  have hcap:=hc.1;have hmx:=hc.2.1;unfold maxLen at hmx;clear hn hA hsz hc h0 h40;go_enter Tryz.func17,Tryz.ntmps17;go_wp2_with fail;refine HC.out.mono ?_;rintro e x1 ⟨rfl,hb1⟩;have HB1:=Lib.hid hb1;clear hb1 HC;go_wp2_with fail
  go_loopw [5,15] (fun bv iv wr=> ∃k:Nat,k≤n∧iv= .int .i64 k∧Hid (OwnB wr w.heap.size bv (arcB (l.take k)))∧Hid (Below w.heap.size w wr)) (fun _ iv _=>n-(intOf iv).toNat)
  case atStart=>exact ⟨0,Nat.zero_le _,rfl,OwnB.nil _ _,HB1.out⟩
  case round=>
   obtain ⟨k,hk,rfl,HO,HB⟩:=hrel
   by_cases hlt:k<n
   ·have hk1:k<l.length:=by rw [HN.out];exact hlt
    obtain ⟨b,o,D,cc,rfl,c0,c1,c3,⟨c4,c5,c6,c7,c8,c9,cA⟩,cB,hsD,hdD⟩:=(HA.out.below HB.out).cells k hk1;have hxsz:=HSZ.out _ (List.getElem_mem hk1);have hx0:=HE.out _ (List.getElem_mem hk1);have HNx:=Lib.hid (q8H hk1);have HBk:=Lib.hid (HBd.out (k+1));rw [HNx.out,List.length_append]at HBk;have hba:=(Below.refl wr.heap.size wr).alloc (Nat.le_refl _) (.cells (entA l[k] D cc) 73);have HEn:=Lib.hid (enc_any l[k] D cc hxsz hx0 _ (T.below (HB.out.trans (hba.mono HB.out.size))) (hdD.below hba) hsD);generalize l[k]=x at*;unfold entC at HEn;go_upto_region 8 with fail
    have HBl:=Lib.hid (Blk.new wr 73 (entA x D cc));have HBa:Hid (Below wr.heap.size wr (wr.alloc (.cells (entA x D cc) 73))):=hba;unfold entA at HBl HBa HEn;generalize hwa:wr.alloc _=wa at HBl HBa HEn⊢;obtain ⟨⟨e0,e1,e3,e4,e5,e6,e7,e8,e9,eA,eB⟩,-⟩:=qaP HBl.out;generalize qa4 x=BM at*;have HOa:=Lib.hid (HO.out.below HBa.out);have HBw:=Lib.hid (HB.out.trans (HBa.out.mono HB.out.size));clear hwa c0 c1 c3 c4 c5 c6 c7 c8 c9 cA cB hba hsD hdD hxsz hx0;go_wp2_with fail;refine HEn.out.mono ?_;rintro e x2 ⟨A2,n2,c2,rfl,hs2,hn2,ha2,hb⟩;have HO2:=Lib.hid (HOa.out.below hb);have HB2:=Lib.hid (HBw.out.trans (hb.mono HBw.out.size));clear hb e0 e1 e3 e4 e5 e6 e7 e8 e9 eA eB HBl HBa HOa HBw HEn;go_wp2_with (at_builtin;refine Stay.go ?_);refine Stay.on ?_;refine qiP rfl (.tmp 19) (.tmp 21) rfl w.heap.size _ (arcB (l.take k)) rfl HO2.out A2 n2 c2 BM rfl hn2 ha2 hs2.2.2 (by have:=HBk.out;omega) HB2.out.size ?_;intro v6 x6 ho6 hb6;rw [←HNx.out]at ho6;have HO6:=Lib.hid ho6;have HB6:=Lib.hid (hb6 w HB2.out);clear ho6 hb6 hs2 hn2 ha2;go_wp2_with fail;go_roundw
    case rel=>exact ⟨k+1,by omega,by go_num,HO6.out,HB6.out⟩
    case measure=>simp [intOf];omega
   ·obtain rfl:k=n:=by omega
    have hO:=HO.out;have hbk:=HBd.out k;rw [List.take_of_length_le (by rw [HN.out];exact Nat.le_refl _)]at hO hbk;have HO1:=Lib.hid hO;clear hO HO;go_wp2_with fail;refine (End_any _).mono ?_;rintro e x2 ⟨v2,rfl,ho2,hb⟩;obtain ⟨A2,c2,rfl,hs2,ha2⟩:=ho2.form;have HO2:=Lib.hid (HO1.out.below hb);have HB2:=Lib.hid (HB.out.trans (hb.mono HB.out.size));clear hb ho2;go_wp2_with (at_builtin;refine Stay.go ?_);refine Stay.on ?_;refine qiP rfl (.tmp 24) (.tmp 25) rfl w.heap.size _ (arcB l) rfl HO2.out A2 _ c2 (List.replicate 1024 0) rfl rfl ha2 hs2.2.2 (by omega) HB2.out.size ?_;intro v6 x6 ho6 hb6;rw [←HL.out]at ho6;have HO6:=Lib.hid ho6;have HB6:=Lib.hid (hb6 w HB2.out);clear ho6 hb6 hs2 ha2;go_wp2_with fail;go_ret2;exact ⟨_,rfl,HO6.out,HB6.out⟩
 ·have hne:(qbJ l !=0)=true:=by simpa using h0
  rw [arcE_no h0];generalize qbJ l=E at HC hne⊢;clear h0 hn hA hsz hc;go_enter Tryz.func17,Tryz.ntmps17;go_wp2_with fail;refine HC.out.mono ?_;rintro e x1 ⟨rfl,hb1⟩;have HB1:=Lib.hid hb1;clear hb1;go_wp2_with fail;go_ret2;exact ⟨_,rfl,OwnB.nil _ _,HB1.out⟩
end Go.Proofs.YtapgoifimhnbdaaGreatDoor
