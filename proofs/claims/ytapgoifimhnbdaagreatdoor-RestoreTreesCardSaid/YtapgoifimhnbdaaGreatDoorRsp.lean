/- qaV of one kind, in one file: EntO, EntS, ResP. -/
import Derived.Test.YtapgoifimhnbdaaGreatDoorEnj
import Derived.Test.YtapgoifimhnbdaaGreatDoorLnk
import Derived.Deep.DeepCutAuto
import Derived.BigRegion
import Derived.Test.YtapgoifimhnbdaaGreatDoorRes
import Derived.Test.YtapgoifimhnbdaaGreatDoorRea
set_option linter.unusedVariables false
set_option maxRecDepth 100000
namespace Go.Proofs.YtapgoifimhnbdaaGreatDoor
open Go.RowKit
open Go.OpenShut
def qm2 (l:List EntV) (i j:Nat) (x:EntV):NodeV:=
 if x.kind=4 then qdS l j x else ⟨x.path,x.kind,smE (l.take i) j x,x.target,x.md,x.data⟩
def qf4 (l:List EntV) (i:Nat):List NodeV:=(l.take i).mapIdx fun j x=>qm2 l i j x
theorem qbH (l:List EntV) (i:Nat) (h:i≤l.length):(qf4 l i).length=i:=by unfold qf4;rw [List.length_mapIdx,List.length_take];omega
theorem qf3 (l:List EntV) (i j:Nat) (h:i≤l.length) (hj:j<i):(qf4 l i)[j]'(by rw [qbH l i h];exact hj)=qm2 l i j (l[j]'(by omega)):=by
 unfold qf4;rw [List.getElem_mapIdx,List.getElem_take]
theorem q25 (l:List EntV):qf4 l l.length=qeG l:=by
 apply List.ext_getElem
 ·rw [qbH l _ (Nat.le_refl _),qbT]
 ·intro j h1 h2;rw [qbT]at h2;rw [qf3 l _ j (Nat.le_refl _) h2,qeQ l j h2];unfold qm2 qdS smE anyE;rw [List.take_length]
  split
  ·rfl
  ·rfl
theorem qtJ {l:List EntV} (h:qbQ [] l=0) {k:Nat} (hk:k<l.length):qaQ l l[k].path=k:=by
 refine qd3 l _ k hk ?_ rfl;have h1:=qq5 h hk;apply Classical.byContradiction;intro hc;have h2:qaQ l l[k].path<k:=by omega
 have h3:=qdL l l[k].path (by omega);refine qjI (l.take k) l[k].path (qaQ l l[k].path) (by rw [h1];exact h2) (by rw [List.length_take];omega) ?_;rw [List.getElem_take];exact h3
theorem qzG {l:List EntV} (h:qbE l=0) {i:Nat} (hi:i<l.length) (hk:l[i].kind=4) (hf:qaQ l l[i].target<i) (hg:qaQ l l[i].target<(qf4 l i).length):
  qf4 l (i+1)=((qf4 l i).set (qaQ l l[i].target) {(qf4 l i)[qaQ l l[i].target]with same:=((qaQ l l[i].target:Nat):Int)+1})++ [qdS l i l[i]]:=by
 have hw:qbQ [] l=0:=by
  unfold qbE at h
  split at h
  ·cases h
  ·exact h
 obtain ⟨hfl,-,hf1,hfm⟩:=qxN h hi hk;have hft:=qdL l l[i].target hfl;apply List.ext_getElem
 ·rw [qbH l _ (by omega),List.length_append,List.length_set,qbH l _ (by omega)];rfl
 ·intro j h1 h2;rw [qbH l _ (by omega)]at h1;rw [qf3 l (i+1) j (by omega) h1]
  by_cases hji:j=i
  ·subst hji;rw [List.getElem_append_right (by rw [List.length_set,qbH l _ (by omega)];exact Nat.le_refl _)];simp only [List.length_set,qbH l j (by omega),Nat.sub_self,List.getElem_cons_zero];unfold qm2;rw [if_pos hk]
  ·have hlt:j<i:=by omega
   rw [List.getElem_append_left (by rw [List.length_set,qbH l _ (by omega)];exact hlt),List.getElem_set];have hsm:=qp3 l j l[j] i hi _ rfl;rw [decide_eq_true hk,Bool.true_and]at hsm
   by_cases hjf:qaQ l l[i].target=j
   ·rw [if_pos hjf];subst hjf;simp only [qf3 l i _ (by omega) hlt];unfold qm2;rw [if_neg (by rw [hf1];decide),if_neg (by rw [hf1];decide)];rw [hsm,decide_eq_true hft.symm,decide_eq_true hf1]
    rfl
   ·rw [if_neg hjf,qf3 l i j (by omega) hlt];unfold qm2;have hne:l[i].target≠l[j].path:=fun e=>hjf (by rw [e];exact qtJ hw (by omega));rw [hsm,decide_eq_false hne]
    rfl
theorem qvA {l:List EntV} (h:qbE l=0) {i:Nat} (hi:i<l.length) (hk:l[i].kind≠4):
  qf4 l (i+1)=qf4 l i++ [⟨l[i].path,l[i].kind,0,l[i].target,l[i].md,l[i].data⟩]:=by
 have hw:qbQ [] l=0:=by
  unfold qbE at h
  split at h
  ·cases h
  ·exact h
 apply List.ext_getElem
 ·rw [qbH l _ (by omega),List.length_append,qbH l _ (by omega)];rfl
 ·intro j h1 h2;rw [qbH l _ (by omega)]at h1;rw [qf3 l (i+1) j (by omega) h1]
  by_cases hji:j=i
  ·subst hji;rw [List.getElem_append_right (by rw [qbH l _ (by omega)];exact Nat.le_refl _)];simp only [qbH l j (by omega),Nat.sub_self,List.getElem_cons_zero];unfold qm2;rw [if_neg hk]
   have h0:smE (l.take (j+1)) j l[j]=0:=by
    unfold smE;rw [if_neg];rintro ⟨-,ha⟩;unfold anyE at ha;obtain ⟨y,hy,hy2⟩:=List.any_eq_true.1 ha;rw [Bool.and_eq_true,decide_eq_true_eq,decide_eq_true_eq]at hy2;obtain ⟨k,hkl,rfl⟩:=List.getElem_of_mem hy;rw [List.length_take]at hkl;rw [List.getElem_take]at hy2;have hkj:k≠j:=fun e=>by subst e;exact hk hy2.1
    obtain ⟨-,a2,-⟩:=qxN h (i:=k) (by omega) hy2.1;rw [hy2.2,qtJ hw hi]at a2;omega
   rw [h0]
  ·have hlt:j<i:=by omega
   rw [List.getElem_append_left (by rw [qbH l _ (by omega)];exact hlt),qf3 l i j (by omega) hlt];unfold qm2;have hsm:=qp3 l j l[j] i hi _ rfl;rw [decide_eq_false hk,Bool.false_and]at hsm;rw [hsm]
   rfl
theorem MapS.far {w:World} {r:Nat} {f:ByteArray→Option Value} (h:MapS w r f) {p:Addr} (hp:r≠p.block) (u:Value):MapS (w.setCell p u) r f:=h.stays (Below.heap_setCell w p u r hp)
theorem qoG {w:World} {B e size n r:Nat} {v:Value} {xs:List Value} {f:ByteArray→Option Value} (h:w.ownsRow B e size v n xs) (hm:MapS w r f): ∀g,v.ownBlock=some g→g≠r:=by
 intro g hg e;subst e;obtain ⟨es,clock,hr,-⟩:=hm;obtain ⟨-,cur,hc⟩:=qcS h g hg;rw [hc]at hr;cases hr
theorem MapS.grown {w w':World} {B e size n r:Nat} {v:Value} {xs:List Value} {f:ByteArray→Option Value} (hm:MapS w r f) (h:w.ownsRow B e size v n xs) (hg:w.grownBy w' v.ownBlock):MapS w' r f:=
 hm.stays (hg.block r hm.lt fun e=>qoG h hm r e.symm rfl)
def PlcE (w:World) (r:Nat) (t:List EntV):Prop:=
 ∃f,MapS w r f∧ ∀s:List UInt8,f (bs s)=if qaQ t s<t.length then some (.int .i64 ((qaQ t s:Nat):Int))else none
theorem PlcE.below {w w':World} {r:Nat} {t:List EntV} (h:PlcE w r t) (hb:Below w.heap.size w w'):PlcE w' r t:=by
 obtain ⟨f,h1,h2⟩:=h;exact ⟨f,h1.below hb,h2⟩
theorem PlcE.far {w:World} {r:Nat} {t:List EntV} (h:PlcE w r t) {p:Addr} (hp:r≠p.block) (u:Value):PlcE (w.setCell p u) r t:=by
 obtain ⟨f,h1,h2⟩:=h;exact ⟨f,h1.far hp u,h2⟩
theorem PlcE.row_ne {w:World} {r:Nat} {t:List EntV} (h:PlcE w r t) {B e size n:Nat} {v:Value} {xs:List Value} (h':w.ownsRow B e size v n xs): ∀g,v.ownBlock=some g→g≠r:=by
 obtain ⟨f,h1,h2⟩:=h;exact qoG h' h1
theorem PlcE.grown {w w':World} {r:Nat} {t:List EntV} (h:PlcE w r t) {B e size n:Nat} {v:Value} {xs:List Value} (h':w.ownsRow B e size v n xs) (hg:w.grownBy w' v.ownBlock):PlcE w' r t:=by
 obtain ⟨f,h1,h2⟩:=h;exact ⟨f,h1.grown h' hg,h2⟩
theorem PlcE.lt {w:World} {r:Nat} {t:List EntV} (h:PlcE w r t):r<w.heap.size:=by
 obtain ⟨f,h1,h2⟩:=h;exact h1.lt
theorem PlcE.new (w:World):PlcE (w.alloc (.map #[] 0)) w.heap.size []:=⟨_,MapS.new w,fun s=>by rw [if_neg (by simp)]⟩
theorem PlcE.look {w:World} {r:Nat} {t:List EntV} (h:PlcE w r t) (s:List UInt8) (hf:qaQ t s<t.length):
  (Instr.lookup 99 (.map (some r)) (.string (bs s)) false).run Tryz.prog w= .ok (.int .i64 ((qaQ t s:Nat):Int)) w:=by
 obtain ⟨f,h1,h2⟩:=h;have hl:=MapS.look (P:=Tryz.prog) (et:=3) Tryz.underlying99 Tryz.underlying9 h1 (bs s) (z:= .int .i64 0) (fun W=>by kernel_rfl) false;rw [if_neg (by decide),h2 s,if_pos hf]at hl;exact hl
theorem PlcE.put {w:World} {r:Nat} {t:List EntV} (h:PlcE w r t) (x:EntV) (hx:qaQ t x.path=t.length):
  ∃w',(Instr.mapUpdate 99 (.map (some r)) (.string (bs x.path)) (.int .i64 (t.length:Int))).run Tryz.prog w= .ok () w'∧(∀w0 B,B≤r→Below B w0 w→Below B w0 w')∧
   (∀(g:Nat),g≠r→w'.heap[g]?=w.heap[g]?)∧PlcE w' r (t++ [x]):=by
 obtain ⟨f,h1,h2⟩:=h
 have hn:f (bs x.path)=none:=by
  rw [h2 x.path,if_neg (by omega)]
 obtain ⟨w',a1,a2,a3,-,a5⟩:=MapS.put (P:=Tryz.prog) (et:=3) Tryz.underlying99 Tryz.underlying9 h1 (bs x.path) (.int .i64 (t.length:Int)) (fun v' e=>by rw [hn]at e;cases e);refine ⟨w',a1,a2,a3,_,a5,fun s=> ?_⟩;have h3:=h2 s;have hll:(t++ [x]).length=t.length+1:=by simp
 by_cases hf:qaQ t s<t.length
 ·rw [if_pos hf]at h3;have hs:=qjG x hf
  have hne: ¬bs s=bs x.path:=fun e=>by
   rw [qxJ e]at hf;omega
  show (if bs s=bs x.path then some (Value.int .i64 (t.length:Int))else f (bs s))=_;rw [if_neg hne,h3,if_pos (by rw [hs,hll];omega),hs]
 ·rw [if_neg hf]at h3;have hs:=qk5 x hf
  by_cases e:x.path=s
  ·rw [if_pos e]at hs;show (if bs s=bs x.path then some (Value.int .i64 (t.length:Int))else f (bs s))=_;rw [if_pos (by rw [e]),if_pos (by rw [hs,hll];omega),hs]
  ·rw [if_neg e]at hs;have hne: ¬bs s=bs x.path:=fun e'=>e (qxJ e').symm;show (if bs s=bs x.path then some (Value.int .i64 (t.length:Int))else f (bs s))=_;rw [if_neg hne,h3,if_neg (by rw [hs,hll];omega)]
theorem qk4 {l:List EntV} {s:List UInt8} {i:Nat} (hi:i≤l.length) (h:qaQ l s<i):qaQ (l.take i) s=qaQ l s:=by
 have h0:qaQ l s<l.length:=by omega
 refine qd3 (l.take i) s _ (by rw [List.length_take];omega) ?_ (by rw [List.getElem_take];exact qdL l s h0);apply Classical.byContradiction;intro hc;have h1:qaQ (l.take i) s<qaQ l s:=by omega
 have h2:=qdL (l.take i) s (by rw [List.length_take];omega);rw [List.getElem_take]at h2;exact qjI l s _ h1 (by omega) h2
set_option maxHeartbeats 8000000 in
theorem q51 (A:Option Addr) (n c:Nat) (l:List EntV) (hn:l.length=n) (hc:SlOk A n c) (hsz: ∀x∈l,x.sz) (w:World) (hA:qcO w A l) (hE:qbE l=0):
  Calls Tryz.prog 27 #[.slice A n c] w fun e w'=> ∃v xs,e= .returned (.tuple #[v,.int .i64 0])∧xs.map (·.1)=qeG l∧OwnN w' w.heap.size v xs∧Below w.heap.size w w':=by
 have H1:=Lib.hid (qeV A n c l hn hc hsz w hA);rw [hE]at H1;have h40:n≤40:=by have:=((qkM l).1 hE).1;omega
 have hwk:qbQ [] l=0:=by
  have:=hE;unfold qbE at this
  split at this
  ·cases this
  ·exact this
 have HAim:=Lib.hid fun i (hi:i<l.length) (hk:l[i].kind=4)=>qxN hE hi hk
 have HFin:Hid (∀(v:Value) (xs:List NodP) (W:World),RowN W w.heap.size v xs→xs.map (·.1)=qeG l→(∀y∈xs,qd1 w y.2 y.1.data)→Below w.heap.size w W→Calls Tryz.prog 73 #[v] W fun e w'=> ∃v xs,e= .returned v∧xs.map (·.1)=qeG l∧OwnN w' w.heap.size v xs∧Below w.heap.size w w'):=fun v xs W hR hmap hdy hB=>by
  obtain ⟨A9,c9,rfl,hs9,hN9⟩:=hR.at fun y hy=>(hdy y hy).below hB
  have hxl:xs.length≤40:=by
   have h1:=congrArg List.length hmap;rw [List.length_map,qbT]at h1;omega
  refine (q7L A9 xs.length c9 (xs.map (·.1)) (by rw [List.length_map]) (by omega) (fun x hx9=>by
   rw [hmap]at hx9;obtain ⟨i,hi,rfl⟩:=List.getElem_of_mem hx9;rw [qbT]at hi;rw [qeQ l i hi]
   exact EntV.sz.grow hsz hi) W hN9).mono ?_
  rintro e w' ⟨v,zs,rfl,h1,h2,h3⟩;exact ⟨v,zs,rfl,by rw [h1,hmap],h2.mono hB.size,hB.trans (h3.mono hB.size)⟩
 have HN:=Lib.hid hn;have HA:=Lib.hid hA;have HKL:=Lib.hid fun i (hi:i<l.length) (hk:l[i].kind=4) hf hg=>qzG hE hi hk hf hg;have HKP:=Lib.hid fun i (hi:i<l.length) (hk:l[i].kind≠4)=>qvA hE hi hk;have HFN:=Lib.hid fun i (hi:i<l.length)=>qq5 hwk hi;have hcap:=hc.1;have hmx:=hc.2.1;unfold maxLen at hmx;obtain ⟨i0,hi,hz0,hz1,hz2⟩:=info_parts zinfo;obtain ⟨M,hmk,hown⟩:=qoY w n (by omega) i0 hi hz0 hz1 hz2;have HK:=Lib.hid hmk;have HO:=Lib.hid hown;clear hn hc hsz hA hE hwk hmk hown hi hz0 hz1 hz2;go_enter Tryz.func27,Tryz.ntmps27;go_wp2_with fail;refine H1.out.mono ?_;rintro e w1 ⟨rfl,hB⟩;have hkm:(Instr.makeMap 99 none).run Tryz.prog w1= .ok (.map (some w1.heap.size)) (w1.alloc (.map #[] 0)):=rfl;have hp1:=PlcE.new w1;have hb2:=hB.alloc hB.size (.map #[] 0);have hr2:w.heap.size≤w1.heap.size:=hB.size;generalize w1.heap.size=r at hkm hp1 hr2;generalize w1.alloc (.map #[] 0)=x2 at hkm hp1 hb2;have hk2:=HK.out x2;have ho2:=(HO.out x2 w.heap.size hb2.size).1;have hb3:=hb2.alloc hb2.size (.cells M 49);have hp2:=hp1.below ((Below.refl x2.heap.size x2).alloc (Nat.le_refl _) (.cells M 49));generalize hv1:Value.slice (some ⟨x2.heap.size,0,none⟩) 0 n=v1 at hk2 ho2;generalize x2.alloc (.cells M 49)=x3 at hk2 ho2 hb3 hp2;have HO3:=Lib.hid ho2;have HP3:=Lib.hid hp2;have HB3:=Lib.hid hb3;have HRr:=Lib.hid hr2;clear hB hp1 hb2 hr2 ho2 hb3 hp2 hv1 H1 HK HO;go_wp2_with fail
 go_loopw [6,22] (fun ov iv wr=> ∃(i:Nat) (xs:List NodP),i≤n∧iv= .int .i64 i∧xs.length=i∧Hid (RowN wr w.heap.size ov xs)∧Hid (xs.map (·.1)=qf4 l i)∧Hid (∀y∈xs,qd1 w y.2 y.1.data)∧Hid (PlcE wr r (l.take i))∧Hid (Below w.heap.size w wr)) (fun _ iv _=>n-(intOf iv).toNat)
 case atStart=>exact ⟨0, [],Nat.zero_le _,rfl,rfl,HO3.out,rfl,(fun y hy=>by cases hy),(by unfold Hid;rw [List.take_zero];exact HP3.out),HB3.out⟩
 case round=>
  obtain ⟨i,xs,hi,rfl,hxl,HR,HM,HDT,HP,HB⟩:=hrel
  by_cases hlt:i<n
  ·have hi1:i<l.length:=by rw [HN.out];exact hlt
   obtain ⟨b,o,E,cc,hbo,hb1,hSl,hE,hcl⟩:=HA.out.cells2 i hi1;subst hbo;obtain ⟨c0,c1,c3,⟨c4,c5,c6,c7,c8,c9x,cA⟩,cB⟩:=hcl wr HB.out;have hai:=HAim.out i hi1;have hkl:=HKL.out i hi1;have hkp:=HKP.out i hi1;have hfn:=HFN.out i hi1;have HTK:Hid (l.take (i+1)=l.take i++ [l[i]]):=List.take_succ_eq_append_getElem hi1;generalize hx:l[i]=x at*;have HYD:Hid (qd1 w (.slice E x.data.length cc) x.data):=⟨E,cc,rfl,hSl,hE⟩;have HAi:=Lib.hid hai;have HKl:=Lib.hid hkl;have HKp:=Lib.hid hkp;have HFn:Hid (qaQ (l.take i) x.path=(l.take i).length):=by unfold Hid;rw [hfn,List.length_take];omega
   have HTL:Hid ((l.take i).length=i):=by unfold Hid;rw [List.length_take];omega
   clear hx hcl hSl hE hb1 hai hkl hkp hfn;go_upto_region 9 with fail
   have HBl:=Lib.hid (Blk.new wr 73 #[.string (bs x.path),.int .i64 x.kind,.string (bs x.target),.int .i64 x.md.mode,.int .i64 x.md.uid,.int .i64 x.md.gid,.string (bs x.md.user),.string (bs x.md.group),.int .i64 x.md.second,.int .i64 x.md.nano,.slice E x.data.length cc]);have HBa:=Lib.hid (qbF (Below.refl _ wr) (.cells #[.string (bs x.path),.int .i64 x.kind,.string (bs x.target),.int .i64 x.md.mode,.int .i64 x.md.uid,.int .i64 x.md.gid,.string (bs x.md.user),.string (bs x.md.group),.int .i64 x.md.second,.int .i64 x.md.nano,.slice E x.data.length cc] 73));generalize hwa:wr.alloc _=wa at HBl HBa⊢;obtain ⟨g,hg⟩: ∃g,g=wr.heap.size:=⟨_,rfl⟩;have hga:g<wa.heap.size:=by rw [hg];exact HBl.out.lt
   have hgw:wr.heap.size≤g:=by omega
   rw [←hg]at HBl⊢;clear hg;obtain ⟨⟨e0,e1,e3,e4,e5,e6,e7,e8,e9,eA,eB⟩,-⟩:=qaF HBl.out;clear hwa c0 c1 c3 c4 c5 c6 c7 c8 c9x cA cB;go_upto_region 10 with fail
   have HBx:=Lib.hid (Blk.new wa 49 #[.string (bs x.path),.int .i64 x.kind,.int .i64 0,.string (bs x.target),.int .i64 x.md.mode,.int .i64 x.md.uid,.int .i64 x.md.gid,.string (bs x.md.user),.string (bs x.md.group),.int .i64 x.md.second,.int .i64 x.md.nano,.slice E x.data.length cc]);have HBl2:=Lib.hid (HBl.out.alloc (.cells #[.string (bs x.path),.int .i64 x.kind,.int .i64 0,.string (bs x.target),.int .i64 x.md.mode,.int .i64 x.md.uid,.int .i64 x.md.gid,.string (bs x.md.user),.string (bs x.md.group),.int .i64 x.md.second,.int .i64 x.md.nano,.slice E x.data.length cc] 49));have HBb:=Lib.hid (qbF HBa.out (.cells #[.string (bs x.path),.int .i64 x.kind,.int .i64 0,.string (bs x.target),.int .i64 x.md.mode,.int .i64 x.md.uid,.int .i64 x.md.gid,.string (bs x.md.user),.string (bs x.md.group),.int .i64 x.md.second,.int .i64 x.md.nano,.slice E x.data.length cc] 49));generalize hwb:wa.alloc _=wb at HBx HBl2 HBb⊢;obtain ⟨gx,hgx⟩: ∃gx,gx=wa.heap.size:=⟨_,rfl⟩;rw [←hgx]at HBx⊢;have hgx1:wr.heap.size≤gx:=by omega
   have hgg:g≠gx:=by omega
   have HRb:=Lib.hid (HR.out.below HBb.out);have HPb:=Lib.hid (HP.out.below HBb.out);have HB6:=Lib.hid (HB.out.trans (HBb.out.mono HB.out.size));have HGN:Hid (∀q,u6.ownBlock=some q→q<wr.heap.size):=fun q e=>(World.ownsRow.lt HR.out q e).2;clear hwb hgx HBl HBa hga e0 e1 e3 e4 e5 e6 e7 e8 e9 eA eB;have hi9:i≤40:=by omega
   by_cases hk4:x.kind=4
   ·obtain ⟨hfl,hf2,hf3,-⟩:=HAi.out hk4;have HKf:=Lib.hid (HKl.out hk4 hf2);have hlk:=HPb.out.look x.target (by rw [qk4 (by omega) hf2,HTL.out];exact hf2);rw [qk4 (by omega) hf2]at hlk
    have hyg:qdS l i x=⟨x.path,1,((qaQ l x.target:Nat):Int)+1, [],x.md,(l[qaQ l x.target]'hfl).data⟩:=by
     unfold qdS;rw [if_pos hk4,List.getElem?_eq_getElem hfl];rfl
    have hgp: ∀h,(qf4 l i)[qaQ l x.target]'h=qm2 l i (qaQ l x.target) (l[qaQ l x.target]'hfl):=fun h=>qf3 l i _ (by omega) hf2
    have hgd:(qm2 l i (qaQ l x.target) (l[qaQ l x.target]'hfl)).data=(l[qaQ l x.target]'hfl).data:=by
     unfold qm2;rw [if_neg (by rw [hf3];decide)]
    generalize hfe:qaQ l x.target=f at*;have hk4b:(x.kind==4)=true:=by simp [hk4]
    have hfx:f<xs.length:=by omega
    have hmf:xs[f].1=(qf4 l i)[f]'(by rw [qbH l i (by omega)];omega):=by
     have:=HM.out;have h2:(xs.map (·.1))[f]?=(qf4 l i)[f]?:=by rw [this]
     rw [List.getElem?_map,List.getElem?_eq_getElem hfx,List.getElem?_eq_getElem (by rw [qbH l i (by omega)];omega)]at h2;exact Option.some.inj h2
    obtain ⟨gr,cap,hv,hgB,hgl,hcap1,hcap2⟩:=HRb.out.row (by omega);subst hv;have hgr:gr<wr.heap.size:=HGN.out gr rfl;rw [hxl]at hcap1⊢;obtain ⟨e2,f2⟩:=HRb.out.same_cell rfl f hfx;have hdt:=HDT.out xs[f] (List.getElem_mem hfx);have hdl:xs[f].1.data=(l[f]'hfl).data:=by rw [hmf,hgp,hgd]
    obtain ⟨E',cc',hE',hSl',hBy'⟩:=hdt
    have HZD:Hid (qd1 w xs[f].2 (qdS l i x).data):=by
     unfold Hid;rw [hyg,←hdl];exact ⟨E',cc',hE',hSl',hBy'⟩
    have hrg:r≠gr:=fun e=>HPb.out.row_ne HRb.out gr rfl e.symm;have hw:IntKind.i64.wrap ((f:Int)+1)=((f:Int)+1):=by rw [IntKind.wrap_i64];omega
    have hf8:(f:Int)<(i:Int):=by omega
    have hf7:(0:Int)≤(f:Int):=by omega
    have hRc:=HRb.out.setSame rfl f hfx ((f:Int)+1);have hXc:=HBl2.out.far (p:=⟨gr,f*12+2,none⟩) (show g≠gr by omega) (.int .i64 ((f:Int)+1));have hNc:=HBx.out.far (p:=⟨gr,f*12+2,none⟩) (show gx≠gr by omega) (.int .i64 ((f:Int)+1));have hPc:=HPb.out.far (p:=⟨gr,f*12+2,none⟩) hrg (.int .i64 ((f:Int)+1));have hBc:=Below.set1 HB6.out hgB (f*12+2) (.int .i64 ((f:Int)+1));have hbc:(wb.setCell ⟨gr,f*12+2,none⟩ (.int .i64 ((f:Int)+1))).heap.size=wb.heap.size:=by simp
    rw [hxl]at hRc;generalize xs[f].1.same=s0 at e2;obtain ⟨⟨-,x1,x2,-⟩,-⟩:=qaF HBl2.out;have HRc:=Lib.hid hRc;have HXc:=Lib.hid hXc;have HNc:=Lib.hid hNc;have HPc:=Lib.hid hPc;have HBc:=Lib.hid hBc;have HSc:=Lib.hid hbc;obtain ⟨dd,hdd⟩: ∃dd,dd=(l[f]'hfl).data:=⟨_,rfl⟩;rw [←hdd]at hyg;have HYG:=Lib.hid hyg;clear hdd;clear hRc hXc hNc hPc hBc hbc hyg hfe hgp hgd hf3 hdl;go_upto_region 13 with fail
    generalize hwc:wb.setCell ⟨gr,f*12+2,none⟩ (.int .i64 ((f:Int)+1))=wk at HRc HXc HNc HPc HBc HSc⊢;have hd11:=HRc.out.dat_cell (by rw [List.length_set];exact hxl.symm) f (by rw [List.length_set];exact hfx);simp only [List.getElem_set_self]at hd11;rw [hE']at hd11;rw [hE']at HZD;generalize xs[f].1.data.length=dl at hd11 HZD;generalize hxs':xs.set f ({xs[f].1 with same:=(f:Int)+1},xs[f].2)=xs' at HRc
    have HMx:Hid (xs'.map (·.1)++ [qdS l i x]=qf4 l (i+1)):=by
     unfold Hid;rw [HKf.out (by rw [qbH l i (by omega)];omega),←hxs',List.map_set,HM.out];simp only [hmf]
    have HDX:Hid (∀y∈xs',qd1 w y.2 y.1.data):=by
     unfold Hid;rw [←hxs'];intro y hy;rcases List.mem_or_eq_of_mem_set hy with hy|rfl
     ·exact HDT.out y hy
     ·exact HDT.out xs[f] (List.getElem_mem hfx)
    have HXL:Hid (xs'.length=i):=by unfold Hid;rw [←hxs',List.length_set];exact hxl
    obtain ⟨⟨y0,y1,y2,y3,y4,y5,y6,y7,y8,y9,yA,yB⟩,⟨-,r1,r2,r3,-,-,-,-,-,-,-,rB⟩⟩:=qeX HNc.out;have hgw2:w.heap.size≤gx:=by have:=HB.out.size;omega
    have HN3:Hid (Blk ((((wk.setCell ⟨gx,1,none⟩ (.int .i64 1)).setCell ⟨gx,2,none⟩ (.int .i64 ((f:Int)+1))).setCell ⟨gx,3,none⟩ (.string ⟨#[]⟩)).setCell ⟨gx,11,none⟩ (.slice E' dl cc')) gx 49 #[.string (bs x.path),.int .i64 1,.int .i64 ((f:Int)+1),.string ⟨#[]⟩,.int .i64 x.md.mode,.int .i64 x.md.uid,.int .i64 x.md.gid,.string (bs x.md.user),.string (bs x.md.group),.int .i64 x.md.second,.int .i64 x.md.nano,.slice E' dl cc']):=(((HNc.out.set_ 1 (.int .i64 1)).set_ 2 (.int .i64 ((f:Int)+1))).set_ 3 (.string ⟨#[]⟩)).set_ 11 (.slice E' dl cc');have HX3:Hid (Blk ((((wk.setCell ⟨gx,1,none⟩ (.int .i64 1)).setCell ⟨gx,2,none⟩ (.int .i64 ((f:Int)+1))).setCell ⟨gx,3,none⟩ (.string ⟨#[]⟩)).setCell ⟨gx,11,none⟩ (.slice E' dl cc')) g 73 #[.string (bs x.path),.int .i64 x.kind,.string (bs x.target),.int .i64 x.md.mode,.int .i64 x.md.uid,.int .i64 x.md.gid,.string (bs x.md.user),.string (bs x.md.group),.int .i64 x.md.second,.int .i64 x.md.nano,.slice E x.data.length cc]):=(((HXc.out.far (p:=⟨gx,1,none⟩) hgg _).far (p:=⟨gx,2,none⟩) hgg _).far (p:=⟨gx,3,none⟩) hgg _).far (p:=⟨gx,11,none⟩) hgg _;have hrx:r≠gx:=by have:=HP.out.lt;omega
    have HP3:Hid (PlcE ((((wk.setCell ⟨gx,1,none⟩ (.int .i64 1)).setCell ⟨gx,2,none⟩ (.int .i64 ((f:Int)+1))).setCell ⟨gx,3,none⟩ (.string ⟨#[]⟩)).setCell ⟨gx,11,none⟩ (.slice E' dl cc')) r (l.take i)):=(((HPc.out.far (p:=⟨gx,1,none⟩) hrx _).far (p:=⟨gx,2,none⟩) hrx _).far (p:=⟨gx,3,none⟩) hrx _).far (p:=⟨gx,11,none⟩) hrx _;have hgx8:gr≠gx:=by omega
    have HR3:Hid (RowN ((((wk.setCell ⟨gx,1,none⟩ (.int .i64 1)).setCell ⟨gx,2,none⟩ (.int .i64 ((f:Int)+1))).setCell ⟨gx,3,none⟩ (.string ⟨#[]⟩)).setCell ⟨gx,11,none⟩ (.slice E' dl cc')) w.heap.size (.slice (some ⟨gr,0,none⟩) i cap) xs'):=
     qc7 HRc.out fun q e=>by
      obtain rfl:gr=q:=by simpa [Value.ownBlock]using e
      exact (Below.heap_setCell _ ⟨gx,11,none⟩ _ _ hgx8).trans ((Below.heap_setCell _ ⟨gx,3,none⟩ _ _ hgx8).trans ((Below.heap_setCell _ ⟨gx,2,none⟩ _ _ hgx8).trans (Below.heap_setCell _ ⟨gx,1,none⟩ _ _ hgx8)))
    have HB3:Hid (Below w.heap.size w ((((wk.setCell ⟨gx,1,none⟩ (.int .i64 1)).setCell ⟨gx,2,none⟩ (.int .i64 ((f:Int)+1))).setCell ⟨gx,3,none⟩ (.string ⟨#[]⟩)).setCell ⟨gx,11,none⟩ (.slice E' dl cc'))):=Below.set1 (Below.set1 (Below.set1 (Below.set1 HBc.out hgw2 1 _) hgw2 2 _) hgw2 3 _) hgw2 11 _;clear hxs' hmf hwc hE' hSl' hBy' hgl hcap2 hgB hfl
    go_cut [6] (fun s6 wx=>s6= .slice (some ⟨gr,0,none⟩) i cap∧wx=((((wk.setCell ⟨gx,1,none⟩ (.int .i64 1)).setCell ⟨gx,2,none⟩ (.int .i64 ((f:Int)+1))).setCell ⟨gx,3,none⟩ (.string ⟨#[]⟩)).setCell ⟨gx,11,none⟩ (.slice E' dl cc')).drew)
    case first=>
     go_big_region
     all_goals
      go_wp2_with fail;go_meet;exact ⟨rfl,rfl⟩
    case rest=>
     obtain ⟨rfl,rfl⟩:=hcut;generalize hwm:((((wk.setCell ⟨gx,1,none⟩ (.int .i64 1)).setCell ⟨gx,2,none⟩ (.int .i64 ((f:Int)+1))).setCell ⟨gx,3,none⟩ (.string ⟨#[]⟩)).setCell ⟨gx,11,none⟩ (.slice E' dl cc'))=wm at HN3 HX3 HP3 HR3 HB3⊢;have HNd:=Lib.hid HN3.out.drew_;have HXd:=Lib.hid HX3.out.drew_;have HPd:Hid (PlcE wm.drew r (l.take i)):=HP3.out.below (Below.refl wm.heap.size wm).drew;have HRd:Hid (RowN wm.drew w.heap.size (.slice (some ⟨gr,0,none⟩) i cap) xs'):=HR3.out;have HBd:=Lib.hid HB3.out.drew;generalize wm.drew=wd at HNd HXd HPd HRd HBd⊢
     have HCN:Hid (∀W:World,qpR (W.alloc (.cells #[.string (bs x.path),.int .i64 1,.int .i64 ((f:Int)+1),.string ⟨#[]⟩,.int .i64 x.md.mode,.int .i64 x.md.uid,.int .i64 x.md.gid,.string (bs x.md.user),.string (bs x.md.group),.int .i64 x.md.second,.int .i64 x.md.nano,.slice E' dl cc'] 49)) (some ⟨W.heap.size,0,none⟩) [(qdS l i x,.slice E' dl cc')]):=fun W=>by
      have h1:=qeD W (qdS l i x,.slice E' dl cc');rw [HYG.out]at h1⊢;exact h1
     clear hwm HN3 HX3 HP3 HR3 HB3 y0 y1 y2 y3 y4 y5 y6 y7 y8 y9 yA yB r1 r2 r3 rB hd11 x1 x2 e2 f2 hlk;obtain ⟨⟨e0,e1,e2,e3,e4,e5,e6,e7,e8,e9,eA,eB⟩,-⟩:=qeX HNd.out;go_wp2_with (at_builtin;refine Stay.go ?_);refine Stay.on ?_;refine qcL rfl (.tmp 62) (.tmp 64) rfl w.heap.size _ xs' rfl (HRd.out.alloc _) (some ⟨wd.heap.size,0,none⟩) 1 1 [(qdS l i x,.slice E' dl cc')] rfl rfl (HCN.out wd) (by simp [Value.oneCell']) (fun e=>by cases e) (by rw [HXL.out];omega) (by rw [hszA];have:=HBd.out.size;omega) ?_;intro v7 w7 ho7 hg7;have HR7:=Lib.hid ho7;have HB7:Hid (Below w.heap.size w w7):=(HBd.out.alloc HBd.out.size _).grown hg7 (by rw [hszA];have:=HBd.out.size;omega) HRd.out.above;have HX7:Hid (Blk w7 g 73 #[.string (bs x.path),.int .i64 x.kind,.string (bs x.target),.int .i64 x.md.mode,.int .i64 x.md.uid,.int .i64 x.md.gid,.string (bs x.md.user),.string (bs x.md.group),.int .i64 x.md.second,.int .i64 x.md.nano,.slice E x.data.length cc]):=(HXd.out.alloc _).grown hg7 (fun e=>by have e2:some g=some gr:=e;injection e2 with e2;omega);have HP7:Hid (PlcE w7 r (l.take i)):=(HPd.out.below ((Below.refl _ _).alloc (Nat.le_refl _) _)).grown (HRd.out.alloc _) hg7;obtain ⟨w8,hput,hbel,hkeep,hp8⟩:=HP7.out.put x HFn.out;rw [HTL.out]at hput;rw [←HTK.out]at hp8;have HR8:Hid (RowN w8 w.heap.size v7 (xs'++ [(qdS l i x,.slice E' dl cc')])):=qc7 HR7.out fun q e=>hkeep q (HP7.out.row_ne HR7.out q e);have HB8:=Lib.hid (hbel w _ HRr.out HB7.out);have HP8:=Lib.hid hp8
     have HM8:Hid ((xs'++ [((qdS l i x,.slice E' dl cc'):NodP)]).map (·.1)=qf4 l (i+1)):=by
      unfold Hid;rw [List.map_append];exact HMx.out
     have HD8:Hid (∀z∈xs'++ [((qdS l i x,.slice E' dl cc'):NodP)],qd1 w z.2 z.1.data):=fun z hz=>by
      rcases List.mem_append.1 hz with a|a
      ·exact HDX.out z a
      ·obtain rfl:z=(qdS l i x,.slice E' dl cc'):=by simpa using a
       exact HZD.out
     have hl8:(xs'++ [((qdS l i x,.slice E' dl cc'):NodP)]).length=i+1:=by rw [List.length_append,List.length_singleton,HXL.out]
     obtain ⟨⟨g0,-⟩,-⟩:=qaF HX7.out;clear ho7 hg7 hbel hkeep hp8 e0 e1 e2 e3 e4 e5 e6 e7 e8 e9 eA eB;go_wp2_with fail;go_roundw
     case rel=>exact ⟨i+1,_,by omega,by go_num,hl8,HR8.out,HM8.out,HD8.out,HP8.out,HB8.out⟩
     case measure=>simp [intOf];omega
   ·have hk4b:(x.kind==4)=false:=by simpa using hk4
    have HKf:=Lib.hid (HKp.out hk4)
    have HCN:Hid (∀W:World,qpR (W.alloc (.cells #[.string (bs x.path),.int .i64 x.kind,.int .i64 0,.string (bs x.target),.int .i64 x.md.mode,.int .i64 x.md.uid,.int .i64 x.md.gid,.string (bs x.md.user),.string (bs x.md.group),.int .i64 x.md.second,.int .i64 x.md.nano,.slice E x.data.length cc] 49)) (some ⟨W.heap.size,0,none⟩) [(⟨x.path,x.kind,0,x.target,x.md,x.data⟩,.slice E x.data.length cc)]):=fun W=>
     qeD W (⟨x.path,x.kind,0,x.target,x.md,x.data⟩,.slice E x.data.length cc)
    have HXL:=Lib.hid hxl
    have HMx:Hid (xs.map (·.1)++ [(⟨x.path,x.kind,0,x.target,x.md,x.data⟩:NodeV)]=qf4 l (i+1)):=by
     unfold Hid;rw [HKf.out,HM.out]
    obtain ⟨⟨e0,e1,e2,e3,e4,e5,e6,e7,e8,e9,eA,eB⟩,-⟩:=qeX HBx.out;obtain ⟨⟨-,x1,-⟩,-⟩:=qaF HBl2.out;clear hk4;go_wp2_with (at_builtin;refine Stay.go ?_);refine Stay.on ?_;refine qcL rfl (.tmp 62) (.tmp 64) rfl w.heap.size _ xs rfl (HRb.out.alloc _) (some ⟨wb.heap.size,0,none⟩) 1 1 [((⟨x.path,x.kind,0,x.target,x.md,x.data⟩:NodeV),.slice E x.data.length cc)] rfl rfl (HCN.out wb) (by simp [Value.oneCell']) (fun e=>by cases e) (by rw [HXL.out];omega) (by rw [hszA];have:=HB6.out.size;omega) ?_;intro v7 w7 ho7 hg7;have HR7:=Lib.hid ho7;have HB7:Hid (Below w.heap.size w w7):=(HB6.out.alloc HB6.out.size _).grown hg7 (by rw [hszA];have:=HB6.out.size;omega) HRb.out.above;have HX7:Hid (Blk w7 g 73 #[.string (bs x.path),.int .i64 x.kind,.string (bs x.target),.int .i64 x.md.mode,.int .i64 x.md.uid,.int .i64 x.md.gid,.string (bs x.md.user),.string (bs x.md.group),.int .i64 x.md.second,.int .i64 x.md.nano,.slice E x.data.length cc]):=(HBl2.out.alloc _).grown hg7 (fun e=>by have:=HGN.out g e.symm;omega);have HP7:Hid (PlcE w7 r (l.take i)):=(HPb.out.below ((Below.refl _ _).alloc (Nat.le_refl _) _)).grown (HRb.out.alloc _) hg7;obtain ⟨w8,hput,hbel,hkeep,hp8⟩:=HP7.out.put x HFn.out;rw [HTL.out]at hput;rw [←HTK.out]at hp8;have HR8:Hid (RowN w8 w.heap.size v7 (xs++ [((⟨x.path,x.kind,0,x.target,x.md,x.data⟩:NodeV),.slice E x.data.length cc)])):=qc7 HR7.out fun q e=>hkeep q (HP7.out.row_ne HR7.out q e);have HB8:=Lib.hid (hbel w _ HRr.out HB7.out);have HP8:=Lib.hid hp8
    have HM8:Hid ((xs++ [(((⟨x.path,x.kind,0,x.target,x.md,x.data⟩:NodeV),.slice E x.data.length cc):NodP)]).map (·.1)=qf4 l (i+1)):=by
     unfold Hid;rw [List.map_append];exact HMx.out
    have HD8:Hid (∀z∈xs++ [(((⟨x.path,x.kind,0,x.target,x.md,x.data⟩:NodeV),.slice E x.data.length cc):NodP)],qd1 w z.2 z.1.data):=fun z hz=>by
     rcases List.mem_append.1 hz with a|a
     ·exact HDT.out z a
     ·obtain rfl:z=((⟨x.path,x.kind,0,x.target,x.md,x.data⟩:NodeV),.slice E x.data.length cc):=by simpa using a
      exact HYD.out
    have hl8:(xs++ [(((⟨x.path,x.kind,0,x.target,x.md,x.data⟩:NodeV),.slice E x.data.length cc):NodP)]).length=i+1:=by rw [List.length_append,List.length_singleton,HXL.out]
    obtain ⟨⟨g0,-⟩,-⟩:=qaF HX7.out;clear ho7 hg7 hbel hkeep hp8 e0 e1 e2 e3 e4 e5 e6 e7 e8 e9 eA eB;go_wp2_with fail;go_roundw
    case rel=>exact ⟨i+1,_,by omega,by go_num,hl8,HR8.out,HM8.out,HD8.out,HP8.out,HB8.out⟩
    case measure=>simp [intOf];omega
  ·obtain rfl:i=n:=by omega
   have hm9:=HM.out;rw [←HN.out,q25]at hm9;have HC:=Lib.hid (HFin.out _ xs _ HR.out hm9 HDT.out HB.out);clear hm9;go_wp2_with fail;refine HC.out.mono ?_;rintro e w9 ⟨v,xs,rfl,h1,h2,h3⟩;have HV:=Lib.hid (And.intro h1 (And.intro h2 h3));clear h1 h2 h3;go_wp2_with fail;refine bodyPost_ret (v:= .tuple #[v,.int .i64 0]) (by simp [results,Tryz.results27,go_sem, *]) rfl ?_;exact ⟨v,xs,rfl,HV.out.1,HV.out.2.1,HV.out.2.2⟩
theorem q1W (A:Option Addr) (n c:Nat) (l:List EntV) (hn:l.length=n) (hc:SlOk A n c) (hsz: ∀x∈l,x.sz) (w:World) (hA:qcO w A l):
  Calls Tryz.prog 27 #[.slice A n c] w fun e w'=> ∃v xs,e= .returned (.tuple #[v,.int .i64 (qbE l)])∧xs.map (·.1)=qs9 l∧OwnN w' w.heap.size v xs∧Below w.heap.size w w':=by
 by_cases hE:qbE l=0
 ·have:=q51 A n c l hn hc hsz w hA hE;unfold qs9;rw [if_pos hE,hE];exact this
 ·have H1:=Lib.hid (qeV A n c l hn hc hsz w hA);unfold qs9;rw [if_neg hE];obtain ⟨E,HEE⟩:=qaA (qbE l);rw [HEE.out]at H1 hE⊢;have hne:(E==0)=false:=by simpa using hE
  clear hn hc hsz hA hE;go_enter Tryz.func27,Tryz.ntmps27;go_wp2_with fail;refine H1.out.mono ?_;rintro e w1 ⟨rfl,hB⟩;have HB1:=Lib.hid hB;clear hB H1;go_wp2_with fail;refine bodyPost_ret (v:= .tuple #[.slice none 0 0,.int .i64 E]) (by simp [results,Tryz.results27,go_sem, *]) rfl ?_;exact ⟨_, [],rfl,rfl,OwnN.nil _ _,HB1.out⟩
set_option maxHeartbeats 2000000 in
theorem ql6 (A:Option Addr) (n c:Nat) (l:List UInt8) (hn:l.length=n) (hn2:n≤140737488351232) (hc:SlOk A n c) (w:World) (S:Std w) (hA:qaE w A l):
  Calls Tryz.prog 9 #[.slice A n c] w fun e w'=> ∃v xs,e= .returned (.tuple #[v,.int .i64 (qcY l).2])∧xs.map (·.1)=(qcY l).1∧OwnN w' w.heap.size v xs∧Below w.heap.size w w':=by
 have H1:=Lib.hid (q09 A n c l hn (by omega) hc w S hA);clear hn hn2 hc S hA
 by_cases h:(arcR l).2=0
 ·rw [qiS h];have hE:=(qhH h).1;rw [h]at H1;have hz: ∀x∈(arcR l).1,x.sz:=fun x hx=>qsC (qnF hE x hx);have hg:qs9 (arcR l).1=qeG (arcR l).1:=if_pos hE;generalize (arcR l).1=p at*;clear h;go_enter Tryz.func9,Tryz.ntmps9;go_wp2_with fail;refine H1.out.mono ?_;rintro e x1 ⟨v,xs,rfl,hm,ho,hb⟩;obtain ⟨A1,c1,rfl,hs,hN⟩:=ho.at;rw [hm]at hN;have hl:p.length=xs.length:=by rw [←hm,List.length_map]
  have H2:=Lib.hid (q1W A1 xs.length c1 p hl hs hz x1 hN);rw [hE,hg]at H2;have HB1:=Lib.hid hb;clear hm ho hb hs hN hl hz hE hg H1;obtain ⟨m,HM⟩:=qaA xs.length;rw [HM.out]at H2⊢;go_wp2_with fail;refine H2.out.mono ?_;rintro e x2 ⟨v2,ys,rfl,hm,ho,hb⟩;have HO2:=Lib.hid (ho.mono HB1.out.size);have HB2:=Lib.hid (HB1.out.trans (hb.mono HB1.out.size));have HM2:=Lib.hid hm;clear hm ho hb H2;go_wp2_with fail;go_ret2;exact ⟨_,ys,rfl,HM2.out,HO2.out,HB2.out⟩
 ·rw [qlH h];obtain ⟨E,HE⟩:=qaA (arcR l).2;rw [HE.out]at H1 h⊢;have hne:(E !=0)=true:=by simpa using h
  clear h;go_enter Tryz.func9,Tryz.ntmps9;go_wp2_with fail;refine H1.out.mono ?_;rintro e x1 ⟨v,xs,rfl,hm,ho,hb⟩;obtain ⟨A1,c1,rfl,-,-⟩:=ho.at;have HB1:=Lib.hid hb;clear hm ho hb H1;obtain ⟨m,HM⟩:=qaA xs.length;rw [HM.out];go_wp2_with fail;go_ret2;exact ⟨_, [],rfl,rfl,OwnN.nil _ _,HB1.out⟩
end Go.Proofs.YtapgoifimhnbdaaGreatDoor
