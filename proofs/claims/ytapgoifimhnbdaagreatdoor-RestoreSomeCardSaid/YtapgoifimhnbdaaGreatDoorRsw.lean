/- qaX of one kind, in one file: ResR, Rwc, ResW. -/
import Derived.Test.YtapgoifimhnbdaaGreatDoorRsp
import Derived.Test.YtapgoifimhnbdaaGreatDoorTrb
import Derived.Test.YtapgoifimhnbdaaGreatDoorTrg
import Derived.Test.YtapgoifimhnbdaaGreatDoorBas
import Derived.Test.YtapgoifimhnbdaaGreatDoorMth
import Derived.OwnWalk
import Derived.Laws.AppendOwn
import Derived.Laws.OwnMore
import Derived.Deep.AppendLies
import Derived.Test.YtapgoifimhnbdaaGreatDoorRso
set_option linter.unusedVariables false
set_option maxRecDepth 100000
namespace Go.Proofs.YtapgoifimhnbdaaGreatDoor
open Go.RowKit
open Go.OpenShut
theorem q1W (P s:ByteArray) (hP:P.size≤maxLen) (hs:s.size≤maxLen) (w:World):
  Calls Tryz.prog 43 #[.string P,.string s] w fun e w'=>e= .returned (.bool (hitP s.data.toList P.data.toList))∧w=w':=by
 have q:=qoG (a:=P.data.toList) (b:=s.data.toList);rw [qgJ,qgJ]at q;have H1:=Lib.hid fun W=>qvR P s W hP hs;have H2:=Lib.hid fun W=>qvR s P W hs hP;unfold hitP;generalize decide (P.data.toList=s.data.toList)=r at q⊢;generalize inB P.data.toList s.data.toList=r2 at H1⊢;generalize inB s.data.toList P.data.toList=r3 at H2⊢;clear hP hs;cases r with
 |true=>
  clear H1 H2;go_enter Tryz.func43,Tryz.ntmps43;go_wp2_with fail;go_ret;exact ⟨rfl,rfl⟩
 |false=>
  cases r2 with
  |true=>
   clear H2;go_enter Tryz.func43,Tryz.ntmps43;go_wp2_with fail;refine (H1.out _).mono ?_;rintro e w1 ⟨rfl,rfl⟩;go_wp2_with fail;go_ret;exact ⟨rfl,rfl⟩
  |false=>
   go_enter Tryz.func43,Tryz.ntmps43;go_wp2_with fail;refine (H1.out _).mono ?_;rintro e w1 ⟨rfl,rfl⟩;go_wp2_with fail;refine (H2.out _).mono ?_;rintro e w1 ⟨rfl,rfl⟩;go_wp2_with fail;go_ret;exact ⟨by simp,rfl⟩
theorem q35 (s:ByteArray) (hs:s.size≤maxLen) (b:Nat) (x:NodeV) (hx:x.sz) (D:Option Addr) (c:Nat) (W:World) (hc:W.cell? ⟨b,0,none⟩=some (.string s)):
  Calls Tryz.prog 42 #[.agg (nodC x D c).toArray,.pointer (some ⟨b,0,none⟩)] W fun e w'=>e= .returned (.bool (!hitP s.data.toList x.path))∧Below W.heap.size W w':=by
 have HI:=Lib.hid fun W'=>q1W (bs x.path) s (by rw [qaC];have:=hx.1.1;unfold maxLen;omega) hs W';rw [qaF]at HI;obtain ⟨path,kind,same,target,⟨m0,m1,m2,m3,m4,m5,m6⟩,data⟩:=x;unfold nodC;simp only at HI⊢;obtain ⟨P,hP⟩:=qaA (bs path);rw [hP.out]at HI⊢;generalize hitP s.data.toList path=r at HI⊢;have hlt:b<W.heap.size:=World.block_lt_of_cell? W _ hc;have hne:b≠W.heap.size:=by omega
 have HW:=Lib.hid fun o=>qaL (Below.refl W.heap.size W) o;have hc1: ∀o,(W.alloc o).cell? ⟨b,0,none⟩=some (.string s):=fun o=>by rw [World.cell?_alloc_old _ _ _ (by show b≠_;omega)];exact hc
 clear hP hlt hs;go_enter Tryz.func42,Tryz.ntmps42;go_wp2_with fail;refine (HI.out _).mono ?_;rintro e w1 ⟨rfl,rfl⟩;go_wp2_with fail;go_ret;exact ⟨rfl,HW.out _⟩
set_option maxHeartbeats 4000000 in
theorem qwO (A:Option Addr) (n c:Nat) (b:List UInt8) (s:ByteArray) (hn:b.length=n) (hn2:n≤140737488351232) (hc:SlOk A n c) (hs:s.size≤maxLen) (w:World) (S:Std w) (hA:qaE w A b):
  Calls Tryz.prog 14 #[.slice A n c,.string s] w fun e w'=> ∃v xs,e= .returned (.tuple #[v,.int .i64 (q34 b s.data.toList).2])∧xs.map (·.1)=(q34 b s.data.toList).1∧OwnN w' w.heap.size v xs∧Below w.heap.size w w':=by
 have hb0:Below w.heap.size w (w.alloc (.cells #[.string s] 9)):=qaL (Below.refl _ _) _;have H1:=Lib.hid (qiA A n c b hn hn2 hc (w.alloc (.cells #[.string s] 9)) (S.below hb0) (hA.below hb0));have HC0:=Lib.hid (Blk.new w 9 #[.string s]|>.cell 0);have HB0:=Lib.hid hb0;have h40:=qyM (b:=b);have hz:=q4H (b:=b);have hV:q34 b s.data.toList=if (qcQ b).2≠0 then ([],(qcQ b).2)else if qaR (qcQ b).1 s.data.toList=(qcQ b).1.length then ([],5)else (qmI (qcQ b).1 s.data.toList,0):=rfl
 generalize qcQ b=R at H1 h40 hz hV;obtain ⟨l,E⟩:=R;simp only at H1 h40 hz hV;clear hn hn2 hc S hA hb0
 by_cases hE:E=0
 ·subst hE;rw [if_neg (fun h=>h rfl)]at hV;obtain ⟨n,HN⟩:=qaA l.length;have HL:Hid (l.length=n):=HN.out;rw [HL.out]at h40 hV;have hle:=qeB l s.data.toList;rw [HL.out]at hle;have HFd:=Lib.hid fun (A1:Option Addr) (c1:Nat) W h=>qgD A1 n c1 l s HL.out (by omega) (fun x hx=>(hz x hx).1) W h;have HXZ:=Lib.hid hz
  by_cases hlt:qaR l s.data.toList<n
  ·rw [if_neg (by omega)]at hV;have HV:=Lib.hid hV;simp only [if_pos hlt]at HFd;have hn0:0<n:=by omega
   generalize qaR l s.data.toList=fi at HFd hle hlt;clear hz hV HN;go_enter Tryz.func14,Tryz.ntmps14;go_wp2_with fail;refine H1.out.mono ?_;rintro e w1 ⟨v1,zs,rfl,hm,ho,hb⟩;have hzl:zs.length=n:=by rw [←HL.out,←hm,List.length_map]
   have HB1:=Lib.hid (HB0.out.trans (hb.mono HB0.out.size));have HC1:Hid (w1.cell? ⟨w.heap.size,0,none⟩=some (.string s)):=qdU _ _ _ _ HC0.out hb;have HO1:=Lib.hid (ho.mono HB0.out.size);have hgr:=ho.1.row (by omega);obtain ⟨g,cap,rfl,hgB,hgl,-,-⟩:=hgr;obtain ⟨A1,c1,he1,hs1,hN1⟩:=HO1.out.at;rw [hm]at hN1;cases he1;rw [hzl]at hs1 HO1⊢;have HM1:=Lib.hid hm;have HF1:=Lib.hid (HFd.out (some ⟨g,0,none⟩) cap w1 hN1)
   have hne:w.heap.size≠g:=by
    have:(w.alloc (.cells #[.string s] 9)).heap.size=w.heap.size+1:=by simp
    omega
   have hcell:=HC1.out;clear hm ho hb hN1 H1 HFd hs1 hle hlt HB0 HC0;go_wp2_with fail;refine HF1.out.mono ?_;rintro e w2 ⟨rfl,hb2⟩;clear hcell;have HB2:=Lib.hid (HB1.out.trans (hb2.mono HB1.out.size))
   have HDl:=Lib.hid (qqQ 42 (.pointer (some ⟨w.heap.size,0,none⟩)) (fun x=> !hitP s.data.toList x.path) (fun W=>W.cell? ⟨w.heap.size,0,none⟩=some (.string s)) g (qdU _ _) (qzN _ _ hne _) (fun x D c W h hx=>q35 s hs _ x hx D c W h) (enters_of Tryz.func42 (by kernel_rfl) rfl)
    w.heap.size n cap zs hzl (by omega) (fun y hy=>(HXZ.out y.1 (by rw [←HM1.out];exact List.mem_map_of_mem hy)).1) w2 (HO1.out.below hb2) HB2.out.size (qdU _ _ _ _ HC1.out hb2))
   clear hb2 HF1 HB1 HC1;go_wp2_with fail;refine HDl.out.mono ?_;rintro e w5 ⟨v5,xs5,rfl,hx5,hO5,hb5⟩
   have HX5:Hid (xs5.map (·.1)=qmI l s.data.toList):=by
    unfold Hid qmI;rw [hx5,HM1.out]
    congr 1
    funext x
    simp
   have HO5:=Lib.hid hO5;have HB5:=Lib.hid (HB2.out.trans hb5);clear hx5 hO5 hb5;go_wp2_with fail;go_ret2;exact ⟨_,xs5,by rw [HV.out];rfl,by rw [HV.out];exact HX5.out,HO5.out,HB5.out⟩
  ·simp only [if_neg hlt]at HFd;rw [if_pos (by omega)]at hV;have HV:=Lib.hid hV;clear hz hV hle hlt HN;go_enter Tryz.func14,Tryz.ntmps14;go_wp2_with fail;refine H1.out.mono ?_;rintro e w1 ⟨v1,zs,rfl,hm,ho,hb⟩;obtain ⟨A1,c1,rfl,hs1,hN1⟩:=ho.at;have hzl:zs.length=n:=by rw [←HL.out,←hm,List.length_map]
   rw [hm]at hN1;rw [hzl];have HB1:=Lib.hid (HB0.out.trans (hb.mono HB0.out.size));have HF1:=Lib.hid (HFd.out A1 c1 w1 hN1);have hcell:w1.cell? ⟨w.heap.size,0,none⟩=some (.string s):=qdU _ _ _ _ HC0.out hb;clear hm ho hb hN1 hzl H1 HFd hs1;go_wp2_with fail;refine HF1.out.mono ?_;rintro e w2 ⟨rfl,hb2⟩;have HB2:=Lib.hid (HB1.out.trans (hb2.mono HB1.out.size));clear hb2;go_wp2_with fail;go_ret2;exact ⟨_, [],by rw [HV.out];rfl,by rw [HV.out];rfl,OwnN.nil _ _,HB2.out⟩
 ·rw [if_pos hE]at hV;have HV:=Lib.hid hV;have hne:(E !=0)=true:=by simpa using hE
  clear hz hV hE h40;go_enter Tryz.func14,Tryz.ntmps14;go_wp2_with fail;refine H1.out.mono ?_;rintro e w1 ⟨v1,zs,rfl,hm,ho,hb⟩;obtain ⟨A1,c1,rfl,-,-⟩:=ho.at;have HB1:=Lib.hid (HB0.out.trans (hb.mono HB0.out.size));obtain ⟨m,HM⟩:=qaA zs.length;rw [HM.out];clear hm ho hb H1;go_wp2_with fail;go_ret2;exact ⟨_, [],by rw [HV.out];rfl,by rw [HV.out];rfl,OwnN.nil _ _,HB1.out⟩
def qj5 (l:List RawV):List Value:=l.flatMap rawC
theorem qfV (r:RawV):(rawC r).length=4:=rfl
theorem qk9 (l:List RawV):(qj5 l).length=l.length*4:=by
 induction l with
 |nil=>rfl
 |cons x l ih=>unfold qj5 at*;simp only [List.flatMap_cons,List.length_append,List.length_cons,qfV]at*;omega
theorem q4Z (a b:List RawV):qj5 (a++b)=qj5 a++qj5 b:=by simp [qj5]
theorem qtX (l:List RawV) (j i:Nat) (hj:j<l.length) (hi:i<4):(qj5 l)[j*4+i]?=(rawC l[j])[i]?:=by
 induction l generalizing j with
 |nil=>cases hj
 |cons x l ih=>
  have e:qj5 (x::l)=rawC x++qj5 l:=rfl;rw [e];cases j with
  |zero=>rw [Nat.zero_mul,Nat.zero_add,List.getElem?_append_left (by rw [qfV];exact hi)];rfl
  |succ j=>
   have hj':j<l.length:=by simpa using hj
   rw [List.getElem?_append_right (by rw [qfV];omega),qfV,show (j+1)*4+i-4=j*4+i by omega];exact ih j hj'
theorem qwT (l:List RawV): ∀u∈qj5 l,u.oneCell'=true:=by
 intro u hu;obtain ⟨r,-,h⟩:=List.mem_flatMap.1 hu;simp [rawC]at h;rcases h with rfl|rfl|rfl|rfl<;>rfl
theorem qwU {w:World} {ad:Addr} {l:List RawV} (h:qd6 w (some ad) l): ∀j u,(qj5 l)[j]?=some u→w.cell? (ad.add j)=some u:=by
 intro j u hu
 have hj:j<l.length*4:=by
  have h1:=(List.getElem?_eq_some_iff.1 hu).1;rw [qk9]at h1;exact h1
 obtain ⟨b,o,e,hc⟩:=h (j/4) (by omega);obtain rfl:ad=⟨b,o,none⟩:=by injection e
 have h2:=hc (j%4) (by omega);rw [←qtX l (j/4) (j%4) (by omega) (by omega),show j/4*4+j%4=j by omega,hu]at h2;rw [←h2];unfold Addr.add
 split
 ·rename_i h;congr 1;first|(simp;done)|(simp;omega)
 ·congr 1;first|(simp;done)|(simp;omega)
def OwnR (w:World) (B:Nat) (v:Value) (n:Nat) (l:List RawV):Prop:=l.length=n∧w.ownsRow B 43 4 v n (qj5 l)
theorem OwnR.at {w:World} {B n c:Nat} {A:Option Addr} {l:List RawV} (h:OwnR w B (.slice A n c) n l):qd6 w A l:=fun j hj=>by
 obtain ⟨hl,ho⟩:=h;rcases ho.2 with ⟨e,h0⟩|⟨g,cap,cur,e,-⟩
 ·omega
 ·injection e with e1 e2 e3
  subst e1 e3;refine ⟨g,0,rfl,fun i hi=> ?_⟩;rw [Nat.zero_add,ho.cellAt (j*4+i) (by omega),qtX l j i hj hi]
theorem OwnR.form {w:World} {B:Nat} {v:Value} {n:Nat} {l:List RawV} (h:OwnR w B v n l): ∃A c,v= .slice A n c:=by
 rcases h.2.2 with ⟨e,h0⟩|⟨g,cap,cur,e,-⟩
 ·exact ⟨none,0,by rw [e,h0]⟩
 ·exact ⟨_,_,e⟩
theorem OwnR.below {w w':World} {B:Nat} {v:Value} {n:Nat} {l:List RawV} (h:OwnR w B v n l) (hb:Below w.heap.size w w'):OwnR w' B v n l:=by
 refine ⟨h.1,qcB h.2 fun g hg=> ?_⟩;obtain ⟨-,cur,hc⟩:=qa2 h.2 g hg;refine hb.block g ?_;rcases Nat.lt_or_ge g w.heap.size with h1|h1
 ·exact h1
 ·rw [Array.getElem?_eq_none h1]at hc;cases hc
theorem qy7:(Tryz.prog.info? 43).map (fun i=>(i.zero,i.size,i.bytes))=some (some (.agg #[.int .i64 0,.int .i64 0,.int .i64 0,.string ⟨#[]⟩]),4,40):=by kernel_rfl
set_option maxHeartbeats 1000000 in
theorem q23 (A:Option Addr) (n c:Nat) (rs:List RawV) (hn:rs.length=n) (hn2:n*40≤140737488351232) (w:World) (hA:qd6 w A rs):
  Calls Tryz.prog 20 #[.slice A n c] w fun e w'=> ∃v,e= .returned v∧OwnR w' w.heap.size v n rs∧Below w.heap.size w w':=by
 obtain ⟨i0,hi,hz0,hz1,hz2⟩:=info_parts qy7;have q22: ∀(w:World) (a:Option Addr) (n c n' c':Nat),(binOp .eql 33 (.slice a n c) (.slice none n' c')).run Tryz.prog w= .ok (.bool a.isNone) w:=fun w a n c n' c'=>Lib.run_eql_slice_nil w _ _ a n c n' c' Tryz.underlying33;cases A with
 |none=>
  have h0:rs= []:=by
   cases rs with
   |nil=>rfl
   |cons r l=>obtain ⟨b,o,e,-⟩:=hA 0 (by simp);cases e
  subst h0;obtain rfl:n=0:=by rw [←hn];rfl
  go_enter Tryz.func20,Tryz.ntmps20;go_wp2_with fail;go_ret;exact ⟨_,rfl,⟨rfl,World.ownsRow_nil _ _ _ _⟩,Below.refl _ _⟩
 |some ad=>
  have HN:=Lib.hid hn;have HA:=Lib.hid hA;have HO:Hid ((w.alloc (.cells #[] 43)).ownsRow w.heap.size 43 4 (.slice (some ⟨w.heap.size,0,none⟩) 0 0) 0 []):=World.ownsRow_lit (e:=43) (size:=4) w #[] 0 (Nat.le_refl _) (by decide) rfl;have HB:Hid (Below w.heap.size w (w.alloc (.cells #[] 43))):=(Below.refl _ _).alloc (Nat.le_refl _) _;have HA1:=Lib.hid (HA.out.below HB.out);clear hn hA;go_enter Tryz.func20,Tryz.ntmps20;go_wp2_with (at_builtin;refine Stay.go ?_);refine Stay.on ?_;refine wpList_append_own _ rfl (.tmp 5) (.tmp 6) 33 rfl w.heap.size 43 i0 _ 4 40 Tryz.underlying33 hi hz0 hz1 hz2 rfl (by decide) (.slice (some ⟨w.heap.size,0,none⟩) 0 0) 0 [] rfl HO.out ad n c (qj5 rs) rfl (by rw [qk9,HN.out]) (qwU HA1.out) (qwT _) (by unfold maxLen;omega) (by omega) (by simp) ?_;intro v6 w6 hown hgrow _;have HO6:Hid (OwnR w6 w.heap.size v6 n rs):=⟨HN.out,by simpa using hown⟩;have HB6:Hid (Below w.heap.size w w6):=HB.out.grown hgrow (by simp) (fun g0 e=>by simp [Value.ownBlock]at e;omega);clear hown hgrow;go_wp2_with fail;go_ret;exact ⟨v6,rfl,HO6.out,HB6.out⟩
def rawO:RawV:=⟨1,0,0,⟨#[]⟩⟩
theorem rawO_wf:rawO.wf:=⟨by decide,by decide,by decide,by decide⟩
theorem q3X (m:Nat) (st:List NodeV×List (List UInt8)) (r:RawV):st.1.length≤(qbV m st r).1.length:=by
 unfold qbV
 split
 ·exact Nat.le_refl _
 ·simp only
  split
  ·exact Nat.le_refl _
  ·split
   ·simp
   ·split
    ·simp
    ·split
     ·split
      ·simp
      ·split<;>simp
     ·simp
theorem q01 (m:Nat) (hm:1≤m) (rs:List RawV):1≤(qcI m (rs++ [rawO])).1.length:=by
 have e:qcI m (rs++ [rawO])=qbV m (qcI m rs) rawO:=by unfold qcI;rw [List.foldl_append];rfl
 rw [e];have hd:=qvA m rs;obtain ⟨ns,hns⟩: ∃ns,(qcI m rs).1=ns:=⟨_,rfl⟩;obtain ⟨ds,hds⟩: ∃ds,(qcI m rs).2=ds:=⟨_,rfl⟩;have e2:qcI m rs=(ns,ds):=Prod.ext hns hds;rw [e2]at hd⊢;simp only at hd;cases ns with
 |cons x ns=>exact Nat.le_trans (by simp) (q3X m (x::ns,ds) rawO)
 |nil=>
  have hp:qbO ds rawO= [97]:=by
   have h0:ds.getD (pick 0 ds.length).toNat []= []:=by
    rw [List.getD_eq_getElem?_getD];cases hq:ds[(pick 0 ds.length).toNat]? with
    |none=>rfl
    |some d=>
     rcases hd.dirs d (List.mem_of_getElem? hq)with h|⟨-,n,hn,-⟩
     ·exact h
     ·cases hn
   show (if ds.getD (pick 0 ds.length).toNat []= []then []else ds.getD (pick 0 ds.length).toNat []++ [47])++qd5.getD (pick 0 11).toNat []= [97];rw [if_pos h0];rfl
  unfold qbV;rw [if_neg (by simp;omega)];simp only;rw [hp,if_neg (by simp)];rw [if_pos (.inr (by decide))];simp
set_option maxHeartbeats 8000000 in
theorem qlS (A0:Option Addr) (n0 c0:Nat) (rs0:List RawV) (a1:Int) (hn0:rs0.length=n0) (hm0:n0*40≤140737488351232) (hf0: ∀r∈rs0,r.wf) (w1:(Lit.int .i64 a1).wf=true) (w:World) (hr0:qd6 w A0 rs0) (hL:laidMetH Tryz.prog Rows.restoreSomeRow.laid w):
  Calls Tryz.prog 7 #[.slice A0 n0 c0,.int .i64 a1] w fun e w'=>e= .returned (.bool true)∧Below w.heap.size w w':=by
 have S:Std w:=qh9 hL (by kernel_rfl) (by simp [Rows.restoreSomeRow]) (by simp [Rows.restoreSomeRow]) (by simp [Rows.restoreSomeRow]);obtain ⟨i0,hi,hz0,hz1,hz2⟩:=info_parts qy7;have HC:=Lib.hid (q23 A0 n0 c0 rs0 hn0 hm0 w hr0)
 have hwz: ∀r∈rs0++ [rawO],r.wf:=fun r hr=>by
  rcases List.mem_append.1 hr with h1|h1
  ·exact hf0 r h1
  ·obtain rfl:r=rawO:=by simpa using h1
   exact rawO_wf
 have HDr:=Lib.hid fun (A:Option Addr) (c:Nat) W (h:qd6 W A (rs0++ [rawO]))=>qjP A (n0+1) c (rs0++ [rawO]) (by rw [List.length_append,hn0];rfl) (by omega) hwz 20 (by omega) W h;simp only [show ((20:Nat):Int)=20 from rfl]at HDr;have HOne:=Lib.hid (q01 20 (by decide) rs0);have hm1:n0*40≤140737488351232:=hm0;have HW1:=Lib.hid w1;clear hwz hr0 hf0 hn0 hL w1;go_enter Tryz.func7,Tryz.ntmps7;go_wp2_with fail;refine HC.out.mono ?_;rintro e w2 ⟨v2,rfl,hO,hb⟩;obtain ⟨A2,c2,rfl⟩:=hO.form;have HB2:=Lib.hid hb;have HO2:=Lib.hid hO;have hw2:w.heap.size≤w2.heap.size:=hb.size;clear hb hO HC;go_wp2_with (at_builtin;refine Stay.go ?_);refine Stay.on ?_;have HO3:Hid (OwnR (w2.alloc (.cells (rawC rawO).toArray 43)) w.heap.size (.slice A2 n0 c2) n0 rs0):=HO2.out.below ((Below.refl _ _).alloc (Nat.le_refl _) _);refine wpList_append_lies _ rfl (.tmp 19) (.tmp 21) 33 rfl w.heap.size 43 i0 _ 4 40 Tryz.underlying33 hi hz0 hz1 hz2 rfl (by decide) (.slice A2 n0 c2) n0 _ rfl HO3.out.2 ⟨w2.heap.size,0,none⟩ 1 1 (rawC rawO) rfl rfl (World.news_of_block (cs:=(rawC rawO).toArray) (t:=43) (fr:=(0,0)) (heap_alloc_new w2 _)) (by simp [rawC,Value.oneCell']) (by omega) (by unfold maxLen;omega) (by omega) (by simp;omega) _ rfl ?_;intro g' cap' w3 hown hgrow hat hlt
 have HO4:Hid (OwnR w3 w.heap.size (.slice (some ⟨g',0,none⟩) (n0+1) cap') (n0+1) (rs0++ [rawO])):=
  ⟨by rw [List.length_append,HO3.out.1];rfl,by rw [q4Z];exact hown⟩
 have HB3:Hid (Below w.heap.size w w3):=(HB2.out.alloc hw2 _).grown hgrow (by simp;omega) (fun g0 e=>(qa2 HO3.out.2 g0 e).1);clear hown hgrow hat hlt HO3 HO2 HB2 hw2;go_wp2_with fail;refine (HDr.out _ _ _ HO4.out.at).mono ?_;rintro e x1 ⟨l,T,k,d,rfl,hk,hp,hS,hN,hk20,hSo,hsz,hb⟩;have hk1:1≤k:=by rw [←hk,hp.length_eq];exact HOne.out
 have ht:=qj1 hSo (by omega);obtain ⟨e1,e2⟩:=qsI ht;have hE:qbJ (qaM l)=0:=qgR hSo (by omega);have hpl:(qaM l).length=k:=by rw [qaQ];exact hk
 have HMk:=Lib.hid (by
  have h:=qrK T k d l hk hS hsz none 0 0 [] rfl (by omega) (fun q hq=>by cases hq) (fun h=>absurd rfl h) x1 hN (fun j hj=>by cases hj);rw [e1,e2]at h
  exact h)
 have HArc:=Lib.hid fun (A:Option Addr) (c:Nat) W hs TW hA=>qmA A k c (qaM l) hpl hs (fun x hx=>qpK (qc1 hE x hx)) W TW hA;rw [hE]at HArc;have hlim:=qsU hE;obtain ⟨q1,q2⟩:=qbG a1 (k:Int) (by omega);have HP:=Lib.hid fun W=>qbR a1 (k:Int) W HW1.out (by omega);obtain ⟨j,hj⟩: ∃j:Nat,pick a1 (k:Int)=j:=⟨(pick a1 (k:Int)).toNat,by omega⟩;rw [hj]at HP q1 q2;have hjk:j<k:=by omega
 have hjl:j<l.length:=by rw [hk];exact hjk
 have hGS:=qoO hSo;have hGP:=fun i hi=>qhX (t:=l) i hi;have hgl:(qa9 (qaM l)).length=k:=by rw [qa7];exact hpl
 have hsp:=path_ne (hSo.node _ (List.getElem_mem hjl));have hspl:=qyW hSo (List.getElem_mem hjl)
 have hfind:qaR (qa9 (qaM l)) l[j].path≠(qa9 (qaM l)).length:=fun e=>by
  have h:=qhQ.1 e ((qa9 (qaM l))[j]'(by rw [hgl];exact hjk)) (List.getElem_mem _);exact h (hGP j hjl)
 have hsome:q34 (arcE (qaM l)) l[j].path=(qmI (qa9 (qaM l)) l[j].path,0):=by
  unfold q34;rw [qmM hE,if_neg (fun h=>h rfl),if_neg hfind]
 obtain ⟨nb,hnb⟩: ∃nb,(arcE (qaM l)).length=nb:=⟨_,rfl⟩;have HRd:=Lib.hid fun (A:Option Addr) (c:Nat) (W:World) hc SW hA=>qwO A nb c (arcE (qaM l)) (bs l[j].path) hnb (by omega) hc (by unfold maxLen;omega) W SW hA;rw [qaF,hsome]at HRd;simp only at HRd;have hUS:=q0K hGS hsp;have hUl:(qmI (qa9 (qaM l)) l[j].path).length≤40:=Nat.le_trans (List.length_filter_le _ _) (by omega);have hUt:=qj1 hUS hUl;have hUz: ∀x∈qmI (qa9 (qaM l)) l[j].path,x.sz:=fun x hx=>qiF (hUS.node x hx)
 have hFd: ∀i (hi:i<l.length),decide (qaR (qmI (qa9 (qaM l)) l[j].path) l[i].path<(qmI (qa9 (qaM l)) l[j].path).length)=hitP l[j].path l[i].path:=fun i hi=>by
  have h:=q2D hGS.rises (hitP l[j].path) (n:=(qa9 (qaM l))[i]'(by rw [hgl,←hk];exact hi)) (List.getElem_mem _);rw [hGP i hi]at h;exact h
 have HPx:=Lib.hid fun i (hi:i<l.length)=>qyW hSo (List.getElem_mem hi);have HNB:=Lib.hid hnb;have HN1:=Lib.hid hN;have HK:=Lib.hid hk;have HPL:=Lib.hid hpl;have HB4:=Lib.hid (HB3.out.trans (hb.mono HB3.out.size));have HFd:=Lib.hid hFd;generalize arcE (qaM l)=AB at*;generalize qmI (qa9 (qaM l)) l[j].path=U at*;obtain ⟨s,hs⟩: ∃s,l[j].path=s:=⟨_,rfl⟩;rw [hs]at HRd HFd hspl;have HCj:=Lib.hid (HN1.out.cells2 j hjl);simp only [hs]at HCj;obtain ⟨SS,hSS⟩:=qaA (bs s);have hSl:SS.data.toList=s:=by rw [←hSS.out,qaF]
 rw [hSS.out]at HRd hspl HCj;have HSl:=Lib.hid hSl;have HIn1:=Lib.hid fun (q:List UInt8) (hq:(bs q).size≤400) W=>qvR (bs q) SS W (by unfold maxLen;omega) (by unfold maxLen;omega);have HIn2:=Lib.hid fun (q:List UInt8) (hq:(bs q).size≤400) W=>qvR SS (bs q) W (by unfold maxLen;omega) (by unfold maxLen;omega);simp only [qaF,hSl]at HIn1 HIn2;obtain ⟨nu,hnu⟩: ∃nu,U.length=nu:=⟨_,rfl⟩;rw [hnu]at hUl HFd;have HNU:=Lib.hid hnu;have HCk:=Lib.hid fun (A:Option Addr) (c:Nat) W hs hA=>qcR A nu c U hnu hs hUz W hA;rw [hUt]at HCk
 have HFi:Hid (∀(A:Option Addr) (c:Nat) (q:List UInt8) W,qaJ W A U→qaR U q<nu→Calls Tryz.prog 25 #[.slice A nu c,.string (bs q)] W fun e w'=>e= .returned (.tuple #[.int .i64 (qaR U q:Nat),.int .i64 0])∧Below W.heap.size W w'):=fun A c q W hA h=>
  (qgD A nu c U (bs q) hnu (by omega) hUz W hA).mono fun e w' ⟨he,hb⟩=>⟨by rw [he,if_pos (by rw [qaF];exact h),qaF],hb⟩
 have HFn:Hid (∀(A:Option Addr) (c:Nat) (q:List UInt8) W,qaJ W A U→ ¬qaR U q<nu→Calls Tryz.prog 25 #[.slice A nu c,.string (bs q)] W fun e w'=>e= .returned (.tuple #[.int .i64 0,.int .i64 5])∧Below W.heap.size W w'):=fun A c q W hA h=>
  (qgD A nu c U (bs q) hnu (by omega) hUz W hA).mono fun e w' ⟨he,hb⟩=>⟨by rw [he,if_neg (by rw [qaF];exact h)],hb⟩
 have hk0:((k:Int)==0)=false:=by simp;omega
 have hj1:(0:Int)≤(j:Int)∧(j:Int)<(k:Int):=by omega
 obtain ⟨hj2,hj3⟩:=hj1;clear hk hS hN hSo hsz hb hp ht e1 e2 hE hpl hlim hj hGS hGP hgl hsp hfind hsome hnb hUS hUt hUz hFd hs hSl hSS HOne HDr HO4 HB3 q1 q2 hnu;go_wp2_with fail;refine HMk.out.mono ?_;rintro e x2 ⟨v,xs,rfl,hm,ho,hb⟩;obtain ⟨Ax,cx,rfl,hsx,hNx⟩:=ho.at;rw [hm]at hNx;have hxl:xs.length=k:=by rw [←HPL.out,←hm,List.length_map]
 rw [hxl]at hsx⊢;have HB5:=Lib.hid (HB4.out.trans (hb.mono HB4.out.size));have HY5:=Lib.hid hb;have H5:=Lib.hid (HArc.out Ax cx x2 hsx (S.tab.below HB5.out) hNx);clear hm ho hb hsx hNx hxl HMk HArc HB4;go_wp2_with fail;refine H5.out.mono ?_;rintro e x3 ⟨v3,rfl,ho,hb⟩;obtain ⟨A3,c3,rfl,hs3,ha3⟩:=ho.form;rw [HNB.out]at hs3⊢;have HB6:=Lib.hid (HB5.out.trans (hb.mono HB5.out.size));have HY6:=Lib.hid (HY5.out.trans (hb.mono HY5.out.size));have HR6:=Lib.hid (HRd.out A3 c3 x3 hs3 (S.below HB6.out) ha3);obtain ⟨b2,o2,D2,cc2,rfl,-,-,-,hc2⟩:=HCj.out;obtain ⟨k0,-⟩:=hc2 x3 HY6.out;clear ho hb hs3 ha3 H5 HRd HB5 HY5 hc2 HCj;go_wp2_with fail;refine (HP.out _).mono ?_;rintro e x4 ⟨rfl,rfl⟩;clear HP;go_wp2_with fail;refine HR6.out.mono ?_;rintro e x4 ⟨v4,ys,rfl,hm,ho,hb⟩;obtain ⟨A4,c4,rfl,hs4,hN4⟩:=qwN ho hm;rw [HNU.out]at hs4⊢;have HB7:=Lib.hid (HB6.out.trans (hb.mono HB6.out.size));have HY7:=Lib.hid (HY6.out.trans (hb.mono HY6.out.size));have HN4:=Lib.hid hN4;have H7:=Lib.hid (HCk.out A4 c4 x4 hs4 hN4);clear hm ho hb hs4 hN4 HR6 HCk HB6 HY6 k0;go_wp2_with fail;refine H7.out.mono ?_;rintro e x5 ⟨rfl,hb⟩;have HB8:=Lib.hid (HB7.out.trans (hb.mono HB7.out.size));have HY8:=Lib.hid (HY7.out.trans (hb.mono HY7.out.size));have HN5:=Lib.hid (HN4.out.below hb);clear hb H7 HB7 HY7 HN4;go_wp2_with fail
 go_loopw [68] (fun iv wr=> ∃i:Nat,iv= .int .i64 (i:Int)∧i≤k∧Hid (Below x5.heap.size x5 wr)) (fun iv _=>k-(intOf iv).toNat)
 case atStart=>exact ⟨0,rfl,Nat.zero_le _,Below.refl _ _⟩
 case round=>
  obtain ⟨i,rfl,hi,HW⟩:=hrel
  by_cases hik:i<k
  ·have hil:i<l.length:=by rw [HK.out];exact hik
   obtain ⟨b,o,E,cc,e9,hb1,hSl,hE,hcl⟩:=HN1.out.cells2 i hil;injection e9 with e9
   injection e9 with q1 q2 _
   subst q1 q2;obtain ⟨c0,c1,c2',c3,⟨c4',c5,c6,c7,c8,c9,cA⟩,cB⟩:=hcl wr (HY8.out.trans (HW.out.mono HY8.out.size));have HO:=Lib.hid (HIn1.out l[i].path (HPx.out i hil));have HQ:=Lib.hid (HIn2.out l[i].path (HPx.out i hil));have HFx:=Lib.hid (HFd.out i hil);have HFy:=Lib.hid fun W h=>HFi.out A4 c4 l[i].path W h;have HFz:=Lib.hid fun W h=>HFn.out A4 c4 l[i].path W h;have hqp:=qoG (a:=l[i].path) (b:=s);generalize hy:l[i]=y at*;obtain ⟨Q,hQ⟩:=qaA (bs y.path);rw [hQ.out]at HO HQ HFy HFz c0 hqp
   have hqp2:(Q.toList==SS.toList)=decide (y.path=s):=by
    rw [←hqp,←HSl.out,qgJ]
   have HHit:Hid (hitP s y.path=(decide (y.path=s)||inB y.path s||inB s y.path)):=rfl;obtain ⟨r1,hr1⟩: ∃r1,r1=decide (y.path=s):=⟨_,rfl⟩;obtain ⟨r2,hr2⟩: ∃r2,r2=inB y.path s:=⟨_,rfl⟩;obtain ⟨r3,hr3⟩: ∃r3,r3=inB s y.path:=⟨_,rfl⟩;rw [←hr1,←hr2,←hr3]at HHit;rw [←hr1]at hqp2;rw [←hr2]at HO;rw [←hr3]at HQ;rw [HHit.out]at HFx;obtain ⟨fi,hfi⟩: ∃fi,qaR U y.path=fi:=⟨_,rfl⟩;rw [hfi]at HFx HFy HFz;obtain ⟨tg,hT⟩:=qaA (bs y.target);obtain ⟨us,hUs⟩:=qaA (bs y.md.user);obtain ⟨gs,hGs⟩:=qaA (bs y.md.group);rw [hT.out]at c3;rw [hUs.out]at c7;rw [hGs.out]at c8;clear hy hr1 hr2 hr3 hcl hSl hE hb1 HHit hqp hfi;go_upto_region 13 with fail
   have HBl:=Lib.hid (Blk.new wr 49 #[.string Q,.int .i64 y.kind,.int .i64 y.same,.string tg,.int .i64 y.md.mode,.int .i64 y.md.uid,.int .i64 y.md.gid,.string us,.string gs,.int .i64 y.md.second,.int .i64 y.md.nano,.slice E y.data.length cc]);have HBa:=Lib.hid (qaL HW.out (.cells #[.string Q,.int .i64 y.kind,.int .i64 y.same,.string tg,.int .i64 y.md.mode,.int .i64 y.md.uid,.int .i64 y.md.gid,.string us,.string gs,.int .i64 y.md.second,.int .i64 y.md.nano,.slice E y.data.length cc] 49));generalize hwa:wr.alloc _=wa at HBl HBa⊢;obtain ⟨⟨e0,e1,e2,e3,e4,e5,e6,e7,e8,e9,eA,eB⟩,-⟩:=qbC HBl.out;clear hwa c0 c1 c2' c3 c4' c5 c6 c7 c8 c9 cA cB
   go_cut [15] (fun v wx=>v= .bool (r1||r2||r3)∧wa=wx)
   case first=>
    cases r1 with
    |true=>
     clear HO HQ HFx HFy HFz;go_wp2_with fail;go_meet;exact ⟨rfl,rfl⟩
    |false=>
     cases r2 with
     |true=>
      clear HQ HFx HFy HFz;go_wp2_with fail;refine (HO.out _).mono ?_;rintro e w4 ⟨rfl,rfl⟩;go_wp2_with fail;go_meet;exact ⟨rfl,rfl⟩
     |false=>
      clear HFx HFy HFz;go_wp2_with fail;refine (HO.out _).mono ?_;rintro e w4 ⟨rfl,rfl⟩;go_wp2_with fail;refine (HQ.out _).mono ?_;rintro e w4 ⟨rfl,rfl⟩;go_wp2_with fail;go_meet;exact ⟨by simp,rfl⟩
   case rest=>
    obtain ⟨rfl,rfl⟩:=hcut;clear HO HQ hqp2;cases hr:r1||r2||r3 with
    |false=>
     have hfn: ¬fi<nu:=by have h:=HFx.out;rw [hr]at h;exact of_decide_eq_false h
     have HF9:=Lib.hid (HFz.out wa (HN5.out.below HBa.out) hfn);clear HFx hr HFy HFz;go_wp2_with fail;refine HF9.out.mono ?_;rintro e x6 ⟨rfl,hb⟩;have HB9:=Lib.hid (HBa.out.trans (hb.mono HBa.out.size));clear hb HF9;go_wp2_with fail;go_roundw
     case rel=>exact ⟨i+1,by go_num,by omega,HB9.out⟩
     case measure=>simp [intOf];omega
    |true=>
     have hfn:fi<nu:=by have h:=HFx.out;rw [hr]at h;exact of_decide_eq_true h
     have HF9:=Lib.hid (HFy.out wa (HN5.out.below HBa.out) hfn);clear HFx hr HFy HFz;go_wp2_with fail;refine HF9.out.mono ?_;rintro e x6 ⟨rfl,hb⟩;have HB9:=Lib.hid (HBa.out.trans (hb.mono HBa.out.size));clear hb HF9;go_wp2_with fail;go_roundw
     case rel=>exact ⟨i+1,by go_num,by omega,HB9.out⟩
     case measure=>simp [intOf];omega
  ·obtain rfl:i=k:=by omega
   have HBe:=Lib.hid (HB8.out.trans (HW.out.mono HB8.out.size));go_wp2_with fail;go_ret;exact ⟨rfl,HBe.out⟩
end Go.Proofs.YtapgoifimhnbdaaGreatDoor
