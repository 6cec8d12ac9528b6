/- qaV of one kind, in one file: Mpr, MrA, MrB, MrC, MrD, MrE. -/
import Derived.Test.YtapgoifimhnbdaaGreatDoorMer
import Derived.Maps.OwnSet
import Derived.Maps.RangeWalk
import Derived.Test.YtapgoifimhnbdaaGreatDoorMya
import Derived.Test.YtapgoifimhnbdaaGreatDoorMwt
import Derived.Test.YtapgoifimhnbdaaGreatDoorStq
import Derived.OwnWalk
set_option linter.unusedVariables false
set_option maxRecDepth 100000
namespace Go.Proofs.YtapgoifimhnbdaaGreatDoor
open Go.RowKit
open Go.Maps Go.WideMaps
def qeT (rs:List Rc):DataW Unit:=rs.foldl (fun D r=>D.put (.string r.1) (.lit (.string r.2))) (.map [])
theorem qhK (p:List Rc) (r:Rc):qeT (p++ [r])=(qeT p).put (.string r.1) (.lit (.string r.2)):=by unfold qeT;rw [List.foldl_append];rfl
theorem qv5 (p:List Rc):IsMap (qeT p):=by
 have h: ∀(p:List Rc) (D:DataW Unit),IsMap D→IsMap (p.foldl (fun D r=>D.put (.string r.1) (.lit (.string r.2))) D):=by
  intro p
  induction p with
  |nil=>exact fun D h=>h
  |cons r p ih=>exact fun D h=>ih _ (h.put _ _)
 exact h p _ isMap_empty
theorem q7T {a b:List UInt8} (h:a≠b):(Lit.string a)≠ .string b:=fun e=>h (by injection e)
theorem q0R (rs:List Rc): ∀kl,Maps.has (qeT rs) kl=true↔ ∃r∈rs,kl= .string r.1:=by
 refine rs.reverse.rec (motive:=fun l=> ∀kl,Maps.has (qeT l.reverse) kl=true↔ ∃r∈l.reverse,kl= .string r.1) ?_ ?_|>fun h=>by rwa [List.reverse_reverse]at h
 ·intro kl;constructor
  ·intro h;cases h
  ·rintro ⟨r,hr,-⟩;cases hr
 ·intro r l ih kl;rw [List.reverse_cons,qhK]
  by_cases e:kl= .string r.1
  ·subst e;rw [has_put_same (qv5 _) (show WideAt.IsKeyLit (.string r.1)from trivial)];exact ⟨fun _=>⟨r,by simp,rfl⟩,fun _=>rfl⟩
  ·rw [has_put_other e,ih kl];constructor
   ·rintro ⟨q,hq,h⟩;exact ⟨q,List.mem_append_left _ hq,h⟩
   ·rintro ⟨q,hq,h⟩;rcases List.mem_append.1 hq with hq|hq
    ·exact ⟨q,hq,h⟩
    ·obtain rfl:q=r:=by simpa using hq
     exact absurd h e
theorem q4Z {rs:List Rc} (hn:(qb6 rs).Nodup): ∀r∈rs,∀zd,(qeT rs).atKey (.string r.1) zd= .lit (.string r.2):=by
 refine rs.reverse.rec (motive:=fun l=>(qb6 l.reverse).Nodup→ ∀r∈l.reverse,∀zd,(qeT l.reverse).atKey (.string r.1) zd= .lit (.string r.2)) ?_ ?_|>fun h=>by rw [List.reverse_reverse]at h;exact h hn
 ·intro _ r hr;cases hr
 ·intro x l ih hn r hr zd;rw [List.reverse_cons]at hn hr⊢;unfold qb6 at hn;rw [List.map_append,List.nodup_append]at hn;rw [qhK];rcases List.mem_append.1 hr with hr|hr
  ·have hne:r.1≠x.1:=hn.2.2 r.1 (List.mem_map.2 ⟨r,hr,rfl⟩) x.1 (by simp);rw [atKey_put_other (q7T hne)];exact ih hn.1 r hr zd
  ·obtain rfl:r=x:=by simpa using hr
   exact atKey_put_same (qv5 _) (show WideAt.IsKeyLit (.string r.1)from trivial) _ _
def Left (rs p:List Rc) (left:Lit→Bool):Prop:=(qb6 p).Nodup∧(∀r∈p,r∈rs)∧ ∀kl,left kl=true↔ ∃r∈rs,kl= .string r.1∧r.1∉qb6 p
theorem Left.start (rs:List Rc):Left rs [] (Maps.has (qeT rs)):=by
 refine ⟨List.nodup_nil,fun r hr=>(by cases hr),fun kl=> ?_⟩;rw [q0R];constructor
 ·rintro ⟨r,hr,e⟩;exact ⟨r,hr,e,fun h=>by cases h⟩
 ·rintro ⟨r,hr,e,-⟩;exact ⟨r,hr,e⟩
theorem Left.step {rs p:List Rc} {left:Lit→Bool} (hn:(qb6 rs).Nodup) (h:Left rs p left) {k v:List UInt8} (hl:left (.string k)=true) (ha: ∀zd,(qeT rs).atKey (.string k) zd= .lit (.string v)):
  (k,v)∈rs∧k∉qb6 p∧Left rs (p++ [(k,v)]) (fun z=>left z&& !z.sameKey (.string k)):=by
 obtain ⟨h1,h2,h3⟩:=h;obtain ⟨r,hr,e,hp⟩:=(h3 _).1 hl;have hk:k=r.1:=by injection e
 subst hk;have hv:=q4Z hn r hr (.map []);rw [ha]at hv;obtain rfl:v=r.2:=by injection hv with hv;injection hv
 have hnew:(qb6 (p++ [r])).Nodup:=by
  unfold qb6;rw [List.map_append,List.nodup_append];refine ⟨h1,by simp,fun a ha b hb=> ?_⟩;have:b=r.1:=by simpa using hb
  subst this;rintro rfl;exact hp ha
 refine ⟨hr,hp,hnew,fun q hq=> ?_,fun kl=> ?_⟩
 ·rcases List.mem_append.1 hq with hq|hq
  ·exact h2 q hq
  ·obtain rfl:q=r:=by simpa using hq
   exact hr
 ·rw [Bool.and_eq_true,h3];constructor
  ·rintro ⟨⟨q,hq,rfl,hqp⟩,hs⟩;refine ⟨q,hq,rfl,fun hm=> ?_⟩;unfold qb6 at hm;rw [List.map_append,List.mem_append]at hm;rcases hm with hm|hm
   ·exact hqp hm
   ·have:q.1=r.1:=by simpa using hm
    rw [this,WideAt.sameKey_self (show WideAt.IsKeyLit (.string r.1)from trivial)]at hs;cases hs
  ·rintro ⟨q,hq,rfl,hqp⟩;unfold qb6 at hqp;rw [List.map_append,List.mem_append]at hqp;refine ⟨⟨q,hq,rfl,fun h=>hqp (.inl h)⟩,?_⟩;have:q.1≠r.1:=fun e=>hqp (.inr (by simp [e]));rw [sameKey_ne (q7T this)];rfl
theorem Left.end {rs p:List Rc} {left:Lit→Bool} (hn:(qb6 rs).Nodup) (h:Left rs p left) (hl: ∀kl,left kl=false): ∀r,r∈p↔r∈rs:=by
 obtain ⟨h1,h2,h3⟩:=h;refine fun r=>⟨h2 r,fun hr=> ?_⟩
 have hm:r.1∈qb6 p:=by
  refine Decidable.byContradiction fun h=> ?_;have:=(h3 (.string r.1)).2 ⟨r,hr,rfl,h⟩;rw [hl]at this;cases this
 obtain ⟨q,hq,e⟩:=List.mem_map.1 hm;have a:=(qeP (K:=q.1) (v:=q.2) hn).2 (h2 q hq);have b:=(qeP (K:=r.1) (v:=r.2) hn).2 hr;rw [e,b]at a;have:q=r:=Prod.ext e (by injection a with a;exact a.symm);exact this▸hq
section
variable {P:Program} {e:TypeId}
theorem qsQ {v:Value} {z:DataW Unit×List MemPlace} (he:P.underlying e=some .string) (h:plainElem P e v=some z): ∃s:ByteArray,v= .string s∧z.1= .lit (.string s.data.toList)∧s.size≤maxLen:=by
 cases v with
 |string s=>
  by_cases hs:s.size≤maxLen
  ·rw [plainElem_string he hs]at h;injection h with h
   exact ⟨s,rfl,by rw [←h],hs⟩
  ·simp [plainElem,he,hs]at h
 |_=>simp [plainElem,he]at h
theorem q16 {w:World} {ops:Array Oper} {rest:List Oper} {o:Oper} {a:Act} {Q:Exit→Act→World→Prop}
  (hg:o.guard=none) (it:Operand) (hop:o.op=Op.next it false) (k:TypeId) (hk:P.underlying k=some .string) (he:P.underlying e=some .string)
  (b r n:Nat) (D:DataW Unit) (left:Lit→Bool) (cnt:Nat) (hit:a.eval it= .pointer (some ⟨r,0,none⟩)) (h:w.ranges P k (plainElem P e) b r n D left cnt)
  (hDone:cnt=0→(∀kl,left kl=false)→wpList P ops Q rest (a.put o.dst (.tuple #[.bool false])) w)
  (hMore: ∀(x c:ByteArray) (w':World) (cnt':Nat),x.size≤maxLen→c.size≤maxLen→left (.string x.data.toList)=true→(∀zd,D.atKey (.string x.data.toList) zd= .lit (.string c.data.toList))→
   w'.ranges P k (plainElem P e) b r n D (fun z=>left z&& !z.sameKey (.string x.data.toList)) cnt'→cnt'<cnt→w.grownBy w' (some r)→w'.heap.size=w.heap.size→
   (Instr.entry (.pointer (some ⟨r,0,none⟩))).run P w'= .ok (.tuple #[.string x,.string c]) w'→wpList P ops Q rest (a.put o.dst (.tuple #[.bool true,.string x,.string c])) w'):
  wpList P ops Q (o::rest) a w:=
 wpList_next_ranges w hg it hop k (string_keyed hk) (plainElem P e) Value.string Value.string (fun key kl hkey=>by obtain ⟨s,e,-,-⟩:=string_of_keyOf hk hkey;exact ⟨s,e⟩) (fun v y hv=>by obtain ⟨c,e,-,-⟩:=qsQ he hv;exact ⟨c,e⟩)
  b r n D left cnt hit h hDone (fun x c kl y w' cnt' hkey hlk hv hat hrg hlt hgr hsz hen=>by
   obtain ⟨x',ex,rfl,hx⟩:=string_of_keyOf hk hkey;cases ex;obtain ⟨c',ec,hy,hc⟩:=qsQ he hv;cases ec
   exact hMore x c w' cnt' hx hc hlk (fun zd=>by rw [hat,hy]) hrg hlt hgr hsz hen)
end
end Go.Proofs.YtapgoifimhnbdaaGreatDoor
namespace Go.Proofs.YtapgoifimhnbdaaGreatDoor
open Go.RowKit
open Go.OpenShut
open Go.Maps Go.WideMaps
theorem qbY {P:Program} {k:TypeId} {R:Value→Option (DataW Unit×List MemPlace)} {w w':World} {b r n:Nat} {D:DataW Unit} {left:Lit→Bool} {cnt:Nat} (h:w.ranges P k R b r n D left cnt) (hb:Below w.heap.size w w') (hl:b<w.heap.size):w'.ranges P k R b r n D left cnt:=by
 have hr:=h.lt;obtain ⟨es,clock,since,seen,c0,h1,h2,h3,h4,h5,h6⟩:=h;exact ⟨es,clock,since,seen,c0,(hb.block b hl).trans h1,h2,h3,h4,(hb.block r hr).trans h5,h6⟩
theorem qcZ {P:Program} {k:TypeId} {R:Value→Option (DataW Unit×List MemPlace)} {w:World} {b r n:Nat} {D:DataW Unit} {left:Lit→Bool} {cnt:Nat} (h:w.ranges P k R b r n D left cnt) (p:Addr) (v:Value) (hb:b≠p.block) (hr:r≠p.block):(w.setCell p v).ranges P k R b r n D left cnt:=by
 obtain ⟨es,clock,since,seen,c0,h1,h2,h3,h4,h5,h6⟩:=h;exact ⟨es,clock,since,seen,c0,(Below.heap_setCell w p v b hb).trans h1,h2,h3,h4,(Below.heap_setCell w p v r hr).trans h5,h6⟩
theorem qc1 {P:Program} {k:TypeId} {R:Value→Option (DataW Unit×List MemPlace)} {w w':World} {b n:Nat} {D:DataW Unit} (h:w.ownsMap P k R b n D) (hb:Below w.heap.size w w'):w'.ownsMap P k R b n D:=by
 obtain ⟨es,clock,h1,h2⟩:=h;exact ⟨es,clock,(hb.block b (Array.getElem?_eq_some_iff.1 h1).1).trans h1,h2⟩
theorem qmO {P:Program} {k:TypeId} {R:Value→Option (DataW Unit×List MemPlace)} {w:World} {b n:Nat} {D:DataW Unit} (h:w.ownsMap P k R b n D):b<w.heap.size:=by
 obtain ⟨es,clock,h1,h2⟩:=h;exact (Array.getElem?_eq_some_iff.1 h1).1
theorem qcX {P:Program} {k:TypeId} {R:Value→Option (DataW Unit×List MemPlace)} {w:World} {b n:Nat} {D:DataW Unit} (h:w.ownsMap P k R b n D) (p:Addr) (v:Value) (hb:b≠p.block):(w.setCell p v).ownsMap P k R b n D:=by
 obtain ⟨es,clock,h1,h2⟩:=h;exact ⟨es,clock,(Below.heap_setCell w p v b hb).trans h1,h2⟩
def qiH (c:UInt8) (i:Nat):Int:=if c=48∧1<i then 1 else if c=53∧2<i then 2 else if c=50∧3<i then 3 else if c=49∧4<i then 4 else 0
theorem q2R (c:UInt8):qiH c 5=qkF c:=by unfold qiH qkF;simp
theorem qi6 (E:Int) (w:World):Calls Tryz.prog 170 #[.int .i64 E] w fun e w'=>e= .returned (.tuple #[.agg #[.string ⟨#[]⟩,.int .i64 0,.string ⟨#[]⟩,.int .i64 0,.int .i64 0,.int .i64 0,.string ⟨#[]⟩,.string ⟨#[]⟩,.int .i64 0,.int .i64 0,.slice none 0 0],.int .i64 0,.int .i64 E])∧Below w.heap.size w w':=by
 have HB:=Lib.hid ((Below.refl w.heap.size w).alloc (Nat.le_refl _) (.cells #[.string ⟨#[]⟩,.int .i64 0,.string ⟨#[]⟩,.int .i64 0,.int .i64 0,.int .i64 0,.string ⟨#[]⟩,.string ⟨#[]⟩,.int .i64 0,.int .i64 0,.slice none 0 0] 73));have hZ:=Blk.new w 73 #[.string ⟨#[]⟩,.int .i64 0,.string ⟨#[]⟩,.int .i64 0,.int .i64 0,.int .i64 0,.string ⟨#[]⟩,.string ⟨#[]⟩,.int .i64 0,.int .i64 0,.slice none 0 0];obtain ⟨⟨q0,q1,q2,q3,q4,q5,q6,q7,q8,q9,qA⟩,f0,f1,f2,f3,f4,f5,f6,f7,f8,f9,fA⟩:=qaF hZ;clear hZ;go_enter Tryz.func170,Tryz.ntmps170;go_wp2_with fail;refine bodyPost_ret (v:= .tuple #[.agg #[.string ⟨#[]⟩,.int .i64 0,.string ⟨#[]⟩,.int .i64 0,.int .i64 0,.int .i64 0,.string ⟨#[]⟩,.string ⟨#[]⟩,.int .i64 0,.int .i64 0,.slice none 0 0],.int .i64 0,.int .i64 E]) (by simp [results,Tryz.results170,go_sem, *]) rfl ⟨rfl,?_⟩;exact HB.out
set_option maxHeartbeats 4000000 in
theorem rMOf_1 (A:Option Addr) (n c:Nat) (l:List UInt8) (hn:l.length=n) (hn2:n≤140737488351232) (hc:SlOk A n c) (w:World) (S:Std w) (hA:qaE w A l) (h1:(qaC l).2≠0):
  Calls Tryz.prog 119 #[.slice A n c] w fun e w'=> ∃D cc,e= .returned (.tuple #[.agg (entC (qaI l).1.1 D cc).toArray,.int .i64 ((qaI l).1.2:Nat),.int .i64 (qaI l).2])∧SlOk D (qaI l).1.1.data.length cc∧qaE w' D (qaI l).1.1.data∧OwnB w' w.heap.size (.slice D (qaI l).1.1.data.length cc) (qaI l).1.1.data∧Below w.heap.size w w':=by
 have HF:Hid (qaI l=((entZ,0),(qaC l).2)):=by unfold Hid;rw [qfR (by rw [qfT h1];exact h1),qfT h1]
 have HD1:=Lib.hid fun W h=>qd2 A n c l hn hn2 hc W h;have HSm:=Lib.hid (qbI l);generalize hFM:qaC l=FM at*;obtain ⟨⟨⟨n0,n1,n2,n3,n4,n5,n6,n7,n8,n9,nA⟩,D1,N1⟩,E1⟩:=FM;simp only at HD1 HSm;unfold qaG at HD1;simp only at HD1;simp only at h1 HF;have hne:(E1 !=0)=true:=by simpa using h1
 clear h1 hFM;have hZ0:=Blk.new w 73 #[.string ⟨#[]⟩,.int .i64 0,.string ⟨#[]⟩,.int .i64 0,.int .i64 0,.int .i64 0,.string ⟨#[]⟩,.string ⟨#[]⟩,.int .i64 0,.int .i64 0,.slice none 0 0];have hB0:=(Below.refl w.heap.size w).alloc (Nat.le_refl _) (.cells #[.string ⟨#[]⟩,.int .i64 0,.string ⟨#[]⟩,.int .i64 0,.int .i64 0,.int .i64 0,.string ⟨#[]⟩,.string ⟨#[]⟩,.int .i64 0,.int .i64 0,.slice none 0 0] 73);have HZ0:=Lib.hid hZ0;have HB0:=Lib.hid hB0;have HA:=Lib.hid hA;clear hZ0 hB0 hA;go_enter Tryz.func119,Tryz.ntmps119;go_wp2_with fail;refine (HD1.out _ (HA.out.below HB0.out)).mono ?_;rintro e x1 ⟨v1,rfl,ho1,hb1⟩;obtain ⟨A1,c1,rfl,hs1,ha1⟩:=ho1.form;have hB1:=HB0.out.trans (hb1.mono HB0.out.size);have hB2:=hB1.alloc hB1.size (.cells #[.string (bs n0),.string (bs n1),.string (bs n2),.int .i64 n3,.int .i64 n4,.int .i64 n5,.int .i64 n6,.int .i64 n7,.int .u8 (n8.toNat:Int),.string (bs n9),.string (bs nA)] 152);have hZ2:=(HZ0.out.below hb1 HZ0.out.lt).alloc (.cells #[.string (bs n0),.string (bs n1),.string (bs n2),.int .i64 n3,.int .i64 n4,.int .i64 n5,.int .i64 n6,.int .i64 n7,.int .u8 (n8.toNat:Int),.string (bs n9),.string (bs nA)] 152);have hH2:=Blk.new x1 152 #[.string (bs n0),.string (bs n1),.string (bs n2),.int .i64 n3,.int .i64 n4,.int .i64 n5,.int .i64 n6,.int .i64 n7,.int .u8 (n8.toNat:Int),.string (bs n9),.string (bs nA)]
 have hO2:=ho1.alloc (.cells #[.string (bs n0),.string (bs n1),.string (bs n2),.int .i64 n3,.int .i64 n4,.int .i64 n5,.int .i64 n6,.int .i64 n7,.int .u8 (n8.toNat:Int),.string (bs n9),.string (bs nA)] 152);have hA2:=ha1.below ((Below.refl x1.heap.size x1).alloc (Nat.le_refl _) (.cells #[.string (bs n0),.string (bs n1),.string (bs n2),.int .i64 n3,.int .i64 n4,.int .i64 n5,.int .i64 n6,.int .i64 n7,.int .u8 (n8.toNat:Int),.string (bs n9),.string (bs nA)] 152));have hne2:w.heap.size<x1.heap.size:=(HZ0.out.below hb1 HZ0.out.lt).lt;go_upto_region 3 with fail
 generalize x1.alloc (.cells #[.string (bs n0),.string (bs n1),.string (bs n2),.int .i64 n3,.int .i64 n4,.int .i64 n5,.int .i64 n6,.int .i64 n7,.int .u8 (n8.toNat:Int),.string (bs n9),.string (bs nA)] 152)=x2 at hB2 hZ2 hH2 hO2 hA2⊢;generalize x1.heap.size=gH at hH2 hne2⊢;have HB2:=Lib.hid hB2;have HZ2:=Lib.hid hZ2;have HH2:=Lib.hid hH2;have HO2:=Lib.hid hO2;have HA2:=Lib.hid hA2;have HSO:=Lib.hid hs1;clear hA2 hs1 hb1 ho1 ha1 hB1 hB2 hZ2 hH2 hO2 HD1;go_wp2_with fail;refine (qi6 E1 _).mono ?_;rintro e x9 ⟨rfl,hb9⟩;have HB9:=Lib.hid ((HB2.out).trans (hb9.mono (HB2.out).size));obtain ⟨⟨z0,z1,z2,z3,z4,z5,z6,z7,z8,z9,zA⟩,y0,y1,y2,y3,y4,y5,y6,y7,y8,y9,yA⟩:=qaF ((HZ2.out).below hb9 (HZ2.out).lt);clear hb9;go_wp2_with fail;refine bodyPost_ret (v:= .tuple #[.agg #[.string ⟨#[]⟩,.int .i64 0,.string ⟨#[]⟩,.int .i64 0,.int .i64 0,.int .i64 0,.string ⟨#[]⟩,.string ⟨#[]⟩,.int .i64 0,.int .i64 0,.slice none 0 0],.int .i64 0,.int .i64 E1]) (by simp [results,Tryz.results119,go_sem, *]) rfl ?_;exact qf6 HF.out (qaL HB9.out (Nat.le_refl _) _ _ _ _ _ _ _ _ _ _ _)
set_option maxHeartbeats 4000000 in
theorem rMOf_2 (A:Option Addr) (n c:Nat) (l:List UInt8) (hn:l.length=n) (hn2:n≤140737488351232) (hc:SlOk A n c) (w:World) (S:Std w) (hA:qaE w A l) (h1:(qaC l).2=0) (h2:(qaC l).1.1.typ=120) (h3:(paxR (qaC l).1.2.1).2≠0):
  Calls Tryz.prog 119 #[.slice A n c] w fun e w'=> ∃D cc,e= .returned (.tuple #[.agg (entC (qaI l).1.1 D cc).toArray,.int .i64 ((qaI l).1.2:Nat),.int .i64 (qaI l).2])∧SlOk D (qaI l).1.1.data.length cc∧qaE w' D (qaI l).1.1.data∧OwnB w' w.heap.size (.slice D (qaI l).1.1.data.length cc) (qaI l).1.1.data∧Below w.heap.size w w':=by
 have HF:Hid (qaI l=((entZ,0),(paxR (qaC l).1.2.1).2)):=by unfold Hid;rw [qfR (by rw [qgS h1 h2 h3];exact h3),qgS h1 h2 h3]
 have hDn:=(qa1 h1).2.2;have HD1:=Lib.hid fun W h=>qd2 A n c l hn hn2 hc W h;have HSm:=Lib.hid (qbI l);generalize hFM:qaC l=FM at*;obtain ⟨⟨⟨n0,n1,n2,n3,n4,n5,n6,n7,n8,n9,nA⟩,D1,N1⟩,E1⟩:=FM;simp only at HD1 HSm;unfold qaG at HD1;simp only at HD1;simp only at h1 h2 h3 HF hDn;subst h1;have hty:((n8.toNat:Int)==120)=true:=by rw [h2];rfl
 have HPx:=Lib.hid fun W TW=>qjY (bs D1) W TW (by rw [qaB];omega);rw [qaH]at HPx;obtain ⟨E3,HE3⟩:=qaA (paxR D1).2;rw [HE3.out]at HPx h3 HF;generalize (paxR D1).1=RS at HPx;have hne:(E3 !=0)=true:=by simpa using h3
 clear h2 h3 hFM hDn;have hZ0:=Blk.new w 73 #[.string ⟨#[]⟩,.int .i64 0,.string ⟨#[]⟩,.int .i64 0,.int .i64 0,.int .i64 0,.string ⟨#[]⟩,.string ⟨#[]⟩,.int .i64 0,.int .i64 0,.slice none 0 0];have hB0:=(Below.refl w.heap.size w).alloc (Nat.le_refl _) (.cells #[.string ⟨#[]⟩,.int .i64 0,.string ⟨#[]⟩,.int .i64 0,.int .i64 0,.int .i64 0,.string ⟨#[]⟩,.string ⟨#[]⟩,.int .i64 0,.int .i64 0,.slice none 0 0] 73);have HZ0:=Lib.hid hZ0;have HB0:=Lib.hid hB0;have HA:=Lib.hid hA;clear hZ0 hB0 hA;go_enter Tryz.func119,Tryz.ntmps119;go_wp2_with fail;refine (HD1.out _ (HA.out.below HB0.out)).mono ?_;rintro e x1 ⟨v1,rfl,ho1,hb1⟩;obtain ⟨A1,c1,rfl,hs1,ha1⟩:=ho1.form;have hB1:=HB0.out.trans (hb1.mono HB0.out.size);have hB2:=hB1.alloc hB1.size (.cells #[.string (bs n0),.string (bs n1),.string (bs n2),.int .i64 n3,.int .i64 n4,.int .i64 n5,.int .i64 n6,.int .i64 n7,.int .u8 (n8.toNat:Int),.string (bs n9),.string (bs nA)] 152);have hZ2:=(HZ0.out.below hb1 HZ0.out.lt).alloc (.cells #[.string (bs n0),.string (bs n1),.string (bs n2),.int .i64 n3,.int .i64 n4,.int .i64 n5,.int .i64 n6,.int .i64 n7,.int .u8 (n8.toNat:Int),.string (bs n9),.string (bs nA)] 152);have hH2:=Blk.new x1 152 #[.string (bs n0),.string (bs n1),.string (bs n2),.int .i64 n3,.int .i64 n4,.int .i64 n5,.int .i64 n6,.int .i64 n7,.int .u8 (n8.toNat:Int),.string (bs n9),.string (bs nA)]
 have hO2:=ho1.alloc (.cells #[.string (bs n0),.string (bs n1),.string (bs n2),.int .i64 n3,.int .i64 n4,.int .i64 n5,.int .i64 n6,.int .i64 n7,.int .u8 (n8.toNat:Int),.string (bs n9),.string (bs nA)] 152);have hA2:=ha1.below ((Below.refl x1.heap.size x1).alloc (Nat.le_refl _) (.cells #[.string (bs n0),.string (bs n1),.string (bs n2),.int .i64 n3,.int .i64 n4,.int .i64 n5,.int .i64 n6,.int .i64 n7,.int .u8 (n8.toNat:Int),.string (bs n9),.string (bs nA)] 152));have hne2:w.heap.size<x1.heap.size:=(HZ0.out.below hb1 HZ0.out.lt).lt;go_upto_region 3 with fail
 generalize x1.alloc (.cells #[.string (bs n0),.string (bs n1),.string (bs n2),.int .i64 n3,.int .i64 n4,.int .i64 n5,.int .i64 n6,.int .i64 n7,.int .u8 (n8.toNat:Int),.string (bs n9),.string (bs nA)] 152)=x2 at hB2 hZ2 hH2 hO2 hA2⊢;generalize x1.heap.size=gH at hH2 hne2⊢;have HB2:=Lib.hid hB2;have HZ2:=Lib.hid hZ2;have HH2:=Lib.hid hH2;have HO2:=Lib.hid hO2;have HA2:=Lib.hid hA2;have HSO:=Lib.hid hs1;clear hA2 hs1 hb1 ho1 ha1 hB1 hB2 hZ2 hH2 hO2 HD1;have hmk:(Instr.makeMap 188 none).run Tryz.prog x2= .ok (.map (some x2.heap.size)) (x2.alloc (.map #[] 0)):=rfl;have hM3:=World.ownsMap_made (H:=Unit) x2 Tryz.prog 9 (plainElem Tryz.prog 9);have hB3:=HB2.out.alloc HB2.out.size (.map #[] 0);have hb23:=(Below.refl x2.heap.size x2).alloc (Nat.le_refl _) (.map #[] 0);have hZ3:=HZ2.out.below hb23 HZ2.out.lt;have hH3:=HH2.out.below hb23 HH2.out.lt;have hO3:=HO2.out.below hb23;have hA3:=HA2.out.below hb23;have hgm:w.heap.size≤x2.heap.size∧gH<x2.heap.size:=⟨HB2.out.size,HH2.out.lt⟩;go_upto_region 6 with fail
 generalize x2.alloc (.map #[] 0)=x3 at hM3 hB3 hZ3 hH3 hO3 hA3⊢;generalize x2.heap.size=gm at hM3 hgm⊢;have HM3:=Lib.hid hM3;have HB3:=Lib.hid hB3;have HZ3:=Lib.hid hZ3;have HH3:=Lib.hid hH3;have HO3:=Lib.hid hO3;have HA3:=Lib.hid hA3;have HGM:=Lib.hid hgm;clear hM3 hB3 hb23 hZ3 hH3 hO3 hA3 HB2 HZ2 HH2 HO2 HA2 hmk hgm;have q8:=HH3.out.cell 8;simp only [List.getElem?_toArray,List.getElem?_cons_succ,List.getElem?_cons_zero]at q8;have hcv:=HA3.out.conv c1 (fun e=>by subst e;exact HA3.out.none_nil);go_wp2_with fail;refine (HPx.out _ (S.tab.below HB3.out)).mono ?_;rintro e x4 ⟨A3,k3,c3,rfl,hk3,hr3,hb3⟩;have HB4:=Lib.hid (HB3.out.trans (hb3.mono HB3.out.size));have HZ4:=Lib.hid (HZ3.out.below hb3 HZ3.out.lt);have HH4:=Lib.hid (HH3.out.below hb3 HH3.out.lt);have HM4:=Lib.hid (qc1 HM3.out hb3);have HR4:=Lib.hid hr3;have HK3:=Lib.hid hk3;clear hb3 hcv q8 hr3 hk3 HB3 HZ3 HH3 HM3 HPx;go_wp2_with fail;refine (qi6 E3 _).mono ?_;rintro e x9 ⟨rfl,hb9⟩;have HB9:=Lib.hid ((HB4.out).trans (hb9.mono (HB4.out).size));obtain ⟨⟨z0,z1,z2,z3,z4,z5,z6,z7,z8,z9,zA⟩,y0,y1,y2,y3,y4,y5,y6,y7,y8,y9,yA⟩:=qaF ((HZ4.out).below hb9 (HZ4.out).lt);clear hb9;go_wp2_with fail;refine bodyPost_ret (v:= .tuple #[.agg #[.string ⟨#[]⟩,.int .i64 0,.string ⟨#[]⟩,.int .i64 0,.int .i64 0,.int .i64 0,.string ⟨#[]⟩,.string ⟨#[]⟩,.int .i64 0,.int .i64 0,.slice none 0 0],.int .i64 0,.int .i64 E3]) (by simp [results,Tryz.results119,go_sem, *]) rfl ?_;exact qf6 HF.out (qaL HB9.out (Nat.le_refl _) _ _ _ _ _ _ _ _ _ _ _)
theorem qpJ {w w':World} {p:Addr} {v:Value} {g:Nat} {es:Array MapEntry} {clock:Nat} (h:w.cell? p=some v) (hm:w.heap[g]?=some (.map es clock)) (hg:w.grownBy w' (some g)):w'.cell? p=some v:=by
 have hne:p.block≠g:=by
  intro e;unfold World.cell? at h;rw [e,hm]at h;simp at h
 have hl:=World.block_lt_of_cell? _ _ h;have hb:w'.heap[p.block]?=w.heap[p.block]?:=hg.block p.block hl (fun e=>hne (by injection e));unfold World.cell? at h⊢;rw [hb];exact h
theorem qoI {w w':World} {A:Option Addr} {l:List Rc} {g n:Nat} {P:Program} {k:TypeId} {R:Value→Option (DataW Unit×List MemPlace)} {D:DataW Unit} (h:qcV w A l) (hm:w.ownsMap P k R g n D) (hg:w.grownBy w' (some g)):qcV w' A l:=fun j hj=>by
 obtain ⟨es,clock,h1,-⟩:=hm;obtain ⟨b,o,e,c0,c1⟩:=h j hj;exact ⟨b,o,e,qpJ c0 h1 hg,qpJ c1 h1 hg⟩
theorem qmD (b:List UInt8): ∀r∈(paxR b).1,r.1.length≤60:=by
 by_cases h1:(qbV b).2=0
 ·by_cases h2:chkP (qbV b).1=0
  ·rw [qj1 (x:=(qbV b).1) (by rw [←h1]) h2];obtain ⟨a,-,c⟩:=qdY h2;exact fun r hr=>(qeW (c r hr)).2.1
  ·rw [qi2 (x:=(qbV b).1) (by rw [←h1]) h2];exact fun r hr=>(by cases hr)
 ·have:paxR b=([],(qbV b).2):=by unfold paxR;rw [if_pos h1]
  rw [this];exact fun r hr=>(by cases hr)
theorem qyX {P:Program} {k:TypeId} {R:Value→Option (DataW Unit×List MemPlace)} {W:World} {b n g:Nat} {D:DataW Unit} (h:W.ownsMap P k R b n D) (hb:b≠g) (v0 v1 v2 v3 v4 v5 v6 v7 v8 v9 v10:Value):World.ownsMap (((((((((((W.setCell ⟨g,0,none⟩ v0).setCell ⟨g,1,none⟩ v1).setCell ⟨g,2,none⟩ v2).setCell ⟨g,3,none⟩ v3).setCell ⟨g,4,none⟩ v4).setCell ⟨g,5,none⟩ v5).setCell ⟨g,6,none⟩ v6).setCell ⟨g,7,none⟩ v7).setCell ⟨g,8,none⟩ v8).setCell ⟨g,9,none⟩ v9).setCell ⟨g,10,none⟩ v10) P k R b n D:=
 qcX (qcX (qcX (qcX (qcX (qcX (qcX (qcX (qcX (qcX (qcX h ⟨g,0,none⟩ v0 hb) ⟨g,1,none⟩ v1 hb) ⟨g,2,none⟩ v2 hb) ⟨g,3,none⟩ v3 hb) ⟨g,4,none⟩ v4 hb) ⟨g,5,none⟩ v5 hb) ⟨g,6,none⟩ v6 hb) ⟨g,7,none⟩ v7 hb) ⟨g,8,none⟩ v8 hb) ⟨g,9,none⟩ v9 hb) ⟨g,10,none⟩ v10 hb
theorem key_s (K:List UInt8) (hK:K.length≤60):keyOf Tryz.prog 9 (.string (bs K))=some (.string K):=by
 have:=keyOf_string_mk (P:=Tryz.prog) Tryz.underlying9 (s:=bs K) (by rw [qaB];unfold maxLen;omega)
 rwa [qaH]at this
theorem val_s (V:List UInt8) (hV:V.length≤500):plainElem (H:=Unit) Tryz.prog 9 (.string (bs V))=some (.lit (.string V), []):=by
 have:=plainElem_string (H:=Unit) (P:=Tryz.prog) Tryz.underlying9 (s:=bs V) (by rw [qaB];unfold maxLen;omega)
 rwa [qaH]at this
set_option maxHeartbeats 8000000 in
theorem rMOf_3 (A:Option Addr) (n c:Nat) (l:List UInt8) (hn:l.length=n) (hn2:n≤140737488351232) (hc:SlOk A n c) (w:World) (S:Std w) (hA:qaE w A l) (h1:(qaC l).2=0) (h2:(qaC l).1.1.typ=120) (h3:(paxR (qaC l).1.2.1).2=0) (h4:(qaC (l.drop (qaC l).1.2.2)).2≠0):
  Calls Tryz.prog 119 #[.slice A n c] w fun e w'=> ∃D cc,e= .returned (.tuple #[.agg (entC (qaI l).1.1 D cc).toArray,.int .i64 ((qaI l).1.2:Nat),.int .i64 (qaI l).2])∧SlOk D (qaI l).1.1.data.length cc∧qaE w' D (qaI l).1.1.data∧OwnB w' w.heap.size (.slice D (qaI l).1.1.data.length cc) (qaI l).1.1.data∧Below w.heap.size w w':=by
 have hN1:=(qa1 h1).2.1;have hDn:=(qa1 h1).2.2;have hRv:=(qc0 (qaC l).1.2.1).1;have hRl:=(qc0 (qaC l).1.2.1).2;have hRk:=qmD (qaC l).1.2.1;have hNK:=qi1 (qaC l).1.2.1;have HF:Hid (qaI l=((entZ,0),(qaC (l.drop (qaC l).1.2.2)).2)):=by unfold Hid;rw [qfR (by rw [qe3 h1 h2 h3 h4];exact h4),qe3 h1 h2 h3 h4]
 have HD1:=Lib.hid fun W h=>qd2 A n c l hn hn2 hc W h;have hD2:=fun (N1:Nat) (h:N1≤n) W hA=>qd2 (cutA A c N1) (n-N1) (c-N1) (l.drop N1) (by rw [List.length_drop,hn]) (by omega) (hc.cut N1 (by omega) (n-N1) (by have:=hc.1;omega)) W hA;have hsf:=fun (N1:Nat) (h:N1≤n) W=>qbX W A n c N1 h;have HSm:=Lib.hid (qbI l);generalize hFM:qaC l=FM at*;obtain ⟨⟨⟨n0,n1,n2,n3,n4,n5,n6,n7,n8,n9,nA⟩,D1,N1⟩,E1⟩:=FM;simp only at HD1 HSm;unfold qaG at HD1;simp only at HD1;simp only at h1 h2 h3 h4 HF hDn hN1 hRv hRl hRk hNK;subst h1;have hty:((n8.toNat:Int)==120)=true:=by rw [h2];rfl
 have HPx:=Lib.hid fun W TW=>qjY (bs D1) W TW (by rw [qaB];omega);rw [qaH,h3]at HPx;have HD2:=Lib.hid fun W hA=>hD2 N1 (by omega) W hA;have hsf2:=hsf N1 (by omega);generalize hRS:(paxR D1).1=RS at*;have HC:=Lib.hid hc;have hRT: ∀r∈RS,r.1.length≤60∧r.2.length≤500:=fun r hr=>⟨hRk r hr,hRv r hr⟩;generalize qaC (l.drop N1)=FM2 at*;obtain ⟨⟨⟨m0,m1,m2,m3,m4,m5,m6,m7,m8,m9,mA⟩,D2,N2⟩,E2⟩:=FM2;simp only at HD2 h4 HF;unfold qaG at HD2;simp only at HD2;have hne:(E2 !=0)=true:=by simpa using h4
 clear h2 h3 h4 hFM hRS hD2 hsf hNK hRv hRk hDn;have hZ0:=Blk.new w 73 #[.string ⟨#[]⟩,.int .i64 0,.string ⟨#[]⟩,.int .i64 0,.int .i64 0,.int .i64 0,.string ⟨#[]⟩,.string ⟨#[]⟩,.int .i64 0,.int .i64 0,.slice none 0 0];have hB0:=(Below.refl w.heap.size w).alloc (Nat.le_refl _) (.cells #[.string ⟨#[]⟩,.int .i64 0,.string ⟨#[]⟩,.int .i64 0,.int .i64 0,.int .i64 0,.string ⟨#[]⟩,.string ⟨#[]⟩,.int .i64 0,.int .i64 0,.slice none 0 0] 73);have HZ0:=Lib.hid hZ0;have HB0:=Lib.hid hB0;have HA:=Lib.hid hA;clear hZ0 hB0 hA;go_enter Tryz.func119,Tryz.ntmps119;go_wp2_with fail;refine (HD1.out _ (HA.out.below HB0.out)).mono ?_;rintro e x1 ⟨v1,rfl,ho1,hb1⟩;obtain ⟨A1,c1,rfl,hs1,ha1⟩:=ho1.form;have hB1:=HB0.out.trans (hb1.mono HB0.out.size);have hB2:=hB1.alloc hB1.size (.cells #[.string (bs n0),.string (bs n1),.string (bs n2),.int .i64 n3,.int .i64 n4,.int .i64 n5,.int .i64 n6,.int .i64 n7,.int .u8 (n8.toNat:Int),.string (bs n9),.string (bs nA)] 152);have hZ2:=(HZ0.out.below hb1 HZ0.out.lt).alloc (.cells #[.string (bs n0),.string (bs n1),.string (bs n2),.int .i64 n3,.int .i64 n4,.int .i64 n5,.int .i64 n6,.int .i64 n7,.int .u8 (n8.toNat:Int),.string (bs n9),.string (bs nA)] 152);have hH2:=Blk.new x1 152 #[.string (bs n0),.string (bs n1),.string (bs n2),.int .i64 n3,.int .i64 n4,.int .i64 n5,.int .i64 n6,.int .i64 n7,.int .u8 (n8.toNat:Int),.string (bs n9),.string (bs nA)]
 have hO2:=ho1.alloc (.cells #[.string (bs n0),.string (bs n1),.string (bs n2),.int .i64 n3,.int .i64 n4,.int .i64 n5,.int .i64 n6,.int .i64 n7,.int .u8 (n8.toNat:Int),.string (bs n9),.string (bs nA)] 152);have hA2:=ha1.below ((Below.refl x1.heap.size x1).alloc (Nat.le_refl _) (.cells #[.string (bs n0),.string (bs n1),.string (bs n2),.int .i64 n3,.int .i64 n4,.int .i64 n5,.int .i64 n6,.int .i64 n7,.int .u8 (n8.toNat:Int),.string (bs n9),.string (bs nA)] 152));have hne2:w.heap.size<x1.heap.size:=(HZ0.out.below hb1 HZ0.out.lt).lt;go_upto_region 3 with fail
 generalize x1.alloc (.cells #[.string (bs n0),.string (bs n1),.string (bs n2),.int .i64 n3,.int .i64 n4,.int .i64 n5,.int .i64 n6,.int .i64 n7,.int .u8 (n8.toNat:Int),.string (bs n9),.string (bs nA)] 152)=x2 at hB2 hZ2 hH2 hO2 hA2⊢;generalize x1.heap.size=gH at hH2 hne2⊢;have HB2:=Lib.hid hB2;have HZ2:=Lib.hid hZ2;have HH2:=Lib.hid hH2;have HO2:=Lib.hid hO2;have HA2:=Lib.hid hA2;have HSO:=Lib.hid hs1;clear hA2 hs1 hb1 ho1 ha1 hB1 hB2 hZ2 hH2 hO2 HD1;have hmk:(Instr.makeMap 188 none).run Tryz.prog x2= .ok (.map (some x2.heap.size)) (x2.alloc (.map #[] 0)):=rfl;have hM3:=World.ownsMap_made (H:=Unit) x2 Tryz.prog 9 (plainElem Tryz.prog 9);have hB3:=HB2.out.alloc HB2.out.size (.map #[] 0);have hb23:=(Below.refl x2.heap.size x2).alloc (Nat.le_refl _) (.map #[] 0);have hZ3:=HZ2.out.below hb23 HZ2.out.lt;have hH3:=HH2.out.below hb23 HH2.out.lt;have hO3:=HO2.out.below hb23;have hA3:=HA2.out.below hb23;have hgm:w.heap.size≤x2.heap.size∧gH<x2.heap.size:=⟨HB2.out.size,HH2.out.lt⟩;go_upto_region 6 with fail
 generalize x2.alloc (.map #[] 0)=x3 at hM3 hB3 hZ3 hH3 hO3 hA3⊢;generalize x2.heap.size=gm at hM3 hgm⊢;have HM3:=Lib.hid hM3;have HB3:=Lib.hid hB3;have HZ3:=Lib.hid hZ3;have HH3:=Lib.hid hH3;have HO3:=Lib.hid hO3;have HA3:=Lib.hid hA3;have HGM:=Lib.hid hgm;have HWG:Hid (w.heap.size<gm):=Nat.lt_of_lt_of_le hne2 (Nat.le_of_lt hgm.2);clear hM3 hB3 hb23 hZ3 hH3 hO3 hA3 HB2 HZ2 HH2 HO2 HA2 hmk hgm;have q8:=HH3.out.cell 8;simp only [List.getElem?_toArray,List.getElem?_cons_succ,List.getElem?_cons_zero]at q8;have hcv:=HA3.out.conv c1 (fun e=>by subst e;exact HA3.out.none_nil);go_wp2_with fail;refine (HPx.out _ (S.tab.below HB3.out)).mono ?_;rintro e x4 ⟨A3,k3,c3,rfl,hk3,hr3,hb3⟩;have HB4:=Lib.hid (HB3.out.trans (hb3.mono HB3.out.size));have HZ4:=Lib.hid (HZ3.out.below hb3 HZ3.out.lt);have HH4:=Lib.hid (HH3.out.below hb3 HH3.out.lt);have HM4:=Lib.hid (qc1 HM3.out hb3);have HR4:=Lib.hid hr3;have HK3:=Lib.hid hk3;clear hb3 hcv q8 hr3 hk3 HB3 HZ3 HH3 HM3 HPx;have hk3b:k3≤1000000:=by have:=HK3.out;omega
 have HRT:=Lib.hid hRT;clear hRT;go_wp2_with fail
 go_loopw [60] (fun iv wr=> ∃i:Nat,i≤k3∧iv= .int .i64 i∧Hid (wr.ownsMap Tryz.prog 9 (plainElem Tryz.prog 9) gm i (qeT (RS.take i)))∧Hid (qcV wr A3 RS)∧Hid (Below gm x4 wr)) (fun iv _=>k3-(intOf iv).toNat)
 case atStart=>exact ⟨0,Nat.zero_le _,rfl,HM4.out,HR4.out,Below.refl _ _⟩
 case round=>
  obtain ⟨i,hi,rfl,HMi,HRi,HBi⟩:=hrel
  by_cases hlt:i<k3
  ·have i1:i<RS.length:=by rw [HK3.out];exact hlt
   obtain ⟨b,o,hAe,c0,c1⟩:=HRi.out i i1
   have HSt:Hid (qeT (RS.take (i+1))=(qeT (RS.take i)).put (.string (RS[i]).1) (.lit (.string (RS[i]).2))):=by
    unfold Hid;rw [List.take_succ_eq_append_getElem i1,qhK]
   obtain ⟨hk60,hv5⟩:=HRT.out RS[i] (List.getElem_mem i1);generalize RS[i]=r at c0 c1 HSt hk60 hv5;obtain ⟨K,V⟩:=r;simp only at c0 c1 HSt hk60 hv5;have hky:=key_s K hk60;have hvl:=val_s V hv5;have hgl:=qmO HMi.out;have hszi:=HBi.out.size;have hMb:=qc1 HMi.out ((Below.refl wr.heap.size wr).alloc (Nat.le_refl _) (.cells #[.string (bs K),.string (bs V)] 190));have hRb:=HRi.out.below ((Below.refl wr.heap.size wr).alloc (Nat.le_refl _) (.cells #[.string (bs K),.string (bs V)] 190));have hBb:=HBi.out.alloc (Nat.le_of_lt hgl) (.cells #[.string (bs K),.string (bs V)] 190);have HMb:=Lib.hid hMb;have HRb:=Lib.hid hRb;have HBb:=Lib.hid hBb;have HKY:=Lib.hid hky;have HVL:=Lib.hid hvl;have HGL:=Lib.hid hgl;subst hAe;clear hMb hRb hBb hky hvl hk60 hv5 hgl hszi;generalize bs K=KS at c0 HMb HRb HBb HKY;generalize bs V=VS at c1 HMb HRb HBb HVL;go_wp2_with (at_mapUpdate;refine Stay.go ?_);refine Stay.on ?_;refine wpList_mapUpdate_own _ rfl (.tmp 64) (.tmp 66) (.tmp 68) 188 rfl 9 9 (string_keyed Tryz.underlying9) Tryz.underlying188 (plainElem Tryz.prog 9) gm i _ rfl HMb.out (by unfold maxLen;omega) (.string KS) (.string VS) (.string K) rfl rfl HKY.out (.lit (.string V)) [] HVL.out ?_;intro w6 hM6 hg6;rw [←HSt.out]at hM6;have HM6:=Lib.hid hM6;have HR6:=Lib.hid (qoI HRb.out HMb.out hg6);have HB6:=Lib.hid (HBb.out.grown hg6 (Nat.le_trans (Nat.le_of_lt HGL.out) ((World.grownBy_alloc wr _ none).size)) (fun g e=>by injection e with e;exact Nat.le_of_eq e));clear hM6 hg6 c0 c1;go_wp2_with fail
   go_roundw
   case rel=>exact ⟨i+1,by omega,by go_num,HM6.out,HR6.out,HB6.out⟩
   case measure=>simp [intOf];omega
  ·obtain rfl:i=k3:=by omega
   have hM5:=HMi.out;rw [List.take_of_length_le (by rw [HK3.out];exact Nat.le_refl _)]at hM5;obtain ⟨x5,hx5⟩: ∃x5,x5=wr:=⟨_,rfl⟩;subst hx5;have HM5:=Lib.hid hM5;have hB5:=HBi.out;have HB5:=Lib.hid (HB4.out.trans (hB5.mono (Nat.le_of_lt (Nat.lt_of_le_of_lt HGM.out.1 (qmO HM4.out))|>fun h=>HGM.out.1)));have HZ5:=Lib.hid (HZ4.out.below hB5 HWG.out);have HH5:=Lib.hid (HH4.out.below hB5 HGM.out.2);clear hM5 hB5 HMi HRi HBi;go_wp2_with fail;refine (HD2.out _ ((HA.out.below HB5.out).cut (c:=c) (by have:=HC.out.1;omega) N1 (by omega))).mono ?_;rintro e x6 ⟨v4,rfl,ho4,hb4⟩;obtain ⟨A4,c4,rfl,hs4,ha4⟩:=ho4.form;have hH4:=HH5.out.below hb4 HH5.out.lt;have hZ4:=HZ5.out.below hb4 HZ5.out.lt;have hM4:=qc1 HM5.out hb4;have hB4:=HB5.out.trans (hb4.mono HB5.out.size);have hg3:gH<x5.heap.size:=HH5.out.lt;have hw3:w.heap.size<x5.heap.size:=HZ5.out.lt;obtain ⟨⟨q0,q1,q2,q3,q4,q5,q6,q7,q8,q9,qA⟩,f0,f1,f2,f3,f4,f5,f6,f7,f8,f9,fA⟩:=qaF hH4;have hB5:=qaL hB4 (Nat.le_of_lt hne2) (.string (bs m0)) (.string (bs m1)) (.string (bs m2)) (.int .i64 m3) (.int .i64 m4) (.int .i64 m5) (.int .i64 m6) (.int .i64 m7) (.int .u8 (m8.toNat:Int)) (.string (bs m9)) (.string (bs mA))
   have hZ5:Blk (((((((((((x6.setCell ⟨gH,0,none⟩ (.string (bs m0))).setCell ⟨gH,1,none⟩ (.string (bs m1))).setCell ⟨gH,2,none⟩ (.string (bs m2))).setCell ⟨gH,3,none⟩ (.int .i64 m3)).setCell ⟨gH,4,none⟩ (.int .i64 m4)).setCell ⟨gH,5,none⟩ (.int .i64 m5)).setCell ⟨gH,6,none⟩ (.int .i64 m6)).setCell ⟨gH,7,none⟩ (.int .i64 m7)).setCell ⟨gH,8,none⟩ (.int .u8 (m8.toNat:Int))).setCell ⟨gH,9,none⟩ (.string (bs m9))).setCell ⟨gH,10,none⟩ (.string (bs mA))) w.heap.size 73 #[.string ⟨#[]⟩,.int .i64 0,.string ⟨#[]⟩,.int .i64 0,.int .i64 0,.int .i64 0,.string ⟨#[]⟩,.string ⟨#[]⟩,.int .i64 0,.int .i64 0,.slice none 0 0]:=q6U hZ4 (Nat.ne_of_lt hne2) (.string (bs m0)) (.string (bs m1)) (.string (bs m2)) (.int .i64 m3) (.int .i64 m4) (.int .i64 m5) (.int .i64 m6) (.int .i64 m7) (.int .u8 (m8.toNat:Int)) (.string (bs m9)) (.string (bs mA));go_upto_region 17 with fail
   generalize (((((((((((x6.setCell ⟨gH,0,none⟩ (.string (bs m0))).setCell ⟨gH,1,none⟩ (.string (bs m1))).setCell ⟨gH,2,none⟩ (.string (bs m2))).setCell ⟨gH,3,none⟩ (.int .i64 m3)).setCell ⟨gH,4,none⟩ (.int .i64 m4)).setCell ⟨gH,5,none⟩ (.int .i64 m5)).setCell ⟨gH,6,none⟩ (.int .i64 m6)).setCell ⟨gH,7,none⟩ (.int .i64 m7)).setCell ⟨gH,8,none⟩ (.int .u8 (m8.toNat:Int))).setCell ⟨gH,9,none⟩ (.string (bs m9))).setCell ⟨gH,10,none⟩ (.string (bs mA)))=x7 at hB5 hZ5⊢;have HB7:=Lib.hid hB5;have HZ7:=Lib.hid hZ5;clear ho4 ha4 hs4 hb4 hH4 hZ4 hM4 hB4 hB5 hZ5 q0 q1 q2 q3 q4 q5 q6 q7 q8 q9 qA f0 f1 f2 f3 f4 f5 f6 f7 f8 f9 fA hsf2;go_wp2_with fail;refine (qi6 E2 _).mono ?_;rintro e x9 ⟨rfl,hb9⟩;have HB9:=Lib.hid ((HB7.out).trans (hb9.mono (HB7.out).size));obtain ⟨⟨z0,z1,z2,z3,z4,z5,z6,z7,z8,z9,zA⟩,y0,y1,y2,y3,y4,y5,y6,y7,y8,y9,yA⟩:=qaF ((HZ7.out).below hb9 (HZ7.out).lt);clear hb9;go_wp2_with fail;refine bodyPost_ret (v:= .tuple #[.agg #[.string ⟨#[]⟩,.int .i64 0,.string ⟨#[]⟩,.int .i64 0,.int .i64 0,.int .i64 0,.string ⟨#[]⟩,.string ⟨#[]⟩,.int .i64 0,.int .i64 0,.slice none 0 0],.int .i64 0,.int .i64 E2]) (by simp [results,Tryz.results119,go_sem, *]) rfl ?_;exact qf6 HF.out (qaL HB9.out (Nat.le_refl _) _ _ _ _ _ _ _ _ _ _ _)
end Go.Proofs.YtapgoifimhnbdaaGreatDoor
