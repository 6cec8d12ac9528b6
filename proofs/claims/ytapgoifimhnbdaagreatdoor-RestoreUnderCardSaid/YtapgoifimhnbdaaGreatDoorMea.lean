/- qaX of one kind, in one file: MemA, HedA, MemB. -/
import Derived.Test.YtapgoifimhnbdaaGreatDoorMth
import Derived.Test.YtapgoifimhnbdaaGreatDoorEna
import Derived.Test.YtapgoifimhnbdaaGreatDoorStp
import Derived.Test.YtapgoifimhnbdaaGreatDoorCut
import Derived.Test.YtapgoifimhnbdaaGreatDoorPxa
import Derived.StillTailTactics
import Derived.Deep.DeepCutAuto
import Derived.Test.YtapgoifimhnbdaaGreatDoorArb
set_option linter.unusedVariables false
set_option maxRecDepth 100000
namespace Go.Proofs.YtapgoifimhnbdaaGreatDoor
open Go.RowKit
open Go.OpenShut
theorem q2U {w:World} {ops:Array Oper} {rest:List Oper} {o:Oper} {a:Act} {Q:Exit→Act→World→Prop} (hgd:o.guard=none) (s x:Operand)
  (ho:o.op= .call {callee:= .builtin .append,args:= #[s,x],argTypes:= #[145,145] }) (B:Nat) (v:Value) (l:List Rc) (hs:a.eval s=v) (hown:Own w B v l.length l)
  (g c:Nat) (r:Rc) (hx:a.eval x= .slice (some ⟨g,0,none⟩) 1 c) (hc:Blk w g 190 #[.string (bs r.1),.string (bs r.2)]) (hbig:l.length≤1000000) (hB:B≤w.heap.size)
  (h: ∀v' w',Own w' B v' (l++ [r]).length (l++ [r])→w.grownBy w' v.ownBlock→wpList Tryz.prog ops Q rest (a.put o.dst v') w'):wpList Tryz.prog ops Q (o::rest) a w:=by
 obtain ⟨i0,hi,hz0,hz1,hz2⟩:=info_parts qy6;refine wpList_append_own _ hgd s x 145 ho B 190 i0 _ 2 32 Tryz.underlying145 hi hz0 hz1 hz2 rfl (by decide) v _ _ hs hown.2 ⟨g,0,none⟩ 1 c [.string (bs r.1),.string (bs r.2)] hx rfl (fun j q hq=> ?_) (fun q hq=> ?_) (by unfold maxLen;omega) (by omega) hB ?_
 ·rw [Addr.add_lit,Nat.zero_add,hc.cell j,List.getElem?_toArray];exact hq
 ·simp only [List.mem_cons,List.not_mem_nil,or_false]at hq;rcases hq with rfl|rfl<;>rfl
 ·intro v6 w6 hown6 hgrow _;refine h v6 w6 ⟨rfl,?_⟩ hgrow;rw [qyT,qyR,List.length_append];exact hown6
def Ad (u:World) (mc:Array Value) (L:List Rc) (w:World):Prop:=
 (∃v,Blk w u.heap.size 145 #[v]∧Own w (u.heap.size+1) v L.length L)∧Blk w (u.heap.size+1) 47 mc∧Below u.heap.size u w
theorem Ad.below {u w w':World} {mc:Array Value} {L:List Rc} (h:Ad u mc L w) (hb:Below w.heap.size w w'):Ad u mc L w':=by
 obtain ⟨⟨v,h1,h2⟩,h3,h5⟩:=h;exact ⟨⟨v,h1.below hb h1.lt,h2.below hb⟩,h3.below hb h3.lt,h5.trans (hb.mono (Nat.le_of_lt h1.lt))⟩
theorem Ad.drew_ {u w:World} {mc:Array Value} {L:List Rc} (h:Ad u mc L w):Ad u mc L w.drew:=h.below (Below.refl _ _).drew
theorem Ad.tab {u w:World} {mc:Array Value} {L:List Rc} (h:Ad u mc L w) (T:Tab u):Tab w:=T.below h.2.2
theorem Ad.blk {u w:World} {mc cs:Array Value} {L:List Rc} {b t:Nat} (h:Ad u mc L w) (hb:Blk u b t cs):Blk w b t cs:=hb.below h.2.2 hb.lt
theorem Ad.new {u:World} {mc:Array Value} :Ad u mc [] ((u.alloc (.cells #[.slice none 0 0] 145)).alloc (.cells mc 47)):=by
 have h1:=Blk.new u 145 #[.slice none 0 0];have h2:=Blk.new (u.alloc (.cells #[.slice none 0 0] 145)) 47 mc;rw [hszA]at h2;exact ⟨⟨_,h1.alloc _,⟨rfl,World.ownsRow_nil _ _ _ _⟩⟩,h2,((Below.refl _ _).alloc (Nat.le_refl _) _).alloc (by rw [hszA];exact Nat.le_succ _) _⟩
def AdX (u:World) (mc:Array Value) (w:World):Prop:= ∃L,Ad u mc L w
theorem Ad.x {u w:World} {mc:Array Value} {L:List Rc} (h:Ad u mc L w):AdX u mc w:=⟨L,h⟩
theorem AdX.drew_ {u w:World} {mc:Array Value} (h:AdX u mc w):AdX u mc w.drew:=by obtain ⟨L,h⟩:=h;exact ⟨L,h.drew_⟩
theorem AdX.below {u w w':World} {mc:Array Value} (h:AdX u mc w) (hb:Below w.heap.size w w'):AdX u mc w':=by obtain ⟨L,h⟩:=h;exact ⟨L,h.below hb⟩
theorem Own.mono {w:World} {B B':Nat} {v:Value} {n:Nat} {l:List Rc} (h:Own w B v n l) (hB:B'≤B):Own w B' v n l:=⟨h.1,qhN h.2 hB⟩
theorem qeZ (b:Bool) (k v:List UInt8):(qbB b k v).length≤1:=by rw [q4R];split<;>omega
theorem qqL {L:List Rc} {n:Nat} (h:L.length≤n) (b:Bool) (k v:List UInt8):(L++qbB b k v).length≤n+1:=by rw [List.length_append];have:=qeZ b k v;omega
end Go.Proofs.YtapgoifimhnbdaaGreatDoor
namespace Go.Proofs.YtapgoifimhnbdaaGreatDoor
open Go.RowKit
open Go.OpenShut
open Go.ChangeShapes Go.WideShapes Go.Deep
def qaN (h:HeadV):Array Value:= #[.string (bs h.name),.string (bs h.pre),.string (bs h.link),.int .i64 h.mode,.int .i64 h.uid,.int .i64 h.gid,.int .i64 h.size,.int .i64 h.time,.int .u8 (h.typ.toNat:Int),.string (bs h.user),.string (bs h.group)]
def HeadV.wf (h:HeadV):Prop:=(h.name.length≤140737488351232∧h.pre.length≤140737488351232∧h.link.length≤140737488351232∧h.user.length≤140737488351232∧h.group.length≤140737488351232)∧
 (Lit.int .i64 h.mode).wf=true∧(Lit.int .i64 h.uid).wf=true∧(Lit.int .i64 h.gid).wf=true∧(Lit.int .i64 h.size).wf=true∧(Lit.int .i64 h.time).wf=true
section
variable {H:Type} {enc:TypeId×Value→H} {w:World} {base:Nat} {spare:Nat→Bool} {held:Bool}
end
end Go.Proofs.YtapgoifimhnbdaaGreatDoor
namespace Go.Proofs.YtapgoifimhnbdaaGreatDoor
open Go.RowKit
open Go.OpenShut
def hdR (h:HeadV) (r:Rc):HeadV:=
 if r.1=kGid then {h with gid:=0} else if r.1=qaY then {h with group:= [] } else if r.1=qbM then {h with link:=qfO} else if r.1=qaW then {h with time:=0}
 else if r.1=qbF then {h with name:=qfO} else if r.1=kUid then {h with uid:=0} else if r.1=qaZ then {h with user:= [] } else h
theorem q6L (h:HeadV) (v:List UInt8):hdR h (kGid,v)= {h with gid:=0} :=if_pos rfl
theorem quR (h:HeadV) (v:List UInt8):hdR h (qaY,v)= {h with group:= [] } :=by rw [hdR,if_neg (by show¬qaY=kGid;decide),if_pos rfl]
theorem qzC (h:HeadV) (v:List UInt8):hdR h (qbM,v)= {h with link:=qfO} :=by rw [hdR,if_neg (by show¬qbM=kGid;decide),if_neg (by show¬qbM=qaY;decide),if_pos rfl]
theorem quQ (h:HeadV) (v:List UInt8):hdR h (qaW,v)= {h with time:=0} :=by
 rw [hdR,if_neg (by show¬qaW=kGid;decide),if_neg (by show¬qaW=qaY;decide),if_neg (by show¬qaW=qbM;decide),if_pos rfl]
theorem qzB (h:HeadV) (v:List UInt8):hdR h (qbF,v)= {h with name:=qfO} :=by
 rw [hdR,if_neg (by show¬qbF=kGid;decide),if_neg (by show¬qbF=qaY;decide),if_neg (by show¬qbF=qbM;decide),if_neg (by show¬qbF=qaW;decide),if_pos rfl]
theorem q6J (h:HeadV) (v:List UInt8):hdR h (kUid,v)= {h with uid:=0} :=by
 rw [hdR,if_neg (by show¬kUid=kGid;decide),if_neg (by show¬kUid=qaY;decide),if_neg (by show¬kUid=qbM;decide),if_neg (by show¬kUid=qaW;decide),if_neg (by show¬kUid=qbF;decide),if_pos rfl]
theorem quP (h:HeadV) (v:List UInt8):hdR h (qaZ,v)= {h with user:= [] } :=by
 rw [hdR,if_neg (by show¬qaZ=kGid;decide),if_neg (by show¬qaZ=qaY;decide),if_neg (by show¬qaZ=qbM;decide),if_neg (by show¬qaZ=qaW;decide),if_neg (by show¬qaZ=qbF;decide),if_neg (by show¬qaZ=kUid;decide),if_pos rfl]
theorem zb7 (b:Bool) (h:HeadV) (v:List UInt8):(qbB b kGid v).foldl hdR h= {h with gid:=if b=true then 0 else h.gid} :=by
 unfold qbB;cases b
 ·rfl
 ·exact q6L h v
theorem q18 (b:Bool) (h:HeadV) (v:List UInt8):(qbB b qaY v).foldl hdR h= {h with group:=if b=true then []else h.group} :=by
 unfold qbB;cases b
 ·rfl
 ·exact quR h v
theorem q60 (b:Bool) (h:HeadV) (v:List UInt8):(qbB b qbM v).foldl hdR h= {h with link:=if b=true then qfO else h.link} :=by
 unfold qbB;cases b
 ·rfl
 ·exact qzC h v
theorem q17 (b:Bool) (h:HeadV) (v:List UInt8):(qbB b qaW v).foldl hdR h= {h with time:=if b=true then 0 else h.time} :=by
 unfold qbB;cases b
 ·rfl
 ·exact quQ h v
theorem q6Z (b:Bool) (h:HeadV) (v:List UInt8):(qbB b qbF v).foldl hdR h= {h with name:=if b=true then qfO else h.name} :=by
 unfold qbB;cases b
 ·rfl
 ·exact qzB h v
theorem zb6 (b:Bool) (h:HeadV) (v:List UInt8):(qbB b kUid v).foldl hdR h= {h with uid:=if b=true then 0 else h.uid} :=by
 unfold qbB;cases b
 ·rfl
 ·exact q6J h v
theorem q16 (b:Bool) (h:HeadV) (v:List UInt8):(qbB b qaZ v).foldl hdR h= {h with user:=if b=true then []else h.user} :=by
 unfold qbB;cases b
 ·rfl
 ·exact quP h v
def q6I (x:EntV):HeadV:= {name:=(cutV x.path).2.1,pre:=(cutV x.path).1,link:=x.target,mode:=x.md.mode,uid:=x.md.uid,gid:=x.md.gid,size:=x.data.length,time:=x.md.second,typ:=typM x.kind,user:=x.md.user,group:=x.md.group}
theorem zbZ (x:EntV):(qa1 x).foldl hdR (q6I x)=qb9 x:=by
 unfold qa1;simp only [List.foldl_append,zb7,q18,q60,q17,q6Z,zb6,q16];unfold qb9 q6I;simp only [decide_eq_true_eq]
def q58:List (List UInt8):= [kGid,qaY,qbM,qaW,qbF,kUid,qaZ]
theorem qd0 {b:Bool} {k v:List UInt8} {r:Rc} (h:r∈qbB b k v):r.1=k:=by
 unfold qbB at h
 split at h
 ·simp at h;rw [h]
 ·cases h
theorem q98 {x:EntV} {r:Rc} (h:r∈qa1 x):r.1∈q58:=by
 unfold qa1 at h;simp only [List.mem_append]at h;unfold q58;simp only [List.mem_cons,List.not_mem_nil,or_false];rcases h with h|h|h|h|h|h|h
 ·exact .inl (qd0 h)
 ·exact .inr (.inl (qd0 h))
 ·exact .inr (.inr (.inl (qd0 h)))
 ·exact .inr (.inr (.inr (.inl (qd0 h))))
 ·exact .inr (.inr (.inr (.inr (.inl (qd0 h)))))
 ·exact .inr (.inr (.inr (.inr (.inr (.inl (qd0 h))))))
 ·exact .inr (.inr (.inr (.inr (.inr (.inr (qd0 h))))))
theorem qq9 (x:EntV):(qa1 x).length≤7:=by
 unfold qa1;simp only [List.length_append];have h1:=qeZ (decide (2097152≤x.md.gid)) kGid (Lib.itoa x.md.gid);have h2:=qeZ (decide (31<x.md.group.length)) qaY x.md.group;have h3:=qeZ (decide (100<x.target.length)) qbM x.target;have h4:=qeZ (qnH x) qaW (qe8 x.md.second x.md.nano).1.data.toList;have h5:=qeZ (decide ((cutV x.path).2.2≠0)) qbF x.path;have h6:=qeZ (decide (2097152≤x.md.uid)) kUid (Lib.itoa x.md.uid);have h7:=qeZ (decide (31<x.md.user.length)) qaZ x.md.user;omega
def recO (x:EntV):List Rc:=if entE x=0 then qa1 x else []
end Go.Proofs.YtapgoifimhnbdaaGreatDoor
