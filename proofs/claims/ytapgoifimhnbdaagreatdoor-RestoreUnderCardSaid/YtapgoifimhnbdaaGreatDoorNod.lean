/- qaX of one kind, in one file: NodC, NodD, NodE, NodF, NodG, NodH, Nsz. -/
import Derived.Test.YtapgoifimhnbdaaGreatDoorNoa
import Derived.Test.YtapgoifimhnbdaaGreatDoorMth
import Derived.Test.YtapgoifimhnbdaaGreatDoorPts
import Derived.Laws.StructEq
import Derived.Deep.DeepCutAuto
import Derived.Deep.RegionHeld3
import Derived.Deep.QuietTactic
import Derived.BigQuiet
set_option linter.unusedVariables false
set_option maxRecDepth 100000
namespace Go.Proofs.YtapgoifimhnbdaaGreatDoor
open Go.RowKit
open Go.OpenShut
def NodeV.sz (x:NodeV):Prop:=(x.path.length≤140737488351232∧x.target.length≤140737488351232∧x.data.length≤140737488351232)∧x.md.sz
theorem qoF {l:List UInt8} :((bs l).toList== [])=decide (l= []):=by
 rw [ByteArray.toList_eq,Bool.eq_iff_iff,beq_iff_eq,decide_eq_true_eq];exact Iff.rfl
theorem qoG {a b:List UInt8} :((bs a).toList==(bs b).toList)=decide (a=b):=by
 rw [qo9,Bool.eq_iff_iff,decide_eq_true_eq,decide_eq_true_eq];exact ⟨fun e=>congrArg (fun s:ByteArray=>s.data.toList) e,fun e=>by rw [e]⟩
theorem qaJ.cells {w:World} {A:Option Addr} {l:List NodeV} (h:qaJ w A l) (j:Nat) (hj:j<l.length): ∃(b o:Nat) (D:Option Addr) (c:Nat),A=some ⟨b,o,none⟩∧
  w.cell? ⟨b,o+j*12,none⟩=some (.string (bs l[j].path))∧w.cell? ⟨b,o+j*12+1,none⟩=some (.int .i64 l[j].kind)∧w.cell? ⟨b,o+j*12+2,none⟩=some (.int .i64 l[j].same)∧w.cell? ⟨b,o+j*12+3,none⟩=some (.string (bs l[j].target))∧
  (w.cell? ⟨b,o+j*12+4,none⟩=some (.int .i64 l[j].md.mode)∧w.cell? ⟨b,o+j*12+5,none⟩=some (.int .i64 l[j].md.uid)∧w.cell? ⟨b,o+j*12+6,none⟩=some (.int .i64 l[j].md.gid)∧w.cell? ⟨b,o+j*12+7,none⟩=some (.string (bs l[j].md.user))∧w.cell? ⟨b,o+j*12+8,none⟩=some (.string (bs l[j].md.group))∧w.cell? ⟨b,o+j*12+9,none⟩=some (.int .i64 l[j].md.second)∧w.cell? ⟨b,o+j*12+10,none⟩=some (.int .i64 l[j].md.nano))∧
  w.cell? ⟨b,o+j*12+11,none⟩=some (.slice D l[j].data.length c)∧SlOk D l[j].data.length c∧qaE w D l[j].data:=by
 obtain ⟨b,o,D,c,e,h12,hs,hd⟩:=h j hj;exact ⟨b,o,D,c,e,h12 0 (by omega),h12 1 (by omega),h12 2 (by omega),h12 3 (by omega),⟨h12 4 (by omega),h12 5 (by omega),h12 6 (by omega),h12 7 (by omega),h12 8 (by omega),h12 9 (by omega),h12 10 (by omega)⟩,h12 11 (by omega),hs,hd⟩
theorem qaJ.take {w:World} {A:Option Addr} {l:List NodeV} (h:qaJ w A l) (k:Nat):qaJ w A (l.take k):=fun j hj=>by
 have hj':j<l.length:=by rw [List.length_take]at hj;omega
 have:=h j hj'
 rwa [List.getElem_take]
def metB (a b:MetaV):Bool:=decide (a=b)
theorem q5P (a b:MetaV):metB a b=((a.mode==b.mode) &&((a.uid==b.uid) &&((a.gid==b.gid) &&(((bs a.user).toList==(bs b.user).toList) &&(((bs a.group).toList==(bs b.group).toList) &&((a.second==b.second) &&(a.nano==b.nano))))))):=by
 unfold metB;rw [qoG,qoG,Bool.eq_iff_iff,decide_eq_true_eq,←MetaV.ext_iff'];simp only [Bool.and_eq_true,beq_iff_eq,decide_eq_true_eq]
theorem qy1 (a b:MetaV): ∀W:World,(binOp .eql 47 (.agg (metA a)) (.agg (metA b))).run Tryz.prog W= .ok (.bool (metB a b)) W:=by
 intro W;rw [q5P];obtain ⟨a0,a1,a2,a3,a4,a5,a6⟩:=a;obtain ⟨b0,b1,b2,b3,b4,b5,b6⟩:=b;unfold metA;simp only
 go_simp
 generalize (bs a3).toList=u3;generalize (bs b3).toList=v3;generalize (bs a4).toList=u4;generalize (bs b4).toList=v4
 by_cases h0:a0=b0
 ·by_cases h1:a1=b1
  ·by_cases h2:a2=b2
   ·by_cases h3:u3=v3
    ·by_cases h4:u4=v4
     ·by_cases h5:a5=b5
      ·by_cases h6:a6=b6
       ·simp [h0,h1,h2,h3,h4,h5,h6]
       ·simp [h0,h1,h2,h3,h4,h5,h6]
      ·simp [h0,h1,h2,h3,h4,h5]
     ·simp [h0,h1,h2,h3,h4]
    ·simp [h0,h1,h2,h3]
   ·simp [h0,h1,h2]
  ·simp [h0,h1]
 ·simp [h0]
theorem qy0 (a b:MetaV): ∀W:World,(binOp .neq 47 (.agg (metA a)) (.agg (metA b))).run Tryz.prog W= .ok (.bool (!metB a b)) W:=by
 intro W;rw [q5P];obtain ⟨a0,a1,a2,a3,a4,a5,a6⟩:=a;obtain ⟨b0,b1,b2,b3,b4,b5,b6⟩:=b;unfold metA;simp only
 go_simp
 generalize (bs a3).toList=u3;generalize (bs b3).toList=v3;generalize (bs a4).toList=u4;generalize (bs b4).toList=v4
 by_cases h0:a0=b0
 ·by_cases h1:a1=b1
  ·by_cases h2:a2=b2
   ·by_cases h3:u3=v3
    ·by_cases h4:u4=v4
     ·by_cases h5:a5=b5
      ·by_cases h6:a6=b6
       ·simp [h0,h1,h2,h3,h4,h5,h6]
       ·simp [h0,h1,h2,h3,h4,h5,h6]
      ·simp [h0,h1,h2,h3,h4,h5]
     ·simp [h0,h1,h2,h3,h4]
    ·simp [h0,h1,h2,h3]
   ·simp [h0,h1,h2]
  ·simp [h0,h1]
 ·simp [h0]
def nodA (x:NodeV) (D:Option Addr) (c:Nat):Array Value:= #[.string (bs x.path),.int .i64 x.kind,.int .i64 x.same,.string (bs x.target),.int .i64 x.md.mode,.int .i64 x.md.uid,.int .i64 x.md.gid,.string (bs x.md.user),.string (bs x.md.group),.int .i64 x.md.second,.int .i64 x.md.nano,.slice D x.data.length c]
def RdS (w wr:World) (g:Nat) (x:NodeV) (D:Option Addr) (c:Nat) (W:World):Prop:=Blk W g 49 (nodA x D c)∧Below wr.heap.size wr W
theorem RdS.below {w wr W W':World} {g:Nat} {x:NodeV} {D:Option Addr} {c:Nat} (h:RdS w wr g x D c W) (hb:Below W.heap.size W W'):RdS w wr g x D c W':=⟨h.1.below hb h.1.lt,h.2.trans (hb.mono h.2.size)⟩
theorem RdS.drew {w wr W:World} {g:Nat} {x:NodeV} {D:Option Addr} {c:Nat} (h:RdS w wr g x D c W):RdS w wr g x D c W.drew:=⟨h.1.drew_,h.2.drew⟩
theorem RdS.drewN {w wr W:World} {g:Nat} {x:NodeV} {D:Option Addr} {c:Nat} (h:RdS w wr g x D c W) (q:Nat):RdS w wr g x D c (W.drewN q):=⟨h.1.drewN q,below_drewN h.2 q⟩
def RdP (w wr:World) (g:Nat) (x:NodeV) (D:Option Addr) (c b q:Nat) (P:ByteArray) (W:World):Prop:=RdS w wr g x D c W∧W.cell? ⟨b,q,none⟩=some (.string P)
theorem RdP.below {w wr W W':World} {g:Nat} {x:NodeV} {D:Option Addr} {c b q:Nat} {P:ByteArray} (h:RdP w wr g x D c b q P W) (hb:Below W.heap.size W W'):RdP w wr g x D c b q P W':=
 ⟨h.1.below hb,(hb.cell (p:=⟨b,q,none⟩) (World.block_lt_of_cell? W _ h.2)).trans h.2⟩
theorem RdP.drew {w wr W:World} {g:Nat} {x:NodeV} {D:Option Addr} {c b q:Nat} {P:ByteArray} (h:RdP w wr g x D c b q P W):RdP w wr g x D c b q P W.drew:=⟨h.1.drew,h.2⟩
theorem qaE.convD {w:World} {A:Option Addr} {l:List UInt8} (h:qaE w A l) (c:Nat) (hn:A=none→l= []): ∀q,(convert 22 9 (.slice A l.length c)).run Tryz.prog (w.drewN q)= .ok (.string (bs l)) (w.drewN q):=fun q=>qaE.conv (w:=w.drewN q) h c hn
theorem qe1 {n:NodeV} (h:nodE n=0):n.path.length≤400:=by
 by_cases hp:qa6 n.path=0
 ·unfold qa6 at hp
  split at hp
  ·exact absurd hp (by decide)
  ·omega
 ·rw [qgV hp]at h;exact absurd h hp
theorem zcW {t:List NodeV} {n:NodeV} (h:nodE n≠0):atE t n=nodE n:=if_pos h
theorem q8F {t:List NodeV} {n:NodeV} (h:nodE n=0) (x:NodeV) (hl:t.getLast?=some x) (h2:pcmp x.path n.path≠ -1):atE t n=6:=by
 unfold atE;rw [if_neg (by simp [h]),hl];simp only;rw [if_pos (by simp [h2])]
theorem atE_up {t:List NodeV} {n:NodeV} (h:nodE n=0) (hl: ∀x,t.getLast?=some x→pcmp x.path n.path= -1) (hu:upOk t n.path=false):atE t n=10:=by
 unfold atE;rw [if_neg (by simp [h]),if_neg,if_pos hu];cases e:t.getLast? with
 |none=>simp
 |some x=>simp [hl x e]
theorem zcX {t:List NodeV} {n:NodeV} (h:nodE n=0) (hl: ∀x,t.getLast?=some x→pcmp x.path n.path= -1) (hu:upOk t n.path=true) (hk:qdG t n=true):atE t n=11:=by
 unfold atE;rw [if_neg (by simp [h]),if_neg,if_neg (by simp [hu]),if_pos hk];cases e:t.getLast? with
 |none=>simp
 |some x=>simp [hl x e]
theorem q54 (l:List NodeV) (k:Nat) (hk:k<l.length) (x:NodeV):(l.take k).getLast?=some x↔ ∃h:0<k,l[k-1]=x:=by
 cases k with
 |zero=>simp
 |succ k=>
  rw [List.take_succ_eq_append_getElem (by omega),List.getLast?_append];simp
end Go.Proofs.YtapgoifimhnbdaaGreatDoor
namespace Go.Proofs.YtapgoifimhnbdaaGreatDoor
open Go.RowKit
theorem qiF {x:NodeV} (h:nodE x=0):x.sz:=by
 have hp:=qe1 h
 have h1:qa6 x.path=0:=by
  by_cases e:qa6 x.path=0
  ·exact e
  ·rw [qgV e]at h;exact absurd h e
 have h2:metE x.md=0:=by
  by_cases e:metE x.md=0
  ·exact e
  ·rw [qnD h1 e]at h;exact absurd h e
 rw [qeP h1 h2]at h
 have h3:x.md.user.length≤60∧x.md.group.length≤60:=by
  unfold metE at h2
  split at h2
  ·split at h2
   ·cases h2
   ·omega
  ·cases h2
 have h4:x.target.length≤400∧x.data.length≤2000:=by
  unfold nodK at h
  split at h
  ·split at h
   ·cases h
   ·rename_i hn
    split at h
    ·cases h
    ·have ht:x.target= []:=by
      rcases Classical.em (x.target= [])with e|e
      ·exact e
      ·exact absurd (.inl e) hn
     rw [ht];simp;omega
  ·split at h
   ·split at h
    ·cases h
    ·rename_i hn
     split at h
     ·cases h
     ·have ht:x.data= []:=by
       rcases Classical.em (x.data= [])with e|e
       ·exact e
       ·exact absurd (.inl e) hn
      rw [ht];simp;omega
   ·cases h
 unfold NodeV.sz MetaV.sz;omega
end Go.Proofs.YtapgoifimhnbdaaGreatDoor
