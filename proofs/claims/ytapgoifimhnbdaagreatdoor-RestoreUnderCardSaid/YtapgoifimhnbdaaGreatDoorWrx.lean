/- qaX of one kind, in one file: Wrt, Wrs, Wrg. -/
import Derived.Test.YtapgoifimhnbdaaGreatDoorFld
import Derived.Test.YtapgoifimhnbdaaGreatDoorTrm
import Derived.Lib.Builder
import Derived.Lib.AppendStr
import Derived.Lib.UnsafeStr
import Derived.Lib.MakeNoZero
import Derived.Lib.Walk
import Derived.Laws.Externs
import Derived.Laws.IdiomCopy
import Derived.Shelf.RegionOpenPlain
import Derived.BigQuiet
import Derived.Deep.QuietTactic
set_option linter.unusedVariables false
set_option maxRecDepth 100000
namespace Go.Proofs.YtapgoifimhnbdaaGreatDoor
open Go.RowKit
open Go.OpenShut
def WrAt (B b:Nat) (p:Value) (er:Int) (l:List Value) (w:World):Prop:=
 B≤b∧ ∃v,w.heap[b]?=some (.cells #[p,v,.int .i64 er] 241 (0,0))∧w.ownsRow B 5 1 v l.length l∧v.ownBlock≠some b
def Wr (B b:Nat) (er:Int) (l:List Value) (w:World):Prop:=WrAt B b (.pointer none) er l w∨WrAt B b (.pointer (some ⟨b,0,none⟩)) er l w
theorem WrAt.lt {B b:Nat} {p:Value} {er:Int} {l:List Value} {w:World} (h:WrAt B b p er l w):b<w.heap.size:=by
 obtain ⟨_,v,hb,_⟩:=h;rcases Nat.lt_or_ge b w.heap.size with h'|h'
 ·exact h'
 ·simp [Array.getElem?_eq_none h']at hb
theorem WrAt.used {B b:Nat} {p:Value} {er:Int} {l:List Value} {w:World} (h:WrAt B b p er l w) (q:Value):WrAt B b q er l (w.setCell ⟨b,0,none⟩ q):=by
 obtain ⟨hB,v,hb,hown,hne⟩:=h;refine ⟨hB,v,?_,?_,hne⟩
 ·simp [World.setCell,Array.getElem?_modify,hb]
 ·refine hown.kept (row:=some b) ⟨rfl,rfl,rfl,by simp [World.setCell],fun k _ hk=>Below.heap_setCell _ _ _ _ (fun e=>hk (by simp [e]))⟩ ?_;exact Or.inr hne
theorem WrAt.erred {B b:Nat} {p:Value} {er:Int} {l:List Value} {w:World} (h:WrAt B b p er l w) (e2:Int):WrAt B b p e2 l (w.setCell ⟨b,2,none⟩ (.int .i64 e2)):=by
 obtain ⟨hB,v,hb,hown,hne⟩:=h;refine ⟨hB,v,?_,?_,hne⟩
 ·simp [World.setCell,Array.getElem?_modify,hb]
 ·refine hown.kept (row:=some b) ⟨rfl,rfl,rfl,by simp [World.setCell],fun k _ hk=>Below.heap_setCell _ _ _ _ (fun e=>hk (by simp [e]))⟩ ?_;exact Or.inr hne
theorem wr_ne {w:World} {B:Nat} {v:Value} {n:Nat} {xs:List Value} {b:Nat} {cs:Array Value} {fr:Nat×Nat} (hown:w.ownsRow B 5 1 v n xs) (hb:w.heap[b]?=some (.cells cs 241 fr)):v.ownBlock≠some b:=
 Lib.ownBlock_ne hown hb (by decide)
theorem WrAt.put {B b:Nat} {p v v':Value} {er:Int} {l:List Value} {w:World} (hB:B≤b) (hb:w.heap[b]?=some (.cells #[p,v,.int .i64 er] 241 (0,0))) (hown:w.ownsRow B 5 1 v' l.length l):
  WrAt B b p er l (w.setCell ⟨b,1,none⟩ v'):=by
 have hne:=wr_ne hown hb;refine ⟨hB,v',?_,?_,hne⟩
 ·simp [World.setCell,Array.getElem?_modify,hb]
 ·exact hown.kept (row:=some b) ⟨rfl,rfl,rfl,by simp [World.setCell],fun k _ hk=>Below.heap_setCell _ _ _ _ (fun e=>hk (by simp [e]))⟩ (Or.inr hne)
theorem WrAt.drew {B b:Nat} {p:Value} {er:Int} {l:List Value} {w:World} (h:WrAt B b p er l w):WrAt B b p er l w.drew:=h
theorem WrAt.drewN {B b:Nat} {p:Value} {er:Int} {l:List Value} {w:World} (h:WrAt B b p er l w) (n:Nat):WrAt B b p er l (w.drewN n):=h
def Oth (w w':World):Prop:= ∀(k:Nat) (cs:Array Value) (fr:Nat×Nat),w.heap[k]?=some (Obj.cells cs 152 fr)→w'.heap[k]?=some (Obj.cells cs 152 fr)
theorem Oth.refl (w:World):Oth w w:=fun _ _ _ h=>h
theorem Oth.trans {a b c:World} (h:Oth a b) (h2:Oth b c):Oth a c:=fun k cs fr e=>h2 k cs fr (h k cs fr e)
theorem Oth.setCell {w:World} {b i:Nat} {v:Value} {cs:Array Value} {fr:Nat×Nat} (hb:w.heap[b]?=some (.cells cs 241 fr)):Oth w (w.setCell ⟨b,i,none⟩ v):=by
 intro k c f e;rw [Below.heap_setCell _ _ _ _ (fun e2=>by subst e2;rw [hb]at e;injection e with e;injection e with _ e _;exact absurd e (by decide))];exact e
theorem Oth.alloc (w:World) (o:Obj):Oth w (w.alloc o):=by
 intro k c f e
 have hk:k<w.heap.size:=by
  rcases Nat.lt_or_ge k w.heap.size with h'|h'
  ·exact h'
  ·rw [Array.getElem?_eq_none h']at e;cases e
 rw [Lib.alloc_old w _ k hk];exact e
theorem Oth.of {w w':World} {B:Nat} {v:Value} {n:Nat} {xs:List Value} (hown:w.ownsRow B 5 1 v n xs) (h: ∀k,k<w.heap.size→some k≠v.ownBlock→w'.heap[k]?=w.heap[k]?):Oth w w':=by
 intro k c f e
 have hk:k<w.heap.size:=by
  rcases Nat.lt_or_ge k w.heap.size with h'|h'
  ·exact h'
  ·rw [Array.getElem?_eq_none h']at e;cases e
 rw [h k hk (fun e2=>Lib.ownBlock_ne hown e (by decide) e2.symm)];exact e
theorem Oth.below {w w':World} (hb:Below w.heap.size w w'):Oth w w':=by
 intro k c f e
 have hk:k<w.heap.size:=by
  rcases Nat.lt_or_ge k w.heap.size with h'|h'
  ·exact h'
  ·rw [Array.getElem?_eq_none h']at e;cases e
 rw [hb.block k hk];exact e
def Bel (B:Nat) (w w':World):Prop:=Below B w w'∧Oth w w'
theorem Bel.trans {B:Nat} {a b c:World} (h:Bel B a b) (h2:Bel B b c):Bel B a c:=⟨h.1.trans h2.1,h.2.trans h2.2⟩
theorem Bel.of {B:Nat} {w w':World} (hb:Below w.heap.size w w') (hB:B≤w.heap.size):Bel B w w':=⟨hb.mono hB,Oth.below hb⟩
theorem q37:(Tryz.prog.info? 114).map (·.size)=some 2:=by kernel_rfl
theorem qv3 (b:Nat) (w:World) (h0:w.cell? ⟨b,0,none⟩=some (.pointer (some ⟨b,0,none⟩))):
  Calls Tryz.prog 138 #[.pointer (some ⟨b,0,none⟩)] w fun e w'=>e= .returned (.tuple #[])∧w'=w:=by
 obtain ⟨j,hj,_⟩:=Option.map_eq_some_iff.1 q37;go_enter Tryz.func138,Tryz.ntmps138;go_wp2;rw [Lib.run_neq_ptr_same w _ Tryz.underlying112 hj];go_wp2
 go_end0
 exact ⟨rfl,rfl⟩
theorem qk1 (b:Nat) (w:World) (h0:w.cell? ⟨b,0,none⟩=some (.pointer none)) (hsh:w.shape? b=some (241,3)) (hfz:w.frozen? ⟨b,0,none⟩=false):
  Calls Tryz.prog 138 #[.pointer (some ⟨b,0,none⟩)] w fun e w'=>e= .returned (.tuple #[])∧w'=w.setCell ⟨b,0,none⟩ (.pointer (some ⟨b,0,none⟩)):=by
 obtain ⟨j,hj,hjs⟩:=Option.map_eq_some_iff.1 q37;go_enter Tryz.func138,Tryz.ntmps138;go_wp2;rw [Lib.run_to_unsafe w ⟨b,0,none⟩ Tryz.underlying112 Tryz.underlying206 hj (by rw [hjs];decide) hsh (Nat.zero_lt_succ 2)];simp only [Result.andThen];rw [Oper.upon_value];go_wp2;rw [run_callFunc_extern Tryz.func190 (by kernel_rfl) (by kernel_rfl) (by kernel_rfl) (e:=Extern.AbiNoEscape.same) (by kernel_rfl)];rw [Lib.run_noEscape];simp only [Result.andThen];rw [Oper.upon_value];go_wp2;rw [Lib.run_from_unsafe w ⟨b,0,none⟩ Tryz.underlying206 Tryz.underlying112 hj hsh (by kernel_rfl)];simp only [Result.andThen];rw [Oper.upon_value];go_wp2
 go_end0
 exact ⟨rfl,rfl⟩
theorem zdO (B b:Nat) (er:Int) (l:List Value) (w:World) (h:Wr B b er l w):
  Calls Tryz.prog 138 #[.pointer (some ⟨b,0,none⟩)] w fun e w'=>e= .returned (.tuple #[])∧(WrAt B b (.pointer (some ⟨b,0,none⟩)) er l w'∧Bel B w w'):=by
 rcases h with h|h
 ·have h':=h;obtain ⟨hB,v,hbk,-⟩:=h';refine (qk1 b w (by rw [Lib.cell_of_heap hbk];rfl) (by simp [World.shape?,hbk]) (Lib.frozen_of_heap hbk 0)).mono ?_;rintro e w' ⟨rfl,rfl⟩;exact ⟨rfl,h.used _,(Below.refl B w).setCell (p:=⟨b,0,none⟩) hB _,Oth.setCell hbk⟩
 ·have h':=h;obtain ⟨hB,v,hbk,-⟩:=h';refine (qv3 b w (by rw [Lib.cell_of_heap hbk];rfl)).mono ?_;rintro e w' ⟨rfl,rfl⟩;exact ⟨rfl,h,Below.refl B _,Oth.refl _⟩
set_option maxHeartbeats 2000000 in
theorem zdN (B b:Nat) (er:Int) (bs:List Value) (s:ByteArray) (w:World) (h:Wr B b er bs w) (hlen:bs.length+s.size≤140737488355328) (hBw:B≤w.heap.size):
  Calls Tryz.prog 93 #[.pointer (some ⟨b,0,none⟩),.string s] w fun e w'=>e= .returned (.tuple #[.int .i64 s.size,.nilIface])∧(WrAt B b (.pointer (some ⟨b,0,none⟩)) er (bs++Lib.strCells s) w'∧Bel B w w'):=by
 obtain ⟨i0,hi,hz0,hz1,hz2⟩:=info_parts qr9;go_enter Tryz.func93,Tryz.ntmps93;go_wp2_with fail;refine (zdO B b er bs _ h).mono ?_;rintro e w1 ⟨rfl,h1,hb1,ho1⟩;obtain ⟨hB,v,hbk,hown,hne⟩:=h1;have c0:w1.cell? ⟨b,0,none⟩=some (.pointer (some ⟨b,0,none⟩)):=by rw [Lib.cell_of_heap hbk];rfl
 have c1:w1.cell? ⟨b,1,none⟩=some v:=by rw [Lib.cell_of_heap hbk];rfl
 go_wp2_with (at_builtin;refine Lib.wpList_append_own_string _ rfl _ _ 22 9 rfl B 5 i0 Tryz.underlying22 Tryz.underlying9 hi hz0 hz1 hz2 _ _ _ rfl hown s rfl ?c3 ?c4 ?c5 ?_)
 case c3=>unfold maxLen;omega
 case c4=>omega
 case c5=>have:=hb1.size;omega
 intro v' w2 hown' hgrow _
 have hlt:b<w1.heap.size:=by
  rcases Nat.lt_or_ge b w1.heap.size with h'|h'
  ·exact h'
  ·simp [Array.getElem?_eq_none h']at hbk
 have hb2:w2.heap[b]?=some (.cells #[.pointer (some ⟨b,0,none⟩),v,.int .i64 er] 241 (0,0)):=by
  rw [hgrow.block b hlt (fun e=>hne e.symm)];exact hbk
 have d0:w2.cell? ⟨b,0,none⟩=some (.pointer (some ⟨b,0,none⟩)):=by rw [Lib.cell_of_heap hb2];rfl
 have d1:w2.cell? ⟨b,1,none⟩=some v:=by rw [Lib.cell_of_heap hb2];rfl
 have f1:w2.frozen? ⟨b,1,none⟩=false:=Lib.frozen_of_heap hb2 1
 obtain ⟨ao,n',cap,rfl⟩: ∃ao n' cap,v'= .slice ao n' cap:=by
  rcases hown'.2 with ⟨hv,_⟩|⟨g,cap,cur,hv,_⟩
  ·exact ⟨_,_,_,hv⟩
  ·exact ⟨_,_,_,hv⟩
 go_wp2;go_ret2;refine ⟨rfl,?_,?_⟩
 ·exact WrAt.put hB hb2 (l:=bs++Lib.strCells s) (by simpa [Lib.strCells_length]using hown')
 ·exact ⟨(hb1.grown hgrow (by have:=hb1.size;omega) (fun k hk=>(hown.lt k hk).1)).setCell (p:=⟨b,1,none⟩) hB _,(ho1.trans (Oth.of hown fun k hk hne2=>hgrow.block k hk hne2)).trans (Oth.setCell hb2)⟩
set_option maxHeartbeats 2000000 in
theorem wByte (B b:Nat) (er:Int) (bs:List Value) (c:Int) (w:World) (h:Wr B b er bs w) (hlen:bs.length+1≤140737488355328) (hBw:B≤w.heap.size):
  Calls Tryz.prog 279 #[.pointer (some ⟨b,0,none⟩),.int .u8 c] w fun e w'=>e= .returned .nilIface∧(WrAt B b (.pointer (some ⟨b,0,none⟩)) er (bs++ [.int .u8 c]) w'∧Bel B w w'):=by
 obtain ⟨i0,hi,hz0,hz1,hz2⟩:=info_parts qr9;go_enter Tryz.func279,Tryz.ntmps279;go_wp2_with fail;refine (zdO B b er bs _ h).mono ?_;rintro e w1 ⟨rfl,h1,hb1,ho1⟩;obtain ⟨hB,v,hbk,hown,hne⟩:=h1;have c0:w1.cell? ⟨b,0,none⟩=some (.pointer (some ⟨b,0,none⟩)):=by rw [Lib.cell_of_heap hbk];rfl
 have c1:w1.cell? ⟨b,1,none⟩=some v:=by rw [Lib.cell_of_heap hbk];rfl
 go_wp2_with (at_builtin;refine wpList_append_own _ rfl _ _ 22 rfl B 5 i0 (.int .u8 0) 1 1 Tryz.underlying22 hi hz0 hz1 hz2 rfl (by decide) _ _ _ rfl (hown.alloc _) ⟨w1.heap.size,0,none⟩ 1 1 [.int .u8 c] rfl rfl ?c1 ?c2 ?c3 ?c4 ?c5 ?_)
 case c1=>
  intro j u hj
  match j,hj with
  |0,hj=>simp at hj;subst hj;simp [Addr.add]
 case c2=>intro u hu;simp at hu;subst hu;rfl
 case c3=>unfold maxLen;omega
 case c4=>omega
 case c5=>have:=hb1.size;simp;omega
 intro v' w2 hown' hgrow _
 have hlt:b<w1.heap.size:=by
  rcases Nat.lt_or_ge b w1.heap.size with h'|h'
  ·exact h'
  ·simp [Array.getElem?_eq_none h']at hbk
 have hb2:w2.heap[b]?=some (.cells #[.pointer (some ⟨b,0,none⟩),v,.int .i64 er] 241 (0,0)):=by
  rw [hgrow.block b (by simp;omega) (fun e=>hne e.symm),Lib.alloc_old w1 _ b hlt];exact hbk
 have d0:w2.cell? ⟨b,0,none⟩=some (.pointer (some ⟨b,0,none⟩)):=by rw [Lib.cell_of_heap hb2];rfl
 have d1:w2.cell? ⟨b,1,none⟩=some v:=by rw [Lib.cell_of_heap hb2];rfl
 have f1:w2.frozen? ⟨b,1,none⟩=false:=Lib.frozen_of_heap hb2 1
 obtain ⟨g,cap,rfl⟩: ∃g cap,v'= .slice (some ⟨g,0,none⟩) (bs.length+1) cap:=by
  rcases hown'.2 with ⟨_,h0⟩|⟨g,cap,cur,hv,_⟩
  ·omega
  ·exact ⟨g,cap,hv⟩
 go_wp2;go_ret;refine ⟨rfl,?_,?_⟩
 ·exact WrAt.put hB hb2 (l:=bs++ [.int .u8 c]) (by simpa using hown')
 ·exact ⟨((hb1.alloc (by have:=hb1.size;omega) _).grown hgrow (by have:=hb1.size;simp;omega) (fun k hk=>(hown.lt k hk).1)).setCell (p:=⟨b,1,none⟩) hB _,((ho1.trans (Oth.alloc _ _)).trans (Oth.of (hown.alloc _) fun k hk hne2=>hgrow.block k hk hne2)).trans (Oth.setCell hb2)⟩
set_option maxHeartbeats 2000000 in
theorem qs4 (B b:Nat) (er:Int) (l:List UInt8) (w:World) (h:Wr B b er (Lib.byteCells l) w) (h0:l≠ []):
  Calls Tryz.prog 95 #[.pointer (some ⟨b,0,none⟩)] w fun e w'=>e= .returned (.string ⟨l.toArray⟩)∧Below B w w':=by
 obtain ⟨p,hB,v,hbk,hown,hne⟩: ∃p,WrAt B b p er (Lib.byteCells l) w:=by
  rcases h with h|h
  ·exact ⟨_,h⟩
  ·exact ⟨_,h⟩
 have hl0:l.length≠0:=by simpa using h0
 rw [Lib.byteCells_length]at hown
 obtain ⟨g,cap,cur,rfl,hbg,hg,hnc,hcm,hcs,htake⟩: ∃g cap cur,v= .slice (some ⟨g,0,none⟩) l.length cap∧B≤g∧w.heap[g]?=some (.cells cur 5 (0,0))∧l.length≤cap∧cap≤maxLen∧cur.size=cap*1∧cur.toList.take (l.length*1)=Lib.byteCells l:=by
  rcases hown.2 with ⟨_,hz⟩|⟨g,cap,cur,hv,r⟩
  ·exact absurd hz hl0
  ·exact ⟨g,cap,cur,hv,r⟩
 have c1:w.drew.cell? ⟨b,1,none⟩=some (.slice (some ⟨g,0,none⟩) l.length cap):=by
  have:w.drew.heap[b]?=some (.cells #[p,.slice (some ⟨g,0,none⟩) l.length cap,.int .i64 er] 241 (0,0)):=hbk;rw [Lib.cell_of_heap this];rfl
 have hSD:(Builtin.unsafeSliceData_ #[22] 161 #[.slice (some ⟨g,0,none⟩) l.length cap]).run Tryz.prog w.drew= .ok (.pointer (some ⟨g,0,none⟩)) w.drew:=
  Lib.run_unsafeSliceData_row _ _ _ _ _ _ (by omega)
 have hUS:(Builtin.unsafeString_ #[161,3] 9 #[.pointer (some ⟨g,0,none⟩),.int .i64 l.length]).run Tryz.prog w.drew= .ok (.string ⟨l.toArray⟩) (w.drew.freeze ⟨g,0,none⟩ l.length):=by
  refine Lib.run_unsafeString_row w.drew 161 3 9 5 Tryz.underlying161 (by kernel_rfl) g cur.size (by have hg':w.drew.heap[g]?=some (.cells cur 5 (0,0)):=hg;simp [World.shape?,hg']) l h0 (by omega) (by unfold maxLen at hcm;omega) ?_;intro j x hx;have:=hown.cells (g:=g) rfl j (.int .u8 x.toNat) (by simp [Lib.byteCells,hx]);exact this
 go_enter Tryz.func95,Tryz.ntmps95;go_wp2;have mixed:Tryz.prog.follows .mixedOrders=true:=by kernel_rfl
 go_region_o
 all_goals (go_wp2;go_ret;exact ⟨rfl,Lib.below_freeze (Below.drew (Below.refl B w)) (p:=⟨g,0,none⟩) hbg _⟩)
set_option maxHeartbeats 2000000 in
theorem qvZ (B b n:Nat) (er:Int) (w:World) (hB:B≤b) (hbk:w.heap[b]?=some (.cells #[.pointer (some ⟨b,0,none⟩),.slice none 0 0,.int .i64 er] 241 (0,0))) (hBw:B≤w.heap.size) (hn:n≤281474976710656):
  Calls Tryz.prog 139 #[.pointer (some ⟨b,0,none⟩),.int .i64 n] w fun e w'=>e= .returned (.tuple #[])∧(WrAt B b (.pointer (some ⟨b,0,none⟩)) er [] w'∧Bel B w w'):=by
 obtain ⟨cs,hrun,hle,hmax⟩:=Lib.run_makeNoZero (P:=Tryz.prog) w.drew #[3] 22 5 Tryz.underlying22 n hn
 have hw:IntKind.i64.wrap (IntKind.i64.wrap 0+(n:Int))=n:=by
  rw [IntKind.wrap_i64,IntKind.wrap_i64];omega
 have hcall:(callFunc 191 #[.int .i64 (IntKind.i64.wrap (IntKind.i64.wrap 0+(n:Int)))]).run Tryz.prog w.drew= .ok (.value (.slice (some ⟨w.drew.heap.size,0,none⟩) n cs.size)) (w.drew.drew.drew.alloc (.cells cs 5)):=by
  rw [hw,run_callFunc_extern Tryz.func191 (by kernel_rfl) (by kernel_rfl) (by kernel_rfl) (e:=Extern.BytealgMakeNoZero.makeNoZero #[3] #[22]) (by kernel_rfl),hrun]
  rfl
 have hlt:b<w.heap.size:=by
  rcases Nat.lt_or_ge b w.heap.size with h'|h'
  ·exact h'
  ·simp [Array.getElem?_eq_none h']at hbk
 have c1:w.drew.cell? ⟨b,1,none⟩=some (.slice none 0 0):=by
  have:w.drew.heap[b]?=_:=hbk;rw [Lib.cell_of_heap this];rfl
 have c2:(w.alloc (.cells cs 5)).cell? ⟨b,1,none⟩=some (.slice none 0 0):=by
  have:(w.alloc (.cells cs 5)).heap[b]?=_:=(Lib.alloc_old w _ b hlt).trans hbk;rw [Lib.cell_of_heap this];rfl
 have f2:(w.alloc (.cells cs 5)).frozen? ⟨b,1,none⟩=false:=Lib.frozen_of_heap ((Lib.alloc_old w _ b hlt).trans hbk) 1
 have hcopy: ∀W:World,(Builtin.copy_ #[22,22] 3 #[.slice (some ⟨w.heap.size,0,none⟩) 0 cs.size,.slice none 0 0]).run Tryz.prog W= .ok (goInt 0) W:=
  fun W=>run_copy_none W 22 22 3 5 _ _ 0 cs.size 0 0 Tryz.underlying22 (by kernel_rfl) rfl
 clear hw;go_enter Tryz.func139,Tryz.ntmps139;go_wp2;have hb9:(w.alloc (.cells cs 5)).heap[b]?=some (.cells #[.pointer (some ⟨b,0,none⟩),.slice none 0 0,.int .i64 er] 241 (0,0)):=(Lib.alloc_old w _ b hlt).trans hbk
 have hfin:WrAt B b (.pointer (some ⟨b,0,none⟩)) er [] ((w.alloc (.cells cs 5)).setCell ⟨b,1,none⟩ (.slice (some ⟨w.heap.size,0,none⟩) 0 cs.size)).drew.drew.drew∧
   Bel B w ((w.alloc (.cells cs 5)).setCell ⟨b,1,none⟩ (.slice (some ⟨w.heap.size,0,none⟩) 0 cs.size)).drew.drew.drew:=by
  have hb2:(w.alloc (.cells cs 5)).heap[b]?=some (.cells #[.pointer (some ⟨b,0,none⟩),.slice none 0 0,.int .i64 er] 241 (0,0)):=(Lib.alloc_old w _ b hlt).trans hbk
  have hown:(w.alloc (.cells cs 5)).ownsRow B 5 1 (.slice (some ⟨w.heap.size,0,none⟩) 0 cs.size) ([]:List Value).length []:=
   ⟨rfl,.inr ⟨w.heap.size,cs.size,cs,rfl,hBw,heap_alloc_new w _,Nat.zero_le _,hmax (by unfold maxLen;omega),by simp,by simp⟩⟩
  exact ⟨(WrAt.put hB hb2 hown).drew.drew.drew,((((Below.refl B w).alloc hBw _).setCell (p:=⟨b,1,none⟩) hB _).drew).drew.drew,(Oth.alloc w _).trans (Oth.setCell hb9)⟩
 rw [World.setCell_alloc_past _ _ _ _ hlt]at hfin;have mixed:Tryz.prog.follows .mixedOrders=true:=by kernel_rfl
 go_region_o
 all_goals (go_wp2;go_end0;exact ⟨rfl,hfin⟩)
set_option maxHeartbeats 2000000 in
theorem wGrow (B b n:Nat) (er:Int) (w:World) (hB:B≤b) (hbk:w.heap[b]?=some (.cells #[.pointer none,.slice none 0 0,.int .i64 er] 241 (0,0))) (hBw:B≤w.heap.size) (hn:n≤281474976710656):
  Calls Tryz.prog 92 #[.pointer (some ⟨b,0,none⟩),.int .i64 n] w fun e w'=>e= .returned (.tuple #[])∧(WrAt B b (.pointer (some ⟨b,0,none⟩)) er [] w'∧Bel B w w'):=by
 have hbk1:(w.setCell ⟨b,0,none⟩ (.pointer (some ⟨b,0,none⟩))).heap[b]?=some (.cells #[.pointer (some ⟨b,0,none⟩),.slice none 0 0,.int .i64 er] 241 (0,0)):=by
  simp [World.setCell,Array.getElem?_modify,hbk]
 have c1:(w.setCell ⟨b,0,none⟩ (.pointer (some ⟨b,0,none⟩))).cell? ⟨b,1,none⟩=some (.slice none 0 0):=by rw [Lib.cell_of_heap hbk1];rfl
 have hb1:Below B w (w.setCell ⟨b,0,none⟩ (.pointer (some ⟨b,0,none⟩))):=(Below.refl B w).setCell (p:=⟨b,0,none⟩) hB _;have ho1:Oth w (w.setCell ⟨b,0,none⟩ (.pointer (some ⟨b,0,none⟩))):=Oth.setCell hbk;have hU:WrAt B b (.pointer (some ⟨b,0,none⟩)) er [] (w.setCell ⟨b,0,none⟩ (.pointer (some ⟨b,0,none⟩))):=⟨hB,.slice none 0 0,hbk1,World.ownsRow_nil _ _ _ _,by simp [Value.ownBlock]⟩;have c1':(w.setCell ⟨b,0,none⟩ (.pointer (some ⟨b,0,none⟩))).drew.cell? ⟨b,1,none⟩=some (.slice none 0 0):=c1;have HG:=Lib.hid (fun k:Nat=>qvZ B b n er ((w.setCell ⟨b,0,none⟩ (.pointer (some ⟨b,0,none⟩))).drewN k) hB hbk1 (by simpa [World.setCell,World.drewN]using hBw) hn);go_enter Tryz.func92,Tryz.ntmps92;go_wp2_with fail;refine (qk1 b w (by rw [Lib.cell_of_heap hbk];rfl) (by simp [World.shape?,hbk]) (Lib.frozen_of_heap hbk 0)).mono ?_;rintro e w' ⟨rfl,rfl⟩;go_wp2_with fail;go_quiet (fail);go_wp2_with fail
 all_goals first
  |(go_end0;exact ⟨rfl,hU.drewN _,below_drewN hb1 _,ho1⟩)
  |(refine (HG.out _).mono ?_;rintro e w' ⟨rfl,h1,h2⟩;go_wp2_with fail;go_end0;exact ⟨rfl,h1,(below_drewN hb1 _).trans h2.1,fun k cs fr e=>h2.2 k cs fr (ho1 k cs fr e)⟩)
end Go.Proofs.YtapgoifimhnbdaaGreatDoor
