/- For every input the call of creel/creelkeep.RestoreUnder returns true, and every argument reads afterwards as it read before. The package variables that the row lists hold what the program text lays. -/
import Derived.Test.YtapgoifimhnbdaaGreatDoorRows
import Derived.Test.YtapgoifimhnbdaaGreatDoorCards
import Derived.Test.YtapgoifimhnbdaaGreatDoorTie
import Derived.SevenTiedAt
import Derived.WalkKit
import Derived.ProofKit
import Derived.OpenShut
import Derived.ShutString
import Derived.ChangeOld
import Derived.Below
import Derived.SizedLaws
import Derived.LaidMore
import Derived.Lay
import Derived.Stop.Joined
import Derived.Deep.DeepHandedRow
import Derived.Test.YtapgoifimhnbdaaGreatDoorRsu
import Derived.Carry
import Derived.Test.YtapgoifimhnbdaaGreatDoorBas
namespace Go.Proofs.YtapgoifimhnbdaaGreatDoor.restoreUnder
open Go.ChangeShapes Go.WideShapes Go.ChangeAt Go.RowKit
open Go.ChangeMaps (open_string shut_string)
set_option linter.unusedVariables false
theorem qkK:laidOutB Tryz.prog=true:=by kernel_rfl
theorem own:ownKnob Tryz.prog.godebug=none:=by kernel_rfl
set_option maxRecDepth 100000 in
theorem qhR (H:Type) (enc:TypeId×Value→H) (W:World) (base:Nat) (args:Array Value) (ds gs:List (DataW H)) (before:List MemPlace)
  (hval0: ∀(j:Nat) t v,Tryz.f8.params[j]?=some t→args[j]?=some v→Value.okWide Tryz.prog W .any base t v)
  (hW:DataW.Whole enc Tryz.prog Tryz.f8.params.toList Rows.restoreUnderSpec.vars false W args.toList ds gs before)
  (hsz0:(DataW.weightsEach Tryz.prog (Tryz.f8.params.toList++Rows.restoreUnderSpec.plain.varTypes Tryz.prog) (ds++gs)).all (· ≤reachBytes)=true)
  (hLd:laidMetH Tryz.prog Rows.restoreUnderRow.laid W)
  (hshape:W.ShapedOpen Tryz.prog):
  Calls Tryz.prog 8 args W fun e W'=> ∃v,e= .returned v∧Rows.restoreUnderSpec.post enc Tryz.prog Tryz.f8 false true false false W args v W':=by
 have hval: ∀(j:Nat) t v,Tryz.f8.params[j]?=some t→args[j]?=some v→Value.okWide Tryz.prog W .any base t v:=hval0;have hW':=hW;obtain ⟨p,q,hA0,hV,rfl,hfz,hnd⟩:=hW;have hA:DataW.TrodAll enc Tryz.prog W 0 (fun _=>true) true Tryz.f8.params.toList args.toList ds p:=hA0;have hsz:=hsz0;rw [Tryz.params8]at hA hval hsz;obtain ⟨v0,vs0,d0,ds0,p0,q0,hargs,rfl,rfl,h0,t0⟩:=trodAll_cons hA;obtain ⟨v1,vs1,d1,ds1,p1,q1,rfl,rfl,rfl,h1,t1⟩:=trodAll_cons t0;obtain ⟨rfl,rfl,rfl⟩:=trodAll_nil t1;obtain rfl:args= #[v0,v1]:=by cases args;simp_all
 obtain ⟨rfl,rfl⟩:=trodVars_none hV;have hk0:=h0;have hwt0: ∀x∈d0.weights Tryz.prog 33,x≤reachBytes:=fun x hx=>of_decide_eq_true (List.all_eq_true.1 hsz x (DataW.weights_mem_each (j:=0) (t:=33) rfl rfl x hx));obtain ⟨A0,n0,c0,rs0,rfl,hn0,hm0,hf0,hr0⟩:=qi7 (okWide_slice Tryz.underlying33 (hval 0 33 v0 rfl rfl)) h0 hwt0;have hk1:=h1;have hwt1: ∀x∈d1.weights Tryz.prog 33,x≤reachBytes:=fun x hx=>of_decide_eq_true (List.all_eq_true.1 hsz x (DataW.weights_mem_each (j:=1) (t:=33) rfl rfl x hx));obtain ⟨A1,n1,c1,rs1,rfl,hn1,hm1,hf1,hr1⟩:=qi7 (okWide_slice Tryz.underlying33 (hval 1 33 v1 rfl rfl)) h1 hwt1;clear hA0 hval0 hsz0;simp only [List.append_nil]at hW' hsz;refine (qkZ A0 n0 c0 rs0 A1 n1 c1 rs1 hn0 (by omega) hf0 hn1 (by omega) hf1 W hr0 hr1 hLd).mono fun e W' ⟨he,hg⟩=> ?_;subst he;exact ⟨_,rfl,_,_,_, [],_, [],hW',(trodAll_cons_mk (shut_bool Tryz.underlying4 _) trodAll_mk0),(trodAll_cons_mk (Below.trod qkK (by kernel_rfl) (of_decide_eq_true (by kernel_rfl)) hk0 hg (fun x hx=>by obtain ⟨n,h⟩:=hk0;exact DataW.trod_lt n _ _ _ h x hx)) (trodAll_cons_mk (Below.trod qkK (by kernel_rfl) (of_decide_eq_true (by kernel_rfl)) hk1 hg (fun x hx=>by obtain ⟨n,h⟩:=hk1;exact DataW.trod_lt n _ _ _ h x hx)) trodAll_mk0)),rfl,hg.frame _,fun h=>by cases h⟩
set_option maxRecDepth 100000 in
theorem reads (os:Os) {H:Type} (enc:TypeId×Value→H): ∃places,DataW.whole enc Tryz.prog ((World.laidAll Tryz.prog os Rows.restoreUnderRow.laid).forCall (fun _ _=>0) ⟨#[], #[.slice none 0 0,.slice none 0 0], []⟩).memory Tryz.f8.params.toList Rows.restoreUnderSpec.vars false (#[.slice none 0 0,.slice none 0 0]:Array Value).toList 8=some ([.nil,.nil], [],places):=
 ⟨[],by kernel_rfl⟩
set_option maxRecDepth 100000 in
theorem quG (os:Os) (started:os.Started) (H:Type) (enc:TypeId×Value→H) (F:Stop.Interp):
  ReturnsInHanded {} Tryz.checked os 8 .any ((OpenSpec.ofChange Rows.restoreUnderSpec).preRow enc Tryz.prog Tryz.f8 Rows.restoreUnderRow.domain false Rows.restoreUnderRow.laid) (((OpenSpec.ofChange Rows.restoreUnderSpec).at F).post enc Tryz.prog Tryz.f8 false true false false):=by
 obtain ⟨places,hx⟩:=reads os enc;have hok:Input.okWideB Tryz.checked.prog ((World.laidAll Tryz.prog os Rows.restoreUnderRow.laid).forCall (fun _ _=>0) ⟨#[], #[.slice none 0 0,.slice none 0 0], []⟩) 8 ⟨#[], #[.slice none 0 0,.slice none 0 0], []⟩=true:=by kernel_rfl
 refine returnsInHanded_of_row (C:=Tryz.checked) (s:=(OpenSpec.ofChange Rows.restoreUnderSpec)) own started (by kernel_rfl) Tryz.func8
  ⟨(World.laidAll Tryz.prog os Rows.restoreUnderRow.laid),fun _ _=>0,⟨#[], #[.slice none 0 0,.slice none 0 0], []⟩,World.laidAll_os _ _ _,World.shaped_of_ZipB (by kernel_rfl) (by kernel_rfl),(Input.okWide_of_okWideB (base:=0) hok).1,(Input.okWide_of_okWideB hok).2,
   OpenSpec.preRow_of_cond 8 hx (by kernel_rfl) (fun k hk=>by cases hk) (by kernel_rfl) (by rw [MakeChecks.laidMetH_plain _ _ _ (by kernel_rfl)];exact laidMet_laidAll _ (by kernel_rfl) (by kernel_rfl)),by
    simp only [Assume.holds]
    exact ⟨by simp,by simp,fun _=>Modest.zero,by simp,by simp⟩⟩ ?_
 intro W base args ds gs before hval hW _ hk hsz hL hshape _;exact qhR H enc W base args ds gs before hval hW hsz hL hshape
theorem qiZ:Tryz.pinned.checked.prog.funcNamed Rows.restoreUnderRow.func=some 8:=by kernel_rfl
set_option maxHeartbeats 4000000 in
theorem qgN:joinedFacts Tryz.pinned.checked.prog 8 Tryz.f8 (OpenSpec.ofChange Rows.restoreUnderSpec).bare Rows.restoreUnderRow=true:=by
 unfold joinedFacts;simp only [Bool.and_eq_true]
 repeat' apply And.intro
 all_goals (as_aux_lemma=>kernel_rfl)
theorem said:Rows.RestoreUnderSaid:=
 OpenClaim.holds_of_cond 8 Tryz.f8 rfl rfl rfl rfl rfl rfl rfl ⟨rfl,rfl,rfl,rfl,rfl⟩ rfl rfl rfl rfl rfl qiZ Tryz.func8 qgN
  (of_decide_eq_true (by kernel_rfl)) (by unfold Func.isWrapper;first|(rw [if_pos (by decide+kernel)];kernel_rfl)|(rw [if_neg (by decide+kernel)];exact ⟨rfl,rfl⟩))
  (fun os started H enc _ F=>by rw [OpenClaim.pre_eq_preRow];exact quG os started H enc F)
theorem bare (f:FuncId) (fn:Func) (hf:Tryz.pinned.checked.prog.funcNamed Rows.restoreUnderRow.func=some f) (hfn:Tryz.pinned.checked.prog.funcs[f]?=some fn):
  true=Tryz.pinned.checked.prog.looks []∧ ∀(j:Nat) t,fn.params[j]?=some t→Tryz.pinned.checked.prog.wantsStandIn t=false:=by
 obtain rfl:f=8:=Option.some.inj ((show Tryz.prog.funcNamed Rows.restoreUnderRow.func=some 8 by kernel_rfl).symm.trans hf)|>.symm;obtain rfl:fn=Tryz.f8:=(Option.some.inj (Tryz.func8.symm.trans hfn)).symm;refine ⟨by kernel_rfl,fun j t ht=> ?_⟩;rw [Tryz.params8]at ht;have hm:t∈ [33,33]:=by simpa using Array.mem_of_getElem? ht
 have hall:([33,33].all fun u=> !Tryz.prog.wantsStandIn u)=true:=by kernel_rfl
 exact (show Tryz.prog.wantsStandIn t=false by simpa using List.all_eq_true.1 hall t hm)
theorem proved:Rows.RestoreUnderCardSaid:=
 Claim7.holds_tied_plain_at .later [] _ _ _ _ said (fun _ h=>by cases h) (by kernel_rfl) (fun _ h=>by cases h) restoreUnder_row_tie rfl ⟨rfl,rfl⟩ (by kernel_rfl) rfl bare (by kernel_rfl)
#print axioms proved
end Go.Proofs.YtapgoifimhnbdaaGreatDoor.restoreUnder
