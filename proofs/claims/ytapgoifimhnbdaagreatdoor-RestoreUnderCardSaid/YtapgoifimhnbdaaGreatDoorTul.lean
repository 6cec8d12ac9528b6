/- qaX of one kind, in one file: Laid. -/
import Derived.Test.YtapgoifimhnbdaaGreatDoorRca
import Derived.RowKitTokens
import Derived.MakeChecks
set_option linter.unusedVariables false
set_option maxRecDepth 100000
namespace Go.Proofs.YtapgoifimhnbdaaGreatDoor
open Go.RowKit Go.ChangeShapes
theorem qrY {P:Program} {l:List (String×DataW Unit)} {w:World} {x:String×DataW Unit} (h:laidMet P l w) (hm:x∈l): ∃r,laidMet P (x::r) w:=by
 induction l with
 |nil=>cases hm
 |cons y l ih=>
  rcases List.mem_cons.1 hm with rfl|hm
  ·exact ⟨l,h⟩
  ·exact ih h.tail hm
theorem zaO:(Rows.laid_internal_strconv_uint64pow10:DataW Unit)=Lib.tabData .u64 Lib.pow10Tab:=by kernel_rfl
theorem qwB {l:List (String×DataW Unit)} {w:World} (h:laidMetH Tryz.prog l w) (hp:(l.all fun x=>x.2.handleName?.isNone)=true) (hm:("internal/strconv.uint64pow10",Rows.laid_internal_strconv_uint64pow10)∈l):Tab w:=by
 rw [MakeChecks.laidMetH_plain _ _ _ hp]at h;obtain ⟨r,hr⟩:=qrY h hm;rw [zaO]at hr;exact Lib.tabIs_of_head q6T (by kernel_rfl) Tryz.underlying321 Tryz.underlying158 (by kernel_rfl) (by kernel_rfl) hr
theorem q32: "*" ++ "errors.errorString" = "*errors.errorString" :=by decide
theorem zdS (u:TypeId) (h:Tryz.prog.typeName? 3 u=some "*errors.errorString"):u=316:=
 typeName_ptr_named (nm:= "errors.errorString") (by rw [q32];kernel_rfl) (by kernel_rfl) (by decide) u (by rw [q32];exact h)
theorem qh9 {l:List (String×DataW Unit)} {w:World} (h:laidMetH Tryz.prog l w) (hp:(l.all fun x=>x.2.handleName?.isNone)=true)
  (hm:("internal/strconv.uint64pow10",Rows.laid_internal_strconv_uint64pow10)∈l) (hs:("strconv.ErrSyntax",Rows.laid_strconv_ErrSyntax)∈l) (hr:("strconv.ErrRange",Rows.laid_strconv_ErrRange)∈l):Std w:=by
 refine ⟨qwB h hp hm,?_,?_⟩
 ·rw [MakeChecks.laidMetH_plain _ _ _ hp]at h;obtain ⟨r,hr⟩:=qrY h hs;obtain ⟨a0,s0,hv0,-,-,-⟩:=laid_sentinel hr (show Tryz.prog.globalNamed "strconv.ErrSyntax" =some 3 by kernel_rfl) (by kernel_rfl) Tryz.underlying117 zdS Tryz.underlying316 Tryz.underlying318 rfl rfl Tryz.underlying9 (by kernel_rfl) (by kernel_rfl);exact ⟨_,_,by have h0:=World.var?_cell (show Tryz.prog.globalNamed "strconv.ErrSyntax" =some 3 by kernel_rfl) hv0 0;simpa using h0⟩
 ·rw [MakeChecks.laidMetH_plain _ _ _ hp]at h;obtain ⟨r,hr⟩:=qrY h hr;obtain ⟨a0,s0,hv0,-,-,-⟩:=laid_sentinel hr (show Tryz.prog.globalNamed "strconv.ErrRange" =some 4 by kernel_rfl) (by kernel_rfl) Tryz.underlying117 zdS Tryz.underlying316 Tryz.underlying318 rfl rfl Tryz.underlying9 (by kernel_rfl) (by kernel_rfl);exact ⟨_,_,by have h0:=World.var?_cell (show Tryz.prog.globalNamed "strconv.ErrRange" =some 4 by kernel_rfl) hv0 0;simpa using h0⟩
end Go.Proofs.YtapgoifimhnbdaaGreatDoor
