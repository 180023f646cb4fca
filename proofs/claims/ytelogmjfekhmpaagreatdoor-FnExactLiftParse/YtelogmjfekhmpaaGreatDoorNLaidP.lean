import Derived.Test.YtelogmjfekhmpaaGreatDoorB18
import Derived.Test.YtelogmjfekhmpaaGreatDoorRows
import Derived.Test.YtelogmjfekhmpaaGreatDoorChecked
import Derived.ProofKit
import Derived.LaidMore
import Derived.LaidLaws
import Derived.OpenShut
import Derived.WalkSmall
import Derived.Stop.Joined
import Derived.Stop.LaidErr
import Derived.Lib.LaidTab
import Derived.Lib.AppendIntMem
namespace Go.Proofs.YtelogmjfekhmpaaGreatDoor
open Go.ChangeShapes Go.WideShapes Go.ChangeAt Go.RowKit
theorem gPow:Tryz.prog.globalNamed "internal/strconv.uint64pow10" = some 5:=by kernel_rfl
theorem gSyn:Tryz.prog.globalNamed "strconv.ErrSyntax" = some 3:=by kernel_rfl
theorem gRan:Tryz.prog.globalNamed "strconv.ErrRange" = some 4:=by kernel_rfl
theorem tPow:(Tryz.prog.globals[5]?).map (·.type)=some 233:=by kernel_rfl
theorem tSyn:(Tryz.prog.globals[3]?).map (·.type)=some 141:=by kernel_rfl
theorem tRan:(Tryz.prog.globals[4]?).map (·.type)=some 141:=by kernel_rfl
theorem cPow:Tryz.prog.cellsOf 233=20:=by kernel_rfl
theorem cU64:Tryz.prog.cellsOf 217=1:=by kernel_rfl
theorem cErr:Tryz.prog.cellsOf 240=1:=by kernel_rfl
theorem cStr:Tryz.prog.cellsOf 9=1:=by kernel_rfl
theorem dPow:(Rows.laid_internal_strconv_uint64pow10:DataW Unit)=Lib.tabData .u64 Lib.pow10Tab:=rfl
theorem xfF : "*" ++ "errors.errorString" = "*errors.errorString" := by decide
theorem xiE (u:TypeId) (h:Tryz.prog.typeName? 3 u=some "*errors.errorString"):u=238:=
 typeName_ptr_named (nm := "errors.errorString") (by rw[xfF];kernel_rfl) (by kernel_rfl) (by decide) u (by rw[xfF];exact h)
def xhV:List (String × DataW Unit):=[("math/bits.deBruijn32tab",Rows.laid_math_bits_deBruijn32tab),("math/bits.deBruijn64tab",Rows.laid_math_bits_deBruijn64tab),("internal/strconv.uint64pow10",Rows.laid_internal_strconv_uint64pow10),("unicode/utf8.acceptRanges",Rows.laid_unicode_utf8_acceptRanges),("strconv.ErrRange",Rows.laid_strconv_ErrRange),("strconv.ErrSyntax",Rows.laid_strconv_ErrSyntax),("unicode/utf8.first",Rows.laid_unicode_utf8_first)]
theorem xfG{W:World}(h:laidMetH Tryz.prog xhV W):LaidU W.heap.size W:=by
 rw[MakeChecks.laidMetH_plain _ _ _ (by kernel_rfl)]at h
 have m:=h.tail.tail
 have o:=m.tail.tail
 have q:=o.tail
 obtain⟨t,u,b,-⟩:=laid_sentinel o gRan tRan Tryz.underlying141 xiE Tryz.underlying238 Tryz.underlying240 rfl rfl Tryz.underlying9 cErr cStr
 obtain⟨a2,v,c,-⟩:=laid_sentinel q gSyn tSyn Tryz.underlying141 xiE Tryz.underlying238 Tryz.underlying240 rfl rfl Tryz.underlying9 cErr cStr
 have a:∀ {n:String} {g:Nat} {p:Array Value},Tryz.prog.globalNamed n=some g->W.var? Tryz.prog n=some p->g<W.heap.size:=by
  intro n g p r d
  unfold World.var? at d
  rw[r]at d
  simp only[Option.bind_some]at d
  rcases Nat.lt_or_ge g W.heap.size with f|f
  ·exact f
  ·rw[Array.getElem?_eq_none f]at d;simp at d
 refine⟨?_,⟨_,_,fun w' hb=>var?_below hb gSyn (a gSyn c) c⟩,⟨_,_,fun w' hb=>var?_below hb gRan (a gRan b) b⟩⟩
 obtain⟨w,⟨x,t2,s,y,z,A,i,j,k,l,-⟩,-⟩:=m
 obtain rfl:=Option.some.inj (gPow.symm.trans i)
 obtain rfl:=Option.some.inj (tPow.symm.trans j)
 have e:=Lib.cells_of_tab Tryz.underlying233 Tryz.underlying217 cU64 cPow (by rw[<- dPow];exact l)
 refine Lib.tabBelow_of_tabIs ?_
 unfold Lib.TabIs
 rw[k,<- e]
end Go.Proofs.YtelogmjfekhmpaaGreatDoor
