import Derived.Test.YtkcollkaldkccaaGreatDoorB6
set_option linter.all false
open List renaming length -> J
namespace Go.Proofs.YtkcollkaldkccaaGreatDoor
set_option maxRecDepth 100000
set_option maxHeartbeats 16000000
open Go.ChangeShapes Go.WideShapes Go.ChangeAt Go.RowKit
def qdN:Tryz.prog.globalNamed "internal/strconv.uint64pow10" = some 0:=gZ
def Y8:Tryz.prog.globalNamed "strconv.ErrSyntax" = some 1:=gZ
def Y7:Tryz.prog.globalNamed "strconv.ErrRange" = some 2:=gZ
def qdQ:(Tryz.prog.globals[0]?).map (·.type)=some 313:=gZ
def qdS:(Tryz.prog.globals[1]?).map (·.type)=some 252:=gZ
def qdR:(Tryz.prog.globals[2]?).map (·.type)=some 252:=gZ
def qdG:Tryz.prog.cellsOf 313=20:=gZ
def qdI:Tryz.prog.cellsOf 291=1:=gZ
def qbU:Tryz.prog.cellsOf 329=1:=gZ
def qbV:Tryz.prog.cellsOf 9=1:=gZ
def qdK:(Rows.laid_internal_strconv_uint64pow10:DataW Unit)=Lib.tabData .u64 Lib.pow10Tab:=rfl
def JI : "*" ++ "errors.errorString" = "*errors.errorString" := zC
def O6 (u:TypeId) (h:Tryz.prog.typeName? 3 u=some "*errors.errorString"):u=327:=
 typeName_ptr_named (nm := "errors.errorString") (by rw[JI];kernel_rfl) zK zC u (by rw[JI];exact h)
def Je:List (String × DataW Unit):=[("math/bits.deBruijn32tab",Rows.laid_math_bits_deBruijn32tab),("math/bits.deBruijn64tab",Rows.laid_math_bits_deBruijn64tab),("internal/strconv.uint64pow10",Rows.laid_internal_strconv_uint64pow10),("strconv.ErrRange",Rows.laid_strconv_ErrRange),("strconv.ErrSyntax",Rows.laid_strconv_ErrSyntax)]
def Ok{W:World}(h:laidMetH Tryz.prog Je W):gH W.heap.size W:=by
 rw[MakeChecks.laidMetH_plain _ _ _ zK]at h;have o:=h.tail.tail;have p:=o.tail;have r:=p.tail;obtain⟨u,B,c,-⟩:=laid_sentinel p Y7 qdR Tryz.underlying252 O6 Tryz.underlying327 Tryz.underlying329 D D Tryz.underlying9 qbU qbV;obtain⟨v,C,d,-⟩:=laid_sentinel r Y8 qdS Tryz.underlying252 O6 Tryz.underlying327 Tryz.underlying329 D D Tryz.underlying9 qbU qbV;have a:∀ {n:String} {g:Nat} {cs:Array Value},Tryz.prog.globalNamed n=some g->W.var? Tryz.prog n=some cs->g<W.heap.size:=by
  intro n g cs s b;unfold World.var? at b;rw[s]at b;simp only[Option.bind_some]at b;rcases Ww g W.heap.size with e|e;·exact e
  .rw[Array.getElem?_eq_none e]at b;simp at b
 refine⟨?_,⟨_,_,λt f=>var?_below f Y8 (a Y8 d) d⟩,⟨_,_,λt f=>var?_below f Y7 (a Y7 c) c⟩⟩;obtain⟨y,⟨w,t2,q,f2,x,z,k,l,m,j,-⟩,-⟩:=o;obtain rfl:=XK (qdN.symm.trans k);obtain rfl:=XK (qdQ.symm.trans l);have i:=Lib.cells_of_tab Tryz.underlying313 Tryz.underlying291 qdI qdG (by rw[<- qdK];exact j);refine Lib.tabBelow_of_tabIs ?_;unfold Lib.TabIs;rw[m,<- i]
def Ed(os:Os)(args:Array Value):laidMetH Tryz.prog Je ((World.doorLaid Tryz.prog 400 os).forCall (λ_ _=>0) ⟨#[],args,[]⟩).memory:=
 laidMetH_of_parts3 (fuel:=8) (laidMet_of_run' 8 zK zK) zK zK
