/-
  Proved: at every three arguments the law of LiftCheck answers true and leaves the arguments as they were: LiftCheck of the program answers as that of the specification.
  Conditions: none but the row's own (what can be read as data; the library's tables and the variable errors.errorType as the program's text lays them, which the card ties).
-/
import Derived.Test.YtcfojmaccikgeaaGreatDoorZLaw
import Derived.Test.YtcfojmaccikgeaaGreatDoorB3
import Derived.Test.YtcfojmaccikgeaaGreatDoorCards
import Derived.Test.YtcfojmaccikgeaaGreatDoorTie
import Derived.LaidMore
namespace Go.Proofs.YtcfojmaccikgeaaGreatDoor
set_option maxRecDepth 100000
set_option maxHeartbeats 16000000
open Go.ChangeShapes Go.WideShapes Go.ChangeAt Go.RowKit Go.Deep
variable {W:World}
theorem JC:Tryz.prog.cellsOf 101=5:=by kernel_rfl
theorem A3 {H:Type} {enc:TypeId × Value->H} {base fuel:Nat} {v:Value} {x:DataW H × List MemPlace} (B:Value.okWide Tryz.prog W .any base 53 v)
  (hf:DataW.trod enc Tryz.prog W 0 (fun _=>true) true fuel 53 v.cells.toList=some x):∃l:List ((ZN×Int)×K fuel),gY (fun b=>b<W.heap.size) W fuel l v:=by
 obtain⟨a1,len,cap,rfl⟩:=okWide_slice Tryz.underlying53 B;obtain⟨fs,hT⟩:=Tryz.kindType;rcases DataW.trod_slice Tryz.underlying53 hf with ⟨A,-⟩|⟨a,X,S,F,rest,Y,rfl,A,-,-,J,G,aa,d,-⟩;·simp[Value.cells]at A;obtain⟨rfl,rfl,rfl⟩:=A;exact⟨[],none,0,rfl,by simp[maxLen],fun h=>absurd rfl h⟩
 ·simp[Value.cells]at A;obtain⟨rfl,rfl,rfl⟩:=A;rw[JC]at d;obtain⟨kl,o,I⟩:=xg (p:=fun i (t:(ZN × Int) × K (Y+1))=>∃ f g j,W.cell? (a.add (i*5))=some (.string t.1.1)/\W.cell? ((a.add (i*5)).add 1)=some (.int .i64 t.1.2)/\W.cell? ((a.add (i*5)).add 2)=some f/\W.cell? ((a.add (i*5)).add 3)=some g/\W.cell? ((a.add (i*5)).add 4)=some j/\t.1.1.size<=maxLen /\
    a8 (fun b=>b<W.heap.size) W (Y+1) t.2 f g j) len (fun i hi=>by
   have T:=d i hi
   rw[List.getElem?_eq_getElem om]at T
   obtain⟨E,h1,h2⟩:=Option.bind_eq_some_iff.1 T
   obtain⟨xs,n,rfl,-,e,N,m⟩:=DataW.trod_struct Tryz.underlying101 h2
   rw[JC]at e
   match E,e with
   | [c0,cv,c1,c2,c3],_=>
    have Z:=m 0 _ rfl
    have rv:=m 1 _ rfl
    have r1:=m 2 _ rfl
    rw[List.getElem?_eq_getElem (by rw[N];decide)]at Z rv r1
    have u:DataW.trod enc Tryz.prog W 0 (fun _=>true) true n 9 ((List.drop 0 [c0,cv,c1,c2,c3]).take (Tryz.prog.cellsOf 9))=_:=Z
    have y:DataW.trod enc Tryz.prog W 0 (fun _=>true) true n 3 ((List.drop 1 [c0,cv,c1,c2,c3]).take (Tryz.prog.cellsOf 3))=_:=rv
    have w:DataW.trod enc Tryz.prog W 0 (fun _=>true) true n 52 ((List.drop 2 [c0,cv,c1,c2,c3]).take (Tryz.prog.cellsOf 52))=_:=r1
    rw[Tryz.cells_kstr]at u
    rw[Tryz.cells_kind]at w
    rw[show Tryz.prog.cellsOf 3=1 by kernel_rfl]at y
    simp only[List.drop_zero,List.drop_succ_cons,List.take_succ_cons,List.take_zero]at u y w
    obtain⟨s,V,-,ws⟩:=DataW.trod_string Tryz.underlying9 u
    simp at V
    subst V
    obtain⟨z,D,-,-⟩:=DataW.trod_int Tryz.underlying3 y
    simp at D
    subst D
    obtain⟨t,f,g,j,U,M⟩:=vJ hT n (n+1+1) om _ _ w
    simp at U
    obtain⟨rfl,rfl,rfl⟩:=U
    obtain⟨-,-,c⟩:=World.cells?_some h1
    refine⟨((s,z),t),c1,c2,c3,?_,c 1 om,c 2 om,c 3 om,c 4 om,ws,M⟩
    have k:=c 0 om
    rw[show (a.add (i*5)).add 0=a.add (i*5) from by rw[add_add];rfl]at k
    exact k)
  refine⟨kl,some a,cap,by rw[o],by rw[o];exact Nat.le_trans J G,fun L=>?_⟩;have k:0<len:=by
   rcases Nat.eq_zero_or_pos len with k|k;·exact absurd (List.eq_nil_of_length_eq_zero (by rw[o,k])) L
   ·exact k
  obtain⟨b,off,C⟩:=a;have q:C=none:=by obtain⟨f,g,j,r,-⟩:=I 0 om;simpa [Addr.add] using World.cell?_spot r
  subst q;refine⟨b,off,rfl,?_,fun i hi=>?_⟩;·obtain⟨f,g,j,r,-⟩:=I 0 om;rw[add_plain]at r;exact sr r
  ·obtain⟨f,g,j,r,O,P,Q,R,D,M⟩:=I i hi;rw[add_plain]at r O P Q R;rw[add_plain]at O P Q R;exact⟨f,g,j,r,O,P,Q,R,D,M⟩
theorem Kc:Tryz.prog.globalNamed "internal/strconv.uint64pow10" = some 1:=by kernel_rfl
theorem Ki:(Tryz.prog.globals[1]?).map (·.type)=some 330:=by kernel_rfl
theorem J6:Tryz.prog.cellsOf 330=20:=by kernel_rfl
theorem J7:Tryz.prog.cellsOf 320=1:=by kernel_rfl
theorem J8:(Rows.laid_internal_strconv_uint64pow10:DataW Unit)=Lib.tabData .u64 Lib.pow10Tab:=rfl
theorem xG(h:laidMetH Tryz.prog Rows.fnExactLiftCheckRow.laid W):ly W:=by have h:=h.filter (fun x=>x.2.handleName?.isNone);rw[MakeChecks.laidMetH_plain _ _ _ zK]at h;obtain⟨y,⟨r,t0,f,f0,u,z,l,n,p,j,⟨s,C,g,f1,v,A,m,o,q,k,⟨t,t2,i,f2,w,B,c,d,e,b,_,_⟩,_⟩,_⟩,_,_⟩:=h;obtain rfl:=Option.some.inj (Kc.symm.trans c);obtain rfl:=Option.some.inj (Ki.symm.trans d);have a:=Lib.cells_of_tab Tryz.underlying330 Tryz.underlying320 J7 J6 (by rw[<- J8];exact b);refine Lib.tabBelow_of_tabIs ?_;unfold Lib.TabIs;rw[e,<- a]
theorem Kq:Tryz.prog.globalNamed "errors.errorType" = some 0:=by kernel_rfl
theorem Ks:(Tryz.prog.cutTypes.find? (·.1 == "internal/reflectlite.rtype")).map (·.2)=some 236:=by kernel_rfl
theorem Ke:((List.range 366).filter fun t=>Tryz.prog.rowNamed t [101,114,114,111,114])=[84]:=by kernel_rfl
theorem JK:Tryz.prog.types.size=366:=by kernel_rfl
theorem tf(h:laidMetH Tryz.prog Rows.fnExactLiftCheckRow.laid W):kF W:=by obtain⟨name,u,j,c,d,e,f,a⟩:=h.2 ("errors.errorType",Rows.laid_errors_errorType) (List.mem_singleton.2 rfl);have g:name=[101,114,114,111,114]:=(Option.some.inj c).symm;subst g;obtain rfl:=Option.some.inj (Ks.symm.trans d);have b:j∈(List.range 366).filter fun t=>Tryz.prog.rowNamed t [101,114,114,111,114]:=List.mem_filter.2 ⟨List.mem_range.2 (by rw[<- JK];exact e),f⟩;rw[Ke]at b;obtain rfl:=List.mem_singleton.1 b;have i:typeHandle Tryz.prog 84=.pointer (some ⟨5,84,none⟩):=zK;rw[i]at a;unfold kF;simpa using World.var?_cell Kq a 0
theorem CS(os:Os)(args:Array Value):laidMetH Tryz.prog Rows.fnExactLiftCheckRow.laid ((World.doorLaid Tryz.prog 400 os).forCall (fun _ _=>0) ⟨#[],args,[]⟩).memory:=
 laidMetH_of_parts3 (fuel:=8) (laidMet_of_run' 8 zK zK) zK zK
theorem uR (os:Os) (g:os.Started) (H:Type) (enc:TypeId × Value->H) :
  ReturnsInHanded {} Tryz.checked os 4 .any (fun w args=>(Rows.fnExactLiftCheckSpec.pre enc Tryz.prog Tryz.f4 [] false w args/\laidMetH Tryz.prog Rows.fnExactLiftCheckRow.laid w)/\sizedMet enc Tryz.prog Tryz.f4 (OpenSpec.ofChange Rows.fnExactLiftCheckSpec) false w args)
   (Rows.fnExactLiftCheckSpec.post enc Tryz.prog Tryz.f4 false true false false):=by
 refine returnsInHanded_of_change_and (C:=Tryz.checked) (X:=fun w _=>laidMetH Tryz.prog Rows.fnExactLiftCheckRow.laid w) (fun _ _ _ hh h=>h.of_heap hh) Tryz.ownk g zK Tryz.func4
  (ChangeSpec.witness_shaped (enc:=enc) (C:=Tryz.checked) (os:=os) (X:=fun w _=>laidMetH Tryz.prog Rows.fnExactLiftCheckRow.laid w) false (World.doorLaid Tryz.prog 400 os) #[.agg #[.int .i64 0,.slice none 0 0,.slice none 0 0],.slice none 0 0,.agg #[.int .i64 0,.int .i64 0,.string ByteArray.empty,.slice none 0 0,.slice none 0 0]] 8 rfl (World.shaped_of_RefB zK zK) zK zK zK (CS os _)) ?_
 intro W u args ds gs E f hW _ _ hL _;have c:∀(j:Nat) t v,Tryz.f4.params[j]?=some t->args[j]?=some v->Value.okWide Tryz.prog W .any u t v:=f;have n:=hW;obtain⟨p,q,y,hV,rfl,ac,ad⟩:=hW;have Z:DataW.TrodAll enc Tryz.prog W 0 (fun _=>true) true Tryz.f4.params.toList args.toList ds p:=y;rw[Tryz.params4]at Z c;obtain⟨v0,v1,v2,d0,d1,d2,p0,p1,p2,rfl,rfl,rfl,U,V,Y⟩:=trodAll_three Z;obtain⟨rfl,rfl⟩:=trodVars_none hV;obtain⟨cs,rfl,ae⟩:=okWide_struct Tryz.underlying52 (c 0 52 v0 rfl rfl);obtain⟨i,rfl,aa⟩:=okWide_struct Tryz.underlying26 (c 2 26 v2 rfl rfl);have L:=U;have M:=V;have N:=Y;obtain⟨d,hf⟩:=U;obtain⟨m,S⟩:=V;obtain⟨a,R⟩:=Y;obtain⟨fs,hT⟩:=Tryz.nodeType;obtain⟨ab,O⟩:=Tryz.kindType;obtain⟨k,c0,c1,c2,P,D⟩:=vJ O d d (Nat.le_refl _) _ _ hf;obtain⟨l,T⟩:=A3 (c 1 53 v1 rfl rfl) S;obtain⟨t,F,G,I,J,K,Q,B⟩:=DW hT a a (Nat.le_refl _) _ _ R;have z:cs=#[c0,c1,c2]:=by
  have:cs.toList=[c0,c1,c2]:=by simpa [Value.cells] using P
  rw[<- Array.toArray_toList (xs:=cs),this]
 have A:i=#[F,G,I,J,K]:=by
  have:i.toList=[F,G,I,J,K]:=by simpa [Value.cells] using Q
  rw[<- Array.toArray_toList (xs:=i),this]
 subst z A;clear y f;simp only[List.append_nil,List.append_assoc]at n;have o:∀x∈p0++(p1++p2),x.block<W.heap.size:=fun x r=>by simpa using n.lt x r
 refine (uQ d m a _ k l t c0 c1 c2 v1 F G I J K W D T B (fun b s=>s) (xG hL) (tf hL)).mono fun e W' ⟨he,s⟩=>?_;subst he;refine⟨_,rfl,_,_,_,[],p0++(p1++p2),[],n,?_,?_,rfl,s.frame _,fun h=>by cases h⟩;·exact trodAll_mk1 (shut_bool Tryz.underlying4 true)
 ·exact trodAll_mk3 (Below.trod Tryz.laidOutk zK (of_decide_eq_true zK) L s (fun x r=>o x (by simp[r])))
   (Below.trod Tryz.laidOutk zK (of_decide_eq_true zK) M s (fun x r=>o x (by simp[r])))
   (Below.trod Tryz.laidOutk zK (of_decide_eq_true zK) N s (fun x r=>o x (by simp[r])))
theorem wY:Rows.FnExactLiftCheckSaid:=
 OpenClaim.holds_of_wide 4 Tryz.f4 rfl rfl rfl rfl rfl rfl rfl ⟨rfl,rfl,rfl,rfl,rfl⟩ rfl rfl rfl rfl rfl zK Tryz.func4 zK
  (of_decide_eq_true zK) (by unfold Func.isWrapper;rw[if_neg (of_decide_eq_false zK)];exact⟨rfl,rfl⟩)
  (fun os a H b _=>uR os a H b)
theorem lcheck_card:Rows.FnExactLiftCheckCardSaid:=
 Claim7.holds_tied_plain_at .later [] [.data,.data,.data,.handle] true Rows.fnExactLiftCheckCard.stood.harness true
  wY (fun _ h=>by cases h) zK (fun _ h=>by cases h) fnExactLiftCheck_row_tie rfl ⟨rfl,rfl⟩ zK rfl
  (fun f d e b=>by
   obtain rfl:f=4:=Option.some.inj ((show Tryz.prog.funcNamed Rows.fnExactLiftCheckRow.func=some 4 by kernel_rfl).symm.trans e) |>.symm
   obtain rfl:d=Tryz.f4:=(Option.some.inj (Tryz.func4.symm.trans b)).symm
   exact⟨zK,fun j t c=>by
    rw[Tryz.params4]at c
    have g:t∈[52,53,26]:=by simpa using Array.mem_of_getElem? c
    have a:([52,53,26].all fun u=>!Tryz.prog.wantsStandIn u)=true:=zK
    exact (show Tryz.prog.wantsStandIn t=false by simpa using List.all_eq_true.1 a t g)⟩)
  zK
end Go.Proofs.YtcfojmaccikgeaaGreatDoor
