/-
  Proved: at every pair of arguments the law of LiftKind answers true and leaves the arguments as they were: LiftKind of the program answers as that of the specification, and its answer owns its memory.
  Conditions: none but the row's own (what can be read as data; the library's tables and the variable errors.errorType as the program's text lays them, which the card ties).
-/
import Derived.Test.YtcfojmaccikgeaaGreatDoorB48
import Derived.Test.YtcfojmaccikgeaaGreatDoorB4
import Derived.Test.YtcfojmaccikgeaaGreatDoorCards
import Derived.Test.YtcfojmaccikgeaaGreatDoorTie
import Derived.ProofKit
import Derived.LaidMore
import Derived.LaidHandle
import Derived.LaidSub
import Derived.OpenShut
import Derived.Stop.Joined
import Derived.SevenTiedAt
import Derived.Lib.LaidTab
import Derived.Lib.AppendIntMem
namespace Go.Proofs.YtcfojmaccikgeaaGreatDoor
set_option maxRecDepth 100000
set_option maxHeartbeats 16000000
open Go.ChangeShapes Go.WideShapes Go.ChangeAt Go.RowKit Go.Deep
variable {W:World}
theorem Jf:Tryz.prog.cellsOf 64=4:=by kernel_rfl
theorem DN {H:Type} {enc:TypeId × Value->H} {base fuel:Nat} {v:Value} {x:DataW H × List MemPlace} (z:Value.okWide Tryz.prog W .any base 22 v)
  (X:DataW.trod enc Tryz.prog W 0 (fun _=>true) true fuel 22 v.cells.toList=some x):∃l:List (ByteArray×K fuel),gM (fun b=>b<W.heap.size) W fuel l v:=by
 obtain⟨a1,len,cap,rfl⟩:=okWide_slice Tryz.underlying22 z;obtain⟨fs,Y⟩:=Tryz.kindType;rcases DataW.trod_slice Tryz.underlying22 X with ⟨w,-⟩|⟨a,S,Q,I,rest,R,rfl,w,-,-,M,C,aa,d,-⟩;·simp[Value.cells]at w;obtain⟨rfl,rfl,rfl⟩:=w;exact⟨[],none,0,rfl,by simp[maxLen],fun h=>absurd rfl h⟩
 ·simp[Value.cells]at w;obtain⟨rfl,rfl,rfl⟩:=w;rw[Jf]at d;obtain⟨Z,j,L⟩:=wY (p:=fun i (t:ByteArray × K (R+1))=>∃ o g f,W.cell? (a.add (i*4))=some (.string t.1)/\W.cell? ((a.add (i*4)).add 1)=some o/\W.cell? ((a.add (i*4)).add 2)=some g/\W.cell? ((a.add (i*4)).add 3)=some f/\t.1.size<=maxLen /\
    a8 (fun b=>b<W.heap.size) W (R+1) t.2 o g f) len (fun i hi=>by
   have P:=d i hi
   rw[List.getElem?_eq_getElem om]at P
   obtain⟨D,h1,h2⟩:=Option.bind_eq_some_iff.1 P
   obtain⟨xs,n,rfl,-,e,J,A⟩:=DataW.trod_struct Tryz.underlying64 h2
   rw[Jf]at e
   match D,e with
   | [c0,c1,c2,c3],_=>
    have U:=A 0 _ rfl
    have O:=A 1 _ rfl
    rw[List.getElem?_eq_getElem (by rw[J];decide)]at U O
    have m:DataW.trod enc Tryz.prog W 0 (fun _=>true) true n 9 ((List.drop 0 [c0,c1,c2,c3]).take (Tryz.prog.cellsOf 9))=_:=U
    have q:DataW.trod enc Tryz.prog W 0 (fun _=>true) true n 52 ((List.drop 1 [c0,c1,c2,c3]).take (Tryz.prog.cellsOf 52))=_:=O
    rw[Tryz.cells_kstr]at m
    rw[Tryz.cells_kind]at q
    simp only[List.drop_zero,List.drop_succ_cons,List.take_succ_cons,List.take_zero]at m q
    obtain⟨s,T,-,ws⟩:=DataW.trod_string Tryz.underlying9 m
    simp at T
    subst T
    obtain⟨t,o,g,f,V,F⟩:=DG Y n (n+1+1) om _ _ q
    simp at V
    obtain⟨rfl,rfl,rfl⟩:=V
    obtain⟨-,-,c⟩:=World.cells?_some h1
    refine⟨(s,t),c1,c2,c3,?_,c 1 om,c 2 om,c 3 om,ws,F⟩
    have k:=c 0 om
    rw[show (a.add (i*4)).add 0=a.add (i*4) from by rw[add_add];rfl]at k
    exact k)
  refine⟨Z,some a,cap,by rw[j],by rw[j];exact Nat.le_trans M C,fun B=>?_⟩;have k:0<len:=by
   rcases Nat.eq_zero_or_pos len with k|k;·exact absurd (List.eq_nil_of_length_eq_zero (by rw[j,k])) B
   ·exact k
  obtain⟨b,off,y⟩:=a;have r:y=none:=by obtain⟨o,g,f,u,-⟩:=L 0 om;simpa [Addr.add] using World.cell?_spot u
  subst r;refine⟨b,off,rfl,?_,fun i hi=>?_⟩;·obtain⟨o,g,f,u,-⟩:=L 0 om;rw[add_plain]at u;exact rX u
  ·obtain⟨o,g,f,u,N,G,E,hz,F⟩:=L i hi;rw[add_plain]at u N G E;rw[add_plain]at N G E;exact⟨o,g,f,u,N,G,E,hz,F⟩
theorem Js:Tryz.prog.globalNamed "internal/strconv.uint64pow10" = some 1:=by kernel_rfl
theorem Jz:(Tryz.prog.globals[1]?).map (·.type)=some 330:=by kernel_rfl
theorem Jw:Tryz.prog.cellsOf 330=20:=by kernel_rfl
theorem JC:Tryz.prog.cellsOf 320=1:=by kernel_rfl
theorem Jy:(Rows.laid_internal_strconv_uint64pow10:DataW Unit)=Lib.tabData .u64 Lib.pow10Tab:=rfl
theorem wd(h:laidMetH Tryz.prog Rows.fnExactLiftKindRow.laid W):lr W:=by have h:=h.filter (fun x=>x.2.handleName?.isNone);rw[MakeChecks.laidMetH_plain _ _ _ zK]at h;obtain⟨C,⟨s,t0,l,f0,A,B,q,k,n,m,⟨v,r,i,f1,u,z,j,p,o,g,⟨w,t2,f,f2,y,t,c,a,e,b,_,_⟩,_⟩,_⟩,_,_⟩:=h;obtain rfl:=Option.some.inj (Js.symm.trans c);obtain rfl:=Option.some.inj (Jz.symm.trans a);have d:=Lib.cells_of_tab Tryz.underlying330 Tryz.underlying320 JC Jw (by rw[<- Jy];exact b);refine Lib.tabBelow_of_tabIs ?_;unfold Lib.TabIs;rw[e,<- d]
theorem JT:Tryz.prog.globalNamed "errors.errorType" = some 0:=by kernel_rfl
theorem JN:(Tryz.prog.cutTypes.find? (·.1 == "internal/reflectlite.rtype")).map (·.2)=some 236:=by kernel_rfl
theorem JE:((List.range 366).filter fun t=>Tryz.prog.rowNamed t [101,114,114,111,114])=[84]:=by kernel_rfl
theorem Jk:Tryz.prog.types.size=366:=by kernel_rfl
theorem sf(h:laidMetH Tryz.prog Rows.fnExactLiftKindRow.laid W):kG W:=by obtain⟨name,u,i,f,e,g,c,a⟩:=h.2 ("errors.errorType",Rows.laid_errors_errorType) (List.mem_singleton.2 rfl);have j:name=[101,114,114,111,114]:=(Option.some.inj f).symm;subst j;obtain rfl:=Option.some.inj (JN.symm.trans e);have b:i∈(List.range 366).filter fun t=>Tryz.prog.rowNamed t [101,114,114,111,114]:=List.mem_filter.2 ⟨List.mem_range.2 (by rw[<- Jk];exact g),c⟩;rw[JE]at b;obtain rfl:=List.mem_singleton.1 b;have d:typeHandle Tryz.prog 84=.pointer (some ⟨5,84,none⟩):=zK;rw[d]at a;unfold kG;simpa using World.var?_cell JT a 0
theorem Cz(os:Os)(args:Array Value):laidMetH Tryz.prog Rows.fnExactLiftKindRow.laid ((World.doorLaid Tryz.prog 400 os).forCall (fun _ _=>0) ⟨#[],args,[]⟩).memory:=
 laidMetH_of_parts3 (fuel:=8) (laidMet_of_run' 8 zK zK) zK zK
theorem vQ (os:Os) (f:os.Started) (H:Type) (enc:TypeId × Value->H) :
  ReturnsInHanded {} Tryz.checked os 3 .any (fun w args=>(Rows.fnExactLiftKindSpec.pre enc Tryz.prog Tryz.f3 [] false w args/\laidMetH Tryz.prog Rows.fnExactLiftKindRow.laid w)/\sizedMet enc Tryz.prog Tryz.f3 (OpenSpec.ofChange Rows.fnExactLiftKindSpec) false w args)
   (Rows.fnExactLiftKindSpec.post enc Tryz.prog Tryz.f3 false true false false):=by
 refine returnsInHanded_of_change_and (C:=Tryz.checked) (X:=fun w _=>laidMetH Tryz.prog Rows.fnExactLiftKindRow.laid w) (fun _ _ _ T h=>h.of_heap T) Tryz.ownk f zK Tryz.func3
  (ChangeSpec.witness_shaped (enc:=enc) (C:=Tryz.checked) (os:=os) (X:=fun w _=>laidMetH Tryz.prog Rows.fnExactLiftKindRow.laid w) false (World.doorLaid Tryz.prog 400 os) #[.slice none 0 0,.agg #[.int .i64 0,.int .i64 0,.string ByteArray.empty,.slice none 0 0,.slice none 0 0]] 8 rfl (World.shaped_of_RefB zK zK) zK zK zK (Cz os _)) ?_
 intro W base args U gs y d N _ _ R _;have c:∀(j:Nat) t v,Tryz.f3.params[j]?=some t->args[j]?=some v->Value.okWide Tryz.prog W .any base t v:=d;have i:=N;obtain⟨p,q,s,V,rfl,ab,aa⟩:=N;have Q:DataW.TrodAll enc Tryz.prog W 0 (fun _=>true) true Tryz.f3.params.toList args.toList U p:=s;rw[Tryz.params3]at Q c;obtain⟨v0,v1,d0,d1,S,M,rfl,rfl,rfl,O,P⟩:=trodAll_two Q;obtain⟨rfl,rfl⟩:=trodVars_none V;obtain⟨g,rfl,L⟩:=okWide_struct Tryz.underlying26 (c 1 26 v1 rfl rfl);have F:=O;have E:=P;obtain⟨n,Y⟩:=O;obtain⟨a,A⟩:=P;obtain⟨fs,Z⟩:=Tryz.nodeType;obtain⟨l,I⟩:=DN (c 0 22 v0 rfl rfl) Y;obtain⟨t,B,J,D,K,z,G,o⟩:=CA Z a a (Nat.le_refl _) _ _ A;have m:g=#[B,J,D,K,z]:=by
  have:g.toList=[B,J,D,K,z]:=by simpa [Value.cells] using G
  rw[<- Array.toArray_toList (xs:=g),this]
 subst m;clear s d;simp only[List.append_nil]at i;have r:∀x∈S++M,x.block<W.heap.size:=fun x k=>by simpa using i.lt x k
 refine (vU n a _ l t v0 B J D K z W I o (fun b u=>u) (wd R) (sf R)).mono fun e W' ⟨he,u⟩=>?_;subst he;refine⟨_,rfl,_,_,_,[],S++M,[],i,?_,?_,rfl,u.frame _,fun h=>by cases h⟩;·exact trodAll_mk1 (shut_bool Tryz.underlying4 true)
 ·exact trodAll_mk2 (Below.trod Tryz.laidOutk zK (of_decide_eq_true zK) F u (fun x k=>r x (List.mem_append_left _ k)))
   (Below.trod Tryz.laidOutk zK (of_decide_eq_true zK) E u (fun x k=>r x (List.mem_append_right _ k)))
theorem zo:Rows.FnExactLiftKindSaid:=
 OpenClaim.holds_of_wide 3 Tryz.f3 rfl rfl rfl rfl rfl rfl rfl ⟨rfl,rfl,rfl,rfl,rfl⟩ rfl rfl rfl rfl rfl zK Tryz.func3 zK
  (of_decide_eq_true zK) (by unfold Func.isWrapper;rw[if_neg (of_decide_eq_false zK)];exact⟨rfl,rfl⟩)
  (fun os a H b _=>vQ os a H b)
theorem lkind_card:Rows.FnExactLiftKindCardSaid:=
 Claim7.holds_tied_plain_at .later [] [.data,.data,.data,.handle] true Rows.fnExactLiftKindCard.stood.harness true
  zo (fun _ h=>by cases h) zK (fun _ h=>by cases h) fnExactLiftKind_row_tie rfl ⟨rfl,rfl⟩ zK rfl
  (fun f g e b=>by
   obtain rfl:f=3:=Option.some.inj ((show Tryz.prog.funcNamed Rows.fnExactLiftKindRow.func=some 3 by kernel_rfl).symm.trans e) |>.symm
   obtain rfl:g=Tryz.f3:=(Option.some.inj (Tryz.func3.symm.trans b)).symm
   exact⟨zK,fun j t c=>by
    rw[Tryz.params3]at c
    have d:t∈[22,26]:=by simpa using Array.mem_of_getElem? c
    have a:([22,26].all fun u=>!Tryz.prog.wantsStandIn u)=true:=zK
    exact (show Tryz.prog.wantsStandIn t=false by simpa using List.all_eq_true.1 a t d)⟩)
  zK
end Go.Proofs.YtcfojmaccikgeaaGreatDoor
