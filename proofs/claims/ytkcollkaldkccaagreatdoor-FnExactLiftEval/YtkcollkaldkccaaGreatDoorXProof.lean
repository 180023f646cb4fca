/-
  Proved: at every pair of arguments the law of LiftEval answers true and leaves the arguments as they were: LiftEval of the program answers as that of the specification, and its answer owns its memory.
  Conditions: none but the row's own (what can be read as data; the library's tables and errors as the program's text lays them, which the card ties).
-/
import Derived.Test.YtkcollkaldkccaaGreatDoorCards
import Derived.Test.YtkcollkaldkccaaGreatDoorTie
import Derived.Test.YtkcollkaldkccaaGreatDoorB16
import Derived.Test.YtkcollkaldkccaaGreatDoorTLaid
set_option linter.all false
open List renaming length -> J
open Go.Proofs.Tryz renaming prog->Uq
namespace Go.Proofs.YtkcollkaldkccaaGreatDoor
set_option maxRecDepth 100000
set_option maxHeartbeats 16000000
open Go.ChangeShapes Go.WideShapes Go.ChangeAt Go.RowKit Go.Deep
variable {Hzq:Type}
def qbT:Tryz.prog.cellsOf 52=6:=gZ
def qbW:Tryz.prog.cellsOf 50=5:=gZ
def qdH:Tryz.prog.cellsOf 48=1:=gZ
def Mv:∃a,wK Uq 50 48 a 3 9 23:=
 ⟨_,Tryz.underlying50,qbW,Tryz.underlying48,Tryz.underlying3,Tryz.underlying9,Tryz.underlying23,Tryz.cells_int,Tryz.cells_str,Tryz.cells_names,qdH,
  ⟨_,D,D,D⟩,⟨_,D,D,D⟩,⟨_,D,D,D⟩,⟨_,D,D,D⟩,⟨_,D,D,D⟩,D⟩
def L7 {enc:TypeId × Value->Hzq} {W:World} {base fuel:Nat} {v:Value} {x:DataW Hzq × List MemPlace} (C:Value.okWide Uq W .any base 22 v)
  (hf:DataW.trod enc Uq W 0 (λ_=>true) true fuel 22 v.cells.toList=some x):∃l:List (ZB×T fuel),oq (λb=>b<W.heap.size) W fuel l v:=by
 obtain⟨a1,len,cap,rfl⟩:=okWide_slice Tryz.underlying22 C;obtain⟨fs,hT⟩:=Mv;rcases DataW.trod_slice Tryz.underlying22 hf with ⟨B,-⟩|⟨a,F,qq,L,rest,qc,rfl,B,-,-,P,M,aa,d,-⟩;·simp[Value.cells]at B;obtain⟨rfl,rfl,rfl⟩:=B;exact⟨[],none,0,D,gO,λh=>absurd D h⟩
 .simp[Value.cells]at B;obtain⟨rfl,rfl,rfl⟩:=B;rw[qbT]at d;have⟨kl,q,O⟩:=Ji (p:=λi (t:ZB × T (qc+1))=>∃ f g j k m,W.cell? (a.add (i*6))=some (.string t.1)/\W.cell? ((a.add (i*6)).add 1)=some f/\W.cell? ((a.add (i*6)).add 2)=some g/\W.cell? ((a.add (i*6)).add 3)=some j/\W.cell? ((a.add (i*6)).add 4)=some k/\W.cell? ((a.add (i*6)).add 5)=some m/\t.1.size<=maxLen /\
    cT (λb=>b<W.heap.size) W (qc+1) t.2 f g j k m) len (λi N=>by
   have q5:=d i N
   rw[Qp E]at q5
   have⟨K,q7,ql⟩:=Option.bind_eq_some_iff.1 q5
   obtain⟨xs,n,rfl,-,e,S,z⟩:=DataW.trod_struct Tryz.underlying52 ql
   rw[qbT]at e
   match K,e with
   | [c0,c1,c2,c3,c4,c5],_=>
    have r0:=z 0 _ D
    have r1:=z 1 _ D
    rw[Qp (by rw[S];decide)]at r0 r1
    have w:DataW.trod enc Uq W 0 (λ_=>true) true n 9 ((List.drop 0 [c0,c1,c2,c3,c4,c5]).take (Tryz.prog.cellsOf 9))=_:=r0
    have y:DataW.trod enc Uq W 0 (λ_=>true) true n 50 ((List.drop 1 [c0,c1,c2,c3,c4,c5]).take (Tryz.prog.cellsOf 50))=_:=r1
    rw[Tryz.cells_str]at w
    rw[qbW]at y
    simp only[Xn,Xv,X3,WB]at w y
    obtain⟨s,qa,-,ws⟩:=DataW.trod_string Tryz.underlying9 w
    simp at qa
    subst qa
    have⟨t,f,g,j,k,m,j0,R⟩:=BZ hT n (n+1+1) E _ _ y
    simp at j0
    obtain⟨rfl,rfl,rfl,rfl,rfl⟩:=j0
    obtain⟨-,-,c⟩:=World.cells?_some q7
    refine⟨(s,t),c1,c2,c3,c4,c5,?_,c 1 E,c 2 E,c 3 E,c 4 E,c 5 E,ws,R⟩
    have o:=c 0 E
    rw[show (a.add (i*6)).add 0=a.add (i*6) from by rw[add_add];rfl]at o
    exact o)
  refine⟨kl,some a,cap,by rw[q],by rw[q];exact Q1 P M,λQ=>?_⟩;have o:0<len:=by
   rcases Xa len with o|o;·exact absurd (Qj (by rw[q,o])) Q
   .exact o
  obtain⟨b,off,spot⟩:=a;have r:spot=none:=by obtain⟨f,g,j,k,m,u,-⟩:=O 0 E;simpa [Addr.add] using World.cell?_spot u
  subst r;refine⟨b,off,D,?_,λi N=>?_⟩;·obtain⟨f,g,j,k,m,u,-⟩:=O 0 E;rw[add_plain]at u;exact CP u
  .have⟨f,g,j,k,m,u,V,X,q6,q9,q8,hz,R⟩:=O i N;rw[add_plain]at u V X q6 q9 q8;rw[add_plain]at V X q6 q9 q8;exact⟨f,g,j,k,m,u,V,X,q6,q9,q8,hz,R⟩
def Dk {os:Os} (f:os.Started) (enc:TypeId × Value->Hzq) :
  ReturnsInHanded {} Tryz.checked os 3 .any (λw args=>(Rows.fnExactLiftEvalSpec.pre enc Uq Tryz.f3 [] false w args/\laidMetH Uq Rows.fnExactLiftEvalRow.laid w)/\sizedMet enc Uq Tryz.f3 (OpenSpec.ofChange Rows.fnExactLiftEvalSpec) false w args)
   (Rows.fnExactLiftEvalSpec.post enc Uq Tryz.f3 false true false false):=by
 refine returnsInHanded_of_change_and (C:=Tryz.checked) (X:=λw _=>laidMetH Uq Rows.fnExactLiftEvalRow.laid w) (λ_ _ _ hh h=>h.of_heap hh) Tryz.own f Bg Tryz.func3
  (ChangeSpec.witness_shaped (enc:=enc) (C:=Tryz.checked) (os:=os) (X:=λw _=>laidMetH Uq Rows.fnExactLiftEvalRow.laid w) false (World.doorLaid Uq 400 os) #[.slice none 0 0,.agg #[.int .i64 0,.int .i64 0,.string ByteArray.empty,.slice none 0 0,.slice none 0 0]] 8 D (World.shaped_of_RefB Bg Bg) Bg Bg Bg (Ed os _)) ?_
 intro W base args qq gs u d q5 _ _ q9 _;have c:∀(j:Nat) t v,Tryz.f3.params[j]?=some t->args[j]?=some v->Value.okWide Uq W .any base t v:=d;have i:=q5;obtain⟨p,q,k,F,rfl,E,aa⟩:=q5;have V:DataW.TrodAll enc Uq W 0 (λ_=>true) true Tryz.f3.params.toList args.toList qq p:=k;rw[Tryz.params3]at V c;obtain⟨v0,v1,d0,d1,q7,ql,rfl,rfl,rfl,S,T⟩:=trodAll_two V;obtain⟨rfl,rfl⟩:=trodVars_none F;obtain⟨g,rfl,q8⟩:=okWide_struct Tryz.underlying26 (c 1 26 v1 D D);have y:=S;have z:=T;obtain⟨R,q6⟩:=S;obtain⟨a,K⟩:=T;have⟨fs,qa⟩:=Tryz.nodeType;have⟨l,L⟩:=L7 (c 0 22 v0 D D) q6;have⟨t,M,N,O,P,Q,B,o⟩:=BZ qa a a (QD _) _ _ K;have n:g=#[M,N,O,P,Q]:=by
  have:g.toList=[M,N,O,P,Q]:=by simpa [Value.cells] using B
  rw[<- Array.toArray_toList (xs:=g),this]
 subst n;clear k d;simp only[XF]at i;have r:∀x∈q7++ql,x.block<W.heap.size:=λx s=>by simpa using i.lt x s
 refine (Df L o (λb m=>m) (Ok q9)).mono λe W' ⟨qc,m⟩=>?_;subst qc;refine⟨_,D,_,_,_,[],q7++ql,[],i,?_,?_,D,m.frame _,λh=>eI⟩;·exact trodAll_mk1 (shut_bool Tryz.underlying4 true)
 .exact trodAll_mk2 (Below.trod Tryz.laidOut Bg (XI Bg) y m (λx s=>r x (XH _ s)))
   (Below.trod Tryz.laidOut Bg (XI Bg) z m (λx s=>r x (Xt _ s)))
def qbS{a b:Bool}(c:a=true)(d:b=true):(a && b)=true:=by rw[c,d];rfl
def Dj:joinedFacts Tryz.checked.prog 3 Tryz.f3 Rows.fnExactLiftEvalSpec Rows.fnExactLiftEvalRow=true:=by
 unfold joinedFacts;repeat' with_reducible refine qbS ?_ ?_
 all_goals (as_aux_lemma=>kernel_rfl)
def EK:Rows.FnExactLiftEvalSaid:=
 OpenClaim.holds_of_wide 3 Tryz.f3 D D D D D D D ⟨D,D,D,D,D⟩ D D D D D zK Tryz.func3 Dj
  (XI zK) (by unfold Func.isWrapper;rw[Qd (Z4 zK)];exact⟨D,D⟩)
  (λos a c b _=>Dk a b)
theorem leval_card:Rows.FnExactLiftEvalCardSaid:=
 Claim7.holds_tied_plain_at .later [] [.data,.data,.data,.sentinel,.sentinel] true Rows.fnExactLiftEvalCard.stood.harness true
  EK (λ_ h=>eI) zK (λ_ h=>eI) fnExactLiftEval_row_tie D ⟨D,D⟩ zK D
  (λf d e b=>by
   obtain rfl:f=3:=XK ((show Tryz.prog.funcNamed Rows.fnExactLiftEvalRow.func=some 3 by kernel_rfl).symm.trans e) |>.symm
   obtain rfl:d=Tryz.f3:=(XK (Tryz.func3.symm.trans b)).symm
   exact⟨zK,λj t c=>by
    rw[Tryz.params3]at c
    have g:t∈[22,26]:=by simpa using Array.mem_of_getElem? c
    have a:([22,26].all λu=>!Tryz.prog.wantsStandIn u)=true:=zK
    exact (show Tryz.prog.wantsStandIn t=false by simpa using Qo.1 a t g)⟩)
  zK
