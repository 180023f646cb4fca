import Derived.Test.YtcfojmaccikgeaaGreatDoorB2
import Derived.ProofKit
import Derived.Deep.Strs
open Option renaming some→Zo
namespace Go.Proofs.YtcfojmaccikgeaaGreatDoor
open Go.ChangeShapes Go.WideShapes Go.ChangeAt Go.RowKit Go.Deep
variable {w:World} {v:Value} {H:Type} {P:Program} {spare:Nat->Bool} {held:Bool}
theorem wY{α:Type}{p:Nat->α->Prop}:∀n,(∀i,i<n->∃x,p i x)->∃l:List α,l.length=n/\∀i (h:i<l.length),p i l[i]:=by
 intro n;induction n with
 | zero=>intro _;exact⟨[],rfl,fun i h=>absurd h (Nat.not_lt_zero _)⟩
 | succ n e=>
  intro h;obtain⟨l,b,d⟩:=e (fun i hi=>h i om);obtain⟨x,c⟩:=h n om;refine⟨l++[x],by simp[b],fun i hi=>?_⟩;by_cases a:i<l.length;·rw[List.getElem_append_left a];exact d i a
  ·have:i=l.length:=by simp at hi;omega
   subst this;simp;rw[b];exact c
theorem rX{b o:Nat}(h:w.cell? ⟨b,o,none⟩=Zo v):b<w.heap.size:=
 Classical.byContradiction fun a=>by
  have:w.heap[b]?=none:=Array.getElem?_eq_none om
  simp[World.cell?,this]at h
theorem tL {enc:TypeId × Value->H} {t e:TypeId} {fuel:Nat} {x:DataW H × List MemPlace}
  (z:P.underlying t=Zo (.slice e)) (u:P.underlying e=Zo .string) (r:P.cellsOf e=1) (h:DataW.trod enc P w 0 spare held fuel t [v]=Zo x) :
  ∃l:List ByteArray,fL (fun b=>b<w.heap.size) w l v:=by
 rcases open_strs z u r h with ⟨f,-⟩|⟨a,len,cap,m,q,f,-,A,B,n,-,o⟩;·simp at f;subst f;exact⟨[],none,0,rfl,by simp[maxLen],fun s p=>absurd p zS,fun h=>absurd rfl h⟩
 ·simp at f;subst f;have y:len<=m:=by rw[n];split<;>omega
  refine⟨(List.range len).map q,Zo a,cap,zS,by simp;unfold maxLen at *;omega,?_,fun k=>?_⟩;·intro s p;obtain⟨i,hi,rfl⟩:=List.mem_map.1 p;exact (o i (by simp at hi;omega)).2
  ·have j:0<len:=by
    rcases Nat.eq_zero_or_pos len with j|j;·subst j;simp at k
    ·exact j
   obtain⟨b,off,g⟩:=a;have d:g=none:=by simpa [Addr.add] using World.cell?_spot (o 0 om).1
   subst d;have c:∀i,i<len->w.cell? ⟨b,off+i,none⟩=Zo (.string (q i)):=fun i hi=>by have:=(o i om).1;rwa [add_plain]at this
   exact⟨b,off,rfl,rX (c 0 j),fun i hi=>by simp at hi;rw[c i hi];simp⟩
structure yA(P:Program)(tt ks:TypeId)(fs:Array Field)(ti ts tn:TypeId):Prop where
 tree:P.underlying tt=Zo (.struct fs)
 cells:P.cellsOf tt=5
 kids:P.underlying ks=Zo (.slice tt)
 int:P.underlying ti=Zo (.int .i64)
 str:P.underlying ts=Zo .string
 names:P.underlying tn=Zo (.slice ts)
 ci:P.cellsOf ti=1
 cs:P.cellsOf ts=1
 cn:P.cellsOf tn=1
 ck:P.cellsOf ks=1
 f0:∃f,fs[0]?=Zo f/\f.type=ti/\f.offset=0
 f1:∃f,fs[1]?=Zo f/\f.type=ti/\f.offset=1
 f2:∃f,fs[2]?=Zo f/\f.type=ts/\f.offset=2
 f3:∃f,fs[3]?=Zo f/\f.type=tn/\f.offset=3
 f4:∃f,fs[4]?=Zo f/\f.type=ks/\f.offset=4
 nf:fs.size=5
theorem CA {enc:TypeId × Value->H} {tt ks ti ts tn:TypeId} {fs:Array Field} (F:yA P tt ks fs ti ts tn) :
  ∀c N,c<=N->∀(cs:List Value)(x:DataW H×List MemPlace),DataW.trod enc P w 0 spare held c tt cs=Zo x ->
   ∃(t:T N)(c0 c1 c2 c3 c4:Value),cs=[c0,c1,c2,c3,c4]/\gJ (fun b=>b<w.heap.size) w N t c0 c1 c2 c3 c4:=by
 intro c;induction c using Nat.strongRecOn with
 | ind c ih=>
  intro N hN cs x h;obtain⟨xs,n,rfl,-,q,W,C⟩:=DataW.trod_struct F.tree h;rw[F.cells]at q;match cs,q with
  | [c0,c1,c2,c3,c4],_=>
   obtain⟨f0,e0,t0,o0⟩:=F.f0;obtain⟨f1,e1,t1,o1⟩:=F.f1;obtain⟨f2,e2,t2,o2⟩:=F.f2;obtain⟨f3,e3,t3,o3⟩:=F.f3;obtain⟨f4,e4,t4,o4⟩:=F.f4;have get:∀i,i<5->∃y,xs[i]?=Zo y:=fun i hi=>⟨xs[i]'(by rw[W,F.nf];exact hi),List.getElem?_eq_getElem _⟩;have L:=C 0 f0 e0;have D:=C 1 f1 e1;have V:=C 2 f2 e2;have Q:=C 3 f3 e3;have S:=C 4 f4 e4;obtain⟨y0,g0⟩:=get 0 om;obtain⟨y1,g1⟩:=get 1 om;obtain⟨y2,g2⟩:=get 2 om;obtain⟨y3,g3⟩:=get 3 om;obtain⟨y4,g4⟩:=get 4 om;rw[t0,o0,F.ci,g0]at L;rw[t1,o1,F.ci,g1]at D;rw[t2,o2,F.cs,g2]at V;rw[t3,o3,F.cn,g3]at Q;rw[t4,o4,F.ck,g4]at S;simp only[List.drop_zero,List.drop_succ_cons,List.take_succ_cons,List.take_zero]at L D V Q S;obtain⟨s,hs,-,ws⟩:=DataW.trod_int F.int L;obtain⟨m,hm,-,wm⟩:=DataW.trod_int F.int D;obtain⟨xx,hx,-,wx⟩:=DataW.trod_string F.str V;simp at hs hm hx;subst hs hm hx;obtain⟨l,hl⟩:=tL F.names F.str F.cs Q;obtain⟨N,rfl⟩:∃M,N=M+1:=⟨N-1,om⟩;rcases DataW.trod_slice F.kids S with ⟨A,-⟩|⟨a,len,cap,K,rest,n',rfl,A,-,-,Y,E,aa,e,-⟩;·simp at A;subst A;refine⟨(⟨s,m,xx,l,[]⟩:Nd (T N)),_,_,_,_,_,rfl,rfl,rfl,rfl,wx,ws,wm,hl,none,0,rfl,by simp[maxLen],fun h=>absurd rfl h⟩
   ·simp at A;subst A;rw[F.cells]at e;obtain⟨R,r,X⟩:=wY (p:=fun i (t:T N)=>∃ o g k j f,w.cell? (a.add (i*5))=Zo o/\w.cell? ((a.add (i*5)).add 1)=Zo g/\w.cell? ((a.add (i*5)).add 2)=Zo k/\w.cell? ((a.add (i*5)).add 3)=Zo j /\
      w.cell? ((a.add (i*5)).add 4)=Zo f/\gJ (fun b=>b<w.heap.size) w N t o g k j f) len (fun i hi=>by
     have hc:=e i hi
     rw[List.getElem?_eq_getElem om]at hc
     obtain⟨U,h1,h2⟩:=Option.bind_eq_some_iff.1 hc
     obtain⟨t,o,g,k,j,f,rfl,I⟩:=ih n' om N om U _ h2
     obtain⟨-,-,d⟩:=World.cells?_some h1
     refine⟨t,o,g,k,j,f,?_,?_,?_,?_,?_,I⟩
     ·have u:=d 0 om
      rw[show (a.add (i*5)).add 0=a.add (i*5) from by rw[add_add];rfl]at u
      exact u
     ·exact d 1 om
     ·exact d 2 om
     ·exact d 3 om
     ·exact d 4 om)
    refine⟨(⟨s,m,xx,l,R⟩:Nd (T N)),_,_,_,_,_,rfl,rfl,rfl,rfl,wx,ws,wm,hl,Zo a,cap,by show _=Value.slice _ R.length _;rw[r],by show R.length<=_;rw[r];exact Nat.le_trans Y E,fun O=>?_⟩;have u:0<len:=by
     rcases Nat.eq_zero_or_pos len with u|u;·exact absurd (List.eq_nil_of_length_eq_zero (by rw[r,u])) O
     ·exact u
    obtain⟨b,off,B⟩:=a;have v:B=none:=by obtain⟨o,g,k,j,f,z,-⟩:=X 0 om;simpa [Addr.add] using World.cell?_spot z
    subst v;refine⟨b,off,rfl,?_,fun i hi=>?_⟩;·obtain⟨o,g,k,j,f,z,-⟩:=X 0 om;rw[add_plain]at z;exact rX z
    ·obtain⟨o,g,k,j,f,z,Z,J,G,q4,I⟩:=X i hi;rw[add_plain]at z Z J G q4;rw[add_plain]at Z J G q4;exact⟨o,g,k,j,f,z,Z,J,G,q4,I⟩
end Go.Proofs.YtcfojmaccikgeaaGreatDoor
namespace Go.Proofs.YtcfojmaccikgeaaGreatDoor
open Go.ChangeShapes Go.WideShapes Go.ChangeAt Go.RowKit Go.Deep
structure yu(P:Program)(tt ks:TypeId)(fs:Array Field)(ti ts tn:TypeId):Prop where
 tree:P.underlying tt=Zo (.struct fs)
 cells:P.cellsOf tt=3
 kids:P.underlying ks=Zo (.slice tt)
 int:P.underlying ti=Zo (.int .i64)
 str:P.underlying ts=Zo .string
 names:P.underlying tn=Zo (.slice ts)
 ci:P.cellsOf ti=1
 cs:P.cellsOf ts=1
 cn:P.cellsOf tn=1
 ck:P.cellsOf ks=1
 f0:∃f,fs[0]?=Zo f/\f.type=ti/\f.offset=0
 f1:∃f,fs[1]?=Zo f/\f.type=tn/\f.offset=1
 f2:∃f,fs[2]?=Zo f/\f.type=ks/\f.offset=2
 nf:fs.size=3
theorem DG {H:Type} {enc:TypeId × Value->H} {P:Program} {w:World} {q:Nat->Bool} {A:Bool} {Z ks ti ts tn:TypeId} {fs:Array Field} (F:yu P Z ks fs ti ts tn) :
  ∀c N,c<=N->∀(cs:List Value)(x:DataW H×List MemPlace),DataW.trod enc P w 0 q A c Z cs=Zo x ->
   ∃(t:K N)(c0 c1 c2:Value),cs=[c0,c1,c2]/\a8 (fun b=>b<w.heap.size) w N t c0 c1 c2:=by
 intro c;induction c using Nat.strongRecOn with
 | ind c ih=>
  intro N hN cs x h;obtain⟨Y,n,rfl,-,k,S,J⟩:=DataW.trod_struct F.tree h;rw[F.cells]at k;match cs,k with
  | [c0,c1,c2],_=>
   obtain⟨f0,e0,t0,o0⟩:=F.f0;obtain⟨f1,e1,t1,o1⟩:=F.f1;obtain⟨f2,e2,t2,o2⟩:=F.f2;have get:∀i,i<3->∃y,Y[i]?=Zo y:=fun i hi=>⟨Y[i]'(by rw[S,F.nf];exact hi),List.getElem?_eq_getElem _⟩;have I:=J 0 f0 e0;have B:=J 1 f1 e1;have R:=J 2 f2 e2;obtain⟨y0,g0⟩:=get 0 om;obtain⟨y1,g1⟩:=get 1 om;obtain⟨y2,g2⟩:=get 2 om;rw[t0,o0,F.ci,g0]at I;rw[t1,o1,F.cn,g1]at B;rw[t2,o2,F.ck,g2]at R;simp only[List.drop_zero,List.drop_succ_cons,List.take_succ_cons,List.take_zero]at I B R;obtain⟨s,hs,-,X⟩:=DataW.trod_int F.int I;simp at hs;subst hs;obtain⟨l,hl⟩:=tL F.names F.str F.cs B;obtain⟨N,rfl⟩:∃M,N=M+1:=⟨N-1,om⟩;rcases DataW.trod_slice F.kids R with ⟨v,-⟩|⟨a,len,cap,G,rest,n',rfl,v,-,-,U,C,aa,e,-⟩;·simp at v;subst v;refine⟨(⟨s,l,[]⟩:Kd (K N)),_,_,_,rfl,rfl,X,hl,none,0,rfl,by simp[maxLen],fun h=>absurd rfl h⟩
   ·simp at v;subst v;rw[F.cells]at e;obtain⟨O,m,T⟩:=wY (p:=fun i (t:K N)=>∃ j f g,w.cell? (a.add (i*3))=Zo j/\w.cell? ((a.add (i*3)).add 1)=Zo f/\w.cell? ((a.add (i*3)).add 2)=Zo g /\
      a8 (fun b=>b<w.heap.size) w N t j f g) len (fun i hi=>by
     have W:=e i hi
     rw[List.getElem?_eq_getElem om]at W
     obtain⟨Q,h1,h2⟩:=Option.bind_eq_some_iff.1 W
     obtain⟨t,j,f,g,rfl,D⟩:=ih n' om N om Q _ h2
     obtain⟨-,-,d⟩:=World.cells?_some h1
     refine⟨t,j,f,g,?_,?_,?_,D⟩
     ·have o:=d 0 om
      rw[show (a.add (i*3)).add 0=a.add (i*3) from by rw[add_add];rfl]at o
      exact o
     ·exact d 1 om
     ·exact d 2 om)
    refine⟨(⟨s,l,O⟩:Kd (K N)),_,_,_,rfl,rfl,X,hl,Zo a,cap,by show _=Value.slice _ O.length _;rw[m],by show O.length<=_;rw[m];exact Nat.le_trans U C,fun L=>?_⟩;have o:0<len:=by
     rcases Nat.eq_zero_or_pos len with o|o;·exact absurd (List.eq_nil_of_length_eq_zero (by rw[m,o])) L
     ·exact o
    obtain⟨b,off,z⟩:=a;have r:z=none:=by obtain⟨j,f,g,u,-⟩:=T 0 om;simpa [Addr.add] using World.cell?_spot u
    subst r;refine⟨b,off,rfl,?_,fun i hi=>?_⟩;·obtain⟨j,f,g,u,-⟩:=T 0 om;rw[add_plain]at u;exact rX u
    ·obtain⟨j,f,g,u,V,E,D⟩:=T i hi;rw[add_plain]at u V E;rw[add_plain]at V E;exact⟨j,f,g,u,V,E,D⟩
end Go.Proofs.YtcfojmaccikgeaaGreatDoor
namespace Go.Proofs.YtcfojmaccikgeaaGreatDoor
open Go.ChangeShapes Go.WideShapes Go.ChangeAt Go.RowKit
theorem Tryz.ownk:ownKnob Tryz.prog.godebug=none:=by kernel_rfl
theorem Tryz.laidOutk:laidOutB Tryz.prog=true:=by kernel_rfl
theorem Tryz.cells_kind:Tryz.prog.cellsOf 52=3:=by kernel_rfl
theorem Tryz.cells_kkids:Tryz.prog.cellsOf 50=1:=by kernel_rfl
theorem Tryz.cells_knames:Tryz.prog.cellsOf 23=1:=by kernel_rfl
theorem Tryz.cells_kint:Tryz.prog.cellsOf 3=1:=by kernel_rfl
theorem Tryz.cells_kstr:Tryz.prog.cellsOf 9=1:=by kernel_rfl
theorem Tryz.kindType:∃a,yu Tryz.prog 52 50 a 3 9 23:=
 ⟨_,Tryz.underlying52,Tryz.cells_kind,Tryz.underlying50,Tryz.underlying3,Tryz.underlying9,Tryz.underlying23,Tryz.cells_kint,Tryz.cells_kstr,Tryz.cells_knames,Tryz.cells_kkids,
  ⟨_,rfl,rfl,rfl⟩,⟨_,rfl,rfl,rfl⟩,⟨_,rfl,rfl,rfl⟩,rfl⟩
end Go.Proofs.YtcfojmaccikgeaaGreatDoor
namespace Go.Proofs.YtcfojmaccikgeaaGreatDoor
open Go.ChangeShapes Go.WideShapes Go.ChangeAt Go.RowKit
theorem Tryz.cells_node:Tryz.prog.cellsOf 26=5:=by kernel_rfl
theorem Tryz.cells_nodes:Tryz.prog.cellsOf 24=1:=by kernel_rfl
theorem Tryz.cells_names:Tryz.prog.cellsOf 23=1:=by kernel_rfl
theorem Tryz.cells_int:Tryz.prog.cellsOf 3=1:=by kernel_rfl
theorem Tryz.cells_str:Tryz.prog.cellsOf 9=1:=by kernel_rfl
theorem Tryz.nodeType:∃a,yA Tryz.prog 26 24 a 3 9 23:=
 ⟨_,Tryz.underlying26,Tryz.cells_node,Tryz.underlying24,Tryz.underlying3,Tryz.underlying9,Tryz.underlying23,Tryz.cells_int,Tryz.cells_str,Tryz.cells_names,Tryz.cells_nodes,
  ⟨_,rfl,rfl,rfl⟩,⟨_,rfl,rfl,rfl⟩,⟨_,rfl,rfl,rfl⟩,⟨_,rfl,rfl,rfl⟩,⟨_,rfl,rfl,rfl⟩,rfl⟩
end Go.Proofs.YtcfojmaccikgeaaGreatDoor
