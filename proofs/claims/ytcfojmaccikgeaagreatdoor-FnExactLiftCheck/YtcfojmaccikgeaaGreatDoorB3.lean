import Derived.Test.YtcfojmaccikgeaaGreatDoorB2
import Derived.ProofKit
import Derived.Deep.Strs
open Option renaming some→Zo
namespace Go.Proofs.YtcfojmaccikgeaaGreatDoor
open Go.ChangeShapes Go.WideShapes Go.ChangeAt Go.RowKit Go.Deep
variable {w:World} {v:Value} {H:Type} {P:Program} {spare:Nat->Bool} {held:Bool}
theorem xg{α:Type}{p:Nat->α->Prop}:∀n,(∀i,i<n->∃x,p i x)->∃l:List α,l.length=n/\∀i (h:i<l.length),p i l[i]:=by
 intro n;induction n with
 | zero=>intro _;exact⟨[],rfl,fun i h=>absurd h (Nat.not_lt_zero _)⟩
 | succ n e=>
  intro h;obtain⟨l,b,c⟩:=e (fun i hi=>h i om);obtain⟨x,d⟩:=h n om;refine⟨l++[x],by simp[b],fun i hi=>?_⟩;by_cases a:i<l.length;·rw[List.getElem_append_left a];exact c i a
  ·have:i=l.length:=by simp at hi;omega
   subst this;simp;rw[b];exact d
theorem sr{b o:Nat}(h:w.cell? ⟨b,o,none⟩=Zo v):b<w.heap.size:=
 Classical.byContradiction fun a=>by
  have:w.heap[b]?=none:=Array.getElem?_eq_none om
  simp[World.cell?,this]at h
theorem tH {enc:TypeId × Value->H} {t e:TypeId} {fuel:Nat} {x:DataW H × List MemPlace}
  (z:P.underlying t=Zo (.slice e)) (u:P.underlying e=Zo .string) (r:P.cellsOf e=1) (h:DataW.trod enc P w 0 spare held fuel t [v]=Zo x) :
  ∃l:List ZN,fL (fun b=>b<w.heap.size) w l v:=by
 rcases open_strs z u r h with ⟨g,-⟩|⟨a,len,cap,m,q,g,-,A,B,k,-,p⟩;·simp at g;subst g;exact⟨[],none,0,rfl,by simp[maxLen],fun s o=>absurd o zS,fun h=>absurd rfl h⟩
 ·simp at g;subst g;have y:len<=m:=by rw[k];split<;>omega
  refine⟨(List.range len).map q,Zo a,cap,zS,by simp;unfold maxLen at *;omega,?_,fun n=>?_⟩;·intro s o;obtain⟨i,hi,rfl⟩:=List.mem_map.1 o;exact (p i (by simp at hi;omega)).2
  ·have f:0<len:=by
    rcases Nat.eq_zero_or_pos len with f|f;·subst f;simp at n
    ·exact f
   obtain⟨b,off,j⟩:=a;have d:j=none:=by simpa [Addr.add] using World.cell?_spot (p 0 om).1
   subst d;have c:∀i,i<len->w.cell? ⟨b,off+i,none⟩=Zo (.string (q i)):=fun i hi=>by have:=(p i om).1;rwa [add_plain]at this
   exact⟨b,off,rfl,sr (c 0 f),fun i hi=>by simp at hi;rw[c i hi];simp⟩
structure xS(P:Program)(tt ks:TypeId)(fs:Array Field)(ti ts tn:TypeId):Prop where
 tree:P.underlying tt=Zo (.struct fs)
 cells:P.cellsOf tt=5
 kids:P.underlying ks=Zo (.slice tt)
 int:P.underlying ti=Zo (.int .i64)
 str:P.underlying ts=Zo .string
 names:P.underlying tn=Zo (.slice ts)
 ci:P.cellsOf ti=1
 cs:P.cellsOf ts=1
 cn:P.cellsOf tn=1
 ck:P.cellsOf ks=1
 f0:∃f,fs[0]?=Zo f/\f.type=ti/\f.offset=0
 f1:∃f,fs[1]?=Zo f/\f.type=ti/\f.offset=1
 f2:∃f,fs[2]?=Zo f/\f.type=ts/\f.offset=2
 f3:∃f,fs[3]?=Zo f/\f.type=tn/\f.offset=3
 f4:∃f,fs[4]?=Zo f/\f.type=ks/\f.offset=4
 nf:fs.size=5
theorem DW {enc:TypeId × Value->H} {tt ks ti ts tn:TypeId} {fs:Array Field} (F:xS P tt ks fs ti ts tn) :
  ∀c N,c<=N->∀(cs:List Value)(x:DataW H×List MemPlace),DataW.trod enc P w 0 spare held c tt cs=Zo x ->
   ∃(t:T N)(c0 c1 c2 c3 c4:Value),cs=[c0,c1,c2,c3,c4]/\gE (fun b=>b<w.heap.size) w N t c0 c1 c2 c3 c4:=by
 intro c;induction c using Nat.strongRecOn with
 | ind c ih=>
  intro N hN cs x h;obtain⟨xs,n,rfl,-,q,O,A⟩:=DataW.trod_struct F.tree h;rw[F.cells]at q;match cs,q with
  | [c0,c1,c2,c3,c4],_=>
   obtain⟨f0,e0,t0,o0⟩:=F.f0;obtain⟨f1,e1,t1,o1⟩:=F.f1;obtain⟨f2,e2,t2,o2⟩:=F.f2;obtain⟨f3,e3,t3,o3⟩:=F.f3;obtain⟨f4,e4,t4,o4⟩:=F.f4;have get:∀i,i<5->∃y,xs[i]?=Zo y:=fun i hi=>⟨xs[i]'(by rw[O,F.nf];exact hi),List.getElem?_eq_getElem _⟩;have W:=A 0 f0 e0;have X:=A 1 f1 e1;have Y:=A 2 f2 e2;have Z:=A 3 f3 e3;have r4:=A 4 f4 e4;obtain⟨y0,g0⟩:=get 0 om;obtain⟨y1,g1⟩:=get 1 om;obtain⟨y2,g2⟩:=get 2 om;obtain⟨y3,g3⟩:=get 3 om;obtain⟨y4,g4⟩:=get 4 om;rw[t0,o0,F.ci,g0]at W;rw[t1,o1,F.ci,g1]at X;rw[t2,o2,F.cs,g2]at Y;rw[t3,o3,F.cn,g3]at Z;rw[t4,o4,F.ck,g4]at r4;simp only[List.drop_zero,List.drop_succ_cons,List.take_succ_cons,List.take_zero]at W X Y Z r4;obtain⟨s,hs,-,ws⟩:=DataW.trod_int F.int W;obtain⟨m,hm,-,wm⟩:=DataW.trod_int F.int X;obtain⟨xx,hx,-,wx⟩:=DataW.trod_string F.str Y;simp at hs hm hx;subst hs hm hx;obtain⟨l,hl⟩:=tH F.names F.str F.cs Z;obtain⟨N,rfl⟩:∃M,N=M+1:=⟨N-1,om⟩;rcases DataW.trod_slice F.kids r4 with ⟨B,-⟩|⟨a,len,cap,E,rest,n',rfl,B,-,-,J,G,aa,e,-⟩;·simp at B;subst B;refine⟨(⟨s,m,xx,l,[]⟩:Nd (T N)),_,_,_,_,_,rfl,rfl,rfl,rfl,wx,ws,wm,hl,none,0,rfl,by simp[maxLen],fun h=>absurd rfl h⟩
   ·simp at B;subst B;rw[F.cells]at e;obtain⟨Q,u,I⟩:=xg (p:=fun i (t:T N)=>∃ f g j k o,w.cell? (a.add (i*5))=Zo f/\w.cell? ((a.add (i*5)).add 1)=Zo g/\w.cell? ((a.add (i*5)).add 2)=Zo j/\w.cell? ((a.add (i*5)).add 3)=Zo k /\
      w.cell? ((a.add (i*5)).add 4)=Zo o/\gE (fun b=>b<w.heap.size) w N t f g j k o) len (fun i hi=>by
     have hc:=e i hi
     rw[List.getElem?_eq_getElem om]at hc
     obtain⟨D,h1,h2⟩:=Option.bind_eq_some_iff.1 hc
     obtain⟨t,f,g,j,k,o,rfl,L⟩:=ih n' om N om D _ h2
     obtain⟨-,-,d⟩:=World.cells?_some h1
     refine⟨t,f,g,j,k,o,?_,?_,?_,?_,?_,L⟩
     ·have r:=d 0 om
      rw[show (a.add (i*5)).add 0=a.add (i*5) from by rw[add_add];rfl]at r
      exact r
     ·exact d 1 om
     ·exact d 2 om
     ·exact d 3 om
     ·exact d 4 om)
    refine⟨(⟨s,m,xx,l,Q⟩:Nd (T N)),_,_,_,_,_,rfl,rfl,rfl,rfl,wx,ws,wm,hl,Zo a,cap,by show _=Value.slice _ Q.length _;rw[u],by show Q.length<=_;rw[u];exact Nat.le_trans J G,fun K=>?_⟩;have r:0<len:=by
     rcases Nat.eq_zero_or_pos len with r|r;·exact absurd (List.eq_nil_of_length_eq_zero (by rw[u,r])) K
     ·exact r
    obtain⟨b,off,C⟩:=a;have v:C=none:=by obtain⟨f,g,j,k,o,z,-⟩:=I 0 om;simpa [Addr.add] using World.cell?_spot z
    subst v;refine⟨b,off,rfl,?_,fun i hi=>?_⟩;·obtain⟨f,g,j,k,o,z,-⟩:=I 0 om;rw[add_plain]at z;exact sr z
    ·obtain⟨f,g,j,k,o,z,R,S,U,V,L⟩:=I i hi;rw[add_plain]at z R S U V;rw[add_plain]at R S U V;exact⟨f,g,j,k,o,z,R,S,U,V,L⟩
end Go.Proofs.YtcfojmaccikgeaaGreatDoor
namespace Go.Proofs.YtcfojmaccikgeaaGreatDoor
open Go.ChangeShapes Go.WideShapes Go.ChangeAt Go.RowKit Go.Deep
structure xR(P:Program)(tt ks:TypeId)(fs:Array Field)(ti ts tn:TypeId):Prop where
 tree:P.underlying tt=Zo (.struct fs)
 cells:P.cellsOf tt=3
 kids:P.underlying ks=Zo (.slice tt)
 int:P.underlying ti=Zo (.int .i64)
 str:P.underlying ts=Zo .string
 names:P.underlying tn=Zo (.slice ts)
 ci:P.cellsOf ti=1
 cs:P.cellsOf ts=1
 cn:P.cellsOf tn=1
 ck:P.cellsOf ks=1
 f0:∃f,fs[0]?=Zo f/\f.type=ti/\f.offset=0
 f1:∃f,fs[1]?=Zo f/\f.type=tn/\f.offset=1
 f2:∃f,fs[2]?=Zo f/\f.type=ks/\f.offset=2
 nf:fs.size=3
theorem vJ {H:Type} {enc:TypeId × Value->H} {P:Program} {w:World} {u:Nat->Bool} {v:Bool} {Z ks ti ts tn:TypeId} {fs:Array Field} (F:xR P Z ks fs ti ts tn) :
  ∀c N,c<=N->∀(cs:List Value)(x:DataW H×List MemPlace),DataW.trod enc P w 0 u v c Z cs=Zo x ->
   ∃(t:K N)(c0 c1 c2:Value),cs=[c0,c1,c2]/\a8 (fun b=>b<w.heap.size) w N t c0 c1 c2:=by
 intro c;induction c using Nat.strongRecOn with
 | ind c ih=>
  intro N hN cs x h;obtain⟨xs,n,rfl,-,k,O,E⟩:=DataW.trod_struct F.tree h;rw[F.cells]at k;match cs,k with
  | [c0,c1,c2],_=>
   obtain⟨f0,e0,t0,o0⟩:=F.f0;obtain⟨f1,e1,t1,o1⟩:=F.f1;obtain⟨f2,e2,t2,o2⟩:=F.f2;have get:∀i,i<3->∃y,xs[i]?=Zo y:=fun i hi=>⟨xs[i]'(by rw[O,F.nf];exact hi),List.getElem?_eq_getElem _⟩;have T:=E 0 f0 e0;have U:=E 1 f1 e1;have V:=E 2 f2 e2;obtain⟨y0,g0⟩:=get 0 om;obtain⟨y1,g1⟩:=get 1 om;obtain⟨y2,g2⟩:=get 2 om;rw[t0,o0,F.ci,g0]at T;rw[t1,o1,F.cn,g1]at U;rw[t2,o2,F.ck,g2]at V;simp only[List.drop_zero,List.drop_succ_cons,List.take_succ_cons,List.take_zero]at T U V;obtain⟨s,Y,-,ws⟩:=DataW.trod_int F.int T;simp at Y;subst Y;obtain⟨l,X⟩:=tH F.names F.str F.cs U;obtain⟨N,rfl⟩:∃M,N=M+1:=⟨N-1,om⟩;rcases DataW.trod_slice F.kids V with ⟨z,-⟩|⟨a,len,cap,C,rest,n',rfl,z,-,-,I,D,aa,d,-⟩;·simp at z;subst z;refine⟨(⟨s,l,[]⟩:Kd (K N)),_,_,_,rfl,rfl,ws,X,none,0,rfl,by simp[maxLen],fun h=>absurd rfl h⟩
   ·simp at z;subst z;rw[F.cells]at d;obtain⟨Q,o,G⟩:=xg (p:=fun i (t:K N)=>∃ f g j,w.cell? (a.add (i*3))=Zo f/\w.cell? ((a.add (i*3)).add 1)=Zo g/\w.cell? ((a.add (i*3)).add 2)=Zo j /\
      a8 (fun b=>b<w.heap.size) w N t f g j) len (fun i hi=>by
     have W:=d i hi
     rw[List.getElem?_eq_getElem om]at W
     obtain⟨B,h1,h2⟩:=Option.bind_eq_some_iff.1 W
     obtain⟨t,f,g,j,rfl,L⟩:=ih n' om N om B _ h2
     obtain⟨-,-,e⟩:=World.cells?_some h1
     refine⟨t,f,g,j,?_,?_,?_,L⟩
     ·have m:=e 0 om
      rw[show (a.add (i*3)).add 0=a.add (i*3) from by rw[add_add];rfl]at m
      exact m
     ·exact e 1 om
     ·exact e 2 om)
    refine⟨(⟨s,l,Q⟩:Kd (K N)),_,_,_,rfl,rfl,ws,X,Zo a,cap,by show _=Value.slice _ Q.length _;rw[o],by show Q.length<=_;rw[o];exact Nat.le_trans I D,fun J=>?_⟩;have m:0<len:=by
     rcases Nat.eq_zero_or_pos len with m|m;·exact absurd (List.eq_nil_of_length_eq_zero (by rw[o,m])) J
     ·exact m
    obtain⟨b,off,A⟩:=a;have q:A=none:=by obtain⟨f,g,j,r,-⟩:=G 0 om;simpa [Addr.add] using World.cell?_spot r
    subst q;refine⟨b,off,rfl,?_,fun i hi=>?_⟩;·obtain⟨f,g,j,r,-⟩:=G 0 om;rw[add_plain]at r;exact sr r
    ·obtain⟨f,g,j,r,R,S,L⟩:=G i hi;rw[add_plain]at r R S;rw[add_plain]at R S;exact⟨f,g,j,r,R,S,L⟩
end Go.Proofs.YtcfojmaccikgeaaGreatDoor
namespace Go.Proofs.YtcfojmaccikgeaaGreatDoor
open Go.ChangeShapes Go.WideShapes Go.ChangeAt Go.RowKit
theorem Tryz.ownk:ownKnob Tryz.prog.godebug=none:=by kernel_rfl
theorem Tryz.laidOutk:laidOutB Tryz.prog=true:=by kernel_rfl
theorem Tryz.cells_kind:Tryz.prog.cellsOf 52=3:=by kernel_rfl
theorem Tryz.cells_kkids:Tryz.prog.cellsOf 50=1:=by kernel_rfl
theorem Tryz.cells_knames:Tryz.prog.cellsOf 23=1:=by kernel_rfl
theorem Tryz.cells_kint:Tryz.prog.cellsOf 3=1:=by kernel_rfl
theorem Tryz.cells_kstr:Tryz.prog.cellsOf 9=1:=by kernel_rfl
theorem Tryz.kindType:∃a,xR Tryz.prog 52 50 a 3 9 23:=
 ⟨_,Tryz.underlying52,Tryz.cells_kind,Tryz.underlying50,Tryz.underlying3,Tryz.underlying9,Tryz.underlying23,Tryz.cells_kint,Tryz.cells_kstr,Tryz.cells_knames,Tryz.cells_kkids,
  ⟨_,rfl,rfl,rfl⟩,⟨_,rfl,rfl,rfl⟩,⟨_,rfl,rfl,rfl⟩,rfl⟩
end Go.Proofs.YtcfojmaccikgeaaGreatDoor
namespace Go.Proofs.YtcfojmaccikgeaaGreatDoor
open Go.ChangeShapes Go.WideShapes Go.ChangeAt Go.RowKit
theorem Tryz.own:ownKnob Tryz.prog.godebug=none:=by kernel_rfl
theorem Tryz.cells_node:Tryz.prog.cellsOf 26=5:=by kernel_rfl
theorem Tryz.cells_nodes:Tryz.prog.cellsOf 24=1:=by kernel_rfl
theorem Tryz.cells_names:Tryz.prog.cellsOf 23=1:=by kernel_rfl
theorem Tryz.cells_int:Tryz.prog.cellsOf 3=1:=by kernel_rfl
theorem Tryz.cells_str:Tryz.prog.cellsOf 9=1:=by kernel_rfl
theorem Tryz.nodeType:∃a,xS Tryz.prog 26 24 a 3 9 23:=
 ⟨_,Tryz.underlying26,Tryz.cells_node,Tryz.underlying24,Tryz.underlying3,Tryz.underlying9,Tryz.underlying23,Tryz.cells_int,Tryz.cells_str,Tryz.cells_names,Tryz.cells_nodes,
  ⟨_,rfl,rfl,rfl⟩,⟨_,rfl,rfl,rfl⟩,⟨_,rfl,rfl,rfl⟩,⟨_,rfl,rfl,rfl⟩,⟨_,rfl,rfl,rfl⟩,rfl⟩
end Go.Proofs.YtcfojmaccikgeaaGreatDoor
