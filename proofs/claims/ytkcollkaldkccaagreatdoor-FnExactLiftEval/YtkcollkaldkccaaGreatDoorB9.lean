import Derived.Test.YtkcollkaldkccaaGreatDoorB8
import Derived.Test.YtkcollkaldkccaaGreatDoorB5
set_option linter.all false
open List renaming length -> J,getD->Un
open Go.Calls renaming mono -> H
open Go.Value renaming slice->A,int->I,string->Zt,pointer->Zp,agg->Za,tuple->Zu,bool->Zb
open Go.IntKind renaming i64->U
open Go.Ending renaming returned->Zr
open Go.Obj renaming cells->Zc
open Option renaming none->Y,some->Z
open Go renaming World->Zw,Value->Zv,maxLen->WX,Calls->WU
open ByteArray renaming empty->WT
open Go.Lib renaming itoa->W6
open Go.Proofs.Tryz renaming prog->WV
open Go.RowKit renaming Hid->G
namespace Go.Proofs.YtkcollkaldkccaaGreatDoor
open Go.RowKit Go.Proofs.Tryz
set_option maxRecDepth 100000
set_option maxHeartbeats 16000000
variable {w:Zw} {R i m n i' nc k kc:Nat} {s:ZB} {S:ZN} {c0 c1 c2:Zv} {bad' act:Bool} {α:Type} {na ka:ZA} {d:Int}
def ml(S:ZN)(w:Zw)(m:Nat)(x:Int)(a:(Lit.int U x).wf=true):cW S w (m+1) (⟨x,[],[]⟩:Kd (K m)) (I U x) (A Y 0 0) (A Y 0 0):=
 ⟨D,a,⟨Y,0,D,gO,λs h=>eI,λh=>absurd D h⟩,⟨Y,0,D,gO,λh=>absurd D h⟩⟩
def fF {N:Nat} (h:w.heap[N]?=Z (Zc UC 177 (0,0))) :
  (a7 w N 0=Z (I U 0)/\a7 w N 1=Z (A Y 0 0)/\a7 w N 2=Z (A Y 0 0)) /\
   w.frozen? ⟨N,0,Y⟩=false/\w.frozen? ⟨N,1,Y⟩=false/\w.frozen? ⟨N,2,Y⟩=false:=by refine⟨⟨?_,?_,?_⟩,?_,?_,?_⟩<;>simp[World.cell?,World.frozen?,h]
def Jd (n m:Nat) {a:Bool} (h:d9 w R s i a) (b:a=true∨n=0) (hi:a=false->i<=s.size) :
  WU WV 183 #[Zp (b5 R 0),I U (7-(n:Int))] w (ey (m+1) n w R s i a):=by
 have f:=h.lt;have d:rX (m+1) n s i a (⟨0,[],[]⟩:Kd (K m)) i true:=by
  refine⟨E,zS,λc=>(by have:=hi c;omega),E,λt0 e c k j=>?_⟩;rcases b with b|b;·rw[b]at c;cases c
  .subst b;simp[dj]at j
 have HP:G (∀o,ey (m+1) n w R s i a (Zr (Za UC)) ((w.setCell ⟨R,2,Y⟩ (Zb true)).alloc o)):=λo=>⟨(cH.set R 2 w _).trans (cH.alloc _ _ _),_,_,_,_,i,true,D,ml _ _ m 0 D,(Qf _ _ _ (by simpa using f)).trans (h.set2 true),d⟩;have c2:=h.cell2;have fz:=h.free 2;have qz:a=false->(6:Int)<7-(n:Int):=λc=>by
  rcases b with b|b;·rw[b]at c;cases c
  .omega
 clear d h;cases a with
 | true=>exact T1
 | false=>have g:=qz D;exact T1
def qaK (n m:Nat) (h:d9 w R s i false) (C:s.size<=10000) (r:i<=s.size) (hl:cF s i=110) :
  WU WV 183 #[Zp (b5 R 0),I U (7-((n+1:Nat):Int))] w (ey (m+1) (n+1) w R s i false):=by
 have y:=h.lt;have⟨P,f,K,c2,v⟩:=fj (k:=110) (Zc UC 177) h fi;have o:¬(6:Int)<7-((n+1:Nat):Int):=E;have d:=a8 hl;clear h hl;generalize B:7-((n+1:Nat):Int)=dp at *;go_in;go_wp2_with fail;rw[<- f];clear f c2;refine H v ?_;rintro e Q ⟨rfl,c,j,L,b⟩;have u:=a8 (fC ⟨#[110,117,109]⟩ j C zC r);clear v j;go_wp2_with fail;refine H u ?_;rintro e O ⟨rfl,a,g⟩;have M:=a.size;have⟨⟨r0,r1,r2⟩,f0,f1,f2⟩:=fF ((a.block w.heap.size E E).trans E);have HP:G (ey (m+1) (n+1) w R s i false (Zr (UD 1 Y 0 0 Y 0 0)) (gh O w.heap.size 0 (I U 1) (A Y 0 0) (A Y 0 0))):=by
  rcases g with ⟨z,N,t⟩|⟨z,t⟩;·exact lY (c.trans a) y t (ml _ _ m 1 D) (nD (x:=⟨#[110,117,109]⟩) r (.inl ⟨z,N,D,D⟩) zC (λt0 l p q=>Jt d p q))
  .exact lY (c.trans a) y t (ml _ _ m 1 D) (nD (x:=⟨#[110,117,109]⟩) r zE zC (λt0 l p q=>Jt d p q))
 clear u g a c b;exact io
def R8 (n m:Nat) (h:d9 w R s i false) (C:s.size<=10000) (r:i<=s.size) (hl:cF s i=116) :
  WU WV 183 #[Zp (b5 R 0),I U (7-((n+1:Nat):Int))] w (ey (m+1) (n+1) w R s i false):=by
 have y:=h.lt;have⟨P,f,K,c2,v⟩:=fj (k:=116) (Zc UC 177) h fi;have o:¬(6:Int)<7-((n+1:Nat):Int):=E;have d:=a8 hl;clear h hl;generalize B:7-((n+1:Nat):Int)=dp at *;go_in;go_wp2_with fail;rw[<- f];clear f c2;refine H v ?_;rintro e Q ⟨rfl,c,j,L,b⟩;have u:=a8 (fC ⟨#[116,101,120,116]⟩ j C zC r);clear v j;go_wp2_with fail;refine H u ?_;rintro e O ⟨rfl,a,g⟩;have M:=a.size;have⟨⟨r0,r1,r2⟩,f0,f1,f2⟩:=fF ((a.block w.heap.size E E).trans E);have HP:G (ey (m+1) (n+1) w R s i false (Zr (UD 2 Y 0 0 Y 0 0)) (gh O w.heap.size 0 (I U 2) (A Y 0 0) (A Y 0 0))):=by
  rcases g with ⟨z,N,t⟩|⟨z,t⟩;·exact lY (c.trans a) y t (ml _ _ m 2 D) (nD (x:=⟨#[116,101,120,116]⟩) r (.inl ⟨z,N,D,D⟩) zC (λt0 l p q=>Fs d p q))
  .exact lY (c.trans a) y t (ml _ _ m 2 D) (nD (x:=⟨#[116,101,120,116]⟩) r zE zC (λt0 l p q=>Fs d p q))
 clear u g a c b;exact io
def R5 (n m:Nat) (h:d9 w R s i false) (C:s.size<=10000) (r:i<=s.size) (hl:cF s i=102) :
  WU WV 183 #[Zp (b5 R 0),I U (7-((n+1:Nat):Int))] w (ey (m+1) (n+1) w R s i false):=by
 have y:=h.lt;have⟨P,f,K,c2,v⟩:=fj (k:=102) (Zc UC 177) h fi;have o:¬(6:Int)<7-((n+1:Nat):Int):=E;have d:=a8 hl;clear h hl;generalize B:7-((n+1:Nat):Int)=dp at *;go_in;go_wp2_with fail;rw[<- f];clear f c2;refine H v ?_;rintro e Q ⟨rfl,c,j,L,b⟩;have u:=a8 (fC ⟨#[102,108,97,103]⟩ j C zC r);clear v j;go_wp2_with fail;refine H u ?_;rintro e O ⟨rfl,a,g⟩;have M:=a.size;have⟨⟨r0,r1,r2⟩,f0,f1,f2⟩:=fF ((a.block w.heap.size E E).trans E);have HP:G (ey (m+1) (n+1) w R s i false (Zr (UD 3 Y 0 0 Y 0 0)) (gh O w.heap.size 0 (I U 3) (A Y 0 0) (A Y 0 0))):=by
  rcases g with ⟨z,N,t⟩|⟨z,t⟩;·exact lY (c.trans a) y t (ml _ _ m 3 D) (nD (x:=⟨#[102,108,97,103]⟩) r (.inl ⟨z,N,D,D⟩) zC (λt0 l p q=>Ek d p q))
  .exact lY (c.trans a) y t (ml _ _ m 3 D) (nD (x:=⟨#[102,108,97,103]⟩) r zE zC (λt0 l p q=>Ek d p q))
 clear u g a c b;exact io
def Jy {x:Int} {t:K m} {b c:Nat} (f:(Lit.int U x).wf=true) (d:S b) (a:a7 w b 0=Z c0) (h1:a7 w b 1=Z c1) (h2:a7 w b 2=Z c2) (e:cW S w m t c0 c1 c2) :
  cW S w (m+1) (⟨x,[],[t]⟩:Kd (K m)) (I U x) (A Y 0 0) (A (b5 b 0) 1 c):=by refine⟨D,f,⟨Y,0,D,gO,zS,zS⟩,⟨b5 b 0,c,D,gO,λ_=>⟨b,0,D,d,λi hi=>?_⟩⟩⟩;have:i=0:=oC;subst this;exact⟨c0,c1,c2,by simpa using a,Aa,Ct,e⟩
def Oj (j0:ni n) (m:Nat) (ql:n+1<=m) (aa:n<=6) (h:d9 w R s i false) (qa:s.size<=10000) (q7:i<=s.size) (hl:cF s i=63) :
  WU WV 183 #[Zp (b5 R 0),I U (7-((n+1:Nat):Int))] w (ey (m+1) (n+1) w R s i false):=by
 have F:=h.lt;have⟨W1,u,ac,c2,P⟩:=fj (Zc UC 177) h D;have S:¬(6:Int)<7-((n+1:Nat):Int):=E;have Q:=a8 hl;have o:=a8 (EN hl zC);have qq:((cF s i).toNat:Nat)=63:=fi;rw[qq]at P;have ab:IntKind.i64.wrap (7-((n+1:Nat):Int)+1)=7-(n:Int):=kG;have q6:=a8 j0;clear h hl qq j0;generalize T:7-((n+1:Nat):Int)=dp at *;clear T;go_in;go_wp2_with fail;rw[<- u];clear u c2;refine H P ?_;rintro e w2 ⟨rfl,v,y,ad,f⟩;have W:=a8 (fC ⟨#[63]⟩ y qa zC q7);clear P y;go_wp2_with fail;refine H W ?_;rintro e w3 ⟨rfl,a,⟨q,q2,z⟩|⟨q,z⟩⟩;case inr=>have q:=q;rw[o.1]at q;cases q
 have z:=z;have ae:=a.size;have g:=(a.block w.heap.size E E).trans E;have k:=v.trans a;have q5:=o.2;have X:=a8 (q6 m R s (i+1) false w3 ql z qa E E);clear W v a f q q2 z q6 o;go_wp2_with fail;refine H X ?_;rintro e r ⟨c,t,d0,d1,d2,i1,q9,rfl,V,p,q8⟩;obtain⟨B,C,L,K,M,O,N,rfl,rfl,rfl⟩:=V.shape;have af:=c.size;have j:=(c.block w.heap.size E E).trans E;have l:=k.trans c;clear X g k;have d:=lP.new r (I U B) (A C L K) (A M O N) 177;have x:cH R w (r.alloc (UF B C L K M O N)):=l.trans (cH.alloc _ _ _);have⟨⟨r0,r1,r2⟩,f0,f1,f2⟩:=fF ((Qf r (UF B C L K M O N) w.heap.size E).trans E);have HP:G (ey (m+1) (n+1) w R s i false (Zr (UD 6 Y 0 0 (b5 r.heap.size 0) 1 1)) (gh (r.alloc (UF B C L K M O N)) w.heap.size 0 (I U 6) (A Y 0 0) (A (b5 r.heap.size 0) 1 1))):=by refine lY x F ((Qf _ _ _ (by have:=p.lt;omega)).trans p) (Jy (t:=t) D ⟨E,zS⟩ d.c0 d.c1 d.c2 ?_) (LF Q q8);exact V.keep (λb qc=>Qf _ _ _ qc.2) zE
 clear p q8 V d x j l c;exact io
def R7 (O:ni n) (m:Nat) (hm:n+1<=m) (af:n<=6) (h:d9 w R s i false) (hs:s.size<=10000) (hi:i<=s.size) (hl:cF s i=91) :
  WU WV 183 #[Zp (b5 R 0),I U (7-((n+1:Nat):Int))] w (ey (m+1) (n+1) w R s i false):=by
 have hR:=h.lt;have⟨W1,q6,ah,c2,HL⟩:=fj (Zc UC 177) h D;have aa:¬(6:Int)<7-((n+1:Nat):Int):=E;have N:=a8 hl;have M:=a8 (EN hl zC);have S:((cF s i).toNat:Nat)=91:=fi;rw[S]at HL;have ag:IntKind.i64.wrap (7-((n+1:Nat):Int)+1)=7-(n:Int):=kG;have HN:=a8 O;clear h hl S O;generalize ab:7-((n+1:Nat):Int)=dp at *;clear ab;go_in;go_wp2_with fail;rw[<- q6];clear q6 c2;refine H HL ?_;rintro e w2 ⟨rfl,q8,qq,ai,v⟩;have HE:=a8 (fC ⟨#[91]⟩ qq hs zC hi);clear HL qq;go_wp2_with fail;refine H HE ?_;rintro e w3 ⟨rfl,p,⟨l,q2,k⟩|⟨l,k⟩⟩;case inr=>have l:=l;rw[M.1]at l;cases l
 have k:=k;have aj:=p.size;have x:=(p.block w.heap.size E E).trans E;have B:=q8.trans p;have ad:=M.2;have HK:=a8 (HN m R s (i+1) false w3 hm k hs E E);clear HE q8 p v l q2 k HN M;go_wp2_with fail;refine H HK ?_;rintro e d ⟨q,t,d0,d1,d2,qa,W,rfl,ht,P,hG⟩;obtain⟨F,qc,ql,q7,ya,yl,yc,rfl,rfl,rfl⟩:=ht.shape;have ak:=q.size;have y:=(q.block w.heap.size E E).trans E;have C:=B.trans q;clear HK x B;have⟨j,g⟩:=fk ((d.alloc (UF F qc ql q7 ya yl yc)).alloc (UF 4 Y 0 0 (b5 d.heap.size 0) 1 1));have al:j.heap.size=d.heap.size+2:=by rw[g];simp
 have f:Bw d j:=by rw[g];exact (eC _ _).alloc zS _
 have r:lP j d.heap.size (I U F) (A qc ql q7) (A ya yl yc):=by rw[g];exact (lP.new d (I U F) (A qc ql q7) (A ya yl yc) 177).keep (eC _ _)
 have u:lP j (d.heap.size+1) (I U 4) (A Y 0 0) (A (b5 d.heap.size 0) 1 1):=by have:=lP.new (d.alloc (UF F qc ql q7 ya yl yc)) (I U 4) (A Y 0 0) (A (b5 d.heap.size 0) 1 1) 177;rw[g];simpa using this
 have Q:=(f.block R E).trans P;have ae:=P.lt;have⟨g1,g2,g3,g4,g5⟩:=id hG;have g3:=g3 D;have j0:=a8 hG;have V:G (WU WV 219 #[Zp (b5 R 0),Zt ⟨#[93]⟩] j λe L=>e=Zr (Zu #[])/\cH R j L/\∃(i':Nat)(z:Bool),d9 L R s i' z/\rX (m+1) (n+1) s i false (⟨4,[],[t]⟩:Kd (K m)) i' z):=by
  by_cases q9:qa<=s.size
  .refine H (fC ⟨#[93]⟩ Q hs zC q9) ?_;rintro e L ⟨rfl,O,⟨l,q2,k⟩|⟨l,k⟩⟩;·exact⟨D,O,qa+1,W,k,ym N j0 (.inl ⟨l,q2,D,D⟩)⟩
   .exact⟨D,O,qa,true,k,ym N j0 (.inr ⟨λ_=>l,D,D⟩)⟩
  .refine H (RM ⟨#[93]⟩ Q zC (by have:(⟨#[93]⟩:ZB).size=1:=D;omega) E) ?_;rintro e L ⟨rfl,O,k⟩;exact⟨D,O,qa,true,k,ym N j0 (.inr ⟨λhf=>absurd (g2 hf).2.2 q9,D,D⟩)⟩
 have HT:=a8 ht;clear hG P Q ht g1 g2 g3 g4 g5;go_wp2_with fail;rw[<- g];clear g;refine H V ?_;rintro e T ⟨rfl,c,i2,ac,q5,X⟩;have am:=c.size;have y6:=u.c0;have k0:=(Ql (w:=j) (w':=T) (a:=⟨d.heap.size+1,0,Y⟩) (c.block (d.heap.size+1) E E)).trans E;have k1:=(Ql (w:=j) (w':=T) (a:=⟨d.heap.size+1,1,Y⟩) (c.block (d.heap.size+1) E E)).trans u.c1;have k2:=(Ql (w:=j) (w':=T) (a:=⟨d.heap.size+1,2,Y⟩) (c.block (d.heap.size+1) E E)).trans u.c2;have⟨⟨r0,r1,r2⟩,f0,f1,f2⟩:=fF ((c.block w.heap.size E E).trans ((f.block _ E).trans E));have HP:G (ey (m+1) (n+1) w R s i false (Zr (UD 4 Y 0 0 (b5 d.heap.size 0) 1 1)) (gh T w.heap.size 0 (I U 4) (A Y 0 0) (A (b5 d.heap.size 0) 1 1))):=by have S:∀o,a7 T d.heap.size o=a7 j d.heap.size o:=λo=>Ql (w:=j) (w':=T) (a:=⟨d.heap.size,o,Y⟩) (c.block d.heap.size E E);refine lY ((C.trans (cH.of_below f)).trans c) hR q5 (Jy (t:=t) D ⟨E,E⟩ ((S 0).trans r.c0) ((S 1).trans r.c1) ((S 2).trans r.c2) ?_) X;refine HT.keep (λb hb=>?_) E;rw[c.block b E E,f.block b hb.2]
 clear V c q5 X r u y6 f y C q HT j0;exact io
def Tryz.info_strR:(prog.info? 9).map (λi=>(i.zero,i.size,i.bytes))=Z (Z (Zt ⟨#[]⟩),1,16):=gZ
def Tryz.info_kindR:(prog.info? 177).map (λi=>(i.zero,i.size,i.bytes))=Z (Z (Za UC),3,56):=gZ
def KJ {w3 wr:Zw} {q:List ZB} {k:List (K m)} {o l:Zv} (h:gI R w3.heap.size m w3 wr 5 q k o l) (j:cH R w w3) (r:R<w.heap.size) (y:w.heap.size+1<=w3.heap.size) (x:d9 wr R s i' bad') (p:lj m n s i q k i' bad') (L:s.size<=10000) (v:n<=6)
  (c:¬cF s i=110) (d:¬cF s i=116) (e:¬cF s i=102) (f:¬cF s i=63) (g:¬cF s i=91) (a:bad'=false->cF s i'=125) :
  ey (m+1) (n+1) w R s i false (Zr (Za #[I U 5,o,l])) (gh (wr.setCell ⟨R,1,Y⟩ (I U ((i':Int)+1))) w.heap.size 0 (I U 5) o l):=by
 have t:=NW c d e f g p a;obtain⟨M,N,O,B,P,-⟩:=p;have z:=h.near.size;have u:J k<=20000:=by cases bad'<;>simp at B<;>omega
 refine lY ((j.trans h.near).trans (cH.set R 1 _ _)) r (by have:=x.set1 ((i':Int)+1);simpa using this) ?_ t;exact Hh h (λb C=>Qr _ _ _ _ (by show b≠R;omega)) zS E u E
def R6 (hn:ni n) (m:Nat) (hm:n+1<=m) (br:n<=6) (h:d9 w R s i false) (hs:s.size<=10000) (hi:i<=s.size)
  (aw:¬cF s i=110) (ax:¬cF s i=116) (ay:¬cF s i=102) (az:¬cF s i=63) (aA:¬cF s i=91) :
  WU WV 183 #[Zp (b5 R 0),I U (7-((n+1:Nat):Int))] w (ey (m+1) (n+1) w R s i false):=by
 have hR:=h.lt;have⟨W1,aN,bO,c2,HL⟩:=fj (Zc UC 177) h D;have bo:¬(6:Int)<7-((n+1:Nat):Int):=E;have r:∀c:UInt8,¬cF s i=c->((((cF s i).toNat:Nat):Int)==(c.toNat:Int))=false:=λc hc=>by rw[Q6];intro e;apply hc;apply X8.1;omega
 have e1:((((cF s i).toNat:Nat):Int)==110)=false:=r 110 aw;have e2:((((cF s i).toNat:Nat):Int)==116)=false:=r 116 ax;have e3:((((cF s i).toNat:Nat):Int)==102)=false:=r 102 ay;have e4:((((cF s i).toNat:Nat):Int)==63)=false:=r 63 az;have e5:((((cF s i).toNat:Nat):Int)==91)=false:=r 91 aA;have q6:G (¬cF s i=110/\¬cF s i=116/\¬cF s i=102/\¬cF s i=63/\¬cF s i=91):=⟨aw,ax,ay,az,aA⟩;have bM:IntKind.i64.wrap (7-((n+1:Nat):Int)+1)=7-(n:Int):=kG;have HN:G (ni n):=hn;clear h hn r aw ax ay az aA;generalize bp:7-((n+1:Nat):Int)=dp at *;clear bp;generalize ((cF s i).toNat:Nat)=cc at *;go_in;go_wp2_with fail;rw[<- aN];clear aN c2;refine H HL ?_;rintro e ql ⟨rfl,z,j2,bP,ak⟩;have HE:G (WU WV 219 #[Zp (b5 R 0),Zt ⟨#[123]⟩] ql _):=fC ⟨#[123]⟩ j2 hs zC hi;clear HL j2;go_wp2_with fail;refine H HE ?_;rintro e b ⟨rfl,aj,jM⟩;have bQ:=aj.size;have al:=(aj.block w.heap.size E E).trans E;have aq:=z.trans aj;obtain⟨i0,M,qa,aL⟩:∃(i0:Nat)(M:Bool),d9 b R s i0 M/\lj m n s i [] [] i0 M:=by
  rcases jM with ⟨q1,q2,q3⟩|⟨q1,q3⟩;·exact⟨i+1,false,q3,x7 hi (.inl ⟨q1,q2,D,D⟩)⟩
  .exact⟨i,true,q3,x7 hi zE⟩
 have an:G (cH R w b/\b.heap[w.heap.size]?=Z (Zc UC 177 (0,0))):=⟨aq,E⟩;have aZ:d9 (b.alloc (UF 5 Y 0 0 Y 0 0)) R s i0 M:=(Qf _ _ _ E).trans qa;clear HE jM z aj ak al aq qa e1 e2 e3 e4 e5;go_wp2;go_loopw [71] (λ_ wr=>∃(P:List ZB)(Q:List (K m))(j a:Nat)(d:Bool)(na:ZA)(nc:Nat)(B:ZA)(C:Nat),J P=a/\J Q=a/\gI R b.heap.size m b wr 5 P Q (A na a nc) (A B a C)/\d9 wr R s j d/\lj m n s i P Q j d) (λ_ wr=>leftRK wr R s.size);case atStart=>exact⟨[],[],i0,0,M,Y,0,Y,0,D,D,gI.start,aZ,aL⟩
 case round=>
  obtain⟨P,Q,j,a,d,na,nc,B,C,aV,aD,hM,hr,hI⟩:=hrel;have hX:=hM.lt;have bS:=hM.near.size;have x0:a7 wr b.heap.size 0=Z (I U 5):=q8;have x1:a7 wr b.heap.size 1=Z (A na a nc):=q8;have x2:a7 wr b.heap.size 2=Z (A B a C):=q8;have d1:=hr.cell1;have d2:=hr.cell2;have df:=hr.free 1;have bm:=hI;obtain⟨bI,aQ,bJ,ai,-,-⟩:=bm;rw[aD]at ai;have k:G (J P=a/\J Q=a):=⟨aV,aD⟩;have HM:G (gI R b.heap.size m b wr 5 P Q (A na a nc) (A B a C)):=hM;have HR:G (d9 wr R s j d):=hr;have HI:G (lj m n s i P Q j d):=hI;have bN:IntKind.i64.wrap ((j:Int)+1)=(j:Int)+1:=kG;have bB:a<=10010:=by cases d<;>simp at ai<;>omega
  have⟨⟨r0,r1,r2⟩,f0,f1,f2⟩:=fF ((hM.near.block w.heap.size E E).trans an.2);have L:G ((d=false->cF s j=125)->∀q,ey (m+1) (n+1) w R s i false (Zr (UD 5 na a nc B a C)) (gh ((wr.drewN q).setCell ⟨R,1,Y⟩ (I U ((j:Int)+1))) w.heap.size 0 (I U 5) (A na a nc) (A B a C))):=λhe q=>KJ (HM.keep E ((cH.refl R wr).drewN q)) an.1 hR E (HR.drewN q) HI hs br q6.1 q6.2.1 q6.2.2.1 q6.2.2.2.1 q6.2.2.2.2 he;clear hM hr hI aV aD aZ aL;cases d with
  | true=>have HZ:G _:=L.out zS 0;clear L;go_wp2_with fail;exact bR HZ
  | false=>
   have ud:j<=s.size:=(aQ D).2;have bK:a<=j:=by simpa using ai
   clear aQ ai;have HL:G (WU WV 218 #[Zp (b5 R 0)] wr λe w'=>e=Zr (I .u8 ((cF s j).toNat:Int))/\∃m',w'=wr.drewN m'):=kA HR;by_cases N:cF s j=125
   .have hc:((cF s j).toNat:Nat)=125:=by rw[N];rfl
    rw[hc]at HL;have HZ:G (∀q,_):=L.out zE;clear L N hc;go_wp2_with (go_at_call 218;refine H HL ?_;rintro e w' ⟨rfl,nq,rfl⟩);refine bR (v:=UD 5 na a nc B a C) ?_;exact HZ nq
   .have bt:((((cF s j).toNat:Nat):Int)==125)=false:=by rw[Q6];intro e;apply N;apply X8.1;have bA:(125:UInt8).toNat=125:=D;omega
    have bD:((((cF s j).toNat:Nat):Int) != 125)=true:=by simp[bne,bt]
    have HE:G (¬cF s j=125):=N;have bH:(((cF s j).toNat:Nat):Int)<=255:=FK;clear N L r0 r1 r2 f0 f1 f2;generalize ((cF s j).toNat:Nat)=c at *;rcases Xa a with h0|h0;case' inl=>have hd:(0<a)=False:=zE;have bn:((0:Int)<(a:Int))=False:=zE;have aa:G (CC s a j j false):=.inl ⟨h0,D,D⟩;clear h0;go_wp2_with (go_at_call 218;refine H HL ?_;rintro e w' ⟨rfl,nq,rfl⟩);have aF:cH R wr (wr.drewN nq):=(cH.refl R wr).drewN nq;have q5:d9 (wr.drewN nq) R s j false:=HR.drewN nq;generalize wr.drewN nq=w1 at *;obtain⟨O,bad1,q5,aa,q9⟩:∃(O:Nat)(bad1:Bool),d9 w1 R s O bad1/\G (CC s a j O bad1)/\O<=s.size:=⟨j,false,q5,aa,ud⟩;clear hd bn
    case' inr=>
     have hd:(0:Int)<(a:Int):=E;go_wp2_with (go_at_call 218;refine H HL ?_;rintro e w' ⟨rfl,nq,rfl⟩);refine H (fC ⟨#[44]⟩ (HR.drewN nq) hs zC ud) ?_;rintro e w1 ⟨rfl,aT,jM⟩;obtain⟨O,bad1,q5,aa,q9⟩:∃(O:Nat)(bad1:Bool),d9 w1 R s O bad1/\G (CC s a j O bad1)/\O<=s.size:=by exact TC
     have aF:cH R wr w1:=((cH.refl R wr).drewN nq).trans aT;clear jM aT hd h0
    all_goals
     have T:G (gI R b.heap.size m b w1 5 P Q (A na a nc) (A B a C)):=HM.keep E aF
     have aC:=T.lt
     have be:a7 w1 b.heap.size 1=Z (A na a nc):=by simp[World.cell?,T.box]
     obtain⟨x,av⟩:∃x,G (bs ((s.data.toList.drop O).takeWhile dz)=x):=⟨_,D⟩
     obtain⟨j1,HJ⟩:∃j1,G (O+J ((s.data.toList.drop O).takeWhile dz)=j1):=⟨_,D⟩
     have aJ:G (WU WV 220 #[Zp (b5 R 0)] w1.drew λe w'=>e=Zr (Zt x)/\cH R w1.drew w' /\ d9 w' R s (j1:Int) bad1):=
      (ES (q5.drewN 1) hs q9).mono λe w' ⟨h1,h2,h3,_⟩=>⟨by rw[h1,av.out],h2,by rw[HJ.out]at h3;exact h3⟩
     have HT:G ((bs ((s.data.toList.drop O).takeWhile dz)).size<=10000/\O+J ((s.data.toList.drop O).takeWhile dz)<=s.size):=by
      have h1:J ((s.data.toList.drop O).takeWhile dz)<=J (s.data.toList.drop O):=(List.takeWhile_prefix _).length_le
      rw[XZ]at h1
      have h2:J s.data.toList=s.size:=zS
      exact⟨o9,E⟩
     rw[av.out,HJ.out]at HT
     have aR:=HT.2
     have af:G (w1.ownsRow (b.heap.size+1) 9 1 (A na a nc) a (P.map Zt)):=by
      have:=T.q
      rw[k.1]at this;exact this
     have⟨bv,j0,F,qc,q7⟩:=QY Tryz.info_strR
     have ac:G (_/\_/\_/\_):=⟨j0,F,qc,q7⟩
     clear j0 F qc q7 q5 x0 x1 x2 d1 d2 df HL HM aF
     go_upto_region 27 with fail
     go_cut [71] from 62 to 95 (λ_ wx=>∃g cap,gI R b.heap.size m b wx 5 (P++[x]) Q (A (b5 g 0) (a+1) cap) (A B a C)/\d9 wx R s (j1:Int) bad1)
     case first=>
      go_region_law (first
       | (refine Xd _ cU (.tmp 79) (.tmp 82) 23 cU (b.heap.size+1) 9 bv _ 1 16 underlying23 ac.1 ac.2.1 ac.2.2.1 ac.2.2.2 D zC (A na a nc) a (P.map Zt) cU (aX _) ⟨ql.heap.size,0,Y⟩ 1 1 [Zt x] cU D (QB (Qh ql _)) iz zC fA E zE (ql.heap.size+1) zS ?_;intro g cap am ar y aP bL;have qt:=(wU (W:=w1.drew) af.out aC E z y).trans T.box;have bd:a7 am b.heap.size 1=Z (A na a nc):=rf;have bh:am.frozen? ⟨b.heap.size,1,Y⟩=false:=rg)
       | (go_simp;go_at_call 220;refine H aJ ?_;rintro e ql ⟨rfl,z,j2⟩;have bb:w1.heap.size<=ql.heap.size:=z.size;have aX:=λo=>E4 (R:=R) (X:=b.heap.size) (W:=w1.drew) af E z o;have bc:a7 ql b.heap.size 1=Z (A na a nc):=(Ql (z.block b.heap.size (by simpa using aC) E)).trans be;have bw:a7 (ql.alloc (Zc #[Zt x] 9)) b.heap.size 1=Z (A na a nc):=(Ql (Qf _ _ _ (by show b.heap.size<_;omega))).trans bc))
      all_goals
       have V:=gI.name (W:=ql) (Wa:=ql.alloc (Zc #[Zt x] 9)) (one:=Zc #[Zt x] 9) (T.keep E (((cH.refl R w1).drewN 1).trans z)) E D ⟨D,D,D⟩ HT.1 (by rw[k.1];exact ar) y aP
       rw[k.1]at V
       have ad:G (gI R b.heap.size m b (am.setCell ⟨b.heap.size,1,Y⟩ (A (b5 g 0) (a+1) cap)) 5 (P++[x]) Q (A (b5 g 0) (a+1) cap) (A B a C)):=V
       have ag:G (d9 (am.setCell ⟨b.heap.size,1,Y⟩ (A (b5 g 0) (a+1) cap)) R s (j1:Int) bad1):=B6 (X:=b.heap.size) (q:=1) (W:=w1.drew) j2 af E y
       clear V ar y aP z j2 aX bc bw bd bh qt
       go_wp2
       go_meet
       exact⟨_,_,ad,ag⟩
     case rest=>
      obtain⟨g,cap,V,aM⟩:=hcut
      have ad:G (gI R b.heap.size m b wc 5 (P++[x]) Q (A (b5 g 0) (a+1) cap) (A B a C)):=V
      have ag:G (d9 wc R s (j1:Int) bad1):=aM
      clear V aM be aJ T af aC
      go_wp2_with fail
      refine H (fC ⟨#[58]⟩ ag hs zC aR) ?_
      rintro e S ⟨rfl,aU,jM⟩
      obtain⟨i3,l,qa,bk,aW,aE⟩:∃(i3:Nat)(l:Bool),d9 S R s i3 l/\G (Nb s j1 i3 bad1 l)/\(l=false->i3<=s.size)/\i3<=20000:=by
       exact YJ
      have aB:=ad.keep E aU
      have ae:G (gI R b.heap.size m b S 5 (P++[x]) Q (A (b5 g 0) (a+1) cap) (A B a C)):=aB
      have⟨xs,aH,aS⟩:=aB.o
      have bl:G (∀q (h:q<J Q),_):=aS
      have ah:G (S.ownsRow (b.heap.size+1) 177 3 (A B a C) a xs):=by
       rw[k.2]at aH;exact aH
      have aO:=ae.lt
      have bz:a7 S b.heap.size 2=Z (A B a C):=by simp[World.cell?,ae.box]
      have bj:G (WU WV 183 #[Zp (b5 R 0),I U (7-(n:Int))] S.drew (ey m n S.drew R s i3 l)):=HN.out m R s i3 l _ hm (qa.drewN 1) hs aW aE
      have⟨bu,j0,F,qc,q7⟩:=QY Tryz.info_kindR
      have ab:G (_/\_/\_/\_):=⟨j0,F,qc,q7⟩
      clear j0 F qc q7 aH aS aB jM qa aU ad ag
      go_wp2_with fail
      go_region_law (first
       | (refine Xd _ cU (.tmp 88) (.tmp 93) 175 cU (b.heap.size+1) 177 bu _ 3 56 underlying175 ab.1 ab.2.1 ab.2.2.1 ab.2.2.2 D zC (A B a C) a xs cU (au _) ⟨v2.heap.size,0,Y⟩ 1 1 [I U y0,A ya yl yc,A za zl zc] cU D (QB (Qh v2 _)) iz zC fA E zE (v2.heap.size+1) zS ?_;intro g2 p v3 qq f ap bC;have js:=(wU (W:=S.drew) ah.out aO E t f).trans ae.box;have bg:a7 v3 b.heap.size 2=Z (A B a C):=sW;have bi:v3.frozen? ⟨b.heap.size,2,Y⟩=false:=sX)
       | (go_simp;go_at_call 183;refine H bj ?_;rintro e v2 ⟨t,t2,bE,bF,bG,i2,ao,rfl,aG,ba,aY⟩;obtain⟨y0,ya,yl,yc,za,zl,zc,rfl,rfl,rfl⟩:=aG.shape;have bb:S.heap.size<=v2.heap.size:=t.size;have au:=λo=>E4 (R:=R) (X:=b.heap.size) (W:=S.drew) ah E t o;have bf:a7 v2 b.heap.size 2=Z (A B a C):=(Ql (t.block b.heap.size (by simpa using aO) E)).trans bz;have bx:a7 (v2.alloc (UF y0 ya yl yc za zl zc)) b.heap.size 2=Z (A B a C):=(Ql (Qf _ _ _ (by show b.heap.size<_;omega))).trans bf))
      all_goals
       have hF:=gI.kid (W:=S.drew) (W1:=v2) (Wa:=v2.alloc (UF y0 ya yl yc za zl zc)) (one:=UF y0 ya yl yc za zl zc) (g:=g2) (cap:=p) (xs:=xs)
        (ae.keep E ((cH.refl R S).drewN 1)) E E t aG D ⟨D,D,D⟩ (by rw[k.2];exact ah)
        (λq hq=>by have⟨a0,a1,a2,hd,bq⟩:=bl.out q hq;exact⟨a0,a1,a2,hd,cW.keep (w:=S) (w':=S.drew) ik zI bq⟩) (by rw[k.2];exact qq) f ap
       rw[k.2]at hF
       have HF:G (gI R b.heap.size m b (v3.setCell ⟨b.heap.size,2,Y⟩ (A (b5 g2 0) (a+1) p)) 5 (P++[x]) (Q++[t2]) (A (b5 g 0) (a+1) cap) (A (b5 g2 0) (a+1) p)):=hF
       have aI:G (d9 (v3.setCell ⟨b.heap.size,2,Y⟩ (A (b5 g2 0) (a+1) p)) R s i2 ao):=B6 (X:=b.heap.size) (q:=2) (u:=A (b5 g2 0) (a+1) p) (W:=S.drew) ba ah E f
       have HS:=GK HI HE (by rw[k.2];exact aa) (by rw[HJ.out];exact bk) aY (by rw[HJ.out];exact aR)
       rw[av.out]at HS
       have aK:G _:=HS
       clear hF HS qq f ap aG ba aY t au bf bx bg bi js
       go_wp2
       go_roundw
       case rel=>exact⟨P++[x],Q++[t2],i2,a+1,ao,b5 g 0,cap,b5 g2 0,p,by simp[k.1],by simp[k.2],HF,aI,aK.1⟩
       case measure=>rw[d9.leftRK aI.out,d9.leftRK HR.out];simpa using aK.2
def G8:∀n,n<=6->ni n:=by
 intro n;induction n with
 | zero=>intro _ m R s i d w p h c b _;obtain⟨a,rfl⟩:∃a,m=a+1:=⟨m-1,E⟩;exact Jd 0 a h E b
 | succ n r=>
  intro q m R s i d w p h c b o;obtain⟨a,rfl⟩:∃a,m=a+1:=⟨m-1,E⟩;have e:=r E;cases d with
  | true=>exact Jd (n+1) a h zS b
  | false=>
   have b:=b D;by_cases f:cF s i=110;·exact qaK n a h c b f
   by_cases g:cF s i=116;·exact R8 n a h c b g
   by_cases j:cF s i=102;·exact R5 n a h c b j
   by_cases k:cF s i=63;·exact Oj e a E E h c b k
   by_cases l:cF s i=91;·exact R7 e a E E h c b l
   .exact R6 e a E E h c b f g j k l
def kh(m:Nat)(k:K m)(ok:Bool)(w:Zw)(e:Ending)(w':Zw):Prop:=
 Bw w w' /\ ∃c0 c1 c2,e=Zr (Zu #[Za #[c0,c1,c2],Zb ok])/\cW (λb=>w.heap.size<=b/\b<w'.heap.size) w' m k c0 c1 c2
def B8{w':Zw}(h:gT (m+1) s=Y)(c:Bw w w'):kh (m+1) (sf m s) (Ju m s) w (Zr (Zu #[Za UC,Zb false])) w':=by have⟨a,b⟩:=Bt h;rw[a,b];exact⟨c,_,_,_,D,F9 _ _ m⟩
def N2{t:K (m+1)}(d:rX (m+1) 6 s 0 false t i' bad'){k:K (m+1)}(h:gT (m+1) s=Z k):t=k/\bad'=false/\i'=s.size/\tI (m+1) t=true/\dm (m+1) t=s.data.toList:=by have⟨i,a,b⟩:=rI h;obtain⟨-,-,-,-,c⟩:=d;have⟨e,f,g⟩:=c k [] D (by rw[Xn,XF,b]) (ww a).1;subst e;refine⟨D,f,?_,a,b⟩;rw[g,b];simp
def sJ{t:K (m+1)}(a:rX (m+1) 6 s 0 false t i' bad')(h:bad'=true∨i'≠s.size∨tI (m+1) t=false∨dm (m+1) t≠s.data.toList):gT (m+1) s=Y:=by
 cases hr:gT (m+1) s with
 | none=>rfl
 | some k=>obtain⟨-,q1,q2,q3,q4⟩:=N2 a hr;exact Yd
def AZ (m:Nat) (hm:7<=m+1) (hs:s.size<=1048576) (w:Zw) :
  WU WV 152 #[Zt s] w (kh (m+1) (sf m s) (Ju m s) w):=by
 have⟨W1,qR⟩:=fk (w.alloc (Zc UC 177));have j0:W1.heap.size=w.heap.size+1:=re;have qj:Bw w W1:=by rw[qR];exact eC _ _
 have l:W1.heap[w.heap.size]?=Z (Zc UC 177 (0,0)):=FT;have L:G (∀W:Zw,Bw w W->Bw w (gh W w.heap.size 0 (I U 0) (A Y 0 0) (A Y 0 0))):=λW h=>kU h E;by_cases h8:s.size<=800;case neg=>have ae:(800:Int)<(s.size:Int):=E;have HP:G (∀o,kh (m+1) (sf m s) (Ju m s) w (Zr (Zu #[Za UC,Zb false])) (w.alloc o)):=λo=>B8 (yD h8) (eC _ _);clear qj l j0 h8;exact TX
 have af:¬(800:Int)<(s.size:Int):=E;have⟨q6,xe⟩:=fk (W1.alloc (Zc #[Zt s,I U 0,Zb false] 221));have ag:q6.heap.size=w.heap.size+2:=by rw[xe];simp;omega
 have r:Bw w q6:=J0;have qq:d9 q6 (w.heap.size+1) s ((0:Nat):Int) false:=by show q6.heap[w.heap.size+1]?=_;rw[xe,<- j0];exact Qh _ _
 have B:q6.heap[w.heap.size]?=Z (Zc UC 177 (0,0)):=by rw[xe,Qf _ _ _ E];exact l
 have HK:=a8 (G8 6 E (m+1) (w.heap.size+1) s 0 false q6 hm qq E E E);clear qq l qj;go_in;go_wp2_with fail;rw[<- qR,<- xe];clear qR xe;refine H HK ?_;rintro e q9 ⟨k,t,d0,d1,d2,qa,q,rfl,ht,q5,hG⟩;obtain⟨F,qc,ql,q7,ya,yl,yc,rfl,rfl,rfl⟩:=ht.shape;have ah:=k.size;have Q:Bw w q9:=⟨k.os.trans r.os,k.tape.trans r.tape,k.output.trans r.output,E,λb hb=>(k.block b E E).trans (r.block b hb)⟩;have C:q9.heap[w.heap.size]?=Z (Zc UC 177 (0,0)):=(k.block _ E E).trans E;have⟨p,j⟩:=fk (q9.alloc (UF F qc ql q7 ya yl yc));have ai:p.heap.size=q9.heap.size+1:=by rw[j];simp
 have f:Bw q9 p:=by rw[j];exact eC _ _
 have y:=b9 Q Q.size f;have K:=(f.block w.heap.size E).trans E;have⟨g,P⟩:=ht.step E f;have R:d9 p (w.heap.size+1) s qa q:=(f.block _ E).trans q5;have i:lP p q9.heap.size (I U F) (A qc ql q7) (A ya yl yc):=by rw[j];exact lP.new _ _ _ _ _
 have c1:=R.cell1;have c2:=R.cell2;have u:G (rX (m+1) 6 s 0 false t qa q):=hG;have⟨T,V,X⟩:=id i;have a:G (∀W:Zw,Bw p W->gT (m+1) s=Y->kh (m+1) (sf m s) (Ju m s) w (Zr (Zu #[Za UC,Zb false])) (gh W w.heap.size 0 (I U 0) (A Y 0 0) (A Y 0 0))):=λW hW h=>B8 h (L W (b9 y y.size hW));have x:G (∀W:Zw,Bw p W->W.heap[w.heap.size]?=Z (Zc UC 177 (0,0))):=λW hW=>(hW.block w.heap.size E).trans E;have HB:G (Bw w p):=y;clear HK hG ht q5 R k Q f y B C K r L;cases q with
 | true=>have⟨⟨r0,r1,r2⟩,f0,f1,f2⟩:=fF (x p (Qg _ _));have HP:G _:=a.out p (Qg _ _) (sJ u zS);rw[j]at c1 c2 T V X r0 r1 r2 f0 f1 f2 HP;clear i g a x u;exact io
 | false=>
  by_cases q8:qa=s.size;case neg=>have ab:((qa:Int) != (s.size:Int))=true:=zE;have⟨⟨r0,r1,r2⟩,f0,f1,f2⟩:=fF (x p (Qg _ _));have HP:G _:=a.out p (Qg _ _) (sJ u E);rw[j]at c1 c2 T V X r0 r1 r2 f0 f1 f2 HP;clear i g a x u q8;exact io
  have ab:((qa:Int) != (s.size:Int))=false:=zE;have N:G (WU WV 184 #[UD F qc ql q7 ya yl yc] p _):=Ff g P;rw[j]at c1 c2 T V X;clear q8;go_wp2_with fail;rw[<- j];clear c1 c2 T V X;refine H N ?_;rintro e w5 ⟨rfl,d⟩;have ad:=d.size;have⟨T,V,X⟩:=i.keep d;cases hok:tI (m+1) t with
  | false=>have⟨⟨r0,r1,r2⟩,f0,f1,f2⟩:=fF (x w5 d);have HP:G _:=a.out w5 d (sJ u (.inr (.inr (.inl hok))));clear i g a x u d N hok;exact io
  | true=>
   have hp:=ww hok;have⟨S,aa⟩:=g.step P d;have O:G (WU WV 185 _ w5 _):=G9 (m+1) _ t _ _ _ 1 w5 S aa hp.1 hp.2;have M:G (tI (m+1) t=true):=hok;clear hok hp N;go_wp2_with fail;refine H O ?_;rintro e w6 ⟨rfl,z⟩;have aj:=z.size;have c:=b9 d ad z;clear T V X;have⟨T,V,X⟩:=i.keep c;have⟨⟨r0,r1,r2⟩,f0,f1,f2⟩:=fF (x w6 c);by_cases n:dm (m+1) t=s.data.toList
   .have hq:((bs (dm (m+1) t)).toList==s.toList)=true:=by rw[n,nw];simp
    have HP:G (kh (m+1) (sf m s) (Ju m s) w (Zr (Zu #[UD F qc ql q7 ya yl yc,Zb true])) (gh w6 w.heap.size 0 (I U F) (A qc ql q7) (A ya yl yc))):=by have⟨q1,q2⟩:=Bu (O4 h8 M n);rw[q1,q2];have ac:=(g.step P c).1;refine⟨kU (b9 HB HB.size c) E,_,_,_,D,ac.keep (λb hb=>gL E) (λb hb=>by rw[kV];omega)⟩
    clear i g S a x u d z c O n M;exact io
   .have hq:((bs (dm (m+1) t)).toList==s.toList)=false:=by rw[Q6];intro e;apply n;rw[QI,QI,fG]at e;exact e
    have HP:G _:=a.out w6 c (sJ u (.inr (.inr (.inr n))));clear i g S a x u d z c O n M;exact io
def Nv{n:F α}(h:¬((1<=n.k/\n.k<=43)/\act=decide (36<=n.k))):fS n act=false:=by
 unfold fS;by_cases a:1<=n.k/\n.k<=43
 .have b:(act==decide (36<=n.k))=false:=by rw[XL];intro e;exact h ⟨a,by simpa using e⟩
  rw[b];simp
 .rw[QU a];rfl
def Eu (m:Nat) {n:F (T m)} (na d:ZA) (nc f:Nat) (w:Zw) (h:¬ ((1<=n.k/\n.k<=43)/\act=decide (36<=n.k))) :
  WU WV 72 #[Uy n.k n.n n.a na (J n.q) nc d (J n.o) f,Zb act] w λe i=>e=Zr (Zb (fS n act))/\Bw w i:=by
 have qp:=(Qg w.heap.size w).alloc E (UB n.k n.n n.a na (J n.q) nc d (J n.o) f);have HA:=a8 (Nv h);have xA:G (∀w,WU WV 51 #[I U n.k,I U 1,I U 43] w _):=λw=>fx n.k 1 43 w;by_cases a:1<=n.k/\n.k<=43
 .have c:¬act=decide (36<=n.k):=λe=>h ⟨a,e⟩;rw[QK a]at xA;clear h a;generalize n.k=s at *;by_cases b:36<=s
  .rw[QK b]at c;have g:decide (36<=s)=true:=zE;obtain rfl:act=false:=by cases act<;>simp_all
   exact Pp
  .rw[QU b]at c;have g:decide (36<=s)=false:=zE;obtain rfl:act=true:=by cases act<;>simp_all
   exact Pp
 .rw[QU a]at xA;clear h a;exact Pp
def AJ (num:Int) (text:ZB) {names:List ZB} (kids:List (T m)) (b:ZA) (c:Nat) (d:cR S w names (A na (J names) nc)) (f:Bd S w) :
  WU WV 72 #[Uy 24 num text na (J names) nc b (J kids) c,Zb false] w λe p=>e=Zr (Zb ((num==0) && text.toList.isEmpty && ee names && (J names==J kids) && !(names.any (λy=>y==bs [101,110,100]))))/\Bw w p:=by
 have qp:=(Qg w.heap.size w).alloc E (UB 24 num text na (J names) nc b (J kids) c);have a:=d.keep (b6 qp f) zI;have xA:G (∀w,WU WV 51 #[I U 24,I U 1,I U 43] w _):=λw=>fx 24 1 43 w;have HR:G (WU WV 147 _ _ _):=rx a (fP f zS);have j:G (∀w1,Bw w w1->WU WV 148 #[A na (J names) nc,Zt (bs [101,110,100])] w1 _):=λw1 qj=>Ln (bs [101,110,100]) (d.keep (b6 qj f) zI);have HX:G (∀w1,Below (w.alloc (UB 24 num text na (J names) nc b (J kids) c)).heap.size (w.alloc (UB 24 num text na (J names) nc b (J kids) c)) w1->Bw w w1/\a7 w1 w.heap.size 3=Z (A na (J names) nc)/\a7 w1 w.heap.size 4=Z (A b (J kids) c)):=by intro w1 qj;have i:=cP ((qj.block w.heap.size zS).trans (Xq w _));exact⟨b9 qp zS qj,i.2.2.2.1,i.2.2.2.2⟩
 have n:((J names:Int)==(J kids:Int))=(J names==J kids):=by
  by_cases h:J names=J kids;·rw[h];simp
  .have k:¬(J names:Int)=(J kids:Int):=E;rw[Q6.2 h,Q6.2 k]
 have l:(text.toList==[])=text.toList.isEmpty:=by cases text.toList<;>rfl
 clear d a;generalize ee names=ri at *;generalize (names.any (λy=>y==bs [101,110,100]))=ha at *;generalize (J names==J kids)=le at *;generalize text.toList.isEmpty=em at *;generalize o:(num==0)=nz at *;by_cases g:nz=true
 .subst g;cases em with
  | false=>exact T0
  | true=>
   cases ri with
   | false=>exact Tl
   | true=>
    cases le with
    | false=>exact Tl
    | true=>go_in;go_wp2_with fail;refine H (xA _) ?_;rintro e w1 ⟨rfl,rfl⟩;go_wp2_with fail;refine H HR ?_;rintro e w1 ⟨rfl,qj⟩;have⟨qi,z3,z4⟩:=HX.out w1 qj;clear qj;go_wp2_with fail;refine H (j _ qi) ?_;rintro e q ⟨rfl,rfl⟩;go_wp2;go_ret;exact⟨zS,qi⟩
 .obtain rfl:nz=false:=by simpa using g
  exact T0
def OW:∀k,k<44->k=0∨k=24∨k=1∨k=2∨k=3∨k=5∨k=6∨k=37∨k=39∨fO k=[]∨fO k=[88]∨fO k=[78]∨fO k=[88,88]:=zC
def A9:yielded.match_1 (λ_=>Option Bool) (Z undef) (λb=>Z b) (λ_=>Y)=Y:=rfl
def ET:∀k,k<44->Rk k<=2:=zC
def YU:∀k,k<44->Gn k=false->Rk k<=1:=zC
def Ja(h:k≠24):(bs (K2 k)).size=J (mD k):=by rw[dG];unfold K2;rw[Qd h];unfold Tf;simp
def Ev (m:Nat) {n:F (T m)} (ka:ZA) (kc k:Nat) (a:Bool) (ha:decide ((36:Int)<=(k:Int))=a) (hk:n.k=(k:Int)) (d:k<44) (ah:1<=k) (qa:k≠24) (h3:cR S w n.q (A na (J n.q) nc)) (_hl4:J n.o<=WX) (hB:Bd S w)
  (hx:n.a.size<=1048576) :
  WU WV 72 #[Uy (k:Int) n.n n.a na (J n.q) nc ka (J n.o) kc,Zb a] w λe c=>e=Zr (Zb ((J n.o==J (mD k)) && dM n (fO k)))/\Bw w c:=by
 have qp:=(Qg w.heap.size w).alloc (QD _) (UB (k:Int) n.n n.a na (J n.q) nc ka (J n.o) kc);have xA:G (∀w,WU WV 51 #[I U (k:Int),I U 1,I U 43] w λe c=>e=Zr (Zb true)/\c=w):=λw=>by have:=fx k 1 43 w;rw[QK E]at this;exact this
 have z:=Ja qa;have xZ:G (∀w,WU WV 73 #[I U (k:Int)] w _):=λw=>tZ d w;have zm:G (∀w,WU WV 149 #[I U (k:Int)] w _):=λw=>C7 d w;generalize bs (K2 k)=q at *;have g:=a8 (Sx n d qa);have qq:((k:Int)==24)=false:=zE;obtain⟨_,_,hv,ai,-,-⟩:=id h3;cases hv
 unfold WX at ai _hl4;by_cases p:J n.o=J (mD k);case neg=>
  have aj:((J n.o:Int) != (q.size:Int))=true:=by rw[z];simp;omega
  have HF:G (((J n.o==J (mD k)) && dM n (fO k))=false):=by
   show _=_;have:(J n.o==J (mD k))=false:=by simp[p]
   rw[this];rfl
  clear p z g;exact qdA
 have ak:((J n.o:Int) != (q.size:Int))=false:=by rw[z];simp[p]
 have j0:(J n.o==J (mD k))=true:=by simp[p]
 rw[j0,X6];by_cases r:J n.q=Rk k;case neg=>
  have aj:((J n.q:Int) != ((Rk k:Nat):Int))=true:=zE;have HF:G (dM n (fO k)=false):=by
   show _=_;have:(J n.q==Rk k)=false:=by simp[r]
   rw[g.out,this];rfl
  clear p z g r j0;exact qdA
 have al:((J n.q:Int) != ((Rk k:Nat):Int))=false:=by simp[r]
 have uq:G (dM n (fO k)=(kI (Gn k) n.q (J n.q) && uF n (fO k))):=by
  show _=_;have:(J n.q==Rk k)=true:=by simp[r]
  rw[g.out,this];rfl
 have⟨W,hW⟩:=fk (w.alloc (UB (k:Int) n.n n.a na (J n.q) nc ka (J n.o) kc));have Q:Bw w W:=by rw[hW];exact qp
 have am:w.heap.size<W.heap.size:=pR;have L:W.heap[w.heap.size]?=Z (Zc (Uz (k:Int) n.n n.a na (J n.q) nc ka (J n.o) kc) 38 (0,0)):=by rw[hW];exact Xq _ _
 have M:=a8 r;clear p z g r j0 qp;go_in;go_wp2_with fail;refine H (xA _) ?_;rintro e w1 ⟨rfl,rfl⟩;go_wp2_with fail;go_quiet (first
  | (go_at_call 73;refine Q4 (xZ _))
  | (go_at_call 149;refine Q4 (zm _)))
 go_wp2_with fail;rw[<- hW];have q8:G (∀j,Bw W (W.drewN j)):=λj=>⟨D,D,D,QD _,λ_ _=>D⟩;have vJ:G (∀w,WU WV 150 #[I U (k:Int)] w _):=λw=>C6 d w;have j2:G (Gn k=false->J n.q<=1):=λh=>by rw[M.out];exact YU k d h
 obtain⟨_,_,hv,-,q9,R⟩:=h3.keep (b6 Q hB) zI;cases hv
 have ae:G (∀(V:Zw)(j:Nat),Bw W V->Bw W (V.drewN j)):=λV j h=>⟨h.os,h.tape,h.output,h.size,h.block⟩;have uh:G (∀(V:Zw)(j:Nat),Bw w V->Bw w (V.drewN j)):=λV j h=>⟨h.os,h.tape,h.output,h.size,h.block⟩;have ad:=a8 L;have B:=a8 Q;clear hW L Q al ak xZ zm xA;go_loopw [5] (λi wr=>∃j:Nat,j<=J n.q/\i=I U j/\G (kI (Gn k) n.q j=true)/\Bw W wr) (λi _=>J n.q-(intOf i).toNat);case atStart=>exact⟨0,Q9 _,D,D,q8 _⟩
 case round=>
  obtain⟨j,hj,rfl,HA,f⟩:=hrel;have⟨z0,z1,z2,z3,z4⟩:=cP ((f.block w.heap.size am).trans ad);by_cases qf:j<J n.q
  .obtain⟨b,off,rfl,af,o⟩:=R nS;have an:=hB b af;have ej:=kC f (o j qf) (by show b<W.heap.size;omega);have q6:=kC f (o 0 E) (by show b<W.heap.size;omega);have q5:=q9 n.q[j] (QE qf);have aa:n.q.getD j WT=n.q[j]:=by simp[Un,qf]
   have ql:n.q.getD 0 WT=n.q[0]:=by have h0:0<J n.q:=E;simp[Un,h0]
   have vh:G (Dp (Gn k) n.q j=(c8 n.q[j] && (!Gn k || eM n.q[j]) && !(decide (0<j) && (n.q[j]==n.q[0])))):=by show _=_;unfold Dp;rw[aa,ql]
   have zo:G (Dp (Gn k) n.q j=false->kI (Gn k) n.q (J n.q)=false):=λh=>Hp qf h;have uu:G (Dp (Gn k) n.q j=true->kI (Gn k) n.q (j+1)=true):=λh=>by rw[LV,HA.out,h];rfl
   have X:=gU n.q[j] n.q[0];have q7:j=0->n.q[j]=n.q[0]:=λh=>by subst h;rfl
   have uo:G (∀w,WU WV 22 #[Zt n.q[j]] w _):=λw=>kt n.q[j] w q5;have uj:G (∀W',Bw wr W'->WU WV 151 #[Zt n.q[j]] W' λe c=>e=Zr (Zb (eM n.q[j]))/\Bw wr c/\a7 c w.heap.size 0=Z (I U (k:Int))/\a7 c w.heap.size 3=Z (A (b5 b off) (J n.q) nc)/\a7 c b (off+j)=Z (Zt n.q[j])/\a7 c b off=Z (Zt n.q[0])):=by intro W' qc;refine H (uY n.q[j] W' q5) ?_;rintro e c ⟨rfl,hb⟩;have v:Bw wr c:=qc.trans (hb.mono qc.size);have hz:=f.size;exact⟨D,v,kC v z0 E,kC v z3 E,kC v ej E,kC v q6 E⟩
   have vz:=a8 (B.trans (f.mono B.size));have l:=a8 f;have C:=j2.out;have ag:j=0∨j=1:=by have h2:=ET k d;have h3:=M.out;omega
   have hD:Bw wr wr.drew:=(Qg _ _).drew;have ax:=A9;have aw:1<=J n.q:=E;clear R o q9 q5 aa ql f j2 z1 z2 z4 _hl4 qq M;rcases ag with rfl|rfl
   .have ao:=q7 D;clear q7;generalize n.q[0]=x at *;clear q6 X;rw[QC]at ej;simp only[QC]at uj;have⟨y,hy⟩:=fk x;have q6:a7 wr b off=Z (Zt y):=by rw[hy];exact ej
    generalize Gn k=bd at *;cases jr:c8 x with
    | false=>exact Tk
    | true=>
     rw[jr]at uo vh;cases hbdv:bd with
     | false=>
      subst hbdv;have u:G (kI false n.q (0+1)=true):=uu.out Ck;clear uj zo uu vh hD C;go_wp2_with fail;go_quiet (first|(go_at_call 22;refine Q4 (uo _))|(go_at_call 150;refine Q4 (vJ _)));go_wp2;go_roundw;case rel=>exact⟨0+1,E,ew,u,ae _ _ l⟩
      case measure=>exact eb
     | true=>
      subst hbdv;clear C;subst hy;go_wp2_with fail;refine Qz (S:=(λc=>a7 c w.heap.size 0=Z (I U (k:Int))/\a7 c w.heap.size 3=Z (A (b5 b off) (J n.q) nc)/\a7 c b off=Z (Zt y)/\a7 c b off=Z (Zt y))) zK (by exact⟨z0,z3,q6,q6⟩) (λhHeld=>?_);refine t4 0 1 2 3 ?_;refine tk 4 ?_;refine ic 5 λK hK=>?_;go_simp;go_at_call 22;refine H (uo _) ?_;rintro e w1 ⟨rfl,rfl⟩;refine hK.out _ _ (hHeld) (λhHeld=>?_);clear hK K;refine t4 6 7 8 9 ?_;refine ic 10 λK hK=>?_;go_simp;go_at_call 150;refine H (vJ _) ?_;rintro e w1 ⟨rfl,rfl⟩;refine hK.out _ _ (hHeld) (λhHeld=>?_);clear hK K;refine t4 11 12 13 14 ?_;refine t2 15 16 ?_;refine ic 17 λK hK=>?_;go_simp;go_at_call 151;refine H (uj _ hD) ?_;rintro e w2 ⟨rfl,qi,xI⟩;refine hK.out _ _ (xI) (λhHeld=>?_);clear hK K;refine t4 18 19 20 21 ?_;cases hfr:eM y with
      | false=>rw[hfr]at vh;have xO:G (kI true n.q (J n.q)=false):=zo.out Ck;clear zo uu vh;refine ts 22 ?_;exact Yn
      | true=>
       rw[hfr]at vh;have u:G (kI true n.q (0+1)=true):=uu.out Ck;clear zo uu vh;refine t2 22 23 ?_;refine tk 24 ?_;refine ts 25 ?_;refine ts 26 ?_;refine ts 27 ?_;refine ts 28 ?_;refine ts 29 ?_;refine ts 30 ?_;refine ts 31 ?_;refine ts 32 ?_;refine ts 33 ?_;refine ts 34 ?_;refine t2 35 36 ?_;refine Xi zK ?_ _;go_simp;all_goals
        have qU:=a8 (l.trans (qi.mono l.size))
        clear qi xI
        go_wp2
        go_roundw
        case rel=>exact⟨0+1,E,ew,u,qU⟩
        case measure=>exact eb
   .generalize n.q[1]=x at *;generalize n.q[0]=y at *;clear q7;generalize Gn k=bd at *;cases jr:c8 x with
    | false=>exact Tk
    | true=>
     rw[jr]at uo vh;cases hbdv:bd with
     | false=>subst hbdv;exact absurd (C D) E
     | true=>
      subst hbdv;clear C;go_wp2_with fail;have au:0<J n.q:=E;refine Qz (S:=(λc=>a7 c w.heap.size 0=Z (I U (k:Int))/\a7 c w.heap.size 3=Z (A (b5 b off) (J n.q) nc)/\a7 c b (off+1)=Z (Zt x)/\a7 c b off=Z (Zt y))) zK (by exact⟨z0,z3,ej,q6⟩) (λhHeld=>?_);refine t4 0 1 2 3 ?_;refine tk 4 ?_;refine ic 5 λK hK=>?_;go_simp;go_at_call 22;refine H (uo _) ?_;rintro e w1 ⟨rfl,rfl⟩;refine hK.out _ _ (hHeld) (λhHeld=>?_);clear hK K;refine t4 6 7 8 9 ?_;refine ic 10 λK hK=>?_;go_simp;go_at_call 150;refine H (vJ _) ?_;rintro e w1 ⟨rfl,rfl⟩;refine hK.out _ _ (hHeld) (λhHeld=>?_);clear hK K;refine t4 11 12 13 14 ?_;refine t2 15 16 ?_;refine ic 17 λK hK=>?_;go_simp;go_at_call 151;refine H (uj _ hD) ?_;rintro e w2 ⟨rfl,qi,xI⟩;refine hK.out _ _ (xI) (λhHeld=>?_);clear hK K;refine t4 18 19 20 21 ?_;cases hfr:eM x with
      | false=>rw[hfr]at vh;have xO:G (kI true n.q (J n.q)=false):=zo.out Ck;clear zo uu vh;refine ts 22 ?_;exact Yn
      | true=>
       rw[hfr]at vh;cases hxy:(x==y) with
       | true=>rw[hxy]at vh X;have xO:G (kI true n.q (J n.q)=false):=zo.out Ck;clear zo uu vh;refine t4 22 23 24 25 ?_;refine t4 26 27 28 29 ?_;refine t4 30 31 32 33 ?_;refine t2 34 35 ?_;exact qcY
       | false=>
        rw[hxy]at vh X;have u:G (kI true n.q (1+1)=true):=uu.out Ck;clear zo uu vh;refine t4 22 23 24 25 ?_;refine t4 26 27 28 29 ?_;refine t4 30 31 32 33 ?_;refine t2 34 35 ?_;refine tk 36 ?_;refine Xi zK ?_ _;go_simp;all_goals
         have qU:=a8 (l.trans (qi.mono l.size))
         clear qi xI
         go_wp2
         go_roundw
         case rel=>exact⟨1+1,E,ew,u,qU⟩
         case measure=>exact eb
  .have ab:j=J n.q:=E;have t:G (dM n (fO k)=uF n (fO k)):=by show _=_;have:=HA.out;rw[ab]at this;rw[uq.out,this,X6]
   have vz:=a8 (B.trans (f.mono B.size));have l:=a8 f;have ap:=a8 hk;clear R q9 ab HA uq f;by_cases c3:k=1∨k=2∨k=3
   .have HT:G (dM n (fO k)=cM (k:Int) n.n n.a [] 0):=by show _=_;rw[t.out,(E7 k E ah).1];show cM n.k n.n n.a [] 0=_;rw[hk]
    have ac:n.a.size<=WX:=Q1 hx zC;have HC:G (∀w,WU WV 77 #[Uy (k:Int) n.n n.a Y 0 0 Y 0 0] w λe c=>e=Zr (Zb (cM (k:Int) n.n n.a [] 0))/\Bw w c):=λw=>ug (k:Int) n.n n.a [] Y 0 0 w Y 0 ac (λ_=>False) ⟨Y,0,D,gO,λs hs=>by simp at hs,λh=>absurd D h⟩ Ae;clear ac;rcases c3 with rfl|rfl|rfl;all_goals
     go_wp2_with fail
     refine H (HC _) ?_
     rintro e w2 ⟨rfl,qi⟩
     have qU:=a8 (vz.trans (qi.mono vz.size))
     clear qi HC
     go_wp2
     go_ret
     exact⟨cY HT.symm,qU⟩
   have d1:((k:Int)==1)=false:=zE;have d2:((k:Int)==2)=false:=zE;have d3:((k:Int)==3)=false:=zE;by_cases c5:k=5∨k=6
   .have HT:G (dM n (fO k)=((n.n==0) && lu n.a)):=by show _=_;rw[t.out];rcases c5 with rfl|rfl<;>rfl
    have HC:G (∀w,WU WV 152 #[Zt n.a] w λe c=>Bw w c/\∃(s:Int)(a1 a2:ZA)(l1 l2 k1 k2:Nat),e=Zr (Zu #[UD s a1 l1 k1 a2 l2 k2,Zb (lu n.a)])):=by intro w;refine H (AZ (n.a.size+7) E hx w) ?_;rintro e c ⟨hb,c0,c1,c2,rfl,qm⟩;exact T4
    have HZ:G (∀w2,Bw wr w2->a7 w2 w.heap.size 1=Z (I U n.n)):=λw2 h2=>kC h2 z1 (by have:=l.size;omega);generalize lu n.a=ok at *;cases hnz:(n.n==0)
    all_goals
     rw[hnz]at HT
     rcases c5 with rfl|rfl
     all_goals
      go_wp2_with fail
      refine H (HC _) ?_
      rintro e w2 ⟨qi,s,a1,a2,l1,l2,k1,k2,rfl⟩
      have P:=qi.alloc qi.size (UF s a1 l1 k1 a2 l2 k2)
      have y1:=HZ.out _ P
      have qU:=a8 (vz.trans (P.mono vz.size))
      clear qi P HC
      go_wp2
      go_ret
      exact⟨cY (by rw[HT.out];rfl),qU⟩
   have d5:((k:Int)==5)=false:=zE;have d6:((k:Int)==6)=false:=zE;have av:(n.a.toList==[])=n.a.toList.isEmpty:=by cases n.a.toList<;>rfl
   by_cases N:k=37
   .have HT:G (dM n (fO k)=(decide (0<=n.n/\n.n<=99) && n.a.toList.isEmpty)):=by show _=_;rw[t.out,N];show (decide (Aq n.k.toNat<=n.n/\n.n<=Ar n.k.toNat) && _)=_;rw[hk,N];rfl
    have HC:G (∀w,WU WV 51 #[I U n.n,I U 0,I U 99] w _):=λw=>fx n.n 0 99 w;generalize n.a.toList.isEmpty=em at *;generalize decide (0<=n.n/\n.n<=99)=ok at *;cases ok<;>cases em
    all_goals
     subst N
     exact TH
   by_cases O:k=39
   .have HT:G (dM n (fO k)=(decide (1<=n.n/\n.n<=12) && n.a.toList.isEmpty)):=by show _=_;rw[t.out,O];show (decide (Aq n.k.toNat<=n.n/\n.n<=Ar n.k.toNat) && _)=_;rw[hk,O];rfl
    have HC:G (∀w,WU WV 51 #[I U n.n,I U 1,I U 12] w _):=λw=>fx n.n 1 12 w;generalize n.a.toList.isEmpty=em at *;generalize decide (1<=n.n/\n.n<=12)=ok at *;cases ok<;>cases em
    all_goals
     subst O
     exact TH
   have aq:((k:Int)==37)=false:=zE;have ar:((k:Int)==39)=false:=zE;have HT:G (dM n (fO k)=((n.n==0) && n.a.toList.isEmpty)):=by show _=_;rw[t.out];rcases OW k d with e|e|e|e|e|e|e|e|e|e|e|e|e;all_goals first|(exfalso;omega)|(rw[e];rfl)
   generalize n.a.toList.isEmpty=em at *;cases hnz:(n.n==0)<;>cases em
   all_goals
    rw[hnz]at HT
    go_wp2
    go_ret
    exact⟨cY (by rw[HT.out];rfl),vz⟩
def C5 (m:Nat) {n:F (T m)} (d:ZA) (f:Nat) (a:Bool) (j:cR S w n.q (A na (J n.q) nc)) (i:J n.o<=WX) (l:Bd S w) (p:n.a.size<=1048576) :
  WU WV 72 #[Uy n.k n.n n.a na (J n.q) nc d (J n.o) f,Zb a] w λe q=>e=Zr (Zb (fS n a))/\Bw w q:=by
 by_cases h:(1<=n.k/\n.k<=43)/\a=decide (36<=n.k);case neg=>exact Eu m na d nc f w h
 obtain⟨o,c⟩:=h;by_cases b:n.k=24
 .obtain⟨s,num,text,names,kids⟩:=n;simp only at b c;subst b;obtain rfl:a=false:=by rw[c];rfl
  have:=AJ num text kids d f j l;have e:fS (⟨24,num,text,names,kids⟩:F (T m)) false=((num==0) && text.toList.isEmpty && ee names && (J names==J kids) && !(names.any (λy=>y==bs [101,110,100]))):=by unfold fS;exact dS
  rw[e];exact this
 .obtain⟨k,g⟩:∃k:Nat,n.k=(k:Int):=⟨n.k.toNat,E⟩;have:=Ev m d f k a (by rw[c,g]) g E E E j i l p;have e:fS n a=((J n.o==J (mD k)) && dM n (fO k)):=by unfold fS;rw[QK o,c,Qd b,show n.k.toNat=k by omega];exact dS
  rw[e,g];exact this
def kJ:(m:Nat)->T m->Bool->Int->Bool
 | 0,_,_,_=>false
 | m+1,t,act,d=>decide (d<=24) && fS (show F (T m) from t) act && ((F.o t).zipIdx.all λx=>kJ m x.1 (eU (F.k t).toNat x.2) (d+1))
def N0:∀(m:Nat)(t:T m)(a:Bool)(d:Int),kJ m t a d=(c7 m t d && (a==decide (36<=p8 m t))):=by
 intro m;induction m with
 | zero=>intro t a d;rfl
 | succ m l=>
  intro t a d;obtain⟨n,hn⟩:∃n:F (T m),n=t:=⟨t,D⟩;have o:kJ (m+1) t a d=(decide (d<=24) && fS n a && (n.o.zipIdx.all λx=>kJ m x.1 (eU n.k.toNat x.2) (d+1))):=Cu;have p:c7 (m+1) t d=(decide (d<=24) && eQ (iQ m) n && n.o.all (λk=>c7 m k (d+1))):=Cu;have q:p8 (m+1) t=n.k:=Cu;rw[o,p,q];have v:=GY (iQ m) n a;have g:(n.o.zipIdx.all λx=>kJ m x.1 (eU n.k.toNat x.2) (d+1))=(n.o.all (λk=>c7 m k (d+1)) && (n.o.zipIdx.all λx=>eU n.k.toNat x.2==decide (36<=p8 m x.1))):=by
   rw[ZK,Qc,Qo,Qo,Qo];constructor
   .intro h;refine⟨λk g=>?_,λx b=>?_⟩;·obtain⟨i,u,rfl⟩:=QT g;have:=h (n.o[i],i) (by rw[Zl];simp[u]);rw[l,Qc]at this;exact this.1
    .have:=h x b;rw[l,Qc]at this;exact this.2
   .rintro ⟨r,s⟩ x b;rw[l,Qc];have:=Z0 b;exact⟨r x.1 (by rw[this.2.2];exact zS),s x b⟩
  have hp:(n.o.all (λk=>c7 m k (d+1)) && (n.o.zipIdx.all λx=>eU n.k.toNat x.2==decide (36<=p8 m x.1)))=(n.o.all (λk=>c7 m k (d+1)) && (n.o.zipIdx.all λx=>iQ m x.1==(if eU n.k.toNat x.2=true then 65 else 86))):=by
   cases hg:n.o.all (λk=>c7 m k (d+1)) with
   | false=>rfl
   | true=>
    rw[X6,X6,ZK,Qo,Qo];rw[Qo]at hg;have e:∀x,x∈n.o.zipIdx->((eU n.k.toNat x.2==decide (36<=p8 m x.1))=true↔(iQ m x.1==(if eU n.k.toNat x.2=true then 65 else 86))=true):=by
     intro x b;have w:=Z0 b;have c:=hg x.1 (by rw[w.2.2];exact zS);have y:1<=p8 m x.1/\p8 m x.1<=43:=by
      cases m with
      | zero=>simp[c7]at c
      | succ m=>simp only[c7,Qc]at c;have:=c.1.2;unfold eQ at this;simp only[Qc,Qk]at this;exact this.1
     have j:=qaR y;unfold iQ;rw[j];cases eU n.k.toNat x.2<;>by_cases f:36<=p8 m x.1<;>simp[f]
    exact⟨λh x b=>(e x b).1 (h x b),λh x b=>(e x b).2 (h x b)⟩
  rw[g,hp];cases decide (d<=24) with
  | false=>rfl
  | true=>rw[X6,X6];rw[<- Wy,Wl (fS n a),Wy,v];cases eQ (iQ m) n<;>cases n.o.all (λk=>c7 m k (d+1))<;>cases (a==decide (36<=n.k))<;>rfl
def A8:yielded.match_1 (λ_=>Option Bool) (Z undef) (λb=>Z b) (λ_=>Y)=Y:=rfl
def eS(m:Nat)(t:T m)(a:Bool)(d:Int):Int:=if kJ m t a d=true/\cJ m t<=200 then (cJ m t:Int) else -1
def LY(t:T m)(a:Bool)(d:Int): -1<=eS m t a d/\eS m t a d<=200:=by unfold eS;split<;>omega
def Ht{t:T m}(h:0<=eS m t act d):eS m t act d=cJ m t/\kJ m t act d=true:=by
 unfold eS at h ⊢;by_cases a:kJ m t act d=true/\cJ m t<=200;·rw[Qm a];exact⟨D,a.1⟩
 .rw[Qd a]at h;omega
def KN{t:T (m+1)}(h:kJ (m+1) t act d=true)(a:i<J (F.o t)):kJ m (F.o t)[i] (eU (F.k t).toNat i) (d+1)=true:=by simp only[kJ,Qc,Qo]at h;exact h.2 ((F.o t)[i],i) (by rw[Zl];simp[a])
def Hu(m:Nat){t:T (m+1)}(a:Bool)(d:Int)(b:i<J (F.o t))(h:eS m (F.o t)[i] (eU (F.k t).toNat i) (d+1)<0):eS (m+1) t a d = -1:=by unfold eS;rw[Qd];rintro ⟨c,e⟩;have f:=KN c b;have g:=eK (λk=>cJ m k) (F.o t) _ (QE b);simp only[cJ]at e;unfold eS at h;rw[Qm ⟨f,E⟩]at h;omega
def EU(m:Nat)(t:T (m+1))(a:Bool)(d:Int)(k:Nat)(h:200<1+cG (λk=>cJ m k) ((F.o t).take k)):eS (m+1) t a d = -1:=by unfold eS;rw[Qd];rintro ⟨-,b⟩;have:=eV (λk=>cJ m k) ((F.o t).take k) ((F.o t).drop k);rw[Q2]at this;simp only[cJ]at b;omega
def Hv {t:T (m+1)} (h:(decide (d<=24) && fS (show F (T m) from t) act)=true) (a:∀ i (b:i<J (F.o t)),kJ m (F.o t)[i] (eU (F.k t).toNat i) (d+1)=true) (g:1+cG (λk=>cJ m k) (F.o t)<=200) :
  eS (m+1) t act d=1+(cG (λk=>cJ m k) (F.o t):Int):=by
 unfold eS;rw[Qm];·exact Cn
 .refine⟨?_,Cn⟩;simp only[kJ,h,X6,Qo];intro x f;have c:=Z0 f;have b:x.2<J (F.o t):=E;have:=a x.2 b;have e:x.1=(F.o t)[x.2]:=by simpa using c.2.2
  rw[e];exact this
def BV(m:Nat)(t:T (m+1))(a:Bool)(d:Int)(h:(decide (d<=24) && fS (show F (T m) from t) a)=false):eS (m+1) t a d = -1:=by unfold eS;rw[Qd];rintro ⟨b,-⟩;simp only[kJ,h,Ze]at b;cases b
def tf(m:Nat):Prop:=∀(S:ZN)(t:T m)(c0 c1 c2 c3 c4:Zv)(a:Bool)(d:Int)(w:Zw),b8 S w m t c0 c1 c2 c3 c4->(Bd S w)->gY m t<=1048576->1<=d->d<=25 ->
 WU WV 48 #[Za #[c0,c1,c2,c3,c4],Zb a,I U d] w λe b=>e=Zr (I U (eS m t a d))/\Bw w b
def Gk{n:F α}(h:fS n act=true)(a:n.k≠24):J n.o=J (mD n.k.toNat):=by unfold fS at h;rw[Qd a]at h;simp only[Qc,QP]at h;exact h.2.1
def qaG(a:k≠24)(b:i<(bs (K2 k)).size):(((bs (K2 k))[i]'b).toNat:Int)=97↔eU k i=true:=by
 have c:i<J (Tf k):=by rw[dG]at b;unfold K2 at b;rw[Qd a]at b;exact b
 have e:(bs (K2 k))[i]'b=(Tf k)[i]:=by rw[wV];unfold K2;simp only[Qd a]
 rw[e];unfold eU;rw[QK a,X6];simp only[Qw,Qp c,Xm,QP];constructor;·intro h;exact X8.1 (by rw[(by omega:((Tf k)[i]).toNat=97)];rfl)
 .intro h;rw[h];rfl
def AK(hn:tf m):tf (m+1):=by
 intro S t c0 c1 c2 c3 c4 act d w ht v zA aj ak;obtain⟨rfl,rfl,rfl,hs,aq,ar,q5,qc,⟨na,nl,nc,rfl,ah⟩,⟨ka,kl,kc,rfl,ai⟩⟩:=ht;obtain⟨_,_,hv,-⟩:=id q5;cases hv
 have⟨_,_,hv,x,g⟩:=id qc;cases hv
 have ac:(F.a t).size<=1048576:=by simp only[gY]at zA;omega
 have q7:G (∀k (h:k<J (F.o t)),gY m (F.o t)[k]<=1048576):=λk h=>by exact PH
 clear zA;have qp:=(Qg w.heap.size w).alloc E (UB (F.k t) (F.n t) (F.a t) na (J (F.q t)) nc ka (J (F.o t)) kc);by_cases z:d<=24;case neg=>have HF:G (eS (m+1) t act d = -1):=BV m t act d (by simp[z]);exact PS
 have V:=q5.keep (b6 qp v) zI;have HC:G (WU WV 72 _ _ _):=C5 m ka kc act V x (fP v) ac;have hK:=qc.keepN (b6 qp v) zI;have HD:G (d<=24):=z;unfold WX at x;go_in;go_wp2_with fail;refine H HC ?_;rintro e w1 ⟨rfl,p⟩;have ad:=p.size;simp at ad;have y:=b9 qp zS p;have⟨m0,m1,m2,m3,m4⟩:=cP ((p.block w.heap.size zS).trans (Xq w _));have q9:=hK.keepN (b6 p (fP v)) zI;clear qp V HC hK p q5 qc g;cases hal:fS (show F (T m) from t) act with
 | false=>have HF:G (eS (m+1) t act d = -1):=BV m t act d (by rw[hal];simp);clear hal;go_wp2;go_ret;exact⟨dd HF.symm,y⟩
 | true=>
  have q8:G ((decide (d<=24) && fS (show F (T m) from t) act)=true):=by show _=_;rw[hal];simp[z]
  have hr:1<=F.k t/\F.k t<=43:=by have h:=hal;unfold fS at h;simp only[Qc,Qk]at h;exact h.1.1
  obtain⟨k,X⟩:∃k:Nat,F.k t=(k:Int):=⟨(F.k t).toNat,E⟩;have Q:k<44:=E;have B:(F.k t).toNat=k:=E;have q6:G (k≠24->J (F.o t)=(bs (K2 k)).size):=λl=>by have:=Gk hal (by show F.k t≠24;omega);rw[Ja l,<- B];exact this
  have j0:G (∀w,WU WV 73 #[I U (k:Int)] w _):=λw=>tZ Q w;obtain⟨_,_,ab,-,g⟩:=q9;cases ab
  have j2:G (∀i (n:i<(bs (K2 k)).size),k≠24->((((bs (K2 k))[i]'n).toNat:Int)==97)=eU k i):=λi n l=>by have:=qaG l n;rw[ZK,QP];exact this
  have K:G (k=24->∀i,eU k i=false):=λh i=>by subst h;simp[eU]
  have af:=a8 X;have M:=a8 B;rw[X]at m0;rw[X];clear hal hr X B;generalize bs (K2 k)=q at *;go_wp2_with fail;refine H (j0 _) ?_;rintro e uy ⟨rfl,rfl⟩;go_wp2;go_loopw [8,9] (λa i wr=>∃ j:Nat,j<=J (F.o t)/\i=I U j/\a=I U (1+(cG (λk=>cJ m k) ((F.o t).take j):Int))/\1+cG (λk=>cJ m k) ((F.o t).take j)<=200 /\
    G (∀i (n:i<J (F.o t)),i<j->kJ m (F.o t)[i] (eU k i) (d+1)=true)/\Bw uy wr) (λ_ i _=>J (F.o t)-(intOf i).toNat)
  case atStart=>exact⟨0,Q9 _,D,uL,uL,λi _ h=>absurd h (XJ _),Qg _ _⟩
  case round=>
   obtain⟨j,hj,rfl,rfl,ae,o,c⟩:=hrel;have qo:=c.size;have q0:a7 wr w.heap.size 0=Z (I U (k:Int)):=kC c m0 E;have q4:a7 wr w.heap.size 4=Z (A ka (J (F.o t)) kc):=kC c m4 E;generalize P:cG (λk=>cJ m k) ((F.o t).take j)=sm at *;have L:=a8 P;clear P;by_cases qf:j<J (F.o t)
   .obtain⟨b,off,rfl,aa,s⟩:=g nS;have⟨x0,x1,x2,x3,x4,e0,e1,e2,e3,e4,C⟩:=s j qf;obtain⟨y0,y1,y2,ya,yl,yc,za,zl,zc,rfl,rfl,rfl,rfl,rfl⟩:=C.shape;have ag:=v b aa;have f0:=kC c e0 E;have f1:=kC c e1 E;have f2:=kC c e2 E;have f3:=kC c e3 E;have f4:=kC c e4 E;have qq:=C.keep (b6 c (fP v)) zI;have zN:G (∀W,Bw wr W->WU WV 48 #[Uy y0 y1 y2 ya yl yc za zl zc,Zb (eU k j),I U (d+1)] W λe w'=>e=Zr (I U (eS m (F.o t)[j] (eU k j) (d+1)))/\Bw wr w' /\ (a7 w' w.heap.size 0=Z (I U (k:Int))/\a7 w' w.heap.size 4=Z (A (b5 b off) (J (F.o t)) kc)/\Q5 w' b (off+j*5) y0 y1 y2 ya yl yc za zl zc)):=by intro W u;refine H (hn S (F.o t)[j] _ _ _ _ _ (eU k j) (d+1) W (qq.keep (b6 u (fP v)) zI) (λb ql=>by have:=v b ql;have:=u.size;omega) (q7 j qf) E (by have:=HD.out;omega)) ?_;rintro e w' ⟨rfl,ql⟩;have f:Bw wr w':=u.trans (ql.mono u.size);exact⟨D,f,kC f q0 E,kC f q4 E,kC f f0 E,kC f f1 E,kC f f2 E,kC f f3 E,kC f f4 E⟩
    have hD:Bw wr wr.drew:=(Qg _ _).drew;have au:IntKind.i64.wrap (d+1)=d+1:=kG;have HQ:G (k≠24->∃n:j<q.size,(((q[j]'n).toNat:Int)==97)=eU k j):=λl=>by
     have n:j<q.size:=by rw[<- q6.out l];exact qf
     exact⟨n,j2 j n l⟩
    have an:(j:Int)<(J (F.o t):Int):=E;have xB:G (eS m (F.o t)[j] (eU k j) (d+1)<0->eS (m+1) t act d = -1):=λh=>Hu m act d qf (by rw[M.out];exact h);have xz:G (0<=eS m (F.o t)[j] (eU k j) (d+1)->eS m (F.o t)[j] (eU k j) (d+1)=cJ m (F.o t)[j]/\kJ m (F.o t)[j] (eU k j) (d+1)=true):=λh=>Ht h;have jt:G (cG (λk=>cJ m k) ((F.o t).take (j+1))=sm+cJ m (F.o t)[j]):=by show _=_;rw[dw _ qf,L.out]
    have vF:G (kJ m (F.o t)[j] (eU k j) (d+1)=true->∀i (n:i<J (F.o t)),i<j+1->kJ m (F.o t)[i] (eU k i) (d+1)=true):=λhg i n al=>by
     rcases Ww i j with h|h;·exact o i n h
     .have:i=j:=E;subst this;exact hg
    have ao:=LY (F.o t)[j] (eU k j) (d+1);have vK:=a8 c;have qU:=a8 y;clear g s e0 e1 e2 e3 e4 C qq c o;generalize eS m (F.o t)[j] (eU k j) (d+1)=r at *;by_cases l:k=24;·have O:=K.out l j;rw[O]at zN;have j3:((k:Int) != 24)=false:=zE;have N:((k:Int)==24)=true:=zE;clear HQ l;exact qcL
    .have⟨n,ap⟩:=HQ.out l;have j3:((k:Int) != 24)=true:=zE;have N:((k:Int)==24)=false:=zE;have am:(j:Int)<(q.size:Int):=E;generalize eU k j=av at *;clear HQ;exact qcL
   .have R:j=J (F.o t):=E;have HF:G (eS (m+1) t act d=1+(sm:Int)):=by show _=_;have qa:=L.out;rw[R,QG]at qa;rw[Hv q8.out (λi n=>by rw[M.out];exact o.out i n E) (by rw[qa];omega),qa]
    have qL:=y.trans (c.mono E);clear R g o;go_wp2;go_ret;exact⟨dd HF.symm,qL⟩
def C8:∀m,tf m:=by
 intro m;induction m with
 | zero=>intro S t c0 c1 c2 c3 c4 a d w b;exact b.elim
 | succ m c=>exact AK c
def Nn(m:Nat):Prop:=∀(S:ZN)(t:T m)(c0 c1 c2 c3 c4:Zv)(d:Int)(w:Zw),b8 S w m t c0 c1 c2 c3 c4->(Bd S w)->c7 m t d=true->dC m t<=800000 ->
 WU WV 49 #[Za #[c0,c1,c2,c3,c4]] w λe a=>Bw w a/\∃s,e=Zr (Zt s)/\s.size=dC m t
def fZ(a b:ZB):(a++b).size=a.size+b.size:=dS
def sQ(f:α->Nat)(l:List α)(k:Nat):cG f (l.take k)<=cG f l:=by have:=eV f (l.take k) (l.drop k);rw[Q2]at this;omega
def uD(l:List ZB)(k:Nat):gV (l.take k)<=gV l:=by have:=yO (l.take k) (l.drop k);rw[Q2]at this;omega
def Iu (hn:Nn m) {n:F (T m)} (K:Bd S w) (j3:cR S w n.q (A na (J n.q) nc)) (h4:dn S w (b8 S w m) n.o (A ka (J n.o) kc))
  (aa:J n.q=J n.o) (hg:n.o.all (λx=>c7 m x d)=true) (hl:8+gV n.q+cG (λx=>dC m x+1) n.o<=800000) :
  WU WV 49 #[Uy 24 n.n n.a na (J n.q) nc ka (J n.o) kc] w λe j=>Bw w j/\∃s,e=Zr (Zt s)/\s.size=8+gV n.q+cG (λx=>dC m x+1) n.o:=by
 have⟨W,hW⟩:=fk (w.alloc (UB 24 n.n n.a na (J n.q) nc ka (J n.o) kc));have l:Bw w W:=Ag;have am:w.heap.size<W.heap.size:=pR;have r:W.heap[w.heap.size]?=Z (Zc (Uz 24 n.n n.a na (J n.q) nc ka (J n.o) kc) 38 (0,0)):=by rw[hW];exact Xq _ _
 have⟨_,_,hv,q9,ac,y⟩:=j3.keep (b6 l K) zI;cases hv
 have⟨_,_,hv,ql,z⟩:=h4.keepN (b6 l K) zI;cases hv
 have HG:G (∀k (h:k<J n.o),c7 m n.o[k] d=true):=λk h=>Qo.1 hg _ zS;have j2:G (8+gV n.q+cG (λx=>dC m x+1) n.o<=800000):=hl;have af:J n.q<=J n.o:=E;have ag:J n.o<=J n.q:=E;have X:=a8 l;unfold WX at q9 ql;clear hg hl j3 h4 aa l;subst hW;go_in;go_wp2;go_loopw [3,4] (λa i wr=>∃(k:Nat)(s:ZB),k<=J n.o/\i=I U k/\a=Zt s/\G (s.size=4+gV (n.q.take k)+cG (λx=>dC m x+1) (n.o.take k))/\Below (w.heap.size+1) (w.alloc (UB 24 n.n n.a na (J n.q) nc ka (J n.o) kc)) wr) (λ_ i _=>J n.o-(intOf i).toNat);case atStart=>exact⟨0,⟨#[102,111,114,109]⟩,E,D,D,D,Qg _ _⟩
 case round=>
  obtain⟨k,s,hk,rfl,rfl,j0,g⟩:=hrel;have⟨z0,z1,z2,z3,z4⟩:=cP ((g.block w.heap.size E).trans r);by_cases u:k<J n.o
  .have q:k<J n.q:=E;obtain⟨b,off,rfl,qq,t⟩:=y (by intro h;rw[h]at q;simp at q);have ai:=K b qq;have e0:=kC g (t k q) E;obtain⟨o,c,rfl,M,p⟩:=z JY;have ad:=K o M;have⟨d0,d1,d2,d3,d4,k0,k1,k2,k3,k4,B⟩:=p k u;obtain⟨x0,x1,x2,xa,xl,xc,ya,yl,yc,rfl,rfl,rfl,rfl,rfl⟩:=B.shape;have f0:=kC g k0 E;have f1:=kC g k1 E;have f2:=kC g k2 E;have f3:=kC g k3 E;have f4:=kC g k4 E;have R:=g.size;have HC:G (∀L,Bw wr L->WU WV 49 #[Uy x0 x1 x2 xa xl xc ya yl yc] L λe j=>∃s,e=Zr (Zt s)/\s.size=dC m n.o[k]/\Bw wr j/\(a7 j w.heap.size 3=Z (A (b5 b off) (J n.q) nc)/\a7 j w.heap.size 4=Z (A (b5 o c) (J n.o) kc)/\a7 j b (off+k)=Z (Zt n.q[k])/\a7 j o (c+k*5)=Z (I U x0)/\a7 j o (c+k*5+1)=Z (I U x1)/\a7 j o (c+k*5+2)=Z (Zt x2)/\a7 j o (c+k*5+3)=Z (A xa xl xc)/\a7 j o (c+k*5+4)=Z (A ya yl yc))):=by intro L v;have ah:=eK (λx=>dC m x+1) n.o _ (QE u);have hL:=j2.out;have l:Below (w.heap.size+1) (w.alloc (UB 24 n.n n.a (b5 b off) (J n.q) nc (b5 o c) (J n.o) kc)) L:=g.trans (v.mono (by simp at R;omega));refine H (hn S n.o[k] _ _ _ _ _ d L (B.keep (b6 l (fP K)) zI) (λb qc=>by have:=K b qc;have:=l.size;simp at this;omega) (HG k u) E) ?_;rintro e j ⟨qc,s',rfl,ab⟩;have f:Bw wr j:=v.trans (qc.mono v.size);simp at R;exact⟨s',D,ab,f,kC f z3 E,kC f z4 E,kC f e0 E,kC f f0 E,kC f f1 E,kC f f2 E,kC f f3 E,kC f f4 E⟩
   have Q:G (gV (n.q.take (k+1))=gV (n.q.take k)+(n.q[k].size+1)/\cG (λx=>dC m x+1) (n.o.take (k+1))=cG (λx=>dC m x+1) (n.o.take k)+(dC m n.o[k]+1)):=⟨q7 q,dw _ u⟩;have aj:s.size+n.q[k].size+dC m n.o[k]+2<=900000:=by have C:=uD n.q (k+1);have h2:=sQ (λx=>dC m x+1) n.o (k+1);have j3:=j2.out;rw[Q.1]at C;rw[Q.2]at h2;rw[j0.out];omega
   have hD:Bw wr wr.drew:=(Qg _ _).drew;have ak:(k:Int)<(J n.o:Int):=E;have ae:(k:Int)<(J n.q:Int):=E;have q6:=a8 g;have q8:=a8 R;clear y z t p B k0 k1 k2 k3 k4 r ac z0 z1 z2 g R;generalize n.q[k]=nm at *;generalize dC m n.o[k]=lk at *;go_wp2_with fail;go_region_held (λj=>a7 j w.heap.size 3=Z (A (b5 b off) (J n.q) nc)/\a7 j w.heap.size 4=Z (A (b5 o c) (J n.o) kc)/\a7 j b (off+k)=Z (Zt nm)/\a7 j o (c+k*5)=Z (I U x0)/\a7 j o (c+k*5+1)=Z (I U x1)/\a7 j o (c+k*5+2)=Z (Zt x2)/\a7 j o (c+k*5+3)=Z (A xa xl xc)/\a7 j o (c+k*5+4)=Z (A ya yl yc)) (first|with_reducible assumption|go_keep) (first|(go_at_call 49;refine H (HC _ hD) ?_;rintro e w2 ⟨s2,rfl,P,N,qa⟩));all_goals
    have V:G (Below (w.heap.size+1) _ w2):=q6.trans (N.mono (by have:=q8.out;simp at this;omega))
    have q5:G ((((s++⟨#[32]⟩)++nm)++⟨#[32]⟩++s2).size=4+gV (n.q.take (k+1))+cG (λx=>dC m x+1) (n.o.take (k+1))):=by
     show _=_
     rw[Q.1,Q.2,fZ,fZ,fZ,fZ,j0.out,P]
     show _+1+_+1+_=_
     omega
    clear N qa P HC f0 f1 f2 f3 f4 e0 z3 z4
    go_wp2
    go_roundw
    case rel=>exact⟨k+1,_,E,ew,D,q5,V⟩
    case measure=>exact eb
  .have O:k=J n.o:=E;have HE:G ((s++⟨#[32,101,110,100]⟩).size=8+gV n.q+cG (λx=>dC m x+1) n.o):=by show _=_;have C:=j0.out;rw[O,QG,Xf E]at C;rw[fZ,C];show _+4=_;omega
   have HB:=a8 (X.trans (g.mono E));have al:s.size<=900000:=by have C:=HE.out;rw[fZ]at C;have:=j2.out;omega
   clear y z O g r z0 z1 z2 z3;go_wp2;go_ret;exact⟨HB,_,D,HE⟩
def Iv (m:Nat) {n:F (T m)} (na o:ZA) (nc p:Nat) (j:n.k=(k:Int)) (t:1<=k) (u:k<=3) (w:Zw) (d:(Lit.int U n.k).wf=true) (f:(Lit.int U n.n).wf=true) (l:n.a.size<=WX) (b:cM n.k n.n n.a [] 0=true) :
  WU WV 49 #[Uy (k:Int) n.n n.a na (J n.q) nc o (J n.o) p] w λe h=>Bw w h/\∃s,e=Zr (Zt s)/\s.size=J (kw n.k n.n n.a):=by
 have g:=(Qg w.heap.size w).alloc E (UB (k:Int) n.n n.a na (J n.q) nc o (J n.o) p);have i:G (∀w,WU WV 74 #[Uy (k:Int) n.n n.a Y 0 0 Y 0 0] w λe h=>e=Zr (Zt (bs (kw n.k n.n n.a)))/\Bw w h):=by
  intro w;have v:cS 1 (lN n.k n.n n.a) 1=true:=by show (decide ((1:Int)<=6) && cM n.k n.n n.a [] 0 && List.all ([]:List (T 0)) _)=_;rw[b];rfl
  have:=n7 1 (λ_=>False) (lN n.k n.n n.a) _ _ _ _ _ 1 w (yi _ w n.n n.a d f l) Ae v (by show (1:Nat)<=120;omega);rw[j]at this ⊢;exact this
 have r:G ((bs (kw n.k n.n n.a)).size=J (kw n.k n.n n.a)):=dG _;generalize bs (kw n.k n.n n.a)=s at *;have a:k=1∨k=2∨k=3:=E;clear j t u b d f l;rcases a with rfl|rfl|rfl;all_goals
  go_in
  go_wp2_with fail
  refine H (i _) ?_
  rintro e w1 ⟨rfl,c⟩
  have q:=a8 (b9 g zS c)
  clear c i
  go_wp2
  go_ret
  exact⟨q,_,D,r⟩
def Iw (m:Nat) {n:F (T m)} (i:ZA) (j:Nat) (o:Bd S w) (g:cR S w n.q (A na (J n.q) nc)) (c:n.q≠[]) :
  WU WV 49 #[Uy 4 n.n n.a na (J n.q) nc i (J n.o) j] w λe r=>Bw w r/\∃s,e=Zr (Zt s)/\s.size=(n.q.headD WT).size:=by
 have d:=(Qg w.heap.size w).alloc E (UB 4 n.n n.a na (J n.q) nc i (J n.o) j);obtain⟨_,_,q,u,-,h⟩:=g.keep (b6 d o) zI;cases q
 obtain⟨b,off,rfl,p,a⟩:=h c;have f:0<J n.q:=Wu.2 c;have l:=a 0 f;rw[QC]at l;have k:G (n.q[0].size=(n.q.headD WT).size):=by show _=_;rw[List.headD_eq_head?_getD,List.head?_eq_getElem?,Qp f];rfl
 have t:(0:Int)<(J n.q:Int):=E;generalize n.q[0]=s at *;clear h a g c;go_in;go_wp2;go_ret;exact⟨d,_,D,k⟩
def Pj (hn:Nn m) {n:F (T m)} (aj:k<44) (aL:5<=k) (au:k≠24) (q6:Bd S w) (h3:cR S w n.q (A na (J n.q) nc)) (h4:dn S w (b8 S w m) n.o (A ka (J n.o) kc))
  (hg:n.o.all (λx=>c7 m x d)=true) (N:(k=37∨k=39)->0<=n.n/\n.n<=99)
  (hl:(lF k).size+gV n.q+(if n.a.size=0 then 0 else n.a.size+1)+(if k=37∨k=39 then J (W6 n.n)+1 else 0)+cG (λx=>dC m x+1) n.o<=800000) :
  WU WV 49 #[Uy (k:Int) n.n n.a na (J n.q) nc ka (J n.o) kc] w λe w'=>Bw w w' /\ ∃s,e=Zr (Zt s)/\s.size=(lF k).size+gV n.q+(if n.a.size=0 then 0 else n.a.size+1)+(if k=37∨k=39 then J (W6 n.n)+1 else 0)+cG (λx=>dC m x+1) n.o:=by
 have⟨W,hW⟩:=fk (w.alloc (UB (k:Int) n.n n.a na (J n.q) nc ka (J n.o) kc));have y:Bw w W:=Ag;have aN:w.heap.size<W.heap.size:=pR;have M:W.heap[w.heap.size]?=Z (Zc (Uz (k:Int) n.n n.a na (J n.q) nc ka (J n.o) kc) 38 (0,0)):=by rw[hW];exact Xq _ _
 have⟨_,_,hv,aw,z,ah⟩:=h3.keep (b6 y q6) zI;cases hv
 have⟨_,_,hv,ax,ai⟩:=h4.keepN (b6 y q6) zI;cases hv
 have HG:G (∀k (h:k<J n.o),c7 m n.o[k] d=true):=λk h=>Qo.1 hg _ zS;have aa:G (∀w,WU WV 75 #[I U (k:Int)] w _):=λw=>t7 aj w;have d1:((k:Int)==1)=false:=zE;have d2:((k:Int)==2)=false:=zE;have d3:((k:Int)==3)=false:=zE;have d4:((k:Int)==4)=false:=zE;have aD:((k:Int)==24)=false:=zE;have⟨f,hA⟩:=fk ((lF k).size);have⟨L,V⟩:=fk ((if n.a.size=0 then 0 else n.a.size+1));have⟨C,hC⟩:=fk ((if k=37∨k=39 then J (W6 n.n)+1 else 0));rw[<- hA,<- V,<- hC]at hl ⊢;have HA:=a8 hA;have P:=a8 V;have qa:=a8 hC;have q5:=a8 hl;have am:=a8 y;have q9:=a8 N;have l:=a8 M;unfold WX at aw ax;clear hg hl h3 h4 y hA V hC N M au;subst hW;go_in;go_wp2_with fail;refine H (aa _) ?_;rintro e w1 ⟨rfl,ad⟩;have ap:=a8 ad;have an:G ((lF k).size=f):=HA.symm;clear ad aa;generalize lF k=s0 at *;go_wp2;go_loopw [5,6] (λa i wr=>∃(j:Nat)(s:ZB),j<=J n.q/\i=I U j/\a=Zt s/\G (s.size=f+gV (n.q.take j))/\Below (w.heap.size+1) (w.alloc (UB (k:Int) n.n n.a na (J n.q) nc ka (J n.o) kc)) wr) (λ_ i _=>J n.q-(intOf i).toNat);case atStart=>exact⟨0,s0,E,D,D,by show _=_;rw[an.out];simp[gV],by have:=ap.out;simpa [Bw] using this⟩
 case round=>
  obtain⟨j,s,hj,rfl,rfl,u,c⟩:=hrel;have⟨z0,j3,z2,z3,z4⟩:=cP ((c.block w.heap.size E).trans l);by_cases qf:j<J n.q
  .obtain⟨b,off,rfl,av,q⟩:=ah nS;have aJ:=q6 b av;have e0:=kC c (q j qf) E;have qc:G (gV (n.q.take (j+1))=gV (n.q.take j)+(n.q[j].size+1)):=q7 qf;have ag:s.size+n.q[j].size+1<=900000:=by have h1:=uD n.q (j+1);have h3:=q5.out;rw[qc.out]at h1;rw[u.out];omega
   have p:=a8 c;clear q c;generalize n.q[j]=nm at *;have g:G (((s++⟨#[32]⟩)++nm).size=f+gV (n.q.take (j+1))):=by show _=_;rw[qc.out,fZ,fZ,u.out];show _+1+_=_;omega
   go_wp2;go_roundw;case rel=>exact⟨j+1,_,E,ew,D,g,p⟩
   case measure=>exact eb
  .have r:j=J n.q:=E;have v:G (s.size=f+gV n.q):=by show _=_;have:=u.out;rw[r,QG]at this;exact this
   have ag:s.size<=800000:=by rw[v.out];have:=q5.out;omega
   clear r ah z u;have p:=a8 c;clear c;have aI:s.size+L+C<=800000:=by rw[v.out];have:=q5.out;omega
   have HT:G ((!n.a.toList.isEmpty)=true↔n.a.size≠0):=by show _↔_;rw[QI];have h2:J n.a.data.toList=n.a.size:=zS;rw[<- h2];cases n.a.data.toList<;>simp
   have aH:n.a.size<=800000:=by have h:=P.out;split at h<;>omega
   go_upto_if 75 with fail;go_cut [5] from 58 to 80 (λsv wx=>∃O:ZB,sv=Zt O/\O.size=f+gV n.q+L/\Below (w.heap.size+1) (w.alloc (UB (k:Int) n.n n.a na (J n.q) nc ka (J n.o) kc)) wx);case first=>
    have ab:((s++⟨#[32]⟩)++n.a).size=s.size+1+n.a.size:=by rw[fZ,fZ];rfl
    have g:=a8 ab;clear ab;go_wp2_with fail;·have h0:=HT.1 nM;go_meet;exact⟨_,D,by rw[g.out,v.out,P.out,Qd h0];omega,p⟩
    .have hw:(!n.a.toList.isEmpty)=false:=nM;have h0:n.a.size=0:=Decidable.of_not_not λh=>by rw[HT.2 h]at hw;cases hw
     go_meet;exact⟨_,D,by rw[v.out,P.out,Qm h0];rfl,p⟩
   case rest=>
    obtain⟨O,rfl,t,B⟩:=hcut;have⟨z0,j3,z2,z3,z4⟩:=cP ((B.block w.heap.size E).trans l);have j2:=B.size;simp at j2;have g:=a8 t;have R:=a8 B;have aG:O.size+C<=800000:=by rw[t];have:=q5.out;omega
    clear t B;go_upto_region 22 with fail;go_cut [88] from 58 to 87 (λbv wx=>∃b,bv=Zb b/\G (b=true↔k=37∨k=39)/\Below (w.heap.size+1) (w.alloc (UB (k:Int) n.n n.a na (J n.q) nc ka (J n.o) kc)) wx);case first=>
     by_cases h7:k=37
     .have d7:((k:Int)==37)=true:=by simp[h7]
      have j0:G (k=37∨k=39):=.inl h7;clear h7;go_wp2;go_meet;exact⟨_,D,(show _↔_ from ⟨λ_=>j0,λ_=>D⟩),R⟩
     .have d7:((k:Int)==37)=false:=gE;have j0:G (((k:Int)==39)=true↔k=37∨k=39):=by show _↔_;rw[QP];omega
      clear h7;go_wp2;go_meet;exact⟨_,D,j0,R⟩
    case rest=>
     obtain⟨b,rfl,HB,K⟩:=hcut;have⟨z0,j3,z2,z3,z4⟩:=cP ((K.block w.heap.size E).trans l);have j2:=K.size;simp at j2;have ql:=a8 K;clear K R;go_upto_if 88 with fail;go_cut [5] from 58 to 94 (λsv wx=>∃s3:ZB,sv=Zt s3/\s3.size=f+gV n.q+L+C/\Below (w.heap.size+1) (w.alloc (UB (k:Int) n.n n.a na (J n.q) nc ka (J n.o) kc)) wx);case first=>
      cases b
      rotate_left 1
      .have q8:=HB.1 D;have ay:=q9.out q8;obtain⟨x,hx⟩:∃x:Nat,n.n=(x:Int):=⟨n.n.toNat,E⟩;have j0:G (∀w,WU WV 76 #[I U (x:Int)] w _):=λw=>tG x x w E E;rw[hx]at j3;have qq:G ((bs (Lib.decDigits x)).size+1=C):=by show _=_;rw[dG,qa.out,Qm q8];unfold W6;rw[Qd E,show n.n.toNat=x by omega]
       generalize bs (Lib.decDigits x)=sd at *;have aM:sd.size<=900000:=by have:=qq.out;have:=q5.out;omega
       clear ay q8 hx;go_wp2_with fail;refine H (j0 _) ?_;rintro e w5 ⟨rfl,af⟩;have ar:G (Below (w.heap.size+1) _ w5):=ql.trans (af.mono j2);have Q:G (((O++⟨#[32]⟩)++sd).size=f+gV n.q+L+C):=by show _=_;rw[fZ,fZ,g.out,<- qq.out];show _+1+_=_;omega
       clear af j0;go_wp2;go_meet;exact⟨_,D,Q,ar⟩
      .have Q:G (O.size=f+gV n.q+L+C):=by show _=_;rw[g.out,qa.out,Qd (λh=>by cases HB.2 h)];rfl
       go_wp2;go_meet;exact⟨_,D,Q,ql⟩
     case rest=>
      obtain⟨s,rfl,z,ak⟩:=hcut;have ao:=a8 z;have aq:=a8 ak;clear z ak z0 j3 z2 z3 z4;go_wp2;go_loopw [5,7] (λa i wr=>∃(j:Nat)(s:ZB),j<=J n.o/\i=I U j/\a=Zt s/\G (s.size=f+gV n.q+L+C+cG (λx=>dC m x+1) (n.o.take j))/\Below (w.heap.size+1) (w.alloc (UB (k:Int) n.n n.a na (J n.q) nc ka (J n.o) kc)) wr) (λ_ i _=>J n.o-(intOf i).toNat);case atStart=>exact⟨0,s,E,D,D,by show _=_;rw[ao.out];simp[cG],aq⟩
      case round=>
       obtain⟨j,s,hj,rfl,rfl,u,c⟩:=hrel;have⟨z0,j3,z2,z3,z4⟩:=cP ((c.block w.heap.size E).trans l);have j2:=c.size;simp at j2;by_cases qf:j<J n.o
       .obtain⟨b2,aA,rfl,ac,o⟩:=ai JY;have az:=q6 b2 ac;have⟨d0,aB,aC,aE,aF,k0,k1,k2,k3,k4,X⟩:=o j qf;obtain⟨x0,x1,x2,xa,xl,xc,ya,yl,yc,rfl,rfl,rfl,rfl,rfl⟩:=X.shape;have f0:=kC c k0 E;have f1:=kC c k1 E;have f2:=kC c k2 E;have f3:=kC c k3 E;have f4:=kC c k4 E;have qc:G (cG (λx=>dC m x+1) (n.o.take (j+1))=cG (λx=>dC m x+1) (n.o.take j)+(dC m n.o[j]+1)):=dw _ qf;have ag:s.size+dC m n.o[j]+1<=800000:=by have h2:=sQ (λx=>dC m x+1) n.o (j+1);have h3:=q5.out;rw[qc.out]at h2;rw[u.out];omega
        have HC:G (WU WV 49 _ wr _):=hn S n.o[j] _ _ _ _ _ d wr (X.keep (b6 c (fP q6)) zI) (fP q6) (HG j qf) E;have p:=a8 c;have aK:(j:Int)<(J n.o:Int):=E;clear o X k0 k1 k2 k3 k4 c;generalize dC m n.o[j]=lk at *;go_wp2_with fail;refine H HC ?_;rintro e w2 ⟨ae,O,rfl,t⟩;have al:G (Below (w.heap.size+1) _ w2):=p.trans (ae.mono j2);have g:G (((s++⟨#[32]⟩)++O).size=f+gV n.q+L+C+cG (λx=>dC m x+1) (n.o.take (j+1))):=by show _=_;rw[qc.out,fZ,fZ,u.out,t];show _+1+_=_;omega
        clear ae HC f0 f1 f2 f3 f4 z0 j3 z2 z3 z4;go_wp2;go_roundw;case rel=>exact⟨j+1,_,E,ew,D,g,al⟩
        case measure=>exact eb
       .have r:j=J n.o:=E;have HE:G (s.size=f+gV n.q+L+C+cG (λx=>dC m x+1) n.o):=by show _=_;have:=u.out;rw[r,QG]at this;exact this
        have HB:=a8 (am.trans (c.mono E));clear ai r c u;go_wp2;go_ret;exact⟨HB,_,D,HE⟩
def Mo:∀m,Nn m:=by
 intro m;induction m with
 | zero=>intro S t c0 c1 c2 c3 c4 d w B;exact B.elim
 | succ m O=>
  intro S t c0 c1 c2 c3 c4 d w B y L p;obtain⟨rfl,rfl,rfl,N,q,r,i,s,⟨na,qc,nc,rfl,V⟩,⟨P,qa,Q,rfl,W⟩⟩:=B;obtain⟨_,_,C,-⟩:=id i;cases C
  obtain⟨_,_,C,-⟩:=id s;cases C
  simp only[c7,Qc]at L;obtain⟨⟨-,a⟩,b⟩:=L;obtain⟨n,hn⟩:∃n:F (T m),n=t:=⟨t,D⟩;have z:dC (m+1) t=kP (dC m) n:=Cu;rw[z]at p ⊢;change eQ (iQ m) t=true at a;rw[<- hn]at a b q r N i s ⊢;have M:1<=n.k/\n.k<=43:=by have h:=a;unfold eQ at h;simp only[Qc,Qk]at h;exact h.1
  obtain⟨k,c⟩:∃k:Nat,n.k=(k:Int):=⟨n.k.toNat,E⟩;have⟨o,l,j,hasF⟩:=sw k c a;have f:n.k.toNat=k:=E;have X:F.k n=(k:Int):=c;by_cases u:k<=3
  .have e:kP (dC m) n=J (kw n.k n.n n.a):=by unfold kP;rw[Qm E]
   rw[e];have:=Iv m na P nc Q c E u w q r N (l (by
    have:k=1∨k=2∨k=3:=E
    rcases this with rfl|rfl|rfl<;>decide))
   rw[c]at this ⊢;exact this
  by_cases v:k=4
  .subst v;have e:kP (dC m) n=(n.q.headD WT).size:=by unfold kP;rw[Qd E,Qm E]
   rw[e,c];refine Iw m P Q y i ?_;rw[mL (iQ m) M.1 M.2 E,f,yA.1]at a;simp only[dM,Qc]at a;intro R;have:=a.1.2;rw[R]at this;exact absurd this zC
  by_cases g:k=24
  .subst g;rw[l5 (iQ m) (n:=n) E]at a;simp only[Qc]at a;have K:=dO _ a.2.2;have e:kP (dC m) n=8+gV n.q+cG (λx=>dC m x+1) n.o:=by unfold kP;rw[Qd E,Qd E,f,Qm K,Qd E,Qm E,show (lF 24).size=4 by decide];omega
   rw[e]at p ⊢;rw[c];exact Iu O y i s (hasF zC) b p
  .have e:kP (dC m) n=(lF k).size+gV n.q+(if n.a.size=0 then 0 else n.a.size+1)+(if k=37∨k=39 then J (W6 n.n)+1 else 0)+cG (λx=>dC m x+1) n.o:=by
    unfold kP;rw[Qd E,Qd E,f,Qd (show ¬n.k=24 by omega)];have:(if n.k=37∨n.k=39 then J (W6 n.n)+1 else 0)=(if k=37∨k=39 then J (W6 n.n)+1 else 0):=by
     by_cases h:k=37∨k=39;·rw[Qm h,Qm E]
     .rw[Qd h,Qd E]
    rw[this];rfl
   rw[e]at p ⊢;rw[c];refine Pj O o E g y i s b (λh=>j ?_) p;rcases h with rfl|rfl<;>decide
def NI:∀(m:Nat)(t:T m)(d:Int),c7 m t d=true->1<=cJ m t:=by
 intro m t d h;cases m with
 | zero=>simp[c7]at h
 | succ m=>simp only[cJ];omega
def Le {t:T m} {c3 c4:Zv} (a:Bool) (k:b8 S w m t c0 c1 c2 c3 c4) (qq:Bd S w) (V:gY m t<=1048576) :
  WU WV 20 #[Za #[c0,c1,c2,c3,c4],Zb a] w λe W=>e=Zr (Zb (GV m t a))/\Bw w W:=by
 obtain⟨x,y,z,B,K,C,L,N,M,rfl,rfl,rfl,rfl,rfl⟩:=k.shape;have p:=(Qg w.heap.size w).alloc (QD _) (UB x y z B K C L N M);have⟨d,o⟩:=k.step qq p;have g:G (WU WV 48 _ _ _):=C8 m S t _ _ _ _ _ a 1 _ d o V E E;have i:G (∀ w1,Below (w.alloc (UB x y z B K C L N M)).heap.size (w.alloc (UB x y z B K C L N M)) w1->Bw w w1/\(N5 w1 w.heap.size x y z B K C L N M) /\
   (c7 m t 1=true->cJ m t<=200->WU WV 49 #[Uy x y z B K C L N M] w1 λe W=>Bw w1 W/\∃s,e=Zr (Zt s)/\s.size=dC m t)):=by
  intro w1 b
  have⟨u,Q⟩:=d.step o b
  refine⟨b9 p zS b,cP ((b.block w.heap.size zS).trans (Xq w _)),λl R=>?_⟩
  have F:=Jg m t 1 l
  exact Mo m S t _ _ _ _ _ 1 w1 u Q l E
 have P:G (eS m t a 1=if (c7 m t 1 && (a==decide (36<=p8 m t)))=true/\cJ m t<=200 then (cJ m t:Int) else -1):=by show _=_;unfold eS;rw[N0]
 clear k d;generalize eS m t a 1=v at *;by_cases j:(c7 m t 1 && (a==decide (36<=p8 m t)))=true/\cJ m t<=200
 .have l:c7 m t 1=true:=by have:=j.1;simp only[Qc]at this;exact this.1
  have hp:=NI m t 1 l;have qa:(0:Int)<v:=by rw[P.out,Qm j];omega
  have O:G (GV m t a=decide ((dC m t:Int)<=3000)):=by
   show _=_;unfold GV;rw[j.1,QK j.2];by_cases X:dC m t<=3000;·rw[QK X,QK E];rfl
   .rw[QU X,QU E];rfl
  have R:=j.2;clear j P hp;go_in;go_wp2_with fail;refine H g ?_;rintro e w1 ⟨rfl,b⟩;have⟨c,⟨z0,q6,D,z3,z4⟩,r⟩:=i.out w1 b;have n:=a8 (r l R);have f:=a8 c;clear b c r g i l R;go_wp2_with fail;refine H n ?_;rintro e qc ⟨q,s,rfl,ql⟩;have HF:G (GV m t a=decide ((s.size:Int)<=3000)/\Bw w qc):=⟨by rw[O.out,ql],f.trans (q.mono f.size)⟩;clear q ql n O z0 q6 D z3 z4;go_wp2;go_ret;exact⟨cY HF.1.symm,HF.2⟩
 .have qa:¬(0:Int)<v:=by rw[P.out,Qd j];omega
  have O:G (GV m t a=false):=by
   show _=_;unfold GV;cases h1:(c7 m t 1 && (a==decide (36<=p8 m t))) with
   | false=>rfl
   | true=>have q5:¬cJ m t<=200:=λh=>j ⟨h1,h⟩;rw[QU q5];rfl
  clear j P;go_in;go_wp2_with fail;refine H g ?_;rintro e w1 ⟨rfl,b⟩;obtain⟨c,-,-⟩:=i.out w1 b;have f:=a8 c;clear b c g i;go_wp2;go_ret;exact⟨cY O.symm,f⟩
