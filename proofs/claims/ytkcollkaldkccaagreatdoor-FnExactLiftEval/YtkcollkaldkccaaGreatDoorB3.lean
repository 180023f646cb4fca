import Derived.Test.YtkcollkaldkccaaGreatDoorB2
set_option linter.all false
open List renaming length -> J
open Go.Calls renaming mono -> H
open Go.Value renaming slice->A,int->I,string->Zt,pointer->Zp,agg->Za,tuple->Zu,bool->Zb
open Go.IntKind renaming i64->U
open Go.Ending renaming returned->Zr
open Go.Obj renaming cells->Zc
open Option renaming none->Y,some->Z
open Go renaming World->Zw,Value->Zv,maxLen->WX,TypeId->W9,Calls->WU
open ByteArray renaming empty->WT
open Go.World renaming frozen?->W7,setCell->Ug,cell?->WY
open Go.Lib renaming itoa->W6
open Go.Lit renaming int->Ud
open Go.Proofs.Tryz renaming prog->WV
open Go.RowKit renaming Hid->G
namespace Go.Proofs.YtkcollkaldkccaaGreatDoor
open Go.RowKit Go.Proofs.Tryz
set_option maxRecDepth 100000
set_option maxHeartbeats 16000000
variable {α:Type} {k R q m n bk rb nc kc ib pos j M pl pb bb B kl wb:Nat} {ns:List ZB} {s x:ZB} {r s2 c l:List UInt8} {w a w1 w' w0:Zw} {b bad:Bool} {i d:Int} {o:Obj} {S:ZN} {c0 c1 c2 q0 v3 v4 c3 c4 v kv:Zv} {na ka:ZA} {p:UInt8} {xs:List Zv}
def pY{α:Type}(f:List UInt8->Option (α×List UInt8))(k:Nat)(a:List ZB)(acc:List α)(b:List UInt8):Option (List ZB×List α×List UInt8):=
 match fh 58 b with
 | none=>Y
 | some (w,s2)=>
  match f (s2.drop 1) with
  | none=>Y
  | some (t,r)=>fQ f k (a++[bs w]) (acc++[t]) r
def KF{f:List UInt8->Option (α×List UInt8)}{acc:List α}{s:List UInt8}(h:dq [125] s=Z r):fQ f (k+1) ns acc s=Z (ns,acc,r):=by rw[fQ,h]
def El{f:List UInt8->Option (α×List UInt8)}{acc:List α}{s:List UInt8}(h:dq [125] s=Y)(a:J ns=0):fQ f (k+1) ns acc s=pY f k ns acc s:=by rw[fQ,h];simp only[a,XX];rfl
def GI{f:List UInt8->Option (α×List UInt8)}{acc:List α}{s a:List UInt8}(h:dq [125] s=Y)(b:¬(J ns)=0)(c:dq [44] s=Z a):fQ f (k+1) ns acc s=pY f k ns acc a:=by rw[fQ,h];simp only[Qd b,c];rfl
def GJ{f:List UInt8->Option (α×List UInt8)}{acc:List α}{s:List UInt8}(h:dq [125] s=Y)(a:¬(J ns)=0)(b:dq [44] s=Y):fQ f (k+1) ns acc s=Y:=by rw[fQ,h];simp only[Qd a,b]
def NV{f:List UInt8->Option (α×List UInt8)}{acc:List α}{s:List UInt8}(h:fh 58 s=Y):pY f k ns acc s=Y:=by rw[pY,h]
def KG{f:List UInt8->Option (α×List UInt8)}{acc:List α}{s w:List UInt8}(h:fh 58 s=Z (w,s2))(a:f (s2.drop 1)=Y):pY f k ns acc s=Y:=by rw[pY,h];simp only[a]
def KH{f:List UInt8->Option (α×List UInt8)}{acc:List α}{s w:List UInt8}{t:α}(h:fh 58 s=Z (w,s2))(a:f (s2.drop 1)=Z (t,r)):pY f k ns acc s=fQ f k (ns++[bs w]) (acc++[t]) r:=by rw[pY,h];simp only[a]
def lG(R:Nat)(s:ZB)(i m:Nat)(w:Zw)(e:Ending)(w':Zw):Prop:=
 (∃(k:K m)(q:Nat)(c0 c1 c2:Zv),dg m (s.data.toList.drop i)=Z (k,s.data.toList.drop q)/\i<q/\q<=s.size/\e=Zr (Za #[c0,c1,c2])/\cW (λb=>w.heap.size<=b/\b<w'.heap.size) w' m k c0 c1 c2/\dJ R w w' q) ∨
  (dg m (s.data.toList.drop i)=Y/\e=.panicked lg/\cH R w w')
def s9(m:Nat):Prop:=∀(R:Nat)(s:ZB)(i:Nat)(w:Zw),Sc w R s i->i<=s.size->s.size<=10000->s.size-i<m ->
 WU WV 243 #[Zp (b5 R 0)] w (lG R s i m w)
def oO(m:Nat)(s:ZB)(i:Nat):Option (List ZB×List (K m)×List UInt8):=fQ (dg m) (J (s.data.toList.drop (i+1))+1) [] [] (s.data.toList.drop (i+1))
def CD(R:Nat)(s:ZB)(i m:Nat)(w:Zw)(e:Ending)(w':Zw):Prop:=
 (∃(g:List ZB)(f:List (K m))(q:Nat)(na:ZA)(nc:Nat)(c:ZA)(d a:Nat),dq [123] (s.data.toList.drop i)=Z (s.data.toList.drop (i+1))/\oO m s i=Z (g,f,s.data.toList.drop q)/\i<q/\q<=s.size/\a<=10000 /\
  e=Zr (Zu #[A na a nc,A c a d])/\cR (λb=>w.heap.size<=b/\b<w'.heap.size) w' g (A na a nc) /\
  kM (λb=>w.heap.size<=b/\b<w'.heap.size) w' (cW (λb=>w.heap.size<=b/\b<w'.heap.size) w' m) f (A c a d)/\dJ R w w' q) ∨
  ((dq [123] (s.data.toList.drop i)=Y∨(dq [123] (s.data.toList.drop i)=Z (s.data.toList.drop (i+1))/\oO m s i=Y))/\e=.panicked lg/\cH R w w')
def dJ.same{b c:Zw}(h:dJ R a b q)(e:cH R a c)(d:c.heap[R]?=b.heap[R]?):dJ R a c q:=
 ⟨e,λo f=>(Ql (w:=b) (w':=c) (a:=⟨R,o,Y⟩) d).trans (h.cells o f),(Ql (w:=b) (w':=c) (a:=⟨R,1,Y⟩) d).trans h.at1,λo=>by
  have:=h.fz o
  simp only[W7,d]at this ⊢
  exact this⟩
def atS(w:Zw)(R:Nat):Nat:=match a7 w R 1 with|Z (I _ n)=>n.toNat|_=>0
def dJ.atS{b:Zw}(h:dJ R a b q):atS b R=q:=by unfold Go.Proofs.YtkcollkaldkccaaGreatDoor.atS;rw[h.at1];simp
def Tryz.info_strQ:(prog.info? 9).map (λi=>(i.zero,i.size,i.bytes))=Z (Z (Zt ⟨#[]⟩),1,16):=gZ
def Tryz.info_kindQ:(prog.info? 177).map (λi=>(i.zero,i.size,i.bytes))=Z (Z (Za UC),3,56):=gZ
def Dy (hm:s9 m) (R:Nat) {i:Nat} (w:Zw) (h:Sc w R s i) (hi:i<=s.size) (hs:s.size<=10000) (aK:s.size - i<=m) :
  WU WV 264 #[Zp (b5 R 0),.func (.func 243) #[Zp (b5 R 0)] #[]] w (CD R s i m w):=by
 have HW:G (WU WV 263 #[Zp (b5 R 0),Zt ⟨#[123]⟩] w _):=sT ⟨#[123]⟩ h hs zC hi;have hR:=h.lt;have HM:G (s9 m):=hm;have l:G (Sc w R s i):=h;clear h hm;go_in;go_wp2_with fail;refine H HW ?_;rintro e w1 (⟨h1,rfl,j0,h3⟩|⟨h1,rfl,j0⟩);case inr=>exact⟨D,.inr ⟨.inl h1,D,j0⟩⟩
 have HE:G (dq [123] (s.data.toList.drop i)=Z (s.data.toList.drop (i+1))):=h1;have j0:dJ R w w1 (i+1):=j0;have h3:i+1<=s.size:=h3;clear h1 HW;go_wp2;go_loopw [4,5] (λnv kv wr=>∃ (f:List ZB) (k:List (K m)) (j c a:Nat) (na:ZA) (nc:Nat) (u:ZA) (v:Nat),J f=a/\J k=a/\a<=j/\nv=A na a nc/\kv=A u a v/\iB R m w wr f k (A na a nc) (A u a v)/\dJ R w wr j/\i<j/\j<=s.size /\
   fQ (dg m) (c+1) f k (s.data.toList.drop j)=oO m s i/\s.size-j<=c) (λ_ _ wr=>s.size-atS wr R)
 case atStart=>exact⟨[],[],i+1,J (s.data.toList.drop (i+1)),0,Y,0,Y,0,D,D,E,D,D,iB.start R m w w1 j0.near,j0,E,h3,D,zS⟩
 case round=>
  obtain⟨f,k,j,c,a,na,nc,u,v,aw,ar,aJ,rfl,rfl,hF,hS,aI,hj,hG,aH⟩:=hrel;have o:G (J f=a/\J k=a):=⟨aw,ar⟩;have HF:G (iB R m w wr f k (A na a nc) (A u a v)):=hF;have HS:G (dJ R w wr j):=hS;have HG:G (fQ (dg m) (c+1) f k (s.data.toList.drop j)=oO m s i):=hG;have HA:G (atS wr R=j):=hS.atS;have HC:G (WU WV 262 #[Zp (b5 R 0),Zt ⟨#[125]⟩] wr _):=mr wr R ⟨#[125]⟩ (hS.sc l) hs zC hj;clear aw ar hF hS hG j0 h3;go_wp2_with fail;refine H HC ?_;rintro e w1 (⟨T,rfl,qc,p3⟩|⟨T,rfl,qc⟩)
  .have HP:G (CD R s i m w (Zr (Zu #[A na a nc,A u a v])) w1):=by have qc:dJ R wr w1 (j+1):=qc;have p3:j+1<=s.size:=p3;have az:=HF.keep hR qc.near;have⟨r1,r2⟩:=az.rows (by rw[o.1];omega) (by rw[o.2];omega);exact .inl ⟨f,k,j+1,na,nc,u,v,a,HE,by rw[<- HG.out];exact KF T,E,p3,E,D,r1,r2,HS.trans qc⟩
   clear T qc p3 HC HF HS HG;exact z7
  .have T:dq [125] (s.data.toList.drop j)=Y:=T;have z:G (iB R m w w1 f k (A na a nc) (A u a v)):=HF.keep hR qc.near;have y:G (dJ R w w1 j):=HS.trans qc;clear HF HS HC qc;have ae:G (∀W,oO m s i=Y->cH R w W->CD R s i m w (.panicked lg) W):=λW h1 j0=>.inr ⟨.inr ⟨HE,h1⟩,D,j0⟩;rcases Xa a with h0|h0;case' inl=>
    have⟨d,n⟩:=fk j;have HQ:G (pY (dg m) c f k (s.data.toList.drop d)=oO m s i):=by show _=_;rw[n,<- HG.out];exact (El T (by rw[o.1];exact h0)).symm
    have B:G (dJ R w w1 d):=by rw[n];exact y
    have ac:d<=s.size:=E;have aB:j<=d:=E;have hd:(0<a)=False:=zE;clear h0 y HG n T;go_wp2_with fail;clear hd
   case' inr=>
    have HC:G (WU WV 263 #[Zp (b5 R 0),Zt ⟨#[44]⟩] w1 _):=sT ⟨#[44]⟩ (y.sc l) hs zC hj;have hd:0<a:=h0;go_wp2_with fail;refine H HC ?_;rintro e w1 (⟨q1,rfl,q2,q3⟩|⟨q1,rfl,q2⟩);case inr=>refine⟨D,ae w1 ?_ (y.near.trans q2)⟩;rw[<- HG.out];exact GJ T (by rw[o.1];omega) q1
    have⟨d,n⟩:=fk (j+1);have q2:dJ R _ w1 (j+1):=q2;have q3:j+1<=s.size:=q3;have HQ:G (pY (dg m) c f k (s.data.toList.drop d)=oO m s i):=by show _=_;rw[n,<- HG.out];exact (GI T (by rw[o.1];omega) q1).symm
    have B:G (dJ R w w1 d):=by rw[n];exact y.trans q2
    have ac:d<=s.size:=E;have aB:j<=d:=E;have ah:=z.keep hR q2.near;clear z;have z:G (iB R m w w1 f k (A na a nc) (A u a v)):=ah;clear ah y HG n T q1 q2 q3 h0 HC;go_wp2_with fail;clear hd
   all_goals
    have HU:G (WU WV 281 #[Zp (b5 R 0),I .u8 58] w1 (Bp 58 w1 R s d)):=Mz 58 (B.sc l) hs ac
    refine H HU ?_
    rintro e q7 (⟨x,u1,rfl,u2,u3⟩|⟨u1,rfl,u2⟩)
    case inr=>exact⟨D,ae q7 (by rw[<- HQ.out];exact NV u1) (B.near.trans u2)⟩
    have u2:dJ R w1 q7 (d+J x):=u2
    have aC:(bs x).size<=10000:=o9
    have X:G (iB R m w q7 f k (A na a nc) (A u a v)):=z.keep hR u2.near
    have al:G (dJ R w q7 (d+J x)):=B.trans u2
    have q5:G (fh 58 (s.data.toList.drop d)=Z (x,s.data.toList.drop (d+J x))):=u1
    have HO:G (q7.ownsRow w.heap.size 9 1 (A na a nc) a (f.map Zt)):=by
     have:=X.q
     rw[o.1]at this;exact this
    have aL:=X.near.size
    have⟨aG,L,P,Q,S⟩:=QY Tryz.info_strQ
    have q9:G (_/\_/\_/\_):=⟨L,P,Q,S⟩
    clear L P Q S u1 u2 z B HU
    go_wp2_with (at_builtin;refine Xb _ D (.tmp 16) (.tmp 19) 23 D w.heap.size 9 aG _ 1 16 underlying23 q9.1 q9.2.1 q9.2.2.1 q9.2.2.2 D zC (A na a nc) a (f.map Zt) D (HO.alloc _) ⟨q7.heap.size,0,Y⟩ 1 1 [Zt (bs x)] D D (QB (Qh q7 _)) iz zC fA E zE (q7.heap.size+1) zS ?_;intro g cap w3 M p aa au;refine XE ?_)
    refine QJ ?_
    have⟨qa,ao,aD⟩:=X.name (Wa:=q7.alloc (Zc #[Zt (bs x)] 9)) (one:=Zc #[Zt (bs x)] 9) (x:=bs x) (g:=g) (cap:=cap) D ⟨D,D,D⟩ aC (by rw[o.1];exact M) p aa
    rw[o.1]at qa
    have ai:G (iB R m w w3 (f++[bs x]) k (A (b5 g 0) (a+1) cap) (A u a v)):=qa
    have af:G (dJ R w w3 (d+J x)):=al.same qa.near (ao R hR)
    have an:G (WU WV 263 #[Zp (b5 R 0),Zt ⟨#[58]⟩] w3 _):=sT ⟨#[58]⟩ (af.sc l) hs zC E
    clear qa ao aD M p aa au HO X al
    go_wp2_with fail
    refine H an ?_
    rintro e ql (⟨v1,rfl,v2,v3⟩|⟨v1,rfl,v2⟩)
    case inr=>
     have v1:dq [58] (s.data.toList.drop (d+J x))=Y:=v1
     obtain⟨r',e1,-⟩:=o7 q5
     rw[e1,di]at v1
     cases v1
    have v2:dJ R w3 ql (d+J x+1):=v2
    have v3:d+J x+1<=s.size:=v3
    have ag:=ai.keep hR v2.near
    have ad:G (iB R m w ql (f++[bs x]) k (A (b5 g 0) (a+1) cap) (A u a v)):=ag
    have qq:G (dJ R w ql (d+J x+1)):=af.trans v2
    have HK:G (WU WV 243 #[Zp (b5 R 0)] ql (lG R s (d+J x+1) m ql)):=HM.out R s _ ql (qq.sc l) v3 hs E
    have⟨xs,O,aq⟩:=ag.o
    have aj:G (∀q (h:q<J k),_):=aq
    have q8:G (ql.ownsRow w.heap.size 177 3 (A u a v) a xs):=by
     rw[o.2]at O;exact O
    clear v1 v2 ag O aq ai af an
    go_wp2_with fail
    refine H HK ?_
    rintro e V (⟨t,q,c0,c1,c2,y1,y2,y3,rfl,y4,y5⟩|⟨y1,rfl,y2⟩)
    case inr=>
     refine⟨D,ae V ?_ (qq.near.trans y2)⟩
     rw[<- HQ.out]
     refine KG q5 ?_
     rw[Xk];exact y1
    obtain⟨z0,za,zl,zc,ua,ul,uc,rfl,rfl,rfl⟩:=y4.shape
    have aN:=y5.near.size
    have aM:=ad.near.size
    have ak:G (V.ownsRow w.heap.size 177 3 (A u a v) a xs):=cV q8 (λg' aA=>by
     have:=cO q8 g' aA
     exact y5.near.block g' this.2 E)
    have HY:G (cW (λb=>ql.heap.size<=b/\b<V.heap.size) V m t (I U z0) (A za zl zc) (A ua ul uc)/\dJ R ql V q):=⟨y4,y5⟩
    have ay:G (fQ (dg m) c (f++[bs x]) (k++[t]) (s.data.toList.drop q)=oO m s i):=by
     show _=_
     rw[<- HQ.out]
     refine (KH q5 ?_).symm
     rw[Xk];exact y1
    have⟨aF,L,P,Q,S⟩:=QY Tryz.info_kindQ
    have q6:G (_/\_/\_/\_):=⟨L,P,Q,S⟩
    clear L P Q S y1 y4 y5 HK HQ q5
    go_wp2_with (at_builtin;refine Xb _ D (.tmp 23) (.tmp 26) 175 D w.heap.size 177 aF _ 3 56 underlying175 q6.1 q6.2.1 q6.2.2.1 q6.2.2.2 D zC (A u a v) a xs D (ak.alloc _) ⟨V.heap.size,0,Y⟩ 1 1 [I U z0,A za zl zc,A ua ul uc] D D (QB (Qh V _)) iz zC fA E zE (V.heap.size+1) zS ?_;intro g2 C w6 N r ab av;refine XE ?_)
    refine QJ ?_
    have⟨F,ap,aE⟩:=ad.kid (W1:=V) (Wa:=V.alloc (UF z0 za zl zc ua ul uc)) (one:=UF z0 za zl zc ua ul uc) (g:=g2) (cap:=C) hR HY.2.near HY.1 D ⟨D,D,D⟩ (by rw[o.2];exact q8) aj (by rw[o.2];exact N) r ab
    rw[o.2]at F
    have ax:G (iB R m w w6 (f++[bs x]) (k++[t]) (A (b5 g 0) (a+1) cap) (A (b5 g2 0) (a+1) C)):=F
    have am:G (dJ R w w6 q):=(qq.trans HY.2).same F.near (ap R hR)
    obtain⟨f',rfl⟩:∃f',c=f'+1:=⟨c-1,E⟩
    clear F ap aE N r ab av ak q8 aj ad qq HY
    go_wp2
    go_roundw
    case rel=>exact⟨f++[bs x],k++[t],q,f',a+1,b5 g 0,cap,b5 g2 0,C,by simp[o.1],by simp[o.2],E,rfl,rfl,ax,am,E,y3,ay,E⟩
    case measure=>rw[am.atS,HA.out];omega
def iA {N:Nat} (h:w.heap[N]?=Z (Zc UC 177 (0,0))) :
  (a7 w N 0=Z (I U 0)/\a7 w N 1=Z (A Y 0 0)/\a7 w N 2=Z (A Y 0 0)) /\
   w.frozen? ⟨N,0,Y⟩=false/\w.frozen? ⟨N,1,Y⟩=false/\w.frozen? ⟨N,2,Y⟩=false:=by refine⟨⟨?_,?_,?_⟩,?_,?_,?_⟩<;>simp[WY,W7,h]
def dJ.alloc(h:dJ R (w.alloc o) w1 q)(b:R<w.heap.size):dJ R w w1 q:=
 ⟨(cH.alloc R w o).trans h.near,λp hp=>(h.cells p hp).trans (Ql (w:=w) (w':=w.alloc o) (a:=⟨R,p,Y⟩) (Qf _ _ _ b)),h.at1,λp=>(h.fz p).trans (by
  have:(w.alloc o).heap[R]?=w.heap[R]?:=Qf _ _ _ b
  simp only[W7,this])⟩
def pE {i:Nat} {W:Zw} {k:K (m+1)} {g0 g1 g2:Zv} (a:dJ R w W q) (n:R<w.heap.size) (hp:dg (m+1) (s.data.toList.drop i)=Z (k,s.data.toList.drop q)) (c:i<q) (j:q<=s.size)
  (f:cW (λb=>w.heap.size+1<=b/\b<W.heap.size) W (m+1) k g0 g1 g2):lG R s i (m+1) w (Zr (Za #[g0,g1,g2])) (gh W w.heap.size 0 g0 g1 g2):=by have q:∀b,b≠w.heap.size->(gh W w.heap.size 0 g0 g1 g2).heap[b]?=W.heap[b]?:=λb h=>gL h;have l:(gh W w.heap.size 0 g0 g1 g2).heap.size=W.heap.size:=kV;have g:cH R w (gh W w.heap.size 0 g0 g1 g2):=⟨a.near.os,a.near.tape,a.near.output,by rw[l];exact a.near.size,λb e d=>(q b E).trans (a.near.block b e d)⟩;refine .inl ⟨k,_,g0,g1,g2,hp,c,j,D,f.keep FN E,a.same g (q R E)⟩
def Dg(S:ZN)(w:Zw)(m:Nat)(x:Int)(a:(Ud U x).wf=true):cW S w (m+1) (⟨x,[],[]⟩:Kd (K m)) (I U x) (A Y 0 0) (A Y 0 0):=
 ⟨D,a,⟨Y,0,D,gO,λs h=>eI,λh=>absurd D h⟩,⟨Y,0,D,gO,λh=>absurd D h⟩⟩
def OQ {x:Int} {t:K m} {b c:Nat} (f:(Ud U x).wf=true) (d:S b) (a:a7 w b 0=Z c0) (h1:a7 w b 1=Z c1) (h2:a7 w b 2=Z c2) (e:cW S w m t c0 c1 c2) :
  cW S w (m+1) (⟨x,[],[t]⟩:Kd (K m)) (I U x) (A Y 0 0) (A (b5 b 0) 1 c):=by refine⟨D,f,⟨Y,0,D,gO,λs h=>eI,λh=>absurd D h⟩,⟨b5 b 0,c,D,gO,λ_=>⟨b,0,D,d,λi hi=>?_⟩⟩⟩;have:i=0:=oC;subst this;exact⟨c0,c1,c2,by simpa using a,Aa,Ct,e⟩
def Sw (b:dq [110,117,109] l=Y) (c:dq [116,101,120,116] l=Y) (d:dq [102,108,97,103] l=Y) (e:dq [91] l=Z r) :
  (oz (dg m) [93] r=Y->dg (m+1) l=Y)/\(∀k a,oz (dg m) [93] r=Z (k,a)->dg (m+1) l=Z ((⟨4,[],[k]⟩:Kd (K m)),a)):=by
 refine⟨λh=>?_,λk a h=>?_⟩;·simp only[dg,b,c,d,e,h]
 .simp only[dg,b,c,d,e,h];rfl
def OU (b:dq [110,117,109] l=Y) (c:dq [116,101,120,116] l=Y) (d:dq [102,108,97,103] l=Y) (e:dq [91] l=Y) (f:dq [63] l=Z r) :
  (dg m r=Y->dg (m+1) l=Y)/\(∀k a,dg m r=Z (k,a)->dg (m+1) l=Z ((⟨6,[],[k]⟩:Kd (K m)),a)):=by
 refine⟨λh=>?_,λk a h=>?_⟩;·simp only[dg,oz,b,c,d,e,f,h]
 .simp only[dg,oz,NO,b,c,d,e,f,h];rfl
def Sv (b:dq [110,117,109] l=Y) (c:dq [116,101,120,116] l=Y) (d:dq [102,108,97,103] l=Y) (e:dq [91] l=Y) (f:dq [63] l=Y) :
  (dq [123] l=Y->dg (m+1) l=Y)/\(∀r,dq [123] l=Z r->(fQ (dg m) (J r+1) [] [] r=Y->dg (m+1) l=Y)/\(∀i g j,fQ (dg m) (J r+1) [] [] r=Z (i,g,j)->dg (m+1) l=Z ((⟨5,i,g⟩:Kd (K m)),j))):=by
 refine⟨λh=>?_,λr h=>⟨λa=>?_,λi g j a=>?_⟩⟩;·simp only[dg,b,c,d,e,f,h]
 .simp only[dg,b,c,d,e,f,h,a]
 .simp only[dg,b,c,d,e,f,h,a];rfl
def L1{f:List UInt8->Option (α×List UInt8)}{s:List UInt8}(h:f s=Y):oz f c s=Y:=by simp only[oz,h]
def L2{f:List UInt8->Option (α×List UInt8)}{s:List UInt8}{k:α}(h:f s=Z (k,r))(a:dq c r=Y):oz f c s=Y:=by simp only[oz,h,a]
def OP{f:List UInt8->Option (α×List UInt8)}{s a:List UInt8}{k:α}(h:f s=Z (k,r))(b:dq c r=Z a):oz f c s=Z (k,a):=by simp only[oz,h,b]
def Lc(hm:s9 m):s9 (m+1):=by
 intro R s i w h hi q6 ah;have hR:=h.lt;have⟨W,hW⟩:=fk (w.alloc (Zc UC 177));have ak:W.heap.size=w.heap.size+1:=pR;have ag:Bw w W:=Ag;have HZ:G (W.heap[w.heap.size]?=Z (Zc UC 177 (0,0))):=uK;have d:G (dJ R w W i):=(dJ.refl h).below ag hR;have x:G (Sc w R s i):=h;have HM:G (s9 m):=hm;have P:G (∀W1 q,dJ R W W1 q->W1.heap[w.heap.size]?=Z (Zc UC 177 (0,0))):=λW1 q hq=>(hq.near.block w.heap.size E E).trans HZ;have F:G (WU WV 262 #[Zp (b5 R 0),Zt ⟨#[110,117,109]⟩] W _):=mr W R ⟨#[110,117,109]⟩ (d.sc h) q6 zC hi;clear h hm;go_in;go_wp2_with fail;rw[<- hW];clear hW;refine H F ?_;rintro e w1 (⟨f,rfl,c,y⟩|⟨f,rfl,c⟩)
 .have f:dq [110,117,109] (s.data.toList.drop i)=Z (s.data.toList.drop (i+3)):=f;have c:dJ R W w1 (i+3):=c;have HP:G (lG R s i (m+1) w (Zr (UD 1 Y 0 0 Y 0 0)) (gh w1 w.heap.size 0 (I U 1) (A Y 0 0) (A Y 0 0))):=
   pE (d.trans c) hR (by simp only[dg,f]) E y (Dg _ _ m 1 D)
  have⟨⟨r0,r1,r2⟩,f0,f1,f2⟩:=iA (P w1 _ c);clear f c y F;exact io
 have v:G (dq [110,117,109] (s.data.toList.drop i)=Y):=f;have ab:G (dJ R W w1 i):=c;have qc:G (WU WV 262 #[Zp (b5 R 0),Zt ⟨#[116,101,120,116]⟩] w1 _):=mr w1 R ⟨#[116,101,120,116]⟩ ((d.trans c).sc x) q6 zC hi;clear f c F;go_wp2_with fail;refine H qc ?_;rintro e w2 (⟨f,rfl,c,y⟩|⟨f,rfl,c⟩)
 .have f:dq [116,101,120,116] (s.data.toList.drop i)=Z (s.data.toList.drop (i+4)):=f;have c:dJ R W w2 (i+4):=ab.trans c;have HP:G (lG R s i (m+1) w (Zr (UD 2 Y 0 0 Y 0 0)) (gh w2 w.heap.size 0 (I U 2) (A Y 0 0) (A Y 0 0))):=
   pE (d.trans c) hR (by simp only[dg,v.out,f]) E y (Dg _ _ m 2 D)
  have⟨⟨r0,r1,r2⟩,f0,f1,f2⟩:=iA (P w2 _ c);clear f c y qc;exact io
 have z:G (dq [116,101,120,116] (s.data.toList.drop i)=Y):=f;have X:G (dJ R W w2 i):=ab.trans c;have q7:G (WU WV 262 #[Zp (b5 R 0),Zt ⟨#[102,108,97,103]⟩] w2 _):=mr w2 R ⟨#[102,108,97,103]⟩ ((d.trans X).sc x) q6 zC hi;clear f c qc ab;go_wp2_with fail;refine H q7 ?_;rintro e w3 (⟨f,rfl,c,y⟩|⟨f,rfl,c⟩)
 .have f:dq [102,108,97,103] (s.data.toList.drop i)=Z (s.data.toList.drop (i+4)):=f;have c:dJ R W w3 (i+4):=X.trans c;have HP:G (lG R s i (m+1) w (Zr (UD 3 Y 0 0 Y 0 0)) (gh w3 w.heap.size 0 (I U 3) (A Y 0 0) (A Y 0 0))):=
   pE (d.trans c) hR (by simp only[dg,v.out,z.out,f]) E y (Dg _ _ m 3 D)
  have⟨⟨r0,r1,r2⟩,f0,f1,f2⟩:=iA (P w3 _ c);clear f c y q7;exact io
 have O:G (dq [102,108,97,103] (s.data.toList.drop i)=Y):=f;have Q:G (dJ R W w3 i):=X.trans c;have ql:G (WU WV 262 #[Zp (b5 R 0),Zt ⟨#[91]⟩] w3 _):=mr w3 R ⟨#[91]⟩ ((d.trans Q).sc x) q6 zC hi;clear f c q7 X;go_wp2_with fail;refine H ql ?_;rintro e qq (⟨f,rfl,c,y⟩|⟨f,rfl,c⟩)
 .have f:dq [91] (s.data.toList.drop i)=Z (s.data.toList.drop (i+1)):=f;have c:dJ R W qq (i+1):=Q.trans c;have y:i+1<=s.size:=y;have l:G (_/\_):=Sw (m:=m) v z O f;have p:G (dJ R W qq (i+1)):=c;have j0:G (WU WV 243 #[Zp (b5 R 0)] qq (lG R s (i+1) m qq)):=HM.out R s _ qq ((d.trans c).sc x) y q6 E;clear f c ql Q v z O;go_wp2_with fail;refine H j0 ?_;rintro e k (⟨t,q,c0,c1,c2,u,q5,y3,rfl,qa,T⟩|⟨u,rfl,q5⟩);case inr=>refine⟨D,.inr ⟨?_,D,(d.trans p).near.trans q5⟩⟩;exact l.1 (L1 u)
  obtain⟨z0,L,N,M,B,K,C,rfl,rfl,rfl⟩:=qa.shape;have ae:=T.near.size;have aj:=p.near.size;have HY:G (cW (λb=>qq.heap.size<=b/\b<k.heap.size) k m t (I U z0) (A L N M) (A B K C)):=qa;have ad:Bw k (k.alloc (UF z0 L N M B K C)):=eC _ _;have g:G (dJ R W (k.alloc (UF z0 L N M B K C)) q):=(p.trans T).below ad E;have q9:=lP.new k (I U z0) (A L N M) (A B K C) 177;have HW:G (WU WV 263 #[Zp (b5 R 0),Zt ⟨#[93]⟩] (k.alloc (UF z0 L N M B K C)) _):=sT (R:=R) ⟨#[93]⟩ ((d.trans g).sc x) q6 zC y3;have ac:G (dg m (s.data.toList.drop (i+1))=Z (t,s.data.toList.drop q)):=u;clear j0 qa T u;go_wp2_with fail;refine H HW ?_;rintro e n (⟨v1,rfl,q8,v3⟩|⟨v1,rfl,q8⟩);case inr=>exact⟨D,.inr ⟨l.1 (L2 ac v1),D,(d.trans g).near.trans q8⟩⟩
  have q8:dJ R _ n (q+1):=q8;have af:=q8.near.size;simp only[XN]at af;have kk:∀o,a7 n k.heap.size o=a7 (k.alloc (UF z0 L N M B K C)) k.heap.size o:=λo=>Ql (a:=⟨k.heap.size,o,Y⟩) (q8.near.block k.heap.size zS E);have k0:=(kk 0).trans q9.c0;have k1:=(kk 1).trans q9.c1;have k2:=(kk 2).trans q9.c2;have S:Bw n (n.alloc (UF z0 L N M B K C)):=eC _ _;have j:G (dJ R W (n.alloc (UF z0 L N M B K C)) (q+1)):=(g.trans q8).below S E;have r:=lP.new n (I U z0) (A L N M) (A B K C) 177;have HP:G (lG R s i (m+1) w (Zr (UD 4 Y 0 0 (b5 n.heap.size 0) 1 1)) (gh (n.alloc (UF z0 L N M B K C)) w.heap.size 0 (I U 4) (A Y 0 0) (A (b5 n.heap.size 0) 1 1))):=by refine pE (d.trans j) hR (l.2 _ _ (OP ac v1)) (by show i<q+1;omega) v3 (OQ D ⟨E,zS⟩ r.c0 r.c1 r.c2 ?_);refine HY.keep (λb hb=>?_) zE;rw[Qf _ _ _ E,q8.near.block b zE E,Qf _ _ _ hb.2]
  have⟨⟨r0,r1,r2⟩,f0,f1,f2⟩:=iA (P _ _ j);clear v1 q8 v3 HW HY ac g j q9 r ad S kk;exact io
 have V:G (dq [91] (s.data.toList.drop i)=Y):=f;have p:G (dJ R W qq i):=Q.trans c;have aa:G (WU WV 262 #[Zp (b5 R 0),Zt ⟨#[63]⟩] qq _):=mr qq R ⟨#[63]⟩ ((d.trans p).sc x) q6 zC hi;clear f c ql Q;go_wp2_with fail;refine H aa ?_;rintro e k (⟨f,rfl,c,y⟩|⟨f,rfl,c⟩)
 .have f:dq [63] (s.data.toList.drop i)=Z (s.data.toList.drop (i+1)):=f;have c:dJ R W k (i+1):=p.trans c;have y:i+1<=s.size:=y;have l:G (_/\_):=OU (m:=m) v z O V f;have g:G (dJ R W k (i+1)):=c;have j0:G (WU WV 243 #[Zp (b5 R 0)] k (lG R s (i+1) m k)):=HM.out R s _ k ((d.trans c).sc x) y q6 E;clear f c aa p v z O V;go_wp2_with fail;refine H j0 ?_;rintro e n (⟨t,q,c0,c1,c2,u,q5,y3,rfl,qa,T⟩|⟨u,rfl,q5⟩);case inr=>exact⟨D,.inr ⟨l.1 u,D,(d.trans g).near.trans q5⟩⟩
  obtain⟨z0,L,N,M,B,K,C,rfl,rfl,rfl⟩:=qa.shape;have ae:=g.near.size;have af:=T.near.size;have S:Bw n (n.alloc (UF z0 L N M B K C)):=eC _ _;have j:G (dJ R W (n.alloc (UF z0 L N M B K C)) q):=(g.trans T).below S E;have r:=lP.new n (I U z0) (A L N M) (A B K C) 177;have HP:G (lG R s i (m+1) w (Zr (UD 6 Y 0 0 (b5 n.heap.size 0) 1 1)) (gh (n.alloc (UF z0 L N M B K C)) w.heap.size 0 (I U 6) (A Y 0 0) (A (b5 n.heap.size 0) 1 1))):=by refine pE (d.trans j) hR (l.2 _ _ u) E y3 (OQ D ⟨E,zS⟩ r.c0 r.c1 r.c2 ?_);refine qa.keep (λb hb=>?_) zE;rw[Qf _ _ _ hb.2]
  have⟨⟨r0,r1,r2⟩,f0,f1,f2⟩:=iA (P _ _ j);clear j0 u qa T g j r S;exact io
 have l:G (_/\_):=Sv (m:=m) v z O V f;have g:G (dJ R W k i):=p.trans c;have ae:=g.near.size;have j0:G (WU WV 264 #[Zp (b5 R 0),.func (.func 243) #[Zp (b5 R 0)] #[]] k (CD R s i m k)):=Dy HM R k ((d.trans g).sc x) hi q6 E;have ai:∀(fn:Fn)(first cap:Array Zv)(w:Zw),(Instr.makeFunc fn first cap).run WV w=.ok (.func fn first cap) w:=λ_ _ _ _=>D;clear f c aa p v z O V;go_wp2_with fail;refine H j0 ?_;rintro e n (⟨ns,ks,q,na,nc,ka,kc,ln,y0,u,q5,y3,qa,rfl,T,y6,y7⟩|⟨u,rfl,q5⟩);case inr=>
  refine⟨D,.inr ⟨?_,D,(d.trans g).near.trans q5⟩⟩;rcases u with u|⟨y0,u⟩;·exact l.1 u
  .exact (l.2 _ y0).1 u
 have j:G (dJ R W n q):=g.trans y7;have HP:G (lG R s i (m+1) w (Zr (UD 5 na ln nc ka ln kc)) (gh n w.heap.size 0 (I U 5) (A na ln nc) (A ka ln kc))):=by
  refine pE (d.trans j) hR ((l.2 _ y0).2 _ _ _ u) q5 y3 ⟨D,D,?_,?_⟩;·exact T.keep ik Cj
  .exact y6.keepK ik Cj
 have⟨⟨r0,r1,r2⟩,f0,f1,f2⟩:=iA (P _ _ j);clear j0 y0 u T y6 y7 g j;exact io
def Oh:∀m,s9 m:=by
 intro m;induction m with
 | zero=>intro R s i w _ _ _ h;exact absurd h E
 | succ m a=>exact Lc a
def Gj(R:Nat)(s:ZB)(m:Nat)(w:Zw)(e:Ending)(w':Zw):Prop:=
 cH R w w' /\ ((∃(k:K m)(c0 c1 c2:Zv),dg m s.data.toList=Z (k,[])/\e=Zr (Za #[c0,c1,c2])/\cW (λb=>w.heap.size<=b/\b<w'.heap.size) w' m k c0 c1 c2) ∨
  ((∀k,dg m s.data.toList≠Z (k,[]))/\e=.panicked lg))
def MQ (h:Sc w R s 0) (qq:s.size<=10000) (qa:s.size<m) :
  WU WV 227 #[Zp (b5 R 0)] w (Gj R s m w):=by
 have q8:=h.lt;have⟨W,hW⟩:=fk (w.alloc (Zc UC 177));have j0:W.heap.size=w.heap.size+1:=pR;have L:Bw w W:=Ag;have q9:G (W.heap[w.heap.size]?=Z (Zc UC 177 (0,0))):=uK;have c:G (dJ R w W 0):=(dJ.refl h).below L q8;have K:G (Sc w R s 0):=h;have S:G (WU WV 243 #[Zp (b5 R 0)] W (lG R s 0 m W)):=Oh m R s 0 W (c.sc h) (Q9 _) qq E;clear h;go_in;go_wp2_with fail;rw[<- hW];clear hW;refine H S ?_;rintro e w1 (⟨k,q,c0,c1,c2,v,q6,y3,rfl,P,Q⟩|⟨v,rfl,q6⟩);case inr=>rw[Xn]at v;exact⟨D,c.near.trans q6,.inr ⟨λk e=>(by rw[v]at e;cases e),D⟩⟩
 rw[Xn]at v;obtain⟨z0,i,l,j,d,g,f,rfl,rfl,rfl⟩:=P.shape;have q5:=Q.near.size;have x:Bw w1 (w1.alloc (UF z0 i l j d g f)):=eC _ _;have n:G (dJ R W (w1.alloc (UF z0 i l j d g f)) q):=Q.below x E;have p:=lP.new w1 (I U z0) (A i l j) (A d g f) 177;have T:G (WU WV 244 #[Zp (b5 R 0)] (w1.alloc (UF z0 i l j d g f)) _):=Fv R s q ((c.trans n).sc K);have z:G (cW (λb=>W.heap.size<=b/\b<w1.heap.size) w1 m k (I U z0) (A i l j) (A d g f)/\dg m s.data.toList=Z (k,s.data.toList.drop q)):=⟨P,v⟩;clear S v P Q;go_wp2_with fail;refine H T ?_;rintro e u (⟨O,rfl,t⟩|⟨O,rfl,t⟩);case inr=>refine⟨D,(c.trans n).near.trans t,.inr ⟨λF e=>?_,D⟩⟩;rw[z.2]at e;simp only[XP,Prod.mk.injEq]at e;have:=Xc List.length e.2;simp at this;omega
 have N:=t.near.size;simp only[XN]at N;have C:∀o,a7 u w1.heap.size o=a7 (w1.alloc (UF z0 i l j d g f)) w1.heap.size o:=λo=>Ql (a:=⟨w1.heap.size,o,Y⟩) (t.near.block w1.heap.size zS E);have qc:=(C 0).trans p.c0;have q7:=(C 1).trans p.c1;have ql:=(C 2).trans p.c2;have r:G (dJ R W u q):=n.trans t;have HP:G (Gj R s m w (Zr (UD z0 i l j d g f)) (gh u w.heap.size 0 (I U z0) (A i l j) (A d g f))):=by
  have X:∀b,b≠w.heap.size->(gh u w.heap.size 0 (I U z0) (A i l j) (A d g f)).heap[b]?=u.heap[b]?:=λb h=>gL h;have V:(gh u w.heap.size 0 (I U z0) (A i l j) (A d g f)).heap.size=u.heap.size:=kV;have y:=(c.trans r).near;refine⟨⟨y.os,y.tape,y.output,by rw[V];exact y.size,λb B M=>(X b E).trans (y.block b B M)⟩,.inl ⟨k,_,_,_,?_,D,?_⟩⟩;·rw[z.2,O,Zy zS]
  .refine z.1.keep (λb B=>?_) (λb B=>⟨E,by rw[V];omega⟩);rw[X b E,t.near.block b zE E,Qf _ _ _ B.2]
 have⟨⟨r0,r1,r2⟩,f0,f1,f2⟩:=iA ((r.near.block w.heap.size E E).trans q9);clear O t T z n r p x C;exact io
def sH(s:ZB)(w:Zw):WU WV 226 #[Zt s] w λe a=>e=Zr (Zp (b5 w.heap.size 0))/\a=w.alloc (Zc #[Zt s,I U 0] 285):=by exact Fz
def Tryz.assert_yes(w:Zw):(Instr.typeAssert (.iface 281 (Za #[])) 20 281 true).run WV w=.ok (Zu #[Za #[],Zb true]) w:=gZ
def Tryz.assert_nil(w:Zw):(Instr.typeAssert .nilIface 20 281 true).run WV w=.ok (Zu #[Za #[],Zb false]) w:=gZ
def Ay (w:Zw) :
  CallsD WV 242 #[] (.panicking [{ v:=.iface 281 (Za #[]),recovered:=false }]) w λe c d=>
   e=Zr (Zu #[])/\c=.panicking [{ v:=.iface 281 (Za #[]),recovered:=true }]/\d=w:=by have a:=Tryz.assert_yes;refine WL func242 D λf cs b=>?_;apply wpS_seq;apply wpS_region;simp[wpOpsS,go_sem,recoverD,b,ntmps242,Exit.thenS];refine wpS_of_wp ?_;go_wp2;exact⟨D,_,D,Zu #[],by simp[results,results242],rfl,rfl,rfl⟩
def Ax (w:Zw) :
  CallsD WV 242 #[] .returning w λe c d=>e=Zr (Zu #[])/\c=.returning/\d=w:=by have b:=Tryz.assert_nil;refine WL func242 D λf cs a=>?_;apply wpS_seq;apply wpS_region;simp[wpOpsS,go_sem,recoverD,a,ntmps242,Exit.thenS];refine wpS_of_wp ?_;go_wp2;exact⟨D,_,by rw[<- a],Zu #[],by simp[results,results242],rfl,rfl,rfl⟩
def rh(R:Nat)(s:ZB)(m:Nat)(w:Zw)(e:Ending)(w':Zw):Prop:=
 cH R w w' /\ ((∃(k:K m)(c0 c1 c2:Zv),dg m s.data.toList=Z (k,[])/\e=Zr (Zu #[Za #[c0,c1,c2],Zb true])/\cW (λb=>w.heap.size<=b/\b<w'.heap.size) w' m k c0 c1 c2) ∨
  ((∀k,dg m s.data.toList≠Z (k,[]))/\e=Zr (Zu #[Za UC,Zb false])))
def Gv (m:Nat) (h:Sc w R s 0) (K:s.size<=10000) (C:s.size<m) :
  WU WV 225 #[.func (.func 227) #[Zp (Z ⟨R,0,Y⟩)] #[]] w (rh R s m w):=by
 have B:=h.lt;obtain⟨W,hW⟩:=fk (w.alloc (Zc UC 177));have N:W.heap.size=w.heap.size+1:=pR;have r:Bw w W:=Ag;have x:G (W.heap[w.heap.size]?=Z (Zc UC 177 (0,0))):=uK;have c:G (dJ R w W 0):=(dJ.refl h).below r B;have q:G (WU WV 227 #[Zp (Z ⟨R,0,Y⟩)] W (Gj R s m W)):=MQ (c.sc h) K C;clear h;go_enter_defers func225,ntmps225;go_wp2_with fail;rw[<- hW];clear hW;refine q.mono ?_;rintro e w1 ⟨d,⟨k,c0,c1,c2,p,rfl,v⟩|⟨p,rfl⟩⟩
 .obtain⟨z0,l,o,n,g,j,i,rfl,rfl,rfl⟩:=v.shape;have M:=d.size;obtain⟨⟨r0,r1,r2⟩,f0,f1,f2⟩:=iA ((d.block w.heap.size E E).trans x);have HP:G (rh R s m w (Zr (Zu #[UD z0 l o n g j i,Zb true])) (gh w1 w.heap.size 0 (I U z0) (A l o n) (A g j i))):=by have z:∀b,b≠w.heap.size->(gh w1 w.heap.size 0 (I U z0) (A l o n) (A g j i)).heap[b]?=w1.heap[b]?:=λb h=>gL h;have L:(gh w1 w.heap.size 0 (I U z0) (A l o n) (A g j i)).heap.size=w1.heap.size:=kV;have a:=c.near.trans d;exact⟨⟨a.os,a.tape,a.output,by rw[L];exact E,λb y t=>(z b E).trans (a.block b y t)⟩,.inl ⟨k,_,_,_,p,rfl,v.keep (λb y=>z b E) E⟩⟩
  clear q p v d;go_wp2_with fail;refine leaves_cons (f:=242) (args:=#[]) zS ke ?_;refine (Ax _).mono ?_;rintro e O u ⟨rfl,rfl,rfl⟩;exact⟨Zu #[UD z0 l o n g j i,Zb true],by simp[results,results225,go_sem,r0,r1,r2],HP⟩
 .obtain⟨⟨r0,r1,r2⟩,f0,f1,f2⟩:=iA ((d.block w.heap.size E E).trans x);have HP:G (rh R s m w (Zr (Zu #[Za UC,Zb false])) w1):=⟨c.near.trans d,zE⟩;clear q p d;refine leaves_cons (f:=242) (args:=#[]) zS ke ?_;refine (Ay _).mono ?_;rintro e O u ⟨rfl,rfl,rfl⟩;exact⟨Zu #[Za UC,Zb false],by simp[results,results225,go_sem,r0,r1,r2],HP⟩
def sf(m:Nat)(s:ZB):K (m+1):=(gT (m+1) s).getD (⟨0,[],[]⟩:Kd (K m))
def Ju(m:Nat)(s:ZB):Bool:=(gT (m+1) s).isSome
def Bu{k:K (m+1)}(h:gT (m+1) s=Z k):sf m s=k/\Ju m s=true:=by unfold sf Ju;rw[h];exact⟨D,D⟩
def Bt(h:gT (m+1) s=Y):sf m s=(⟨0,[],[]⟩:Kd (K m))/\Ju m s=false:=by unfold sf Ju;rw[h];exact⟨D,D⟩
def yD(h:¬s.size<=800):gT n s=Y:=by unfold gT;rw[Qd h]
def O3(h:∀k,dg n s.data.toList≠Z (k,[])):gT n s=Y:=by
 unfold gT;split
 .split;·next k hp=>exact absurd hp (h k)
  .exact cU
 .exact cU
def Mc{k:K n}(h:dg n s.data.toList=Z (k,[]))(a:tI n k=false):gT n s=Y:=by
 unfold gT;split;·rw[h];simp only[a,Xu,Zf]
 .exact cU
def Md{k:K n}(b:s.size<=800)(h:dg n s.data.toList=Z (k,[]))(a:tI n k=true):gT n s=Z k:=by unfold gT;rw[Qm b,h];simp only[a,XX]
def F9(S:ZN)(w:Zw)(m:Nat):cW S w (m+1) (⟨0,[],[]⟩:Kd (K m)) (I U 0) (A Y 0 0) (A Y 0 0):=
 ⟨D,D,⟨Y,0,D,gO,λs h=>eI,λh=>absurd D h⟩,⟨Y,0,D,gO,λh=>absurd D h⟩⟩
def SQ:∀(n:Nat)(t:K n)(d:Int),dj n t d=true->yK n t+2<=2*dF n t:=by
 intro n;induction n with
 | zero=>intro t d h;simp[dj]at h
 | succ n m=>
  intro t d e;have c:=e;simp only[dj,Qc]at c;have b:dF (n+1) t=1+cG (λx=>dF n x) (Kd.o t):=by simp only[dF]
  have j:J (Kd.q t)<=J (Kd.o t):=by
   by_cases i:Kd.k t=5;·have:=(I6 e i).1;omega
   .rw[oS e i];simp
  have g:∀l:List (K n),(∀x,x∈l->dj n x (d+1)=true)->J l+cG (λx=>1+yK n x) l<=2*cG (λx=>dF n x) l:=by
   intro l;induction l with
   | nil=>intro _;simp[cG]
   | cons a r f=>intro h;have o:=m a (d+1) (h a zS);have p:=f Bh;simp only[cG,Qs];omega
  have:=g (Kd.o t) (λx k=>Qo.1 c.2 _ k);rw[b];show J (Kd.q t)+cG (λx=>1+yK n x) (Kd.o t)+2<=_;omega
def pt(m:Nat)(k:K m)(ok:Bool)(w:Zw)(e:Ending)(w':Zw):Prop:=
 Bw w w' /\ ∃c0 c1 c2 a c,e=Zr (Zu #[Za #[c0,c1,c2],Zb ok])/\cW (λb=>w.heap.size<=b/\b<w'.heap.size) w' m k c0 c1 c2 /\
  lE w' c1 a/\wJ w' (m-1) c2 c/\Own (λb=>w.heap.size<=b/\b<w'.heap.size) (a++c)/\J (a++c)<=1000
def tM(h:gT (m+1) s=Y)(c:Bw w w'):pt (m+1) (sf m s) (Ju m s) w (Zr (Zu #[Za UC,Zb false])) w':=by have⟨a,b⟩:=Bt h;rw[a,b];exact⟨c,_,_,_,[],[],D,F9 _ _ m,lE.no _,wJ.no _ _,Own.nil _,zS⟩
def AD (m:Nat) (hm:s.size<=m) (hs:s.size<=1048576) (w:Zw) :
  WU WV 188 #[Zt s] w (pt (m+1) (sf m s) (Ju m s) w):=by
 have⟨N,qR⟩:=fk (w.alloc (Zc UC 177));have X:N.heap.size=w.heap.size+1:=re;have qj:Bw w N:=by rw[qR];exact eC _ _
 have f:N.heap[w.heap.size]?=Z (Zc UC 177 (0,0)):=FT;have i:G (∀W:Zw,Bw w W->Bw w (gh W w.heap.size 0 (I U 0) (A Y 0 0) (A Y 0 0))):=λW h=>kU h E;by_cases h8:s.size<=800;case neg=>have K:G (gT (m+1) s=Y):=yD h8;have ac:(800:Int)<(s.size:Int):=E;have⟨⟨r0,r1,r2⟩,f0,f1,f2⟩:=k5 f;rw[qR]at r0 r1 r2 f0 f1 f2;have HP:G (∀o,pt (m+1) (sf m s) (Ju m s) w (Zr (Zu #[Za UC,Zb false])) (w.alloc o)):=λo=>tM K (eC _ _);clear qj f X K h8;exact TX
 have ad:¬(800:Int)<(s.size:Int):=E;have ae:∀(fn:Fn)(first cap:Array Zv)(w:Zw),(Instr.makeFunc fn first cap).run WV w=.ok (.func fn first cap) w:=λ_ _ _ _=>D;have P:=a8 (sH s N);have⟨Q,xe⟩:=fk (N.alloc (Zc #[Zt s,I U 0] 285));have af:Q.heap.size=N.heap.size+1:=by rw[xe];simp
 have x:Bw w Q:=J0;have p:Q.heap[w.heap.size+1]?=Z (Zc #[Zt s,I U 0] 285 (0,0)):=by rw[xe,<- X];exact Qh _ _
 have r:Q.heap[w.heap.size]?=Z (Zc UC 177 (0,0)):=by rw[xe,Qf _ _ _ E];exact f
 have R:Sc Q (w.heap.size+1) s 0:=⟨by simp[WY,p],by simp[WY,p],by simp[W7,p]⟩;have O:=a8 (Gv (m+1) R E E);clear p R f qj;go_in;go_wp2_with fail;rw[<- qR];clear qR;refine H P ?_;rintro e w' ⟨rfl,rfl⟩;clear P;go_wp2_with fail;rw[<- xe];clear xe;refine H O ?_;rintro e q6 ⟨l,aa⟩;have ag:=l.size;have y:Bw w q6:=⟨l.os.trans x.os,l.tape.trans x.tape,l.output.trans x.output,E,λb hb=>(l.block b E E).trans (x.block b hb)⟩;have a:=(l.block _ E E).trans r;clear O x r l;rcases aa with ⟨k,c0,c1,c2,q8,rfl,y4⟩|⟨q8,rfl⟩;case inr=>have K:=a8 (O3 q8);have d:=y.alloc E (Zc UC 177);have⟨⟨r0,r1,r2⟩,f0,f1,f2⟩:=k5 ((Qf q6 (Zc UC 177) w.heap.size E).trans a);have HP:=a8 (tM K (i _ d));clear q8 K y a d i;exact io
 obtain⟨z0,za,zl,zc,ua,ul,uc,rfl,rfl,rfl⟩:=y4.shape;have⟨W4,B⟩:=fk (q6.alloc (UF z0 za zl zc ua ul uc));have ah:W4.heap.size=q6.heap.size+1:=by rw[B];simp
 have n:Bw q6 W4:=by rw[B];exact eC _ _
 have d:=b9 y y.size n;have g:=(n.block w.heap.size E).trans a;have⟨V,L⟩:=y4.step E n;have HC:=a8 (AG V L);have qq:=a8 q8;clear q8 y4 y a n V;go_wp2_with fail;rw[<- B];clear B;refine H HC ?_;rintro e w5 ⟨j,⟨u,v,rfl,M⟩|⟨u,rfl⟩⟩;case inr=>have ab:=j.size;have K:=a8 (Mc qq u);have c:=b9 d d.size j;have⟨⟨r0,r1,r2⟩,f0,f1,f2⟩:=k5 ((j.block w.heap.size E).trans g);have HP:=a8 (tM K (i _ c));clear K HC qq u j d g c i L;exact io
 obtain⟨kb,rfl,-⟩:=id M.ptr;have hp:=ww u;have ab:=j.size;have c:=b9 d d.size j;have t:=(j.block w.heap.size E).trans E;have HO:=a8 (AW (m+1) _ k _ 1 w5 M E hp.1 hp.2);have HR:G (sf m s=k/\Ju m s=true/\yK (m+1) k<=1000):=by have⟨q1,q2⟩:=Bu (Md h8 qq u);exact⟨q1,q2,by have:=SQ (m+1) k 1 hp.1;omega⟩
 clear HC qq u hp M j d g L i;go_wp2_with fail;refine H HO ?_;rintro e q9 ⟨C,g0,g1,g2,L3,L4,rfl,z,S,T,q5,hl⟩;obtain⟨j0,qa,qc,F,q7,yl,ql,rfl,rfl,rfl⟩:=z.shape;have ai:=C.size;have⟨⟨r0,r1,r2⟩,f0,f1,f2⟩:=k5 ((C.block w.heap.size E).trans t);have HP:G (pt (m+1) (sf m s) (Ju m s) w (Zr (Zu #[UD j0 qa qc F q7 yl ql,Zb true])) (gh q9 w.heap.size 0 (I U j0) (A qa qc F) (A q7 yl ql))):=by
  have⟨q1,q2,q3⟩:=HR.out;rw[q1,q2];have q:∀b,w5.heap.size<=b->(gh q9 w.heap.size 0 (I U j0) (A qa qc F) (A q7 yl ql)).heap[b]?=q9.heap[b]?:=λb h=>gL E;have hS:∀b,(w5.heap.size<=b/\b<q9.heap.size)->w.heap.size<=b/\b<(gh q9 w.heap.size 0 (I U j0) (A qa qc F) (A q7 yl ql)).heap.size:=λb h=>by rw[kV];omega
  exact⟨kU (b9 c c.size C) E,_,_,_,L3,L4,D,z.keep (λb h=>q b h.1) hS,S.same (λs h=>q _ (q5.1 s (XH _ h)).1),T.same (λs h=>q _ (q5.1 s (Xt _ h)).1),q5.mono hS,by rw[hl];exact q3⟩
 clear HO HR z S T q5 hl C c t;exact io
structure CI(S:ZN)(w:Zw)(m bk rb:Nat)(n r:F (T m))(q0 v3 v4:Zv)(na ka:ZA)(nc kc:Nat):Prop where
 rst:CK S w m rb r q0 v3 v4
 bnd:∀b,S b->b<w.heap.size/\b≠rb
 book:lh w bk
 ne:bk≠rb
 q:cR S w n.q (A na (J n.q) nc)
 cap:J n.q<=nc
 o:dn S w (b8 S w m) n.o (A ka (J n.o) kc)
 le:J r.q<=J n.q
 txt:n.a.size<=1048576
 w0:(Ud U n.k).wf=true
 w1:(Ud U n.n).wf=true
 op:1<=n.k/\n.k<=43
def lh.lt{b:Nat}(h:lh w b):b<w.heap.size:=by have:=(h 0 E).1;exact Qx λc=>by have a:w.heap[b]?=Y:=zE;simp[WY,a]at this
def CI.on{n r:F (T m)}(h:CI S w m bk rb n r q0 v3 v4 na ka nc kc)(c:Bw w w'):CI S w' m bk rb n r q0 v3 v4 na ka nc kc:=by have d:gw S w w':=λb a=>c.block b (h.bnd b a).1;exact⟨h.rst.keep d (c.block rb h.rst.lt),λb a=>⟨Qn (h.bnd b a).1 c.size,(h.bnd b a).2⟩,h.book.keep (c.block bk h.book.lt),h.ne,h.q.keep d zI,h.cap,h.o.keepN d zI,h.le,h.txt,h.w0,h.w1,h.op⟩
def Js(a:Bw w w0)(b:cH rb w0 w'):cH rb w w':=(cH.of_below a).trans b
def yT {n r:F (T m)} (hp:p=86∨p=65) (h:CI S w m bk rb n r q0 v3 v4 na ka nc kc) :
  WU WV 155 #[Zp (b5 bk 0),Zp (b5 rb 0),I .i32 (p.toNat:Int),Uy n.k n.n n.a na (J n.q) nc ka (J n.o) kc] w (ez S m rb n r q0 p w):=by
 have a:=(Qg w.heap.size w).alloc E (UB n.k n.n n.a na (J n.q) nc ka (J n.o) kc);have b:=h.on a;have c:=a8 (v8 hp n b.rst b.bnd);have d:=a8 a;have k:((p.toNat:Int)==84)=false:=Be;have l:((p.toNat:Int)==35)=false:=Be;have o:((p.toNat:Int)==75)=false:=Be;have q:((p.toNat:Int)==70)=false:=Be;have s:((p.toNat:Int)==78)=false:=Be;have t:((p.toNat:Int)==88)=false:=Be;clear h b a hp;go_in;go_wp2_with fail;refine H c ?_;rintro e w1 ⟨f,g⟩;have HP:G (ez S m rb n r q0 p w e w1):=⟨Js d f,g⟩;rcases g with ⟨u,i,j,-,rfl,-⟩|⟨-,rfl⟩;all_goals
  clear f c d
  exact ow
def yS {n r:F (T m)} (hp:p=78∨p=88) (h:CI S w m bk rb n r q0 v3 v4 na ka nc kc) :
  WU WV 155 #[Zp (b5 bk 0),Zp (b5 rb 0),I .i32 (p.toNat:Int),Uy n.k n.n n.a na (J n.q) nc ka (J n.o) kc] w (ez S m rb n r q0 p w):=by
 have b:=(Qg w.heap.size w).alloc E (UB n.k n.n n.a na (J n.q) nc ka (J n.o) kc);have a:=h.on b;have c:=a8 (tN hp a.rst a.bnd a.book a.ne a.q ⟨_,_,_,D,a.cap⟩ a.le);have d:=a8 b;have k:((p.toNat:Int)==84)=false:=Be;have l:((p.toNat:Int)==35)=false:=Be;have o:((p.toNat:Int)==75)=false:=Be;have q:((p.toNat:Int)==70)=false:=Be;clear h a b;rcases hp with rfl|rfl;all_goals
  go_in
  go_wp2_with fail
  refine H c ?_
  rintro e w1 ⟨f,g⟩
  have HP:=a8 (show ez S m rb n r q0 _ w e w1 from ⟨Js d f,g⟩)
  rcases g with ⟨s,i,j,-,rfl,-⟩|⟨-,rfl⟩
  all_goals
   clear f c d
   exact ow
def yi(S:ZN)(w:Zw){x:Int}(v:Int)(tx:ZB)(d:(Ud U x).wf=true)(c:(Ud U v).wf=true)(b:tx.size<=WX):cT S w 1 (lN x v tx) (I U x) (I U v) (Zt tx) (A Y 0 0) (A Y 0 0):=
 ⟨D,D,D,b,d,c,⟨Y,0,D,by simp[WX,lN],λs a=>by simp[lN]at a,λh=>absurd D h⟩,⟨Y,0,D,by simp[WX,lN],λh=>absurd D h⟩⟩
def D1(h:Below w.drew.heap.size w.drew w'):Bw w w':=((Qg _ _).drew).trans h
def Jf(x v:Int)(tx:ZB):dB 1 (lN x v tx)=cM x v tx [] 0:=by
 have a:cS 1 (lN x v tx) 1=cM x v tx [] 0:=by show (decide ((1:Int)<=6) && cM x v tx [] 0 && List.all ([]:List (T 0)) _)=_;exact dS
 have b:cJ 1 (lN x v tx)=1:=D;unfold dB;rw[a,b];simp
def Ip {n r:F (T m)} (h:CI S w m bk rb n r q0 v3 v4 na ka nc kc) :
  WU WV 155 #[Zp (b5 bk 0),Zp (b5 rb 0),I .i32 84,Uy n.k n.n n.a na (J n.q) nc ka (J n.o) kc] w (ez S m rb n r q0 84 w):=by
 have⟨⟨t,u,v,x⟩,f1,f2,f3,f4⟩:=h.rst.cells;have qf:=h.rst.lt;have p:w.heap.size≠rb:=E;have⟨W,i⟩:=fk (((w.setCell ⟨rb,1,Y⟩ (I U 0)).setCell ⟨rb,2,Y⟩ (Zt ⟨#[]⟩)).alloc (UB n.k n.n n.a na (J n.q) nc ka (J n.o) kc));have ju:cH rb w W:=by rw[i];exact ((cH.set rb 1 _ _).trans (cH.set rb 2 _ _)).trans (cH.alloc _ _ _)
 have b:CK S W m rb ⟨r.k,0,WT,r.q,r.o⟩ q0 v3 v4:=by have k:=ju.same h.bnd;refine⟨?_,h.rst.n3.keep k zI,h.rst.k3,h.rst.n4.keepN k zI,h.rst.k4⟩;rw[i];exact (Qf _ _ _ sY).trans (mI (mI h.rst.box _) _)
 have g:n.a.size<=WX:=Q1 h.txt zC;have c:G (∀w,WU WV 160 _ w _):=λw=>mu n.k n.n n.a na ka (J n.q) (J n.o) nc kc w;have d:G (∀w,WU WV 97 #[Uy n.k n.n n.a Y 0 0 Y 0 0] w λe q=>e=Zr (Zb (cM n.k n.n n.a [] 0))/\Bw w q):=by intro w;have:=rt 1 (λ_=>False) (lN n.k n.n n.a) _ _ _ _ _ w (yi _ w n.n n.a h.w0 h.w1 g) Ae;rw[Jf]at this;exact this
 have HP:G (∀j,Bw W j->ez S m rb n r q0 84 w (Zr (Zb (cM n.k n.n n.a [] 0))) j):=by
  intro j hb;refine⟨ju.trans (cH.of_below hb),?_⟩;cases ha:cM n.k n.n n.a [] 0 with
  | true=>exact .inl ⟨_,v3,v4,(Pf _ n r).trans zE,D,b.keep PQ (hb.block rb (Qn qf ju.size))⟩
  | false=>exact .inr ⟨(Pf _ n r).trans zE,D⟩
 have o:=a8 i;generalize cM n.k n.n n.a [] 0=ok at *;clear h b ju i g;go_in;go_wp2_with fail;refine H (c _) ?_;rintro e w1 ⟨rfl,a⟩;rw[<- o.out]at a;go_wp2_with fail;refine H (d _) ?_;rintro e s ⟨rfl,f⟩;have l:=a8 (HP s (a.trans (f.mono a.size)));clear a f HP c d;go_wp2;go_ret;exact l
def Io {n r:F (T m)} (h:CI S w m bk rb n r q0 v3 v4 na ka nc kc) :
  WU WV 155 #[Zp (b5 bk 0),Zp (b5 rb 0),I .i32 75,Uy n.k n.n n.a na (J n.q) nc ka (J n.o) kc] w (ez S m rb n r q0 75 w):=by
 have⟨⟨o,p,q,t⟩,f1,f2,f3,f4⟩:=h.rst.cells;have qf:=h.rst.lt;have j:w.heap.size≠rb:=E;have⟨W,hW⟩:=fk ((w.setCell ⟨rb,2,Y⟩ (Zt ⟨#[]⟩)).alloc (UB n.k n.n n.a na (J n.q) nc ka (J n.o) kc));have ju:cH rb w W:=by rw[hW];exact (cH.set rb 2 _ _).trans (cH.alloc _ _ _)
 have b:CK S W m rb ⟨r.k,r.n,WT,r.q,r.o⟩ q0 v3 v4:=by have hs:=ju.same h.bnd;exact YD
 have d:G (∀w,WU WV 188 #[Zt n.a] w λe f=>Bw w f/\∃(s:Int)(a1 a2:ZA)(l1 l2 k1 k2:Nat),e=Zr (Zu #[UD s a1 l1 k1 a2 l2 k2,Zb (lu n.a)])):=by intro w;refine H (AD (n.a.size+7) E h.txt w) ?_;rintro e f ⟨hb,c0,c1,c2,k,l,rfl,qm,-⟩;exact T4
 have HP:G (∀c,Bw W c->ez S m rb n r q0 75 w (Zr (Zb (lu n.a))) c):=by
  intro c hb;refine⟨ju.trans (cH.of_below hb),?_⟩;cases ha:lu n.a with
  | true=>exact .inl ⟨_,v3,v4,(Pe _ n r).trans zE,D,b.keep PQ (hb.block rb (Qn qf ju.size))⟩
  | false=>exact .inr ⟨(Pe _ n r).trans zE,D⟩
 have i:=a8 hW;generalize lu n.a=ok at *;clear h b ju hW;go_in;go_wp2_with fail;refine H (d _) ?_;rintro e w1 ⟨a,s,a1,a2,l1,l2,k1,k2,rfl⟩;rw[<- i.out]at a;have g:=a8 (HP _ (a.alloc a.size (UF s a1 l1 k1 a2 l2 k2)));clear a HP d;go_wp2;go_ret;exact g
def Im {n r:F (T m)} (h:CI S w m bk rb n r q0 v3 v4 na ka nc kc) :
  WU WV 155 #[Zp (b5 bk 0),Zp (b5 rb 0),I .i32 70,Uy n.k n.n n.a na (J n.q) nc ka (J n.o) kc] w (ez S m rb n r q0 70 w):=by
 have⟨⟨i,j,k,l⟩,f1,f2,f3,f4⟩:=h.rst.cells;have qf:=h.rst.lt;have g:w.heap.size≠rb:=E;have⟨W,d⟩:=fk (((w.setCell ⟨rb,3,Y⟩ (A Y 0 0)).setCell ⟨rb,4,Y⟩ (A Y 0 0)).alloc (UB n.k n.n n.a na (J n.q) nc ka (J n.o) kc));have a:cH rb w W:=by rw[d];exact ((cH.set rb 3 _ _).trans (cH.set rb 4 _ _)).trans (cH.alloc _ _ _)
 have c:=a.same h.bnd;have b:CK S W m rb ⟨r.k,r.n,r.a,[],[]⟩ q0 (A Y 0 0) (A Y 0 0):=by refine⟨?_,⟨Y,0,D,gO,λs c=>by simp at c,λh=>absurd D h⟩,⟨_,_,_,D,QD _⟩,⟨Y,0,D,gO,λh=>absurd D h⟩,⟨_,_,_,D,QD _⟩⟩;rw[d];exact (Qf _ _ _ sY).trans (mI (mI h.rst.box _) _)
 have f:=a8 (Aw (h.q.keep c zI) ⟨_,_,_,D,h.cap⟩ (h.o.keepN c zI));have HP:G (ez S m rb n r q0 70 w (Zr (Zb (fD (iQ m) n))) W):=by
  refine⟨a,?_⟩;cases ha:fD (iQ m) n with
  | true=>exact .inl ⟨_,_,_,(Pd _ n r).trans zE,D,b⟩
  | false=>exact .inr ⟨(Pd _ n r).trans zE,D⟩
 generalize fD (iQ m) n=ok at *;clear h b a c;subst d;go_in;go_wp2_with fail;refine H f ?_;rintro e w1 ⟨rfl,rfl⟩;exact ow
def Iq {n r:F (T m)} (h:CI S w m bk rb n r q0 v3 v4 na ka nc kc) :
  WU WV 155 #[Zp (b5 bk 0),Zp (b5 rb 0),I .i32 35,Uy n.k n.n n.a na (J n.q) nc ka (J n.o) kc] w (ez S m rb n r q0 35 w):=by
 have⟨⟨y,z,B,C⟩,f1,f2,f3,f4⟩:=h.rst.cells;have qf:=h.rst.lt;have v:w.heap.size≠rb:=E;have⟨W,hW⟩:=fk ((w.setCell ⟨rb,1,Y⟩ (I U 0)).alloc (UB n.k n.n n.a na (J n.q) nc ka (J n.o) kc));have ju:cH rb w W:=by rw[hW];exact (cH.set rb 1 _ _).trans (cH.alloc _ _ _)
 have hs:=ju.same h.bnd;have b:CK S W m rb ⟨r.k,0,r.a,r.q,r.o⟩ q0 v3 v4:=by exact YD
 obtain⟨k,t⟩:∃k:Nat,n.k=(k:Int):=⟨n.k.toNat,by have:=h.op;omega⟩;have f:k<44:=by have:=h.op;omega
 have a:=h.book.keep (ju.block bk h.book.lt h.ne);have⟨o,p,q,s⟩:=a k f;have j:G (∀w,WU WV 187 #[Za #[Zt (lF k),Zt (bs (ia k)),I U (Aq k),I U (Ar k)],I U n.n] w _):=λw=>KV (lF k) (bs (ia k)) (Aq k) (Ar k) n.n w;have HP:G (∀i,Bw W i->ez S m rb n r q0 35 w (Zr (Zb (decide (Aq k<=n.n/\n.n<=Ar k)))) i):=by
  intro i hb;refine⟨ju.trans (cH.of_below hb),?_⟩;have e:n.k.toNat=k:=E;by_cases g:Aq k<=n.n/\n.n<=Ar k;·rw[QK g];exact .inl ⟨_,v3,v4,(Ii _ n r).trans (Qm (by rw[e];exact g)),D,b.keep PQ (hb.block rb (Qn qf ju.size))⟩
  .rw[QU g];exact .inr ⟨(Ii _ n r).trans (Qd (by rw[e];exact g)),D⟩
 rw[t]at hW ⊢;generalize decide (Aq k<=n.n/\n.n<=Ar k)=ok at *;have z0:a7 W w.heap.size 0=Z (I U (k:Int)):=by rw[hW];simp[go_sem]
 have x:a7 W w.heap.size 1=Z (I U n.n):=by rw[hW];simp[go_sem]
 have l:=a8 hW;rw[hW]at o p q s;clear h b ju hs a hW t z0 x;go_in;go_wp2_with fail;go_region_with (first|(go_at_call 187;refine H (j _) ?_;rintro e w1 ⟨rfl,c⟩));all_goals
  have d:Bw W w1:=by rw[l.out];exact D1 c
  have u:=a8 (HP w1 d)
  clear c d HP j o p q s l
  go_wp2
  go_ret
  exact u
def Sa(p:UInt8):Prop:=p=84∨p=75∨p=70∨p=35∨p=78∨p=88∨p=86∨p=65
def Dx:∀k,k<44->∀p,p∈ia k->p=84∨p=75∨p=70∨p=35∨p=78∨p=88∨p=86∨p=65:=zC
def DD {n r:F (T m)} (hp:Sa p) (h:CI S w m bk rb n r q0 v3 v4 na ka nc kc) :
  WU WV 155 #[Zp (b5 bk 0),Zp (b5 rb 0),I .i32 (p.toNat:Int),Uy n.k n.n n.a na (J n.q) nc ka (J n.o) kc] w (ez S m rb n r q0 p w):=by
 rcases hp with rfl|rfl|rfl|rfl|rfl|rfl|rfl|rfl;·exact Ip h
 .exact Io h
 .exact Im h
 .exact Iq h
 .exact yS zS h
 .exact yS zS h
 .exact yT zS h
 .exact yT zS h
def Fk{po:α->Int}{n r b:F α}(hp:Sa p)(h:iF po n r p=Z b):J b.q<=J r.q:=by
 rcases hp with rfl|rfl|rfl|rfl|rfl|rfl|rfl|rfl
 .rw[Pf]at h;split at h;·cases h;exact QD _
  .exact eI
 .rw[Pe]at h;split at h;·cases h;exact QD _
  .exact eI
 .rw[Pd]at h;split at h;·cases h;simp
  .exact eI
 .rw[Ii]at h;split at h;·cases h;exact QD _
  .exact eI
 .cases hn:r.q with
  | nil=>rw[Fj _ _ (.inl rfl) hn]at h;cases h
  | cons a q=>
   rw[sO _ _ (.inl rfl) hn]at h;split at h;·cases h;simp
   .exact eI
 .cases hn:r.q with
  | nil=>rw[Fj _ _ (.inr rfl) hn]at h;cases h
  | cons a q=>
   rw[sO _ _ (.inr rfl) hn]at h;split at h;·cases h;simp
   .exact eI
 .cases hn:r.o with
  | nil=>rw[JH _ _ (.inl rfl) hn]at h;cases h
  | cons a q=>
   rw[B9 _ _ (.inl rfl) hn]at h;split at h;·cases h;exact QD _
   .exact eI
 .cases hn:r.o with
  | nil=>rw[JH _ _ (.inr rfl) hn]at h;cases h
  | cons a q=>
   rw[B9 _ _ (.inr rfl) hn]at h;split at h;·cases h;exact QD _
   .exact eI
def CI.mv {n r:F (T m)} (h:CI S w m bk rb n r q0 v3 v4 na ka nc kc) (g:w.heap.size<=w'.heap.size)
  (d:∀b,b<w.heap.size->b≠ib->w'.heap[b]?=w.heap[b]?) (c:¬S ib) (i:ib≠rb) (j:ib≠bk):CI S w' m bk rb n r q0 v3 v4 na ka nc kc:=by have f:gw S w w':=λb a=>d b (h.bnd b a).1 (λe=>c (e ▸ a));exact⟨h.rst.keep f (d rb h.rst.lt E),λb c=>⟨Qn (h.bnd b c).1 g,(h.bnd b c).2⟩,h.book.keep (d bk h.book.lt E),h.ne,h.q.keep f zI,h.cap,h.o.keepN f zI,h.le,h.txt,h.w0,h.w1,h.op⟩
def CI.next {n r e:F (T m)} {a c:Zv} (h:CI S w m bk rb n r q0 v3 v4 na ka nc kc) (d:cH rb w w') (j:CK S w' m rb e q0 a c) (i:J e.q<=J r.q) :
  CI S w' m bk rb n e q0 a c na ka nc kc:=by have g:=d.same h.bnd;exact⟨j,λb f=>⟨Qn (h.bnd b f).1 d.size,(h.bnd b f).2⟩,h.book.keep (d.block bk h.book.lt h.ne),h.ne,h.q.keep g zI,h.cap,h.o.keepN g zI,Q1 i h.le,h.txt,h.w0,h.w1,h.op⟩
structure wF(S:ZN)(w wr:Zw)(m bk:Nat)(n r:F (T m))(v3 v4:Zv)(na ka:ZA)(nc kc k pos ib:Nat):Prop where
 off:CI S wr m bk (w.heap.size+1) n r (I U (k:Int)) v3 v4 na ka nc kc
 iter:wr.heap[ib]?=Z (.stringIter (bs (ia k)) pos)
 node:wr.heap[w.heap.size]?=Z (Zc (Uz (k:Int) n.n n.a na (J n.q) nc ka (J n.o) kc) 38 (0,0))
 below:Bw w wr
 le:pos<=J (ia k)
 fold:gp (iQ m) n ((ia k).drop pos) r=gp (iQ m) n (ia k) n
def cP {b:Nat} {t:W9} (h:w.heap[b]?=Z (Zc #[c0,c1,c2,c3,c4] t (0,0))) :
  a7 w b 0=Z c0/\a7 w b 1=Z c1/\a7 w b 2=Z c2/\a7 w b 3=Z c3/\a7 w b 4=Z c4:=by refine⟨?_,?_,?_,?_,?_⟩<;>simp[WY,h]
def B3:∀k,k<44->∀p,p∈ia k->p.toNat<128:=zC
def wV(l:List UInt8)(i:Nat)(h:i<(bs l).size):(bs l)[i]'h=l[i]'(by rw[dG]at h;exact h):=by simp[bs,QX]
def wF.step {wr:Zw} {n r:F (T m)} (h:wF S w wr m bk n r v3 v4 na ka nc kc k pos ib) (B:w.heap.size+2<=ib) (z:bk<w.heap.size) (v:Bd S w) (C:k<44)
  (hp:pos<J (ia k)) :
  CI S (wr.iterAt ib (bs (ia k)) (pos+1)) m bk (w.heap.size+1) n r (I U (k:Int)) v3 v4 na ka nc kc /\
  (wr.iterAt ib (bs (ia k)) (pos+1)).heap[w.heap.size]?=wr.heap[w.heap.size]? /\
  (∀e p,ez S m (w.heap.size+1) n r (I U (k:Int)) (ia k)[pos] (wr.iterAt ib (bs (ia k)) (pos+1)) e p ->
   (∃u g i,e=Zr (Zb true)/\wF S w p m bk n u g i na ka nc kc k (pos+1) ib)∨(e=Zr (Zb false)/\gp (iQ m) n (ia k) n=Y/\Bw w p)):=by
 have f:=h.off.mv (w':=wr.iterAt ib (bs (ia k)) (pos+1)) (ib:=ib) (by rw[Ws];exact E) (λb _ y=>ZR wr ib b _ _ y) (λx=>by have:=v ib x;omega) E E;have q:(wr.iterAt ib (bs (ia k)) (pos+1)).heap[ib]?=Z (.stringIter (bs (ia k)) (pos+1)):=Lib.iterAt_heap wr ib _ _ _ h.iter;have s:ib<wr.heap.size:=(Qe.1 h.iter).1;have a:Bw w (wr.iterAt ib (bs (ia k)) (pos+1)):=Lib.below_iterAt h.below E _ _;have o:(wr.iterAt ib (bs (ia k)) (pos+1)).heap[w.heap.size]?=wr.heap[w.heap.size]?:=ZR wr ib _ _ _ E;have c:(ia k).drop pos=(ia k)[pos] :: (ia k).drop (pos+1):=zS;have j:Sa (ia k)[pos]:=Dx k C _ zS;refine⟨f,o,?_⟩;rintro e p ⟨l,⟨u,g,i,d,rfl,t⟩|⟨d,rfl⟩⟩
 .refine .inl ⟨u,g,i,D,f.next l t (Fk j d),?_,?_,a.trans (l.below E a.size),hp,?_⟩;·exact (l.block ib (by rw[Ws];exact s) E).trans q
  .exact (l.block w.heap.size (by rw[Ws];omega) E).trans (o.trans h.node)
  .have:=h.fold;rw[c,ig d]at this;exact this
 .refine .inr ⟨D,?_,a.trans (l.below E a.size)⟩;have:=h.fold;rw[c,gv d]at this;exact this.symm
def GR {n:F (T m)} (j0:(Ud U n.k).wf=true) (q9:(Ud U n.n).wf=true) (q6:cR S w n.q (A na (J n.q) nc)) (M:J n.q<=nc)
  (j2:dn S w (b8 S w m) n.o (A ka (J n.o) kc)) (ab:J n.o<=kc) (qa:Bd S w) (i:lh w bk) (hx:n.a.size<=1048576) :
  WU WV 94 #[Zp (b5 bk 0),Uy n.k n.n n.a na (J n.q) nc ka (J n.o) kc] w λe w'=>e=Zr (Zb (eQ (iQ m) n))/\Bw w w':=by
 have HP:G (∀w,WU WV 29 #[I U n.k] w _):=λw=>mp n.k w;have K:=(Qg w.heap.size w).alloc E (UB n.k n.n n.a na (J n.q) nc ka (J n.o) kc);by_cases v:1<=n.k/\n.k<=43;case neg=>
  have V:vu n.k=0:=by unfold vu;rw[Qm E]
  have HF:G (eQ (iQ m) n=false):=by show _=_;unfold eQ;rw[QU v];rfl
  rw[V]at HP;clear q6 j2 i;go_in;go_wp2_with fail;refine H (HP _) ?_;rintro e w1 ⟨rfl,rfl⟩;go_wp2;go_ret;exact⟨cY HF.symm,K⟩
 have V:(vu n.k==0)=false:=by
  have:vu n.k=86∨vu n.k=65:=by
   unfold vu;rw[Qd E];split;·exact E
   .exact E
  rcases this with h|h<;>rw[h]<;>rfl
 generalize vu n.k=po at *;obtain⟨k,O⟩:∃k:Nat,n.k=(k:Int):=⟨n.k.toNat,E⟩;have d:k<44:=E;have⟨W,hW⟩:=fk (((w.alloc (UB (k:Int) n.n n.a na (J n.q) nc ka (J n.o) kc)).alloc (UB (k:Int) n.n n.a na (J n.q) nc ka (J n.o) kc)).drew);have q7:W.heap.size=w.heap.size+2:=pR;have y:Bw w W:=by rw[hW];exact ((eC _ _).alloc zS _).drew
 have g:Bw w (W.iter (bs (ia k)) 0):=y.alloc y.size _;have X:gw S w (W.iter (bs (ia k)) 0):=b6 g qa;have j:=i.lt;have q:(W.iter (bs (ia k)) 0).heap[w.heap.size]?=Z (Zc (Uz (k:Int) n.n n.a na (J n.q) nc ka (J n.o) kc) 38 (0,0)):=by refine (Qf _ _ _ E).trans ?_;rw[hW];exact (Qf _ _ _ zS).trans (Xq _ _)
 have t:(W.iter (bs (ia k)) 0).heap[w.heap.size+1]?=Z (Zc (Uz (k:Int) n.n n.a na (J n.q) nc ka (J n.o) kc) 38 (0,0)):=by refine (Qf _ _ _ E).trans ?_;rw[hW];have:=Xq (w.alloc (UB (k:Int) n.n n.a na (J n.q) nc ka (J n.o) kc)) (UB (k:Int) n.n n.a na (J n.q) nc ka (J n.o) kc);rw[show (w.alloc (UB (k:Int) n.n n.a na (J n.q) nc ka (J n.o) kc)).heap.size=w.heap.size+1 by simp]at this;exact this
 have HJ:G (wF S w (W.iter (bs (ia k)) 0) m bk n n (A na (J n.q) nc) (A ka (J n.o) kc) na ka nc kc k 0 (w.heap.size+2)):=by
  refine⟨⟨⟨t,q6.keep X zI,⟨_,_,_,D,M⟩,j2.keepN X zI,⟨_,_,_,D,ab⟩⟩,λb hS=>?_,i.keep (g.block bk j),E,q6.keep X zI,M,j2.keepN X zI,E,hx,j0,q9,v⟩,?_,q,g,E,by rw[Xn]⟩;·have:=qa b hS;exact⟨Qn this g.size,E⟩
  .rw[<- q7];exact World.iter_heap _ _ _
 have HB:=a8 qa;have l:lh (w.alloc (UB (k:Int) n.n n.a na (J n.q) nc ka (J n.o) kc)) bk:=i.keep (Qf _ _ _ j);have c:lh ((w.alloc (UB (k:Int) n.n n.a na (J n.q) nc ka (J n.o) kc)).alloc (UB (k:Int) n.n n.a na (J n.q) nc ka (J n.o) kc)) bk:=l.keep (Qf _ _ _ zE);obtain⟨-,b1,-,-⟩:=c k d;have HW:=a8 hW;have HK:=a8 O;have q8:G (∀ (q5:Zw) (r:F (T m)) (v3 v4:Zv) (p:UInt8),Sa p->CI S q5 m bk (w.heap.size+1) n r (I U (k:Int)) v3 v4 na ka nc kc ->
   WU WV 155 #[Zp (b5 bk 0),Zp (b5 (w.heap.size+1) 0),I .i32 (p.toNat:Int),Uy (k:Int) n.n n.a na (J n.q) nc ka (J n.o) kc] q5 (ez S m (w.heap.size+1) n r (I U (k:Int)) p q5)):=by
  intro q5 r v3 v4 p hp qq
  have:=DD hp qq
  rw[O]at this
  exact this
 have HF:G (eQ (iQ m) n=oN (gp (iQ m) n (ia k) n)):=by show _=_;unfold eQ;rw[QK v,O];rfl
 rw[O]at HP ⊢;clear O q6 j2 qa i X y g q t hW K l c j0 q9 hx v;go_in;go_wp2_with fail;refine H (HP _) ?_;rintro e w1 ⟨rfl,rfl⟩;go_wp2_with fail;go_region;rw[<- HW.out];clear b1 HP;go_wp2;go_loopw [7] (λ_ wr=>∃pos r v3 v4,wF S w wr m bk n r v3 v4 na ka nc kc k pos (w.heap.size+2)) (λ_ wr=>J (ia k)-wr.iterPos (w.heap.size+2));case atStart=>exact⟨0,_,_,_,HJ⟩
 case round=>
  obtain⟨pos,r,v3,v4,f⟩:=hrel;have ac:=f.le;have o:=f.iter;have a:=iterPos_of o;by_cases hp:pos<J (ia k)
  .have u:=λty=>Lib.run_next_ascii_at (P:=WV) wr (w.heap.size+2) (bs (ia k)) pos ty o (by rw[dG];exact hp) (by rw[wV];exact B3 k d _ zS);rw[wV]at u;have⟨qq,Q,s⟩:=f.step E j HB d hp;have N:=Q.trans f.node;have⟨z0,z1,z2,z3,z4⟩:=cP N;have qc:=a8 (q8 _ r v3 v4 _ (Dx k d _ (QE hp)) qq);have x:=a8 s;have HI:G (wr.iterPos (w.heap.size+2)=pos):=a;clear f o a qq Q s N;go_wp2_with fail;refine H qc ?_;rintro e w2 hq;rcases x.out e w2 hq with ⟨r',ad,ae,rfl,B⟩|⟨rfl,R,L⟩
   .have aa:=a8 B;have ql:G (w2.iterPos (w.heap.size+2)=pos+1):=iterPos_of B.iter;clear hq B qc x z0 z1 z2 z3 z4 u;go_wp2;go_roundw;case rel=>exact⟨pos+1,_,_,_,aa⟩
    case measure=>rw[ql.out,HI.out];omega
   .have C:G (eQ (iQ m) n=false/\Bw w w2):=⟨by rw[HF.out,R];rfl,L⟩;clear hq qc x z0 z1 z2 z3 z4 u R L;go_wp2;go_ret;exact⟨cY C.1.symm,C.2⟩
  .have u:=λty=>Lib.run_next_end_at (P:=WV) wr (w.heap.size+2) (bs (ia k)) pos ty o (by rw[dG];exact hp);have z:=f.fold;rw[Zy E,gp]at z;have C:G (eQ (iQ m) n=((r.n==0) && r.a.toList.isEmpty && ((J r.q:Int)==0) && ((J r.o:Int)==0))/\Bw w wr):=⟨by rw[HF.out,<- z];rfl,f.below⟩;obtain⟨⟨y1,y2,y3,y4⟩,-⟩:=f.off.rst.cells;obtain⟨xa,xl,xc,rfl,-⟩:=f.off.rst.k3;obtain⟨ya,yl,yc,rfl,-⟩:=f.off.rst.k4;obtain⟨_,_,hv,-⟩:=id f.off.rst.n3;cases hv
   obtain⟨_,_,hv,-⟩:=id f.off.rst.n4;cases hv
   clear f o a z;go_wp2_with fail;all_goals
    go_ret
    refine⟨cY ?_,C.2⟩
    rw[C.1]
    first
     | simp[‹r.n=0›,‹r.a.toList=[]›,‹r.q=[]›]
     | simp[‹r.n=0›,‹r.a.toList=[]›,‹¬r.q=[]›]
     | simp[‹r.n=0›,‹¬r.a.toList=[]›]
     | simp[‹¬r.n=0›]
def Of{l:List (T m)}(h:j<J l):cJ m l[j]<=cG (λk=>cJ m k) l:=eK _ _ _ (QE h)
def NJ(t:T m):1<=cJ m t:=by
 cases m with
 | zero=>exact Empty.elim (show Empty from t)
 | succ m=>simp only[cJ];omega
def BN(l:List (T m)):J l<=cG (λk=>cJ m k) l:=by
 induction l with
 | nil=>simp
 | cons a r b=>have:=NJ a;simp only[cG,Qs];omega
def rH{m:Nat}(l:List (T m))(i a:Nat):Nat:=a+1+cG (λk=>cJ m k) (l.take i)
def CQ{M:Nat}(a:Rp M)(m:Nat)(t:T (m+1))(env:IM M)(c:Nat):List (K (M+1))×Int×Nat:=
 tY (Kq a m) (cJ m) (λi b=>BC (F.k t) (F.q t) i b env) (uI (F.k t) ((sN a (show F (T m) from t)).getD zU)) (F.o t) [] (c+1)
structure YP{M:Nat}(sn:Rp M)(m:Nat)(t:T (m+1))(env:IM M)(pl j:Nat)(ks:List (K (M+1))):Prop where
 len:J ks=j
 eq:CQ sn m t env pl=tY (Kq sn m) (cJ m) (λi ks=>BC (F.k t) (F.q t) i ks env) (uI (F.k t) ((sN sn (show F (T m) from t)).getD zU)) ((F.o t).drop j) ks (rH (F.o t) j pl)
 want:∀i (h:i<J ks),uI (F.k t) ((sN sn (show F (T m) from t)).getD zU) i ks[i] (ks.take i)=true
def YP.start(b:Rp M)(m:Nat)(t:T (m+1))(env:IM M)(a:Nat):YP b m t env a 0 []:=
 ⟨D,by unfold CQ rH;rfl,zS⟩
def C3{M:Nat}(c:Rp M)(m:Nat)(t:T (m+1))(env:IM M)(b j:Nat)(a:List (K (M+1)))(k:T m):K (M+1)×Int×Nat:=
 Kq c m k (BC (F.k t) (F.q t) j a env) (rH (F.o t) j b)
def YP.wrong {a:Rp M} {t:T (m+1)} {env:IM M} {b:List (K (M+1))} (h:YP a m t env pl j b) (e:j<J (F.o t)) (c:(C3 a m t env pl j b (F.o t)[j]).2.1=0) (d:uI (F.k t) ((sN a (show F (T m) from t)).getD zU) j (C3 a m t env pl j b (F.o t)[j]).1 b=false) :
  CQ a m t env pl=([],6,rH (F.o t) j pl):=by unfold C3 at c d;rw[h.eq,Qy e,tY,h.len];exact (Qd (by rw[c];simp)).trans (Qd (by rw[d];simp))
def YP.next {b:Rp M} {t:T (m+1)} {env:IM M} {a:List (K (M+1))} (h:YP b m t env pl j a) (g:j<J (F.o t)) (n:(C3 b m t env pl j a (F.o t)[j]).2.1=0) (k:uI (F.k t) ((sN b (show F (T m) from t)).getD zU) j (C3 b m t env pl j a (F.o t)[j]).1 a=true) :
  YP b m t env pl (j+1) (a++[(C3 b m t env pl j a (F.o t)[j]).1]):=by
 refine⟨by rw[Qi,h.len];rfl,?_,λi hi=>?_⟩
 .have c:=n;have f:=k;unfold C3 at c f ⊢;rw[h.eq,Qy g,tY,h.len];refine (Qd (by rw[c];simp)).trans ((Qm f).trans ?_);have hp:rH (F.o t) (j+1) pl=rH (F.o t) j pl+cJ m (F.o t)[j]:=by unfold rH;rw[dw _ g];omega
  rw[hp]
 .by_cases d:i<J a;·rw[QS d,List.take_append_of_le_length E];exact h.want i d
  .have e:i=J a:=FR;subst e;have l:(a++[(C3 b m t env pl j a (F.o t)[j]).1])[J a]'hi=(C3 b m t env pl j a (F.o t)[j]).1:=zS;rw[l,List.take_left',h.len];·exact k
   .exact cU
def lR(r:Except Int V6):Prop:=match r with|.ok t=>dB 6 t=true|.error c=>1<=c/\c<=6
def qbR(r:Except Int (List V6)):Prop:=match r with|.ok l=>(∀t,t∈l->dB 6 t=true)|.error c=>1<=c/\c<=6
def nR(t:T 7):lR (eu t):=by
 unfold eu;split;·next h=>exact (rD zC h).1
 .exact⟨zC,zC⟩
def kF{s n:Int}(h:cM s n x [] 0=true):dB 6 (fR s n x)=true:=by refine tJ (iL zC h λy a=>absurd a (by intro h;cases h)) ?_;show 1+cG (λk=>cJ 5 k) []<=120;exact mz
def s5(n:Int):lR (kf n):=by
 unfold kf;split
 .next h=>
  refine kF ?_;simp[cM,h]
 .exact⟨zC,zC⟩
def An(b:Bool):dB 6 (lO b)=true:=by refine kF ?_;cases b<;>simp[cM]
def Rg(op a b:Int):lR (mC op a b):=by
 unfold mC;split;·exact s5 _
 .split;·exact s5 _
  .split;·exact s5 _
   .split;·exact⟨zC,zC⟩
    .split<;>exact s5 _
def kE{t:V6}(h:dB 6 t=true):∀x,x∈cL t->dB 6 x=true:=by intro x a;obtain⟨y,b,rfl⟩:=Xo.1 a;exact (rD zC (pG (n:=5) h b)).1
def Fm(f:α->Nat){l l':List α}(h:l.Sublist l'):cG f l<=cG f l':=by
 induction h with
 | slnil=>exact E
 | cons a _ b=>simp only[cG];omega
 | cons_cons a _ b=>simp only[cG];omega
def Jw{t:V6}{l:List ZB}{a:List (T 5)}(h:dB 6 t=true)(c:a.Sublist (F.o t))(g:cM (F.k t) (F.n t) (F.a t) l (J a)=true):dB 6 (⟨F.k t,F.n t,F.a t,l,a⟩:F (T 5))=true:=by have⟨f,b⟩:=dr h;obtain⟨d,-,e⟩:=dY (n:=5) f;refine tJ (iL d g λx i=>e x (c.subset i)) ?_;have:=Fm (λk=>cJ 5 k) c;have b:1+cG (λk=>cJ 5 k) (F.o t)<=120:=b;show 1+cG (λk=>cJ 5 k) a<=120;omega
def me{t:V6}(h:dB 6 t=true):cM (F.k t) (F.n t) (F.a t) (F.q t) (J (F.o t))=true:=(dY (n:=5) (dr h).1).2.1
def EY{t:V6}(h:dB 6 t=true):1<=F.k t/\F.k t<=6:=by
 have a:=me h;unfold cM at a;split at a;·omega
 .split at a;·omega
  .split at a;·omega
   .split at a;·omega
    .split at a;·omega
     .split at a;·omega
      .cases a
def yq(h:x.toList.isEmpty=true):x=WT:=by have:=dO x h;exact ByteArray.size_eq_zero_iff.1 this
def Ds{t:V6}(h:dB 6 t=true)(a:F.k t=1): -999999999<=F.n t/\F.n t<=999999999/\F.a t=WT/\F.q t=[]/\F.o t=[]:=by have ha:=me h;simp[cM,a]at ha;exact⟨E,E,yq FI,ha.1.2,ha.2⟩
def ld{t:V6}(h:dB 6 t=true)(b:F.k t=2):F.n t=0/\eW (F.a t)=true/\F.q t=[]/\F.o t=[]:=by have a:=me h;simp[cM,b]at a;exact⟨E,a.1.1.2,a.1.2,a.2⟩
def mO{t:V6}(h:dB 6 t=true)(a:F.k t=3):(F.n t=0∨F.n t=1)/\F.a t=WT/\F.q t=[]/\F.o t=[]:=by have ha:=me h;simp[cM,a]at ha;exact⟨E,yq FI,ha.1.2,ha.2⟩
def iP{t:V6}(h:dB 6 t=true)(a:F.k t=4):F.n t=0/\F.a t=WT/\F.q t=[]/\J (F.o t)<=20:=by have ha:=me h;simp[cM,a]at ha;exact⟨E,yq FI,ha.1.2,E⟩
def pH{t:V6}(h:dB 6 t=true)(a:F.k t=5):F.n t=0/\F.a t=WT/\J (F.q t)=J (F.o t)/\ee (F.q t)=true:=by have ha:=me h;simp[cM,a]at ha;exact⟨E,yq FI,E,ha.2⟩
def nF{t:V6}(h:dB 6 t=true)(a:F.k t=6):F.n t=0/\F.a t=WT/\F.q t=[]/\J (F.o t)<=1:=by have ha:=me h;simp[cM,a]at ha;exact⟨E,yq FI,ha.1.2,E⟩
structure Na(w:Zw)(pb bb bk:Nat)(p:Int):Prop where
 parts:k6 w pb p
 bc:a7 w bb 0=Z (Zp (b5 bk 0))
 book:lh w bk
 nb:bb≠pb
 nk:bk≠pb
def Na.keep{p q:Int}(h:Na w pb bb bk p)(a:cH pb w w')(hp:k6 w' pb q):Na w' pb bb bk q:=
 ⟨hp,a.cell h.bc h.nb,h.book.keep (a.block bk h.book.lt h.nk),h.nb,h.nk⟩
def Au{p:α->Bool}{l:List α}(h:k<J l)(b:(l.take k).all p=true)(a:p l[k]=true):(l.take (k+1)).all p=true:=by rw[Qq h,Zj,b];simpa using a
def Ns {n:F (T m)} (d:Int) {p:Int} (r:(Ud U n.k).wf=true) (s:(Ud U n.n).wf=true)
  (u:cR S w n.q (A na (J n.q) nc)) (j:J n.q<=nc) (v:dn S w (b8 S w m) n.o (A ka (J n.o) kc)) (k:J n.o<=kc) (i:∀b,S b->b<w.heap.size/\b≠pb)
  (hp:Na w pb bb bk p) (K:n.a.size<=1048576) (B:0<=p) (C:p<=200) :
  WU WV 93 #[Uy n.k n.n n.a na (J n.q) nc ka (J n.o) kc,I U d,Zp (b5 pb 0),Zp (b5 bb 0)] w
   λe h=>e=Zr (Zb (decide (p+1<=200) && decide (d<=24) && eQ (iQ m) n))/\k6 h pb (p+1)/\cH pb w h:=by
 have y:=hp.parts.lt;have g:cH pb w (w.setCell ⟨pb,0,Y⟩ (I U (p+1))):=cH.set pb 0 _ (I U (p+1));have a:=g.trans (cH.alloc pb _ (UB n.k n.n n.a na (J n.q) nc ka (J n.o) kc));have f:k6 ((w.setCell ⟨pb,0,Y⟩ (I U (p+1))).alloc (UB n.k n.n n.a na (J n.q) nc ka (J n.o) kc)) pb (p+1):=(hp.parts.set (p+1)).keep (eC _ _);have q:=a.same i;have t:G (WU WV 94 _ _ _):=GR r s (u.keep q zI) j (v.keepN q zI) k (λb x=>Qn (i b x).1 zS) (hp.book.keep (a.block bk hp.book.lt hp.nk)) K;have c0:=hp.parts.cell;have f0:=hp.parts.free;have L:=hp.bc;have nm:=hp.nb;have O:bb<w.heap.size:=dK L;have z:w.heap.size≠pb:=E;clear u v hp g i q;by_cases M:p+1<=200
 .by_cases N:d<=24;·go_in;go_wp2_with fail;refine H t ?_;rintro e h ⟨rfl,c⟩;have o:k6 h pb (p+1):=(c.block pb zE).trans f;have l:=a.trans (cH.of_below (bb:=pb) c);clear c t;go_wp2;go_ret;exact⟨zE,o,l⟩
  .go_in;go_wp2;go_ret;exact⟨zE,f,a⟩
 .go_in;go_wp2;go_ret;exact⟨zE,f,a⟩
def pw(n:Nat)(t:T n)(d p:Int)(a:Nat)(w:Zw)(e:Ending)(w':Zw):Prop:=
 cH a w w' /\ ∃r,e=Zr (Zb r)/\(r=true->c7 n t d=true/\p+(cJ n t:Int)<=200/\k6 w' a (p+cJ n t))/\(r=false->¬(c7 n t d=true/\p+(cJ n t:Int)<=200))
def clN(a bb:Nat):Zv:=.func (.func 93) #[] #[Zp (b5 a 0),Zp (b5 bb 0)]
def tm(n:Nat):Prop:=∀(S:ZN)(t:T n)(c0 c1 c2 c3 c4:Zv)(d p:Int)(a c e:Nat)(w:Zw),b8 S w n t c0 c1 c2 c3 c4->(∀b,S b->b<w.heap.size/\b≠a)->Na w a c e p->gY n t<=1048576->0<=p->p<=200->1<=d->d<=25 ->
 WU WV 92 #[Za #[c0,c1,c2,c3,c4],I U d,clN a c] w (pw n t d p a w)
def K6(a b c d:Zv){e:Zv}(h:∃x l k,e=A x l k)(w:Zw):WU WV 308 #[Za #[a,b,c,d,e]] w λg i=>g=Zr e/\Bw w i:=by obtain⟨x,l,k,rfl⟩:=h;have f:=(Qg w.heap.size w).alloc E (Zc #[a,b,c,d,A x l k] 38);go_in;go_wp2;go_ret;exact⟨D,f⟩
def ME {n:Nat} {t:T (n+1)} {d p:Int} (k:Nat) (hk:k<J (F.o t))
  (h:¬(c7 n (F.o t)[k] (d+1)=true/\p+1+(cG (λx=>cJ n x) ((F.o t).take k):Int)+(cJ n (F.o t)[k]:Int)<=200)):¬(c7 (n+1) t d=true/\p+(cJ (n+1) t:Int)<=200):=by rintro ⟨h1,h2⟩;apply h;simp only[c7,Qc,Qo]at h1;exact TJ
def IB(hn:tm n):tm (n+1):=by
 intro S t c0 c1 c2 c3 c4 d p u bb bk w ht hB g j0 ah ai ao ap;obtain⟨rfl,rfl,rfl,ar,al,am,h3,q9,⟨na,nl,nc,rfl,ad⟩,⟨ka,kl,kc,rfl,ae⟩⟩:=ht;obtain⟨_,_,hv,-⟩:=id h3;cases hv
 obtain⟨_,_,hv,qq,-⟩:=id q9;cases hv
 have ak:(F.a t).size<=1048576:=by simp only[gY]at j0;omega
 have ab:G (∀k (h:k<J (F.o t)),gY n (F.o t)[k]<=1048576):=λk h=>by have:=eK (λk=>gY n k+1) (F.o t) _ (QE h);simp only[gY]at j0;omega
 clear j0;unfold WX at qq;have qf:=g.parts.lt;have R:=(Qg w.heap.size w).alloc (QD _) (UB (F.k t) (F.n t) (F.a t) na (J (F.q t)) nc ka (J (F.o t)) kc);have L:cH u w (w.alloc (UB (F.k t) (F.n t) (F.a t) na (J (F.q t)) nc ka (J (F.o t)) kc)):=cH.of_below R;have j3:=h3.keep (L.same hB) zI;have y:=q9.keepN (L.same hB) zI;have q7:G (WU WV 93 _ _ _):=Ns d al am j3 ad y ae (λb hb=>y8) (g.keep L (g.parts.keep R)) ak ah ai;clear y;unfold clN;go_in;go_wp2_with fail;refine H q7 ?_;rintro e w1 ⟨rfl,j2,j⟩;have s:=L.trans j;have W:=g.keep s j2;have av:=s.size;have au:w.heap.size<w1.heap.size:=by have:=j.size;simp at this;omega
 have k0:a7 w1 w.heap.size 0=Z (I U (F.k t)):=j.cell ke E;have k1:a7 w1 w.heap.size 1=Z (I U (F.n t)):=j.cell ke E;have k2:a7 w1 w.heap.size 2=Z (Zt (F.a t)):=j.cell ke E;have k3:a7 w1 w.heap.size 3=Z (A na (J (F.q t)) nc):=j.cell ke E;have k4:a7 w1 w.heap.size 4=Z (A ka (J (F.o t)) kc):=j.cell ke E;have y:=q9.keepN (s.same hB) zI;clear q7 L R j3 j h3 q9;generalize m:(decide (p+1<=200) && decide (d<=24) && eQ (iQ n) (show F (T n) from t))=ok;cases ok with
 | false=>
  have HP:G (pw (n+1) t d p u w (Zr (Zb false)) w1):=by
   refine⟨s,false,D,λh=>eI,λ_=>?_⟩;rintro ⟨q6,hc⟩;simp only[c7,Qc,Qk]at q6;have ha:eQ (iQ n) (show F (T n) from t)=true:=q6.1.2;have:p+1<=200:=by simp only[cJ]at hc;omega
   rw[ha,QK q6.1.1,QK this]at m;cases m
  clear m;exact ow
 | true=>
  simp only[Qc,Qk]at m;have aa:G ((decide (d<=24) && eQ (iQ n) (show F (T n) from t))=true):=by show _=_;rw[m.2,QK m.1.2];rfl
  obtain⟨⟨ag,aq⟩,-⟩:=m;go_wp2_with fail;refine H (K6 _ _ _ _ ⟨_,_,_,D⟩ _) ?_;rintro e ql ⟨rfl,z⟩;have qc:cH u w ql:=s.trans (cH.of_below z);have aj:k6 ql u (p+1):=j2.keep z;have aw:=z.size;have h5:=y.keepN ((cH.of_below (bb:=u) z).same (λb hb=>pf)) zI;clear y z W s j2 k0 k1 k2 k3 k4;obtain⟨_,_,af,-,l⟩:=h5;cases af
  go_wp2;go_loopw [18] (λi wr=>∃ k:Nat,k<=J (F.o t)/\i=I U k/\cH u ql wr/\k6 wr u (p+1+(cG (λx=>cJ n x) ((F.o t).take k):Int)) /\
    p+1+(cG (λx=>cJ n x) ((F.o t).take k):Int)<=200/\((F.o t).take k).all (λx=>c7 n x (d+1))=true) (λi _=>J (F.o t)-(intOf i).toNat)
  case atStart=>exact⟨0,Q9 _,D,cH.refl _ _,by simpa [cG] using aj,by simpa [cG] using ag,zS⟩
  case round=>
   obtain⟨k,hk,rfl,c,o,a,Q⟩:=hrel;have f:=a8 Q;clear Q;have ax:=c.size;have M:=qc.trans c;have an:=o.lt;by_cases qf:k<J (F.o t)
   .obtain⟨b,off,rfl,ac,K⟩:=l nS;have⟨x0,x1,x2,x3,x4,e0,e1,e2,e3,e4,hr⟩:=K k qf;have B:=hB b ac;have f0:=c.cell e0 B.2;have f1:=c.cell e1 B.2;have f2:=c.cell e2 B.2;have f3:=c.cell e3 B.2;have f4:=c.cell e4 B.2;have q:=hr.keep (c.same (λb hb=>pf)) zI;obtain⟨y0,y1,y2,ya,yl,yc,za,zl,zc,rfl,rfl,rfl,rfl,rfl⟩:=q.shape;clear l K e0 e1 e2 e3 e4 hr;have V:=(Qg wr.heap.size wr).alloc (QD _) (UB y0 y1 y2 ya yl yc za zl zc);have N:cH u wr (wr.alloc (UB y0 y1 y2 ya yl yc za zl zc)):=cH.of_below V;have q5:=q.keep (N.same (λb hb=>pf)) zI;have C:=g.keep (M.trans N) (o.keep V);have q7:G (WU WV 92 _ _ _):=hn S (F.o t)[k] _ _ _ _ _ (d+1) _ u bb bk _ q5 (λb hb=>y8) C (ab k qf) E a E E;have v:=@ME n t d p k qf;have xC:G (cG (λx=>cJ n x) ((F.o t).take (k+1))=cG (λx=>cJ n x) ((F.o t).take k)+cJ n (F.o t)[k]):=dw _ qf;clear q q5 C V;unfold clN at q7;go_wp2_with fail;refine H q7 ?_;rintro e w3 ⟨X,r,rfl,O,q8⟩;have P:=c.trans (N.trans X);cases r with
    | false=>have HP:G (pw (n+1) t d p u w (Zr (Zb false)) w3):=⟨qc.trans P,false,D,λh=>eI,λ_=>v (q8 D)⟩;clear v q8 O xC f X P N M;exact ow
    | true=>
     have⟨q6,hc,vp⟩:=O D;have HR:G (cH u ql w3/\k6 w3 u (p+1+(cG (λx=>cJ n x) ((F.o t).take (k+1)):Int))/\p+1+(cG (λx=>cJ n x) ((F.o t).take (k+1)):Int)<=200/\((F.o t).take (k+1)).all (λx=>c7 n x (d+1))=true):=by
      refine⟨P,?_,?_,Au qf f q6⟩;·exact Tu
      .rw[xC.out];omega
     clear v q8 O xC f X P N M q6 hc vp o a;exact Yx
   .have qa:k=J (F.o t):=E;have HP:G (pw (n+1) t d p u w (Zr (Zb true)) wr):=by have h1:=f.out;rw[qa,QG]at h1 o a;have e:p+1+(cG (λx=>cJ n x) (F.o t):Int)=p+(cJ (n+1) t:Int):=Cn;rw[e]at o a;exact⟨M,true,D,λ_=>⟨by have:=aa.out;simp only[c7,this,h1,ZV],a,o⟩,λh=>eI⟩
    clear qa l f M o a;exact ow
def MD:∀n,tm n:=by
 intro n;induction n with
 | zero=>intro S t c0 c1 c2 c3 c4 d p f c e w a;exact a.elim
 | succ n b=>exact IB b
def Rx (i:Int) (k : -9223372036854775808<=i) (m:i<=9223372036854775807) (c:iK B w0 w v l) (h:J l<=1000000)
  (f:Lib.TabBelow WV B w "internal/strconv.uint64pow10" .u64 Lib.pow10Tab) :
  WU WV 202 #[v,I U i,I U 10] w λe j=>∃g,e=Zr g/\iK B w0 j g (l++W6 i):=by refine H (Tryz.strconv_AppendInt_10 B (J l) i k m v (Lib.byteCells l) w c.own c.le E f) ?_;rintro e j ⟨g,rfl,d,a,b⟩;refine⟨g,D,?_,c.below.trans a,Q1 c.le a.size,c.kept.trans b⟩;rw[Qi,Lib.byteCells_append];exact d
def AN(R:pp n):pp (n+1):=by
 intro S t c0 c1 c2 c3 c4 d w Y hB L hc;have Q:∀(v:Zv)(w:Zw),True:=zS;clear Q;obtain⟨rfl,rfl,rfl,ql,-,-,h3,h4⟩:=Y;obtain⟨na,nc,rfl,-,-,-⟩:=id h3;obtain⟨q,r,rfl,-,-⟩:=id h4;simp only[cS,Qc]at L;have ha:cM (F.k t) (F.n t) (F.a t) (F.q t) (J (F.o t))=true:=L.1.2;have z:1+cG (λx=>cJ n x) (F.o t)<=120:=J3;have o:F.k t=1∨F.k t=2∨F.k t=3∨F.k t=4∨F.k t=5∨F.k t=6:=by exact Ts
 generalize T:F.k t=s at *;have p:=a8 T;clear T ha;have g:=(Qg w.heap.size w).alloc E (UA s (F.n t) (F.a t) na (J (F.q t)) nc q (J (F.o t)) r);have C:=nT.new w (I U s) (I U (F.n t)) (Zt (F.a t)) (A na (J (F.q t)) nc) (A q (J (F.o t)) r) 31;have M:=h3.keep (b6 g hB) zI;have u:=h4.keepT (b6 g hB) zI;have l:G (∀ W,Below (w.alloc (UA s (F.n t) (F.a t) na (J (F.q t)) nc q (J (F.o t)) r)).heap.size (w.alloc (UA s (F.n t) (F.a t) na (J (F.q t)) nc q (J (F.o t)) r)) W ->
   W.heap.size=w.heap.size+1->WU WV 159 #[A q (J (F.o t)) r] W λe k=>∃i m j,e=Zr (A i m j)/\Bw w k/\a7 k w.heap.size 3=Z (A na (J (F.q t)) nc) /\
    cR (λb=>S b∨(w.heap.size<=b/\b<k.heap.size)) k (F.q t) (A na (J (F.q t)) nc)/\fB (λb=>S b∨(w.heap.size<=b/\b<k.heap.size)) k (dL (λb=>S b∨(w.heap.size<=b/\b<k.heap.size)) k n) (F.o t) (A i m j)):=by
  intro W P V
  have O:∀b,S b->b<(w.alloc (UA s (F.n t) (F.a t) na (J (F.q t)) nc q (J (F.o t)) r)).heap.size:=λb hb=>y8
  have N:=u.keepT (b6 P O) zI
  refine H (AO n R S (F.o t) _ (d+1) W N (fP hB) L.2 z) ?_
  rintro e k ⟨hb,qc,rfl,a⟩
  obtain⟨i,j,rfl,-⟩:=id a
  have y:=(b9 g zS P).trans (hb.mono E)
  refine⟨_,_,_,D,y,(C.keep (P.trans (hb.mono zE))).c3,?_,?_⟩
  .exact h3.keep (b6 y hB) FL
  .exact a.keep ik IF (λ_ _ _ qa=>qa.keep ik IF)
 have c:G (∀v W,Bw w W->dL (λb=>S b∨(w.heap.size<=b/\b<W.heap.size)) W (n+1) t v->Bm S (n+1) t w (Zr v) W):=λv W hb qq=>⟨hb,v,D,qq⟩;clear h3 h4 M u C R L hc z;rcases o with rfl|rfl|rfl|rfl|rfl|rfl;·clear l;go_in;go_wp2;go_ret;exact c _ _ g (.inl ⟨p,D⟩)
 .clear l;go_in;go_wp2;go_ret;exact c _ _ g (.inr (.inl ⟨p,D⟩))
 .clear l;go_in;go_wp2;go_ret;exact c _ _ g (.inr (.inr (.inl ⟨p,D⟩)))
 .go_in;go_wp2_with fail;refine H (l _ (Qg _ _) zS) ?_;rintro e K ⟨i,m,j,rfl,f,-,-,a⟩;have HP:=c.out (.iface 125 (A i m j)) K f (.inr (.inr (.inr (.inl ⟨p,_,D,a⟩))));have zq:G _:=HP;clear HP a l f;exact Cs
 .go_in;go_wp2_with fail;go_region_with (go_at_call 159;refine H (l _ ((Qg _ _).drew) zS) ?_;rintro e K ⟨i,m,j,rfl,f,X,B,a⟩);all_goals
   have HP:=c.out (.iface 128 (Za #[A na (J (F.q t)) nc,A i m j])) K f (.inr (.inr (.inr (.inr (.inl ⟨p,_,_,D,B,a⟩)))))
   have zq:G _:=HP
   clear HP a f B
   exact Cs
 .go_in;go_wp2_with fail;refine H (l _ (Qg _ _) zS) ?_;rintro e K ⟨i,m,j,rfl,f,-,-,a⟩;have HP:=c.out (.iface 129 (A i m j)) K f (.inr (.inr (.inr (.inr (.inr ⟨p,_,D,a⟩)))));have zq:G _:=HP;clear HP a l f;exact Cs
def Dn:∀n,pp n:=by
 intro n;induction n with
 | zero=>intro S t c0 c1 c2 c3 c4 d w a;exact a.elim
 | succ n b=>exact AN b
def Nf(S:ZN)(n:Nat)(t:T n)(w:Zw)(e:Ending)(w':Zw):Prop:=
 Bw w w' /\ ((dB n t=true/\∃v,e=Zr (Zu #[v,Zb true])/\dL (λb=>S b∨(w.heap.size<=b/\b<w'.heap.size)) w' n t v)∨(dB n t=false/\e=Zr (Zu #[.nilIface,Zb false])))
def AH {t:T n} (o:cT S w n t c0 c1 c2 c3 c4) (K:Bd S w) :
  WU WV 61 #[Za #[c0,c1,c2,c3,c4]] w (Nf S n t w):=by
 obtain⟨q,r,s,u,y,x,z,C,B,rfl,rfl,rfl,rfl,rfl⟩:=o.shape;have d:=(Qg w.heap.size w).alloc E (UA q r s u y x z C B);have l:=nT.new w (I U q) (I U r) (Zt s) (A u y x) (A z C B) 31;have⟨g,c⟩:=o.step K d;clear o;go_in;go_wp2_with fail;refine H (rt n S t _ _ _ _ _ _ g c) ?_;rintro e w1 ⟨rfl,b⟩;have a:=b9 d zS b;have⟨k,i⟩:=g.step c b;have⟨P,Q,R,k3,k4⟩:=l.keep b;have L:=a.size;clear d b l g c;cases hok:dB n t with
 | false=>have HP:G (Nf S n t w (Zr (Zu #[.nilIface,Zb false])) w1):=⟨a,zE⟩;clear hok;exact z7
 | true=>
  have m:=a8 hok;simp only[dB,Qc,Qk]at hok;have p:=a8 (Dn n S t _ _ _ _ _ 1 w1 k i hok.1 hok.2);clear hok k i;go_wp2_with fail;refine H p ?_;rintro e O ⟨j,v,rfl,f⟩;obtain⟨M,N,rfl⟩:=id f.iface;have HP:G (Nf S n t w (Zr (Zu #[.iface M N,Zb true])) O):=
   ⟨b9 a a.size j,.inl ⟨m,_,D,f.keep ik IF⟩⟩
  clear j f p;exact z7
def uO (B:Nat) (w:Zw):Prop:=Lib.TabBelow WV B w "internal/strconv.uint64pow10" .u64 Lib.pow10Tab
def pn(n:Nat):Prop:=∀(B:Nat)(w0 w:Zw)(v:Zv)(l:List UInt8)(t:T n)(a:Zv)(d:Int),iK B w0 w v l->dL (λb=>b<B) w n t a->cS n t d=true->cJ n t<=120->J l+J (cK n t)<=20000->uO B w ->
 WU WV 167 #[v,a] w λe f=>∃c,e=Zr c/\iK B w0 f c (l++cK n t)
def uO.on(h:uO B w)(a:Below B w w'):uO B w':=Lib.TabBelow.on h a
def gy{l':List UInt8}(h:iK B w0 w v l)(e:l=l'):iK B w0 w v l':=e ▸ h
def wP (j0:pn n) {ks:List (T n)} (q9:iK B w0 w v l) (hr:fB (λb=>b<B) w (dL (λb=>b<B) w n) ks kv)
  (hg:ks.all (λx=>cS n x d)=true) (hc:1+cG (λx=>cJ n x) ks<=120) (hl:J l+J (cX (ks.map (cK n)))+2<=20000) (q5:uO B w) :
  WU WV 204 #[v,kv] w λe w'=>∃qa,e=Zr qa/\iK B w0 w' qa (l++(91 :: cX (ks.map (cK n))++[93])):=by
 obtain⟨ao,cap,rfl,L,o⟩:=hr;unfold WX at L;obtain⟨va,vn,vc,rfl⟩:=q9.shape;have qc:G (∀k (h:k<J ks),cS n ks[k] d=true/\cJ n ks[k]<=120):=λk h=>by exact MM
 have s:G (∀k,J (cX ((ks.map (cK n)).take k))<=J (cX (ks.map (cK n)))):=λk=>ii _ k;have X:=a8 q9;clear hg;go_in;go_wp2_with (at_builtin;refine dP D (.tmp 7) (.tmp 8) D B (A va vn vc) l D w w 91 91 D q9.here D E ?_;intro v1 w1 z;obtain⟨ac,ag,ae,rfl⟩:=z.shape;refine XE ?_);refine QJ ?_;go_wp2;go_loopw [0,12] (λa i wr=>∃k:Nat,k<=J ks/\i=I U k/\iK B w wr a (l++[91]++cX ((ks.map (cK n)).take k))) (λ_ i _=>J ks-(intOf i).toNat);case atStart=>exact⟨0,E,D,gy z (by simp[cX])⟩
 case round=>
  obtain⟨k,hk,rfl,p⟩:=hrel;obtain⟨N,R,P,rfl⟩:=p.shape;have ab:=s.out k;by_cases qf:k<J ks
  .obtain⟨b,off,rfl,q8,C⟩:=o nS;have⟨c,qq,t⟩:=C k qf;obtain⟨ku,kx,rfl⟩:=t.iface;have f0:=kC p.below qq q8;have r:=qc.out k qf;have M:k<J (ks.map (cK n)):=sY;have V:G (cX ((ks.map (cK n)).take (k+1))=(if k=0 then [] else cX ((ks.map (cK n)).take k)++[44])++cK n ks[k]):=by show _=_;rw[fW M];simp
   have u:G (∀W,Below B w W->dL (λb=>b<B) W n ks[k] (.iface ku kx)):=λW q7=>t.keep (b6 q7 zI) zI;clear o C qq t M;have g:G _:=p;clear p;rcases Xa k with rfl|aa
   .rw[QC]at f0;go_wp2_with fail;refine H (j0 B w wr _ _ ks[0] _ d g (u _ g.below) r.1 r.2 (by have y:=s.out (0+1);rw[V.out]at y;simp[cX]at y ⊢;omega) (q5.on g.below)) ?_;rintro e w2 ⟨v2,rfl,j⟩;obtain⟨O,S,Q,rfl⟩:=j.shape;have HF:=gy j (l':=l++[91]++cX ((ks.map (cK n)).take (0+1))) (by rw[V.out];simp[cX]);have q6:G _:=HF;clear j f0 HF;go_wp2;go_roundw;case rel=>exact⟨0+1,E,ew,q6⟩
    case measure=>exact eb
   .have ql:decide ((0:Int)<(k:Int))=true:=zE;go_wp2_with (at_builtin;refine dP D (.tmp 19) (.tmp 20) D B (A N R P) _ D w wr 44 44 D g.out D zE ?_;intro v3 F m;obtain⟨O,S,Q,rfl⟩:=m.shape;refine XE ?_);refine QJ ?_;have q:G _:=m;clear m;go_wp2_with fail;refine H (j0 B w F _ _ ks[k] _ d q (u _ q.below) r.1 r.2 (by have y:=s.out (k+1);rw[V.out,Qd E]at y;simp at y ⊢;omega) (q5.on q.below)) ?_;rintro e w2 ⟨v2,rfl,j⟩;obtain⟨ad,ah,af,rfl⟩:=j.shape;have HF:G _:=gy j (l':=l++[91]++cX ((ks.map (cK n)).take (k+1))) (by rw[V.out,Qd E];simp);clear j f0 q g;go_wp2;exact FU
  .have K:k=J ks:=E;have g:=a8 (gy p (by rw[K,<- Qv (f:=cK n),QG]));clear o p K;go_wp2_with (at_builtin;refine dP D (.tmp 26) (.tmp 27) D B (A N R P) _ D w wr 93 93 D g.out D zE ?_;intro v3 F m;obtain⟨O,S,Q,rfl⟩:=m.shape;refine XE ?_);refine QJ ?_;have HF:G _:=gy (m.from X) (l':=l++(91 :: cX (ks.map (cK n))++[93])) zS;clear m g;go_wp2;go_ret;exact⟨_,D,HF⟩
def uP (V:pn n) {o:List (T n)} (j:iK B w0 w v l) (ql:fB (λb=>b<B) w (dL (λb=>b<B) w n) o kv)
  (C:o.all (λx=>cS n x d)=true) (R:1+cG (λx=>cJ n x) o<=120) (S:J l+J (gA (cK n) o)<=20000) (Q:uO B w) :
  WU WV 206 #[v,kv] w λe N=>∃t,e=Zr t/\iK B w0 N t (l++gA (cK n) o):=by
 obtain⟨ao,cap,rfl,h,f⟩:=ql;unfold WX at h;obtain⟨q9,qq,q8,rfl⟩:=j.shape;cases o with
 | nil=>rw[Q0];simp only[gA,Qs,Q0]at S;go_in;go_wp2_with (at_builtin;refine dP D (.tmp 8) (.tmp 9) D B (A q9 qq q8) l D w0 w 126 126 D j D E ?_;intro p w1 a;obtain⟨K,M,L,rfl⟩:=a.shape;refine XE ?_);refine QJ ?_;have y:G _:=a;clear a j;go_wp2;go_ret;exact⟨_,D,y⟩
 | cons k r=>
  obtain⟨b,off,rfl,q,s⟩:=f zS;have⟨c,P,g⟩:=s 0 zS;rw[QC]at P;rw[XY]at g;obtain⟨X,q6,rfl⟩:=g.iface;rw[Qs]at h ⊢;have q7:(((J r:Nat):Int)+1==0)=false:=zE;simp only[gA,Qs]at S;simp only[ZW,Qc]at C;simp only[cG]at R;have j0:=j.le;have O:=a8 j.here;have u:=a8 j;have q5:G (∀(W:Zw)(p:Zv),iK B w W p (l++[63])->WU WV 167 #[p,.iface X q6] W λe N=>∃t,e=Zr t/\iK B w N t (l++[63]++cK n k)):=λW p z=>V B w W p _ k _ d z (g.keep (b6 z.below zI) zI) C.1 E zE (Q.on z.below);have i:G (∀W,Below B w W->a7 W b off=Z (.iface X q6)):=λW qa=>kC qa P q;clear f s g V Q C R j;have F:b<w.heap.size:=by have:b<B:=q;omega
  go_in;go_wp2_with fail;go_region_law (first
   | (refine A5 D (.tmp 11) (.tmp 12) D B (A q9 qq q8) l D w 63 (by first|exact (O.alloc _).drew|exact O.drew.alloc _) w.heap.size D ke E ?_;intro p w1 a;obtain⟨K,M,L,rfl⟩:=a.shape;have qc:=i.out _ a.below)
   | (go_simp;go_at_call 167;refine H (q5 _ _ (by first|assumption|exact iK.drew nM)) ?_;rintro e w2 ⟨v2,rfl,m⟩;obtain⟨aa,ac,ab,rfl⟩:=m.shape))
  all_goals
   have HF:G _:=gy (m.from u) (l':=l++gA (cK n) (k :: r)) (by simp[gA])
   clear m
   go_wp2
   go_ret
   exact⟨_,D,HF⟩
def wO (hn:pn n) {nv:Zv} {ks:List (T n)} (hN:cR (λb=>b<B) w ns nv) (F:J ns=J ks) (ad:∀ s,s∈ns->s.size<=8)
  (hb:iK B w0 w v l) (hr:fB (λb=>b<B) w (dL (λb=>b<B) w n) ks kv)
  (hg:ks.all (λx=>cS n x d)=true) (hc:1+cG (λx=>cJ n x) ks<=120) (hl:J l+J (cX (dh ns (ks.map (cK n))))+2<=20000) (hT:uO B w) :
  WU WV 205 #[v,nv,kv,.func (.func 167) #[] #[]] w λe w'=>∃v',e=Zr v' /\ iK B w0 w' v' (l++(123 :: cX (dh ns (ks.map (cK n)))++[125])):=by
 obtain⟨ao,cap,rfl,qa,r⟩:=hr;obtain⟨no,an,rfl,-,-,g⟩:=hN;unfold WX at qa;obtain⟨va,vn,vc,rfl⟩:=hb.shape;have ap:=hb.le;have HG:G (∀k (h:k<J ks),cS n ks[k] d=true/\cJ n ks[k]<=120):=λk h=>by exact MM
 have O:G (∀k,J (cX ((dh ns (ks.map (cK n))).take k))<=J (cX (dh ns (ks.map (cK n))))):=λk=>ii _ k;have vg:=a8 F;have q6:=a8 hb;clear hg F;go_in;go_wp2_with (at_builtin;refine dP D (.tmp 11) (.tmp 12) D B (A va vn vc) l D w w 123 123 D q6.here D E ?_;intro v1 w1 P;obtain⟨av,ax,aw,rfl⟩:=P.shape;refine XE ?_);refine QJ ?_;have q9:G _:=P;clear P;go_wp2;go_loopw [0,16] (λa i wr=>∃k:Nat,k<=J ks/\i=I U k/\iK B w wr a (l++[123]++cX ((dh ns (ks.map (cK n))).take k))) (λ_ i _=>J ks-(intOf i).toNat);case atStart=>exact⟨0,Q9 _,D,gy q9 (by simp[cX])⟩
 case round=>
  obtain⟨k,hk,rfl,t⟩:=hrel;obtain⟨C,L,K,rfl⟩:=t.shape;have au:=O.out k;clear q9;by_cases qf:k<J ks
  .obtain⟨b,off,rfl,ac,q5⟩:=r nS;have⟨c,e0,Q⟩:=q5 k qf;obtain⟨ku,kx,rfl⟩:=Q.iface;have f0:=kC t.below e0 ac;have z:=HG.out k qf;have y:k<J ns:=by rw[vg.out];exact qf
   obtain⟨nb,q7,rfl,ae,qc⟩:=g (by intro h;rw[h]at y;simp at y);have al:=ad ns[k] (QE y);have N:G (∀W,Below B w W->W.cell? ⟨nb,q7+k,Y⟩=Z (Zt ns[k])):=λW hW=>kC hW (qc k y) ae;have R:k<J (dh ns (ks.map (cK n))):=by rw[eY _ _ Cp];simpa using qf
   have HS:G (cX ((dh ns (ks.map (cK n))).take (k+1))=(if k=0 then [] else cX ((dh ns (ks.map (cK n))).take k)++[44])++(ns[k].data.toList++58 :: cK n ks[k])):=by show _=_;rw[fW R,pm ns (ks.map (cK n)) k y sY R,Xe]
   have q8:G (∀W,Below B w W->dL (λb=>b<B) W n ks[k] (.iface ku kx)):=λW hW=>Q.keep (b6 hW zI) zI;have am:ns[k].data.toList.length=ns[k].size:=zS;clear r q5 e0 Q R g qc;have j:G _:=t;clear t;rcases Xa k with rfl|ar
   .rw[QC]at f0;rw[QC]at N;generalize ns[0]=nm at *;have M:G _:=j.out;have q0:=N.out _ M.below;go_wp2_with (at_builtin;refine fY D (.tmp 26) (.tmp 30) 9 D underlying9 B (A C L K) _ D w M.out nm D (by simp[cX];omega) ?_;intro v5 w5 o;obtain⟨S,X,V,rfl⟩:=o.shape;refine XE ?_);refine QJ ?_;have u:G _:=o;clear o M q0 j f0;go_wp2_with (at_builtin;refine dP D (.tmp 32) (.tmp 33) D B (A S X V) _ D w w5 58 58 D u.out D (by simp[cX];omega) ?_;intro v6 w6 p;obtain⟨af,aj,ah,rfl⟩:=p.shape;refine XE ?_);refine QJ ?_;have f:G _:=p;clear p u;go_wp2_with fail;refine H (hn B w w6 _ _ ks[0] _ d f (q8 _ f.below) z.1 z.2 (by have qq:=O.out (0+1);rw[HS.out]at qq;simp[cX]at qq ⊢;omega) (hT.on f.below)) ?_;rintro e w7 ⟨v7,rfl,q⟩;obtain⟨ag,ak,ai,rfl⟩:=q.shape;have HF:G _:=gy q (l':=l++[123]++cX ((dh ns (ks.map (cK n))).take (0+1))) (by rw[HS.out];simp[cX]);clear q f;go_wp2;go_roundw;case rel=>exact⟨0+1,E,ew,HF⟩
    case measure=>exact eb
   .have aq:decide ((0:Int)<(k:Int))=true:=QK E;generalize ns[k]=nm at *;go_wp2_with (at_builtin;refine dP D (.tmp 23) (.tmp 24) D B (A C L K) _ D w wr 44 44 D j.out D zE ?_;intro v3 w3 m;obtain⟨ql,ab,aa,rfl⟩:=m.shape;refine XE ?_);refine QJ ?_;have M:G _:=m;clear m;have q0:=N.out _ M.below;go_wp2_with (at_builtin;refine fY D (.tmp 26) (.tmp 30) 9 D underlying9 B (A ql ab aa) _ D w M.out nm D zE ?_;intro v5 w5 o;obtain⟨S,X,V,rfl⟩:=o.shape;refine XE ?_);refine QJ ?_;have u:G _:=o;clear o M q0 j f0;go_wp2_with (at_builtin;refine dP D (.tmp 32) (.tmp 33) D B (A S X V) _ D w w5 58 58 D u.out D zE ?_;intro v6 w6 p;obtain⟨af,aj,ah,rfl⟩:=p.shape;refine XE ?_);refine QJ ?_;have f:G _:=p;clear p u;go_wp2_with fail;refine H (hn B w w6 _ _ ks[k] _ d f (q8 _ f.below) z.1 z.2 (by have qq:=O.out (k+1);rw[HS.out,Qd E]at qq;simp at qq ⊢;omega) (hT.on f.below)) ?_;rintro e w7 ⟨v7,rfl,q⟩;obtain⟨ag,ak,ai,rfl⟩:=q.shape;have HF:G _:=gy q (l':=l++[123]++cX ((dh ns (ks.map (cK n))).take (k+1))) (by rw[HS.out,Qd E];simp);clear q f;go_wp2;exact FU
  .have j0:k=J ks:=E;have j:G (iK B w wr (A C L K) (l++[123]++cX (dh ns (ks.map (cK n))))):=gy t (by
    have e:J ks=J (dh ns (ks.map (cK n))):=by rw[eY _ _ Cp];simp
    rw[j0,e,QG])
   clear r t j0 g;go_wp2_with (at_builtin;refine dP D (.tmp 40) (.tmp 41) D B (A C L K) _ D w wr 125 125 D j.out D zE ?_;intro v3 w3 m;obtain⟨ql,ab,aa,rfl⟩:=m.shape;refine XE ?_);refine QJ ?_;have HF:G _:=gy (m.from q6) (l':=l++(123 :: cX (dh ns (ks.map (cK n)))++[125])) zS;clear m j;go_wp2;go_ret;exact⟨_,D,HF⟩
def wQ {x:Int} (a:iK B w0 w v l) (g : -999999999<=x) (h:x<=999999999) (i:J l<=20000) (b:uO B w) :
  WU WV 167 #[v,.iface 120 (I U x)] w λe f=>∃d,e=Zr d/\iK B w0 f d (l++W6 x):=by have c:=Tryz.yes_num;obtain⟨j,m,k,rfl⟩:=a.shape;have HQ:=a8 (Rx x E E a E b);clear a b;exact qcT
def uT (h:iK B w0 w v l) (P:x.size<=60) (O:J l<=20000) :
  WU WV 167 #[v,.iface 121 (Zt x)] w λe M=>∃s,e=Zr s/\iK B w0 M s (l++(34 :: x.data.toList++[34])):=by have q:=Tryz.no_num_text;have r:=Tryz.yes_text;obtain⟨u,K,z,rfl⟩:=h.shape;have t:J x.data.toList=x.size:=zS;have p:G _:=h;clear h;go_in;go_wp2_with (at_builtin;refine dP D (.tmp 21) (.tmp 22) D B (A u K z) _ D w0 w 34 34 D p.out D E ?_;intro Q w1 a;obtain⟨i,n,k,rfl⟩:=a.shape;refine XE ?_);refine QJ ?_;have d:G _:=a;clear a p;go_wp2_with (at_builtin;refine fY D (.tmp 24) (.tmp 25) 121 D underlying121 B (A i n k) _ D w0 d.out x D zE ?_;intro R N b;obtain⟨j,o,m,rfl⟩:=b.shape;refine XE ?_);refine QJ ?_;have f:G _:=b;clear b d;go_wp2_with (at_builtin;refine dP D (.tmp 27) (.tmp 28) D B (A j o m) _ D w0 N 34 34 D f.out D zE ?_;intro v3 S c;obtain⟨y,L,C,rfl⟩:=c.shape;refine XE ?_);refine QJ ?_;have g:G _:=gy c (l':=l++(34 :: x.data.toList++[34])) zS;clear c f;go_wp2;go_ret;exact⟨_,D,g⟩
def CX(x:Bool)(w:Zw):WU WV 203 #[Zb x] w λe a=>e=Zr (Zt (bs (if x=true then [121,101,115] else [110,111])))/\w=a:=by
 cases x
 all_goals
  exact Fz
def uQ (x:Bool) (f:iK B w0 w v l) (K:J l<=20000) :
  WU WV 167 #[v,.iface 123 (Zb x)] w λe h=>∃n,e=Zr n/\iK B w0 h n (l++(if x=true then [121,101,115] else [110,111])):=by
 have j:=Tryz.no_num_flag;have k:=Tryz.no_text_flag;have m:=Tryz.yes_flag;obtain⟨o,q,p,rfl⟩:=f.shape;have i:G _:=f;have g:J (if x=true then [121,101,115] else [110,111]:List UInt8)<=3:=by split<;>simp
 have r:G (∀u:List UInt8,u=(if x=true then [121,101,115] else [110,111])->iK B w0 w (A o q p) l):=zE;obtain⟨a,c⟩:∃a:List UInt8,a=(if x=true then [121,101,115] else [110,111]):=⟨_,D⟩;rw[<- c]at g ⊢;have HQ:G (WU WV 203 #[Zb x] w λe h=>e=Zr (Zt (bs a))/\w=h):=by rw[c];exact CX x w
 have t:=dG a;have s:=fG a;clear f c r;go_in;go_wp2_with fail;refine H HQ ?_;rintro e w1 ⟨rfl,rfl⟩;go_wp2_with (at_builtin;refine fY D (.tmp 33) (.tmp 35) 9 D underlying9 B (A o q p) _ D w0 i.out (bs a) D E ?_;intro L M b;obtain⟨y,C,z,rfl⟩:=b.shape;refine XE ?_);refine QJ ?_;have d:G _:=gy b (l':=l++a) (by rw[fG]);clear b i;go_wp2;go_ret;exact⟨_,D,d⟩
def uS (hb:iK B w0 w v l) (HQ:G (WU WV 204 #[v,A ka kl kc] w λe b=>∃ a,e=Zr a/\iK B w0 b a r)) :
  WU WV 167 #[v,.iface 125 (A ka kl kc)] w λe b=>∃a,e=Zr a/\iK B w0 b a r:=by have c:=Tryz.no_num_list;have d:=Tryz.no_text_list;have f:=Tryz.no_flag_list;have g:=Tryz.yes_list;exact P1
def uR {b:Nat} (hb:iK B w0 w v l)
  (HQ:G (WU WV 205 #[v,A na b nc,A ka kl kc,.func (.func 167) #[] #[]] (w.alloc (Zc #[A na b nc,A ka kl kc] 128)) λe c=>∃a,e=Zr a/\iK B w0 c a r)) :
  WU WV 167 #[v,.iface 128 (Za #[A na b nc,A ka kl kc])] w λe c=>∃a,e=Zr a/\iK B w0 c a r:=by have d:=Tryz.no_num_form;have f:=Tryz.no_text_form;have g:=Tryz.no_flag_form;have h:=Tryz.no_list_form;have i:=Tryz.yes_form;exact P1
def tu (hb:iK B w0 w v l) (HQ:G (WU WV 206 #[v,A ka kl kc] w λe b=>∃ a,e=Zr a/\iK B w0 b a r)) :
  WU WV 167 #[v,.iface 129 (A ka kl kc)] w λe b=>∃a,e=Zr a/\iK B w0 b a r:=by have c:=Tryz.no_num_maybe;have d:=Tryz.no_text_maybe;have f:=Tryz.no_flag_maybe;have g:=Tryz.no_list_maybe;have h:=Tryz.no_form_maybe;have i:=Tryz.yes_maybe;exact P1
def Nx(o:pn n):pn (n+1):=by
 intro B w0 w v l t y d e h s hc g m;have b:=s;simp only[cS,Qc]at b;have a:cM (F.k t) (F.n t) (F.a t) (F.q t) (J (F.o t))=true:=b.1.2;have j:1+cG (λx=>cJ n x) (F.o t)<=120:=J3;unfold cM at a;simp only[cK]at g ⊢;rcases h with ⟨c,rfl⟩|⟨c,rfl⟩|⟨c,rfl⟩|⟨c,r,rfl,i⟩|⟨c,z,r,rfl,k,i⟩|⟨c,r,rfl,i⟩;·rw[Qm c]at a g ⊢;simp only[Qc,Qk]at a;exact wQ e a.1.1.1.1 a.1.1.1.2 E m
 .rw[Qd E,Qm c]at a g ⊢;simp only[Qc,eW,Qk]at a;exact uT e a.1.1.2.1 E
 .rw[Qd E,Qd E,Qm c]at g ⊢;have:=uQ (F.n t==1) e E;exact iG
 .rw[Qd E,Qd E,Qd E,Qd E,Qd E]at g ⊢;obtain⟨p,q,rfl,-⟩:=id i;simp only[Qi,Qs,Q0]at g;exact uS e (wP o e i b.2 j E m)
 .rw[Qd E,Qd E,Qd E,Qd E,Qm c]at g ⊢;rw[Qd E,Qd E,Qd E,Qd E,Qm c]at a;simp only[Qc,QP]at a;obtain⟨p,q,rfl,-⟩:=id i;obtain⟨na,nc,rfl,-⟩:=id k;simp only[Qi,Qs,Q0]at g;have f:=(Qg B w).alloc e.le (Zc #[A na (J (F.q t)) nc,A p (J (F.o t)) q] 128);exact uR e (wO o (k.keep (b6 f zI) zI) E (ly a.2) (e.alloc _)
   (i.keep (b6 f zI) zI (λ_ _ _ u=>u.keep (b6 f zI) zI)) b.2 j E (m.on f))
 .rw[Qd E,Qd E,Qd E,Qm c]at g ⊢;obtain⟨p,q,rfl,-⟩:=id i;exact tu e (uP o e i b.2 j E m)
def oG:∀n,pn n:=by
 intro n;induction n with
 | zero=>intro B w0 w v l t c d b h;exact h.elim
 | succ n a=>exact Nx a
def JM:∀(n:Nat)(t:T n)(d:Int),cS n t d=true->cK n t≠[]:=by
 intro n t d h;cases n with
 | zero=>simp[cS]at h
 | succ n=>
  simp only[cK];by_cases a:F.k t=1
  .rw[Qm a];intro e;have:J (W6 (F.n t))=0:=by rw[e];rfl
   unfold W6 at this;split at this;·simp at this
   .rw[ZP]at this;unfold Lib.nDigits at this;split at this<;>omega
  rw[Qd a];by_cases b:F.k t=2;·rw[Qm b];simp
  rw[Qd b];by_cases c:F.k t=3;·rw[Qm c];split<;>simp
  rw[Qd c];by_cases g:F.k t=6;·rw[Qm g];cases F.o t<;>simp[gA]
  rw[Qd g];by_cases f:F.k t=5;·rw[Qm f];simp
  rw[Qd f];simp
def mW (w:Zw):Prop:=Lib.TabBelow WV w.heap.size w "internal/strconv.uint64pow10" .u64 Lib.pow10Tab
def mW.step(h:mW w)(a:Bw w w'):mW w':=λc b=>h c (a.trans (b.mono a.size))
def AF (S:ZN) (t:T n) (c0 c1 c2 c3 c4:Zv) (w:Zw) (r:cT S w n t c0 c1 c2 c3 c4) (q:Bd S w) (x:mW w) :
  WU WV 193 #[Za #[c0,c1,c2,c3,c4]] w λe z=>e=Zr (Zt (yU n t))/\Bw w z:=by
 obtain⟨B,C,K,L,N,M,O,Q,P,rfl,rfl,rfl,rfl,rfl⟩:=r.shape;have c:=(Qg w.heap.size w).alloc E (UA B C K L N M O Q P);have j:=r.keep (b6 c q) zI;clear r;go_in;go_wp2_with fail;refine H (AH j (fP q)) ?_;rintro e w1 ⟨g,⟨a,v,rfl,l⟩|⟨a,rfl⟩⟩
 .have hp:=dr a;have i:=b9 c zS g;have s:=g.size;simp at s;have f:=l.keep ik (λb g=>g.elim (λh=>by have:=q b h;omega) (λh=>h.2));obtain⟨R,V,rfl⟩:=id f.iface;have m:=mw n t 1 hp.1;have o:=JM n t 1 hp.1;have u:G (yU n t=bs (cK n t)):=by show _=_;rw[yU,Qm a]
  have HP:=a8 (oG n w1.heap.size w1 w1 (A Y 0 0) [] t _ 1 (iK.nil (QD _)) f hp.1 hp.2 zE (x.step i));have p:=a8 o;clear g a l f c j hp o m;go_wp2_with fail;refine H HP ?_;rintro e U ⟨W,rfl,d⟩;rw[XM]at d;have y:=rn d p;have k:=i.trans (d.below.mono E);obtain⟨X,F,I,rfl⟩:=d.shape;clear d i HP;go_wp2;go_ret;exact⟨hQ u.symm,k⟩
 .have HP:G (yU n t=bs []/\Bw w w1):=⟨by rw[yU,Qd (by rw[a];simp)],b9 c zS g⟩;clear g a c j;go_wp2;go_ret;exact⟨hQ HP.1.symm,HP.2⟩
structure lJ(B wb bk:Nat)(w0 w:Zw)(v:Zv)(l:List UInt8):Prop where
 own:w.ownsRow B 5 1 v (J l) (Lib.byteCells l)
 below:Below B w0 w
 le:B<=w.heap.size
 kept:Lib.OthersKept 5 (Z wb) w0 w
 box:w.heap[wb]?=Z (Zc #[Zp (b5 bk 0),v] 187 (0,0))
 ge:B<=wb
def lJ.here(h:lJ B wb bk w0 w v l):lJ B wb bk w w v l:=⟨h.own,Qg _ _,h.le,Zm _ _ _,h.box,h.ge⟩
def lJ.from{v0:Zv}{b:List UInt8}(h:lJ B wb bk w1 w v l)(a:lJ B wb bk w0 w1 v0 b):lJ B wb bk w0 w v l:=⟨h.own,a.below.trans h.below,h.le,a.kept.trans h.kept,h.box,h.ge⟩
def lJ.buf(h:lJ B wb bk w0 w v l):iK B w w v l:=⟨h.own,Qg _ _,h.le,Zm _ _ _⟩
def G0{e:W9}{b:Option Nat}(h:Lib.OthersKept e Y w w'):Lib.OthersKept e b w w':=λk o a _ c=>h k o a zS c
def L9{x:Zv}(h:w.ownsRow B 5 1 v n xs)(d:w.heap[wb]?=Z o)(l:∀c fz,o≠Zc c 5 fz)(i:Nat):(w.setCell ⟨wb,i,Y⟩ x).ownsRow B 5 1 v n xs:=by
 refine⟨h.1,?_⟩;rcases h.2 with k|⟨g,cap,a,p,b,f,m⟩;·exact .inl k
 .refine .inr ⟨g,cap,a,p,b,?_,m⟩;rw[Qr _ _ _ _ (λe=>?_)];·exact f
  .have j:g=wb:=e;subst j;rw[f]at d;exact l _ _ (XK d).symm
def lJ.took{c:Zv}{d:List UInt8}(h:lJ B wb bk w0 w v l)(a:iK B w w1 c d):lJ B wb bk w0 (w1.setCell ⟨wb,1,Y⟩ c) c d:=by have b:=a.kept wb _ h.box zS z6;exact⟨L9 a.own b z6 1,(h.below.trans a.below).setCell h.ge _,by have:=a.le;simpa using this,(h.kept.trans (G0 a.kept)).setCell _ rfl _,mI b _,h.ge⟩
def lJ.lt(h:lJ B wb bk w0 w v l):wb<w.heap.size:=(Qe.1 h.box).1
def lJ.alloc(h:lJ B wb bk w0 w v l)(o:Obj):lJ B wb bk w0 (w.alloc o) v l:=
 ⟨h.own.alloc o,h.below.alloc h.le o,by have:=h.le;simp;omega,h.kept.alloc o,(Qf _ _ _ h.lt).trans h.box,h.ge⟩
def lJ.drew(h:lJ B wb bk w0 w v l):lJ B wb bk w0 w.drew v l:=
 ⟨h.own.drew,h.below.drew,h.le,h.kept.drew,h.box,h.ge⟩
def lJ.on(h:lJ B wb bk w0 w v l)(a:Bw w w'):lJ B wb bk w0 w' v l:=by
 refine⟨⟨h.own.1,?_⟩,h.below.trans (a.mono h.le),Q1 h.le a.size,h.kept.trans (λk o e _ _=>(a.block k (Qe.1 e).1).trans e),(a.block wb h.lt).trans h.box,h.ge⟩;rcases h.own.2 with f|⟨g,cap,b,j,c,d,i⟩;·exact .inl f
 .exact .inr ⟨g,cap,b,j,c,(a.block g (Qe.1 d).1).trans d,i⟩
def lJ.cells(h:lJ B wb bk w0 w v l):a7 w wb 0=Z (Zp (b5 bk 0))/\a7 w wb 1=Z v/\w.frozen? ⟨wb,1,Y⟩=false:=by have:=h.box;refine⟨?_,?_,?_⟩<;>simp[WY,W7,this]
def oE(B d b:Nat)(w:Zw)(k:Nat)(e:Ending)(w':Zw):Prop:=e=Zr (Zu #[])/\∃c a,lJ B d b w w' c a/\J a=k
def mA (B b y:Nat) (w:Zw) (v:Zv) (l:List UInt8) (s:ZB) (h:lJ B b y w w v l) (Q:J l+1+s.size<=900000) :
  WU WV 192 #[Zp (b5 b 0),Zt s] w (oE B b y w (wk (J l) s.size)):=by
 obtain⟨z,u,C,rfl⟩:=h.buf.shape;obtain⟨-,c1,f1⟩:=h.cells;have r:u=J l:=by
  rcases h.own.2 with ⟨L,q⟩|⟨g,cap,T,L,-⟩;·cases L;exact E
  .cases L;rfl
 by_cases q:J l=0
 .obtain rfl:u=0:=E;have o:=a8 h.buf;have x:G (wk (J l) s.size=s.size/\J l=0):=⟨by simp[wk,q],q⟩;have c:J l+s.size<=1000000:=E;clear q r Q;go_in;go_wp2_with (at_builtin;refine fY D (.tmp 23) (.tmp 24) 9 D underlying9 B (A z 0 C) l D w o.out s D c ?_;intro W w1 a;obtain⟨e,i,f,rfl⟩:=a.shape;refine XE ?_);refine QJ ?_;have n:=h.took a;have k:=a.kept b _ h.box zS z6;have R:a7 w1 b 1=Z (A z 0 C):=by simp[WY,k]
  have S:w1.frozen? ⟨b,1,Y⟩=false:=by simp[W7,k]
  have HP:G (oE B b y w (wk (J l) s.size) (Zr (Zu #[])) (w1.setCell ⟨b,1,Y⟩ (A e i f))):=⟨D,_,_,n,by rw[Qi,x.1,x.2];simp⟩;clear a n h o k;exact JP
 .have V:(0:Int)<(u:Int):=E;have o:=a8 h.buf;have x:G (wk (J l) s.size=J l+1+s.size):=iI E _;have c:J l<=1000000:=E;have j:J (l++[32])+s.size<=1000000:=zE;clear q r Q;go_in;go_wp2_with (at_builtin;refine dP D (.tmp 14) (.tmp 15) D B (A z u C) l D w w 32 32 D o.out D c ?_;intro W w1 a;obtain⟨e,i,f,rfl⟩:=a.shape;refine XE ?_);refine QJ ?_;have n:=h.took a;have k:=a.kept b _ h.box zS z6;have R:a7 w1 b 1=Z (A z u C):=by simp[WY,k]
  have S:w1.frozen? ⟨b,1,Y⟩=false:=by simp[W7,k]
  have K:=a8 n;have p:=a8 n.buf;clear a n h o k;go_wp2_with (at_builtin;refine fY D (.tmp 23) (.tmp 24) 9 D underlying9 B (A e i f) (l++[32]) D _ p.out s D j ?_;intro F P d;obtain⟨M,O,N,rfl⟩:=d.shape;refine XE ?_);refine QJ ?_;have t:=K.took d;have m:=d.kept b _ K.box zS z6;have X:a7 P b 1=Z (A e i f):=by simp[WY,m]
  have I:P.frozen? ⟨b,1,Y⟩=false:=by simp[W7,m]
  have HP:G (oE B b y w (wk (J l) s.size) (Zr (Zu #[])) (P.setCell ⟨b,1,Y⟩ (A M O N))):=⟨D,_,_,t,by rw[Qi,Qi,x.out];simp⟩;clear d t K p m R S;exact JP
def Nl(m:Nat):Prop:=∀(B c a:Nat)(w:Zw)(v:Zv)(l:List UInt8)(t:T m)(c0 c1 c2 c3 c4:Zv)(d:Int),lJ B c a w w v l->b8 (λb=>b<B) w m t c0 c1 c2 c3 c4->lh w a->a<B->c7 m t d=true ->
 wk (J l) (dC m t)<=800000->uO B w->WU WV 156 #[Zp (b5 c 0),Za #[c0,c1,c2,c3,c4]] w (oE B c a w (wk (J l) (dC m t)))
def lB(k x:Nat):k+x<=wk k x:=by unfold wk;split<;>omega
def EJ(d:α->Nat):∀(c:List ZB)(b:List α)(k:Nat),k<=gq d c b k:=by
 intro c;induction c with
 | nil=>intro b k;simp[gq]
 | cons a c e=>
  intro b k;cases b with
  | nil=>simp[gq]
  | cons x r=>rw[gq];have f:=e r (wk (wk k a.size) (d x));have g:=lB (wk k a.size) (d x);have h:=lB k a.size;omega
def lJ.same(h:lJ B wb bk w0 w v l):gw (λb=>b<B) w0 w:=λb a=>h.below.block b a
def GF (hn:Nl m) {n:F (T m)} (h:lJ B wb bk w w v l)
  (h3:cR (λb=>b<B) w n.q (A na (J n.q) nc)) (h4:dn (λb=>b<B) w (b8 (λb=>b<B) w m) n.o (A ka (J n.o) kc)) (ai:J n.q=J n.o) (j2:lh w bk) (N:bk<B)
  (hg:n.o.all (λx=>c7 m x d)=true) (hl:gq (dC m) n.q n.o (J l)<=800000) (hT:uO B w) :
  WU WV 194 #[Zp (b5 wb 0),Uy n.k n.n n.a na (J n.q) nc ka (J n.o) kc] w (oE B wb bk w (wk (gq (dC m) n.q n.o (J l)) 3)):=by
 have⟨W,hW⟩:=fk (w.alloc (UB n.k n.n n.a na (J n.q) nc ka (J n.o) kc));have u:lJ B wb bk w W v l:=by rw[hW];exact h.alloc _
 have y:W.heap[w.heap.size]?=Z (Zc (Uz n.k n.n n.a na (J n.q) nc ka (J n.o) kc) 38 (0,0)):=by rw[hW];exact Xq _ _
 have al:=h.lt;have V:=u.same;have⟨_,_,hv,ag,an,P⟩:=h3.keep V zI;cases hv
 have⟨_,_,hv,ah,Q⟩:=h4.keepN V zI;cases hv
 have qa:=j2.keep (u.below.block bk N);have ae:=hT.on u.below;have HG:G (∀k (h:k<J n.o),c7 m n.o[k] d=true):=λk h=>Qo.1 hg _ zS;have HL:=a8 hl;have q9:=a8 u;have aj:J n.q<=J n.o:=E;have ak:J n.o<=J n.q:=E;have q6:=a8 hW;unfold WX at ag ah;clear hg hl h3 h4 ai j2 hT h V u hW;have⟨q0,q1,q2,q3,q4⟩:=cP y;rw[q6.out]at q0 q1 q2 q3 q4;go_in;go_wp2_with fail;rw[<- q6.out];clear q0 q1 q2 q3 q4;go_loopw [9] (λi wr=>∃(k:Nat)(v':Zv)(r:List UInt8),k<=J n.q/\i=I U k/\lJ B wb bk W wr v' r/\G (gq (dC m) (n.q.drop k) (n.o.drop k) (J r)=gq (dC m) n.q n.o (J l))) (λi _=>J n.q-(intOf i).toNat);case atStart=>exact⟨0,v,l,E,D,q9.here,by rw[Xn,Xn];exact D⟩
 case round=>
  obtain⟨k,v',r,hk,rfl,c,ql⟩:=hrel;have O:=(c.kept w.heap.size _ y zE z6);have⟨z0,z1,z2,z3,z4⟩:=cP O;by_cases qf:k<J n.q
  .obtain⟨b,off,rfl,ad,z⟩:=P nS;have e0:=kC c.below (z k qf) ad;have S:k<J n.o:=E;obtain⟨X,g,rfl,o,q⟩:=Q JY;have⟨d0,d1,d2,d3,d4,k0,k1,k2,k3,k4,R⟩:=q k S;obtain⟨x0,x1,x2,xa,xl,xc,ya,yl,yc,rfl,rfl,rfl,rfl,rfl⟩:=R.shape;have HS:G (gq (dC m) (n.q.drop (k+1)) (n.o.drop (k+1)) (wk (wk (J r) n.q[k].size) (dC m n.o[k]))=gq (dC m) n.q n.o (J l)):=by have:=ql.out;rw[Qy qf,Qy S,gq]at this;exact this
   have qq:=EJ (dC m) (n.q.drop (k+1)) (n.o.drop (k+1)) (wk (wk (J r) n.q[k].size) (dC m n.o[k]));rw[HS.out]at qq;have hL:=HL.out;have g1:=lB (wk (J r) n.q[k].size) (dC m n.o[k]);have g2:=lB (J r) n.q[k].size;have t:=a8 (mA B wb bk wr v' r n.q[k] c.here E);have q7:G (∀j K s,lJ B wb bk wr j K s->J s=wk (J r) n.q[k].size->WU WV 156 #[Zp (b5 wb 0),Uy x0 x1 x2 xa xl xc ya yl yc] j (oE B wb bk j (wk (wk (J r) n.q[k].size) (dC m n.o[k])))):=by intro j K s a p;have f:=a.from c;have:=hn B wb bk j K s n.o[k] _ _ _ _ _ d a.here (R.keep f.same zI) (qa.keep (f.below.block bk N)) N (HG k S) (by rw[p];omega) (ae.on f.below);rw[p]at this;exact this
   have HK:G (∀j K s,lJ B wb bk wr j K s->(a7 j w.heap.size 4=Z (A (b5 X g) (J n.o) kc)/\a7 j X (g+k*5)=Z (I U x0)/\a7 j X (g+k*5+1)=Z (I U x1)/\a7 j X (g+k*5+2)=Z (Zt x2)/\a7 j X (g+k*5+3)=Z (A xa xl xc)/\a7 j X (g+k*5+4)=Z (A ya yl yc))):=by intro j K s a;have f:=a.from c;have af:=cP (f.kept w.heap.size _ y zE z6);exact⟨af.2.2.2.2,kC f.below k0 o,kC f.below k1 o,kC f.below k2 o,kC f.below k3 o,kC f.below k4 o⟩
   have L:=a8 c;clear P Q z q R O qq g1 g2 hL c k0 k1 k2 k3 k4 ql;have am:(k:Int)<(J n.o:Int):=E;generalize n.q[k]=nm at *;go_wp2_with fail;refine H t ?_;rintro e j ⟨rfl,K,s,a,p⟩;have j0:=a8 (q7 j K s a p);have⟨y4,k0,k1,k2,k3,k4⟩:=HK.out j K s a;have q5:=a8 a;clear a t q7 HK z0 z1 z2 z3 z4 e0;go_wp2_with fail;refine H j0 ?_;rintro e w3 ⟨rfl,v3,l3,q8,M⟩;have ac:=a8 ((q8.from q5).from L);have ab:G (gq (dC m) (n.q.drop (k+1)) (n.o.drop (k+1)) (J l3)=gq (dC m) n.q n.o (J l)):=by show _=_;rw[M];exact HS
   clear q8 j0 y4 k0 k1 k2 k3 k4 q5 L HS M p;go_wp2;go_roundw;case rel=>exact⟨k+1,v3,l3,E,ew,ac,ab⟩
   case measure=>exact eb
  .have qc:k=J n.q:=E;have C:J r=gq (dC m) n.q n.o (J l):=by have:=ql.out;rw[qc,Zz]at this;simpa [gq] using this
   have t:=a8 (mA B wb bk wr v' r ⟨#[101,110,100]⟩ c.here (by rw[C];have:=HL.out;show _+3<=_;omega));have L:=a8 (c.from q9);have aa:=a8 C;clear P Q O c qc C ql z0 z1 z2 z3 z4;go_wp2_with fail;refine H t ?_;rintro e j ⟨rfl,K,s,a,p⟩;have HP:G (oE B wb bk w (wk (gq (dC m) n.q n.o (J l)) 3) (Zr (Zu #[])) j):=⟨D,K,s,a.from L,by rw[p,aa.out];rfl⟩;clear a p t;exact JP
def Di(d:α->Nat)(n:F α):∀(f:List UInt8)(c:List ZB)(b:List α)(k:Nat),k<=gR d n f c b k:=by
 intro f;induction f with
 | nil=>intro c b k;rw[gR.eq_def];exact QD _
 | cons p f e=>
  intro c b k;rw[gR.eq_def];dsimp only;split;·have:=e c b (wk k (J (kw n.k n.n n.a)));have:=lB k (J (kw n.k n.n n.a));omega
  split;·have:=e c b (wk k (J (W6 n.n)));have:=lB k (J (W6 n.n));omega
  split;·have:=e c b (wk k n.a.size);have:=lB k n.a.size;omega
  split;·have:=e c b (wk (gq d n.q n.o k) 3);have:=lB (gq d n.q n.o k) 3;have:=EJ d n.q n.o k;omega
  split
  .cases c with
   | nil=>exact QD _
   | cons a q=>have:=e q b (wk k a.size);have:=lB k a.size;show k<=gR d n f q b (wk k a.size);omega
  .cases b with
   | nil=>exact QD _
   | cons x q=>have:=e c q (wk k (d x));have:=lB k (d x);show k<=gR d n f c q (wk k (d x));omega
def qcJ:∀k,k<44->84∈ia k->k≠24/\fO k=[84]:=zC
def qcK:∀k,k<44->35∈ia k->k≠24/\(fO k=[35]∨fO k=[78,35]):=zC
def qcI:∀k,k<44->70∈ia k->k=24:=zC
def OO:∀k,k<44->0<=Aq k/\Ar k<=99:=zC
def sw{po:α->Int}{n:F α}(k:Nat)(f:n.k=(k:Int))(b:eQ po n=true):k<44/\(84∈ia k->cM n.k n.n n.a [] 0=true)/\(35∈ia k->0<=n.n/\n.n<=99)/\(70∈ia k->J n.q=J n.o):=by
 have e:1<=n.k/\n.k<=43:=by have h:=b;unfold eQ at h;simp only[Qc,Qk]at h;exact h.1
 have a:k<44:=E;have c:n.k.toNat=k:=E;refine⟨a,λh=>?_,λh=>?_,λh=>?_⟩;·have⟨d,hp⟩:=qcJ k a h;rw[mL po e.1 e.2 E,c,hp]at b;simp only[dM,Qc]at b;exact b.1.1
 .have⟨d,hp⟩:=qcK k a h;rw[mL po e.1 e.2 E,c]at b;have:=OO k a;rcases hp with hp|hp<;>rw[hp]at b<;>simp only[dM,Qc,Qk,c]at b;·have:=b.1.1.1;omega
  .have:=b.1.1.1;omega
 .have d:=qcI k a h;rw[l5 po (n:=n) E]at b;simp only[Qc]at b;have:=b.1;unfold fD at this;simp only[Qc,QP]at this;exact E
def lJ.iter(h:lJ B wb bk w0 w v l)(i:w.heap[ib]?=Z (.stringIter s pos))(u:w0.heap.size<=ib)(x:B<=w0.heap.size)(a:Nat):lJ B wb bk w0 (w.iterAt ib s a) v l:=by
 have f:wb≠ib:=by intro e;have:=h.box;rw[e,i]at this;cases this
 refine⟨⟨h.own.1,?_⟩,Lib.below_iterAt h.below E _ _,by rw[Ws];exact h.le,?_,(ZR w ib wb _ _ f).trans h.box,h.ge⟩
 .rcases h.own.2 with p|⟨g,cap,b,t,c,d,r⟩;·exact .inl p
  .refine .inr ⟨g,cap,b,t,c,?_,r⟩;rw[ZR w ib g _ _ (λe=>by rw[e,i]at d;cases d)];exact d
 .intro k o j m q;have n:=(Qe.1 j).1;rw[ZR w ib k _ _ E];exact h.kept k o j m q
structure DS(m B wb bk:Nat)(W0 wr:Zw)(n:F (T m))(d:Int)(k pos ib L:Nat)(a b v:Zv)(l:List UInt8)(ns:List ZB)(ks:List (T m)):Prop where
 wrt:lJ B wb bk W0 wr v l
 iter:wr.heap[ib]?=Z (.stringIter (bs (ia k)) pos)
 le:pos<=J (ia k)
 q:cR (λb=>b<B) W0 ns a
 t:gQ a
 o:dn (λb=>b<B) W0 (b8 (λb=>b<B) W0 m) ks b
 j:gQ b
 len:gR (dC m) n ((ia k).drop pos) ns ks (J l)=L
 fit:lM (iQ m) ((ia k).drop pos) ns ks
 e:ks.all (λx=>c7 m x d)=true
def LX (hn:Nl m) {n:F (T m)} (h:lJ B wb bk w w v l) (aN:(Ud U n.k).wf=true) (aO:(Ud U n.n).wf=true) (hx:n.a.size<=WX)
  (h3:cR (λb=>b<B) w n.q (A na (J n.q) nc)) (aF:J n.q<=nc) (h4:dn (λb=>b<B) w (b8 (λb=>b<B) w m) n.o (A ka (J n.o) kc)) (aG:J n.o<=kc) (q6:lh w bk) (ad:bk<B)
  (u:eQ (iQ m) n=true) (hg:n.o.all (λx=>c7 m x d)=true) (hl:wk (J l) (kP (dC m) n)<=800000) (hT:uO B w) :
  WU WV 156 #[Zp (Z ⟨wb,0,Y⟩),Uy n.k n.n n.a na (J n.q) nc ka (J n.o) kc] w (oE B wb bk w (wk (J l) (kP (dC m) n))):=by
 obtain⟨k,hk⟩:∃k:Nat,n.k=(k:Int):=⟨n.k.toNat,by
  have h:=u
  unfold eQ at h;simp only[Qc,Qk]at h;omega⟩
 have⟨O,af,ae,hasF⟩:=sw k hk u;have W:n.k.toNat=k:=E;have⟨aa,qc⟩:=Or (dC m) u (J l);rw[W]at aa qc;have⟨W1,qR⟩:=fk (w.alloc (UB n.k n.n n.a na (J n.q) nc ka (J n.o) kc));have⟨W2,Q⟩:=fk ((W1.alloc (Zc #[Zt (lF k),Zt (bs (ia k)),I U (Aq k),I U (Ar k)] 147)).drew);have ag:lJ B wb bk w W1 v l:=by rw[qR];exact h.alloc _
 have ah:lJ B wb bk w W2 v l:=by rw[Q];exact (ag.alloc _).drew
 have bm:=h.lt;have bp:=h.le;have av:W1.heap.size=w.heap.size+1:=re;have bi:W2.heap.size=w.heap.size+2:=by rw[Q];show (W1.heap.push _).size=_;simp;exact av
 have j2:W1.heap[w.heap.size]?=Z (Zc (Uz n.k n.n n.a na (J n.q) nc ka (J n.o) kc) 38 (0,0)):=by rw[qR];exact Xq _ _
 have qa:W2.heap[w.heap.size]?=Z (Zc (Uz n.k n.n n.a na (J n.q) nc ka (J n.o) kc) 38 (0,0)):=by rw[Q];exact (Qf _ _ _ (by show w.heap.size<W1.heap.size;omega)).trans j2
 have M:W2.heap[w.heap.size+1]?=Z (Zc #[Zt (lF k),Zt (bs (ia k)),I U (Aq k),I U (Ar k)] 147 (0,0)):=by rw[Q,<- av];exact Xq W1 _
 have⟨b0,b1,b2,b3⟩:=q6 k O;have bj:=q6.lt;obtain⟨r0,-,-⟩:=h.cells;have y0:W2.cell? ⟨w.heap.size+1,0,Y⟩=Z (Zt (lF k)):=by simp[WY,M]
 rw[hk]at qR;have ba:=a8 qR;have bb:=a8 Q;have ac:=a8 ah;have aV:=a8 aa;have aS:=a8 qc;have bn:=a8 hn;have aR:G (∀ (wr:Zw) (s:Zv) (c:List UInt8),lJ B wb bk w wr s c->70∈ia k->gq (dC m) n.q n.o (J c)<=800000 ->
   WU WV 194 #[Zp (Z ⟨wb,0,Y⟩),Uy (k:Int) n.n n.a na (J n.q) nc ka (J n.o) kc] wr (oE B wb bk wr (wk (gq (dC m) n.q n.o (J c)) 3))):=by
  intro wr s c g hF ap
  have:=GF hn g.here (h3.keep g.same zI) (h4.keepN g.same zI) (hasF hF) (q6.keep (g.below.block bk ad)) ad hg ap (hT.on g.below)
  rw[hk]at this
  exact this
 have HK:G (∀ (wr:Zw) (s:Zv) (c:List UInt8) (t:T m) (c0 c1 c2 c3 c4:Zv),lJ B wb bk w wr s c->b8 (λb=>b<B) wr m t c0 c1 c2 c3 c4->c7 m t d=true->wk (J c) (dC m t)<=800000 ->
   WU WV 156 #[Zp (Z ⟨wb,0,Y⟩),Za #[c0,c1,c2,c3,c4]] wr (oE B wb bk wr (wk (J c) (dC m t)))):=by
  intro wr s c t c0 c1 c2 c3 c4 g S R ap
  exact hn B wb bk wr s c t _ _ _ _ _ d g.here S (q6.keep (g.below.block bk ad)) ad R ap (hT.on g.below)
 have aZ:G (∀(wr:Zw)(s:Zv)(c:List UInt8),lJ B wb bk w wr s c->84∈ia k->WU WV 193 #[Uy (k:Int) n.n n.a Y 0 0 Y 0 0] wr λe w'=>e=Zr (Zt (bs (kw n.k n.n n.a)))/\Bw wr w'):=by
  intro wr s c g aB;have bf:mW wr:=λw2 h2=>(hT.on g.below) w2 (h2.mono g.le);have:=AF (λ_=>False) (lN n.k n.n n.a) _ _ _ _ _ wr (yi _ wr n.n n.a aN aO hx) Ae bf;have e:yU 1 (lN n.k n.n n.a)=bs (kw n.k n.n n.a):=by unfold yU;rw[Qm (by rw[Jf];exact af aB)];rfl
  rw[e,hk]at this;rw[hk];exact this
 have aY:G (∀w,WU WV 160 #[Uy (k:Int) n.n n.a na (J n.q) nc ka (J n.o) kc] w _):=λw=>mu k n.n n.a na ka (J n.q) (J n.o) nc kc w;have aT:G (35∈ia k->∀w,WU WV 175 #[I U n.n] w λe w'=>e=Zr (Zt (bs (W6 n.n)))/\w'=w):=by
  intro hN w;have⟨h0,bo⟩:=ae hN;have:=Tryz.strconv_Itoa_small n.n.toNat E w;rw[show ((n.n.toNat:Nat):Int)=n.n by omega]at this;have e:W6 n.n=Lib.decDigits n.n.toNat:=by unfold W6;rw[Qd E]
  rw[e];exact this
 have aW:G (cR (λb=>b<B) w n.q (A na (J n.q) nc)/\dn (λb=>b<B) w (b8 (λb=>b<B) w m) n.o (A ka (J n.o) kc)/\J n.q<=nc/\J n.o<=kc/\n.o.all (λx=>c7 m x d)=true):=⟨h3,h4,aF,aG,hg⟩;rw[hk];have aU:=a8 hk;have az:=a8 hl;have bc:=a8 (Ah k O);clear h3 h4 q6 hn hT u hg af ae hasF aa qc ag ah qR Q aF aG W hl aN aO hx hk;have X:=a8 qa;have j0:=a8 M;have ai:w.heap.size+2<=W2.heap.size:=E;clear j2 qa M;go_in;go_wp2_with fail;go_region;rw[<- ba.out,<- bb.out];clear b0 b1 b2 b3 r0 av;go_upto_if 21 with fail;go_cut [] from 9 to 25 (λwx=>∃v3 l3,lJ B wb bk w wx v3 l3/\J l3=M7 k (J l)/\wx.heap[w.heap.size]?=Z (Zc (Uz n.k n.n n.a na (J n.q) nc ka (J n.o) kc) 38 (0,0))/\wx.heap[w.heap.size+1]?=Z (Zc #[Zt (lF k),Zt (bs (ia k)),I U (Aq k),I U (Ar k)] 147 (0,0))/\w.heap.size+2<=wx.heap.size);case first=>
  have HE:G ((!(lF k).toList.isEmpty)=true↔(lF k).size≠0):=by show _↔_;rw[QI];have h2:J (lF k).data.toList=(lF k).size:=zS;rw[<- h2];cases (lF k).data.toList<;>simp
  have bg:(lF k).size<=6:=by
   have:=bc.out;by_cases h5:k<5;·have:=this.1 h5;omega
   .exact E
  have ax:=a8 (mA B wb bk W2 v l (lF k) ac.here (by have:=az.out;have:=lB (J l) (kP (dC m) n);omega));clear bg;go_wp2_with fail
  .have h0:=HE.1 nM;refine H ax ?_;rintro e W3 ⟨rfl,v3,l3,aP,ql⟩;have HR:=a8 aP;have ak:G (J l3=M7 k (J l)):=by show _=_;unfold M7;rw[Qd h0];exact ql
   clear aP ql ax;go_wp2;go_meet;have hr:=HR.kept (w.heap.size+1) _ j0 zE zS;exact⟨v3,l3,HR.from ac,ak,HR.kept w.heap.size _ X zE zS,hr,(Qe.1 hr).1⟩
  .have hw:(!(lF k).toList.isEmpty)=false:=nM;have h0:=Decidable.of_not_not λh=>by rw[HE.2 h]at hw;cases hw
   go_meet;exact⟨v,l,ac,by unfold M7;rw[Qm h0],X,j0,ai⟩
 case rest=>
  obtain⟨v3,l3,aC,ql,aE,aM,aQ⟩:=hcut;have aj:=a8 aC;have ak:=a8 ql;have aw:=a8 aE;have aX:=a8 aM;have bd:=a8 aQ;clear aC ql aE aM aQ y0 X j0 bi ai ac;have y:=aj.out;have be:=y.le;have br:=bd.out;have⟨p0,p1,p2,p3,p4⟩:=cP aw;have p5:wc.cell? ⟨w.heap.size+1,1,Y⟩=Z (Zt (bs (ia k))):=by simp[WY,aX.out]
  have HJ:G (∀j,DS m B wb bk wc ((wc.drewN j).iter (bs (ia k)) 0) n d k 0 wc.heap.size (wk (J l) (kP (dC m) n)) (A na (J n.q) nc) (A ka (J n.o) kc) v3 l3 n.q n.o):=by
   intro j;have⟨g3,g4,g5,g6,g7⟩:=aW.out;refine⟨?_,World.iter_heap (wc.drewN j) _ _,E,g3.keep y.same zI,⟨_,_,_,D,g5⟩,g4.keepN y.same zI,⟨_,_,_,D,g6⟩,?_,?_,g7⟩;·have h0:lJ B wb bk wc (wc.drewN j) v3 l3:=⟨y.own,⟨D,D,D,QD _,λ_ _=>D⟩,y.le,λ_ _ h _ _=>h,y.box,y.ge⟩;exact h0.alloc _
   .have h0:=aV.out;rw[<- ak.out]at h0;rw[Xn];exact h0
   .rw[Xn];exact aS
  clear y;go_wp2_with fail;go_quiet (fail);go_wp2;go_loopw [5,6] (λa b wr=>∃pos s c ns ks,DS m B wb bk wc wr n d k pos wc.heap.size (wk (J l) (kP (dC m) n)) a b s c ns ks) (λ_ _ wr=>J (ia k)-wr.iterPos wc.heap.size);case atStart=>exact⟨0,_,_,_,_,HJ _⟩
  case round=>
   obtain⟨pos,s,c,ns,ks,u⟩:=hrel;have bq:=u.le;have L:=u.iter;by_cases hp:pos<J (ia k)
   .have ue:=λty=>Lib.run_next_ascii_at (P:=WV) wr wc.heap.size (bs (ia k)) pos ty L (by rw[dG];exact hp) (by rw[wV];exact B3 k O _ zS);rw[wV]at ue;have⟨V,hV⟩:=fk (wr.iterAt wc.heap.size (bs (ia k)) (pos+1));rw[<- hV]at ue;have ab:lJ B wb bk wc V s c:=by rw[hV];exact u.wrt.iter L E be _
    have aK:V.heap[wc.heap.size]?=Z (.stringIter (bs (ia k)) (pos+1)):=by rw[hV];exact Lib.iterAt_heap _ _ _ _ _ L
    have aD:=ab.kept w.heap.size _ aw zE zS;have⟨z0,z1,z2,z3,z4⟩:=cP aD;rw[aU.out]at z0;have K:=Qy hp;have f:=QE hp;have zy:=u.len;rw[K]at zy;have vI:=u.fit;rw[K]at vI;obtain⟨xa,xl,xc,rfl,aH⟩:=u.t;obtain⟨ya,yl,yc,rfl,aI⟩:=u.j;have HI:=a8 (iterPos_of L);have i:=a8 ab;have am:=a8 (ab.from aj);have um:=a8 u;have bl:=az.out;have uk:G (∀(w6:Zw)(v6:Zv)(l6:List UInt8),lJ B wb bk V w6 v6 l6->lJ B wb bk wc w6 v6 l6/\w6.heap[wc.heap.size]?=Z (.stringIter (bs (ia k)) (pos+1))/\w6.iterPos wc.heap.size=pos+1):=by intro w6 v6 l6 h6;have aJ:=h6.kept wc.heap.size _ aK zE zS;exact⟨h6.from ab,aJ,iterPos_of aJ⟩
    have je:=λq=>Di (dC m) n ((ia k).drop (pos+1)) ns ks q;clear u L hV ab aK aD K;rcases Dx k O _ f with hq|hq|hq|hq|hq|hq|hq|hq
    .rw[hq]at zy vI ue f;have xj:=ue;rw[qcF]at zy;rw[GL _ (.inl rfl)]at vI;have xr:=je (wk (J c) (J (kw n.k n.n n.a)));rw[zy]at xr;have jX:=lB (J c) (J (kw n.k n.n n.a));have xH:=a8 zy;have xd:=a8 vI;have bh:J c+1+(bs (kw n.k n.n n.a)).size<=900000:=o9;clear zy vI ue je xr jX hq;go_wp2_with fail;refine H (aY _) ?_;rintro e w4 ⟨rfl,an⟩;have q7:=a8 (aZ w4 s c (am.on an) f);have al:=a8 (i.here.on an);clear an;go_wp2_with fail;refine H q7 ?_;rintro e w5 ⟨rfl,ao⟩;have aA:=a8 (al.on ao);have xw:=a8 (mA B wb bk w5 s c _ (al.on ao).here bh);clear ao q7 al;go_wp2_with fail;refine H xw ?_;rintro e w6 ⟨rfl,v6,l6,xq,zW⟩;have xP:=a8 (xq.from aA);have zO:G (J l6=wk (J c) (J (kw n.k n.n n.a))):=by show _=_;rw[zW,dG]
     clear xq zW xw aA;exact wd6
    .rw[hq]at zy vI ue f;have xj:=ue;rw[qcE]at zy;rw[GL _ (.inr (.inr (.inl rfl)))]at vI;have xr:=je (wk (J c) n.a.size);rw[zy]at xr;have jX:=lB (J c) n.a.size;have xH:=a8 zy;have xd:=a8 vI;have xw:=a8 (mA B wb bk V s c n.a i.here E);exact YH
    .rw[hq]at zy vI ue f;have xj:=ue;rw[qcD]at zy;rw[GL _ (.inr (.inr (.inr rfl)))]at vI;have xr:=je (wk (gq (dC m) n.q n.o (J c)) 3);rw[zy]at xr;have jX:=lB (gq (dC m) n.q n.o (J c)) 3;have xH:=a8 zy;have xd:=a8 vI;have xw:=a8 (aR V s c am f E);exact YH
    .rw[hq]at zy vI ue f;have xj:=ue;rw[qaL]at zy;rw[GL _ (.inr (.inl rfl))]at vI;have xr:=je (wk (J c) (J (W6 n.n)));rw[zy]at xr;have jX:=lB (J c) (J (W6 n.n));have xH:=a8 zy;have xd:=a8 vI;have q7:=a8 (aT f V);have xw:=a8 (mA B wb bk V s c (bs (W6 n.n)) i.here o9);clear zy vI ue je xr jX hq;go_wp2_with fail;refine H q7 ?_;rintro e w5 ⟨rfl,rfl⟩;go_wp2_with fail;refine H xw ?_;rintro e w6 ⟨rfl,v6,l6,xq,zW⟩;have xP:=a8 xq;have zO:G (J l6=wk (J c) (J (W6 n.n))):=by show _=_;rw[zW,dG]
     clear xq zW xw q7;exact wd6
    iterate 2
     .rw[hq]at zy vI ue f
      first
       | have xj:∀ty,(Instr.next (Zp (Z ⟨wc.heap.size,0,Y⟩)) true ty).run WV wr=.ok (Zu #[Zb true,I U (pos:Int),I .i32 78]) V:=ue
       | have xj:∀ty,(Instr.next (Zp (Z ⟨wc.heap.size,0,Y⟩)) true ty).run WV wr=.ok (Zu #[Zb true,I U (pos:Int),I .i32 88]) V:=ue
      obtain⟨nm,nq,rfl,q8⟩:=qdL (by first|exact .inl D|exact zS) vI
      first
       | rw[EO _ _ (.inl rfl)]at zy
       | rw[EO _ _ (.inr rfl)]at zy
      have xr:=Di (dC m) n ((ia k).drop (pos+1)) nq ks (wk (J c) nm.size)
      rw[zy]at xr
      have jX:=lB (J c) nm.size
      obtain⟨_,_,hv,au,-,qq⟩:=id um.q
      cases hv
      obtain⟨b,off,rfl,z,r⟩:=qq zS
      have e0:=r 0 zS
      have e1:=(i.below.cell (p:=⟨b,off,Y⟩) z).trans e0
      simp only[XY]at e1
      have aq:1<=J (nm :: nq):=zS
      have N:=um.q.tail aH
      clear qq r e0
      generalize W:J (nm :: nq)=kn at *
      have ar:=oj (P:=WV) 1 underlying23 FW (Z ⟨b,off,Y⟩) xc aq
      obtain⟨ta,tn,tc,C⟩:∃ta tn tc,sliced (Z ⟨b,off,Y⟩) 1 kn xc 1=A ta tn tc:=⟨_,_,_,D⟩
      have o:gQ (A ta tn tc):=by
       rw[<- C];exact⟨_,_,_,D,E⟩
      rw[C]at ar N
      have xH:=a8 zy
      have xd:=a8 q8
      have q5:=a8 N
      have q9:=a8 o
      have xw:=a8 (mA B wb bk V s c nm i.here E)
      have aL:(1:Int)<=(kn:Int):=E
      unfold WX at au
      clear zy vI ue je xr jX hq N o C q8 W
      go_wp2_with fail
      refine H xw ?_
      rintro e w6 ⟨rfl,v6,l6,xq,zW⟩
      have xP:=a8 xq
      have zO:=a8 zW
      clear xq zW xw
      have HE:G (DS m B wb bk wc w6 n d k (pos+1) wc.heap.size (wk (J l) (kP (dC m) n)) (A ta tn tc) (A ya yl yc) v6 l6 nq ks/\w6.iterPos wc.heap.size=pos+1):=by
       have⟨g1,g2,g3⟩:=uk.out w6 v6 l6 xP
       exact⟨⟨g1,g2,hp,q5,q9,um.o,um.j,by rw[zO.out];exact xH,xd,um.e⟩,g3⟩
      clear xP zO xH xd uk xj z0 z1 z2 z3 z4 q5 q9 e1
      exact qcU
    iterate 2
     .rw[hq]at zy vI ue f
      first
       | have xj:∀ty,(Instr.next (Zp (Z ⟨wc.heap.size,0,Y⟩)) true ty).run WV wr=.ok (Zu #[Zb true,I U (pos:Int),I .i32 86]) V:=ue
       | have xj:∀ty,(Instr.next (Zp (Z ⟨wc.heap.size,0,Y⟩)) true ty).run WV wr=.ok (Zu #[Zb true,I U (pos:Int),I .i32 65]) V:=ue
      obtain⟨kx,kq,rfl,-,q8⟩:=qdM (by first|exact .inl D|exact zS) vI
      first
       | rw[qcG _ _ (.inl rfl)]at zy
       | rw[qcG _ _ (.inr rfl)]at zy
      have xr:=Di (dC m) n ((ia k).drop (pos+1)) ns kq (wk (J c) (dC m kx))
      rw[zy]at xr
      have jX:=lB (J c) (dC m kx)
      have R:=um.e
      simp only[ZW,Qc]at R
      have⟨_,_,hv,au,qq⟩:=id um.o
      cases hv
      obtain⟨b,off,rfl,z,r⟩:=qq zS
      have⟨d0,d1,d2,d3,d4,k0,k1,k2,k3,k4,S⟩:=r 0 zS
      obtain⟨x0,x1,x2,bt,bv,bu,bw,bz,bx,rfl,rfl,rfl,rfl,rfl⟩:=S.shape
      simp only[Zd,QC,XY]at k0 k1 k2 k3 k4 S
      have o0:=(i.below.cell (p:=⟨b,off,Y⟩) z).trans k0
      have o1:=(i.below.cell (p:=⟨b,off+1,Y⟩) z).trans k1
      have o2:=(i.below.cell (p:=⟨b,off+2,Y⟩) z).trans k2
      have o3:=(i.below.cell (p:=⟨b,off+3,Y⟩) z).trans k3
      have o4:=(i.below.cell (p:=⟨b,off+4,Y⟩) z).trans k4
      have xw:=a8 (HK V s c kx _ _ _ _ _ am (S.keep i.same zI) R.1 E)
      have aq:1<=J (kx :: kq):=zS
      have N:=um.o.tail aI
      clear r qq k0 k1 k2 k3 k4 S
      generalize W:J (kx :: kq)=kn at *
      have ar:=oj (P:=WV) 5 underlying36 FW (Z ⟨b,off,Y⟩) yc aq
      obtain⟨ta,tn,tc,C⟩:∃ta tn tc,sliced (Z ⟨b,off,Y⟩) 1 kn yc 5=A ta tn tc:=⟨_,_,_,D⟩
      have o:gQ (A ta tn tc):=by
       rw[<- C];exact⟨_,_,_,D,E⟩
      rw[C]at ar N
      have xH:=a8 zy
      have xd:=a8 q8
      have q5:=a8 N
      have q9:=a8 o
      have ay:=a8 R.2
      have aL:(1:Int)<=(kn:Int):=E
      unfold WX at au
      clear zy vI ue je xr jX hq N o C q8 W R
      go_wp2_with fail
      refine H xw ?_
      rintro e w6 ⟨rfl,v6,l6,xq,zW⟩
      have xP:=a8 xq
      have zO:=a8 zW
      clear xq zW xw
      have HE:G (DS m B wb bk wc w6 n d k (pos+1) wc.heap.size (wk (J l) (kP (dC m) n)) (A xa xl xc) (A ta tn tc) v6 l6 ns kq/\w6.iterPos wc.heap.size=pos+1):=by
       have⟨g1,g2,g3⟩:=uk.out w6 v6 l6 xP
       exact⟨⟨g1,g2,hp,um.q,um.t,q5,q9,by rw[zO.out];exact xH,xd,ay⟩,g3⟩
      clear xP zO xH xd uk xj z0 z1 z2 z3 z4 q5 q9 ay o0 o1 o2 o3 o4
      exact qcU
   .have xj:=λty=>Lib.run_next_end_at (P:=WV) wr wc.heap.size (bs (ia k)) pos ty L (by rw[dG];exact hp);have zy:=u.len;rw[Zy E,gR]at zy;have HP:G (oE B wb bk w (wk (J l) (kP (dC m) n)) (Zr (Zu #[])) wr):=⟨D,s,c,u.wrt.from aj,zy⟩;obtain⟨xa,xl,xc,rfl,aH⟩:=u.t;obtain⟨ya,yl,yc,rfl,aI⟩:=u.j;clear u L zy;exact JP
def d9(w:Zw)(R:Nat)(s:ZB)(at_:Int)(a:Bool):Prop:=w.heap[R]?=Z (Zc #[Zt s,I U at_,Zb a] 221 (0,0))
def d9.cell0(h:d9 w R s i b):a7 w R 0=Z (Zt s):=by unfold d9 at h;simp[WY,h]
def d9.cell1(h:d9 w R s i b):a7 w R 1=Z (I U i):=by unfold d9 at h;simp[WY,h]
def d9.cell2(h:d9 w R s i b):a7 w R 2=Z (Zb b):=by unfold d9 at h;simp[WY,h]
def d9.free(h:d9 w R s i b)(o:Nat):w.frozen? ⟨R,o,Y⟩=false:=by unfold d9 at h;simp[W7,h]
def d9.lt(h:d9 w R s i b):R<w.heap.size:=by unfold d9 at h;exact (Qe.1 h).1
def d9.set1(h:d9 w R s i b)(q:Int):d9 (w.setCell ⟨R,1,Y⟩ (I U q)) R s q b:=by unfold d9 at h ⊢;simp[Ug,QQ,h]
def d9.set2(h:d9 w R s i b)(q:Bool):d9 (w.setCell ⟨R,2,Y⟩ (Zb q)) R s i q:=by unfold d9 at h ⊢;simp[Ug,QQ,h]
def cF(s:ZB)(i:Nat):UInt8:=(s.data.toList.drop i).headD 0
def ky{i:Nat}(h:i<s.size):cF s i=s[i]:=by unfold cF;rw[Qy mZ];simp[QX]
def ir(s:ZB)(i:Nat)(h:s.size<=i):cF s i=0:=by unfold cF;rw[Zy mZ];rfl
def d9.drewN(h:d9 w R s i b)(n:Nat):d9 (w.drewN n) R s i b:=h
def cH.drewN(h:cH R a w)(n:Nat):cH R a (w.drewN n):=⟨h.os,h.tape,h.output,h.size,h.block⟩
def kA {i:Nat} (h:d9 w R s i bad) :
  WU WV 218 #[Zp (b5 R 0)] w λe b=>e=Zr (I .u8 ((cF s i).toNat:Int))/\∃m,b=w.drewN m:=by
 have c0:=h.cell0;have c1:=h.cell1;clear h;by_cases a:i<s.size;·rw[ky a];go_in;go_wp2;go_quiet (fail);go_wp2;go_quiet (fail);go_wp2;go_ret;exact⟨D,_,We ..⟩
 .rw[ir s i E];go_in;go_wp2;go_quiet (fail);go_wp2;go_ret;exact⟨D,_,D⟩
def fC (x:ZB) {i:Nat} (h:d9 w R s i bad) (r:s.size<=10000) (u:x.size<=100) (j:i<=s.size) :
  WU WV 219 #[Zp (b5 R 0),Zt x] w λe g=>e=Zr (Zu #[])/\cH R w g /\
   ((dq x.data.toList (s.data.toList.drop i)=Z (s.data.toList.drop (i+x.size))/\i+x.size<=s.size/\d9 g R s ((i+x.size:Nat):Int) bad)∨(dq x.data.toList (s.data.toList.drop i)=Y/\d9 g R s i true)):=by
 have c0:=h.cell0;have c1:=h.cell1;have c2:=h.cell2;have f1:=h.free 1;have f2:=h.free 2;have d:∀m,d9 ((w.drewN m).setCell ⟨R,1,Y⟩ (I U ((i:Int)+(x.size:Int)))) R s ((i+x.size:Nat):Int) bad:=λm=>(h.drewN m).set1 _;have b:∀m,d9 ((w.drewN m).setCell ⟨R,2,Y⟩ (Zb true)) R s i true:=λm=>(h.drewN m).set2 true;have f:∀m,cH R w ((w.drewN m).setCell ⟨R,1,Y⟩ (I U ((i:Int)+(x.size:Int)))):=λm=>((cH.refl R w).drewN m).trans (cH.set R 1 _ _);have c:∀m,cH R w ((w.drewN m).setCell ⟨R,2,Y⟩ (Zb true)):=λm=>((cH.refl R w).drewN m).trans (cH.set R 2 _ _);clear h;have t:IntKind.i64.wrap ((i:Int)+(x.size:Int))=(i:Int)+(x.size:Int):=kG;have q:(i:Int)<=(s.size:Int):=E;by_cases k:i+x.size<=s.size
 .have n:decide ((s.size:Int)<(i:Int)+(x.size:Int))=false:=gE;have o:(i:Int)+(x.size:Int)<=(s.size:Int):=E;have p:((i:Int)+(x.size:Int)).toNat=i+x.size:=E;by_cases a:(s.extract i (i+x.size)).toList=x.toList
  .have HP:G (_=_):=NP a;have HG:G ((∀m,d9 _ _ _ _ _)/\(∀m,cH _ _ _)):=⟨d,f⟩;have l:((s.extract i (i+x.size)).toList==x.toList)=true:=by simp[a]
   clear d b f c a;go_in;go_wp2;go_quiet (fail);go_wp2;go_end0;exact⟨D,HG.2 _,.inl ⟨HP,k,HG.1 _⟩⟩
  .have HP:G (_=_):=I5 x j (λh=>a h.2);have HG:G ((∀m,d9 _ _ _ _ _)/\(∀m,cH _ _ _)):=⟨b,c⟩;have l:((s.extract i (i+x.size)).toList==x.toList)=false:=by simp[a]
   clear d b f c a;exact T6
 .have HP:G (_=_):=I5 x j E;have n:decide ((s.size:Int)<(i:Int)+(x.size:Int))=true:=zE;have HG:G ((∀m,d9 _ _ _ _ _)/\(∀m,cH _ _ _)):=⟨b,c⟩;clear d b f c;exact T6
def atOf(w:Zw)(R:Nat):Nat:=match a7 w R 1 with|Z (I _ n)=>n.toNat|_=>0
def d9.atOf(h:d9 w R s i b):atOf w R=i.toNat:=by unfold Go.Proofs.YtkcollkaldkccaaGreatDoor.atOf;rw[h.cell1]
def Hq(s:ZB)(j:Nat):dz (cF s j)=true->j<s.size:=by intro h;exact Qx λa=>by rw[ir s j E]at h;exact absurd h zC
def yR{p:UInt8->Bool}(h:∀x,x∈l.take k->p x=true)(a:p ((l.drop k).headD 0)=false):l.takeWhile p=l.take k:=by
 have b:∀c r,l.drop k=c :: r->p c=false:=by intro c r e;rw[e]at a;exact a
 conv=>lhs;rw[<- Q2 k l]
 exact gW h b
def rM{i:Nat}{p:UInt8->Bool}(h:i+k<s.size)(b:∀x,x∈(s.data.toList.drop i).take k->p x=true)(c:p s[i+k]=true):∀x,x∈(s.data.toList.drop i).take (k+1)->p x=true:=by
 intro x a;have d:k<J (s.data.toList.drop i):=zE;rw[Qq d]at a;rcases QF.1 a with a|a;·exact b x a
 .rw[QR]at a;subst a;simpa [QX] using c
def ES {i:Nat} (h:d9 w R s i bad) (T:s.size<=10000) (S:i<=s.size) :
  WU WV 220 #[Zp (b5 R 0)] w λe d=>e=Zr (Zt (bs ((s.data.toList.drop i).takeWhile dz)))/\cH R w d /\
   d9 d R s ((i+J ((s.data.toList.drop i).takeWhile dz):Nat):Int) bad/\i+J ((s.data.toList.drop i).takeWhile dz)<=s.size:=by
 have c0:=h.cell0;have c1:=h.cell1;have c2:=h.cell2;go_in;go_wp2;go_loopw [9] (λ_ wr=>∃k:Nat,i+k<=s.size/\d9 wr R s ((i+k:Nat):Int) bad/\cH R w wr/\∀x,x∈(s.data.toList.drop i).take k->dz x=true) (λ_ wr=>s.size-atOf wr R);case atStart=>exact⟨0,E,h,cH.refl _ _,zS⟩
 case round=>
  obtain⟨k,r,g,n,b⟩:=hrel;have N:=g.cell0;have O:=g.cell1;have P:=g.cell2;have Q:=g.free 1;have f:G (d9 wr R s ((i+k:Nat):Int) bad/\cH R w wr):=⟨g,n⟩;clear g n c0 c1 c2 h;generalize o:i+k=j at *;have q:G (∀m,WU WV 218 #[Zp (b5 R 0)] (wr.drewN m) λe d=>e=Zr (I .u8 ((cF s j).toNat:Int))/\∃u,d=wr.drewN u):=λm=>(kA (f.1.drewN m)).mono λe d ⟨L,k,r⟩=>⟨L,m+k,by rw[r,We]⟩;have l:G (WU WV 218 #[Zp (b5 R 0)] wr λe d=>e=Zr (I .u8 ((cF s j).toNat:Int))/\∃u,d=wr.drewN u):=q.out 0;have C:(0:Int)<=((cF s j).toNat:Int):=E;have K:((cF s j).toNat:Int)<=255:=FK;cases hnm:dz (cF s j) with
  | true=>
   have t:=Hq s j hnm;have y:G (∀x,x∈(s.data.toList.drop i).take (k+1)->dz x=true):=rM E b (by rw[ky t]at hnm;simpa only[o] using hnm);have V:IntKind.i64.wrap ((j:Int)+1)=(j:Int)+1:=kG;have a:(97<=((cF s j).toNat:Int)/\((cF s j).toNat:Int)<=122)∨(48<=((cF s j).toNat:Int)/\((cF s j).toNat:Int)<=57):=by simpa only[dz,Qk] using hnm
   clear b hnm;generalize (cF s j).toNat=c at *;rcases a with ⟨p,v⟩|⟨p,v⟩;iterate 2
    .go_wp2_with (go_at_call 218;(first|refine H l ?_|refine H (q _) ?_);rintro e d ⟨rfl,nq,rfl⟩)
     have HS:=λnq=>((f.1.drewN nq).set1 ((j:Int)+1))
     go_roundw
     case rel=>exact⟨k+1,E,Yi,(f.2.drewN _).trans (cH.set R 1 _ _),y⟩
     case measure=>rw[(HS _).atOf,f.1.atOf];omega
  | false=>
   have z:G ((s.data.toList.drop i).takeWhile dz=(s.data.toList.drop i).take k):=yR b (by rw[Xk,o];exact hnm);have B:G (s.extract i j=bs ((s.data.toList.drop i).take k)):=by show _=_;rw[<- o];exact rq s i k
   have M:G (J ((s.data.toList.drop i).take k)=k):=by show _=_;simp;omega
   have a:((cF s j).toNat:Int)<48∨(57<((cF s j).toNat:Int)/\((cF s j).toNat:Int)<97)∨122<((cF s j).toNat:Int):=by simp only[dz,XD]at hnm;omega
   clear b hnm;generalize (cF s j).toNat=c at *;rcases a with p|⟨p,v⟩|p;all_goals
    go_wp2_with (go_at_call 218;(first|refine H l ?_|refine H (q _) ?_);rintro e d ⟨rfl,nq,rfl⟩)
    go_quiet (fail)
    go_wp2
    go_ret
    rw[z.out,M.out,o]
    exact⟨hQ B,(f.2.drewN _).drewN _,(f.1.drewN _).drewN _,r⟩
def gr(s:Int)(i:Nat):Int:=if ((s=33∨s=34∨s=43)/\i=1)∨(s=35/\i=2) then 20 else 1
def yW(s:Int)(i:Nat):1<=gr s i/\gr s i<=20:=by unfold gr;split<;>omega
def ei{α:Type}(f:α->Int)(s:Int)(l:List α):Nat->Int
 | 0=>1
 | j+1=>ei f s l j+gr s j*((l[j]?).map f).getD 0
def dX:(m:Nat)->T m->Int
 | 0,_=>1
 | m+1,t=>min (ei (dX m) (F.k t) (F.o t) (J (F.o t))) 40001
def tT(f:α->Int)(s:Int){l:List α}(h:j<J l):ei f s l (j+1)=ei f s l j+gr s j*f l[j]:=by simp[ei,h]
def yX{t c:Int}(b:1<=t)(a:t<=20)(c0:0<=c)(c1:c<=40001):0<=t*c/\t*c<=800020:=by refine⟨Int.mul_nonneg E c0,?_⟩;have b:=Int.mul_le_mul_of_nonneg_right a c0;omega
def pB(f:α->Int)(s:Int)(l:List α)(d:∀x,x∈l->0<=f x/\f x<=40001):∀j,1<=ei f s l j/\ei f s l j<=1+800020*j/\ei f s l j<=ei f s l (j+1):=by
 have a:∀j,0<=gr s j*((l[j]?).map f).getD 0/\gr s j*((l[j]?).map f).getD 0<=800020:=by
  intro j;have c:=yW s j;by_cases h:j<J l;·have:=d _ (QE h);simp only[Qp h,ZZ,Xm];exact yX c.1 c.2 this.1 E
  .rw[Xs E];simp
 intro j;have e:=a j;refine⟨?_,?_,by simp only[ei];omega⟩
 .induction j with
  | zero=>simp[ei]
  | succ j b=>have:=a j;have:=b this;simp only[ei];omega
 .induction j with
  | zero=>simp[ei]
  | succ j b=>have:=a j;have:=b this;simp only[ei];omega
def D9(f:α->Int)(s:Int)(l:List α)(a:∀x,x∈l->0<=f x/\f x<=40001)(i:Nat):∀d,ei f s l i<=ei f s l (i+d):=by
 intro d;induction d with
 | zero=>exact Int.le_refl _
 | succ d b=>exact Int.le_trans b (pB f s l a (i+d)).2.2
def si:∀(m:Nat)(t:T m),1<=dX m t/\dX m t<=40001:=by
 intro m;induction m with
 | zero=>intro t;simp[dX]
 | succ m a=>intro t;have:=pB (dX m) (F.k t) (F.o t) (λx _=>⟨by have:=a x;omega,(a x).2⟩) (J (F.o t));simp only[dX];omega
def Kx{t:T (m+1)}{i:Nat}(b:i<=J (F.o t))(h:40000<ei (dX m) (F.k t) (F.o t) i):dX (m+1) t=40001:=by have a:=D9 (dX m) (F.k t) (F.o t) PG i (J (F.o t)-i);rw[show i+(J (F.o t)-i)=J (F.o t) by omega]at a;simp only[dX];omega
def GM{t:T (n+1)}(h:cS (n+1) t d=true)(b:F.k t=4∨F.k t=5∨F.k t=6):F.n t=0/\F.a t=WT:=by
 simp only[cS,Qc]at h;have a:cM (F.k t) (F.n t) (F.a t) (F.q t) (J (F.o t))=true:=h.1.2;have c:∀x:ZB,x.toList.isEmpty=true->x=WT:=λx hx=>by exact T8
 unfold cM at a;rcases b with b|b|b;·rw[b]at a;simp only[show ¬((4:Int)=1) by decide,show ¬((4:Int)=2) by decide,show ¬((4:Int)=3) by decide,Zf,XX,Qc,QP]at a;exact⟨E,c _ a.1.1.2⟩
 .rw[b]at a;simp only[show ¬((5:Int)=1) by decide,show ¬((5:Int)=2) by decide,show ¬((5:Int)=3) by decide,show ¬((5:Int)=4) by decide,Zf,XX,Qc,QP]at a;exact⟨E,c _ a.1.1.2⟩
 .rw[b]at a;simp only[show ¬((6:Int)=1) by decide,show ¬((6:Int)=2) by decide,show ¬((6:Int)=3) by decide,show ¬((6:Int)=4) by decide,show ¬((6:Int)=5) by decide,Zf,XX,Qc,QP]at a;exact⟨E,c _ a.1.1.2⟩
def GP{p:Nat}{t:T (p+1)}{e:Int}(h:cS (p+1) t e=true):cM (F.k t) (F.n t) (F.a t) (F.q t) (J (F.o t))=true:=by simp only[cS,Qc]at h;exact h.1.2
def xo(hx:x.toList.isEmpty=true):x=WT:=by exact T8
def qaT{l:List ZB}(h:ee l=true):∀s,s∈l->s.size<=8:=λs c=>by
 obtain⟨i,a,rfl⟩:=QT c
 have:=Qo.1 h i (Q7.2 a)
 simp only[gn,Qc,c8,Qk]at this
 have b:=this.1.1.1.2
 rwa [Qw,Qp a,Xm]at b
def NF{t:T (n+1)}(h:cS (n+1) t d=true)(o:J (F.q t)<=10000)(p:J (F.o t)<=10000)(q:∀k,k∈F.o t->kj n k):kj (n+1) t:=by
 have g:=GN h;have f:=GM h;have e:=GP h;have b:F.k t=1∨F.k t=2∨F.k t=3∨F.k t=4∨F.k t=5∨F.k t=6:=by
  unfold cM at e;by_cases c1:F.k t=1;·exact E
  by_cases c2:F.k t=2;·exact E
  by_cases c3:F.k t=3;·exact E
  by_cases c4:F.k t=4;·exact E
  by_cases c5:F.k t=5;·exact E
  by_cases m:F.k t=6;·exact E
  rw[Qd c1,Qd c2,Qd c3,Qd c4,Qd c5,Qd m]at e;cases e
 have l:F.k t=1->(-999999999<=F.n t/\F.n t<=999999999)/\F.a t=WT:=λa=>by unfold cM at e;rw[Qm a]at e;simp only[Qc,Qk]at e;exact⟨E,xo e.1.1.2⟩
 have j:F.k t=2->F.n t=0/\(F.a t).size<=60:=λa=>by unfold cM at e;rw[Qd E,Qm a]at e;simp only[Qc,QP,eW,Qk]at e;exact⟨E,E⟩
 have a3:F.k t=3->(0<=F.n t/\F.n t<=1)/\F.a t=WT:=λa=>by unfold cM at e;rw[Qd E,Qd E,Qm a]at e;simp only[Qc,Qk]at e;exact⟨E,xo e.1.1.2⟩
 have i:(WT).size<=10000:=dS;refine⟨λa=>⟨(l a).2,g.1 E⟩,λa=>⟨E,g.1 E⟩,λa=>⟨(a3 a).2,(g.1 E).1,(g.1 E).2,by have:=(a3 a).1;omega⟩,
  λa=>⟨E,(f E).2,g.2.1 E⟩,λa=>f E,λa=>⟨E,(f E).2,g.2.1 E⟩,?_,?_,?_,o,λs a=>?_,p,q⟩
 .rcases b with c|c|c|c|c|c;·exact E
  .have:=(j c).1;omega
  .have:=(a3 c).1;omega
  .have:=(f (.inl c)).1;omega
  .have:=(f (.inr (.inl c))).1;omega
  .have:=(f (.inr (.inr c))).1;omega
 .rcases b with c|c|c|c|c|c;·exact E
  .have:=(j c).1;omega
  .have:=(a3 c).1;omega
  .have:=(f (.inl c)).1;omega
  .have:=(f (.inr (.inl c))).1;omega
  .have:=(f (.inr (.inr c))).1;omega
 .rcases b with c|c|c|c|c|c;·rw[(l c).2];exact i
  .have:=(j c).2;omega
  .rw[(a3 c).2];exact i
  .rw[(f (.inl c)).2];exact i
  .rw[(f (.inr (.inl c))).2];exact i
  .rw[(f (.inr (.inr c))).2];exact i
 .rcases b with c|c|c|c|c|c;·rw[(g.1 (.inl c)).1]at a;cases a
  .rw[(g.1 (.inr (.inl c))).1]at a;cases a
  .rw[(g.1 (.inr (.inr c))).1]at a;cases a
  .rw[g.2.1 (.inl c)]at a;cases a
  .have:=qaT (g.2.2 c).2 s a;omega
  .rw[g.2.1 (.inr c)]at a;cases a
def ry{l:List α}(h:J l=1):∃a,l=[a]:=List.length_eq_one_iff.1 h
def n8{l:List α}(h:J l=2):∃a b,l=[a,b]:=by
 match l,h with
 | [a,b],_=>exact⟨a,b,D⟩
def Oo{l:List α}(h:J l=3):∃a b c,l=[a,b,c]:=by
 match l,h with
 | [a,b,c],_=>exact⟨a,b,c,D⟩
def rT(X:List V6)(k:Nat)(h:k<J X):X.getD k dU=X[k]:=lW h
def Cx(a:V6)(k:Nat)(h:k<J (cL a)):(cL a).getD k dU=(cL a)[k]:=lW h
def Am(n:Int)(x:ZB)(s:ZB)(a:V6):e8 21 n x [s] [a]=(match fU (F.q a) (cL a) s with|Y=>.error 6|Z y=>.ok y):=by unfold e8 rR;rw[Qd zC,Qd zC,Qd zC,Qd zC,Qd zC,Qd zC,Qd zC,Qd zC,Qd zC,Qd zC,Qd zC,Qd zC,Qd zC,Qd zC,Qd zC,Qd zC,Qd zC];rw[show ([a].getD 0 dU)=a from D,show ([s].headD WT)=s from D];cases fU (F.q a) (cL a) s<;>rfl
def Al(n:Int)(x:ZB)(s:ZB)(a:V6):e8 23 n x [s] [a]=(match fU (F.q a) (cL a) s with|Y=>.error 6|Z _=>.ok (Bl a s)):=by unfold e8 rR;rw[Qd zC,Qd zC,Qd zC,Qd zC,Qd zC,Qd zC,Qd zC,Qd zC,Qd zC,Qd zC,Qd zC,Qd zC,Qd zC,Qd zC,Qd zC,Qd zC,Qd zC];rw[show ([a].getD 0 dU)=a from D,show ([s].headD WT)=s from D];cases fU (F.q a) (cL a) s<;>rfl
def CY{a:V6}(b:dB 6 a=true)(f:F.k a=5)(d:(F.q a)[k]?=Z x):k<J (F.o a)/\fU (F.q a) (cL a) x=Z ((cL a).getD k dU):=by obtain⟨-,-,g,e⟩:=pH b f;obtain⟨c,rfl⟩:=QN.1 d;have h:J (cL a)=J (F.o a):=Qv ..;refine⟨E,?_⟩;rw[Gl (F.q a) (cL a) k c E (CM e),Cx a k E]
def sr{a:V6}(b:dB 6 a=true)(f:F.k a=5):J (F.q a)=J (F.o a)/\J (F.o a)<=119/\(∀s,s∈F.q a->s.size<=8)/\DM (F.q a):=by obtain⟨-,-,e,c⟩:=pH b f;have g:1+cG (λk=>cJ 5 k) (F.o a)<=120:=(dr b).2;have h:=mR (n:=5) (d:=2) (Qo.2 (dY (n:=5) (dr b).1).2.2);exact⟨e,E,yG c,CM c⟩
def JB{c:Nat}{a:ZA}{m:W9}(h:w.ownsRow M m 1 (A a n c) k xs):n<=c:=by
 rcases h.2 with ⟨e,o⟩|⟨g,cap,d,e,f,p,l,i,j,b⟩;·cases e;exact E
 .cases e;omega
def M6(m:Nat)(t:T m):Bool:=c7 m t 1 && decide (cJ m t<=200) && decide (dC m t<=3000)
def wC{n:Nat}(p:ZB×T n):Bool:=dB n p.2 && c8 p.1
def pN{n:Nat}(l:List (ZB×T n)):gk:=(l.map λp=>(p.1,(fl 5 n p.2:V6))).reverse
def KZ(t:T m):GV m t false=(decide (iQ m t=86) && M6 m t):=by
 unfold GV M6;cases hg:c7 m t 1 with
 | false=>simp
 | true=>
  have b:1<=p8 m t/\p8 m t<=43:=by
   cases m with
   | zero=>exact Empty.elim (show Empty from t)
   | succ m=>simp only[c7,Qc]at hg;have h:=hg.1.2;unfold eQ at h;simp only[Qc,Qk]at h;exact h.1
  by_cases a:36<=p8 m t
  .have:iQ m t=65:=by unfold iQ vu;rw[Qd E,Qd E]
   rw[this];simp[a]
  .have:iQ m t=86:=by unfold iQ vu;rw[Qd E,Qm E]
   rw[this];simp[a]
def ny(m:Nat)(t:T m){n:Nat}(l:List (ZB×T n)):Except Int V6:=
 if GV m t false=true/\dX m t<=40000/\l.all wC=true then b7 m t (pN l) else .error 6
def Gw:∀(n:Nat)(t:T n)(d:Int),cS n t d=true->cJ n t<=120->kj n t:=by
 intro n;induction n with
 | zero=>intro t;exact Empty.elim (show Empty from t)
 | succ n i=>
  intro t d h c;have f:=(dY h).2.2;have e:1+cG (λx=>cJ n x) (F.o t)<=120:=c;have g:J (F.o t)<=cG (λx=>cJ n x) (F.o t):=mR (d:=d+1) zE;have b:=(dY h).2.1;have j:J (F.q t)<=J (F.o t):=by
   unfold cM at b;repeat' split at b
   all_goals first|(cases b;done)|(simp only[Qc,QP]at b;omega)
  exact NF h E E λk a=>i k (d+1) (f k a) (by have:=eK (λx=>cJ n x) _ _ a;omega)
def NG{t:V6}(h:dB 6 t=true):kj 6 t:=Gw 6 t 1 (dr h).1 (dr h).2
