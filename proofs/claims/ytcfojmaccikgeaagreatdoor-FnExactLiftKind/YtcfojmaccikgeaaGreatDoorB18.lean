import Derived.Test.YtcfojmaccikgeaaGreatDoorB17
import Derived.Lib.Hide
import Derived.WalkSmall
import Derived.LoopTactic
open Go.Value renaming slice→Zs,int→Zi,string→Zt,pointer→Zp,agg→Za
open Go.IntKind renaming i64→Zk
open Go.Ending renaming returned→Zr
open Go.Obj renaming cells→Zc
open Option renaming none→Zn,some→Zo
open Go renaming World→Zw
namespace Go.Proofs.YtcfojmaccikgeaaGreatDoor
open Go.RowKit Go.Proofs.Tryz
set_option maxRecDepth 100000
set_option maxHeartbeats 16000000
variable {α:Type} {k R q m:Nat} {ns:List ByteArray} {s r s2 c l:List UInt8} {w a b:Zw}
def oV{α:Type}(f:List UInt8->Option (α×List UInt8))(k:Nat)(a:List ByteArray)(acc:List α)(b:List UInt8):Option (List ByteArray×List α×List UInt8):=
 match jw 58 b with
 | none=>Zn
 | some (w,s2)=>
  match f (s2.drop 1) with
  | none=>Zn
  | some (t,r)=>jk f k (a++[bs w]) (acc++[t]) r
theorem CR{f:List UInt8->Option (α×List UInt8)}{acc:List α}(h:gA [125] s=Zo r):jk f (k+1) ns acc s=Zo (ns,acc,r):=by rw[jk,h]
theorem xN{f:List UInt8->Option (α×List UInt8)}{acc:List α}(h:gA [125] s=Zn)(a:ns.length=0):jk f (k+1) ns acc s=oV f k ns acc s:=by rw[jk,h];simp only[a,if_true];rfl
theorem AG{f:List UInt8->Option (α×List UInt8)}{acc:List α}{a:List UInt8}(h:gA [125] s=Zn)(c:¬ns.length=0)(b:gA [44] s=Zo a):jk f (k+1) ns acc s=oV f k ns acc a:=by rw[jk,h];simp only[if_neg c,b];rfl
theorem AK{f:List UInt8->Option (α×List UInt8)}{acc:List α}(h:gA [125] s=Zn)(a:¬ns.length=0)(b:gA [44] s=Zn):jk f (k+1) ns acc s=Zn:=by rw[jk,h];simp only[if_neg a,b]
theorem FW{f:List UInt8->Option (α×List UInt8)}{acc:List α}(h:jw 58 s=Zn):oV f k ns acc s=Zn:=by rw[oV,h]
theorem CY{f:List UInt8->Option (α×List UInt8)}{acc:List α}{w:List UInt8}(h:jw 58 s=Zo (w,s2))(a:f (s2.drop 1)=Zn):oV f k ns acc s=Zn:=by rw[oV,h];simp only[a]
theorem Cx{f:List UInt8->Option (α×List UInt8)}{acc:List α}{w:List UInt8}{t:α}(h:jw 58 s=Zo (w,s2))(a:f (s2.drop 1)=Zo (t,r)):oV f k ns acc s=jk f k (ns++[bs w]) (acc++[t]) r:=by rw[oV,h];simp only[a]
def lv(R:Nat)(s:ByteArray)(i m:Nat)(w:Zw)(e:Ending)(w':Zw):Prop:=
 (∃(k:K m)(q:Nat)(c0 c1 c2:Value),gb m (s.data.toList.drop i)=Zo (k,s.data.toList.drop q)/\i<q/\q<=s.size/\e=Zr (Za #[c0,c1,c2])/\a8 (fun b=>w.heap.size<=b/\b<w'.heap.size) w' m k c0 c1 c2/\gG R w w' q) ∨
  (gb m (s.data.toList.drop i)=Zn/\e=.panicked k9/\b7 R w w')
def qS(m:Nat):Prop:=∀(R:Nat)(s:ByteArray)(i:Nat)(w:Zw),Sc w R s i->i<=s.size->s.size<=10000->s.size-i<m ->
 Calls prog 215 #[Zp (Zo ⟨R,0,Zn⟩)] w (lv R s i m w)
def n0(m:Nat)(s:ByteArray)(i:Nat):Option (List ByteArray×List (K m)×List UInt8):=jk (gb m) ((s.data.toList.drop (i+1)).length+1) [] [] (s.data.toList.drop (i+1))
def vR(R:Nat)(s:ByteArray)(i m:Nat)(w:Zw)(e:Ending)(w':Zw):Prop:=
 (∃(d:List ByteArray)(h:List (K m))(q:Nat)(na:Option Addr)(f:Nat)(c:Option Addr)(g a:Nat),gA [123] (s.data.toList.drop i)=Zo (s.data.toList.drop (i+1))/\n0 m s i=Zo (d,h,s.data.toList.drop q)/\i<q/\q<=s.size/\a<=10000 /\
  e=Zr (.tuple #[Zs na a f,Zs c a g])/\fL (fun b=>w.heap.size<=b/\b<w'.heap.size) w' d (Zs na a f) /\
  gU (fun b=>w.heap.size<=b/\b<w'.heap.size) w' (a8 (fun b=>w.heap.size<=b/\b<w'.heap.size) w' m) h (Zs c a g)/\gG R w w' q) ∨
  ((gA [123] (s.data.toList.drop i)=Zn∨(gA [123] (s.data.toList.drop i)=Zo (s.data.toList.drop (i+1))/\n0 m s i=Zn))/\e=.panicked k9/\b7 R w w')
theorem gG.same{c:Zw}(h:gG R a b q)(e:b7 R a c)(d:c.heap[R]?=b.heap[R]?):gG R a c q:=
 ⟨e,fun o f=>(World.cell?_of_block (w:=b) (w':=c) (a:=⟨R,o,Zn⟩) d).trans (h.cells o f),(World.cell?_of_block (w:=b) (w':=c) (a:=⟨R,1,Zn⟩) d).trans h.at1,fun o=>by
  have:=h.fz o
  simp only[World.frozen?,d]at this ⊢
  exact this⟩
def atS(w:Zw)(R:Nat):Nat:=match w.cell? ⟨R,1,Zn⟩ with|Zo (Zi _ n)=>n.toNat|_=>0
theorem gG.atS(h:gG R a b q):atS b R=q:=by unfold Go.Proofs.YtcfojmaccikgeaaGreatDoor.atS;rw[h.at1];simp
theorem Tryz.info_strQ:(prog.info? 9).map (fun i=>(i.zero,i.size,i.bytes))=Zo (Zo (Zt ⟨#[]⟩),1,16):=by kernel_rfl
theorem Tryz.info_kindQ:(prog.info? 31).map (fun i=>(i.zero,i.size,i.bytes))=Zo (Zo (Za #[Zi Zk 0,Zs Zn 0 0,Zs Zn 0 0]),3,56):=by kernel_rfl
theorem wI (m:Nat) (hm:qS m) (R:Nat) (s:ByteArray) (i:Nat) (w:Zw) (h:Sc w R s i) (hi:i<=s.size) (hs:s.size<=10000) (aN:s.size - i<=m) :
  Calls prog 239 #[Zp (Zo ⟨R,0,Zn⟩),.func (.func 215) #[Zp (Zo ⟨R,0,Zn⟩)] #[]] w (vR R s i m w):=by
 have HW:Hid (Calls prog 238 #[Zp (Zo ⟨R,0,Zn⟩),Zt ⟨#[123]⟩] w _):=pR w R s ⟨#[123]⟩ i h hs zC hi;have hR:=h.lt;have HM:Hid (qS m):=hm;have l:Hid (Sc w R s i):=h;clear h hm;go_in;go_wp2_with fail;refine HW.out.mono ?_;rintro e w1 (⟨h1,rfl,Z,h3⟩|⟨h1,rfl,Z⟩);case inr=>exact⟨rfl,.inr ⟨.inl h1,rfl,Z⟩⟩
 have HE:Hid (gA [123] (s.data.toList.drop i)=Zo (s.data.toList.drop (i+1))):=h1;have Z:gG R w w1 (i+1):=Z;have h3:i+1<=s.size:=h3;clear h1 HW;go_wp2;go_loopw [4,5] (fun nv kv wr=>∃ (f:List ByteArray) (k:List (K m)) (j c a:Nat) (na:Option Addr) (z:Nat) (o:Option Addr) (v:Nat),f.length=a/\k.length=a/\a<=j/\nv=Zs na a z/\kv=Zs o a v/\jM R m w wr f k (Zs na a z) (Zs o a v)/\gG R w wr j/\i<j/\j<=s.size /\
   jk (gb m) (c+1) f k (s.data.toList.drop j)=n0 m s i/\s.size-j<=c) (fun _ _ wr=>s.size-atS wr R)
 case atStart=>exact⟨[],[],i+1,(s.data.toList.drop (i+1)).length,0,Zn,0,Zn,0,rfl,rfl,om,rfl,rfl,jM.start R m w w1 Z.near,Z,om,h3,rfl,zS⟩
 case round=>
  obtain⟨f,k,j,c,a,na,z,o,v,ar,av,aL,rfl,rfl,hF,hS,aM,hj,hG,aI⟩:=hrel;have p:Hid (f.length=a/\k.length=a):=⟨ar,av⟩;have HF:Hid (jM R m w wr f k (Zs na a z) (Zs o a v)):=hF;have HS:Hid (gG R w wr j):=hS;have HG:Hid (jk (gb m) (c+1) f k (s.data.toList.drop j)=n0 m s i):=hG;have HA:Hid (atS wr R=j):=hS.atS;have HC:Hid (Calls prog 237 #[Zp (Zo ⟨R,0,Zn⟩),Zt ⟨#[125]⟩] wr _):=lR wr R s ⟨#[125]⟩ j (hS.sc l.out) hs zC hj;clear ar av hF hS hG Z h3;go_wp2_with fail;refine HC.out.mono ?_;rintro e w1 (⟨L,rfl,N,p3⟩|⟨L,rfl,N⟩)
  ·have HP:Hid (vR R s i m w (Zr (.tuple #[Zs na a z,Zs o a v])) w1):=by have N:gG R wr w1 (j+1):=N;have p3:j+1<=s.size:=p3;have aG:=HF.out.keep hR N.near;obtain⟨r1,r2⟩:=aG.rows (by rw[p.out.1];omega) (by rw[p.out.2];omega);exact .inl ⟨f,k,j+1,na,z,o,v,a,HE.out,by rw[<- HG.out];exact CR L,om,p3,om,rfl,r1,r2,HS.out.trans N⟩
   clear L N p3 HC HF HS HG;go_wp2;go_ret2;exact HP.out
  ·have L:gA [125] (s.data.toList.drop j)=Zn:=L;have I:Hid (jM R m w w1 f k (Zs na a z) (Zs o a v)):=HF.out.keep hR N.near;have y:Hid (gG R w w1 j):=HS.out.trans N;clear HF HS HC N;have ae:Hid (∀W,n0 m s i=Zn->b7 R w W->vR R s i m w (.panicked k9) W):=fun W h1 Z=>.inr ⟨.inr ⟨HE.out,h1⟩,rfl,Z⟩;rcases Nat.eq_zero_or_pos a with h0|h0;case' inl=>
    obtain⟨d,n⟩:=iw j;have HQ:Hid (oV (gb m) c f k (s.data.toList.drop d)=n0 m s i):=by show _=_;rw[n,<- HG.out];exact (xN L (by rw[p.out.1];exact h0)).symm
    have D:Hid (gG R w w1 d):=by rw[n];exact y
    have ac:d<=s.size:=om;have aE:j<=d:=om;have hd:(0<a)=False:=eq_false om;clear h0 y HG n L;go_wp2_with fail;clear hd
   case' inr=>
    have HC:Hid (Calls prog 238 #[Zp (Zo ⟨R,0,Zn⟩),Zt ⟨#[44]⟩] w1 _):=pR w1 R s ⟨#[44]⟩ j (y.out.sc l.out) hs zC hj;have hd:0<a:=h0;go_wp2_with fail;refine HC.out.mono ?_;rintro e w1 (⟨q1,rfl,q2,q3⟩|⟨q1,rfl,q2⟩);case inr=>refine⟨rfl,ae.out w1 ?_ (y.out.near.trans q2)⟩;rw[<- HG.out];exact AK L (by rw[p.out.1];omega) q1
    obtain⟨d,n⟩:=iw (j+1);have q2:gG R _ w1 (j+1):=q2;have q3:j+1<=s.size:=q3;have HQ:Hid (oV (gb m) c f k (s.data.toList.drop d)=n0 m s i):=by show _=_;rw[n,<- HG.out];exact (AG L (by rw[p.out.1];omega) q1).symm
    have D:Hid (gG R w w1 d):=by rw[n];exact y.out.trans q2
    have ac:d<=s.size:=om;have aE:j<=d:=om;have al:=I.out.keep hR q2.near;clear I;have I:Hid (jM R m w w1 f k (Zs na a z) (Zs o a v)):=al;clear al y HG n L q1 q2 q3 h0 HC;go_wp2_with fail;clear hd
   all_goals
    have HU:Hid (Calls prog 253 #[Zp (Zo ⟨R,0,Zn⟩),Zi .u8 58] w1 (vr 58 w1 R s d)):=D1 58 w1 R s d (D.out.sc l.out) hs ac
    refine HU.out.mono ?_
    rintro e T (⟨x,u1,rfl,u2,u3⟩|⟨u1,rfl,u2⟩)
    case inr=>exact⟨rfl,ae.out T (by rw[<- HQ.out];exact FW u1) (D.out.near.trans u2)⟩
    have u2:gG R w1 T (d+x.length):=u2
    have aD:(bs x).size<=10000:=by rw[go];omega
    have aa:Hid (jM R m w T f k (Zs na a z) (Zs o a v)):=I.out.keep hR u2.near
    have au:Hid (gG R w T (d+x.length)):=D.out.trans u2
    have V:Hid (jw 58 (s.data.toList.drop d)=Zo (x,s.data.toList.drop (d+x.length))):=u1
    have HO:Hid (T.ownsRow w.heap.size 9 1 (Zs na a z) a (f.map Zt)):=by
     have:=aa.out.names
     rw[p.out.1]at this;exact this
    have aK:=aa.out.near.size
    obtain⟨ay,A,B,J,C⟩:=info_parts Tryz.info_strQ
    have P:Hid (_/\_/\_/\_):=⟨A,B,J,C⟩
    clear A B J C u1 u2 I D HU
    go_wp2_with (at_builtin;refine wpList_append_lies _ rfl (.tmp 16) (.tmp 19) 23 rfl w.heap.size 9 ay _ 1 16 underlying23 P.out.1 P.out.2.1 P.out.2.2.1 P.out.2.2.2 rfl zC (Zs na a z) a (f.map Zt) rfl (HO.out.alloc _) ⟨T.heap.size,0,Zn⟩ 1 1 [Zt (bs x)] rfl rfl (World.news_of_block (heap_alloc_new T _)) (by simp[Value.oneCell']) zC (by unfold maxLen;omega) om zE (T.heap.size+1) zS ?_;intro g cap w3 H r ad ak;refine Hid.out ?_)
    refine Lib.hid ?_
    obtain⟨Q,am,aF⟩:=aa.out.name (Wa:=T.alloc (Zc #[Zt (bs x)] 9)) (one:=Zc #[Zt (bs x)] 9) (x:=bs x) (g:=g) (cap:=cap) rfl ⟨rfl,rfl,rfl⟩ aD (by rw[p.out.1];exact H) r ad
    rw[p.out.1]at Q
    have ax:Hid (jM R m w w3 (f++[bs x]) k (Zs (Zo ⟨g,0,Zn⟩) (a+1) cap) (Zs o a v)):=Q
    have ag:Hid (gG R w w3 (d+x.length)):=au.out.same Q.near (am R hR)
    have ap:Hid (Calls prog 238 #[Zp (Zo ⟨R,0,Zn⟩),Zt ⟨#[58]⟩] w3 _):=pR w3 R s ⟨#[58]⟩ (d+x.length) (ag.out.sc l.out) hs zC om
    clear Q am aF H r ad ak HO aa au
    go_wp2_with fail
    refine ap.out.mono ?_
    rintro e S (⟨v1,rfl,v2,v3⟩|⟨v1,rfl,v2⟩)
    case inr=>
     have v1:gA [58] (s.data.toList.drop (d+x.length))=Zn:=v1
     obtain⟨r',e1,-⟩:=rq V.out
     rw[e1,gQ]at v1
     cases v1
    have v2:gG R w3 S (d+x.length+1):=v2
    have v3:d+x.length+1<=s.size:=v3
    have ah:=ax.out.keep hR v2.near
    have af:Hid (jM R m w S (f++[bs x]) k (Zs (Zo ⟨g,0,Zn⟩) (a+1) cap) (Zs o a v)):=ah
    have Y:Hid (gG R w S (d+x.length+1)):=ag.out.trans v2
    have HK:Hid (Calls prog 215 #[Zp (Zo ⟨R,0,Zn⟩)] S (lv R s (d+x.length+1) m S)):=HM.out R s _ S (Y.out.sc l.out) v3 hs om
    obtain⟨xs,E,ai⟩:=ah.kids
    have ao:Hid (∀q (h:q<k.length),_):=ai
    have O:Hid (S.ownsRow w.heap.size 31 3 (Zs o a v) a xs):=by
     rw[p.out.2]at E;exact E
    clear v1 v2 ah E ai ax ag ap
    go_wp2_with fail
    refine HK.out.mono ?_
    rintro e M (⟨t,q,c0,c1,c2,y1,y2,y3,rfl,y4,y5⟩|⟨y1,rfl,y2⟩)
    case inr=>
     refine⟨rfl,ae.out M ?_ (Y.out.near.trans y2)⟩
     rw[<- HQ.out]
     refine CY V.out ?_
     rw[List.drop_drop];exact y1
    obtain⟨z0,za,zl,zc,ua,ul,uc,rfl,rfl,rfl⟩:=y4.shape
    have aO:=y5.near.size
    have aJ:=af.out.near.size
    have an:Hid (M.ownsRow w.heap.size 31 3 (Zs o a v) a xs):=gg O.out (fun g' az=>by
     have:=fR O.out g' az
     exact y5.near.block g' this.2 om)
    have HY:Hid (a8 (fun b=>S.heap.size<=b/\b<M.heap.size) M m t (Zi Zk z0) (Zs za zl zc) (Zs ua ul uc)/\gG R S M q):=⟨y4,y5⟩
    have aC:Hid (jk (gb m) c (f++[bs x]) (k++[t]) (s.data.toList.drop q)=n0 m s i):=by
     show _=_
     rw[<- HQ.out]
     refine (Cx V.out ?_).symm
     rw[List.drop_drop];exact y1
    obtain⟨aB,A,B,J,C⟩:=info_parts Tryz.info_kindQ
    have U:Hid (_/\_/\_/\_):=⟨A,B,J,C⟩
    clear A B J C y1 y4 y5 HK HQ V
    go_wp2_with (at_builtin;refine wpList_append_lies _ rfl (.tmp 23) (.tmp 26) 29 rfl w.heap.size 31 aB _ 3 56 underlying29 U.out.1 U.out.2.1 U.out.2.2.1 U.out.2.2.2 rfl zC (Zs o a v) a xs rfl (an.out.alloc _) ⟨M.heap.size,0,Zn⟩ 1 1 [Zi Zk z0,Zs za zl zc,Zs ua ul uc] rfl rfl (World.news_of_block (heap_alloc_new M _)) (by simp[Value.oneCell']) zC (by unfold maxLen;omega) om zE (M.heap.size+1) zS ?_;intro g2 G w6 F u ab aq;refine Hid.out ?_)
    refine Lib.hid ?_
    obtain⟨X,aw,aA⟩:=af.out.kid (W1:=M) (Wa:=M.alloc (Zc #[Zi Zk z0,Zs za zl zc,Zs ua ul uc] 31)) (one:=Zc #[Zi Zk z0,Zs za zl zc,Zs ua ul uc] 31) (g:=g2) (cap:=G) hR HY.out.2.near HY.out.1 rfl ⟨rfl,rfl,rfl⟩ (by rw[p.out.2];exact O.out) ao.out (by rw[p.out.2];exact F) u ab
    rw[p.out.2]at X
    have aH:Hid (jM R m w w6 (f++[bs x]) (k++[t]) (Zs (Zo ⟨g,0,Zn⟩) (a+1) cap) (Zs (Zo ⟨g2,0,Zn⟩) (a+1) G)):=X
    have aj:Hid (gG R w w6 q):=(Y.out.trans HY.out.2).same X.near (aw R hR)
    obtain⟨f',rfl⟩:∃f',c=f'+1:=⟨c-1,om⟩
    clear X aw aA F u ab aq an O ao af Y HY
    go_wp2
    go_roundw
    case rel=>exact⟨f++[bs x],k++[t],q,f',a+1,Zo ⟨g,0,Zn⟩,cap,Zo ⟨g2,0,Zn⟩,G,by simp[p.out.1],by simp[p.out.2],om,rfl,rfl,aH.out,aj.out,om,y3,aC.out,om⟩
    case measure=>rw[aj.out.atS,HA.out];omega
theorem jJ {N:Nat} (h:w.heap[N]?=Zo (Zc #[Zi Zk 0,Zs Zn 0 0,Zs Zn 0 0] 31 (0,0))) :
  (w.cell? ⟨N,0,Zn⟩=Zo (Zi Zk 0)/\w.cell? ⟨N,1,Zn⟩=Zo (Zs Zn 0 0)/\w.cell? ⟨N,2,Zn⟩=Zo (Zs Zn 0 0)) /\
   w.frozen? ⟨N,0,Zn⟩=false/\w.frozen? ⟨N,1,Zn⟩=false/\w.frozen? ⟨N,2,Zn⟩=false:=by refine⟨⟨?_,?_,?_⟩,?_,?_,?_⟩<;>simp[World.cell?,World.frozen?,h]
theorem gG.alloc{w1:Zw}{o:Obj}(h:gG R (w.alloc o) w1 q)(b:R<w.heap.size):gG R w w1 q:=
 ⟨(b7.alloc R w o).trans h.near,fun p c=>(h.cells p c).trans (World.cell?_of_block (w:=w) (w':=w.alloc o) (a:=⟨R,p,Zn⟩) (Below.heap_alloc _ _ _ b)),h.at1,fun p=>(h.fz p).trans (by
  have:(w.alloc o).heap[R]?=w.heap[R]?:=Below.heap_alloc _ _ _ b
  simp only[World.frozen?,this])⟩
theorem oM {i:Nat} {s:ByteArray} {W:Zw} {k:K (m+1)} {g0 g1 g2:Value} (a:gG R w W q) (o:R<w.heap.size) (g:gb (m+1) (s.data.toList.drop i)=Zo (k,s.data.toList.drop q)) (d:i<q) (n:q<=s.size)
  (l:a8 (fun b=>w.heap.size+1<=b/\b<W.heap.size) W (m+1) k g0 g1 g2):lv R s i (m+1) w (Zr (Za #[g0,g1,g2])) (ij W w.heap.size 0 g0 g1 g2):=by have q:∀b,b≠w.heap.size->(ij W w.heap.size 0 g0 g1 g2).heap[b]?=W.heap[b]?:=fun b h=>gR h;have f:(ij W w.heap.size 0 g0 g1 g2).heap.size=W.heap.size:=iq;have j:b7 R w (ij W w.heap.size 0 g0 g1 g2):=⟨a.near.os,a.near.tape,a.near.output,by rw[f];exact a.near.size,fun b c e=>(q b om).trans (a.near.block b c e)⟩;refine .inl ⟨k,_,g0,g1,g2,g,d,n,rfl,l.keep (fun b c=>q b om) (fun b c=>⟨om,by rw[f];exact c.2⟩),a.same j (q R om)⟩
theorem wg(S:Nat->Prop)(w:Zw)(m:Nat)(x:Int)(a:(Lit.int Zk x).wf=true):a8 S w (m+1) (⟨x,[],[]⟩:Kd (K m)) (Zi Zk x) (Zs Zn 0 0) (Zs Zn 0 0):=
 ⟨rfl,a,⟨Zn,0,rfl,by simp[maxLen],fun s h=>(by cases h),fun h=>absurd rfl h⟩,⟨Zn,0,rfl,by simp[maxLen],fun h=>absurd rfl h⟩⟩
theorem EP {S:Nat->Prop} {x:Int} {t:K m} {b c:Nat} {c0 c1 c2:Value} (f:(Lit.int Zk x).wf=true) (j:S b) (g:w.cell? ⟨b,0,Zn⟩=Zo c0) (d:w.cell? ⟨b,1,Zn⟩=Zo c1) (a:w.cell? ⟨b,2,Zn⟩=Zo c2) (e:a8 S w m t c0 c1 c2) :
  a8 S w (m+1) (⟨x,[],[t]⟩:Kd (K m)) (Zi Zk x) (Zs Zn 0 0) (Zs (Zo ⟨b,0,Zn⟩) 1 c):=by
 refine⟨rfl,f,⟨Zn,0,rfl,by simp[maxLen],fun s h=>(by cases h),fun h=>absurd rfl h⟩,⟨Zo ⟨b,0,Zn⟩,c,rfl,by simp[maxLen],fun _=>⟨b,0,rfl,j,fun i hi=>?_⟩⟩⟩;have:i=0:=by simpa using hi
 subst this;exact⟨c0,c1,c2,by simpa using g,by simpa using d,by simpa using a,e⟩
theorem H3 (c:gA [110,117,109] l=Zn) (b:gA [116,101,120,116] l=Zn) (d:gA [102,108,97,103] l=Zn) (e:gA [91] l=Zo r) :
  (nG (gb m) [93] r=Zn->gb (m+1) l=Zn)/\(∀k a,nG (gb m) [93] r=Zo (k,a)->gb (m+1) l=Zo ((⟨4,[],[k]⟩:Kd (K m)),a)):=by
 refine⟨fun h=>?_,fun k a h=>?_⟩;·simp only[gb,c,b,d,e,h]
 ·simp only[gb,c,b,d,e,h];rfl
theorem F7 (d:gA [110,117,109] l=Zn) (b:gA [116,101,120,116] l=Zn) (e:gA [102,108,97,103] l=Zn) (f:gA [91] l=Zn) (c:gA [63] l=Zo r) :
  (gb m r=Zn->gb (m+1) l=Zn)/\(∀k a,gb m r=Zo (k,a)->gb (m+1) l=Zo ((⟨6,[],[k]⟩:Kd (K m)),a)):=by
 refine⟨fun h=>?_,fun k a h=>?_⟩;·simp only[gb,nG,d,b,e,f,c,h]
 ·simp only[gb,nG,Fm,d,b,e,f,c,h];rfl
theorem Hw (d:gA [110,117,109] l=Zn) (a:gA [116,101,120,116] l=Zn) (e:gA [102,108,97,103] l=Zn) (g:gA [91] l=Zn) (b:gA [63] l=Zn) :
  (gA [123] l=Zn->gb (m+1) l=Zn)/\(∀r,gA [123] l=Zo r->(jk (gb m) (r.length+1) [] [] r=Zn->gb (m+1) l=Zn)/\(∀f c j,jk (gb m) (r.length+1) [] [] r=Zo (f,c,j)->gb (m+1) l=Zo ((⟨5,f,c⟩:Kd (K m)),j))):=by
 refine⟨fun h=>?_,fun r h=>⟨fun i=>?_,fun f c j i=>?_⟩⟩;·simp only[gb,d,a,e,g,b,h]
 ·simp only[gb,d,a,e,g,b,h,i]
 ·simp only[gb,d,a,e,g,b,h,i];rfl
theorem Co{f:List UInt8->Option (α×List UInt8)}(h:f s=Zn):nG f c s=Zn:=by simp only[nG,h]
theorem Cy{f:List UInt8->Option (α×List UInt8)}{k:α}(h:f s=Zo (k,r))(a:gA c r=Zn):nG f c s=Zn:=by simp only[nG,h,a]
theorem Gj{f:List UInt8->Option (α×List UInt8)}{a:List UInt8}{k:α}(h:f s=Zo (k,r))(b:gA c r=Zo a):nG f c s=Zo (k,a):=by simp only[nG,h,b]
theorem Dk(m:Nat)(hm:qS m):qS (m+1):=by
 intro R s i w h hi X an;have hR:=h.lt;obtain⟨W,hW⟩:=iw (w.alloc (Zc #[Zi Zk 0,Zs Zn 0 0,Zs Zn 0 0] 31));have al:W.heap.size=w.heap.size+1:=by rw[hW];simp
 have ak:Bw w W:=by rw[hW];exact gF _ _
 have HZ:Hid (W.heap[w.heap.size]?=Zo (Zc #[Zi Zk 0,Zs Zn 0 0,Zs Zn 0 0] 31 (0,0))):=by rw[hW];exact heap_alloc_new _ _
 have f:Hid (gG R w W i):=(gG.refl h).below ak hR;have y:Hid (Sc w R s i):=h;have HM:Hid (qS m):=hm;have I:Hid (∀W1 q,gG R W W1 q->W1.heap[w.heap.size]?=Zo (Zc #[Zi Zk 0,Zs Zn 0 0,Zs Zn 0 0] 31 (0,0))):=fun W1 q hq=>(hq.near.block w.heap.size om om).trans HZ.out;have ad:Hid (Calls prog 237 #[Zp (Zo ⟨R,0,Zn⟩),Zt ⟨#[110,117,109]⟩] W _):=lR W R s ⟨#[110,117,109]⟩ i (f.out.sc h) X zC hi;clear h hm;go_in;go_wp2_with fail;rw[<- hW];clear hW;refine ad.out.mono ?_;rintro e w1 (⟨d,rfl,c,z⟩|⟨d,rfl,c⟩)
 ·have d:gA [110,117,109] (s.data.toList.drop i)=Zo (s.data.toList.drop (i+3)):=d;have c:gG R W w1 (i+3):=c;have O:Hid (lv R s i (m+1) w (Zr (Za #[Zi Zk 1,Zs Zn 0 0,Zs Zn 0 0])) (ij w1 w.heap.size 0 (Zi Zk 1) (Zs Zn 0 0) (Zs Zn 0 0))):=
   oM (f.out.trans c) hR (by simp only[gb,d]) om z (wg _ _ m 1 rfl)
  obtain⟨⟨K,J,M⟩,f0,f1,f2⟩:=jJ (I.out w1 _ c);clear d c z ad;go_wp2_with fail;refine bodyPost_ret (v:=Za #[Zi Zk 1,Zs Zn 0 0,Zs Zn 0 0]) (by simp[results,results215,go_sem,K,J,M]) rfl ?_;exact O.out
 have x:Hid (gA [110,117,109] (s.data.toList.drop i)=Zn):=d;have ae:Hid (gG R W w1 i):=c;have af:Hid (Calls prog 237 #[Zp (Zo ⟨R,0,Zn⟩),Zt ⟨#[116,101,120,116]⟩] w1 _):=lR w1 R s ⟨#[116,101,120,116]⟩ i ((f.out.trans c).sc y.out) X zC hi;clear d c ad;go_wp2_with fail;refine af.out.mono ?_;rintro e w2 (⟨d,rfl,c,z⟩|⟨d,rfl,c⟩)
 ·have d:gA [116,101,120,116] (s.data.toList.drop i)=Zo (s.data.toList.drop (i+4)):=d;have c:gG R W w2 (i+4):=ae.out.trans c;have O:Hid (lv R s i (m+1) w (Zr (Za #[Zi Zk 2,Zs Zn 0 0,Zs Zn 0 0])) (ij w2 w.heap.size 0 (Zi Zk 2) (Zs Zn 0 0) (Zs Zn 0 0))):=
   oM (f.out.trans c) hR (by simp only[gb,x.out,d]) om z (wg _ _ m 2 rfl)
  obtain⟨⟨K,J,M⟩,f0,f1,f2⟩:=jJ (I.out w2 _ c);clear d c z af;go_wp2_with fail;refine bodyPost_ret (v:=Za #[Zi Zk 2,Zs Zn 0 0,Zs Zn 0 0]) (by simp[results,results215,go_sem,K,J,M]) rfl ?_;exact O.out
 have F:Hid (gA [116,101,120,116] (s.data.toList.drop i)=Zn):=d;have V:Hid (gG R W w2 i):=ae.out.trans c;have ac:Hid (Calls prog 237 #[Zp (Zo ⟨R,0,Zn⟩),Zt ⟨#[102,108,97,103]⟩] w2 _):=lR w2 R s ⟨#[102,108,97,103]⟩ i ((f.out.trans V.out).sc y.out) X zC hi;clear d c af ae;go_wp2_with fail;refine ac.out.mono ?_;rintro e w3 (⟨d,rfl,c,z⟩|⟨d,rfl,c⟩)
 ·have d:gA [102,108,97,103] (s.data.toList.drop i)=Zo (s.data.toList.drop (i+4)):=d;have c:gG R W w3 (i+4):=V.out.trans c;have O:Hid (lv R s i (m+1) w (Zr (Za #[Zi Zk 3,Zs Zn 0 0,Zs Zn 0 0])) (ij w3 w.heap.size 0 (Zi Zk 3) (Zs Zn 0 0) (Zs Zn 0 0))):=
   oM (f.out.trans c) hR (by simp only[gb,x.out,F.out,d]) om z (wg _ _ m 3 rfl)
  obtain⟨⟨K,J,M⟩,f0,f1,f2⟩:=jJ (I.out w3 _ c);clear d c z ac;go_wp2_with fail;refine bodyPost_ret (v:=Za #[Zi Zk 3,Zs Zn 0 0,Zs Zn 0 0]) (by simp[results,results215,go_sem,K,J,M]) rfl ?_;exact O.out
 have H:Hid (gA [102,108,97,103] (s.data.toList.drop i)=Zn):=d;have L:Hid (gG R W w3 i):=V.out.trans c;have ab:Hid (Calls prog 237 #[Zp (Zo ⟨R,0,Zn⟩),Zt ⟨#[91]⟩] w3 _):=lR w3 R s ⟨#[91]⟩ i ((f.out.trans L.out).sc y.out) X zC hi;clear d c ac V;go_wp2_with fail;refine ab.out.mono ?_;rintro e S (⟨d,rfl,c,z⟩|⟨d,rfl,c⟩)
 ·have d:gA [91] (s.data.toList.drop i)=Zo (s.data.toList.drop (i+1)):=d;have c:gG R W S (i+1):=L.out.trans c;have z:i+1<=s.size:=z;have n:Hid (_/\_):=H3 (m:=m) x.out F.out H.out d;have r:Hid (gG R W S (i+1)):=c;have Z:Hid (Calls prog 215 #[Zp (Zo ⟨R,0,Zn⟩)] S (lv R s (i+1) m S)):=HM.out R s _ S ((f.out.trans c).sc y.out) z X om;clear d c ab L x F H;go_wp2_with fail;refine Z.out.mono ?_;rintro e l (⟨t,q,c0,c1,c2,u,U,y3,rfl,y4,P⟩|⟨u,rfl,U⟩);case inr=>refine⟨rfl,.inr ⟨?_,rfl,(f.out.trans r.out).near.trans U⟩⟩;exact n.out.1 (Co u)
  obtain⟨z0,B,D,C,A,G,E,rfl,rfl,rfl⟩:=y4.shape;have aj:=P.near.size;have am:=r.out.near.size;have HY:Hid (a8 (fun b=>S.heap.size<=b/\b<l.heap.size) l m t (Zi Zk z0) (Zs B D C) (Zs A G E)):=y4;have ai:Bw l (l.alloc (Zc #[Zi Zk z0,Zs B D C,Zs A G E] 31)):=gF _ _;have g:Hid (gG R W (l.alloc (Zc #[Zi Zk z0,Zs B D C,Zs A G E] 31)) q):=(r.out.trans P).below ai om;have Q:=jX.new l (Zi Zk z0) (Zs B D C) (Zs A G E) 31;have HW:Hid (Calls prog 238 #[Zp (Zo ⟨R,0,Zn⟩),Zt ⟨#[93]⟩] (l.alloc (Zc #[Zi Zk z0,Zs B D C,Zs A G E] 31)) _):=pR _ R s ⟨#[93]⟩ q ((f.out.trans g.out).sc y.out) X zC y3;have aa:Hid (gb m (s.data.toList.drop (i+1))=Zo (t,s.data.toList.drop q)):=u;clear Z y4 P u;go_wp2_with fail;refine HW.out.mono ?_;rintro e k (⟨v1,rfl,v2,v3⟩|⟨v1,rfl,v2⟩);case inr=>exact⟨rfl,.inr ⟨n.out.1 (Cy aa.out v1),rfl,(f.out.trans g.out).near.trans v2⟩⟩
  have v2:gG R _ k (q+1):=v2;have ah:=v2.near.size;simp only[World.size_alloc]at ah;have kk:∀o,k.cell? ⟨l.heap.size,o,Zn⟩=(l.alloc (Zc #[Zi Zk z0,Zs B D C,Zs A G E] 31)).cell? ⟨l.heap.size,o,Zn⟩:=fun o=>World.cell?_of_block (a:=⟨l.heap.size,o,Zn⟩) (v2.near.block l.heap.size zS om);have k0:=(kk 0).trans Q.c0;have k1:=(kk 1).trans Q.c1;have k2:=(kk 2).trans Q.c2;have N:Bw k (k.alloc (Zc #[Zi Zk z0,Zs B D C,Zs A G E] 31)):=gF _ _;have j:Hid (gG R W (k.alloc (Zc #[Zi Zk z0,Zs B D C,Zs A G E] 31)) (q+1)):=(g.out.trans v2).below N om;have p:=jX.new k (Zi Zk z0) (Zs B D C) (Zs A G E) 31;have O:Hid (lv R s i (m+1) w (Zr (Za #[Zi Zk 4,Zs Zn 0 0,Zs (Zo ⟨k.heap.size,0,Zn⟩) 1 1])) (ij (k.alloc (Zc #[Zi Zk z0,Zs B D C,Zs A G E] 31)) w.heap.size 0 (Zi Zk 4) (Zs Zn 0 0) (Zs (Zo ⟨k.heap.size,0,Zn⟩) 1 1))):=by refine oM (f.out.trans j.out) hR (n.out.2 _ _ (Gj aa.out v1)) (by show i<q+1;omega) v3 (EP rfl ⟨om,zS⟩ p.c0 p.c1 p.c2 ?_);refine HY.out.keep (fun b Y=>?_) (fun b Y=>⟨om,zE⟩);rw[Below.heap_alloc _ _ _ om,v2.near.block b zE om,Below.heap_alloc _ _ _ Y.2]
  obtain⟨⟨K,J,M⟩,f0,f1,f2⟩:=jJ (I.out _ _ j.out);clear v1 v2 v3 HW HY aa g j Q p ai N kk;go_wp2_with fail;refine bodyPost_ret (v:=Za #[Zi Zk 4,Zs Zn 0 0,Zs (Zo ⟨k.heap.size,0,Zn⟩) 1 1]) (by simp[results,results215,go_sem,K,J,M]) rfl ?_;exact O.out
 have T:Hid (gA [91] (s.data.toList.drop i)=Zn):=d;have r:Hid (gG R W S i):=L.out.trans c;have ag:Hid (Calls prog 237 #[Zp (Zo ⟨R,0,Zn⟩),Zt ⟨#[63]⟩] S _):=lR S R s ⟨#[63]⟩ i ((f.out.trans r.out).sc y.out) X zC hi;clear d c ab L;go_wp2_with fail;refine ag.out.mono ?_;rintro e l (⟨d,rfl,c,z⟩|⟨d,rfl,c⟩)
 ·have d:gA [63] (s.data.toList.drop i)=Zo (s.data.toList.drop (i+1)):=d;have c:gG R W l (i+1):=r.out.trans c;have z:i+1<=s.size:=z;have n:Hid (_/\_):=F7 (m:=m) x.out F.out H.out T.out d;have g:Hid (gG R W l (i+1)):=c;have Z:Hid (Calls prog 215 #[Zp (Zo ⟨R,0,Zn⟩)] l (lv R s (i+1) m l)):=HM.out R s _ l ((f.out.trans c).sc y.out) z X om;clear d c ag r x F H T;go_wp2_with fail;refine Z.out.mono ?_;rintro e k (⟨t,q,c0,c1,c2,u,U,y3,rfl,y4,P⟩|⟨u,rfl,U⟩);case inr=>exact⟨rfl,.inr ⟨n.out.1 u,rfl,(f.out.trans g.out).near.trans U⟩⟩
  obtain⟨z0,B,D,C,A,G,E,rfl,rfl,rfl⟩:=y4.shape;have aj:=g.out.near.size;have ah:=P.near.size;have N:Bw k (k.alloc (Zc #[Zi Zk z0,Zs B D C,Zs A G E] 31)):=gF _ _;have j:Hid (gG R W (k.alloc (Zc #[Zi Zk z0,Zs B D C,Zs A G E] 31)) q):=(g.out.trans P).below N om;have p:=jX.new k (Zi Zk z0) (Zs B D C) (Zs A G E) 31;have O:Hid (lv R s i (m+1) w (Zr (Za #[Zi Zk 6,Zs Zn 0 0,Zs (Zo ⟨k.heap.size,0,Zn⟩) 1 1])) (ij (k.alloc (Zc #[Zi Zk z0,Zs B D C,Zs A G E] 31)) w.heap.size 0 (Zi Zk 6) (Zs Zn 0 0) (Zs (Zo ⟨k.heap.size,0,Zn⟩) 1 1))):=by refine oM (f.out.trans j.out) hR (n.out.2 _ _ u) om y3 (EP rfl ⟨om,zS⟩ p.c0 p.c1 p.c2 ?_);refine y4.keep (fun b Y=>?_) (fun b Y=>⟨om,zE⟩);rw[Below.heap_alloc _ _ _ Y.2]
  obtain⟨⟨K,J,M⟩,f0,f1,f2⟩:=jJ (I.out _ _ j.out);clear Z u y4 P g j p N;go_wp2_with fail;refine bodyPost_ret (v:=Za #[Zi Zk 6,Zs Zn 0 0,Zs (Zo ⟨k.heap.size,0,Zn⟩) 1 1]) (by simp[results,results215,go_sem,K,J,M]) rfl ?_;exact O.out
 have n:Hid (_/\_):=Hw (m:=m) x.out F.out H.out T.out d;have g:Hid (gG R W l i):=r.out.trans c;have aj:=g.out.near.size;have Z:Hid (Calls prog 239 #[Zp (Zo ⟨R,0,Zn⟩),.func (.func 215) #[Zp (Zo ⟨R,0,Zn⟩)] #[]] l (vR R s i m l)):=wI m HM.out R s i l ((f.out.trans g.out).sc y.out) hi X om;have ao:∀(fn:Fn)(first cap:Array Value)(w:Zw),(Instr.makeFunc fn first cap).run prog w=.ok (.func fn first cap) w:=fun _ _ _ _=>rfl;clear d c ag r x F H T;go_wp2_with fail;refine Z.out.mono ?_;rintro e k (⟨ns,ks,q,na,nc,ka,kc,ln,y0,u,U,y3,y4,rfl,P,y6,y7⟩|⟨u,rfl,U⟩);case inr=>
  refine⟨rfl,.inr ⟨?_,rfl,(f.out.trans g.out).near.trans U⟩⟩;rcases u with u|⟨y0,u⟩;·exact n.out.1 u
  ·exact (n.out.2 _ y0).1 u
 have j:Hid (gG R W k q):=g.out.trans y7;have O:Hid (lv R s i (m+1) w (Zr (Za #[Zi Zk 5,Zs na ln nc,Zs ka ln kc])) (ij k w.heap.size 0 (Zi Zk 5) (Zs na ln nc) (Zs ka ln kc))):=by
  refine oM (f.out.trans j.out) hR ((n.out.2 _ y0).2 _ _ _ u) U y3 ⟨rfl,rfl,?_,?_⟩;·exact P.keep (fun _ _=>rfl) (fun b Y=>⟨om,Y.2⟩)
  ·exact y6.keepK (fun _ _=>rfl) (fun b Y=>⟨om,Y.2⟩)
 obtain⟨⟨K,J,M⟩,f0,f1,f2⟩:=jJ (I.out _ _ j.out);clear Z y0 u P y6 y7 g j;go_wp2_with fail;refine bodyPost_ret (v:=Za #[Zi Zk 5,Zs na ln nc,Zs ka ln kc]) (by simp[results,results215,go_sem,K,J,M]) rfl ?_;exact O.out
theorem Ga:∀m,qS m:=by
 intro m;induction m with
 | zero=>intro R s i w _ _ _ h;exact absurd h (Nat.not_lt_zero _)
 | succ m a=>exact Dk m a
end Go.Proofs.YtcfojmaccikgeaaGreatDoor
