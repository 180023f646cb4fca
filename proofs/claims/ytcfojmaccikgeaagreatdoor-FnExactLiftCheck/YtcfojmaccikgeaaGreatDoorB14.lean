import Derived.Test.YtcfojmaccikgeaaGreatDoorB13
open Go.Value renaming slice→Zs,int→Zi,string→Zt,pointer→Zp,agg→Za
open Go.IntKind renaming i64→Zk
open Go.Ending renaming returned→Zr
open Go.Obj renaming cells→Zc
open Option renaming none→Zn,some→Zo
open Go renaming World→Zw
namespace Go.Proofs.YtcfojmaccikgeaaGreatDoor
open Go.RowKit Go.Proofs.Tryz
set_option maxRecDepth 100000
set_option maxHeartbeats 16000000
variable {α:Type} {k R q m:Nat} {ns:List ZN} {s r s2 c l:List UInt8} {w a b:Zw}
def pa{α:Type}(f:List UInt8->Option (α×List UInt8))(k:Nat)(a:List ZN)(acc:List α)(b:List UInt8):Option (List ZN×List α×List UInt8):=
 match jC 58 b with
 | none=>Zn
 | some (w,s2)=>
  match f (s2.drop 1) with
  | none=>Zn
  | some (t,r)=>jq f k (a++[bs w]) (acc++[t]) r
theorem C4{f:List UInt8->Option (α×List UInt8)}{acc:List α}(h:gy [125] s=Zo r):jq f (k+1) ns acc s=Zo (ns,acc,r):=by rw[jq,h]
theorem yw{f:List UInt8->Option (α×List UInt8)}{acc:List α}(h:gy [125] s=Zn)(a:ns.length=0):jq f (k+1) ns acc s=pa f k ns acc s:=by rw[jq,h];simp only[a,if_true];rfl
theorem At{f:List UInt8->Option (α×List UInt8)}{acc:List α}{a:List UInt8}(h:gy [125] s=Zn)(b:¬ns.length=0)(c:gy [44] s=Zo a):jq f (k+1) ns acc s=pa f k ns acc a:=by rw[jq,h];simp only[if_neg b,c];rfl
theorem Au{f:List UInt8->Option (α×List UInt8)}{acc:List α}(h:gy [125] s=Zn)(a:¬ns.length=0)(b:gy [44] s=Zn):jq f (k+1) ns acc s=Zn:=by rw[jq,h];simp only[if_neg a,b]
theorem FI{f:List UInt8->Option (α×List UInt8)}{acc:List α}(h:jC 58 s=Zn):pa f k ns acc s=Zn:=by rw[pa,h]
theorem C6{f:List UInt8->Option (α×List UInt8)}{acc:List α}{w:List UInt8}(h:jC 58 s=Zo (w,s2))(a:f (s2.drop 1)=Zn):pa f k ns acc s=Zn:=by rw[pa,h];simp only[a]
theorem C7{f:List UInt8->Option (α×List UInt8)}{acc:List α}{w:List UInt8}{t:α}(h:jC 58 s=Zo (w,s2))(a:f (s2.drop 1)=Zo (t,r)):pa f k ns acc s=jq f k (ns++[bs w]) (acc++[t]) r:=by rw[pa,h];simp only[a]
def lw(R:Nat)(s:ZN)(i m:Nat)(w:Zw)(e:Ending)(w':Zw):Prop:=
 (∃(k:K m)(q:Nat)(c0 c1 c2:Value),gd m (s.data.toList.drop i)=Zo (k,s.data.toList.drop q)/\i<q/\q<=s.size/\e=Zr (Za #[c0,c1,c2])/\a8 (fun b=>w.heap.size<=b/\b<w'.heap.size) w' m k c0 c1 c2/\gB R w w' q) ∨
  (gd m (s.data.toList.drop i)=Zn/\e=.panicked lc/\b8 R w w')
def qu(m:Nat):Prop:=∀(R:Nat)(s:ZN)(i:Nat)(w:Zw),Sc w R s i->i<=s.size->s.size<=10000->s.size-i<m ->
 Calls prog 215 #[Zp (Zo ⟨R,0,Zn⟩)] w (lw R s i m w)
def nT(m:Nat)(s:ZN)(i:Nat):Option (List ZN×List (K m)×List UInt8):=jq (gd m) ((s.data.toList.drop (i+1)).length+1) [] [] (s.data.toList.drop (i+1))
def vY(R:Nat)(s:ZN)(i m:Nat)(w:Zw)(e:Ending)(w':Zw):Prop:=
 (∃(h:List ZN)(f:List (K m))(q:Nat)(na:ZO)(g:Nat)(c:ZO)(d a:Nat),gy [123] (s.data.toList.drop i)=Zo (s.data.toList.drop (i+1))/\nT m s i=Zo (h,f,s.data.toList.drop q)/\i<q/\q<=s.size/\a<=10000 /\
  e=Zr (.tuple #[Zs na a g,Zs c a d])/\fL (fun b=>w.heap.size<=b/\b<w'.heap.size) w' h (Zs na a g) /\
  gO (fun b=>w.heap.size<=b/\b<w'.heap.size) w' (a8 (fun b=>w.heap.size<=b/\b<w'.heap.size) w' m) f (Zs c a d)/\gB R w w' q) ∨
  ((gy [123] (s.data.toList.drop i)=Zn∨(gy [123] (s.data.toList.drop i)=Zo (s.data.toList.drop (i+1))/\nT m s i=Zn))/\e=.panicked lc/\b8 R w w')
theorem gB.same{c:Zw}(h:gB R a b q)(e:b8 R a c)(d:c.heap[R]?=b.heap[R]?):gB R a c q:=
 ⟨e,fun o f=>(World.cell?_of_block (w:=b) (w':=c) (a:=⟨R,o,Zn⟩) d).trans (h.cells o f),(World.cell?_of_block (w:=b) (w':=c) (a:=⟨R,1,Zn⟩) d).trans h.at1,fun o=>by
  have:=h.fz o
  simp only[World.frozen?,d]at this ⊢
  exact this⟩
def atS(w:Zw)(R:Nat):Nat:=match w.cell? ⟨R,1,Zn⟩ with|Zo (Zi _ n)=>n.toNat|_=>0
theorem gB.atS(h:gB R a b q):atS b R=q:=by unfold Go.Proofs.YtcfojmaccikgeaaGreatDoor.atS;rw[h.at1];simp
theorem Tryz.info_strQ:(prog.info? 9).map (fun i=>(i.zero,i.size,i.bytes))=Zo (Zo (Zt ⟨#[]⟩),1,16):=by kernel_rfl
theorem Tryz.info_kindQ:(prog.info? 31).map (fun i=>(i.zero,i.size,i.bytes))=Zo (Zo (Za #[Zi Zk 0,Zs Zn 0 0,Zs Zn 0 0]),3,56):=by kernel_rfl
theorem xy (m:Nat) (hm:qu m) (R:Nat) (s:ZN) (i:Nat) (w:Zw) (h:Sc w R s i) (hi:i<=s.size) (hs:s.size<=10000) (aK:s.size - i<=m) :
  Calls prog 239 #[Zp (Zo ⟨R,0,Zn⟩),.func (.func 215) #[Zp (Zo ⟨R,0,Zn⟩)] #[]] w (vY R s i m w):=by
 have HW:Hid (Calls prog 238 #[Zp (Zo ⟨R,0,Zn⟩),Zt ⟨#[123]⟩] w _):=qn w R s ⟨#[123]⟩ i h hs zC hi;have hR:=h.lt;have HM:Hid (qu m):=hm;have l:Hid (Sc w R s i):=h;clear h hm;go_in;go_wp2_with fail;refine HW.out.mono ?_;rintro e w1 (⟨h1,rfl,U,h3⟩|⟨h1,rfl,U⟩);case inr=>exact⟨rfl,.inr ⟨.inl h1,rfl,U⟩⟩
 have HE:Hid (gy [123] (s.data.toList.drop i)=Zo (s.data.toList.drop (i+1))):=h1;have U:gB R w w1 (i+1):=U;have h3:i+1<=s.size:=h3;clear h1 HW;go_wp2;go_loopw [4,5] (fun nv kv wr=>∃ (f:List ZN) (k:List (K m)) (j c a:Nat) (na:ZO) (J:Nat) (u:ZO) (v:Nat),f.length=a/\k.length=a/\a<=j/\nv=Zs na a J/\kv=Zs u a v/\jT R m w wr f k (Zs na a J) (Zs u a v)/\gB R w wr j/\i<j/\j<=s.size /\
   jq (gd m) (c+1) f k (s.data.toList.drop j)=nT m s i/\s.size-j<=c) (fun _ _ wr=>s.size-atS wr R)
 case atStart=>exact⟨[],[],i+1,(s.data.toList.drop (i+1)).length,0,Zn,0,Zn,0,rfl,rfl,om,rfl,rfl,jT.start R m w w1 U.near,U,om,h3,rfl,zS⟩
 case round=>
  obtain⟨f,k,j,c,a,na,J,u,v,aw,ar,aJ,rfl,rfl,hF,hS,aI,hj,hG,aH⟩:=hrel;have o:Hid (f.length=a/\k.length=a):=⟨aw,ar⟩;have HF:Hid (jT R m w wr f k (Zs na a J) (Zs u a v)):=hF;have HS:Hid (gB R w wr j):=hS;have HG:Hid (jq (gd m) (c+1) f k (s.data.toList.drop j)=nT m s i):=hG;have HA:Hid (atS wr R=j):=hS.atS;have HC:Hid (Calls prog 237 #[Zp (Zo ⟨R,0,Zn⟩),Zt ⟨#[125]⟩] wr _):=mh wr R s ⟨#[125]⟩ j (hS.sc l.out) hs zC hj;clear aw ar hF hS hG U h3;go_wp2_with fail;refine HC.out.mono ?_;rintro e w1 (⟨L,rfl,Y,p3⟩|⟨L,rfl,Y⟩)
  ·have HP:Hid (vY R s i m w (Zr (.tuple #[Zs na a J,Zs u a v])) w1):=by have Y:gB R wr w1 (j+1):=Y;have p3:j+1<=s.size:=p3;have az:=HF.out.keep hR Y.near;obtain⟨r1,r2⟩:=az.rows (by rw[o.out.1];omega) (by rw[o.out.2];omega);exact .inl ⟨f,k,j+1,na,J,u,v,a,HE.out,by rw[<- HG.out];exact C4 L,om,p3,om,rfl,r1,r2,HS.out.trans Y⟩
   clear L Y p3 HC HF HS HG;go_wp2;go_ret2;exact HP.out
  ·have L:gy [125] (s.data.toList.drop j)=Zn:=L;have z:Hid (jT R m w w1 f k (Zs na a J) (Zs u a v)):=HF.out.keep hR Y.near;have y:Hid (gB R w w1 j):=HS.out.trans Y;clear HF HS HC Y;have ae:Hid (∀W,nT m s i=Zn->b8 R w W->vY R s i m w (.panicked lc) W):=fun W h1 U=>.inr ⟨.inr ⟨HE.out,h1⟩,rfl,U⟩;rcases Nat.eq_zero_or_pos a with h0|h0;case' inl=>
    obtain⟨d,n⟩:=ii j;have HQ:Hid (pa (gd m) c f k (s.data.toList.drop d)=nT m s i):=by show _=_;rw[n,<- HG.out];exact (yw L (by rw[o.out.1];exact h0)).symm
    have A:Hid (gB R w w1 d):=by rw[n];exact y
    have ac:d<=s.size:=om;have aB:j<=d:=om;have hd:(0<a)=False:=eq_false om;clear h0 y HG n L;go_wp2_with fail;clear hd
   case' inr=>
    have HC:Hid (Calls prog 238 #[Zp (Zo ⟨R,0,Zn⟩),Zt ⟨#[44]⟩] w1 _):=qn w1 R s ⟨#[44]⟩ j (y.out.sc l.out) hs zC hj;have hd:0<a:=h0;go_wp2_with fail;refine HC.out.mono ?_;rintro e w1 (⟨q1,rfl,q2,q3⟩|⟨q1,rfl,q2⟩);case inr=>refine⟨rfl,ae.out w1 ?_ (y.out.near.trans q2)⟩;rw[<- HG.out];exact Au L (by rw[o.out.1];omega) q1
    obtain⟨d,n⟩:=ii (j+1);have q2:gB R _ w1 (j+1):=q2;have q3:j+1<=s.size:=q3;have HQ:Hid (pa (gd m) c f k (s.data.toList.drop d)=nT m s i):=by show _=_;rw[n,<- HG.out];exact (At L (by rw[o.out.1];omega) q1).symm
    have A:Hid (gB R w w1 d):=by rw[n];exact y.out.trans q2
    have ac:d<=s.size:=om;have aB:j<=d:=om;have ah:=z.out.keep hR q2.near;clear z;have z:Hid (jT R m w w1 f k (Zs na a J) (Zs u a v)):=ah;clear ah y HG n L q1 q2 q3 h0 HC;go_wp2_with fail;clear hd
   all_goals
    have HU:Hid (Calls prog 253 #[Zp (Zo ⟨R,0,Zn⟩),Zi .u8 58] w1 (vm 58 w1 R s d)):=Em 58 w1 R s d (A.out.sc l.out) hs ac
    refine HU.out.mono ?_
    rintro e Z (⟨x,u1,rfl,u2,u3⟩|⟨u1,rfl,u2⟩)
    case inr=>exact⟨rfl,ae.out Z (by rw[<- HQ.out];exact FI u1) (A.out.near.trans u2)⟩
    have u2:gB R w1 Z (d+x.length):=u2
    have aC:(bs x).size<=10000:=by rw[gq];omega
    have N:Hid (jT R m w Z f k (Zs na a J) (Zs u a v)):=z.out.keep hR u2.near
    have al:Hid (gB R w Z (d+x.length)):=A.out.trans u2
    have T:Hid (jC 58 (s.data.toList.drop d)=Zo (x,s.data.toList.drop (d+x.length))):=u1
    have HO:Hid (Z.ownsRow w.heap.size 9 1 (Zs na a J) a (f.map Zt)):=by
     have:=N.out.names
     rw[o.out.1]at this;exact this
    have aL:=N.out.near.size
    obtain⟨aG,C,G,H,I⟩:=info_parts Tryz.info_strQ
    have P:Hid (_/\_/\_/\_):=⟨C,G,H,I⟩
    clear C G H I u1 u2 z A HU
    go_wp2_with (at_builtin;refine wpList_append_lies _ rfl (.tmp 16) (.tmp 19) 23 rfl w.heap.size 9 aG _ 1 16 underlying23 P.out.1 P.out.2.1 P.out.2.2.1 P.out.2.2.2 rfl zC (Zs na a J) a (f.map Zt) rfl (HO.out.alloc _) ⟨Z.heap.size,0,Zn⟩ 1 1 [Zt (bs x)] rfl rfl (World.news_of_block (heap_alloc_new Z _)) (by simp[Value.oneCell']) zC (by unfold maxLen;omega) om zE (Z.heap.size+1) zS ?_;intro g cap w3 D p aa au;refine Hid.out ?_)
    refine Lib.hid ?_
    obtain⟨V,ao,aD⟩:=N.out.name (Wa:=Z.alloc (Zc #[Zt (bs x)] 9)) (one:=Zc #[Zt (bs x)] 9) (x:=bs x) (g:=g) (cap:=cap) rfl ⟨rfl,rfl,rfl⟩ aC (by rw[o.out.1];exact D) p aa
    rw[o.out.1]at V
    have ai:Hid (jT R m w w3 (f++[bs x]) k (Zs (Zo ⟨g,0,Zn⟩) (a+1) cap) (Zs u a v)):=V
    have af:Hid (gB R w w3 (d+x.length)):=al.out.same V.near (ao R hR)
    have an:Hid (Calls prog 238 #[Zp (Zo ⟨R,0,Zn⟩),Zt ⟨#[58]⟩] w3 _):=qn w3 R s ⟨#[58]⟩ (d+x.length) (af.out.sc l.out) hs zC om
    clear V ao aD D p aa au HO N al
    go_wp2_with fail
    refine an.out.mono ?_
    rintro e w4 (⟨v1,rfl,v2,v3⟩|⟨v1,rfl,v2⟩)
    case inr=>
     have v1:gy [58] (s.data.toList.drop (d+x.length))=Zn:=v1
     obtain⟨r',e1,-⟩:=rL T.out
     rw[e1,gJ]at v1
     cases v1
    have v2:gB R w3 w4 (d+x.length+1):=v2
    have v3:d+x.length+1<=s.size:=v3
    have ag:=ai.out.keep hR v2.near
    have ad:Hid (jT R m w w4 (f++[bs x]) k (Zs (Zo ⟨g,0,Zn⟩) (a+1) cap) (Zs u a v)):=ag
    have S:Hid (gB R w w4 (d+x.length+1)):=af.out.trans v2
    have HK:Hid (Calls prog 215 #[Zp (Zo ⟨R,0,Zn⟩)] w4 (lw R s (d+x.length+1) m w4)):=HM.out R s _ w4 (S.out.sc l.out) v3 hs om
    obtain⟨xs,F,aq⟩:=ag.kids
    have aj:Hid (∀q (h:q<k.length),_):=aq
    have Q:Hid (w4.ownsRow w.heap.size 31 3 (Zs u a v) a xs):=by
     rw[o.out.2]at F;exact F
    clear v1 v2 ag F aq ai af an
    go_wp2_with fail
    refine HK.out.mono ?_
    rintro e M (⟨t,q,c0,c1,c2,y1,y2,y3,rfl,y4,y5⟩|⟨y1,rfl,y2⟩)
    case inr=>
     refine⟨rfl,ae.out M ?_ (S.out.near.trans y2)⟩
     rw[<- HQ.out]
     refine C6 T.out ?_
     rw[List.drop_drop];exact y1
    obtain⟨z0,za,zl,zc,ua,ul,uc,rfl,rfl,rfl⟩:=y4.shape
    have aN:=y5.near.size
    have aM:=ad.out.near.size
    have ak:Hid (M.ownsRow w.heap.size 31 3 (Zs u a v) a xs):=gh Q.out (fun g' aA=>by
     have:=fU Q.out g' aA
     exact y5.near.block g' this.2 om)
    have HY:Hid (a8 (fun b=>w4.heap.size<=b/\b<M.heap.size) M m t (Zi Zk z0) (Zs za zl zc) (Zs ua ul uc)/\gB R w4 M q):=⟨y4,y5⟩
    have ay:Hid (jq (gd m) c (f++[bs x]) (k++[t]) (s.data.toList.drop q)=nT m s i):=by
     show _=_
     rw[<- HQ.out]
     refine (C7 T.out ?_).symm
     rw[List.drop_drop];exact y1
    obtain⟨aF,C,G,H,I⟩:=info_parts Tryz.info_kindQ
    have O:Hid (_/\_/\_/\_):=⟨C,G,H,I⟩
    clear C G H I y1 y4 y5 HK HQ T
    go_wp2_with (at_builtin;refine wpList_append_lies _ rfl (.tmp 23) (.tmp 26) 29 rfl w.heap.size 31 aF _ 3 56 underlying29 O.out.1 O.out.2.1 O.out.2.2.1 O.out.2.2.2 rfl zC (Zs u a v) a xs rfl (ak.out.alloc _) ⟨M.heap.size,0,Zn⟩ 1 1 [Zi Zk z0,Zs za zl zc,Zs ua ul uc] rfl rfl (World.news_of_block (heap_alloc_new M _)) (by simp[Value.oneCell']) zC (by unfold maxLen;omega) om zE (M.heap.size+1) zS ?_;intro g2 B w6 E r ab av;refine Hid.out ?_)
    refine Lib.hid ?_
    obtain⟨X,ap,aE⟩:=ad.out.kid (W1:=M) (Wa:=M.alloc (Zc #[Zi Zk z0,Zs za zl zc,Zs ua ul uc] 31)) (one:=Zc #[Zi Zk z0,Zs za zl zc,Zs ua ul uc] 31) (g:=g2) (cap:=B) hR HY.out.2.near HY.out.1 rfl ⟨rfl,rfl,rfl⟩ (by rw[o.out.2];exact Q.out) aj.out (by rw[o.out.2];exact E) r ab
    rw[o.out.2]at X
    have ax:Hid (jT R m w w6 (f++[bs x]) (k++[t]) (Zs (Zo ⟨g,0,Zn⟩) (a+1) cap) (Zs (Zo ⟨g2,0,Zn⟩) (a+1) B)):=X
    have am:Hid (gB R w w6 q):=(S.out.trans HY.out.2).same X.near (ap R hR)
    obtain⟨f',rfl⟩:∃f',c=f'+1:=⟨c-1,om⟩
    clear X ap aE E r ab av ak Q aj ad S HY
    go_wp2
    go_roundw
    case rel=>exact⟨f++[bs x],k++[t],q,f',a+1,Zo ⟨g,0,Zn⟩,cap,Zo ⟨g2,0,Zn⟩,B,by simp[o.out.1],by simp[o.out.2],om,rfl,rfl,ax.out,am.out,om,y3,ay.out,om⟩
    case measure=>rw[am.out.atS,HA.out];omega
theorem jS {N:Nat} (h:w.heap[N]?=Zo (Zc #[Zi Zk 0,Zs Zn 0 0,Zs Zn 0 0] 31 (0,0))) :
  (w.cell? ⟨N,0,Zn⟩=Zo (Zi Zk 0)/\w.cell? ⟨N,1,Zn⟩=Zo (Zs Zn 0 0)/\w.cell? ⟨N,2,Zn⟩=Zo (Zs Zn 0 0)) /\
   w.frozen? ⟨N,0,Zn⟩=false/\w.frozen? ⟨N,1,Zn⟩=false/\w.frozen? ⟨N,2,Zn⟩=false:=by refine⟨⟨?_,?_,?_⟩,?_,?_,?_⟩<;>simp[World.cell?,World.frozen?,h]
theorem gB.alloc{w1:Zw}{o:Obj}(h:gB R (w.alloc o) w1 q)(b:R<w.heap.size):gB R w w1 q:=
 ⟨(b8.alloc R w o).trans h.near,fun p c=>(h.cells p c).trans (World.cell?_of_block (w:=w) (w':=w.alloc o) (a:=⟨R,p,Zn⟩) (Below.heap_alloc _ _ _ b)),h.at1,fun p=>(h.fz p).trans (by
  have:(w.alloc o).heap[R]?=w.heap[R]?:=Below.heap_alloc _ _ _ b
  simp only[World.frozen?,this])⟩
theorem oQ {i:Nat} {s:ZN} {W:Zw} {k:K (m+1)} {g0 g1 g2:Value} (a:gB R w W q) (o:R<w.heap.size) (l:gd (m+1) (s.data.toList.drop i)=Zo (k,s.data.toList.drop q)) (d:i<q) (n:q<=s.size)
  (g:a8 (fun b=>w.heap.size+1<=b/\b<W.heap.size) W (m+1) k g0 g1 g2):lw R s i (m+1) w (Zr (Za #[g0,g1,g2])) (iD W w.heap.size 0 g0 g1 g2):=by have q:∀b,b≠w.heap.size->(iD W w.heap.size 0 g0 g1 g2).heap[b]?=W.heap[b]?:=fun b h=>ia h;have f:(iD W w.heap.size 0 g0 g1 g2).heap.size=W.heap.size:=iU;have j:b8 R w (iD W w.heap.size 0 g0 g1 g2):=⟨a.near.os,a.near.tape,a.near.output,by rw[f];exact a.near.size,fun b c e=>(q b om).trans (a.near.block b c e)⟩;refine .inl ⟨k,_,g0,g1,g2,l,d,n,rfl,g.keep (fun b c=>q b om) (fun b c=>⟨om,by rw[f];exact c.2⟩),a.same j (q R om)⟩
theorem wZ(S:ZP)(w:Zw)(m:Nat)(x:Int)(a:(Lit.int Zk x).wf=true):a8 S w (m+1) (⟨x,[],[]⟩:Kd (K m)) (Zi Zk x) (Zs Zn 0 0) (Zs Zn 0 0):=
 ⟨rfl,a,⟨Zn,0,rfl,by simp[maxLen],fun s h=>(by cases h),fun h=>absurd rfl h⟩,⟨Zn,0,rfl,by simp[maxLen],fun h=>absurd rfl h⟩⟩
theorem Gj {S:ZP} {x:Int} {t:K m} {b c:Nat} {c0 c1 c2:Value} (j:(Lit.int Zk x).wf=true) (f:S b) (a:w.cell? ⟨b,0,Zn⟩=Zo c0) (d:w.cell? ⟨b,1,Zn⟩=Zo c1) (e:w.cell? ⟨b,2,Zn⟩=Zo c2) (g:a8 S w m t c0 c1 c2) :
  a8 S w (m+1) (⟨x,[],[t]⟩:Kd (K m)) (Zi Zk x) (Zs Zn 0 0) (Zs (Zo ⟨b,0,Zn⟩) 1 c):=by
 refine⟨rfl,j,⟨Zn,0,rfl,by simp[maxLen],fun s h=>(by cases h),fun h=>absurd rfl h⟩,⟨Zo ⟨b,0,Zn⟩,c,rfl,by simp[maxLen],fun _=>⟨b,0,rfl,f,fun i hi=>?_⟩⟩⟩;have:i=0:=by simpa using hi
 subst this;exact⟨c0,c1,c2,by simpa using a,by simpa using d,by simpa using e,g⟩
theorem Ic (b:gy [110,117,109] l=Zn) (c:gy [116,101,120,116] l=Zn) (d:gy [102,108,97,103] l=Zn) (e:gy [91] l=Zo r) :
  (nI (gd m) [93] r=Zn->gd (m+1) l=Zn)/\(∀k a,nI (gd m) [93] r=Zo (k,a)->gd (m+1) l=Zo ((⟨4,[],[k]⟩:Kd (K m)),a)):=by
 refine⟨fun h=>?_,fun k a h=>?_⟩;·simp only[gd,b,c,d,e,h]
 ·simp only[gd,b,c,d,e,h];rfl
theorem Gn (b:gy [110,117,109] l=Zn) (c:gy [116,101,120,116] l=Zn) (d:gy [102,108,97,103] l=Zn) (e:gy [91] l=Zn) (f:gy [63] l=Zo r) :
  (gd m r=Zn->gd (m+1) l=Zn)/\(∀k a,gd m r=Zo (k,a)->gd (m+1) l=Zo ((⟨6,[],[k]⟩:Kd (K m)),a)):=by
 refine⟨fun h=>?_,fun k a h=>?_⟩;·simp only[gd,nI,b,c,d,e,f,h]
 ·simp only[gd,nI,Fw,b,c,d,e,f,h];rfl
theorem Ib (b:gy [110,117,109] l=Zn) (c:gy [116,101,120,116] l=Zn) (d:gy [102,108,97,103] l=Zn) (e:gy [91] l=Zn) (f:gy [63] l=Zn) :
  (gy [123] l=Zn->gd (m+1) l=Zn)/\(∀r,gy [123] l=Zo r->(jq (gd m) (r.length+1) [] [] r=Zn->gd (m+1) l=Zn)/\(∀i g j,jq (gd m) (r.length+1) [] [] r=Zo (i,g,j)->gd (m+1) l=Zo ((⟨5,i,g⟩:Kd (K m)),j))):=by
 refine⟨fun h=>?_,fun r h=>⟨fun a=>?_,fun i g j a=>?_⟩⟩;·simp only[gd,b,c,d,e,f,h]
 ·simp only[gd,b,c,d,e,f,h,a]
 ·simp only[gd,b,c,d,e,f,h,a];rfl
theorem DU{f:List UInt8->Option (α×List UInt8)}(h:f s=Zn):nI f c s=Zn:=by simp only[nI,h]
theorem DV{f:List UInt8->Option (α×List UInt8)}{k:α}(h:f s=Zo (k,r))(a:gy c r=Zn):nI f c s=Zn:=by simp only[nI,h,a]
theorem Gi{f:List UInt8->Option (α×List UInt8)}{a:List UInt8}{k:α}(h:f s=Zo (k,r))(b:gy c r=Zo a):nI f c s=Zo (k,a):=by simp only[nI,h,b]
theorem Dt(m:Nat)(hm:qu m):qu (m+1):=by
 intro R s i w h hi U al;have hR:=h.lt;obtain⟨W,hW⟩:=ii (w.alloc (Zc #[Zi Zk 0,Zs Zn 0 0,Zs Zn 0 0] 31));have ao:W.heap.size=w.heap.size+1:=by rw[hW];simp
 have ak:Bw w W:=by rw[hW];exact gx _ _
 have HZ:Hid (W.heap[w.heap.size]?=Zo (Zc #[Zi Zk 0,Zs Zn 0 0,Zs Zn 0 0] 31 (0,0))):=by rw[hW];exact heap_alloc_new _ _
 have d:Hid (gB R w W i):=(gB.refl h).below ak hR;have y:Hid (Sc w R s i):=h;have HM:Hid (qu m):=hm;have I:Hid (∀W1 q,gB R W W1 q->W1.heap[w.heap.size]?=Zo (Zc #[Zi Zk 0,Zs Zn 0 0,Zs Zn 0 0] 31 (0,0))):=fun W1 q hq=>(hq.near.block w.heap.size om om).trans HZ.out;have aa:Hid (Calls prog 237 #[Zp (Zo ⟨R,0,Zn⟩),Zt ⟨#[110,117,109]⟩] W _):=mh W R s ⟨#[110,117,109]⟩ i (d.out.sc h) U zC hi;clear h hm;go_in;go_wp2_with fail;rw[<- hW];clear hW;refine aa.out.mono ?_;rintro e w1 (⟨f,rfl,c,z⟩|⟨f,rfl,c⟩)
 ·have f:gy [110,117,109] (s.data.toList.drop i)=Zo (s.data.toList.drop (i+3)):=f;have c:gB R W w1 (i+3):=c;have J:Hid (lw R s i (m+1) w (Zr (Za #[Zi Zk 1,Zs Zn 0 0,Zs Zn 0 0])) (iD w1 w.heap.size 0 (Zi Zk 1) (Zs Zn 0 0) (Zs Zn 0 0))):=
   oQ (d.out.trans c) hR (by simp only[gd,f]) om z (wZ _ _ m 1 rfl)
  obtain⟨⟨M,N,O⟩,f0,f1,f2⟩:=jS (I.out w1 _ c);clear f c z aa;go_wp2_with fail;refine bodyPost_ret (v:=Za #[Zi Zk 1,Zs Zn 0 0,Zs Zn 0 0]) (by simp[results,results215,go_sem,M,N,O]) rfl ?_;exact J.out
 have x:Hid (gy [110,117,109] (s.data.toList.drop i)=Zn):=f;have af:Hid (gB R W w1 i):=c;have ab:Hid (Calls prog 237 #[Zp (Zo ⟨R,0,Zn⟩),Zt ⟨#[116,101,120,116]⟩] w1 _):=mh w1 R s ⟨#[116,101,120,116]⟩ i ((d.out.trans c).sc y.out) U zC hi;clear f c aa;go_wp2_with fail;refine ab.out.mono ?_;rintro e w2 (⟨f,rfl,c,z⟩|⟨f,rfl,c⟩)
 ·have f:gy [116,101,120,116] (s.data.toList.drop i)=Zo (s.data.toList.drop (i+4)):=f;have c:gB R W w2 (i+4):=af.out.trans c;have J:Hid (lw R s i (m+1) w (Zr (Za #[Zi Zk 2,Zs Zn 0 0,Zs Zn 0 0])) (iD w2 w.heap.size 0 (Zi Zk 2) (Zs Zn 0 0) (Zs Zn 0 0))):=
   oQ (d.out.trans c) hR (by simp only[gd,x.out,f]) om z (wZ _ _ m 2 rfl)
  obtain⟨⟨M,N,O⟩,f0,f1,f2⟩:=jS (I.out w2 _ c);clear f c z ab;go_wp2_with fail;refine bodyPost_ret (v:=Za #[Zi Zk 2,Zs Zn 0 0,Zs Zn 0 0]) (by simp[results,results215,go_sem,M,N,O]) rfl ?_;exact J.out
 have A:Hid (gy [116,101,120,116] (s.data.toList.drop i)=Zn):=f;have S:Hid (gB R W w2 i):=af.out.trans c;have ac:Hid (Calls prog 237 #[Zp (Zo ⟨R,0,Zn⟩),Zt ⟨#[102,108,97,103]⟩] w2 _):=mh w2 R s ⟨#[102,108,97,103]⟩ i ((d.out.trans S.out).sc y.out) U zC hi;clear f c ab af;go_wp2_with fail;refine ac.out.mono ?_;rintro e w3 (⟨f,rfl,c,z⟩|⟨f,rfl,c⟩)
 ·have f:gy [102,108,97,103] (s.data.toList.drop i)=Zo (s.data.toList.drop (i+4)):=f;have c:gB R W w3 (i+4):=S.out.trans c;have J:Hid (lw R s i (m+1) w (Zr (Za #[Zi Zk 3,Zs Zn 0 0,Zs Zn 0 0])) (iD w3 w.heap.size 0 (Zi Zk 3) (Zs Zn 0 0) (Zs Zn 0 0))):=
   oQ (d.out.trans c) hR (by simp only[gd,x.out,A.out,f]) om z (wZ _ _ m 3 rfl)
  obtain⟨⟨M,N,O⟩,f0,f1,f2⟩:=jS (I.out w3 _ c);clear f c z ac;go_wp2_with fail;refine bodyPost_ret (v:=Za #[Zi Zk 3,Zs Zn 0 0,Zs Zn 0 0]) (by simp[results,results215,go_sem,M,N,O]) rfl ?_;exact J.out
 have H:Hid (gy [102,108,97,103] (s.data.toList.drop i)=Zn):=f;have K:Hid (gB R W w3 i):=S.out.trans c;have ad:Hid (Calls prog 237 #[Zp (Zo ⟨R,0,Zn⟩),Zt ⟨#[91]⟩] w3 _):=mh w3 R s ⟨#[91]⟩ i ((d.out.trans K.out).sc y.out) U zC hi;clear f c ac S;go_wp2_with fail;refine ad.out.mono ?_;rintro e X (⟨f,rfl,c,z⟩|⟨f,rfl,c⟩)
 ·have f:gy [91] (s.data.toList.drop i)=Zo (s.data.toList.drop (i+1)):=f;have c:gB R W X (i+1):=K.out.trans c;have z:i+1<=s.size:=z;have n:Hid (_/\_):=Ic (m:=m) x.out A.out H.out f;have p:Hid (gB R W X (i+1)):=c;have Z:Hid (Calls prog 215 #[Zp (Zo ⟨R,0,Zn⟩)] X (lw R s (i+1) m X)):=HM.out R s _ X ((d.out.trans c).sc y.out) z U om;clear f c ad K x A H;go_wp2_with fail;refine Z.out.mono ?_;rintro e k (⟨t,q,c0,c1,c2,u,Y,y3,rfl,y4,P⟩|⟨u,rfl,Y⟩);case inr=>refine⟨rfl,.inr ⟨?_,rfl,(d.out.trans p.out).near.trans Y⟩⟩;exact n.out.1 (DU u)
  obtain⟨z0,E,G,F,B,D,C,rfl,rfl,rfl⟩:=y4.shape;have ai:=P.near.size;have an:=p.out.near.size;have HY:Hid (a8 (fun b=>X.heap.size<=b/\b<k.heap.size) k m t (Zi Zk z0) (Zs E G F) (Zs B D C)):=y4;have ah:Bw k (k.alloc (Zc #[Zi Zk z0,Zs E G F,Zs B D C] 31)):=gx _ _;have g:Hid (gB R W (k.alloc (Zc #[Zi Zk z0,Zs E G F,Zs B D C] 31)) q):=(p.out.trans P).below ah om;have V:=j8.new k (Zi Zk z0) (Zs E G F) (Zs B D C) 31;have HW:Hid (Calls prog 238 #[Zp (Zo ⟨R,0,Zn⟩),Zt ⟨#[93]⟩] (k.alloc (Zc #[Zi Zk z0,Zs E G F,Zs B D C] 31)) _):=qn _ R s ⟨#[93]⟩ q ((d.out.trans g.out).sc y.out) U zC y3;have ag:Hid (gd m (s.data.toList.drop (i+1))=Zo (t,s.data.toList.drop q)):=u;clear Z y4 P u;go_wp2_with fail;refine HW.out.mono ?_;rintro e l (⟨v1,rfl,v2,v3⟩|⟨v1,rfl,v2⟩);case inr=>exact⟨rfl,.inr ⟨n.out.1 (DV ag.out v1),rfl,(d.out.trans g.out).near.trans v2⟩⟩
  have v2:gB R _ l (q+1):=v2;have aj:=v2.near.size;simp only[World.size_alloc]at aj;have kk:∀o,l.cell? ⟨k.heap.size,o,Zn⟩=(k.alloc (Zc #[Zi Zk z0,Zs E G F,Zs B D C] 31)).cell? ⟨k.heap.size,o,Zn⟩:=fun o=>World.cell?_of_block (a:=⟨k.heap.size,o,Zn⟩) (v2.near.block k.heap.size zS om);have k0:=(kk 0).trans V.c0;have k1:=(kk 1).trans V.c1;have k2:=(kk 2).trans V.c2;have L:Bw l (l.alloc (Zc #[Zi Zk z0,Zs E G F,Zs B D C] 31)):=gx _ _;have j:Hid (gB R W (l.alloc (Zc #[Zi Zk z0,Zs E G F,Zs B D C] 31)) (q+1)):=(g.out.trans v2).below L om;have r:=j8.new l (Zi Zk z0) (Zs E G F) (Zs B D C) 31;have J:Hid (lw R s i (m+1) w (Zr (Za #[Zi Zk 4,Zs Zn 0 0,Zs (Zo ⟨l.heap.size,0,Zn⟩) 1 1])) (iD (l.alloc (Zc #[Zi Zk z0,Zs E G F,Zs B D C] 31)) w.heap.size 0 (Zi Zk 4) (Zs Zn 0 0) (Zs (Zo ⟨l.heap.size,0,Zn⟩) 1 1))):=by refine oQ (d.out.trans j.out) hR (n.out.2 _ _ (Gi ag.out v1)) (by show i<q+1;omega) v3 (Gj rfl ⟨om,zS⟩ r.c0 r.c1 r.c2 ?_);refine HY.out.keep (fun b T=>?_) (fun b T=>⟨om,zE⟩);rw[Below.heap_alloc _ _ _ om,v2.near.block b zE om,Below.heap_alloc _ _ _ T.2]
  obtain⟨⟨M,N,O⟩,f0,f1,f2⟩:=jS (I.out _ _ j.out);clear v1 v2 v3 HW HY ag g j V r ah L kk;go_wp2_with fail;refine bodyPost_ret (v:=Za #[Zi Zk 4,Zs Zn 0 0,Zs (Zo ⟨l.heap.size,0,Zn⟩) 1 1]) (by simp[results,results215,go_sem,M,N,O]) rfl ?_;exact J.out
 have Q:Hid (gy [91] (s.data.toList.drop i)=Zn):=f;have p:Hid (gB R W X i):=K.out.trans c;have ae:Hid (Calls prog 237 #[Zp (Zo ⟨R,0,Zn⟩),Zt ⟨#[63]⟩] X _):=mh X R s ⟨#[63]⟩ i ((d.out.trans p.out).sc y.out) U zC hi;clear f c ad K;go_wp2_with fail;refine ae.out.mono ?_;rintro e k (⟨f,rfl,c,z⟩|⟨f,rfl,c⟩)
 ·have f:gy [63] (s.data.toList.drop i)=Zo (s.data.toList.drop (i+1)):=f;have c:gB R W k (i+1):=p.out.trans c;have z:i+1<=s.size:=z;have n:Hid (_/\_):=Gn (m:=m) x.out A.out H.out Q.out f;have g:Hid (gB R W k (i+1)):=c;have Z:Hid (Calls prog 215 #[Zp (Zo ⟨R,0,Zn⟩)] k (lw R s (i+1) m k)):=HM.out R s _ k ((d.out.trans c).sc y.out) z U om;clear f c ae p x A H Q;go_wp2_with fail;refine Z.out.mono ?_;rintro e l (⟨t,q,c0,c1,c2,u,Y,y3,rfl,y4,P⟩|⟨u,rfl,Y⟩);case inr=>exact⟨rfl,.inr ⟨n.out.1 u,rfl,(d.out.trans g.out).near.trans Y⟩⟩
  obtain⟨z0,E,G,F,B,D,C,rfl,rfl,rfl⟩:=y4.shape;have ai:=g.out.near.size;have aj:=P.near.size;have L:Bw l (l.alloc (Zc #[Zi Zk z0,Zs E G F,Zs B D C] 31)):=gx _ _;have j:Hid (gB R W (l.alloc (Zc #[Zi Zk z0,Zs E G F,Zs B D C] 31)) q):=(g.out.trans P).below L om;have r:=j8.new l (Zi Zk z0) (Zs E G F) (Zs B D C) 31;have J:Hid (lw R s i (m+1) w (Zr (Za #[Zi Zk 6,Zs Zn 0 0,Zs (Zo ⟨l.heap.size,0,Zn⟩) 1 1])) (iD (l.alloc (Zc #[Zi Zk z0,Zs E G F,Zs B D C] 31)) w.heap.size 0 (Zi Zk 6) (Zs Zn 0 0) (Zs (Zo ⟨l.heap.size,0,Zn⟩) 1 1))):=by refine oQ (d.out.trans j.out) hR (n.out.2 _ _ u) om y3 (Gj rfl ⟨om,zS⟩ r.c0 r.c1 r.c2 ?_);refine y4.keep (fun b T=>?_) (fun b T=>⟨om,zE⟩);rw[Below.heap_alloc _ _ _ T.2]
  obtain⟨⟨M,N,O⟩,f0,f1,f2⟩:=jS (I.out _ _ j.out);clear Z u y4 P g j r L;go_wp2_with fail;refine bodyPost_ret (v:=Za #[Zi Zk 6,Zs Zn 0 0,Zs (Zo ⟨l.heap.size,0,Zn⟩) 1 1]) (by simp[results,results215,go_sem,M,N,O]) rfl ?_;exact J.out
 have n:Hid (_/\_):=Ib (m:=m) x.out A.out H.out Q.out f;have g:Hid (gB R W k i):=p.out.trans c;have ai:=g.out.near.size;have Z:Hid (Calls prog 239 #[Zp (Zo ⟨R,0,Zn⟩),.func (.func 215) #[Zp (Zo ⟨R,0,Zn⟩)] #[]] k (vY R s i m k)):=xy m HM.out R s i k ((d.out.trans g.out).sc y.out) hi U om;have am:∀(fn:Fn)(first cap:Array Value)(w:Zw),(Instr.makeFunc fn first cap).run prog w=.ok (.func fn first cap) w:=fun _ _ _ _=>rfl;clear f c ae p x A H Q;go_wp2_with fail;refine Z.out.mono ?_;rintro e l (⟨ns,ks,q,na,nc,ka,kc,ln,y0,u,Y,y3,y4,rfl,P,y6,y7⟩|⟨u,rfl,Y⟩);case inr=>
  refine⟨rfl,.inr ⟨?_,rfl,(d.out.trans g.out).near.trans Y⟩⟩;rcases u with u|⟨y0,u⟩;·exact n.out.1 u
  ·exact (n.out.2 _ y0).1 u
 have j:Hid (gB R W l q):=g.out.trans y7;have J:Hid (lw R s i (m+1) w (Zr (Za #[Zi Zk 5,Zs na ln nc,Zs ka ln kc])) (iD l w.heap.size 0 (Zi Zk 5) (Zs na ln nc) (Zs ka ln kc))):=by
  refine oQ (d.out.trans j.out) hR ((n.out.2 _ y0).2 _ _ _ u) Y y3 ⟨rfl,rfl,?_,?_⟩;·exact P.keep (fun _ _=>rfl) (fun b T=>⟨om,T.2⟩)
  ·exact y6.keepK (fun _ _=>rfl) (fun b T=>⟨om,T.2⟩)
 obtain⟨⟨M,N,O⟩,f0,f1,f2⟩:=jS (I.out _ _ j.out);clear Z y0 u P y6 y7 g j;go_wp2_with fail;refine bodyPost_ret (v:=Za #[Zi Zk 5,Zs na ln nc,Zs ka ln kc]) (by simp[results,results215,go_sem,M,N,O]) rfl ?_;exact J.out
theorem F1:∀m,qu m:=by
 intro m;induction m with
 | zero=>intro R s i w _ _ _ h;exact absurd h (Nat.not_lt_zero _)
 | succ m a=>exact Dt m a
end Go.Proofs.YtcfojmaccikgeaaGreatDoor
