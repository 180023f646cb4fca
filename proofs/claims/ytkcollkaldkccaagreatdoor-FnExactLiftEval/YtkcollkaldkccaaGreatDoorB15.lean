import Derived.Test.YtkcollkaldkccaaGreatDoorB14
import Derived.Test.YtkcollkaldkccaaGreatDoorB5
set_option linter.all false
open List renaming length -> J
open Go.Calls renaming mono -> H
open Go.Value renaming slice->A,int->I,string->Zt,pointer->Zp,agg->Za,tuple->Zu,bool->Zb
open Go.IntKind renaming i64->U
open Go.Ending renaming returned->Zr
open Go.Obj renaming cells->Zc
open Option renaming none->Y,some->Z
open Go renaming World->Zw,Value->Zv,Calls->WU
open Go.World renaming cell?->WY
open Go.Proofs.Tryz renaming prog->WV
open Go.RowKit renaming Hid->G
namespace Go.Proofs.YtkcollkaldkccaaGreatDoor
open Go.RowKit Go.Proofs.Tryz
set_option maxRecDepth 100000
set_option maxHeartbeats 16000000
variable {C O S:ZN} {w X Zzq V wr w3:Zw} {m g s n i b:Nat} {r:List (ZB×Nat)} {v:Zv} {ty:TypeId} {c:Int}
def qbQ(C:ZN)(w:Zw)(m:Nat)(t:T (m+1))(r:List (ZB×Nat))(e:Ending)(w':Zw):Prop:=
 ∃g s O,e=Zr (eN g s)/\Bw w w' /\ (∀b,O b->w.heap.size<=b/\b<w'.heap.size)/\ll (λb=>C b∨O b) O w' (m+1) t r g s
def MA {Dzq:ZN} {c i:Zw} {t:T (m+1)} {op sb:Nat} {mv:Zv} (V:∀ b,C b->b<w.heap.size) (L:Bw w X) (M:Bw X c) (o:Bw c i) (j:Bw i Zzq) (B:∀ b,Dzq b->X.heap.size<=b/\b<c.heap.size)
  (K:∀b,O b->c.heap.size<=b/\b<i.heap.size) (f:if op=4 then mv=.func (.func 101) #[] #[] else lq C w op mv)
  (qa:∀(x:ZN)(W:Zw)(g s:Nat)(mv:Zv),(∀b,b<i.heap.size->x b->(C b∨Dzq b)∨O b)->Kp (λb=>(C b∨Dzq b)∨O b) i W->¬x g->¬x s->W.cell? ⟨g,0,Y⟩=Z mv->W.cell? ⟨s,0,Y⟩=Z (iw sb)->(if op=4 then mv=.func (.func 101) #[] #[] else lq (λb=>C b∨Dzq b) c op mv)->ll x O W (m+1) t r g s)
  (q:g≠s) (qc:X.heap.size<=g) (hs:X.heap.size<=s) (p:g<i.heap.size->Dzq g) (u:s<i.heap.size->Dzq s) (l:Zzq.heap[g]?=Z (Zc #[.nilFunc] 108 (0,0))) (n:Zzq.heap[s]?=Z (Zc #[Zp Y] 118 (0,0))) :
  ∃S G O,Ending.returned (eN g s)=Zr (eN S G)/\Bw w ((Zzq.setCell ⟨s,0,Y⟩ (iw sb)).setCell ⟨g,0,Y⟩ mv)/\(∀b,O b->w.heap.size<=b/\b<((Zzq.setCell ⟨s,0,Y⟩ (iw sb)).setCell ⟨g,0,Y⟩ mv).heap.size)/\ll (λb=>C b∨O b) O ((Zzq.setCell ⟨s,0,Y⟩ (iw sb)).setCell ⟨g,0,Y⟩ mv) (m+1) t r S G:=by
 have H:=L.size;have z2:=M.size;have z3:=o.size;have z4:=j.size;have F:=(Qe.1 l).1;have J:=(Qe.1 n).1;have N:=((L.trans (M.mono H)).trans (o.mono E)).trans (j.mono E);have U:∀b,b≠g->b≠s->((Zzq.setCell ⟨s,0,Y⟩ (iw sb)).setCell ⟨g,0,Y⟩ mv).heap[b]?=Zzq.heap[b]?:=λb y qq=>(Qr _ _ _ _ y).trans (Qr _ _ _ _ qq);have P:¬O g:=λh=>by have:=K g h;have:=B g (p E);omega
 have Q:¬O s:=λh=>by have:=K s h;have:=B s (u E);omega
 have R:Kp C w c:=.of_below (L.trans (M.mono H));have z:∀b,b<w.heap.size->(C b∨Dzq b)->C b:=λb k d=>d.elim id λA=>by have:=B b A;omega
 refine⟨g,s,O,D,(N.setCell (by show w.heap.size<=s;omega) _).setCell (by show w.heap.size<=g;omega) _,λb k=>by have:=K b k;simp;omega,?_⟩;refine qa _ _ g s mv (λb k d=>d.imp .inl id) ⟨j.os,j.tape,j.output,by simpa using z4,λb k I=>?_,λb _ d=>?_⟩ (λd=>d.elim (λh=>by have:=V g h;omega) P) (λd=>d.elim (λh=>by have:=V s h;omega) Q) ?_ ?_ ?_;·exact (U b (λe=>I (.inl (.inr (by subst e;exact p k)))) (λe=>I (.inl (.inr (by subst e;exact u k))))).trans (j.block b k)
 .obtain⟨v,ql⟩:=d;have a:=(j.block b ql.lt).trans ql;refine⟨v,(U b (λe=>?_) λe=>?_).trans a⟩;·subst e;unfold dI at a;rw[l]at a;simp at a
  .subst e;unfold dI at a;rw[n]at a;simp at a
 .have:(Zzq.setCell ⟨s,0,Y⟩ (iw sb)).heap[g]?=_:=(Qr _ _ _ _ q).trans l;simp[WY,World.setCell,QQ]at this ⊢;simp[this]
 .have y:(Zzq.setCell ⟨s,0,Y⟩ (iw sb)).cell? ⟨s,0,Y⟩=Z (iw sb):=by simp[WY,World.setCell,QQ,n]
  rw[Xh];·exact y
  .intro e;injection e with e;exact q e
 .split;·next h4=>rw[Qm h4]at f;exact f
  .next h4=>rw[Qd h4]at f;exact f.move z R
def sG(h:Bw X V)(c:Array Zv)(b:TypeId):∃a,V.alloc (Zc c b)=a/\Bw V a/\Bw X a/\a.heap[V.heap.size]?=Z (Zc c b (0,0))/\V.heap.size<a.heap.size:=
 ⟨_,D,eC V _,h.trans ((eC V _).mono h.size),Qh _ _,dS⟩
def Iz(hm:nd m):nd (m+1):=by
 intro C S w mb n r t d c0 c1 c2 c3 c4 sv ht jP hS hC hr ah am hg ak al;obtain⟨so,rfl⟩:∃so,sv=Zp so:=P4;have qq:F.k t<=35:=ak;have hv:=iW (ed hg).1 qq;have aq:=hv.lo;obtain⟨op,ai⟩:∃op:Nat,F.k t=(op:Int):=⟨(F.k t).toNat,E⟩;have⟨mv,aa,L⟩:=ah.2 op E E;obtain⟨mf,cap,rfl⟩:∃f cap,mv=.func (.func f) #[] cap:=by
  by_cases h4:op=4;·rw[Qm h4]at L;exact⟨_,_,L⟩
  .rw[Qd h4]at L;unfold lq at L;split at L;·obtain⟨rb,h,-⟩:=L;exact⟨_,_,h⟩
   .exact⟨_,_,L⟩
 obtain⟨x0,x1,x2,xa,xl,xc,ya,yl,yc,rfl,rfl,rfl,rfl,rfl⟩:=ht.shape;have au:x0=(op:Int):=by rw[<- ai];have h:=ht.1;injection h
 subst au;obtain⟨W,hW⟩:∃W,W=w.alloc (UB (op:Int) x1 x2 xa xl xc ya yl yc):=⟨_,D⟩;have af:Bw w W:=Ag;have an:w.heap.size+1<=W.heap.size:=pR;have ac:W.heap[w.heap.size]?=Z (Zc (Uz (op:Int) x1 x2 xa xl xc ya yl yc) 38 (0,0)):=uK;have qa:Bw w W.drew:=af.trans ((Qg _ _).drew.mono af.size);have HQ:G (∀(j0:ZN)(N:Zw),Bw W.drew N->(∀b,j0 b->W.drew.heap.size<=b/\b<N.heap.size)->WU WV 66 #[iw mb,Uy (op:Int) x1 x2 xa xl xc ya yl yc,Zp so] N (DV (λb=>C b∨j0 b) N m t r op)):=λj0 N hY hD=>by
  have ab:Bw w N:=qa.trans (hY.mono qa.size);have hz:w.heap.size+1<=W.drew.heap.size:=an;have aw:=hY.size;have ag:∀b,b<w.heap.size->(C b∨j0 b)->C b:=λb hb hc=>hc.elim id λhd=>by have:=hD b hd;omega
  exact Pg hm op ai (ht.keep (λb hb=>ab.block b (hS b hb).1) zI) (jP.keep (show gw S w N from λb hb=>ab.block b (hS b hb).1) zI) (λb hb=>⟨by have:=(hS b hb).1;omega,λhc=>(hS b hb).2 (ag b (hS b hb).1 hc)⟩) (λb hb=>hb.elim (λh=>by have:=hC b h;omega) λh=>(hD b h).2) (λp hp=>by have:=hr p hp;omega) (ah.move ag (.of_below ab)) (nC am ag (.of_below ab)) hg qq al
 have ae:∀V,Bw W.drew V->(λw'=>(N5 w' w.heap.size (op:Int) x1 x2 xa xl xc ya yl yc)/\w'.cell? ⟨mb,op,Y⟩=Z (.func (.func mf) #[] cap)) V:=λV hV=>by have⟨q0,q1,q2,q3,q4⟩:=cP ((hV.block w.heap.size (show w.heap.size<W.heap.size by omega)).trans ac);exact⟨⟨q0,q1,q2,q3,q4⟩,kC hV (kC qa aa (dK aa)) (Qn (dK aa) qa.size)⟩
 have o:G (∀V,Bw W.drew V->(λw'=>(N5 w' w.heap.size (op:Int) x1 x2 xa xl xc ya yl yc)/\w'.cell? ⟨mb,op,Y⟩=Z (.func (.func mf) #[] cap)) V):=ae;have P:=a8 (λ(j0 O:ZN) (N Y' ao:Zw) (sb g s:Nat) (hY:Bw W.drew N) (ap:Bw N Y') (i:Bw Y' ao)=>MA (C:=C) (Dzq:=j0) (O:=O) (t:=t) (r:=r) (sb:=sb) (g:=g) (s:=s) (op:=op) (mv:=.func (.func mf) #[] cap) hC qa hY ap i);have j2:=a8 L;have h0:=ae W.drew (Qg _ _);have ar:(op:Int)<36:=E;clear ht jP hS hr ah am hg al hv aq L aa ai hC af ac ak qq ae qa an;show WU WV _ _ _ (qbQ C w m t r);go_in;go_upto_region 1 with fail;rw[<- hW];clear hW;refine Qz (S:=λw'=>(N5 w' w.heap.size (op:Int) x1 x2 xa xl xc ya yl yc)/\w'.cell? ⟨mb,op,Y⟩=Z (.func (.func mf) #[] cap)) zK h0 (λhHeld=>?_);generalize W.drew=X at *;refine t4 0 1 2 4 ?_;refine t4 5 6 7 8 ?_;refine t2 9 10 ?_;have hX:Bw X X:=Qg _ _;refine XG (rs:=[3,11,12]) zK zS ?_;refine QO D (λK hK=>?_) ( QO D (λK hK=>?_) ( QO D (λK hK=>?_) Xy));go_simp;go_at_call 66;refine H (HQ (λb=>False) X hX zS) ?_;rintro e j ⟨sb,O,rfl,z,q5,q6⟩;have l:Bw X j:=hX.trans (z.mono E);have zY:=z.size;have qc:=a8 q6;have q8:=a8 q5;have ql:=a8 z;refine hK.out _ _ (o _ l) (λhHeld=>?_);clear hK K q6 q5 z;refine XG (rs:=[11,12]) zK zS ?_;refine QO D (λK hK=>?_) ( QO D (λK hK=>?_) Xy);go_simp;have⟨k,i,x,a,y,T⟩:=sG l #[Zp Y] 118;refine hK.out _ _ (o _ (i ▸ a)) (λhHeld=>?_);rw[i]at hHeld ⊢;have xs:=l.size;have ad:=a8 x;have ys:j.heap.size<=j.heap.size:=E;clear hK K i x;refine ic 12 λK hK=>?_;go_simp;have⟨v,i,x,M,B,R⟩:=sG a #[.nilFunc] 108;refine hK.out _ _ (o _ (i ▸ M)) (λhHeld=>?_);rw[i]at hHeld ⊢;have xg:=a.size;have ns:j.heap.size<k.heap.size:=T;have y:=(x.block _ T).trans y;have T:j.heap.size<v.heap.size:=E;have q9:=a8 x;have yg:j.heap.size<=k.heap.size:=E;clear hK K i x;have c:k.heap.size≠j.heap.size:=E;have HF:=a8 (P (λb=>False) O X j v sb (k.heap.size) (j.heap.size) hX ql (ad.trans (q9.mono E)) zS q8 j2 qc c E E E E B y);have⟨Q,u⟩:=fk (j.heap.size);have⟨q7,q⟩:=fk (k.heap.size);rw[<- u]at y c HF ⊢;rw[<- q]at B c HF ⊢;have xs:X.heap.size<=Q:=by omega
 have xg:X.heap.size<=q7:=by omega
 clear u q;rotate_left;go_simp;have⟨k,i,x,a,B,R⟩:=sG l #[.nilFunc] 108;refine hK.out _ _ (o _ (i ▸ a)) (λhHeld=>?_);rw[i]at hHeld ⊢;have xg:=l.size;have ad:=a8 x;have yg:j.heap.size<=j.heap.size:=E;clear hK K i x;refine ic 11 λK hK=>?_;go_simp;have⟨v,i,x,M,y,T⟩:=sG a #[Zp Y] 118;refine hK.out _ _ (o _ (i ▸ M)) (λhHeld=>?_);rw[i]at hHeld ⊢;have xs:=a.size;have ng:j.heap.size<k.heap.size:=R;have B:=(x.block _ R).trans B;have R:j.heap.size<v.heap.size:=E;have q9:=a8 x;have ys:j.heap.size<=k.heap.size:=E;clear hK K i x;have c:j.heap.size≠k.heap.size:=E;have HF:=a8 (P (λb=>False) O X j v sb (j.heap.size) (k.heap.size) hX ql (ad.trans (q9.mono E)) zS q8 j2 qc c E E E E B y);have⟨Q,u⟩:=fk (k.heap.size);have⟨q7,q⟩:=fk (j.heap.size);rw[<- u]at y c HF ⊢;rw[<- q]at B c HF ⊢;have xs:X.heap.size<=Q:=by omega
 have xg:X.heap.size<=q7:=by omega
 clear u q;rotate_left;go_simp;have⟨j,i,x,l,y,T⟩:=sG hX #[Zp Y] 118;refine hK.out _ _ (o _ (i ▸ l)) (λhHeld=>?_);rw[i]at hHeld ⊢;have xs:=hX.size;clear hK K i x;refine XG (rs:=[3,12]) zK zS ?_;refine QO D (λK hK=>?_) ( QO D (λK hK=>?_) Xy);go_simp;go_at_call 66;refine H (HQ (λb=>b=X.heap.size) j l E) ?_;rintro e k ⟨sb,O,rfl,z,q5,q6⟩;have a:Bw X k:=l.trans (z.mono E);have zY:=z.size;have qc:=a8 q6;have q8:=a8 q5;have ql:=a8 z;have y:=(z.block _ T).trans y;have T:X.heap.size<k.heap.size:=E;refine hK.out _ _ (o _ a) (λhHeld=>?_);clear hK K q6 q5 z;refine ic 12 λK hK=>?_;go_simp;have⟨v,i,x,M,B,R⟩:=sG a #[.nilFunc] 108;refine hK.out _ _ (o _ (i ▸ M)) (λhHeld=>?_);rw[i]at hHeld ⊢;have xg:=a.size;have ns:X.heap.size<k.heap.size:=T;have y:=(x.block _ T).trans y;have T:X.heap.size<v.heap.size:=E;have q9:=a8 x;have yg:k.heap.size<=k.heap.size:=E;clear hK K i x;have c:k.heap.size≠X.heap.size:=E;have HF:=a8 (P (λb=>b=X.heap.size) O j k v sb (k.heap.size) (X.heap.size) l ql (q9) E q8 j2 qc c E E E E B y);have⟨Q,u⟩:=fk (X.heap.size);have⟨q7,q⟩:=fk (k.heap.size);rw[<- u]at y c HF ⊢;rw[<- q]at B c HF ⊢;have xs:X.heap.size<=Q:=by omega
 have xg:X.heap.size<=q7:=by omega
 clear u q;rotate_left;go_simp;have⟨k,i,x,a,B,R⟩:=sG l #[.nilFunc] 108;refine hK.out _ _ (o _ (i ▸ a)) (λhHeld=>?_);rw[i]at hHeld ⊢;have xg:=l.size;have ns:X.heap.size<j.heap.size:=T;have y:=(x.block _ T).trans y;have T:X.heap.size<k.heap.size:=E;clear hK K i x;refine ic 3 λK hK=>?_;go_simp;go_at_call 66;refine H (HQ (λb=>b=X.heap.size∨b=j.heap.size) k a E) ?_;rintro e v ⟨sb,O,rfl,z,q5,q6⟩;have M:Bw X v:=a.trans (z.mono E);have zY:=z.size;have qc:=a8 q6;have q8:=a8 q5;have ql:=a8 z;have y:=(z.block _ T).trans y;have T:X.heap.size<v.heap.size:=E;have B:=(z.block _ R).trans B;have R:j.heap.size<v.heap.size:=E;refine hK.out _ _ (o _ M) (λhHeld=>?_);clear hK K q6 q5 z;have c:j.heap.size≠X.heap.size:=E;have HF:=a8 (P (λb=>b=X.heap.size∨b=j.heap.size) O k v v sb (j.heap.size) (X.heap.size) a ql (Qg _ _) E q8 j2 qc c E E E E B y);have⟨Q,u⟩:=fk (X.heap.size);have⟨q7,q⟩:=fk (j.heap.size);rw[<- u]at y c HF ⊢;rw[<- q]at B c HF ⊢;have xs:X.heap.size<=Q:=by omega
 have xg:X.heap.size<=q7:=by omega
 clear u q;rotate_left;go_simp;have⟨j,i,x,l,B,R⟩:=sG hX #[.nilFunc] 108;refine hK.out _ _ (o _ (i ▸ l)) (λhHeld=>?_);rw[i]at hHeld ⊢;have xg:=hX.size;clear hK K i x;refine XG (rs:=[3,11]) zK zS ?_;refine QO D (λK hK=>?_) ( QO D (λK hK=>?_) Xy);go_simp;go_at_call 66;refine H (HQ (λb=>b=X.heap.size) j l E) ?_;rintro e k ⟨sb,O,rfl,z,q5,q6⟩;have a:Bw X k:=l.trans (z.mono E);have zY:=z.size;have qc:=a8 q6;have q8:=a8 q5;have ql:=a8 z;have B:=(z.block _ R).trans B;have R:X.heap.size<k.heap.size:=E;refine hK.out _ _ (o _ a) (λhHeld=>?_);clear hK K q6 q5 z;refine ic 11 λK hK=>?_;go_simp;have⟨v,i,x,M,y,T⟩:=sG a #[Zp Y] 118;refine hK.out _ _ (o _ (i ▸ M)) (λhHeld=>?_);rw[i]at hHeld ⊢;have xs:=a.size;have ng:X.heap.size<k.heap.size:=R;have B:=(x.block _ R).trans B;have R:X.heap.size<v.heap.size:=E;have q9:=a8 x;have ys:k.heap.size<=k.heap.size:=E;clear hK K i x;have c:X.heap.size≠k.heap.size:=E;have HF:=a8 (P (λb=>b=X.heap.size) O j k v sb (X.heap.size) (k.heap.size) l ql (q9) E q8 j2 qc c E E E E B y);have⟨Q,u⟩:=fk (k.heap.size);have⟨q7,q⟩:=fk (X.heap.size);rw[<- u]at y c HF ⊢;rw[<- q]at B c HF ⊢;have xs:X.heap.size<=Q:=by omega
 have xg:X.heap.size<=q7:=by omega
 clear u q;rotate_left;go_simp;have⟨k,i,x,a,y,T⟩:=sG l #[Zp Y] 118;refine hK.out _ _ (o _ (i ▸ a)) (λhHeld=>?_);rw[i]at hHeld ⊢;have xs:=l.size;have ng:X.heap.size<j.heap.size:=R;have B:=(x.block _ R).trans B;have R:X.heap.size<k.heap.size:=E;clear hK K i x;refine ic 3 λK hK=>?_;go_simp;go_at_call 66;refine H (HQ (λb=>b=j.heap.size∨b=X.heap.size) k a E) ?_;rintro e v ⟨sb,O,rfl,z,q5,q6⟩;have M:Bw X v:=a.trans (z.mono E);have zY:=z.size;have qc:=a8 q6;have q8:=a8 q5;have ql:=a8 z;have y:=(z.block _ T).trans y;have T:j.heap.size<v.heap.size:=E;have B:=(z.block _ R).trans B;have R:X.heap.size<v.heap.size:=E;refine hK.out _ _ (o _ M) (λhHeld=>?_);clear hK K q6 q5 z;have c:X.heap.size≠j.heap.size:=E;have HF:=a8 (P (λb=>b=j.heap.size∨b=X.heap.size) O k v v sb (X.heap.size) (j.heap.size) a ql (Qg _ _) E q8 j2 qc c E E E E B y);have⟨Q,u⟩:=fk (j.heap.size);have⟨q7,q⟩:=fk (X.heap.size);rw[<- u]at y c HF ⊢;rw[<- q]at B c HF ⊢;have xs:X.heap.size<=Q:=by omega
 have xg:X.heap.size<=q7:=by omega
 clear u q;rotate_left;all_goals
  have cs:v.cell? ⟨Q,0,Y⟩=Z (Zp Y):=by simp[WY,y]
  have fs:v.frozen? ⟨Q,0,Y⟩=false:=by simp[World.frozen?,y]
  have aj:=(Qr v ⟨Q,0,Y⟩ (iw sb) _ c).trans B
  have cg:(v.setCell ⟨Q,0,Y⟩ (iw sb)).cell? ⟨q7,0,Y⟩=Z .nilFunc:=by simp only[WY,aj];rfl
  have fg:(v.setCell ⟨Q,0,Y⟩ (iw sb)).frozen? ⟨q7,0,Y⟩=false:=by simp only[World.frozen?,aj];rfl
  have b1:Bw X (v.setCell ⟨Q,0,Y⟩ (iw sb)):=M.setCell (by show X.heap.size<=Q;omega) _
  have b2:=b1.setCell (p:=⟨q7,0,Y⟩) (by show X.heap.size<=q7;omega) (.func (.func mf) #[] cap)
  have av:(store ⟨q7,0,Y⟩ (.func (.func mf) #[] cap)).run WV (v.setCell ⟨Q,0,Y⟩ (Zp (Z ⟨sb,0,Y⟩)))=.ok () ((v.setCell ⟨Q,0,Y⟩ (Zp (Z ⟨sb,0,Y⟩))).setCell ⟨q7,0,Y⟩ (.func (.func mf) #[] cap)):=by rw[run_store _ _ _ _ _ rfl,cg];simp only[fg];rfl
  refine qk 13 ?_ λhHeld=>?_
  exact o _ b1
  refine qk 14 ?_ λhHeld=>?_
  exact o _ b2
  refine Xi zK ?_ _
  go_simp
  exact FE
def Oy:∀m,nd m:=by
 intro m;induction m with
 | zero=>intro C S w c n r t d c0 c1 c2 c3 c4 e a;exact a.elim
 | succ m b=>exact Iz b
open Go.RowKit Go.WideMaps Go.Maps
def fV(r:List (ZB×Nat))(b:Nat):Prop:=∃p,p∈r/\p.2=b
def CA{n:Nat}(l:List (ZB×T n))(w:Zw)(e:Ending)(w':Zw):Prop:=
 Bw w w' /\ ((l.all wC=true/\∃a r,e=Zr (Zu #[Zp (b5 a 0),Zb true])/\kH (Sn (fV r) w') w' 1 r (Zp (b5 a 0))/\fp (fV r) w' r (pN l)/\∀p,p∈r->w.heap.size<=p.2/\p.2<w'.heap.size)∨(l.all wC=false/\e=Zr (Zu #[Zp Y,Zb false])))
def fp.less{a:ZN}(l:∀b,a b->C b):∀ {r:List (ZB×Nat)} {e:gk},fp C w r e->(∀p,p∈r->a p.2)->fp a w r e:=by
 intro r;induction r with
 | nil=>intro e h _;cases e with|nil=>exact h|cons p q=>exact h.elim
 | cons p r n=>
  intro e h d;cases e with
  | nil=>exact h.elim
  | cons q e=>obtain⟨s,b⟩:=p;obtain⟨u,t⟩:=q;obtain⟨f,o,⟨v,g,i⟩,j,k⟩:=h;exact⟨f,d (s,b) zS,⟨v,g,i.keep ik λb c=>⟨c.1,λm=>c.2 (l b m)⟩⟩,j,n k λp hp=>d p (Qt _ hp)⟩
structure rj{n:Nat}(l:List (ZB×T n))(w wr:Zw)(i:Nat)(r:List (ZB×Nat)):Prop where
 all:(l.take i).all wC=true
 own:wr.ownsMap WV 9 RI w.heap.size i (tw r)
 box:wr.heap[w.heap.size+1]?=Z (Zc #[Zp Y,.map (Z w.heap.size)] 102 (0,0))
 bw:Bw w wr
 size:w.heap.size+2<=wr.heap.size
 env:fp (λb=>b=w.heap.size∨fV r b) wr r (pN (l.take i))
 lt:∀p,p∈r->w.heap.size+2<=p.2/\p.2<wr.heap.size
def KE{l:List (ZB×T n)}(h:i<J l):pN (l.take (i+1))=(l[i].1,fl 5 n l[i].2) :: pN (l.take i):=by unfold pN;rw[Qq h,Q8,List.reverse_append];rfl
def Hi{Ezq:Zv->Option (DataW Unit×List MemPlace)}{d:DataW Unit}(h:w.ownsMap WV 9 Ezq b n d)(c:dI w b v):False:=by obtain⟨f,a,e,-⟩:=h;unfold dI at c;rw[e]at c;cases c
def rj.next {l:List (ZB × T n)} {s w2:Zw} (h:rj l w wr i r) (hB:Bd S w) (z:i<J l) (e:wC l[i]=true) (g:Bw wr s) (j:Bw s w2)
  (x:cN (λb=>S b∨(s.heap.size<=b/\b<w2.heap.size)) w2 n l[i].2 v) (o:w3.ownsMap WV 9 RI w.heap.size (i+1) (tw ((l[i].1,w2.heap.size) :: r)))
  (a:(w2.alloc (Zc #[v] 107)).grownBy w3 (Z w.heap.size)):rj l w w3 (i+1) ((l[i].1,w2.heap.size) :: r):=by
 have K:=g.size;have M:=j.size;have z3:=a.size;simp at z3;have z0:=h.size;have c:=g.trans (j.mono K);have q:∀b,b<w2.heap.size->b≠w.heap.size->w3.heap[b]?=w2.heap[b]?:=λb hb k=>(a.block b zE zE).trans (Qf _ _ _ hb);have f:=(a.block w2.heap.size zS zE).trans (Qh _ _);have m:dB n l[i].2=true:=by unfold wC at e;rw[Qc]at e;exact e.1
 have y:∀b,(b=w.heap.size∨fV r b)->b<wr.heap.size:=λb hb=>by
  rcases hb with rfl|⟨p,hp,rfl⟩;·omega
  .exact (h.lt p hp).2
 have d:Kp (λb=>b=w.heap.size) wr w3:=⟨a.os.trans c.os,a.tape.trans c.tape,a.output.trans c.output,E,λb hb k=>(q b E k).trans (c.block b hb),λb hb ⟨u,C⟩=>by subst hb;exact (Hi h.own C).elim⟩;have B:∀b,b<wr.heap.size->((b=w.heap.size∨fV ((l[i].1,w2.heap.size) :: r) b)↔(b=w.heap.size∨fV r b)):=λb hb=>by
  constructor
  .rintro (h|⟨p,hp,rfl⟩);·exact E
   .rcases QW.1 hp with rfl|hp;·exact E
    .exact .inr ⟨p,hp,D⟩
  .rintro (h|⟨p,hp,rfl⟩);·exact E
   .exact .inr ⟨p,Qt _ hp,D⟩
 refine⟨?_,o,(q _ E E).trans ((c.block _ E).trans h.box),⟨d.os.trans h.bw.os,d.tape.trans h.bw.tape,d.output.trans h.bw.output,E,λb hb=>(q b E E).trans ((c.block b E).trans (h.bw.block b hb))⟩,E,?_,λp hp=>?_⟩;·rw[Qq z,Zj,h.all];simp[e]
 .rw[KE z];refine⟨D,.inr ⟨_,XT ..,D⟩,⟨v,f,?_⟩,(rD (L:=5) (QD _) m).1,fp.move B y d FL h.env λp hp=>by have:=(h.lt p hp).1;omega⟩;refine (x.fit (L:=5) (dr m).1 E).keep (λb hb=>?_) λb hb=>⟨?_,?_⟩
  .rcases hb with hb|hb;·have:=hB b hb;exact q b (by have:=h.bw.size;omega) E
   .exact q b hb.2 E
  .exact J9
  .rintro (t|⟨p,hp,t⟩);·exact J9
   .rcases QW.1 hp with rfl|hp;·have t:w2.heap.size=b:=t;exact J9
    .have:=h.lt p hp;exact J9
 .rcases QW.1 hp with rfl|hp;·exact E
  .have:=h.lt p hp;omega
def rj.done{l:List (ZB×T n)}(h:rj l w wr (J l) r):CA l w (Zr (Zu #[Zp (b5 (w.heap.size+1) 0),Zb true])) wr:=by
 have c:=h.all;have d:=h.env;rw[QG]at c d;have a:∀b,b<w.heap.size+2->¬fV r b:=λb f ⟨p,hp,e⟩=>by have:=(h.lt p hp).1;omega
 have g:=h.size;refine⟨h.bw,.inl ⟨c,_,r,D,⟨w.heap.size+1,Y,.map (Z w.heap.size),r,[],dS,D,⟨E,a _ E⟩,h.box,zS,⟨w.heap.size,J l,D,⟨E,a _ E⟩,h.own⟩,D,D⟩,d.less JT λp hp=>⟨p,hp,D⟩,λp hp=>by have:=h.lt p hp;omega⟩⟩
def YT{α:Type}{p:α->Bool}{l:List α}(h:i<J l)(hp:p l[i]=false):l.all p=false:=by rw[XL];intro a;have:=Qo.1 a _ (QE h);rw[hp]at this;cases this
def YZ{a c d e f g:Zv}(h:w.heap[b]?=Z (Zc #[a,c,d,e,f,g] ty (0,0))):a7 w b 0=Z a/\a7 w b 1=Z c/\a7 w b 2=Z d/\a7 w b 3=Z e/\a7 w b 4=Z f/\a7 w b 5=Z g:=by simp[WY,h]
def uU {l:List (ZB × T n)} (hv:fM S w n l v) (q5:Bd S w) (hl:J l<=1048576) :
  WU WV 32 #[v] w (CA l w):=by
 have ai:∀(w:Zw),(Instr.makeMap 100 Y).run WV w=.ok (.map (Z w.heap.size)) (w.alloc (.map #[] 0)):=by intro w;simp[Instr.makeMap,go_sem]
 obtain⟨ao,cap,rfl,ah,C⟩:=id hv;obtain⟨W1,qR⟩:∃W,W=(w.alloc (.map #[] 0)).alloc (Zc #[Zp Y,.map (Z w.heap.size)] 102):=⟨_,D⟩;have q7:G (rj l w W1 0 []):=by refine⟨D,by rw[qR];exact (Wz w WV 9 RI).alloc _,?_,by rw[qR];exact (eC _ _).alloc zS _,re,trivial,zS⟩;have:=Qh (w.alloc (.map #[] 0)) (Zc #[Zp Y,.map (Z w.heap.size)] 102);rw[qR];simpa using this
 have qc:=a8 C;go_in;go_wp2_with fail;rw[<- qR];go_loopw [14] (λiv wr=>∃(i:Nat)(r:List (ZB×Nat)),iv=I U i/\i<=J l/\rj l w wr i r) (λiv _=>J l-(intOf iv).toNat);case atStart=>exact⟨0,[],D,E,q7⟩
 case round=>
  obtain⟨i,r,rfl,ag,hL⟩:=hrel;have qq:=a8 hL;have am:=hL.size;have c:=hL.bw;by_cases qf:i<J l
  .obtain⟨b,off,rfl,ab,q⟩:=qc.out nS;have⟨k0,k1,k2,k3,k4,e0,e1,e2,e3,e4,e5,K,B⟩:=q i qf;obtain⟨y0,y1,y2,ya,yl,yc,za,zl,zc,rfl,rfl,rfl,rfl,rfl⟩:=B.shape;have k:=q5 b ab;have f0:=kC c e0 k;have f1:=kC c e1 k;have f2:=kC c e2 k;have f3:=kC c e3 k;have f4:=kC c e4 k;have f5:=kC c e5 k;have af:(i:Int)<(J l:Int):=E;have⟨s,q9⟩:=fk l[i].1;rw[<- q9]at f0 K;obtain⟨Q,x⟩:∃W,W=wr.alloc (Zc #[Zt s,I U y0,I U y1,Zt y2,A ya yl yc,A za zl zc] 59):=⟨_,D⟩;have m:Bw wr Q:=by rw[x];exact eC _ _
   have al:wr.heap.size+1<=Q.heap.size:=by rw[x];simp
   have q8:Q.heap[wr.heap.size]?=Z (Zc #[Zt s,I U y0,I U y1,Zt y2,A ya yl yc,A za zl zc] 59 (0,0)):=by rw[x];exact Qh _ _
   have o:=c.trans (m.mono E);have HC:=a8 (GT n S l[i].2 _ _ _ _ _ Q (B.tree.keep (b6 o q5) zI) (fP q5 E));have⟨p0,p1,p2,p3,p4,p5⟩:=YZ q8;have aa:G (dB n l[i].2=true->c8 s=true->wC l[i]=true):=λh1 h2=>by unfold wC;rw[h1,<- q9,h2];rfl
   have P:G (dB n l[i].2=false∨c8 s=false->l.all wC=false):=λh=>YT qf (by
    unfold wC
    rcases h with h|h
    .rw[h];simp
    .rw[<- q9,h];simp)
   have ql:G (∀V,Bw Q V->a7 V (w.heap.size+1) 1=Z (.map (Z w.heap.size))/\a7 V wr.heap.size 0=Z (Zt s)):=λV hV=>⟨kC hV (kC m (ef qq.box).1.2 E) E,kC hV p0 E⟩;have Hs:=a8 q9;clear q e0 e1 e2 e3 e4 e5 B q8 q9;go_wp2_with fail;rw[<- x];refine H HC ?_;rintro e f ⟨j,⟨L,kv,rfl,z⟩|⟨L,rfl⟩⟩
   .obtain⟨ku,kx,rfl⟩:=id z.iface;have ak:=j.size;have p:=o.trans (j.mono E);have⟨a0,a1⟩:=ql.out f j;have u:=QJ (kO s f K);cases hnb:c8 s with
    | false=>rw[hnb]at u;have HP:G (CA l w (Zr (Zu #[Zp Y,Zb false])) f):=⟨p,.inr ⟨P (.inr hnb),D⟩⟩;go_wp2_with fail;refine H u ?_;rintro e j0 ⟨rfl,rfl⟩;exact PK
    | true=>
     rw[hnb]at u;have ad:=aa.out L hnb;have N:(f.drew.alloc (Zc #[.iface ku kx] 107)).ownsMap WV 9 RI w.heap.size i (tw r):=by have⟨es,y,h1,h2⟩:=qq.own;exact⟨es,y,(Qf _ _ _ (show w.heap.size<f.heap.size by omega)).trans (((m.trans (j.mono m.size)).block w.heap.size E).trans h1),h2⟩
     have⟨j0,ae,M,g⟩:=N.update (t:=100) (e:=105) Tryz.skeyed underlying100 zL (Wq underlying9 K) (val:=Zp (b5 f.drew.heap.size 0)) (d:=.lit (.int U (f.drew.heap.size:Int))) (ps:=[]) D;have q6:=z.keep (show gw _ f f.drew from λ_ _=>D) zI;have O:=a8 (qq.next (w2:=f.drew) q5 qf ad m j.drew q6 (by rw[<- Hs.out];exact M) g);have q3:∀b,b<f.heap.size->b≠w.heap.size->j0.heap[b]?=f.heap[b]?:=λb hb aj=>(g.block b (by show b<(f.alloc _).heap.size;simp;omega) zE).trans (Qf _ _ _ hb);have R:=a0;have X:=a1;have qa:G (a7 (f.drew.alloc (Zc #[.iface ku kx] 107)) (w.heap.size+1) 1=Z (.map (Z w.heap.size))/\a7 (f.drew.alloc (Zc #[.iface ku kx] 107)) wr.heap.size 0=Z (Zt s)):=⟨kC (eC f.drew _) R (show _<f.heap.size by omega),kC (eC f.drew _) X (show _<f.heap.size by omega)⟩;have F:G (a7 j0 (w.heap.size+1) 1=Z (.map (Z w.heap.size))/\a7 j0 wr.heap.size 0=Z (Zt s)):=⟨(Ql (a:=⟨w.heap.size+1,1,Y⟩) (q3 (w.heap.size+1) E E)).trans a0,(Ql (a:=⟨wr.heap.size,0,Y⟩) (q3 wr.heap.size E E)).trans a1⟩;go_wp2_with fail;refine H u ?_;rintro e w4 ⟨rfl,rfl⟩;go_upto_region 8 with fail;refine Qz (S:=λw'=>a7 w' (w.heap.size+1) 1=Z (.map (Z w.heap.size))/\a7 w' wr.heap.size 0=Z (Zt s)) zK ⟨R,X⟩ (λhHeld=>?_);generalize w4.drew=V at *;refine t4 0 1 2 3 ?_;refine t4 4 5 6 7 ?_;refine qk 8 ?_ λhHeld=>?_;exact qa;refine qk 9 ?_ λhHeld=>?_;exact F;refine Xi zK ?_ _;go_simp;go_wp2;go_roundw;case rel=>exact⟨i+1,_,ew,E,O⟩
     case measure=>exact eb
   .have p:=o.trans (j.mono E);have HP:G (CA l w (Zr (Zu #[Zp Y,Zb false])) f):=⟨p,.inr ⟨P (.inl L),D⟩⟩;exact PK
  .have ac:i=J l:=E;have z:¬(i:Int)<(J l:Int):=E;have HP:=qq.out;rw[ac]at HP;have HP:=a8 HP.done;exact PK
def Tryz.assert_stop(c:Int)(w:Zw):(Instr.typeAssert (.iface 73 (Za #[I U c,I U 0])) 20 73 true).run WV w=.ok (Zu #[Za #[I U c,I U 0],Zb true]) w:=gZ
def Gu (c:Int) {X:Nat} (a:w.heap[X]?=Z (Zc #[I U 0,I U 0] 73 (0,0))) :
  CallsD WV 63 #[Zp (b5 X 0)] (.panicking (fL c)) w λe g h=>
   e=Zr (Zu #[])/\g=.panicking [{ v:=.iface 73 (Za #[I U c,I U 0]),recovered:=true }]/\h=((w.setCell ⟨X,0,Y⟩ (I U c)).setCell ⟨X,1,Y⟩ (I U 0)).alloc (Zc #[I U c,I U 0] 73):=by have d:=Tryz.assert_stop;have b:=(Qe.1 a).1;have⟨⟨a0,i⟩,j,a3⟩:=ef a;unfold fL;refine WL func63 D λk cs f=>?_;apply wpS_seq;apply wpS_region;simp[wpOpsS,go_sem,recoverD,f,ntmps63,Exit.thenS];refine wpS_of_wp ?_;go_wp2;exact⟨D,_,D,Zu #[],by simp[results,results63],rfl,rfl,rfl⟩
def Gt (X:Nat) (w:Zw) :
  CallsD WV 63 #[Zp (b5 X 0)] .returning w λe b c=>e=Zr (Zu #[])/\b=.returning/\c=w:=by refine WL func63 D λd cs a=>?_;apply wpS_seq;apply wpS_region;simp[wpOpsS,go_sem,recoverD,a,ntmps63,Exit.thenS];refine wpS_of_wp ?_;go_wp2;exact⟨D,_,by rw[<- a],Zu #[],by simp[results,results63],rfl,rfl,rfl⟩
def Np(C O:ZN)(w:Zw)(R:Except Int V6)(e:Ending)(w':Zw):Prop:=
 Kp O w w' /\ match R with
  | .ok t=>∃v,e=Zr (Zu #[v,Za #[I U 0,I U 0]])/\cN (Sn C w') w' 6 t v
  | .error c=>e=Zr (Zu #[.nilIface,Za #[I U c,I U 0]])
def JL{x y:Zv}(h:w.heap[b]?=Z (Zc #[x,y] ty (0,0)))(a c:Zv):((w.setCell ⟨b,0,Y⟩ a).setCell ⟨b,1,Y⟩ c).heap[b]?=Z (Zc #[a,c] ty (0,0)):=by simp[World.setCell,QQ,h]
def Ba {R:Except Int V6} (Q:∀ b,O b->b<w.heap.size) (B:C w.heap.size) (o:WU WV 67 #[Zp (Z ⟨g,0,Y⟩),Zp (Z ⟨s,0,Y⟩)] (w.alloc (Zc #[I U 0,I U 0] 73)) (cQ C O (w.alloc (Zc #[I U 0,I U 0] 73)) R)) :
  WU WV 33 #[eN g s] w (Np C O w R):=by
 obtain⟨W,hW⟩:=fk (w.alloc (Zc #[I U 0,I U 0] 73));rw[<- hW]at o;have n:Bw w W:=Ag;have r:w.heap.size<W.heap.size:=pR;have p:W.heap[w.heap.size]?=Z (Zc #[I U 0,I U 0] 73 (0,0)):=uK;have P:=a8 o;have u:G (∀(w1:Zw)(x y:Int),Kp O W w1->w1.heap[w.heap.size]?=Z (Zc #[I U 0,I U 0] 73 (0,0))/\Kp O w ((w1.setCell ⟨w.heap.size,0,Y⟩ (I U x)).setCell ⟨w.heap.size,1,Y⟩ (I U y))/\∀b,b≠w.heap.size->((w1.setCell ⟨w.heap.size,0,Y⟩ (I U x)).setCell ⟨w.heap.size,1,Y⟩ (I U y)).heap[b]?=w1.heap[b]?):=λw1 x y m=>by
  have K:¬O w.heap.size:=λh=>by have:=Q _ h;omega
  have a:=(m.block w.heap.size r K).trans p;have M:∀b,b≠w.heap.size->((w1.setCell ⟨w.heap.size,0,Y⟩ (I U x)).setCell ⟨w.heap.size,1,Y⟩ (I U y)).heap[b]?=w1.heap[b]?:=λb i=>(Qr _ _ _ _ i).trans (Qr _ _ _ _ i);have d:=(Kp.of_below n).trans m;refine⟨a,⟨d.os,d.tape,d.output,by simpa using d.size,λb i X=>(M b E).trans (d.block b i X),λb i o=>?_⟩,M⟩;obtain⟨v,A⟩:=d.kind b i o;exact⟨v,(M b (by have:=Q b i;omega)).trans A⟩
 clear n r p o;go_enter_defers func33,ntmps33;go_wp2_with fail;rw[<- hW];clear hW;refine P.mono ?_;intro e w1 hp;obtain⟨m,hp⟩:=hp;cases R with
 | ok t=>obtain⟨v,rfl,k⟩:=hp;obtain⟨a,j,l⟩:=u.out w1 0 0 m;obtain⟨S,T,rfl⟩:=k.iface;obtain⟨⟨a0,z⟩,V,a3⟩:=ef a;have HP:G (Np C O w (.ok t) (Zr (Zu #[.iface S T,Za #[I U 0,I U 0]])) ((w1.setCell ⟨w.heap.size,0,Y⟩ (I U 0)).setCell ⟨w.heap.size,1,Y⟩ (I U 0))):=⟨j,_,rfl,k.keep (λb i=>l b λe=>i.2 (by rw[e];exact B)) λb i=>⟨by simpa using i.1,i.2⟩⟩;clear P u m j l k a;go_wp2_with fail;refine leaves_cons (f:=63) (args:=#[Zp (Z ⟨w.heap.size,0,Y⟩)]) zS ke ?_;refine (Gt _ _).mono ?_;rintro e D N ⟨rfl,rfl,rfl⟩;exact⟨Zu #[.iface S T,Za #[I U 0,I U 0]],by simp[results,results33,go_sem,a0,z],HP⟩
 | error c=>subst hp;obtain⟨a,j,l⟩:=u.out w1 c 0 m;have HP:G (Np C O w (.error c) (Zr (Zu #[.nilIface,Za #[I U c,I U 0]])) (((w1.setCell ⟨w.heap.size,0,Y⟩ (I U c)).setCell ⟨w.heap.size,1,Y⟩ (I U 0)).alloc (Zc #[I U c,I U 0] 73))):=⟨j.trans (.of_below (eC _ _)),rfl⟩;have q:=JL a (I U c) (I U 0);have L:=(Qf _ (Zc #[I U c,I U 0] 73) _ (Qe.1 q).1).trans q;obtain⟨⟨a0,z⟩,V,a3⟩:=ef L;refine leaves_cons (f:=63) (args:=#[Zp (Z ⟨w.heap.size,0,Y⟩)]) zS ke ?_;refine (Gu c a).mono ?_;rintro e D N ⟨rfl,rfl,rfl⟩;exact⟨Zu #[.nilIface,Za #[I U c,I U 0]],by simp[results,results33,go_sem,a0,z],HP⟩
def wE(m:Nat):Prop:=∀(S:ZN)(t:T m)(c0 c1 c2 c3 c4:Zv)(w:Zw),b8 S w m t c0 c1 c2 c3 c4->(∀b,S b->b<w.heap.size)->gY m t<=1048576 ->
 WU WV 31 #[Za #[c0,c1,c2,c3,c4]] w λe a=>e=Zr (I U (dX m t))/\Below w.heap.size w a
def Og{t:T (m+1)}(h:gY (m+1) t<=1048576):J (F.o t)<=1048576:=by exact Tp
def D8(hn:wE m):wE (m+1):=by
 intro S t c0 c1 c2 c3 c4 w ht r zA;obtain⟨rfl,rfl,rfl,hs,ah,ai,h3,h4,⟨na,nl,nc,rfl,ae⟩,⟨ql,kl,kc,rfl,af⟩⟩:=ht;obtain⟨_,_,qc,-⟩:=id h3;cases qc
 obtain⟨_,_,qc,ab,-⟩:=id h4;cases qc
 have aa:=Og zA;have X:G (∀k (h:k<J (F.o t)),gY m (F.o t)[k]<=1048576):=λk h=>by exact PH
 have l:=(Qg w.heap.size w).alloc E (UB (F.k t) (F.n t) (F.a t) na (J (F.q t)) nc ql (J (F.o t)) kc);have hK:=h4.keepN (b6 l r) zI;obtain⟨W,hW⟩:∃W,W=w.alloc (UB (F.k t) (F.n t) (F.a t) na (J (F.q t)) nc ql (J (F.o t)) kc):=⟨_,D⟩;have u:=Xq w (UB (F.k t) (F.n t) (F.a t) na (J (F.q t)) nc ql (J (F.o t)) kc);have q9:w.heap.size<W.heap.size:=pR;have⟨z0,z1,z2,z3,z4⟩:=cP u;rw[<- hW]at l hK z0 z4;have Q:=a8 l;have j2:G (∀j,ei (dX m) (F.k t) (F.o t) j<=1+800020*(j:Int)/\1<=ei (dX m) (F.k t) (F.o t) j):=λj=>by have:=pB (dX m) (F.k t) (F.o t) PG j;exact⟨E,E⟩
 go_enter func31,ntmps31;go_wp2_with fail;rw[<- hW];obtain⟨_,_,qa,-,q⟩:=hK;cases qa
 go_loopw [3,9] (λa i wr=>∃j:Nat,j<=J (F.o t)/\i=I U j/\a=I U (ei (dX m) (F.k t) (F.o t) j)/\Below W.heap.size W wr) (λ_ i _=>J (F.o t)-(intOf i).toNat);case atStart=>exact⟨0,E,D,D,Qg _ _⟩
 case round=>
  obtain⟨j,hj,rfl,rfl,c⟩:=hrel;have q5:=c.size;have ag:=j2.out j;by_cases qf:j<J (F.o t)
  .obtain⟨b,off,rfl,j3,o⟩:=q nS;have⟨x0,x1,x2,x3,x4,e0,e1,e2,e3,e4,x⟩:=o j qf;obtain⟨z,B,C,K,M,L,N,P,O,rfl,rfl,rfl,rfl,rfl⟩:=x.shape;have ad:=r b j3;have f0:=(c.cell (p:=⟨b,off+j*5,Y⟩) pQ).trans e0;have f1:=(c.cell (p:=⟨b,off+j*5+1,Y⟩) pQ).trans e1;have f2:=(c.cell (p:=⟨b,off+j*5+2,Y⟩) pQ).trans e2;have f3:=(c.cell (p:=⟨b,off+j*5+3,Y⟩) pQ).trans e3;have f4:=(c.cell (p:=⟨b,off+j*5+4,Y⟩) pQ).trans e4;obtain⟨V,s⟩:∃V,V=wr.alloc (UB z B C K M L N P O):=⟨_,D⟩;have n:Below W.heap.size W V:=by rw[s];exact c.alloc q5 _
   have al:V.heap.size=wr.heap.size+1:=by rw[s];simp
   have⟨v0,v1,v2,v3,v4⟩:=cP (Xq wr (UB z B C K M L N P O));rw[<- s]at v0 v1 v2 v3 v4;have q0:=(n.cell (p:=⟨w.heap.size,0,Y⟩) q9).trans z0;have qq:=x.keep (b6 n (fP r)) zI;have T:G (WU WV 31 #[Uy z B C K M L N P O] V.drew λe d=>e=Zr (I U (dX m (F.o t)[j]))/\Below W.heap.size W d/\(a7 d w.heap.size 0=Z (I U (F.k t))/\a7 d wr.heap.size 0=Z (I U z)/\a7 d wr.heap.size 1=Z (I U B)/\a7 d wr.heap.size 2=Z (Zt C)/\a7 d wr.heap.size 3=Z (A K M L)/\a7 d wr.heap.size 4=Z (A N P O))):=by have j0:Below V.heap.size V V.drew:=(Qg _ _).drew;refine H (hn S (F.o t)[j] _ _ _ _ _ V.drew (qq.keep (b6 j0 (fP r)) zI) (λb q6=>by have:=r b q6;have:=j0.size;omega) (X j qf)) ?_;rintro e d ⟨rfl,q6⟩;have f:=j0.trans (q6.mono zS);exact⟨D,n.trans (f.mono E),(f.cell (p:=⟨w.heap.size,0,Y⟩) (by show w.heap.size<_;omega)).trans q0,(f.cell (p:=⟨wr.heap.size,0,Y⟩) FG).trans v0,(f.cell (p:=⟨wr.heap.size,1,Y⟩) FG).trans v1,(f.cell (p:=⟨wr.heap.size,2,Y⟩) FG).trans v2,(f.cell (p:=⟨wr.heap.size,3,Y⟩) FG).trans v3,(f.cell (p:=⟨wr.heap.size,4,Y⟩) FG).trans v4⟩
   have q8:G (∀w,WU WV 60 #[I U (F.k t),I U (j:Int)] w λe d=>e=Zr (I U (gr (F.k t) j))/\d=w):=λw=>Ft (F.k t) j w;have g:G (ei (dX m) (F.k t) (F.o t) (j+1)=ei (dX m) (F.k t) (F.o t) j+dX m (F.o t)[j]*gr (F.k t) j):=by show _=_;rw[tT _ _ qf,Int.mul_comm]
   have hc:=si m (F.o t)[j];have y:=yW (F.k t) j;have hm:=yX y.1 y.2 E hc.2;rw[Int.mul_comm]at hm;generalize ei (dX m) (F.k t) (F.o t) j=cs at *;generalize dX m (F.o t)[j]=cv at *;generalize gr (F.k t) j=tv at *;have aj:IntKind.i64.wrap (cv*tv)=cv*tv:=kG;have ak:IntKind.i64.wrap (cs+cv*tv)=cs+cv*tv:=kG;go_wp2_with fail;rw[<- s];clear s f0 f1 f2 f3 f4;go_region_held (λd=>a7 d w.heap.size 0=Z (I U (F.k t))/\a7 d wr.heap.size 0=Z (I U z)/\a7 d wr.heap.size 1=Z (I U B)/\a7 d wr.heap.size 2=Z (Zt C)/\a7 d wr.heap.size 3=Z (A K M L)/\a7 d wr.heap.size 4=Z (A N P O)) (first|with_reducible assumption|go_keep) (first|(go_at_call 31;refine H T ?_;rintro e w2 ⟨rfl,q7,ac⟩)|(go_at_call 60;refine H (q8 _) ?_;rintro e w3 ⟨rfl,rfl⟩));all_goals
    have R:=a8 q7
    go_wp2_with fail
    go_roundw
    case rel=>
     refine⟨j+1,E,ew,?_,R⟩
     rw[g.out]
    case measure=>exact eb
  .have v:j=J (F.o t):=E;have HP:=a8 (Q.trans (c.mono E));have HF:G (dX (m+1) t=min (ei (dX m) (F.k t) (F.o t) j) 40001):=by show min (ei (dX m) (F.k t) (F.o t) (J (F.o t))) 40001=_;rw[<- v]
   clear v;go_wp2_with fail;go_ret;exact⟨dd HF.symm,HP⟩
def GA:∀m,wE m:=by
 intro m;induction m with
 | zero=>intro S t c0 c1 c2 c3 c4 w a;exact a.elim
 | succ m b=>exact D8 b
def Rn(r:Except Int V6)(w:Zw)(e:Ending)(w':Zw):Prop:=
 Bw w w' /\ match r with
  | .ok t=>∃h i j f g a d,e=Zr (Zu #[Za #[h,i,j,f,g],I U 0])/\cT (λb=>w.heap.size<=b/\b<w'.heap.size) w' 6 t h i j f g/\lE w' f a/\lI w' 5 g d/\Own (λb=>w.heap.size<=b/\b<w'.heap.size) (a++d)/\J (a++d)=B7 6 t
  | .error c=>e=Zr (Zu #[Za #[I U 0,I U 0,Zt ⟨#[]⟩,A Y 0 0,A Y 0 0],I U c])
def sE(a:Bw w V):Rn (.error c) w (Zr (Zu #[Za #[I U 0,I U 0,Zt ⟨#[]⟩,A Y 0 0,A Y 0 0],I U c])) (eF V (w.heap.size+1) 0 (I U 0) (I U 0) (Zt ⟨#[]⟩) (A Y 0 0) (A Y 0 0)):=⟨dk a E,D⟩
def Tc(R:Except Int V6)(w3:Zw)(mv:Zv)(Ezq:Nat)(X:Zw):Prop:=
 Bw w3 X/\w3.heap.size<=Ezq/\∃c,X.heap[Ezq]?=Z (Zc #[I U c,I U 0] 73 (0,0))/\match R with
  | .ok t=>c=0/\cN (λb=>b<X.heap.size) X 6 t mv
  | .error k=>c=k/\mv=.nilIface
def qbP(C:ZN)(X:Zw)(mv:Zv)(c:Int):Except Int V6->Prop
 | .ok t=>c=0/\cN (Sn C X) X 6 t mv
 | .error k=>c=k/\mv=.nilIface
def Ce{R:Except Int V6}{e:Ending}(h:Np C O w R e X):∃mv c,e=Zr (Zu #[mv,Za #[I U c,I U 0]])/\qbP C X mv c R:=by
 obtain⟨-,h⟩:=h;cases R with
 | ok t=>obtain⟨v,a,b⟩:=h;exact⟨v,0,a,D,b⟩
 | error k=>exact⟨_,_,h,D,D⟩
def Jr {f:Zw} {R:Except Int V6} {Ezq:Nat} {mv:Zv} (g:Bw w3 Zzq) (n:∀ b,O b->w3.heap.size<=b) (h:Kp O Zzq X) (j:qbP C X mv c R) (a:Bw X f) (m:w3.heap.size<=Ezq) (i:Ezq<X.heap.size->C Ezq) (p:f.heap[Ezq]?=Z (Zc #[I U 0,I U 0] 73 (0,0))) :
  Tc R w3 mv Ezq ((f.setCell ⟨Ezq,0,Y⟩ (I U c)).setCell ⟨Ezq,1,Y⟩ (I U 0)):=by
 have q:=g.size;have r:=h.size;have z3:=a.size;have l:∀b,b≠Ezq->((f.setCell ⟨Ezq,0,Y⟩ (I U c)).setCell ⟨Ezq,1,Y⟩ (I U 0)).heap[b]?=f.heap[b]?:=λb d=>(Qr _ _ _ _ d).trans (Qr _ _ _ _ d);refine⟨⟨a.os.trans (h.os.trans g.os),a.tape.trans (h.tape.trans g.tape),a.output.trans (h.output.trans g.output),gE,λb d=>?_⟩,m,c,JL p _ _,?_⟩;·exact (l b E).trans ((a.block b E).trans ((h.block b E λo=>by have:=n b o;omega).trans (g.block b d)))
 .cases R with
  | error k=>exact j
  | ok t=>
   refine⟨j.1,j.2.keep (λb d=>(l b λe=>?_).trans (a.block b d.1)) λb d=>?_⟩;·subst e;exact d.2 (i d.1)
   .have:=d.1;simp;omega
def AE {t:T m} {l:List (ZB × T n)} {c0 c1 c2 c3 c4:Zv} (ht:b8 S w m t c0 c1 c2 c3 c4) (hv:fM S w n l v) (hB:Bd S w) (bk:gY m t<=1048576) (hl:J l<=1048576) (aJ:gH w.heap.size w) :
  WU WV 9 #[v,Za #[c0,c1,c2,c3,c4]] w (Rn (ny m t l) w):=by
 obtain⟨x0,x1,x2,xa,xl,xc,ya,yl,yc,rfl,rfl,rfl,rfl,rfl⟩:=ht.shape;obtain⟨va,vc,rfl,-⟩:=id hv;have⟨W,hW⟩:=fk ((w.alloc (UB x0 x1 x2 xa xl xc ya yl yc)).alloc d8);have ap:Bw w W:=FF;have bI:w.heap.size+2<=W.heap.size:=pR;have bm:W.heap[w.heap.size]?=Z (Zc (Uz x0 x1 x2 xa xl xc ya yl yc) 38 (0,0)):=by rw[hW,Qf _ _ _ zS];exact Qh _ _
 have bn:W.heap[w.heap.size+1]?=Z d8:=by have:=Qh (w.alloc (UB x0 x1 x2 xa xl xc ya yl yc)) d8;rw[hW];simpa using this
 have i:G (∀V,Bw W V->(N5 V w.heap.size x0 x1 x2 xa xl xc ya yl yc)/\V.heap[w.heap.size+1]?=Z d8/\Bw w V):=λV hV=>⟨cP ((hV.block w.heap.size E).trans bm),(hV.block (w.heap.size+1) E).trans bn,ap.trans (hV.mono E)⟩;have bh:x0=p8 m t:=by
  cases m with
  | zero=>exact ht.elim
  | succ m=>have h:=ht.1;injection h
 have aF:G (WU WV 29 #[I U x0] W _):=mp x0 W;have bi:vu x0=iQ m t:=by rw[bh];rfl
 rw[bi]at aF;have br:=a8 ht;have HV:=a8 hv;have HB:G (Bd S w):=hB;have aC:=a8 (KZ t);have bq:=a8 aJ;have bv:mW W:=(show mW w from aJ.1).step ap;have aE:G (WU WV 30 _ W _):=C1 (ht.keep (b6 ap hB) zI) (fP hB E) bk bv;have an:G (∀V,Bw W V->WU WV 31 #[Uy x0 x1 x2 xa xl xc ya yl yc] V λe w'=>e=Zr (I U (dX m t))/\Bw V w'):=λV hV=>by have ba:=ap.trans (hV.mono E);exact GA m S t _ _ _ _ _ V (ht.keep (b6 ba hB) zI) (fP hB ba.size) bk
 have ao:G (¬(GV m t false=true/\dX m t<=40000/\l.all wC=true)->ny m t l=.error 6):=λh=>by unfold ny;rw[Qd h]
 have bp:G (GV m t false=true/\dX m t<=40000/\l.all wC=true->ny m t l=b7 m t (pN l)):=λh=>by unfold ny;rw[Qm h]
 obtain⟨⟨q0,q1,q2,q3,q4⟩,-⟩:=i.out W (Qg _ _);clear ht hv hB bm bn bi bh aJ;go_in;go_wp2_with fail;rw[<- hW];clear hW;refine H aF ?_;rintro e w1 ⟨rfl,rfl⟩;clear aF;by_cases aa:iQ m t=86;case neg=>have HA:=a8 (ao λh=>by rw[aC.out]at h;simp[aa]at h);obtain⟨-,u,P⟩:=i.out w1 (Qg _ _);have⟨⟨r0,r1,r2,r3,r4⟩,g0,g1,g2,g3,g4⟩:=cI u;have HF:=QJ (sE (c:=6) P);clear aE i u an;exact S4
 rw[aa];go_wp2_with fail;refine H aE ?_;rintro e w2 ⟨rfl,L⟩;clear aE;cases hok:M6 m t with
 | false=>have HA:=a8 (ao λh=>by rw[aC.out]at h;simp[hok]at h);obtain⟨-,u,P⟩:=i.out w2 L;have⟨⟨r0,r1,r2,r3,r4⟩,g0,g1,g2,g3,g4⟩:=cI u;have HF:=QJ (sE (c:=6) P);clear i u an;exact S4
 | true=>
 obtain⟨⟨q0,q1,q2,q3,q4⟩,-⟩:=i.out w2 L;have aq:=a8 hok;have aU:=a8 (an w2 L);clear hok an;go_wp2_with fail;refine H aU ?_;rintro e aS ⟨rfl,au⟩;have L:=L.trans (au.mono L.size);clear aU au;by_cases bx:dX m t<=40000;case neg=>have HA:=a8 (ao E);have bB:(40000:Int)<dX m t:=E;obtain⟨-,u,P⟩:=i.out aS L;have⟨⟨r0,r1,r2,r3,r4⟩,g0,g1,g2,g3,g4⟩:=cI u;have HF:=QJ (sE (c:=6) P);clear i u;exact S4
 have bA:¬(40000:Int)<dX m t:=E;have bd:=(i aS L).2.2;have bD:=L.size;have aH:=QJ (uU (HV.keep (b6 bd HB) zI) (λb hb=>Qn (HB b hb) E) hl);clear q0 q1 q2 q3 q4;go_wp2_with fail;refine H aH ?_;rintro e j ⟨aL,⟨ah,sb,r,rfl,bj,ak,aR⟩|⟨ah,rfl⟩⟩;case inr=>have q9:=L.trans (aL.mono E);have HA:=a8 (ao λh=>by rw[ah]at h;simp at h);clear aH;obtain⟨-,u,P⟩:=i.out j q9;have⟨⟨r0,r1,r2,r3,r4⟩,g0,g1,g2,g3,g4⟩:=cI u;have HF:=QJ (sE (c:=6) P);clear i u;exact S4
 have q9:=L.trans (aL.mono E);have bE:=aL.size;have HA:=a8 (bp ⟨by rw[aC.out,aq.out];simp[aa],bx,ah⟩);have av:=(i j q9).2.2;have bF:=q9.size;have aN:c7 m t 1=true/\cJ m t<=200:=by have:=aq.out;unfold M6 at this;simp only[Qc,Qk]at this;exact⟨this.1.1,E⟩
 have aQ:=kT aa;have ae:G (lR (b7 m t (pN l))):=lC m t 1 (pN l) aN.1 aQ.1 aQ.2 ak.ok;have q7:∀b,fV r b->aS.heap.size<=b/\b<j.heap.size:=λb ⟨p,hp,e⟩=>by rw[<- e];exact aR p hp
 have ax:∃B,gH B j/\B<=j.heap.size/\∀b,fV r b->B<=b:=⟨w.heap.size,bq.step av,E,λb hb=>by have:=(q7 b hb).1;omega⟩;have⟨R,hR⟩:=fk (b7 m t (pN l));have q5:G (∀(z:ZN)(q:Zw)(mb:Nat),Bw j q->(∀b,z b->j.heap.size<=b/\b<q.heap.size)->CG (λb=>fV r b∨z b) q mb->WU WV 35 #[iw mb,Uy x0 x1 x2 xa xl xc ya yl yc,Zp (b5 sb 0)] q λe w'=>∃g s O,e=Zr (eN g s)/\Bw q w' /\ (∀b,O b->q.heap.size<=b/\b<w'.heap.size)/\ll (λb=>(fV r b∨z b)∨O b) O w' m t r g s):=λz q mb hY hD ql=>by
  have bG:=hY.size;have bw:=av.trans (hY.mono E);have bf:∀b,b<j.heap.size->(fV r b∨z b)->fV r b:=λb hb hc=>hc.elim id λhd=>by have:=hD b hd;omega
  exact Oy m (λb=>fV r b∨z b) (Sn (fV r) j) q mb 1 r t 1 _ _ _ _ _ _ (br.tree.keep (b6 bw HB) λb hb=>⟨by have:=HB.out b hb;omega,λhc=>by have:=q7 b hc;have:=HB.out b hb;omega⟩) (bj.keep (show gw _ j q from λb hb=>hY.block b hb.1) zI) (λb hb=>⟨pe,λhc=>hb.2 (bf b hb.1 hc)⟩) (λb hb=>hb.elim (λh=>by have:=q7 b h;omega) λh=>(hD b h).2) (λp hp=>by have:=aR p hp;omega) ql (nC ax bf (.of_below hY)) aN.1 aQ.2 aN.2
 have q6:G (∀(z D2 O:ZN)(q Y' qc:Zw)(g s:Nat),Bw j q->Bw q Y'->Bw Y' qc->(∀b,z b->j.heap.size<=b/\b<q.heap.size)->(∀b,O b->q.heap.size<=b/\b<Y'.heap.size)->(∀b,D2 b->j.heap.size<=b/\b<qc.heap.size)->(∀b,b<Y'.heap.size->D2 b->z b)->ll (λb=>(fV r b∨z b)∨O b) O Y' m t r g s->WU WV 33 #[eN g s] qc (Np (λb=>(fV r b∨D2 b)∨O b∨b=qc.heap.size) O qc R)):=λz D2 O q Y' qc g s hY aZ q8 hD hO aW bt Q=>by
  have z1:=hY.size;have z2:=aZ.size;have z3:=q8.size;have bl:Bw j qc:=(hY.trans (aZ.mono z1)).trans (q8.mono E);refine Ba (λb hb=>by have:=hO b hb;omega) E ?_;rw[hR];refine Q _ _ (pN l) (λb hb hc=>?_) (λb hb=>.inr (.inl hb)) (λb hb=>?_) (.of_below (q8.alloc z3 _)) ?_
  .rcases hc with (h|h)|h|h;·exact .inl (.inl h)
   .exact .inl (.inr (bt b hb h))
   .exact .inr h
   .omega
  .simp only[XN];rcases hb with (h|h)|h|h;·have:=q7 b h;omega
   .have:=aW b h;omega
   .have:=hO b h;omega
   .omega
  .refine fp.move (O:=λ_=>False) (λb hb=>⟨λhc=>?_,λh=>.inl (.inl h)⟩) (λb hb=>(q7 b hb).2) (.of_below (bl.alloc bl.size _)) Ae ak zS;rcases hc with (h|h)|h|h;·exact h
   .have:=aW b h;omega
   .have:=hO b h;omega
   .omega
 have ac:G (∀(z:ZN)(V F:Zw)(mb:Nat),Bw j V->(∀b,z b->j.heap.size<=b/\b<F.heap.size/\(b<V.heap.size∨V.heap.size<=b))->True):=λ_ _ _ _ _ _=>trivial;have be:∀b,fV r b->b<j.heap.size:=λb hb=>(q7 b hb).2;have aI:=a8 be;have ur:G (∀V,Bw j V->N5 V w.heap.size x0 x1 x2 xa xl xc ya yl yc):=λV hV=>(i V (q9.trans (hV.mono E))).1;clear aH bj be ak ax ac aR q7;have bc:Bw j j.drew:=(Qg _ _).drew;have aT:G (ny m t l=R):=by show _=_;rw[hR];exact HA
 have ae:G (lR R):=by show lR R;rw[hR];exact ae
 clear hR HA;go_upto_region 6 with fail;go_cut [8,9] from 33 to 48 (λmv ev wx=>∃M,ev=Zp (b5 M 0)/\Tc R j mv M wx);case first=>
  refine Qz (S:=λw'=>N5 w' w.heap.size x0 x1 x2 xa xl xc ya yl yc) zK (ur _ bc) (λhHeld=>?_);generalize j.drew=X at *;refine t2 1 2 ?_;have hX:Bw j X:=bc;have zX:=hX.size;refine XG (rs:=[0,8]) zK zS ?_;refine QO D (λK hK=>?_) (QO D (λK hK=>?_) Xy);go_simp;go_at_call 34;refine H (sI X) ?_;rintro e F ⟨mb,rfl,f,bz,ql⟩;have zn:=f.size;have ac:=a8 ql;have N:Bw j F:=hX.trans (f.mono E);refine hK.out _ _ (ur _ N) (λhHeld=>?_);clear hK K f ql;refine XG (rs:=[3,8]) zK zS ?_;refine QO D (λK hK=>?_) (QO D (λK hK=>?_) Xy);go_simp;go_at_call 35;refine H (q5 (λb=>False) F mb N zS ?_) ?_
  .exact ac _ λb hb=>by
    rcases hb with hb|hb;·have:=aI.out b hb;omega
    .exact hb.elim
  rintro e j0 ⟨g,s,O,rfl,f,hO,Q⟩;have zv:=f.size;have ab:=a8 Q;have HO:=a8 hO;have af:=a8 f;have d:Bw j j0:=N.trans (f.mono E);refine hK.out _ _ (ur _ d) (λhHeld=>?_);clear hK K f Q hO;refine XG (rs:=[4,8]) zK zS ?_;refine QO D (λK hK=>?_) (QO D (λK hK=>?_) Xy)
  .have HU:=a8 (q6 (λb=>False) (λb=>False) O F j0 j0 g s N af (Qg _ _) zS HO zS zS ab);go_simp;go_at_call 33;refine H HU ?_;intro e qa hp;have o:=hp.1;obtain⟨mv,cc,rfl,am⟩:=Ce hp;have aG:=a8 am;have aD:=a8 o;have zu:=o.size;have ag:∀b,O b->j.heap.size<=b:=λb hb=>by have:=HO.out b hb;omega
   have y:Bw j qa:=⟨o.os.trans d.os,o.tape.trans d.tape,o.output.trans d.output,E,λb hb=>(o.block b E λho=>by have:=ag b ho;omega).trans (d.block b hb)⟩;refine hK.out _ _ (ur _ y) (λhHeld=>?_);clear hK K hp am o HU;refine t2 5 6 ?_;refine tk 7 ?_;refine ic 8 λK hK=>?_;go_simp;have⟨V4,q8,f,aK,qq,zE⟩:=sG y #[I U 0,I U 0] 73;refine hK.out _ _ (ur _ (q8 ▸ aK)) (λhHeld=>?_);rw[q8]at hHeld ⊢;have xE:=y.size;have ad:=a8 f;clear hK K q8 f;have HM:=a8 (Jr (C:=λb=>(fV r b∨False)∨O b∨b=j0.heap.size) (Ezq:=qa.heap.size) d ag aD aG (ad) E E qq);have⟨⟨k0,k1⟩,f0,f1⟩:=ef qq;have b2:Bw j ((V4.setCell ⟨qa.heap.size,0,Y⟩ (I U cc)).setCell ⟨qa.heap.size,1,Y⟩ (I U 0)):=HM.1;exact TL
  go_simp;have⟨qa,q8,f,y,qq,zE⟩:=sG d #[I U 0,I U 0] 73;refine hK.out _ _ (ur _ (q8 ▸ y)) (λhHeld=>?_);rw[q8]at hHeld ⊢;have xE:=d.size;have ad:=a8 f;clear hK K q8 f;refine ic 4 λK hK=>?_;have HU:=a8 (q6 (λb=>False) (λb=>b=j0.heap.size) O F j0 qa g s N af (ad) zS HO E E ab);have⟨uE,hE⟩:=fk (j0.heap.size);have aX:uE<=j0.heap.size:=E;have aY:j0.heap.size<=uE:=E;rw[<- hE]at qq zE xE HU ⊢;clear hE;rotate_left;go_simp;have⟨j0,q8,f,d,qq,zE⟩:=sG N #[I U 0,I U 0] 73;refine hK.out _ _ (ur _ (q8 ▸ d)) (λhHeld=>?_);rw[q8]at hHeld ⊢;have xE:=N.size;have ad:=a8 f;clear hK K q8 f;refine ic 3 λK hK=>?_;go_simp;go_at_call 35;refine H (q5 (λb=>b=F.heap.size) j0 mb d E ?_) ?_;·exact ((ac (fV r) λb hb=>by have:=aI.out b hb;omega).move (C2:=λb=>fV r b∨b=F.heap.size) (λb hb hc=>hc.elim id E) (.of_below ad))
  rintro e qa ⟨g,s,O,rfl,f,hO,Q⟩;have zv:=f.size;have ab:=a8 Q;have HO:=a8 hO;have af:=a8 f;have y:Bw j qa:=d.trans (f.mono E);have qq:=(f.block _ zE).trans qq;have zE:F.heap.size<qa.heap.size:=E;refine hK.out _ _ (ur _ y) (λhHeld=>?_);clear hK K f Q hO;refine ic 4 λK hK=>?_;have HU:=a8 (q6 (λb=>b=F.heap.size) (λb=>b=F.heap.size) O j0 qa qa g s d af (Qg _ _) E HO E E ab);have⟨uE,hE⟩:=fk (F.heap.size);have aX:uE<=F.heap.size:=E;have aY:F.heap.size<=uE:=E;rw[<- hE]at qq zE xE HU ⊢;clear hE;rotate_left;go_simp;have⟨F,q8,f,N,qq,zE⟩:=sG hX #[I U 0,I U 0] 73;refine hK.out _ _ (ur _ (q8 ▸ N)) (λhHeld=>?_);rw[q8]at hHeld ⊢;have xE:=hX.size;have ad:=a8 f;clear hK K q8 f;refine ic 0 λK hK=>?_;go_simp;go_at_call 34;refine H (sI F) ?_;rintro e j0 ⟨mb,rfl,f,bz,ql⟩;have zn:=f.size;have ac:=a8 ql;have d:Bw j j0:=N.trans (f.mono E);have qq:=(f.block _ zE).trans qq;have zE:X.heap.size<j0.heap.size:=E;refine hK.out _ _ (ur _ d) (λhHeld=>?_);clear hK K f ql;refine ic 3 λK hK=>?_;go_simp;go_at_call 35;refine H (q5 (λb=>b=X.heap.size) j0 mb d E ?_) ?_
  .exact ac _ λb hb=>by
    rcases hb with hb|hb;·have:=aI.out b hb;omega
    .exact qcO
  rintro e qa ⟨g,s,O,rfl,f,hO,Q⟩;have zv:=f.size;have ab:=a8 Q;have HO:=a8 hO;have af:=a8 f;have y:Bw j qa:=d.trans (f.mono E);have qq:=(f.block _ zE).trans qq;have zE:X.heap.size<qa.heap.size:=E;refine hK.out _ _ (ur _ y) (λhHeld=>?_);clear hK K f Q hO;refine ic 4 λK hK=>?_;have HU:=a8 (q6 (λb=>b=X.heap.size) (λb=>b=X.heap.size) O j0 qa qa g s d af (Qg _ _) E HO E E ab);have⟨uE,hE⟩:=fk (X.heap.size);have aX:uE<=X.heap.size:=E;have aY:X.heap.size<=uE:=E;rw[<- hE]at qq zE xE HU ⊢;clear hE;rotate_left;all_goals
   go_simp
   go_at_call 33
   refine H HU ?_
   intro e V4 hp
   have o:=hp.1
   obtain⟨mv,cc,rfl,am⟩:=Ce hp
   have aG:=a8 am
   have aD:=a8 o
   have zu:=o.size
   have ag:∀b,O b->j.heap.size<=b:=λb hb=>by have:=HO.out b hb;omega
   have aK:Bw j V4:=⟨o.os.trans y.os,o.tape.trans y.tape,o.output.trans y.output,E,λb hb=>(o.block b E λho=>by have:=ag b ho;omega).trans (y.block b hb)⟩
   have qq:=(o.block uE zE (λho=>by have:=HO.out _ ho;omega)).trans qq
   have zE:uE<V4.heap.size:=E
   refine hK.out _ _ (ur _ aK) (λhHeld=>?_)
   clear hK K hp am o HU
   refine t2 5 6 ?_
   refine tk 7 ?_
   have HM:=a8 (Jr (C:=λb=>(fV r b∨b=uE)∨O b∨b=qa.heap.size) (Ezq:=uE) y ag aD aG (Qg _ _) E E qq)
   have⟨⟨k0,k1⟩,f0,f1⟩:=ef qq
   have b2:Bw j ((V4.setCell ⟨uE,0,Y⟩ (I U cc)).setCell ⟨uE,1,Y⟩ (I U 0)):=HM.1
   exact TL
 case rest=>
  obtain⟨wx,rfl⟩:∃x,x=wc:=⟨_,D⟩;obtain⟨M,rfl,aM,hE,c,hx,hM⟩:=hcut;have ar:=q9.trans (aM.mono E);obtain⟨-,u,P⟩:=i.out wx ar;obtain⟨⟨k0,k1⟩,-⟩:=ef hx;have bJ:=aM.size;cases R with
  | error k=>
   obtain⟨rfl,rfl⟩:=hM;have hk:=ae.out;have bC:(c==0)=false:=by have h1:1<=c:=hk.1;exact PR
   have HF:=QJ (sE (c:=c) P.drew);have bo:a7 wx.drew M 0=Z (I U c):=k0;have⟨⟨r0,r1,r2,r3,r4⟩,g0,g1,g2,g3,g4⟩:=cI (show wx.drew.heap[w.heap.size+1]?=_ from u);have bu:M≠w.heap.size+1:=E;clear i ur q5 q6 ae hk hx u aM;go_upto_region 8 with fail;refine Qz (S:=λw'=>a7 w' M 0=Z (I U c)) zK bo (λhHeld=>?_);generalize wx.drew=Wd at *;refine t2 0 1 ?_;refine tk 2 ?_;have aV:G (a7 (eF Wd (w.heap.size+1) 0 (I U 0) (I U 0) (Zt ⟨#[]⟩) (A Y 0 0) (A Y 0 0)) M 0=Z (I U c)):=(Ql (a:=⟨M,0,Y⟩) (dt bu)).trans bo;refine qk 3 ?_ λhHeld=>?_;exact aV;clear aV;refine tk 4 ?_;refine Xi zK ?_ _;go_simp;go_wp2_with fail;refine bR (v:=Zu #[Za #[I U 0,I U 0,Zt ⟨#[]⟩,A Y 0 0,A Y 0 0],I U c]) ?_;rw[aT.out];exact HF
  | ok t6=>
   obtain⟨rfl,aO⟩:=hM;have aw:=NG ae;obtain⟨iu,ix,rfl⟩:=aO.iface;have HO:=a8 (AX 6 (λb=>b<wx.heap.size) t6 _ wx aO.inner E aw);clear aO aw ae q5 q6 ur;go_wp2_with fail;refine H HO ?_;rintro e Z2 ⟨bb,y0,y1,y2,y3,y4,L3,L4,rfl,aP,aA,aB,al,ay⟩;obtain⟨i0,i1,i2,ua,ul,uc,ta,tl,tc,rfl,rfl,rfl,rfl,rfl⟩:=aP.shape;have bH:=bb.size;obtain⟨-,bg,ai⟩:=i.out Z2 (ar.trans (bb.mono E));have⟨⟨r0,r1,r2,r3,r4⟩,g0,g1,g2,g3,g4⟩:=cI bg;have HF:G (Rn (.ok t6) w (Zr (Zu #[Uy i0 i1 i2 ua ul uc ta tl tc,I U 0])) (eF Z2 (w.heap.size+1) 0 (I U i0) (I U i1) (Zt i2) (A ua ul uc) (A ta tl tc))):=by
    have aj:∀b,wx.heap.size<=b->(eF Z2 (w.heap.size+1) 0 (I U i0) (I U i1) (Zt i2) (A ua ul uc) (A ta tl tc)).heap[b]?=Z2.heap[b]?:=λb hb=>dt E;have az:∀s,s∈L3++L4->wx.heap.size<=s.b/\s.b<Z2.heap.size:=al.1;refine⟨dk ai E,_,_,_,_,_,L3,L4,D,aP.keep (λb hb=>aj b hb.1) (λb hb=>⟨pe,by rw[eJ];exact hb.2⟩),?_,?_,?_,ay⟩;·exact aA.same λs hs=>aj s.b (az s (XH _ hs)).1
    .exact aB.same λs hs=>aj s.b (az s (Xt _ hs)).1
    .exact al.mono λb hb=>⟨pe,by rw[eJ];exact hb.2⟩
   clear aP aA aB al u bg P ai i HO ay;go_wp2_with fail;refine bR (v:=Zu #[Uy i0 i1 i2 ua ul uc ta tl tc,I U 0]) ?_;rw[aT.out];exact HF
