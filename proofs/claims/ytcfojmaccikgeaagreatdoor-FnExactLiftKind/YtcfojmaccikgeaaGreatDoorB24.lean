import Derived.Test.YtcfojmaccikgeaaGreatDoorB10
import Derived.Test.YtcfojmaccikgeaaGreatDoorB13
import Derived.Test.YtcfojmaccikgeaaGreatDoorB9
import Derived.Test.YtcfojmaccikgeaaGreatDoorB23
import Derived.Test.YtcfojmaccikgeaaGreatDoorB19
import Derived.Test.YtcfojmaccikgeaaGreatDoorB7
import Derived.Test.YtcfojmaccikgeaaGreatDoorB2
import Derived.Lib.Hide
import Derived.Test.YtcfojmaccikgeaaGreatDoorB20
open Go.Value renaming slice→Zs,int→Zi,string→Zt,agg→Za,tuple→Zu,bool→Zb
open Go.IntKind renaming i64→Zk
open Go.Ending renaming returned→Zr
open Go.Obj renaming cells→Zc
open Option renaming none→Zn,some→Zo
open List renaming length_append→Zx
namespace Go.Proofs.YtcfojmaccikgeaaGreatDoor
open Go.RowKit Go.Proofs.Tryz
variable {w w' u u':World} {m A G:Nat} {P:Nat->Prop} {p0 p1 p2 g0 g1 g2 v:Value} {s:ByteArray}
theorem jX.eqb{N:Nat}{a b c:Value}(h:jX w N a b c)(d:w'.heap[N]?=w.heap[N]?):jX w' N a b c:=
 ⟨(World.cell?_of_block (w:=w) (w':=w') (a:=⟨N,0,Zn⟩) d).trans h.c0,(World.cell?_of_block (w:=w) (w':=w') (a:=⟨N,1,Zn⟩) d).trans h.c1,(World.cell?_of_block (w:=w) (w':=w') (a:=⟨N,2,Zn⟩) d).trans h.c2⟩
structure CM(m:Nat)(k:K m)(P:Nat->Prop)(A G:Nat)(p0 p1 p2 g0 g1 g2:Value)(w u:World):Prop where
 below:Bw w u
 ansBox:jX u A p0 p1 p2
 ans:a8 P u m k p0 p1 p2
 ansB:∀b,P b->b<A
 gotBox:jX u G g0 g1 g2
 ag:A<G
 gu:G<u.heap.size
theorem CM.step {k:K m} (h:CM m k P A G p0 p1 p2 g0 g1 g2 w u) {Z:Nat->Prop} (c:Bw w u') (a:u.heap.size<=u'.heap.size)
  (e:∀b:Nat,b<u.heap.size->¬Z b->u'.heap[b]?=u.heap[b]?) (d:∀b,Z b->A<b/\b≠G):CM m k P A G p0 p1 p2 g0 g1 g2 w u':=by
 have ag:=h.ag;have gu:=h.gu;have q:∀b,b<=A->u'.heap[b]?=u.heap[b]?:=fun b c=>e b om (fun a=>by have:=d b a;omega);exact⟨c,h.ansBox.eqb (q A (Nat.le_refl _)),h.ans.keep (fun b c=>q b (by have:=h.ansB b c;omega)) (fun _ h=>h),h.ansB,
  h.gotBox.eqb (e G gu (fun a=>(d G a).2 rfl)),ag,om⟩
theorem CM.keep {k:K m} (h:CM m k P A G p0 p1 p2 g0 g1 g2 w u) (d:w.heap.size<=u.heap.size) (a:Bw u u') :
  CM m k P A G p0 p1 p2 g0 g1 g2 w u':=h.step (Z:=fun _=>False) (b4 h.below d a) a.size (fun b c _=>a.block b c) (fun _ h=>h.elim)
set_option maxRecDepth 100000
set_option maxHeartbeats 16000000
def lP(m:Nat)(k:K m)(ok:Bool)(w:World)(e:Ending)(w':World):Prop:=
 Bw w w' /\ ∃c0 c1 c2 c a,e=Zr (Zu #[Za #[c0,c1,c2],Zb ok])/\a8 (fun b=>w.heap.size<=b/\b<w'.heap.size) w' m k c0 c1 c2 /\
  lW w' c1 c/\mI w' (m-1) c2 a/\Own (fun b=>w.heap.size<=b/\b<w'.heap.size) (c++a)/\(c++a).length<=1000
theorem qJ(h:iO (m+1) s=Zn)(a:Bw w w'):lP (m+1) (oQ m s) (zx m s) w (Zr (Zu #[Za #[Zi Zk 0,Zs Zn 0 0,Zs Zn 0 0],Zb false])) w':=by obtain⟨b,c⟩:=vu h;rw[b,c];exact⟨a,_,_,_,[],[],rfl,pO _ _ m,lW.no _,mI.no _ _,Own.nil _,zS⟩
theorem oT (s:ByteArray) (m:Nat) (hm:s.size<=m) (hs:s.size<=1048576) (w:World) :
  Calls prog 157 #[Zt s] w (lP (m+1) (oQ m s) (zx m s) w):=by
 obtain⟨N,y⟩:=iw (w.alloc (Zc #[Zi Zk 0,Zs Zn 0 0,Zs Zn 0 0] 31));have X:N.heap.size=w.heap.size+1:=by rw[y];simp
 have F:Bw w N:=by rw[y];exact gF _ _
 have g:N.heap[w.heap.size]?=Zo (Zc #[Zi Zk 0,Zs Zn 0 0,Zs Zn 0 0] 31 (0,0)):=by rw[y];exact heap_alloc_new _ _
 have j:Hid (∀W:World,Bw w W->Bw w (ij W w.heap.size 0 (Zi Zk 0) (Zs Zn 0 0) (Zs Zn 0 0))):=fun W h=>iP h (Nat.le_refl _);by_cases h8:s.size<=800;case neg=>have H:Hid (iO (m+1) s=Zn):=tz h8;have ah:(800:Int)<(s.size:Int):=om;obtain⟨⟨J,I,K⟩,f0,f1,f2⟩:=k7 g;rw[y]at J I K f0 f1 f2;have M:Hid (∀o,lP (m+1) (oQ m s) (zx m s) w (Zr (Zu #[Za #[Zi Zk 0,Zs Zn 0 0,Zs Zn 0 0],Zb false])) (w.alloc o)):=fun o=>qJ H.out (gF _ _);clear F g X H h8;go_in;go_wp2_with fail;refine bodyPost_ret (v:=Zu #[Za #[Zi Zk 0,Zs Zn 0 0,Zs Zn 0 0],Zb false]) (by simp[results,results157,go_sem]) rfl ?_;exact M.out _
 have ak:¬(800:Int)<(s.size:Int):=om;have al:∀(fn:Fn)(first cap:Array Value)(w:World),(Instr.makeFunc fn first cap).run prog w=.ok (.func fn first cap) w:=fun _ _ _ _=>rfl;have ac:Hid (Calls prog 195 #[Zt s] N _):=pT s N;obtain⟨G,u⟩:=iw (N.alloc (Zc #[Zt s,Zi Zk 0] 288));have aj:G.heap.size=N.heap.size+1:=by rw[u];simp
 have A:Bw w G:=by rw[u];exact F.alloc F.size _
 have p:G.heap[w.heap.size+1]?=Zo (Zc #[Zt s,Zi Zk 0] 288 (0,0)):=by rw[u,<- X];exact heap_alloc_new _ _
 have t:G.heap[w.heap.size]?=Zo (Zc #[Zi Zk 0,Zs Zn 0 0,Zs Zn 0 0] 31 (0,0)):=by rw[u,Below.heap_alloc _ _ _ om];exact g
 have V:Sc G (w.heap.size+1) s 0:=⟨by simp[World.cell?,p],by simp[World.cell?,p],by simp[World.frozen?,p]⟩;have P:Hid (Calls prog 194 #[.func (.func 196) #[.pointer (Zo ⟨w.heap.size+1,0,Zn⟩)] #[]] G (nw (w.heap.size+1) s (m+1) G)):=An (m+1) (w.heap.size+1) s G V om om;clear p V g F;go_in;go_wp2_with fail;rw[<- y];clear y;refine ac.out.mono ?_;rintro e w' ⟨rfl,rfl⟩;clear ac;go_wp2_with fail;rw[<- u];clear u;refine P.out.mono ?_;rintro e O ⟨l,ad⟩;have ag:=l.size;have B:Bw w O:=⟨l.os.trans A.os,l.tape.trans A.tape,l.output.trans A.output,om,fun b hb=>(l.block b om om).trans (A.block b hb)⟩;have c:O.heap[w.heap.size]?=Zo (Zc #[Zi Zk 0,Zs Zn 0 0,Zs Zn 0 0] 31 (0,0)):=(l.block _ om om).trans t;clear P A t l;rcases ad with ⟨k,c0,c1,c2,S,rfl,y4⟩|⟨S,rfl⟩;case inr=>have H:Hid (iO (m+1) s=Zn):=EJ S;have f:=B.alloc om (Zc #[Zi Zk 0,Zs Zn 0 0,Zs Zn 0 0] 31);obtain⟨⟨J,I,K⟩,f0,f1,f2⟩:=k7 ((Below.heap_alloc O (Zc #[Zi Zk 0,Zs Zn 0 0,Zs Zn 0 0] 31) w.heap.size om).trans c);have M:Hid (lP (m+1) (oQ m s) (zx m s) w _ _):=qJ H.out (j.out _ f);clear S H B c f j;go_wp2_with fail;refine bodyPost_ret (v:=Zu #[Za #[Zi Zk 0,Zs Zn 0 0,Zs Zn 0 0],Zb false]) (by simp[results,results157,go_sem,J,I,K]) rfl ?_;exact M.out
 obtain⟨z0,za,zl,zc,ua,ul,uc,rfl,rfl,rfl⟩:=y4.shape;obtain⟨W4,E⟩:=iw (O.alloc (Zc #[Zi Zk z0,Zs za zl zc,Zs ua ul uc] 31));have af:W4.heap.size=O.heap.size+1:=by rw[E];simp
 have n:Bw O W4:=by rw[E];exact gF _ _
 have f:=b4 B B.size n;have a:=(n.block w.heap.size om).trans c;obtain⟨Y,C⟩:=y4.step (fun b hb=>hb.2) n;have HC:Hid (Calls prog 80 _ _ _):=o7 (m+1) _ k _ _ _ W4 Y C;have HY:Hid (gb (m+1) s.data.toList=Zo (k,[])):=S;clear S y4 B c n Y;go_wp2_with fail;rw[<- E];clear E;refine HC.out.mono ?_;rintro e w5 ⟨i,⟨x,v,rfl,L⟩|⟨x,rfl⟩⟩;case inr=>have ae:=i.size;have H:Hid (iO (m+1) s=Zn):=DW HY.out x;have d:=b4 f f.size i;obtain⟨⟨J,I,K⟩,f0,f1,f2⟩:=k7 ((i.block w.heap.size om).trans a);have M:Hid (lP (m+1) (oQ m s) (zx m s) w _ _):=qJ H.out (j.out _ d);clear H HC HY x i f a d j C;go_wp2_with fail;refine bodyPost_ret (v:=Zu #[Za #[Zi Zk 0,Zs Zn 0 0,Zs Zn 0 0],Zb false]) (by simp[results,results157,go_sem,J,I,K]) rfl ?_;exact M.out
 obtain⟨kb,rfl,-⟩:=id L.ptr;have hp:=ie x;have ae:=i.size;have d:=b4 f f.size i;have r:=(i.block w.heap.size om).trans a;have HO:Hid (Calls prog 43 _ _ _):=o9 (m+1) _ k _ 1 w5 L (fun b hb=>hb.elim (fun h=>by have:=C b h;omega) (fun h=>h.2)) hp.1 hp.2;have HR:Hid (oQ m s=k/\zx m s=true/\qO (m+1) k<=1000):=by obtain⟨q1,q2⟩:=mK (C6 h8 HY.out x);exact⟨q1,q2,by have:=BR (m+1) k 1 hp.1;omega⟩
 clear HC HY x hp L i f a C j;go_wp2_with fail;refine HO.out.mono ?_;rintro e Q ⟨D,g0,g1,g2,L3,L4,rfl,z,ab,aa,ho,hl⟩;obtain⟨u0,va,U,T,R,Z,yc,rfl,rfl,rfl⟩:=z.shape;have ai:=D.size;obtain⟨⟨J,I,K⟩,f0,f1,f2⟩:=k7 ((D.block w.heap.size om).trans r);have M:Hid (lP (m+1) (oQ m s) (zx m s) w (Zr (Zu #[Za #[Zi Zk u0,Zs va U T,Zs R Z yc],Zb true])) (ij Q w.heap.size 0 (Zi Zk u0) (Zs va U T) (Zs R Z yc))):=by
  obtain⟨q1,q2,q3⟩:=HR.out;rw[q1,q2];have q:∀b,w5.heap.size<=b->(ij Q w.heap.size 0 (Zi Zk u0) (Zs va U T) (Zs R Z yc)).heap[b]?=Q.heap[b]?:=fun b h=>gR om;have hS:∀b,(w5.heap.size<=b/\b<Q.heap.size)->w.heap.size<=b/\b<(ij Q w.heap.size 0 (Zi Zk u0) (Zs va U T) (Zs R Z yc)).heap.size:=fun b h=>by rw[iq];omega
  exact⟨iP (b4 d d.size D) (Nat.le_refl _),_,_,_,L3,L4,rfl,z.keep (fun b h=>q b h.1) hS,ab.same (fun s h=>q _ (ho.1 s (List.mem_append_left _ h)).1),aa.same (fun s h=>q _ (ho.1 s (List.mem_append_right _ h)).1),ho.mono hS,by rw[hl];exact q3⟩
 clear HO HR z ab aa ho hl D d r;go_wp2_with fail;refine bodyPost_ret (v:=Zu #[Za #[Zi Zk u0,Zs va U T,Zs R Z yc],Zb true]) (by simp[results,results157,go_sem,J,I,K]) rfl ?_;exact M.out
theorem lL {R k i:Nat} (o:Obj) (h:jb w R s i false) (g:(fT s i).toNat=k):∃ d,d=w.alloc o/\d.heap.size=w.heap.size+1/\(w.alloc o).cell? ⟨R,2,Zn⟩=Zo (Zb false) /\
  Hid (Calls prog 177 #[.pointer (Zo ⟨R,0,Zn⟩)] d fun e b=>e=Zr (Zi .u8 ((k:Nat):Int))/\b7 R w b/\jb b R s i false/\b.heap.size=w.heap.size+1/\b.heap[w.heap.size]?=Zo o):=by have c:Bw w (w.alloc o):=gF _ _;have a:jb (w.alloc o) R s i false:=(c.block R h.lt).trans h;refine⟨_,rfl,zS,a.cell2,(sF _ R s i false a).mono fun e b ⟨f,k,j⟩=>?_⟩;subst j;rw[g]at f;exact⟨f,((b7.of_below c).trans (b7.refl R _)).drewN k,a.drewN k,zS,heap_alloc_new _ _⟩
def vA(b o:Nat):List fV:=[⟨b,o,true⟩,⟨b,o+1,false⟩]
def Jl(w:World)(n:Nat)(v:Value)(L:List fV):Prop:=∃(c:Option Addr)(cap:Nat)(a:List (List fV)),v=Zs c a.length cap/\a.length<=maxLen/\L=a.flatten /\
 ∀i (h:i<a.length),∃b off c3 c4 d e,c=Zo ⟨b,off,Zn⟩/\a[i]=vA b (off+i*4)++(d++e)/\(∀s,s∈vA b (off+i*4)->s.ok w) /\
  w.cell? ⟨b,off+i*4+2,Zn⟩=Zo c3/\w.cell? ⟨b,off+i*4+3,Zn⟩=Zo c4/\lW w c3 d/\mI w n c4 e
theorem Jl.ok{n:Nat}{L:List fV}(h:Jl w n v L):∀s,s∈L->s.ok w:=by
 intro s g;obtain⟨p,cap,o,-,-,rfl,hi⟩:=h;obtain⟨k,c,a⟩:=List.mem_flatten.1 g;obtain⟨i,h,rfl⟩:=List.getElem_of_mem c;obtain⟨b,off,c3,c4,l,m,-,c,e,-,-,j,f⟩:=hi i h;rw[c]at a;rcases List.mem_append.1 a with d|d;·exact e s d
 ·exact (List.mem_append.1 d).elim (j.ok s) (f.ok s)
theorem wU (n:Nat) (L:List fV) (v:Value) (k:Int) (w:World) (h:Jl w n v L) (h0:1<=k) (h1:k+L.length<=1000000000) :
  Calls prog 15 #[v,Zi Zk k] w fun e u=>e=Zr (Zi Zk (k+L.length))/\gt L k w u:=by
 have T:=h.ok;obtain⟨ao,cap,c,rfl,Y,rfl,hi⟩:=h;unfold maxLen at Y;have ab:=a7 T;have S:Hid (∀j,(c.take j).flatten.length<=c.flatten.length):=fun j=>jI c j;have HB:=a7 h1;clear T h1;go_in;go_wp2;go_loopw [1,5] (fun a i wr=>∃j:Nat,j<=c.length/\i=Zi Zk j/\a=Zi Zk (k+((c.take j).flatten.length:Int))/\gt (c.take j).flatten k w wr) (fun _ i _=>c.length-(intOf i).toNat);case atStart=>exact⟨0,Nat.zero_le _,rfl,zS,by simpa using gt.refl k w⟩
 case round=>
  obtain⟨j,hj,rfl,rfl,f⟩:=hrel;by_cases W:j<c.length
  ·obtain⟨b,off,c3,c4,r,H,rfl,y,g,J,R,hN,hR⟩:=hi j W;have d:=lC c j W;have E:=S.out (j+1);rw[d,y]at E;simp only[Zx]at E;have F:(vA b (off+j*4)).length=2:=rfl;have ac:k+((c.take j).flatten.length:Int)+2+r.length+H.length<=1000000000:=by have:=HB.out;omega
   have l:∀s,s∈(c.take j).flatten->s.ok w:=fun s Z=>ab.out s (by
    obtain⟨Li,h1,h2⟩:=List.mem_flatten.1 Z
    exact List.mem_flatten.2 ⟨Li,List.mem_of_mem_take h1,h2⟩)
   obtain⟨M,hM⟩:=iw ((c.take j).flatten);rw[<- hM]at f l d ac ⊢;clear hM;have q:=f.sim l;have o0:=fV.ok_sim (g ⟨b,off+j*4,true⟩ (by simp[vA])) q;have o1:=fV.ok_sim (g ⟨b,off+j*4+1,false⟩ (by simp[vA])) q;obtain⟨⟨x0,B⟩,z0⟩:=o0;obtain⟨⟨x1,r1⟩,z1⟩:=o1;simp only[fV.at]at B r1 z0 z1;generalize z:k+(M.length:Int)=kk at *;have ae:1<=kk:=om;have I:=a7 f;have HC:Hid (Calls prog 48 #[Zi Zk kk] wr fun e u=>e=Zr (Zt (mt kk)) /\
     (u.cell? ⟨b,off+j*4,Zn⟩=Zo (Zt x0)/\u.frozen? ⟨b,off+j*4,Zn⟩=false)/\(u.cell? ⟨b,off+j*4+1,Zn⟩=Zo (Zi Zk x1)/\u.frozen? ⟨b,off+j*4+1,Zn⟩=false)/\gt (M++vA b (off+j*4)) k w ((u.setCell ⟨b,off+j*4,Zn⟩ (Zt (mt kk))).setCell ⟨b,off+j*4+1,Zn⟩ (Zi Zk (kk+1)))):=by
    refine (lH kk _ om om).mono ?_
    rintro e u ⟨rfl,hb⟩
    refine⟨rfl,⟨kC hb B (wi (o:=off+j*4) B),(hb.frozen (p:=⟨b,off+j*4,Zn⟩) (wi (o:=off+j*4) B)).trans z0⟩,⟨kC hb r1 (wi (o:=off+j*4) B),(hb.frozen (p:=⟨b,off+j*4+1,Zn⟩) (wi (o:=off+j*4) B)).trans z1⟩,?_⟩
    have:=((I.out.below hb).snocI ⟨b,off+j*4,true⟩ z.symm ⟨b,off+j*4,Zn⟩ (Zt (mt kk)) rfl rfl).snocI (kk:=kk+1) ⟨b,off+j*4+1,false⟩ zE ⟨b,off+j*4+1,Zn⟩ (Zi Zk (kk+1)) rfl rfl
    simpa [vA] using this
   have t:Hid (∀s,s∈M++vA b (off+j*4)->s.ok w):=fun s Z=>(List.mem_append.1 Z).elim (l s) (g s);have U:Hid (lW w c3 r/\mI w n c4 H/\w.cell? ⟨b,off+j*4+2,Zn⟩=Zo c3/\w.cell? ⟨b,off+j*4+3,Zn⟩=Zo c4):=⟨hN,hR,J,R⟩;obtain⟨na,nl,nc,rfl⟩:=hN.slice;obtain⟨ka,kl,kc,rfl⟩:=hR.slice;have Q:Hid ((c.take (j+1)).flatten=M++(vA b (off+j*4)++(r++H))):=by show _=_;rw[d,y]
   have A:=a7 z;clear hN hR J R hi I q f g l d y E z B r1 z0 z1;generalize mt kk=tx at *;go_wp2_with fail;refine HC.out.mono ?_;rintro e w3 ⟨rfl,⟨g0,g1⟩,⟨g2,g3⟩,C⟩;have D:=C.sim t.out;have q3:=D.sl _ _ _ _ _ U.out.2.2.1;have N:Hid (Calls prog 49 _ _ _):=jm r _ (kk+1+1) _ (U.out.1.sim D) om om;have K:Hid _:=C;clear D C HC;go_wp2_with fail;refine N.out.mono ?_;rintro e w5 ⟨rfl,P⟩;have m:gt (M++vA b (off+j*4)++r) k w w5:=K.out.trans (by
    rw[show k+((M++vA b (off+j*4)).length:Int)=kk+1+1 by have:=A.out;rw[Zx,F];omega];exact P)
   have V:Hid (∀s,s∈M++vA b (off+j*4)++r->s.ok w):=fun s Z=>(List.mem_append.1 Z).elim (t.out s) (U.out.1.ok s);have G:=m.sim V.out;have q4:=G.sl _ _ _ _ _ U.out.2.2.2;have O:Hid (Calls prog 50 _ _ _):=oY n H _ (kk+1+1+r.length) w5 (U.out.2.1.sim G) om om;have x:Hid _:=m;clear G m P K q3 g0 g1 g2 g3 N;go_wp2_with fail;refine O.out.mono ?_;rintro e w6 ⟨rfl,X⟩;have aa:Hid (gt (c.take (j+1)).flatten k w w6):=by
    show gt _ _ _ _;rw[Q.out];have:=x.out.trans (M:=H) (w2:=w6) (by
     rw[show k+((M++vA b (off+j*4)++r).length:Int)=kk+1+1+(r.length:Int) by have:=A.out;rw[Zx,Zx,F];omega];exact X)
    simpa [List.append_assoc] using this
   have ad:Hid (kk+1+1+(r.length:Int)+(H.length:Int)=k+((c.take (j+1)).flatten.length:Int)):=by show _=_;rw[Q.out];have:=A.out;simp only[Zx,F];omega
   clear X x O q4;go_wp2;go_roundw;case rel=>exact⟨j+1,om,by go_num,by rw[ad.out],aa.out⟩
   case measure=>simp[intOf];omega
  ·have I:Hid (gt c.flatten k w wr/\k+((c.take j).flatten.length:Int)=k+(c.flatten.length:Int)):=by rw[show j=c.length by omega,List.take_length]at f ⊢;exact⟨f,rfl⟩
   clear hi f;go_wp2;go_ret;exact⟨fO I.out.2,I.out.1⟩
theorem AM (n:Nat) {S:Nat->Prop} (l:List (ByteArray × K n)) (h:gM S w n l v) (A:∀ b o,S b->w.frozen? ⟨b,o,Zn⟩=false) :
  ∃L,Jl w (n-1) v L/\(∀s,s∈L->S s.b)/\L.length<=2*b5 (fun k=>mY k+1) l:=by
 obtain⟨U,cap,rfl,I,N⟩:=h;by_cases p:l=[];·subst p;exact⟨[],⟨U,cap,[],rfl,I,rfl,fun i h=>absurd h (Nat.not_lt_zero _)⟩,fun _ h=>(by cases h),zS⟩
 ·obtain⟨b,off,rfl,F,m⟩:=N p;have a:∀i (h:i<l.length),∃c3 c4 c d,(∀s,s∈vA b (off+i*4)->s.ok w)/\w.cell? ⟨b,off+i*4+2,Zn⟩=Zo c3/\w.cell? ⟨b,off+i*4+3,Zn⟩=Zo c4/\lW w c3 c/\mI w (n-1) c4 d/\(∀s,s∈c++d->S s.b)/\(c++d).length<=mY l[i]:=by
   intro i hi;obtain⟨Y,O,M,T,Q,V,R,-,H⟩:=m i hi;obtain⟨c,d,t,q,u,J⟩:=Ab n l[i].2 H A;refine⟨O,M,c,d,fun s y=>?_,V,R,t,q,u,Nat.le_trans J (Nat.le_add_left _ _)⟩;simp only[vA,List.mem_cons,List.not_mem_nil,or_false]at y;obtain⟨x,_,_,_,_,_,_,rfl,-⟩:=H.shape;rcases y with rfl|rfl;·exact⟨⟨_,T⟩,A _ _ F⟩
   ·exact⟨⟨x,Q⟩,A _ _ F⟩
  let f:Nat->List fV:=fun i=>if hi:i<l.length then vA b (off+i*4)++((a i hi).choose_spec.choose_spec.choose++(a i hi).choose_spec.choose_spec.choose_spec.choose) else []
  have g:∀i (hi:i<l.length),∃c3 c4 c d,f i=vA b (off+i*4)++(c++d)/\(∀s,s∈vA b (off+i*4)->s.ok w)/\w.cell? ⟨b,off+i*4+2,Zn⟩=Zo c3/\w.cell? ⟨b,off+i*4+3,Zn⟩=Zo c4/\lW w c3 c/\mI w (n-1) c4 d/\(∀s,s∈c++d->S s.b)/\(c++d).length<=mY l[i]:=by intro i hi;have D:=(a i hi).choose_spec.choose_spec.choose_spec.choose_spec;exact⟨_,_,_,_,dif_pos hi,D⟩
  refine⟨((List.range l.length).map f).flatten,⟨Zo ⟨b,off,Zn⟩,cap,(List.range l.length).map f,by rw[List.length_map,List.length_range],by rw[List.length_map,List.length_range];exact I,rfl,fun i hi=>?_⟩,fun s y=>?_,?_⟩
  ·have B:i<l.length:=by simpa using hi
   obtain⟨c3,c4,c,d,e,o,G,z,t,q,-⟩:=g i B;exact⟨b,off,c3,c4,c,d,rfl,by rw[List.getElem_map,List.getElem_range];exact e,o,G,z,t,q⟩
  ·obtain⟨x,P,r⟩:=List.mem_flatten.1 y;obtain⟨i,hi,rfl⟩:=List.mem_map.1 P;obtain⟨c3,c4,c,d,e,o,G,z,t,q,u,-⟩:=g i (List.mem_range.1 hi);rw[e]at r;rcases List.mem_append.1 r with h|h;·simp only[vA,List.mem_cons,List.not_mem_nil,or_false]at h;rcases h with rfl|rfl<;>exact F
   ·exact u s h
  ·have E:∀ j,j<=l.length->((List.range j).map f).flatten.length<=2*b5 (fun k=>mY k+1) (l.take j):=by
    intro j;induction j with
    | zero=>intro _;simp
    | succ j C=>intro W;have X:=C om;obtain⟨c3,c4,c,d,e,o,G,z,t,q,u,J⟩:=g j om;rw[List.range_succ,List.map_append,List.flatten_append,Zx,List.take_succ_eq_append_getElem om,qv];simp only[List.map_cons,List.map_nil,List.flatten_cons,List.flatten_nil,List.append_nil];rw[e,Zx,show (vA b (off+j*4)).length=2 from rfl];omega
   have:=E l.length (Nat.le_refl _);rwa [List.take_length]at this
end Go.Proofs.YtcfojmaccikgeaaGreatDoor
