import Derived.Test.YtcfojmaccikgeaaGreatDoorB9
import Derived.Handy
import Derived.Test.YtcfojmaccikgeaaGreatDoorB2
open Go.Value renaming slice→Zs,int→Zi,string→Zt
open Go.IntKind renaming i64→Zk
open Go.Ending renaming returned→Zr
open Go.Obj renaming cells→Zc
open Option renaming none→Zn,some→Zo
open Go renaming World→Zw,Value→Zv
open List renaming length_append→Zx,take_succ_eq_append_getElem→ZA
namespace Go.Proofs.YtcfojmaccikgeaaGreatDoor
open Go.RowKit Go.Proofs.Tryz
variable {w w':Zw} {v:Zv} {α:Type} {k:Int} {n M:Nat} {P Q:Nat->Prop} {e:TypeId} {l:List ByteArray}
theorem lW.slice{L:List fV}(h:lW w v L):∃a l c,v=Zs a l c:=by obtain⟨d,cap,b,-⟩:=h;exact⟨_,_,_,b⟩
theorem lC(a:List (List α))(j:Nat)(h:j<a.length):(a.take (j+1)).flatten=(a.take j).flatten++a[j]:=by rw[ZA h,List.flatten_append,List.flatten_cons,List.flatten_nil,List.append_nil]
theorem jI(a:List (List α))(j:Nat):(a.take j).flatten.length<=a.flatten.length:=by
 have h:(a.take j++a.drop j).flatten.length=a.flatten.length:=by rw[List.take_append_drop]
 rw[List.flatten_append,Zx]at h;omega
theorem gt.snocI{L:List fV}{kk:Int}{w1:Zw}(h:gt L k w w1)(s:fV)(c:kk=k+L.length)(p:Addr)(v:Zv)(b:p=s.at)(a:v=s.val kk):gt (L++[s]) k w (w1.setCell p v):=by subst c b a;exact h.snoc s
theorem lW.below{L:List fV}(h:lW w v L)(a:Bw w w'):lW w' v L:=h.sim ((vB.refl w).below a)
theorem Holds.below{L:List fV}(h:Holds w L k)(a:∀s,s∈L->s.ok w)(c:Bw w w'):Holds w' L k:=
 h.keep (fun s b=>c.cell (p:=s.at) (fV.ok_lt (a s b)))
theorem Bf{a:List (List fV)}(h:Holds w a.flatten k)(j:Nat)(b:j<a.length):Holds w a[j] (k+((a.take j).flatten.length:Int)):=by
 have e:a.flatten=(a.take j).flatten++(a[j]++(a.drop (j+1)).flatten):=by have:=List.take_append_drop j a;rw[<- List.flatten_cons,<- List.flatten_append,<- List.drop_eq_getElem_cons b,this]
 rw[e]at h;exact (mU (mU h).2).1
set_option maxRecDepth 100000
set_option maxHeartbeats 16000000
def mI(w:Zw):Nat->Zv->List fV->Prop
 | 0,v,L=>∃c cap,v=Zs c 0 cap/\L=[]
 | n + 1, v, L => ∃ (c : Option Addr) (cap : Nat) (a : List (List fV)), v = Zs c a.length cap /\ a.length <= maxLen /\ L = a.flatten /\
   ∀i (h:i<a.length),∃b off c3 c4 d e,c=Zo ⟨b,off,Zn⟩/\a[i]=[⟨b,off+i*3,false⟩]++(d++e)/\(⟨b,off+i*3,false⟩:fV).ok w /\
    w.cell? ⟨b,off+i*3+1,Zn⟩=Zo c3/\w.cell? ⟨b,off+i*3+2,Zn⟩=Zo c4/\lW w c3 d/\mI w n c4 e
theorem mI.slice:∀ {n:Nat} {v:Zv} {L:List fV},mI w n v L->∃a l c,v=Zs a l c:=by
 intro n;cases n with
 | zero=>rintro v L ⟨d,cap,b,-⟩;exact⟨_,_,_,b⟩
 | succ n=>rintro v L ⟨d,cap,e,b,-⟩;exact⟨_,_,_,b⟩
theorem mI.sim(d:vB w w'):∀ {n:Nat} {v:Zv} {L:List fV},mI w n v L->mI w' n v L:=by
 intro n;induction n with
 | zero=>intro v L h;exact h
 | succ n y=>
  rintro v L ⟨t,cap,s,k,q,o,hi⟩;refine⟨t,cap,s,k,q,o,fun i h=>?_⟩;obtain⟨b,off,c3,c4,m,r,p,e,f,u,x,j,g⟩:=hi i h;refine⟨b,off,c3,c4,m,r,p,e,fV.ok_sim f d,?_,?_,j.sim d,y g⟩;·obtain⟨a,l,c,rfl⟩:=j.slice;exact d.sl _ _ _ _ _ u
  ·obtain⟨a,l,c,rfl⟩:=g.slice;exact d.sl _ _ _ _ _ x
theorem mI.ok:∀ {n:Nat} {v:Zv} {L:List fV},mI w n v L->∀s,s∈L->s.ok w:=by
 intro n;induction n with
 | zero=>rintro v L ⟨m,cap,j,rfl⟩ s g;cases g
 | succ n k=>
  rintro v L ⟨m,cap,y,j,u,rfl,hi⟩ s g;obtain⟨p,c,a⟩:=List.mem_flatten.1 g;obtain⟨i,h,rfl⟩:=List.getElem_of_mem c;obtain⟨b,off,c3,c4,q,x,r,c,f,z,t,o,l⟩:=hi i h;rw[c]at a;rcases List.mem_append.1 a with d|d;·rw[List.mem_singleton]at d;subst d;exact f
  ·rcases List.mem_append.1 d with e|e;·exact o.ok s e
   ·exact k l s e
def oD(n:Nat):Prop:=∀(L:List fV)(v:Zv)(k:Int)(w:Zw),mI w n v L->1<=k->k+L.length<=1000000000 ->
 Calls prog 50 #[v,Zi Zk k] w fun e a=>e=Zr (Zi Zk (k+L.length))/\gt L k w a
theorem Bk:oD 0:=by intro L v k w h d c;obtain⟨b,cap,rfl,rfl⟩:=h;have a:Hid (gt [] k w w/\k=k+(([]:List fV).length:Int)):=⟨gt.refl k w,zS⟩;go_in;go_wp2;go_rounds 1;go_ret;exact⟨fO a.out.2,a.out.1⟩
theorem Bu(n:Nat)(hn:oD n):oD (n+1):=by
 intro L v k w h h0 S;have K:=h.ok;obtain⟨ao,cap,c,rfl,Q,rfl,hi⟩:=h;unfold maxLen at Q;have V:Hid (∀s,s∈c.flatten->s.ok w):=K;have J:Hid (∀j,(c.take j).flatten.length<=c.flatten.length):=fun j=>jI c j;have HB:Hid (k+(c.flatten.length:Int)<=1000000000):=S;clear K S;go_in;go_wp2;go_loopw [1,5] (fun a i wr=>∃j:Nat,j<=c.length/\i=Zi Zk j/\a=Zi Zk (k+((c.take j).flatten.length:Int))/\gt (c.take j).flatten k w wr) (fun _ i _=>c.length-(intOf i).toNat);case atStart=>exact⟨0,Nat.zero_le _,rfl,zS,by simpa using gt.refl k w⟩
 case round=>
  obtain⟨j,hj,rfl,rfl,f⟩:=hrel;by_cases O:j<c.length
  ·obtain⟨b,off,c3,c4,o,C,rfl,t,l,u,I,T,Y⟩:=hi j O;have d:=lC c j O;have A:=J.out (j+1);rw[d,t]at A;simp only[Zx,List.length_singleton]at A;have W:k+((c.take j).flatten.length:Int)+1+o.length+C.length<=1000000000:=by have:=HB.out;omega
   have g:∀s,s∈(c.take j).flatten->s.ok w:=fun s R=>V.out s (by
    obtain⟨Li,S,h2⟩:=List.mem_flatten.1 R
    exact List.mem_flatten.2 ⟨Li,List.mem_of_mem_take S,h2⟩)
   obtain⟨M,hM⟩:=iw ((c.take j).flatten);rw[<- hM]at f g d W ⊢;clear hM;have q:=f.sim g;obtain⟨⟨x0,r0⟩,z0⟩:=fV.ok_sim l q;simp only[fV.at]at r0 z0;generalize x:k+(M.length:Int)=kk at *;have aa:1<=kk:=om;have W1:=f.snocI ⟨b,off+j*3,false⟩ x.symm ⟨b,off+j*3,Zn⟩ (Zi Zk kk) rfl rfl;have p:Hid (∀s,s∈M++[⟨b,off+j*3,false⟩]->s.ok w):=fun s R=>by
    rcases List.mem_append.1 R with h|h;·exact g s h
    ·rw[List.mem_singleton]at h;subst h;exact l
   have X:Hid (lW w c3 o/\mI w n c4 C/\w.cell? ⟨b,off+j*3+1,Zn⟩=Zo c3/\w.cell? ⟨b,off+j*3+2,Zn⟩=Zo c4):=⟨T,Y,u,I⟩;obtain⟨na,nl,nc,rfl⟩:=T.slice;obtain⟨ka,kl,kc,rfl⟩:=Y.slice;have G:Hid ((c.take (j+1)).flatten=M++([⟨b,off+j*3,false⟩]++(o++C))):=by show _=_;rw[d,t]
   have y:Hid (k+(M.length:Int)=kk):=x;have z:=W1.sim p.out;have q3:=z.sl _ _ _ _ _ u;have D:Hid (Calls prog 49 _ _ _):=jm o _ (kk+1) _ (T.sim z) om om;have H:Hid _:=W1;clear T Y u I hi W1 q f l g d t A x z;go_wp2_with fail;refine D.out.mono ?_;rintro e w5 ⟨rfl,F⟩;have m:gt (M++[⟨b,off+j*3,false⟩]++o) k w w5:=H.out.trans (by
    rw[show k+((M++[(⟨b,off+j*3,false⟩:fV)]).length:Int)=kk+1 by have:=y.out;rw[Zx,List.length_singleton];omega];exact F)
   have N:Hid (∀s,s∈M++[⟨b,off+j*3,false⟩]++o->s.ok w):=fun s R=>by
    rcases List.mem_append.1 R with h|h;·exact p.out s h
    ·exact X.out.1.ok s h
   have B:=m.sim N.out;have q4:=B.sl _ _ _ _ _ X.out.2.2.2;have E:Hid (Calls prog 50 _ _ _):=hn C _ (kk+1+o.length) w5 (X.out.2.1.sim B) om om;have r:Hid _:=m;clear B m F H q3 D;go_wp2_with fail;refine E.out.mono ?_;rintro e w6 ⟨rfl,P⟩;have U:Hid (gt (c.take (j+1)).flatten k w w6):=by
    show gt _ _ _ _;rw[G.out];have:=r.out.trans (M:=C) (w2:=w6) (by
     rw[show k+((M++[(⟨b,off+j*3,false⟩:fV)]++o).length:Int)=kk+1+(o.length:Int) by have:=y.out;rw[Zx,Zx,List.length_singleton];omega];exact P)
    simpa [List.append_assoc] using this
   have Z:Hid (kk+1+(o.length:Int)+(C.length:Int)=k+((c.take (j+1)).flatten.length:Int)):=by show _=_;rw[G.out];have:=y.out;simp only[Zx,List.length_singleton];omega
   clear P r E q4;go_wp2;go_roundw;case rel=>exact⟨j+1,om,by go_num,by rw[Z.out],U.out⟩
   case measure=>simp[intOf];omega
  ·have HW:Hid (gt c.flatten k w wr/\k+((c.take j).flatten.length:Int)=k+(c.flatten.length:Int)):=by rw[show j=c.length by omega,List.take_length]at f ⊢;exact⟨f,rfl⟩
   clear hi f;go_wp2;go_ret;exact⟨fO HW.out.2,HW.out.1⟩
theorem oY:∀n,oD n:=by
 intro n;induction n with
 | zero=>exact Bk
 | succ n a=>exact Bu n a
theorem mI.below{L:List fV}(h:mI w n v L)(a:Bw w w'):mI w' n v L:=h.sim ((vB.refl w).below a)
theorem xC (n:Nat) (l:Int) (c3 c4:Zv) (a d:List fV) (k:Int) (w:Zw) (r:lW w c3 a) (q:mI w n c4 d) (z:1<=k) (D:k+a.length+d.length<=1000000000) :
  Calls prog 17 #[.agg #[Zi Zk l,c3,c4],Zi Zk k] w fun e C=>e=Zr (Zi Zk (k+a.length+d.length))/\gt (a++d) k w C:=by
 obtain⟨na,o,m,rfl⟩:=r.slice;obtain⟨h,g,f,rfl⟩:=q.slice;have b:=(Below.refl w.heap.size w).alloc (Nat.le_refl _) (Zc #[Zi Zk l,Zs na o m,Zs h g f] 31);have c:=r.below b;have x:Hid (Calls prog 49 _ _ _):=jm a _ k _ c z om;have u:Hid (mI (w.alloc (Zc #[Zi Zk l,Zs na o m,Zs h g f] 31)) n (Zs h g f) d/\∀s,s∈a->s.ok (w.alloc (Zc #[Zi Zk l,Zs na o m,Zs h g f] 31))):=⟨q.below b,c.ok⟩;have y:(w.alloc (Zc #[Zi Zk l,Zs na o m,Zs h g f] 31)).cell? ⟨w.heap.size,2,Zn⟩=Zo (Zs h g f):=by simp[go_sem]
 clear r q c;go_in;go_wp2_with fail;refine x.out.mono ?_;rintro e w1 ⟨rfl,p⟩;have t:=p.sim u.out.2;have E:=t.sl _ _ _ _ _ y;have j:Hid (Calls prog 50 _ _ _):=oY n d _ (k+a.length) w1 (u.out.1.sim t) om om;have v:Hid _:=p;clear t p x u;go_wp2_with fail;refine j.out.mono ?_;rintro e A ⟨rfl,i⟩;have B:Hid (gt (a++d) k w A):=gt.from_below b (v.out.trans i);clear i v j;go_wp2;go_ret;exact⟨rfl,B.out⟩
def oP(n:Nat):Prop:=∀(L:List fV)(v:Zv)(k:Int)(w:Zw),mI w n v L->Holds w L k->1<=k->k+L.length<=1000000000 ->
 Calls prog 53 #[v,Zi Zk k] w fun e a=>e=Zr (Zi Zk (k+L.length))/\Bw w a
theorem zH:oP 0:=by
 intro L v k w h _ d c;obtain⟨b,cap,rfl,rfl⟩:=h;have a:Hid (k=k+(([]:List fV).length:Int)):=by show _=_;simp
 go_in;go_wp2;go_rounds 1;go_ret;exact⟨fO a.out,Below.refl _ _⟩
theorem Bp(n:Nat)(hn:oP n):oP (n+1):=by
 intro L v k w h X h0 Y;have D:=h.ok;obtain⟨ao,cap,d,rfl,H,rfl,hi⟩:=h;unfold maxLen at H;have ab:Hid (∀s,s∈d.flatten->s.ok w):=D;have HH:Hid (Holds w d.flatten k):=X;have C:Hid (∀j,(d.take j).flatten.length<=d.flatten.length):=fun j=>jI d j;have HB:Hid (k+(d.flatten.length:Int)<=1000000000):=Y;clear D X Y;go_in;go_wp2;go_loopw [1,5] (fun a i wr=>∃j:Nat,j<=d.length/\i=Zi Zk j/\a=Zi Zk (k+((d.take j).flatten.length:Int))/\Bw w wr) (fun _ i _=>d.length-(intOf i).toNat);case atStart=>exact⟨0,Nat.zero_le _,rfl,zS,Below.refl _ _⟩
 case round=>
  obtain⟨j,hj,rfl,rfl,c⟩:=hrel;by_cases t:j<d.length
  ·obtain⟨b,off,c3,c4,x,K,rfl,l,E,y,B,M,J⟩:=hi j t;have f:=lC d j t;have q:=C.out (j+1);rw[f,l]at q;simp only[Zx,List.length_singleton]at q;have ad:k+((d.take j).flatten.length:Int)+1+x.length+K.length<=1000000000:=by have:=HB.out;omega
   have u:=Bf HH.out j t;rw[l]at u;have Q:Hid (k+((d.take j).flatten.length:Int)+1+(x.length:Int)+(K.length:Int)=k+((d.take (j+1)).flatten.length:Int)):=by show _=_;rw[f,l];simp only[Zx,List.length_singleton];omega
   have ac:0<=((d.take j).flatten.length:Int):=om;generalize N:k+((d.take j).flatten.length:Int)=kk at *;have U:1<=kk:=om;clear N;obtain⟨O,o⟩:=mU u;obtain⟨G,A⟩:=mU o;obtain⟨V,-⟩:=O;have p:w.cell? ⟨b,off+j*3,Zn⟩=Zo (Zi Zk kk):=V;have r:=wi p;have f0:=kC c p r;have T:Hid (∀W,Bw w W->W.cell? ⟨b,off+j*3+1,Zn⟩=Zo c3/\W.cell? ⟨b,off+j*3+2,Zn⟩=Zo c4):=fun W m=>⟨kC m y r,kC m B r⟩;have HN:Hid (∀W,Bw w W->Calls prog 52 #[c3,Zi Zk (kk+1)] W fun e R=>e=Zr (Zi Zk (kk+1+x.length))/\Bw W R):=fun W m=>nD x c3 _ W (M.below m) (by have:=G.below M.ok m;simpa using this) om om;have HR:Hid (∀W,Bw w W->Calls prog 53 #[c4,Zi Zk (kk+1+x.length)] W fun e R=>e=Zr (Zi Zk (kk+1+x.length+K.length))/\Bw W R):=fun W m=>hn K c4 _ W (J.below m) (by have:=A.below J.ok m;simpa using this) om om;have ae:=c.size;obtain⟨na,nl,nc,rfl⟩:=M.slice;obtain⟨ka,kl,kc,rfl⟩:=J.slice;obtain⟨p3,p4⟩:=T.out _ c;clear M J y B hi E f l q V p u o G A;have aa:(kk != kk)=false:=zS;go_wp2_with fail;refine (HN.out _ c).mono ?_;rintro e w2 ⟨rfl,F⟩;have g:=b4 c c.size F;obtain⟨P,S⟩:=T.out _ g;clear F p3 p4 f0;go_wp2_with fail;refine (HR.out _ g).mono ?_;rintro e w3 ⟨rfl,I⟩;have z:=b4 g g.size I;clear I P S;go_wp2;go_roundw;case rel=>exact⟨j+1,om,by go_num,by rw[<- Q.out],z⟩
   case measure=>simp[intOf];omega
  ·have Z:Hid (k+((d.take j).flatten.length:Int)=k+(d.flatten.length:Int)):=by show _=_;rw[show j=d.length by omega,List.take_length]
   clear hi;go_wp2;go_ret;exact⟨fO Z.out,c⟩
theorem uK:∀n,oP n:=by
 intro n;induction n with
 | zero=>exact zH
 | succ n a=>exact Bp n a
theorem qg (n:Nat) (s:Int) (c3 c4:Zv) (b d:List fV) (k:Int) (w:Zw) (r:lW w c3 b) (p:mI w n c4 d) (y:Holds w (b++d) k) (C:1<=k) (E:k+b.length+d.length<=1000000000) :
  Calls prog 18 #[.agg #[Zi Zk s,c3,c4],Zi Zk k] w fun e t=>e=Zr (Zi Zk (k+b.length+d.length))/\Bw w t:=by
 obtain⟨na,z,v,rfl⟩:=r.slice;obtain⟨q,o,m,rfl⟩:=p.slice;obtain⟨j,l⟩:=mU y;have c:=(Below.refl w.heap.size w).alloc (Nat.le_refl _) (Zc #[Zi Zk s,Zs na z v,Zs q o m] 31);have x:Hid (Calls prog 52 _ _ _):=nD b _ k _ (r.below c) (j.below r.ok c) C om;have A:Hid (∀W,Bw w W->Calls prog 53 #[Zs q o m,Zi Zk (k+b.length)] W fun e t=>e=Zr (Zi Zk (k+b.length+d.length))/\Bw W t):=fun W u=>uK n d _ (k+b.length) W (p.below u) (l.below p.ok u) om om;have B:(w.alloc (Zc #[Zi Zk s,Zs na z v,Zs q o m] 31)).cell? ⟨w.heap.size,2,Zn⟩=Zo (Zs q o m):=by simp[go_sem]
 have H:¬k+(b.length:Int)<0:=om;have F:¬k+(b.length:Int)+(d.length:Int)<0:=om;clear r p y j l;go_in;go_wp2_with fail;refine x.out.mono ?_;rintro e w1 ⟨rfl,f⟩;have G:=kC f B zS;have a:=b4 c zS f;have h:Hid (Calls prog 53 _ _ _):=A.out w1 a;clear x A f;go_wp2_with fail;refine h.out.mono ?_;rintro e D ⟨rfl,g⟩;have i:=b4 a a.size g;clear g h;go_wp2;go_ret;exact⟨rfl,i⟩
def Own(P:Nat->Prop)(L:List fV):Prop:=(∀s,s∈L->P s.b)/\L.Pairwise (fun a b=>a.at≠b.at)
theorem Own.nil(P:Nat->Prop):Own P []:=⟨fun _ h=>(by cases h),List.Pairwise.nil⟩
theorem Own.mono{L:List fV}(h:Own P L)(c:∀b,P b->Q b):Own Q L:=⟨fun s a=>c _ (h.1 s a),h.2⟩
theorem Cj{a b:fV}(h:a.b≠b.b):a.at≠b.at:=fun e=>h (by simpa [fV.at] using congrArg Addr.block e)
theorem Own.app{R:Nat->Prop}{L M:List fV}(h:Own P L)(k:Own Q M)(d:∀b,P b->R b)(j:∀b,Q b->R b)(l:∀b,P b->Q b->False):Own R (L++M):=by
 refine⟨fun s f=>?_,List.pairwise_append.2 ⟨h.2,k.2,fun a i b g=>Cj fun e=>l a.b (h.1 a i) (by rw[e];exact k.1 b g)⟩⟩;rcases List.mem_append.1 f with c|c;·exact d _ (h.1 s c)
 ·exact j _ (k.1 s c)
theorem fV.ok_same{s:fV}(h:s.ok w)(c:w'.heap[s.b]?=w.heap[s.b]?):s.ok w':=by
 have d:w'.cell? s.at=w.cell? s.at:=World.cell?_of_block (w:=w) (w':=w') (a:=s.at) c;have e:w'.frozen? s.at=w.frozen? s.at:=by have:w'.heap[s.at.block]?=w.heap[s.at.block]?:=c;simp only[World.frozen?,this]
 unfold fV.ok;rw[d,e];exact h
theorem lW.same{L:List fV}(h:lW w v L)(e:∀s,s∈L->w'.heap[s.b]?=w.heap[s.b]?):lW w' v L:=by obtain⟨c,cap,d,i,g,f⟩:=h;exact⟨c,cap,d,i,g,fun s a=>fV.ok_same (f s a) (e s a)⟩
theorem lW.no(w:Zw):lW w (Zs Zn 0 0) []:=⟨Zn,0,rfl,by simp[maxLen],fun i h=>absurd h (Nat.not_lt_zero _),fun _ h=>(by cases h)⟩
theorem zg(h:w.ownsRow M e 1 v l.length (l.map Zt))(r:l.length<=20000):∃L,lW w v L/\L.length=l.length/\Own (fun b=>v.ownBlock=Zo b) L:=by
 rcases id h.2 with ⟨rfl,p⟩|⟨g,cap,o,rfl,q,j,n,m,k,d⟩;·exact⟨[],lW.no w,by rw[p];rfl,Own.nil _⟩
 ·refine⟨(List.range l.length).map (fun i=>(⟨g,0+i,true⟩:fV)),⟨_,cap,by rw[List.length_map,List.length_range],by simp[maxLen];omega,fun i hi=>⟨g,0,rfl,zS⟩,fun s f=>?_⟩,zS,fun s f=>?_,?_⟩;·obtain⟨i,hi,rfl⟩:=List.mem_map.1 f;have c:=List.mem_range.1 hi;have:=h.cells (g:=g) rfl i (Zt l[i]) (by simp[c]);rw[Addr.add_lit]at this;exact⟨⟨l[i],this⟩,by simp[World.frozen?,fV.at,j]⟩
  ·obtain⟨i,hi,rfl⟩:=List.mem_map.1 f;rfl
  ·refine List.pairwise_map.2 (List.Pairwise.imp (fun {a b} hab e=>?_) List.pairwise_lt_range);have:0+a=0+b:=by simpa [fV.at] using congrArg Addr.off e
   omega
theorem mI.same:∀ {n:Nat} {v:Zv} {L:List fV},mI w n v L->(∀s,s∈L->w'.heap[s.b]?=w.heap[s.b]?)->mI w' n v L:=by
 intro n;induction n with
 | zero=>intro v L h _;exact h
 | succ n z=>
  rintro v L ⟨r,cap,j,l,p,rfl,hi⟩ x;refine⟨r,cap,j,l,p,rfl,fun i h=>?_⟩;obtain⟨b,off,c3,c4,m,q,o,d,g,t,u,y,k⟩:=hi i h;have f:∀s,s∈j[i]->w'.heap[s.b]?=w.heap[s.b]?:=fun s e=>x s (List.mem_flatten.2 ⟨_,List.getElem_mem h,e⟩);rw[d]at f;have c:w'.heap[b]?=w.heap[b]?:=f ⟨b,off+i*3,false⟩ zS;refine⟨b,off,c3,c4,m,q,o,d,fV.ok_same g c,?_,?_,y.same (fun s e=>f s (by simp[e])),z k (fun s e=>f s (by simp[e]))⟩;·exact (World.cell?_of_block (w:=w) (w':=w') (a:=⟨b,off+i*3+1,Zn⟩) c).trans t
  ·exact (World.cell?_of_block (w:=w) (w':=w') (a:=⟨b,off+i*3+2,Zn⟩) c).trans u
theorem mI.no(w:Zw)(n:Nat):mI w n (Zs Zn 0 0) []:=by
 cases n with
 | zero=>exact⟨Zn,0,rfl,rfl⟩
 | succ n=>exact⟨Zn,0,[],rfl,by simp[maxLen],rfl,fun i h=>absurd h (Nat.not_lt_zero _)⟩
def pZ(P:Nat->Prop)(w:Zw)(n:Nat)(d:List (K n))(xs:List Zv)(a:List (List fV)):Prop:=
 Own P a.flatten/\∀j (h:j<d.length) (e:j<a.length),∃c0 c1 c2 b c,(xs[j*3]?=Zo c0/\xs[j*3+1]?=Zo c1/\xs[j*3+2]?=Zo c2)/\a[j]=b++c /\
  a8 P w n d[j] c0 c1 c2/\lW w c1 b/\mI w (n-1) c2 c
theorem zw {l:List (K n)} {xs:List Zv} {c:List (List fV)} (h:w.ownsRow M e 3 v l.length xs) (hl:l.length<=20000) (S:c.length=l.length) (E:pZ P w n l xs c) (hP:∀ b,P b->v.ownBlock≠Zo b) :
  ∃L,mI w n v L/\Own (fun b=>P b∨v.ownBlock=Zo b) L/\L.length=l.length+c.flatten.length:=by
 rcases id h.2 with ⟨rfl,D⟩|⟨g,cap,ac,rfl,Z,hg,ab,W,aa,J⟩;·have:c=[]:=List.eq_nil_of_length_eq_zero om;subst this;exact⟨[],mI.no w n,Own.nil _,by simp[D]⟩
 ·have N:∀ (i:Nat),i<l.length->n≠0:=by intro i hi hn;subst hn;obtain⟨c0,c1,c2,T,V,-,-,H,-⟩:=E.2 i hi om;exact H.elim
  have B:∀i (hi:i<l.length),((List.range l.length).map (fun i=>([⟨g,0+i*3,false⟩]:List fV)++c.getD i []))[i]'(by simpa using hi)=([⟨g,0+i*3,false⟩]:List fV)++c[i]'om:=by intro i hi;have:i<c.length:=om;simp[List.getD,this]
  have z:Own (fun b=>P b∨(Value.slice (Zo ⟨g,0,Zn⟩) l.length cap).ownBlock=Zo b) ((List.range l.length).map (fun i=>([⟨g,0+i*3,false⟩]:List fV)++c.getD i [])).flatten:=by
   have t:=List.pairwise_flatten.1 E.1.2;have p:∀i s,s∈c.getD i []->P s.b:=fun i s k=>by
    by_cases hi:i<c.length;·rw[List.getD_eq_getElem?_getD,List.getElem?_eq_getElem hi,Option.getD_some]at k;exact E.1.1 s (List.mem_flatten.2 ⟨_,List.getElem_mem hi,k⟩)
    ·rw[List.getD_eq_getElem?_getD,List.getElem?_eq_none om]at k;cases k
   have r:∀o (s:fV),s∈([⟨g,o,false⟩]:List fV)->s.b=g/\s.o=o:=fun o s k=>by rw[List.mem_singleton]at k;subst k;exact⟨rfl,rfl⟩
   have q:∀(s:fV),P s.b->s.b≠g:=fun s k e=>hP g (by rw[<- e];exact k) rfl;refine⟨fun s k=>?_,List.pairwise_flatten.2 ⟨fun x I=>?_,?_⟩⟩
   ·obtain⟨x,I,R⟩:=List.mem_flatten.1 k;obtain⟨i,hi,rfl⟩:=List.mem_map.1 I;rcases List.mem_append.1 R with d|d;·right;rw[(r _ s d).1];rfl
    ·left;exact p i s d
   ·obtain⟨i,hi,rfl⟩:=List.mem_map.1 I;refine List.pairwise_append.2 ⟨List.pairwise_singleton _ _,?_,fun a G b F=>Cj fun e=>q b (p i b F) (by rw[<- e,(r _ a G).1])⟩;by_cases hi:i<c.length;·rw[List.getD_eq_getElem?_getD,List.getElem?_eq_getElem hi,Option.getD_some];exact t.1 _ (List.getElem_mem hi)
    ·rw[List.getD_eq_getElem?_getD,List.getElem?_eq_none om];exact List.Pairwise.nil
   ·refine List.pairwise_map.2 (List.Pairwise.imp (fun {i j} hij a G b F=>?_) List.pairwise_lt_range);rcases List.mem_append.1 G with d|d
    ·rcases List.mem_append.1 F with f|f
     ·intro e;have e':a.o=b.o:=by simpa [fV.at] using congrArg Addr.off e
      have q1:=(r _ a d).2;have q2:=(r _ b f).2;omega
     ·exact Cj fun e=>q b (p j b f) (by rw[<- e,(r _ a d).1])
    ·rcases List.mem_append.1 F with f|f;·exact Cj fun e=>q a (p i a d) (by rw[e,(r _ b f).1])
     ·by_cases U:j<c.length;·rw[List.getD_eq_getElem?_getD,List.getElem?_eq_getElem U,Option.getD_some]at f;rw[List.getD_eq_getElem?_getD,List.getElem?_eq_getElem (by omega:i<c.length),Option.getD_some]at d;exact (List.pairwise_iff_getElem.1 t.2) i j om U hij a d b f
      ·rw[List.getD_eq_getElem?_getD,List.getElem?_eq_none om]at f;cases f
  have C:((List.range l.length).map (fun i=>([⟨g,0+i*3,false⟩]:List fV)++c.getD i [])).flatten.length=l.length+c.flatten.length:=by
   have e:c=(List.range l.length).map (fun i=>c.getD i []):=by refine List.ext_getElem (by simp[S]) fun i d f=>?_;simp[List.getD,d]
   conv=>rhs;rw[e]
   generalize l.length=m;induction m with
   | zero=>rfl
   | succ m Y=>rw[List.range_succ,List.map_append,List.flatten_append,Zx,Y,List.map_append,List.flatten_append,Zx];simp;omega
  refine⟨_,?_,z,C⟩;cases n with
  | zero=>have D:l.length=0:=Nat.eq_zero_of_not_pos fun y=>N 0 y rfl;exact⟨Zo ⟨g,0,Zn⟩,cap,by rw[D],by rw[D];rfl⟩
  | succ m=>
   refine⟨Zo ⟨g,0,Zn⟩,cap,_,by rw[List.length_map,List.length_range],by simp[maxLen];omega,rfl,fun i hi=>?_⟩;have A:i<l.length:=by simpa using hi
   obtain⟨c0,c1,c2,T,V,⟨X,e1,e2⟩,Q,H,h3,h4⟩:=E.2 i A om;have O:∀j u,xs[j]?=Zo u->w.cell? ⟨g,0+j,Zn⟩=Zo u:=fun j u hu=>by have:=h.cells (g:=g) rfl j u hu;rwa [Addr.add_lit]at this
   obtain⟨rfl,-⟩:=H;have hf:∀o,w.frozen? ⟨g,o,Zn⟩=false:=fun o=>by simp[World.frozen?,hg]
   exact⟨g,0,c1,c2,T,V,rfl,by rw[B i A,Q],⟨⟨_,O _ _ X⟩,hf _⟩,O _ _ e1,O _ _ e2,h3,h4⟩
def uu(b o:Nat):List fV:=[⟨b,o,false⟩,⟨b,o+1,false⟩,⟨b,o+2,true⟩]
def we(w:Zw):Nat->Zv->List fV->Prop
 | 0,v,L=>∃c cap,v=Zs c 0 cap/\L=[]
 | n + 1, v, L => ∃ (c : Option Addr) (cap : Nat) (a : List (List fV)), v = Zs c a.length cap /\ a.length <= maxLen /\ L = a.flatten /\
   ∀i (h:i<a.length),∃b off c3 c4 d e,c=Zo ⟨b,off,Zn⟩/\a[i]=uu b (off+i*5)++(d++e)/\(∀s,s∈uu b (off+i*5)->s.ok w) /\
    w.cell? ⟨b,off+i*5+3,Zn⟩=Zo c3/\w.cell? ⟨b,off+i*5+4,Zn⟩=Zo c4/\lW w c3 d/\we w n c4 e
theorem we.slice:∀ {n:Nat} {v:Zv} {L:List fV},we w n v L->∃a l c,v=Zs a l c:=by
 intro n;cases n with
 | zero=>rintro v L ⟨d,cap,b,-⟩;exact⟨_,_,_,b⟩
 | succ n=>rintro v L ⟨d,cap,e,b,-⟩;exact⟨_,_,_,b⟩
theorem we.sim(d:vB w w'):∀ {n:Nat} {v:Zv} {L:List fV},we w n v L->we w' n v L:=by
 intro n;induction n with
 | zero=>intro v L h;exact h
 | succ n r=>
  rintro v L ⟨z,cap,y,m,u,t,hi⟩;refine⟨z,cap,y,m,u,t,fun i h=>?_⟩;obtain⟨b,off,c3,c4,o,x,p,e,f,A,q,k,j⟩:=hi i h;refine⟨b,off,c3,c4,o,x,p,e,fun s g=>fV.ok_sim (f s g) d,?_,?_,k.sim d,r j⟩;·obtain⟨a,l,c,rfl⟩:=k.slice;exact d.sl _ _ _ _ _ A
  ·obtain⟨a,l,c,rfl⟩:=j.slice;exact d.sl _ _ _ _ _ q
theorem we.ok:∀ {n:Nat} {v:Zv} {L:List fV},we w n v L->∀s,s∈L->s.ok w:=by
 intro n;induction n with
 | zero=>rintro v L ⟨m,cap,j,rfl⟩ s g;cases g
 | succ n k=>
  rintro v L ⟨m,cap,y,j,u,rfl,hi⟩ s g;obtain⟨p,c,a⟩:=List.mem_flatten.1 g;obtain⟨i,h,rfl⟩:=List.getElem_of_mem c;obtain⟨b,off,c3,c4,q,x,r,c,f,z,t,o,l⟩:=hi i h;rw[c]at a;rcases List.mem_append.1 a with e|e;·exact f s e
  ·rcases List.mem_append.1 e with d|d;·exact o.ok s d
   ·exact k l s d
theorem we.below{L:List fV}(h:we w n v L)(a:Bw w w'):we w' n v L:=h.sim ((vB.refl w).below a)
theorem A8(f:α->Nat)(l:List α)(x:α):b5 f (l++[x])=b5 f l+f x:=by
 induction l with
 | nil=>simp[b5]
 | cons a r b=>simp only[List.cons_append,b5,b];omega
theorem rp{S:Nat->Prop}(h:fL S w l v)(g:∀b o,S b->w.frozen? ⟨b,o,Zn⟩=false):∃L,lW w v L/\(∀s,s∈L->S s.b)/\L.length=l.length:=by
 obtain⟨k,cap,rfl,e,-,j⟩:=h;by_cases c:l=[];·subst c;exact⟨[],⟨k,cap,rfl,e,fun i h=>absurd h (Nat.not_lt_zero _),fun _ h=>(by cases h)⟩,fun _ h=>(by cases h),rfl⟩
 ·obtain⟨b,off,rfl,f,a⟩:=j c;refine⟨(List.range l.length).map (fun i=>(⟨b,off+i,true⟩:fV)),⟨_,cap,by rw[List.length_map,List.length_range],by rw[List.length_map,List.length_range];exact e,fun i hi=>⟨b,off,rfl,zS⟩,fun s d=>?_⟩,fun s d=>?_,zS⟩;·obtain⟨i,hi,rfl⟩:=List.mem_map.1 d;exact⟨⟨_,a i (List.mem_range.1 hi)⟩,g _ _ f⟩
  ·obtain⟨i,hi,rfl⟩:=List.mem_map.1 d;exact f
theorem Bq:∀ (n:Nat) {S:Nat->Prop} {w:Zw} (t:T n) {c0 c1 c2 c3 c4:Zv},gJ S w n t c0 c1 c2 c3 c4->(∀ b o,S b->w.frozen? ⟨b,o,Zn⟩=false) ->
  ∃c a,lW w c3 c/\we w (n-1) c4 a/\(∀s,s∈c++a->S s.b)/\(c++a).length<=3*kr n t:=by
 intro n;induction n with
 | zero=>intro S w t c0 c1 c2 c3 c4 h;exact h.elim
 | succ n Z=>
  intro S w t c0 c1 c2 c3 c4 h B;obtain⟨-,-,-,-,-,-,h3,K⟩:=h;obtain⟨c,W,Y,p3⟩:=rp h3 B;have I:kr (n+1) t=(Nd.text t).size+jc (Nd.names t)+b5 (fun k=>kr n k+1) (Nd.kids t):=rfl;have aa:=ph (Nd.names t);suffices h:∃a,we w n c4 a/\(∀s,s∈a->S s.b)/\a.length<=3*b5 (fun k=>kr n k+1) (Nd.kids t) by obtain⟨a,u,l,A⟩:=h;refine⟨c,a,W,u,fun s y=>(List.mem_append.1 y).elim (Y s) (l s),?_⟩;rw[Zx,I,p3];omega
  generalize Nd.kids t=ks at K ⊢;obtain⟨N,cap,rfl,M,hc⟩:=K;by_cases p:ks=[]
  ·subst p;refine⟨[],?_,fun _ h=>(by cases h),zS⟩;cases n with
   | zero=>exact⟨N,cap,rfl,rfl⟩
   | succ n=>exact⟨N,cap,[],rfl,M,rfl,fun i h=>absurd h (Nat.not_lt_zero _)⟩
  ·obtain⟨b,off,rfl,E,v⟩:=hc p;have d:∀i (h:i<ks.length),∃c3 c4 c a,(∀s,s∈uu b (off+i*5)->s.ok w)/\w.cell? ⟨b,off+i*5+3,Zn⟩=Zo c3/\w.cell? ⟨b,off+i*5+4,Zn⟩=Zo c4/\lW w c3 c/\we w (n-1) c4 a/\(∀s,s∈c++a->S s.b)/\(c++a).length<=3*kr n ks[i]:=by
    intro i hi;obtain⟨d0,d1,d2,d3,P,V,e1,e2,D,z,L⟩:=v i hi;obtain⟨c,a,u,l,A,O⟩:=Z ks[i] L B;refine⟨d3,P,c,a,fun s y=>?_,D,z,u,l,A,O⟩;obtain⟨X,Q,R,_,_,_,_,_,_,rfl,rfl,rfl,-⟩:=L.shape;simp only[uu,List.mem_cons,List.not_mem_nil,or_false]at y;rcases y with rfl|rfl|rfl;·exact⟨⟨X,V⟩,B _ _ E⟩
    ·exact⟨⟨Q,e1⟩,B _ _ E⟩
    ·exact⟨⟨R,e2⟩,B _ _ E⟩
   have F:∃m,n=m+1:=by
    cases n with
    | zero=>obtain⟨x,r,rfl⟩:=List.exists_cons_of_ne_nil p;exact (x:Empty).elim
    | succ m=>exact⟨m,rfl⟩
   obtain⟨m,rfl⟩:=F;let f:Nat->List fV:=fun i=>if hi:i<ks.length then uu b (off+i*5)++((d i hi).choose_spec.choose_spec.choose++(d i hi).choose_spec.choose_spec.choose_spec.choose) else []
   have q:∀i (hi:i<ks.length),∃c3 c4 c a,f i=uu b (off+i*5)++(c++a)/\(∀s,s∈uu b (off+i*5)->s.ok w)/\w.cell? ⟨b,off+i*5+3,Zn⟩=Zo c3/\w.cell? ⟨b,off+i*5+4,Zn⟩=Zo c4/\lW w c3 c/\we w m c4 a/\(∀s,s∈c++a->S s.b)/\(c++a).length<=3*kr (m+1) ks[i]:=by intro i hi;have g:=(d i hi).choose_spec.choose_spec.choose_spec.choose_spec;exact⟨_,_,_,_,dif_pos hi,g.1,g.2.1,g.2.2.1,g.2.2.2.1,g.2.2.2.2.1,g.2.2.2.2.2.1,g.2.2.2.2.2.2⟩
   refine⟨((List.range ks.length).map f).flatten,⟨Zo ⟨b,off,Zn⟩,cap,(List.range ks.length).map f,by rw[List.length_map,List.length_range],by rw[List.length_map,List.length_range];exact M,rfl,fun i hi=>?_⟩,fun s y=>?_,?_⟩
   ·have H:i<ks.length:=by simpa using hi
    obtain⟨c3,c4,c,a,e,o,D,z,u,l,-⟩:=q i H;exact⟨b,off,c3,c4,c,a,rfl,by rw[List.getElem_map,List.getElem_range];exact e,o,D,z,u,l⟩
   ·obtain⟨x,U,C⟩:=List.mem_flatten.1 y;obtain⟨i,hi,rfl⟩:=List.mem_map.1 U;obtain⟨c3,c4,c,a,e,o,D,z,u,l,A,-⟩:=q i (List.mem_range.1 hi);rw[e]at C;rcases List.mem_append.1 C with h|h;·simp only[uu,List.mem_cons,List.not_mem_nil,or_false]at h;rcases h with rfl|rfl|rfl<;>exact E
    ·exact A s h
   ·have J:∀ j,j<=ks.length->((List.range j).map f).flatten.length<=3*b5 (fun k=>kr (m+1) k+1) (ks.take j):=by
     intro j;induction j with
     | zero=>intro _;simp
     | succ j G=>intro hj;have h1:=G om;obtain⟨c3,c4,c,a,e,o,D,z,u,l,A,O⟩:=q j om;have h5:(uu b (off+j*5)).length=3:=rfl;rw[List.range_succ,List.map_append,List.flatten_append,Zx,ZA om,A8];simp only[List.map_cons,List.map_nil,List.flatten_cons,List.flatten_nil,List.append_nil];rw[e,Zx,h5];omega
    have:=J ks.length (Nat.le_refl _);rwa [List.take_length]at this
def ot(n:Nat):Prop:=∀(L:List fV)(v:Zv)(k:Int)(w:Zw),we w n v L->1<=k->k+L.length<=1000000000 ->
 Calls prog 51 #[v,Zi Zk k] w fun e a=>e=Zr (Zi Zk (k+L.length))/\gt L k w a
theorem Am:ot 0:=by intro L v k w h d c;obtain⟨b,cap,rfl,rfl⟩:=h;have a:Hid (gt [] k w w/\k=k+(([]:List fV).length:Int)):=⟨gt.refl k w,zS⟩;go_in;go_wp2;go_rounds 1;go_ret;exact⟨fO a.out.2,a.out.1⟩
theorem zY(n:Nat)(hn:ot n):ot (n+1):=by
 intro L v k w h h0 Y;have Q:=h.ok;obtain⟨ao,cap,c,rfl,W,rfl,hi⟩:=h;unfold maxLen at W;have ab:=a7 Q;have P:Hid (∀j,(c.take j).flatten.length<=c.flatten.length):=fun j=>jI c j;have HB:=a7 Y;clear Q Y;go_in;go_wp2;go_loopw [1,5] (fun a i wr=>∃j:Nat,j<=c.length/\i=Zi Zk j/\a=Zi Zk (k+((c.take j).flatten.length:Int))/\gt (c.take j).flatten k w wr) (fun _ i _=>c.length-(intOf i).toNat);case atStart=>exact⟨0,Nat.zero_le _,rfl,zS,by simpa using gt.refl k w⟩
 case round=>
  obtain⟨j,hj,rfl,rfl,g⟩:=hrel;by_cases U:j<c.length
  ·obtain⟨b,off,c3,c4,r,G,rfl,y,f,t,O,hN,hR⟩:=hi j U;have d:=lC c j U;have D:=P.out (j+1);rw[d,y]at D;simp only[Zx]at D;have E:(uu b (off+j*5)).length=3:=rfl;have ac:k+((c.take j).flatten.length:Int)+3+r.length+G.length<=1000000000:=by have:=HB.out;omega
   have l:∀s,s∈(c.take j).flatten->s.ok w:=fun s X=>ab.out s (by
    obtain⟨Li,Y,h2⟩:=List.mem_flatten.1 X
    exact List.mem_flatten.2 ⟨Li,List.mem_of_mem_take Y,h2⟩)
   obtain⟨M,hM⟩:=iw ((c.take j).flatten);rw[<- hM]at g l d ac ⊢;clear hM;have m:=g.sim l;have o0:=fV.ok_sim (f ⟨b,off+j*5,false⟩ (by simp[uu])) m;have o1:=fV.ok_sim (f ⟨b,off+j*5+1,false⟩ (by simp[uu])) m;have o2:=fV.ok_sim (f ⟨b,off+j*5+2,true⟩ (by simp[uu])) m;obtain⟨⟨x0,r0⟩,z0⟩:=o0;obtain⟨⟨x1,r1⟩,z1⟩:=o1;obtain⟨⟨x2,r2⟩,z2⟩:=o2;simp only[fV.at]at r0 r1 r2 z0 z1 z2;generalize z:k+(M.length:Int)=kk at *;have af:1<=kk:=om;have W1:=g.snocI ⟨b,off+j*5,false⟩ z.symm ⟨b,off+j*5,Zn⟩ (Zi Zk kk) rfl rfl;have W2:=W1.snocI (kk:=kk+1) ⟨b,off+j*5+1,false⟩ zE ⟨b,off+j*5+1,Zn⟩ (Zi Zk (kk+1)) rfl rfl;have R:Hid _:=W2;have c2:((wr.setCell ⟨b,off+j*5,Zn⟩ (Zi Zk kk)).setCell ⟨b,off+j*5+1,Zn⟩ (Zi Zk (kk+1))).cell? ⟨b,off+j*5+2,Zn⟩=Zo (Zt x2):=by rw[World.cell?_setCell_other _ _ _ _ zS,World.cell?_setCell_other _ _ _ _ zS];exact r2
   have f2:((wr.setCell ⟨b,off+j*5,Zn⟩ (Zi Zk kk)).setCell ⟨b,off+j*5+1,Zn⟩ (Zi Zk (kk+1))).frozen? ⟨b,off+j*5+2,Zn⟩=false:=by rw[World.frozen?_setCell,World.frozen?_setCell];exact z2
   have HC:Hid (Calls prog 48 #[Zi Zk (kk+1+1)] ((wr.setCell ⟨b,off+j*5,Zn⟩ (Zi Zk kk)).setCell ⟨b,off+j*5+1,Zn⟩ (Zi Zk (kk+1))) fun e Z=>e=Zr (Zt (mt (kk+1+1))) /\
     Z.cell? ⟨b,off+j*5+2,Zn⟩=Zo (Zt x2)/\Z.frozen? ⟨b,off+j*5+2,Zn⟩=false/\gt (M++uu b (off+j*5)) k w (Z.setCell ⟨b,off+j*5+2,Zn⟩ (Zt (mt (kk+1+1))))):=by
    refine (lH (kk+1+1) _ om om).mono ?_
    rintro e Z ⟨rfl,hb⟩
    refine⟨rfl,kC hb c2 (wi (o:=off+j*5+2) c2),(hb.frozen (p:=⟨b,off+j*5+2,Zn⟩) (wi (o:=off+j*5+2) c2)).trans f2,?_⟩
    have:=(R.out.below hb).snocI (kk:=kk+1+1) ⟨b,off+j*5+2,true⟩ zE ⟨b,off+j*5+2,Zn⟩ (Zt (mt (kk+1+1))) rfl rfl
    simpa [uu] using this
   have u:Hid (∀s,s∈M++uu b (off+j*5)->s.ok w):=fun s X=>by
    rcases List.mem_append.1 X with h|h;·exact l s h
    ·exact f s h
   have S:Hid (lW w c3 r/\we w n c4 G/\w.cell? ⟨b,off+j*5+3,Zn⟩=Zo c3/\w.cell? ⟨b,off+j*5+4,Zn⟩=Zo c4):=⟨hN,hR,t,O⟩;obtain⟨na,nl,nc,rfl⟩:=hN.slice;obtain⟨ka,kl,kc,rfl⟩:=hR.slice;have N:Hid ((c.take (j+1)).flatten=M++(uu b (off+j*5)++(r++G))):=by show _=_;rw[d,y]
   have A:=a7 z;clear hN hR t O hi W1 W2 R m g f l d y D c2 f2 r2 z2 z;generalize mt (kk+1+1)=tx at *;go_wp2_with fail;refine HC.out.mono ?_;rintro e w3 ⟨rfl,t,ad,B⟩;have C:=B.sim u.out;have q3:=C.sl _ _ _ _ _ S.out.2.2.1;have I:Hid (Calls prog 49 _ _ _):=jm r _ (kk+1+1+1) _ (S.out.1.sim C) om om;have H:Hid _:=B;clear C B HC;go_wp2_with fail;refine I.out.mono ?_;rintro e w5 ⟨rfl,K⟩;have q:gt (M++uu b (off+j*5)++r) k w w5:=H.out.trans (by
    rw[show k+((M++uu b (off+j*5)).length:Int)=kk+1+1+1 by have:=A.out;rw[Zx,E];omega];exact K)
   have T:Hid (∀s,s∈M++uu b (off+j*5)++r->s.ok w):=fun s X=>by
    rcases List.mem_append.1 X with h|h;·exact u.out s h
    ·exact S.out.1.ok s h
   have F:=q.sim T.out;have q4:=F.sl _ _ _ _ _ S.out.2.2.2;have J:Hid (Calls prog 51 _ _ _):=hn G _ (kk+1+1+1+r.length) w5 (S.out.2.1.sim F) om om;have x:Hid _:=q;clear F q K H q3 t ad I;go_wp2_with fail;refine J.out.mono ?_;rintro e w6 ⟨rfl,V⟩;have aa:Hid (gt (c.take (j+1)).flatten k w w6):=by
    show gt _ _ _ _;rw[N.out];have:=x.out.trans (M:=G) (w2:=w6) (by
     rw[show k+((M++uu b (off+j*5)++r).length:Int)=kk+1+1+1+(r.length:Int) by have:=A.out;rw[Zx,Zx,E];omega];exact V)
    simpa [List.append_assoc] using this
   have ae:Hid (kk+1+1+1+(r.length:Int)+(G.length:Int)=k+((c.take (j+1)).flatten.length:Int)):=by show _=_;rw[N.out];have:=A.out;simp only[Zx,E];omega
   clear V x J q4;go_wp2;go_roundw;case rel=>exact⟨j+1,om,by go_num,by rw[ae.out],aa.out⟩
   case measure=>simp[intOf];omega
  ·have HW:Hid (gt c.flatten k w wr/\k+((c.take j).flatten.length:Int)=k+(c.flatten.length:Int)):=by rw[show j=c.length by omega,List.take_length]at g ⊢;exact⟨g,rfl⟩
   clear hi g;go_wp2;go_ret;exact⟨fO HW.out.2,HW.out.1⟩
theorem uq:∀n,ot n:=by
 intro n;induction n with
 | zero=>exact Am
 | succ n a=>exact zY n a
theorem xu (n:Nat) (o i:Int) (l:ByteArray) (c3 c4:Zv) (a d:List fV) (k:Int) (w:Zw) (u:lW w c3 a) (t:we w n c4 d) (B:1<=k) (F:k+a.length+d.length<=1000000000) :
  Calls prog 16 #[.agg #[Zi Zk o,Zi Zk i,Zt l,c3,c4],Zi Zk k] w fun e E=>e=Zr (Zi Zk (k+a.length+d.length))/\gt (a++d) k w E:=by
 obtain⟨na,q,p,rfl⟩:=u.slice;obtain⟨h,g,f,rfl⟩:=t.slice;have b:=(Below.refl w.heap.size w).alloc (Nat.le_refl _) (Zc #[Zi Zk o,Zi Zk i,Zt l,Zs na q p,Zs h g f] 40);have c:=u.below b;have z:Hid (Calls prog 49 _ _ _):=jm a _ k _ c B om;have x:Hid (we (w.alloc (Zc #[Zi Zk o,Zi Zk i,Zt l,Zs na q p,Zs h g f] 40)) n (Zs h g f) d/\∀s,s∈a->s.ok (w.alloc (Zc #[Zi Zk o,Zi Zk i,Zt l,Zs na q p,Zs h g f] 40))):=⟨t.below b,c.ok⟩;have A:(w.alloc (Zc #[Zi Zk o,Zi Zk i,Zt l,Zs na q p,Zs h g f] 40)).cell? ⟨w.heap.size,4,Zn⟩=Zo (Zs h g f):=by simp[go_sem]
 clear u t c;go_in;go_wp2_with fail;refine z.out.mono ?_;rintro e w1 ⟨rfl,r⟩;have v:=r.sim x.out.2;have G:=v.sl _ _ _ _ _ A;have m:Hid (Calls prog 51 _ _ _):=uq n d _ (k+a.length) w1 (x.out.1.sim v) om om;have y:Hid _:=r;clear v r z x;go_wp2_with fail;refine m.out.mono ?_;rintro e C ⟨rfl,j⟩;have D:Hid (gt (a++d) k w C):=gt.from_below b (y.out.trans j);clear j y m;go_wp2;go_ret;exact⟨rfl,D.out⟩
end Go.Proofs.YtcfojmaccikgeaaGreatDoor
