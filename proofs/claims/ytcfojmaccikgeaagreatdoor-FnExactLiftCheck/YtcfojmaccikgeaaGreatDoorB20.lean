import Derived.Test.YtcfojmaccikgeaaGreatDoorB19
open Go.Ending renaming returned→Zr
open Nat renaming lt_of_lt_of_le→Zd
namespace Go.Proofs.YtcfojmaccikgeaaGreatDoor
open Go.RowKit Go.Proofs.Tryz
set_option maxRecDepth 100000
set_option maxHeartbeats 16000000
variable {w u u':World} {m A G:Nat} {P:ZP} {p0 p1 p2 g0 g1 g2:Value}
theorem nR (S S':ZP) (l:List ZN) (v x:Value) (w:World) (B:fL S w l v) (q:fL S' w l x) (A:Bd S w) (n:∀ b,S' b->b<w.heap.size) :
  Calls prog 44 #[v,x] w fun e E=>e=Zr (.bool true)/\Bw w E:=by
 obtain⟨F,cap,rfl,m,r,p⟩:=B;obtain⟨y,t,rfl,-,-,g⟩:=q;unfold maxLen at m;have C:((l.length:Int) != (l.length:Int))=false:=zS;go_in;go_wp2;go_loopw [5] (fun i wr=>∃k:Nat,k<=l.length/\i=.int .i64 k/\Bw w wr) (fun i _=>l.length-(intOf i).toNat);case atStart=>exact⟨0,Nat.zero_le _,rfl,Below.refl _ _⟩
 case round=>
  obtain⟨k,G,rfl,c⟩:=hrel;by_cases a:k<l.length
  ·obtain⟨b,off,rfl,o,f⟩:=p (by intro h;rw[h]at a;simp at a);obtain⟨z,u,rfl,j,d⟩:=g (by intro h;rw[h]at a;simp at a);have f0:=kC c (f k a) (A b o);have f1:=kC c (d k a) (n z j);have D:=r l[k] (List.getElem_mem a);clear p g f d r;generalize l[k]=s at *;go_wp2_with fail;go_region;all_goals go_wp2_with fail
   all_goals
    go_roundw
    case rel=>exact⟨k+1,om,by go_num,c.drew⟩
    case measure=>simp[intOf];omega
  ·clear p g r;go_wp2;go_ret;exact⟨rfl,c⟩
def rY(n:Nat):Prop:=∀(S a:ZP)(t:K n)(c0 c1 c2 c d f:Value)(w:World),a8 S w n t c0 c1 c2->a8 a w n t c d f ->
 (Bd S w)->(∀b,a b->b<w.heap.size) ->
 Calls prog 11 #[.agg #[c0,c1,c2],.agg #[c,d,f]] w fun e g=>e=Zr (.bool true)/\Bw w g
theorem wz (n:Nat) (M:rY n) (S S':ZP) (l:List (K n)) (v Q:Value) (w:World) (V:gO S w (a8 S w n) l v) (E:gO S' w (a8 S' w n) l Q)
  (t:Bd S w) (d:∀b,S' b->b<w.heap.size) :
  Calls prog 45 #[v,Q] w fun e B=>e=Zr (.bool true)/\Bw w B:=by
 obtain⟨ao,cap,rfl,z,D⟩:=V;obtain⟨T,H,rfl,-,r⟩:=E;unfold maxLen at z;have W:((l.length:Int) != (l.length:Int))=false:=zS;go_in;go_wp2;go_loopw [5] (fun i wr=>∃k:Nat,k<=l.length/\i=.int .i64 k/\Bw w wr) (fun i _=>l.length-(intOf i).toNat);case atStart=>exact⟨0,Nat.zero_le _,rfl,Below.refl _ _⟩
 case round=>
  obtain⟨k,hk,rfl,a⟩:=hrel;by_cases f:k<l.length
  ·obtain⟨b,off,rfl,p,j⟩:=D (by intro h;rw[h]at f;simp at f);obtain⟨C,O,rfl,g,c⟩:=r (by intro h;rw[h]at f;simp at f);obtain⟨X,Y,Z,I,J,L,N⟩:=j k f;obtain⟨y0,y1,y2,u,x,y,A⟩:=c k f;have f0:=kC a I (t b p);have f1:=kC a J (t b p);have f2:=kC a L (t b p);have f5:=kC a u (d C g);have f6:=kC a x (d C g);have f7:=kC a y (d C g);clear D r j c I J L u x y;have q:=N.keep (a6 a t) (fun _ h=>h);have P:=A.keep (a6 a d) (fun _ h=>h);have s:=a.size;have R:Hid (∀m:Nat,Calls prog 11 #[.agg #[X,Y,Z],.agg #[y0,y1,y2]] (wr.drewN m) fun e B=>e=Zr (.bool true)/\Bw wr B):=by
    intro m;have F:Bw wr (wr.drewN m):=below_drewN (Below.refl _ _) m;have G:(wr.drewN m).heap.size=wr.heap.size:=zS;refine (M S S' l[k] _ _ _ _ _ _ (wr.drewN m) (q.keep (a6 F (fun b o=>Zd (t b o) s)) (fun _ h=>h)) (P.keep (a6 F (fun b o=>Zd (d b o) s)) (fun _ h=>h))
     (fun b o=>by have:=t b o;omega) (fun b o=>by have:=d b o;omega)).mono ?_
    rintro e B ⟨rfl,h⟩;rw[Bw,G]at h;exact⟨rfl,F.trans h⟩
   clear N A q P M;go_wp2_with fail;go_region_with (go_at_call 11;refine (R.out 1).mono ?_;rintro e B ⟨rfl,U⟩);all_goals go_wp2_with fail
   all_goals
    go_roundw
    case rel=>exact⟨k+1,om,by go_num,b5 a s (by assumption)⟩
    case measure=>simp[intOf];omega
  ·clear D r;go_wp2;go_ret;exact⟨rfl,a⟩
theorem yk(n:Nat)(D:rY n):rY (n+1):=by
 intro S u t c0 c1 c2 G z A w F r j d;obtain⟨rfl,-,v,x⟩:=F;obtain⟨rfl,-,g,i⟩:=r;have a:Bw w ((w.alloc (.cells #[.int .i64 (Kd.sort t),c1,c2] 31)).alloc (.cells #[.int .i64 (Kd.sort t),z,A] 31)):=
  (gx _ _).alloc zS _
 have k3:=v.keep (a6 a j) (fun _ h=>h);have m:=g.keep (a6 a d) (fun _ h=>h);have k4:=x.keepK (a6 a j) (fun _ h=>h);have o:=i.keepK (a6 a d) (fun _ h=>h);have E:(Kd.sort t != Kd.sort t)=false:=zS;clear v g x i;go_in;go_wp2_with fail;refine (nR S u _ _ _ _ k3 m (fun b f=>by have:=j b f;simp;omega) (fun b f=>by have:=d b f;simp;omega)).mono ?_;rintro e w1 ⟨rfl,c⟩;obtain⟨B,C⟩:=rh c;have s:=c.size;simp at s;have k:=b5 a zE c;have y:=k4.keepK (a6 c (fun b f=>by have:=j b f;simp;omega)) (fun _ h=>h);have p:=o.keepK (a6 c (fun b f=>by have:=d b f;simp;omega)) (fun _ h=>h);clear k3 m k4 o c a;go_wp2_with fail;refine (wz n D S u _ _ _ _ y p (fun b f=>by have:=j b f;omega) (fun b f=>by have:=d b f;omega)).mono ?_;rintro e H ⟨rfl,l⟩;have q:=b5 k om l;clear y p k l B C;go_wp2;go_ret;exact⟨rfl,q⟩
theorem ro:∀n,rY n:=by
 intro n;induction n with
 | zero=>intro S c t c0 c1 c2 d e f w a;exact a.elim
 | succ n b=>exact yk n b
theorem j8.eqb{w':World}{N:Nat}{a b c:Value}(h:j8 w N a b c)(d:w'.heap[N]?=w.heap[N]?):j8 w' N a b c:=
 ⟨(World.cell?_of_block (w:=w) (w':=w') (a:=⟨N,0,none⟩) d).trans h.c0,(World.cell?_of_block (w:=w) (w':=w') (a:=⟨N,1,none⟩) d).trans h.c1,(World.cell?_of_block (w:=w) (w':=w') (a:=⟨N,2,none⟩) d).trans h.c2⟩
structure CE(m:Nat)(k:K m)(P:ZP)(A G:Nat)(p0 p1 p2 g0 g1 g2:Value)(w u:World):Prop where
 below:Bw w u
 ansBox:j8 u A p0 p1 p2
 ans:a8 P u m k p0 p1 p2
 ansB:∀b,P b->b<A
 gotBox:j8 u G g0 g1 g2
 ag:A<G
 gu:G<u.heap.size
theorem CE.step {k:K m} (h:CE m k P A G p0 p1 p2 g0 g1 g2 w u) {Z:ZP} (a:Bw w u') (c:u.heap.size<=u'.heap.size)
  (e:∀b:Nat,b<u.heap.size->¬Z b->u'.heap[b]?=u.heap[b]?) (d:∀b,Z b->A<b/\b≠G):CE m k P A G p0 p1 p2 g0 g1 g2 w u':=by
 have ag:=h.ag;have gu:=h.gu;have q:∀b,b<=A->u'.heap[b]?=u.heap[b]?:=fun b a=>e b om (fun c=>by have:=d b c;omega);exact⟨a,h.ansBox.eqb (q A (Nat.le_refl _)),h.ans.keep (fun b a=>q b (by have:=h.ansB b a;omega)) (fun _ h=>h),h.ansB,
  h.gotBox.eqb (e G gu (fun c=>(d G c).2 rfl)),ag,om⟩
theorem CE.keep {k:K m} (h:CE m k P A G p0 p1 p2 g0 g1 g2 w u) (d:w.heap.size<=u.heap.size) (a:Bw u u') :
  CE m k P A G p0 p1 p2 g0 g1 g2 w u':=h.step (Z:=fun _=>False) (b5 h.below d a) a.size (fun b c _=>a.block b c) (fun _ h=>h.elim)
def rZ(n:Nat):Prop:=∀(S a:ZP)(t:T n)(c0 c1 c2 c3 c4 c d f g h:Value)(w:World),gE S w n t c0 c1 c2 c3 c4->gE a w n t c d f g h ->
 (Bd S w)->(∀b,a b->b<w.heap.size) ->
 Calls prog 14 #[.agg #[c0,c1,c2,c3,c4],.agg #[c,d,f,g,h]] w fun e i=>e=Zr (.bool true)/\Bw w i
theorem wB (n:Nat) (P:rZ n) (S S':ZP) (l:List (T n)) (v V:Value) (w:World) (Z:ik S w (gE S w n) l v) (G:ik S' w (gE S' w n) l V)
  (p:Bd S w) (c:∀b,S' b->b<w.heap.size) :
  Calls prog 47 #[v,V] w fun e E=>e=Zr (.bool true)/\Bw w E:=by
 obtain⟨ao,cap,rfl,C,F⟩:=Z;obtain⟨X,J,rfl,-,s⟩:=G;unfold maxLen at C;have aa:((l.length:Int) != (l.length:Int))=false:=zS;go_in;go_wp2;go_loopw [5] (fun i wr=>∃k:Nat,k<=l.length/\i=.int .i64 k/\Bw w wr) (fun i _=>l.length-(intOf i).toNat);case atStart=>exact⟨0,Nat.zero_le _,rfl,Below.refl _ _⟩
 case round=>
  obtain⟨k,hk,rfl,a⟩:=hrel;by_cases g:k<l.length
  ·obtain⟨b,off,rfl,j,o⟩:=F (by intro h;rw[h]at g;simp at g);obtain⟨u,R,rfl,d,f⟩:=s (by intro h;rw[h]at g;simp at g);obtain⟨x0,x1,x2,x3,x4,K,L,M,N,O,Q⟩:=o k g;obtain⟨y0,y1,y2,y3,y4,x,y,z,A,B,D⟩:=f k g;have f0:=kC a K (p b j);have f1:=kC a L (p b j);have f2:=kC a M (p b j);have f3:=kC a N (p b j);have f4:=kC a O (p b j);have f5:=kC a x (c u d);have f6:=kC a y (c u d);have f7:=kC a z (c u d);have f8:=kC a A (c u d);have f9:=kC a B (c u d);clear F s o f K L M N O x y z A B;have q:=Q.keep (a6 a p) (fun _ h=>h);have U:=D.keep (a6 a c) (fun _ h=>h);have t:=a.size;have W:Hid (∀m:Nat,Calls prog 14 #[.agg #[x0,x1,x2,x3,x4],.agg #[y0,y1,y2,y3,y4]] (wr.drewN m) fun e E=>e=Zr (.bool true)/\Bw wr E):=by
    intro m;have H:Bw wr (wr.drewN m):=below_drewN (Below.refl _ _) m;have I:(wr.drewN m).heap.size=wr.heap.size:=zS;refine (P S S' l[k] _ _ _ _ _ _ _ _ _ _ (wr.drewN m) (q.keep (a6 H (fun b r=>Zd (p b r) t)) (fun _ h=>h)) (U.keep (a6 H (fun b r=>Zd (c b r) t)) (fun _ h=>h))
     (fun b r=>by have:=p b r;omega) (fun b r=>by have:=c b r;omega)).mono ?_
    rintro e E ⟨rfl,h⟩;rw[Bw,I]at h;exact⟨rfl,H.trans h⟩
   clear Q D q U P;go_wp2_with fail;go_region_with (go_at_call 14;refine (W.out 1).mono ?_;rintro e E ⟨rfl,Y⟩);all_goals go_wp2_with fail
   all_goals
    go_roundw
    case rel=>exact⟨k+1,om,by go_num,b5 a t (by assumption)⟩
    case measure=>simp[intOf];omega
  ·clear F s;go_wp2;go_ret;exact⟨rfl,a⟩
theorem yn(n:Nat)(D:rZ n):rZ (n+1):=by
 intro S u t c0 c1 c2 c3 c4 H I J z A w G r j d;obtain⟨rfl,rfl,rfl,K,-,-,v,x⟩:=G;obtain⟨rfl,rfl,rfl,-,-,-,g,i⟩:=r;have a:Bw w ((w.alloc (.cells #[.int .i64 (Nd.sort t),.int .i64 (Nd.num t),.string (Nd.text t),c3,c4] 40)).alloc (.cells #[.int .i64 (Nd.sort t),.int .i64 (Nd.num t),.string (Nd.text t),z,A] 40)):=
  (gx _ _).alloc zS _
 have k3:=v.keep (a6 a j) (fun _ h=>h);have m:=g.keep (a6 a d) (fun _ h=>h);have k4:=x.keepT (a6 a j) (fun _ h=>h);have o:=i.keepT (a6 a d) (fun _ h=>h);have E:(Nd.sort t != Nd.sort t)=false:=zS;have F:(Nd.num t != Nd.num t)=false:=zS;clear v g x i;go_in;go_wp2_with fail;refine (nR S u _ _ _ _ k3 m (fun b f=>by have:=j b f;simp;omega) (fun b f=>by have:=d b f;simp;omega)).mono ?_;rintro e w1 ⟨rfl,c⟩;obtain⟨B,C⟩:=rh c;have s:=c.size;simp at s;have k:=b5 a zE c;have y:=k4.keepT (a6 c (fun b f=>by have:=j b f;simp;omega)) (fun _ h=>h);have p:=o.keepT (a6 c (fun b f=>by have:=d b f;simp;omega)) (fun _ h=>h);clear k3 m k4 o c a;go_wp2_with fail;refine (wB n D S u _ _ _ _ y p (fun b f=>by have:=j b f;omega) (fun b f=>by have:=d b f;omega)).mono ?_;rintro e L ⟨rfl,l⟩;have q:=b5 k om l;clear y p k l B C;go_wp2;go_ret;exact⟨rfl,q⟩
theorem ym:∀n,rZ n:=by
 intro n;induction n with
 | zero=>intro S c t c0 c1 c2 c3 c4 d e f g h w a;exact a.elim
 | succ n b=>exact yn n b
end Go.Proofs.YtcfojmaccikgeaaGreatDoor
