import Derived.Test.YtcfojmaccikgeaaGreatDoorB2
import Derived.Deep.RegionWith
import Derived.Test.YtcfojmaccikgeaaGreatDoorB6
import Derived.Test.YtcfojmaccikgeaaGreatDoorB3
open Go.Ending renaming returned→Zr
open Nat renaming lt_of_lt_of_le→Zd
namespace Go.Proofs.YtcfojmaccikgeaaGreatDoor
open Go.RowKit Go.Proofs.Tryz
set_option maxRecDepth 100000
set_option maxHeartbeats 16000000
variable {α:Type} {M:Nat}
theorem nP (S S':Nat->Prop) (l:List ByteArray) (v x:Value) (w:World) (C:fL S w l v) (o:fL S' w l x) (B:Bd S w) (q:∀ b,S' b->b<w.heap.size) :
  Calls prog 44 #[v,x] w fun e E=>e=Zr (.bool true)/\Bw w E:=by
 obtain⟨G,cap,rfl,m,r,n⟩:=C;obtain⟨D,u,rfl,-,-,g⟩:=o;unfold maxLen at m;have y:((l.length:Int) != (l.length:Int))=false:=zS;go_in;go_wp2;go_loopw [5] (fun i wr=>∃k:Nat,k<=l.length/\i=.int .i64 k/\Bw w wr) (fun i _=>l.length-(intOf i).toNat);case atStart=>exact⟨0,Nat.zero_le _,rfl,Below.refl _ _⟩
 case round=>
  obtain⟨k,F,rfl,c⟩:=hrel;by_cases a:k<l.length
  ·obtain⟨b,off,rfl,p,f⟩:=n (by intro h;rw[h]at a;simp at a);obtain⟨z,t,rfl,j,d⟩:=g (by intro h;rw[h]at a;simp at a);have f0:=kC c (f k a) (B b p);have f1:=kC c (d k a) (q z j);have A:=r l[k] (List.getElem_mem a);clear n g f d r;generalize l[k]=s at *;go_wp2_with fail;go_region;all_goals go_wp2_with fail
   all_goals
    go_roundw
    case rel=>exact⟨k+1,om,by go_num,c.drew⟩
    case measure=>simp[intOf];omega
  ·clear n g r;go_wp2;go_ret;exact⟨rfl,c⟩
def rV(n:Nat):Prop:=∀(S d:Nat->Prop)(t:K n)(c0 c1 c2 f a c:Value)(w:World),a8 S w n t c0 c1 c2->a8 d w n t f a c ->
 (Bd S w)->(∀b,d b->b<w.heap.size) ->
 Calls prog 11 #[.agg #[c0,c1,c2],.agg #[f,a,c]] w fun e g=>e=Zr (.bool true)/\Bw w g
theorem wB (n:Nat) (Q:rV n) (S S':Nat->Prop) (l:List (K n)) (v M:Value) (w:World) (hl:gU S w (a8 S w n) l v) (F:gU S' w (a8 S' w n) l M)
  (t:Bd S w) (f:∀b,S' b->b<w.heap.size) :
  Calls prog 45 #[v,M] w fun e A=>e=Zr (.bool true)/\Bw w A:=by
 obtain⟨ao,cap,rfl,x,D⟩:=hl;obtain⟨aa,I,rfl,-,p⟩:=F;unfold maxLen at x;have R:((l.length:Int) != (l.length:Int))=false:=zS;go_in;go_wp2;go_loopw [5] (fun i wr=>∃k:Nat,k<=l.length/\i=.int .i64 k/\Bw w wr) (fun i _=>l.length-(intOf i).toNat);case atStart=>exact⟨0,Nat.zero_le _,rfl,Below.refl _ _⟩
 case round=>
  obtain⟨k,hk,rfl,a⟩:=hrel;by_cases d:k<l.length
  ·obtain⟨b,off,rfl,r,j⟩:=D (by intro h;rw[h]at d;simp at d);obtain⟨E,H,rfl,g,c⟩:=p (by intro h;rw[h]at d;simp at d);obtain⟨X,V,W,L,P,O,N⟩:=j k d;obtain⟨T,Z,U,y,z,B,u⟩:=c k d;have f0:=kC a L (t b r);have f1:=kC a P (t b r);have f2:=kC a O (t b r);have f5:=kC a y (f E g);have f6:=kC a z (f E g);have f7:=kC a B (f E g);clear D p j c L P O y z B;have q:=N.keep (a6 a t) (fun _ h=>h);have J:=u.keep (a6 a f) (fun _ h=>h);have o:=a.size;have Y:Hid (∀m:Nat,Calls prog 11 #[.agg #[X,V,W],.agg #[T,Z,U]] (wr.drewN m) fun e A=>e=Zr (.bool true)/\Bw wr A):=by
    intro m;have G:Bw wr (wr.drewN m):=below_drewN (Below.refl _ _) m;have C:(wr.drewN m).heap.size=wr.heap.size:=zS;refine (Q S S' l[k] _ _ _ _ _ _ (wr.drewN m) (q.keep (a6 G (fun b s=>Zd (t b s) o)) (fun _ h=>h)) (J.keep (a6 G (fun b s=>Zd (f b s) o)) (fun _ h=>h))
     (fun b s=>by have:=t b s;omega) (fun b s=>by have:=f b s;omega)).mono ?_
    rintro e A ⟨rfl,h⟩;rw[Bw,C]at h;exact⟨rfl,G.trans h⟩
   clear N u q J Q;go_wp2_with fail;go_region_with (go_at_call 11;refine (Y.out 1).mono ?_;rintro e A ⟨rfl,ab⟩);all_goals go_wp2_with fail
   all_goals
    go_roundw
    case rel=>exact⟨k+1,om,by go_num,b4 a o (by assumption)⟩
    case measure=>simp[intOf];omega
  ·clear D p;go_wp2;go_ret;exact⟨rfl,a⟩
theorem xH(n:Nat)(F:rV n):rV (n+1):=by
 intro S v t c0 c1 c2 H D A w E r i d;obtain⟨rfl,-,y,x⟩:=E;obtain⟨rfl,-,l,j⟩:=r;have a:Bw w ((w.alloc (.cells #[.int .i64 (Kd.sort t),c1,c2] 31)).alloc (.cells #[.int .i64 (Kd.sort t),D,A] 31)):=
  (gF _ _).alloc zS _
 have k3:=y.keep (a6 a i) (fun _ h=>h);have k:=l.keep (a6 a d) (fun _ h=>h);have k4:=x.keepK (a6 a i) (fun _ h=>h);have p:=j.keepK (a6 a d) (fun _ h=>h);have z:(Kd.sort t != Kd.sort t)=false:=zS;clear y l x j;go_in;go_wp2_with fail;refine (nP S v _ _ _ _ k3 k (fun b f=>by have:=i b f;simp;omega) (fun b f=>by have:=d b f;simp;omega)).mono ?_;rintro e w1 ⟨rfl,c⟩;obtain⟨C,B⟩:=ro c;have q:=c.size;simp at q;have o:=b4 a zE c;have u:=k4.keepK (a6 c (fun b f=>by have:=i b f;simp;omega)) (fun _ h=>h);have m:=p.keepK (a6 c (fun b f=>by have:=d b f;simp;omega)) (fun _ h=>h);clear k3 k k4 p c a;go_wp2_with fail;refine (wB n F S v _ _ _ _ u m (fun b f=>by have:=i b f;omega) (fun b f=>by have:=d b f;omega)).mono ?_;rintro e G ⟨rfl,g⟩;have s:=b4 o om g;clear u m o g C B;go_wp2;go_ret;exact⟨rfl,s⟩
theorem my:∀n,rV n:=by
 intro n;induction n with
 | zero=>intro S e t c0 c1 c2 f c d w a;exact a.elim
 | succ n b=>exact xH n b
def zU{M:Nat}:K (M+1):=(⟨0,[],[]⟩:Kd (K M))
def mN{M:Nat}(k:K (M+1)):K (M+1):=match Kd.kids k with|x :: _=>fQ M M x|[]=>zU
def mL{M:Nat}(k:K (M+1))(s:ByteArray):Option (K (M+1)):=(kU (Kd.names k) (Kd.kids k) s).map (fQ M M)
def mJ{M:Nat}(k:K (M+1)):K (M+2):=fQ (M+1) (M+1) k
def iz{M:Nat}(s:Int):K (M+1):=(⟨s,[],[]⟩:Kd (K M))
def kj{M:Nat}(s:Int)(k:K (M+1)):K (M+2):=(⟨s,[],[k]⟩:Kd (K (M+1)))
def iy{α:Type}(s:ByteArray)(x:α):List ByteArray->List α->List ByteArray×List α
 | n :: ns,k :: ks=>
  if kJ n s=true then (n :: (iy s x ns ks).1,k :: (iy s x ns ks).2)
  else if n=s then (s :: ns,x :: ks)
  else (s :: n :: ns,x :: k :: ks)
 | _,_=>([s],[x])
def iK{α:Type}(s:ByteArray):List ByteArray->List α->List ByteArray×List α
 | n :: ns,k :: ks=>if n=s then iK s ns ks else (n :: (iK s ns ks).1,k :: (iK s ns ks).2)
 | _,_=>([],[])
def zM{M:Nat}(k:K (M+1))(s:ByteArray)(x:K (M+1)):K (M+2):=
 (⟨5,(iy s x (Kd.names k) ((Kd.kids k).map (fQ M M))).1,(iy s x (Kd.names k) ((Kd.kids k).map (fQ M M))).2⟩:Kd (K (M+1)))
def zr{M:Nat}(k:K (M+1))(s:ByteArray):K (M+2):=
 (⟨5,(iK s (Kd.names k) ((Kd.kids k).map (fQ M M))).1,(iK s (Kd.names k) ((Kd.kids k).map (fQ M M))).2⟩:Kd (K (M+1)))
def jA{M:Nat}(a b:K (M+1)):Bool:=d9 (M+1) a==d9 (M+1) b
abbrev jS(M:Nat):Type:=List (ByteArray×K (M+1))
def iX{M:Nat}:jS M->ByteArray->Option (K (M+1))
 | [],_=>none
 | (s,k) :: r,x=>if s=x then some k else iX r x
def b9{M:Nat}(op:Int)(b:K (M+1))(i:Nat)(k:K (M+1))(a:List (K (M+1))):Bool:=
 if (9<=op/\op<=13)∨op=29 then Kd.sort k==1
 else if op=30 then Kd.sort k==2
 else if 16<=op/\op<=18 then Kd.sort k==3
 else if op=14 then if i=0 then Kd.sort k==1 || Kd.sort k==2 else jA k (a.getD 0 zU)
 else if op=15 then i==0 || jA k (a.getD 0 zU)
 else if op=19∨op=41 then if i=0 then Kd.sort k==3 else if op=19/\i=2 then jA k (a.getD 1 zU) else true
 else if 21<=op/\op<=23 then i==1 || Kd.sort k==5
 else if op=25 then if i=0 then Kd.sort k==4 else Kd.sort k==1
 else if op=26 then Kd.sort k==4 || Kd.sort k==2
 else if op=27 then if i=0 then Kd.sort k==4 || Kd.sort k==2 else jA k (a.getD 0 zU)
 else if op=28 then if i=0 then Kd.sort k==4 || Kd.sort k==2 else Kd.sort k==1
 else if op=31 then if i=0 then Kd.sort k==6 else jA k (mN (a.getD 0 zU))
 else if op=32 then if i=0 then Kd.sort k==6 else if i=2 then jA k (a.getD 1 zU) else true
 else if op=33∨op=43 then i==1 || Kd.sort k==4
 else if op=34 then if i=0 then Kd.sort k==4 else Kd.sort k==3
 else if op=35 then if i=0 then Kd.sort k==4 else if i=2 then jA k (a.getD 1 zU) else true
 else if op=38∨op=39 then jA k b
 else true
def mu{M:Nat}(op:Int)(names:List ByteArray)(i:Nat)(a:List (K (M+1)))(env:jS M):jS M:=
 if (op=20∨op=42)/\i=1 then (names.getD 0 ByteArray.empty,a.getD 0 zU) :: env
 else if (op=32∨op=33∨op=34∨op=43)/\i=1 then (names.getD 0 ByteArray.empty,mN (a.getD 0 zU)) :: env
 else if op=35/\i=2 then (names.getD 1 ByteArray.empty,mN (a.getD 0 zU)) :: (names.getD 0 ByteArray.empty,a.getD 1 zU) :: env
 else env
def pL(M:Nat)(s:ByteArray):K (M+1):=match iO (s.size+8) s with|some k=>fQ M (s.size+8) k|none=>zU
def fX{M:Nat}(op:Int)(names:List ByteArray)(text:ByteArray)(env:jS M)(a:List (K (M+1))):K (M+2)×Int:=
 if op=1∨op=2∨op=3 then (iz op,0)
 else if op=4 then match iX env (names.getD 0 ByteArray.empty) with|some k=>(mJ k,0)|none=>(zU,5)
 else if op=5 then (kj 6 (pL M text),0)
 else if op=6 then (kj 4 (pL M text),0)
 else if op=7 then (kj 6 (a.getD 0 zU),0)
 else if op=8 then (kj 4 (a.getD 0 zU),0)
 else if (9<=op/\op<=13)∨op=26 then (iz 1,0)
 else if 14<=op/\op<=18 then (iz 3,0)
 else if op=29 then (iz 2,0)
 else if op=30 then (kj 6 (iz 1),0)
 else if op=21 then match mL (a.getD 0 zU) (names.getD 0 ByteArray.empty) with|some k=>(mJ k,0)|none=>(zU,8)
 else if op=23 then match mL (a.getD 0 zU) (names.getD 0 ByteArray.empty) with|some _=>(zr (a.getD 0 zU) (names.getD 0 ByteArray.empty),0)|none=>(zU,8)
 else if op=22 then (zM (a.getD 0 zU) (names.getD 0 ByteArray.empty) (a.getD 1 zU),0)
 else if op=24 then ((⟨5,names,a⟩:Kd (K (M+1))),0)
 else if op=25 then (mJ (mN (a.getD 0 zU)),0)
 else if op=33 then (kj 4 (a.getD 1 zU),0)
 else if op=19∨op=20∨op=31∨op=32∨op=35 then (mJ (a.getD 1 zU),0)
 else (mJ (a.getD 0 zU),0)
def pc{M:Nat}{α:Type}(f:α->jS M->Nat->K (M+1)×Int×Nat)(cnt:α->Nat)(a:Nat->List (K (M+1))->jS M)(want:Nat->K (M+1)->List (K (M+1))->Bool):List α->List (K (M+1))->Nat->List (K (M+1))×Int×Nat
 | [],acc,_=>(acc,0,0)
 | k :: r,acc,pl=>
  if (f k (a acc.length acc) pl).2.1≠0 then ([],(f k (a acc.length acc) pl).2)
  else if want acc.length (f k (a acc.length acc) pl).1 acc=true then pc f cnt a want r (acc++[(f k (a acc.length acc) pl).1]) (pl+cnt k)
  else ([],6,pl)
abbrev wD(M:Nat):Type:=List ((ByteArray×Int)×K (M+1))
def EE{M:Nat}:wD M->ByteArray->Int->Option (K (M+1))
 | [],_,_=>none
 | ((s,v),k) :: r,x,y=>if s=x/\v=y then some k else EE r x y
def ly{M:Nat}{α:Type}(sn:wD M)(t:Nd α):Option (K (M+1)):=
 if t.sort=38 then EE sn ByteArray.empty 0 else EE sn (t.names.getD 0 ByteArray.empty) t.num
def mg{M:Nat}{α:Type}(t:Nd α)(env:jS M)(a:List (K (M+1)))(pl:Nat):K (M+1)×Int×Nat:=
 if 36<=t.sort then (zU,0,0)
 else if (fX t.sort t.names t.text env a).2≠0 then (zU,(fX t.sort t.names t.text env a).2,pl)
 else if gV (M+2) (fX t.sort t.names t.text env a).1=true then (fQ M (M+2) (fX t.sort t.names t.text env a).1,0,0)
 else (zU,7,pl)
def jQ{M:Nat}(sn:wD M):(m:Nat)->T m->jS M->Nat->K (M+1)×Int×Nat
 | 0,_,_,_=>(zU,0,0)
 | m+1,t,env,pl=>
  if (Nd.sort t=38∨Nd.sort t=39)/\ly sn (show Nd (T m) from t)=none then (zU,5,pl)
  else if (pc (jQ sn m) (fJ m) (fun i a=>mu (Nd.sort t) (Nd.names t) i a env) (b9 (Nd.sort t) ((ly sn (show Nd (T m) from t)).getD zU)) (Nd.kids t) [] (pl+1)).2.1≠0 then
   (zU,(pc (jQ sn m) (fJ m) (fun i a=>mu (Nd.sort t) (Nd.names t) i a env) (b9 (Nd.sort t) ((ly sn (show Nd (T m) from t)).getD zU)) (Nd.kids t) [] (pl+1)).2)
  else mg (show Nd (T m) from t) env (pc (jQ sn m) (fJ m) (fun i a=>mu (Nd.sort t) (Nd.names t) i a env) (b9 (Nd.sort t) ((ly sn (show Nd (T m) from t)).getD zU)) (Nd.kids t) [] (pl+1)).1 pl
def BQ:List (Int×Nat):=[(7,0),(8,0),(9,0),(9,1),(10,0),(10,1),(11,0),(11,1),(12,0),(12,1),(13,0),(13,1),(14,0),(14,1),(15,0),(15,1),(16,0),(16,1),(17,0),(17,1),(18,0),(19,0),(19,1),(19,2),(20,0),(20,1),(21,0),(22,0),(22,1),(23,0),(25,0),(25,1),(26,0),(27,0),(27,1),(28,0),(28,1),(28,2),(29,0),(30,0),(31,0),(31,1),(32,0),(32,1),(32,2),(33,0),(33,1),(34,0),(34,1),(35,0),(35,1),(35,2),(41,0),(42,0),(43,0)]
theorem Dy:∀k,k<44->∀i,i<(lA k).length->k=24∨k=38∨k=39∨¬(lA k).getD i 0=86∨((k:Int),i)∈BQ:=by decide
theorem gr{l:List α}{i:Nat}{d:α}(h:i<l.length):l.getD i d=l[i]:=by rw[List.getD_eq_getElem?_getD,List.getElem?_eq_getElem h,Option.getD_some]
theorem ld {S:Nat->Prop} {w:World} {l:List ByteArray} {v:Value} (h:fL S w l v) (k:Bd S w) (c:0<l.length) :
  ∃(p q cap:Nat),v=.slice (some ⟨p,q,none⟩) l.length cap/\p<w.heap.size/\∀i (h:i<l.length),w.cell? ⟨p,q+i,none⟩=some (.string l[i])/\l[i].size<=maxLen:=by obtain⟨n,cap,d,-,j,f⟩:=h;obtain⟨b,off,g,m,a⟩:=f (fun e=>by rw[e]at c;simp at c);exact⟨b,off,cap,by rw[d,g],k b m,fun i hi=>⟨a i hi,j _ (List.getElem_mem hi)⟩⟩
structure tw{M:Nat}(op:Int)(names:List ByteArray)(i:Nat)(ks:List (K (M+1))):Prop where
 one:op=20∨op=42∨op=32∨op=33∨op=34∨op=43->1<=names.length
 two:op=35->2<=names.length
 may:op=32->i=1->Kd.sort (ks.getD 0 zU)=6
 lst:op=33∨op=34∨op=43->i=1->Kd.sort (ks.getD 0 zU)=4
 fld:op=35->i=2->Kd.sort (ks.getD 0 zU)=4
structure Aq{M:Nat}(op:Int)(names:List ByteArray)(text:ByteArray)(ks:List (K (M+1))):Prop where
 lo:1<=op
 hi:op<=35
 name:op=4∨op=21∨op=22∨op=23->1<=names.length
 size:op=22->(names.getD 0 ByteArray.empty).size<=8
 kind:op=5∨op=6->jK text=true
 one:op=7∨op=8∨op=21∨op=23∨op=25∨op=27∨op=28∨op=34->1<=ks.length
 two:op=19∨op=20∨op=22∨op=31∨op=32∨op=33∨op=35->2<=ks.length
 form:op=21∨op=22∨op=23->Kd.sort (ks.getD 0 zU)=5
 lst:op=25->Kd.sort (ks.getD 0 zU)=4
 few:op=24->names.length<=1000/\∀s,s∈names->s.size<=10000
theorem oy (s:ByteArray) (x:α):∀ (a:List ByteArray) (b:List α) (j:Nat),a.length=b.length->j<=a.length->(∀ i (h:i<a.length),i<j->kJ a[i] s=true) ->
  iy s x a b=(a.take j++(iy s x (a.drop j) (b.drop j)).1,b.take j++(iy s x (a.drop j) (b.drop j)).2):=by
 intro a;induction a with
 | nil=>intro b j e d _;obtain rfl:j=0:=(by simpa using d);simp
 | cons n a g=>
  intro b j e d c;cases j with
  | zero=>simp
  | succ j=>
   cases b with
   | nil=>simp at e
   | cons k b=>have f:=c 0 zS om;simp only[List.getElem_cons_zero]at f;have:=g b j (by simpa using e) (by simpa using d) (fun i h hi=>by have:=c (i+1) (by simpa using h) om;simpa using this);simp only[List.take_succ_cons,List.drop_succ_cons,List.cons_append];rw[iy,if_pos f,this]
theorem Gc(s:ByteArray)(x:α):iy s x [] ([]:List α)=([s],[x]):=rfl
theorem He(s:ByteArray)(x:α)(n:ByteArray)(a:List ByteArray)(k:α)(b:List α)(h:n=s):iy s x (n :: a) (k :: b)=(s :: a,x :: b):=by subst h;rw[iy,if_neg (by rw[tB];simp),if_pos rfl]
theorem B8(s:ByteArray)(x:α)(n:ByteArray)(a:List ByteArray)(k:α)(b:List α)(h:kJ n s≠true)(c:n≠s):iy s x (n :: a) (k :: b)=(s :: n :: a,x :: k :: b):=by rw[iy,if_neg h,if_neg c]
theorem mp{k:K (M+1)}(h:gV (M+1) k=true)(e:Kd.sort k=5):(Kd.names k).length=(Kd.kids k).length/\(Kd.names k).length<=39/\(∀s,s∈Kd.names k->s.size<=8)/\uk (Kd.names k)/\gW (Kd.names k)=true:=by
 obtain⟨g,c⟩:=ie h;have b:fW (Kd.sort k) (Kd.names k) (Kd.kids k).length=true:=(ic g).2.1;rw[e]at b;simp[fW]at b;have n:1+b5 (fun k=>fP M k) (Kd.kids k)<=40:=c;have o:(Kd.kids k).length<=b5 (fun k=>fP M k) (Kd.kids k):=by
  have:∀l:List (K M),(∀x,x∈l->fK M x (1+1)=true)->l.length<=b5 (fun k=>fP M k) l:=by
   intro l;induction l with
   | nil=>intro _;simp
   | cons a r i=>intro d;have m:=s4 M a _ (d a (List.mem_cons_self ..));have j:=i fun x f=>d x (List.mem_cons_of_mem _ f);simp only[b5,List.length_cons];omega
  exact this _ (ic g).2.2
 exact⟨om,om,jD _ b.2,IX _ b.2,b.2⟩
def mj{n:Nat}(p:ByteArray×K n):Bool:=gh p.1 && gV n p.2
def jo(M:Nat){n:Nat}(l:List (ByteArray×K n)):List (ByteArray×K (M+1)):=l.map fun p=>(p.1,fQ M n p.2)
def CX(m:Nat)(t:T m)(a:Bool):Bool:=(gD m t 1 && (a==decide (36<=pU m t))) && decide (fJ m t<=200) && decide (gx m t<=3000)
def h9(M m:Nat)(t:T m){n:Nat}(l:List (ByteArray×K n)):K (M+1)×Int×Nat:=
 if CX m t false=false then (zU,2,0)
 else if l.all mj=false then (zU,6,0)
 else jQ [] m t (jo M l).reverse 0
theorem yk{n:Nat}(a:5<=M){l:List (ByteArray×K n)}(h:l.all mj=true):∀p,p∈jo M l->gV (M+1) p.2=true:=by intro p c;obtain⟨q,b,rfl⟩:=List.mem_map.1 c;have:=List.all_eq_true.1 h q b;unfold mj at this;simp only[Bool.and_eq_true]at this;exact (rR a this.2).1
def rY(n:Nat):Prop:=∀(S g:Nat->Prop)(t:T n)(c0 c1 c2 c3 c4 c f a h d:Value)(w:World),gJ S w n t c0 c1 c2 c3 c4->gJ g w n t c f a h d ->
 (Bd S w)->(∀b,g b->b<w.heap.size) ->
 Calls prog 14 #[.agg #[c0,c1,c2,c3,c4],.agg #[c,f,a,h,d]] w fun e i=>e=Zr (.bool true)/\Bw w i
theorem wM (n:Nat) (R:rY n) (S S':Nat->Prop) (l:List (T n)) (v O:Value) (w:World) (hl:ig S w (gJ S w n) l v) (I:ig S' w (gJ S' w n) l O)
  (p:Bd S w) (d:∀b,S' b->b<w.heap.size) :
  Calls prog 47 #[v,O] w fun e C=>e=Zr (.bool true)/\Bw w C:=by
 obtain⟨ao,cap,rfl,z,H⟩:=hl;obtain⟨aa,L,rfl,-,r⟩:=I;unfold maxLen at z;have ab:((l.length:Int) != (l.length:Int))=false:=zS;go_in;go_wp2;go_loopw [5] (fun i wr=>∃k:Nat,k<=l.length/\i=.int .i64 k/\Bw w wr) (fun i _=>l.length-(intOf i).toNat);case atStart=>exact⟨0,Nat.zero_le _,rfl,Below.refl _ _⟩
 case round=>
  obtain⟨k,hk,rfl,a⟩:=hrel;by_cases g:k<l.length
  ·obtain⟨b,off,rfl,j,o⟩:=H (by intro h;rw[h]at g;simp at g);obtain⟨u,K,rfl,c,f⟩:=r (by intro h;rw[h]at g;simp at g);obtain⟨x0,X,Z,x3,Y,N,U,Q,V,J,P⟩:=o k g;obtain⟨W,y1,y2,y3,y4,B,A,E,x,D,y⟩:=f k g;have f0:=kC a N (p b j);have f1:=kC a U (p b j);have f2:=kC a Q (p b j);have f3:=kC a V (p b j);have f4:=kC a J (p b j);have f5:=kC a B (d u c);have f6:=kC a A (d u c);have f7:=kC a E (d u c);have f8:=kC a x (d u c);have f9:=kC a D (d u c);clear H r o f N U Q V J B A E x D;have q:=P.keep (a6 a p) (fun _ h=>h);have M:=y.keep (a6 a d) (fun _ h=>h);have s:=a.size;have HC:Hid (∀m:Nat,Calls prog 14 #[.agg #[x0,X,Z,x3,Y],.agg #[W,y1,y2,y3,y4]] (wr.drewN m) fun e C=>e=Zr (.bool true)/\Bw wr C):=by
    intro m;have G:Bw wr (wr.drewN m):=below_drewN (Below.refl _ _) m;have F:(wr.drewN m).heap.size=wr.heap.size:=zS;refine (R S S' l[k] _ _ _ _ _ _ _ _ _ _ (wr.drewN m) (q.keep (a6 G (fun b t=>Zd (p b t) s)) (fun _ h=>h)) (M.keep (a6 G (fun b t=>Zd (d b t) s)) (fun _ h=>h))
     (fun b t=>by have:=p b t;omega) (fun b t=>by have:=d b t;omega)).mono ?_
    rintro e C ⟨rfl,h⟩;rw[Bw,F]at h;exact⟨rfl,G.trans h⟩
   clear P y q M R;go_wp2_with fail;go_region_with (go_at_call 14;refine (HC.out 1).mono ?_;rintro e C ⟨rfl,ac⟩);all_goals go_wp2_with fail
   all_goals
    go_roundw
    case rel=>exact⟨k+1,om,by go_num,b4 a s (by assumption)⟩
    case measure=>simp[intOf];omega
  ·clear H r;go_wp2;go_ret;exact⟨rfl,a⟩
theorem yU(n:Nat)(F:rY n):rY (n+1):=by
 intro S v t c0 c1 c2 c3 c4 K I H G C w D r i d;obtain⟨rfl,rfl,rfl,L,-,-,y,x⟩:=D;obtain⟨rfl,rfl,rfl,-,-,-,l,j⟩:=r;have a:Bw w ((w.alloc (.cells #[.int .i64 (Nd.sort t),.int .i64 (Nd.num t),.string (Nd.text t),c3,c4] 40)).alloc (.cells #[.int .i64 (Nd.sort t),.int .i64 (Nd.num t),.string (Nd.text t),G,C] 40)):=
  (gF _ _).alloc zS _
 have k3:=y.keep (a6 a i) (fun _ h=>h);have k:=l.keep (a6 a d) (fun _ h=>h);have k4:=x.keepT (a6 a i) (fun _ h=>h);have p:=j.keepT (a6 a d) (fun _ h=>h);have z:(Nd.sort t != Nd.sort t)=false:=zS;have E:(Nd.num t != Nd.num t)=false:=zS;clear y l x j;go_in;go_wp2_with fail;refine (nP S v _ _ _ _ k3 k (fun b f=>by have:=i b f;simp;omega) (fun b f=>by have:=d b f;simp;omega)).mono ?_;rintro e w1 ⟨rfl,c⟩;obtain⟨B,A⟩:=ro c;have q:=c.size;simp at q;have o:=b4 a zE c;have u:=k4.keepT (a6 c (fun b f=>by have:=i b f;simp;omega)) (fun _ h=>h);have m:=p.keepT (a6 c (fun b f=>by have:=d b f;simp;omega)) (fun _ h=>h);clear k3 k k4 p c a;go_wp2_with fail;refine (wM n F S v _ _ _ _ u m (fun b f=>by have:=i b f;omega) (fun b f=>by have:=d b f;omega)).mono ?_;rintro e J ⟨rfl,g⟩;have s:=b4 o om g;clear u m o g B A;go_wp2;go_ret;exact⟨rfl,s⟩
theorem zk:∀n,rY n:=by
 intro n;induction n with
 | zero=>intro S g t c0 c1 c2 c3 c4 d f c h e w a;exact a.elim
 | succ n b=>exact yU n b
end Go.Proofs.YtcfojmaccikgeaaGreatDoor
