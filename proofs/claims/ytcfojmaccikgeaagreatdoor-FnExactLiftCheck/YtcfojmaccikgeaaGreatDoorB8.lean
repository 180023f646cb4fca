import Derived.Test.YtcfojmaccikgeaaGreatDoorB7
import Derived.Test.YtcfojmaccikgeaaGreatDoorB5
namespace Go.Proofs.YtcfojmaccikgeaaGreatDoor
open Go.RowKit
variable {α:Type}
def zU{M:Nat}:K (M+1):=(⟨0,[],[]⟩:Kd (K M))
def mQ{M:Nat}(k:K (M+1)):K (M+1):=match Kd.kids k with|x :: _=>fO M M x|[]=>zU
def mP{M:Nat}(k:K (M+1))(s:ZN):Option (K (M+1)):=(kR (Kd.names k) (Kd.kids k) s).map (fO M M)
def pq{M:Nat}(k:K (M+1)):K (M+2):=fO (M+1) (M+1) k
def iA{M:Nat}(s:Int):K (M+1):=(⟨s,[],[]⟩:Kd (K M))
def kE{M:Nat}(s:Int)(k:K (M+1)):K (M+2):=(⟨s,[],[k]⟩:Kd (K (M+1)))
def ix{α:Type}(s:ZN)(x:α):List ZN->List α->List ZN×List α
 | n :: ns,k :: ks=>
  if kN n s=true then (n :: (ix s x ns ks).1,k :: (ix s x ns ks).2)
  else if n=s then (s :: ns,x :: ks)
  else (s :: n :: ns,x :: k :: ks)
 | _,_=>([s],[x])
def iK{α:Type}(s:ZN):List ZN->List α->List ZN×List α
 | n :: ns,k :: ks=>if n=s then iK s ns ks else (n :: (iK s ns ks).1,k :: (iK s ns ks).2)
 | _,_=>([],[])
def A6{M:Nat}(k:K (M+1))(s:ZN)(x:K (M+1)):K (M+2):=
 (⟨5,(ix s x (Kd.names k) ((Kd.kids k).map (fO M M))).1,(ix s x (Kd.names k) ((Kd.kids k).map (fO M M))).2⟩:Kd (K (M+1)))
def yj{M:Nat}(k:K (M+1))(s:ZN):K (M+2):=
 (⟨5,(iK s (Kd.names k) ((Kd.kids k).map (fO M M))).1,(iK s (Kd.names k) ((Kd.kids k).map (fO M M))).2⟩:Kd (K (M+1)))
def ji{M:Nat}(a b:K (M+1)):Bool:=fI (M+1) a==fI (M+1) b
abbrev jE(M:Nat):Type:=List (ZN×K (M+1))
def iX{M:Nat}:jE M->ZN->Option (K (M+1))
 | [],_=>none
 | (s,k) :: r,x=>if s=x then some k else iX r x
def b7{M:Nat}(op:Int)(b:K (M+1))(i:Nat)(k:K (M+1))(a:List (K (M+1))):Bool:=
 if (9<=op/\op<=13)∨op=29 then Kd.sort k==1
 else if op=30 then Kd.sort k==2
 else if 16<=op/\op<=18 then Kd.sort k==3
 else if op=14 then if i=0 then Kd.sort k==1 || Kd.sort k==2 else ji k (a.getD 0 zU)
 else if op=15 then i==0 || ji k (a.getD 0 zU)
 else if op=19∨op=41 then if i=0 then Kd.sort k==3 else if op=19/\i=2 then ji k (a.getD 1 zU) else true
 else if 21<=op/\op<=23 then i==1 || Kd.sort k==5
 else if op=25 then if i=0 then Kd.sort k==4 else Kd.sort k==1
 else if op=26 then Kd.sort k==4 || Kd.sort k==2
 else if op=27 then if i=0 then Kd.sort k==4 || Kd.sort k==2 else ji k (a.getD 0 zU)
 else if op=28 then if i=0 then Kd.sort k==4 || Kd.sort k==2 else Kd.sort k==1
 else if op=31 then if i=0 then Kd.sort k==6 else ji k (mQ (a.getD 0 zU))
 else if op=32 then if i=0 then Kd.sort k==6 else if i=2 then ji k (a.getD 1 zU) else true
 else if op=33∨op=43 then i==1 || Kd.sort k==4
 else if op=34 then if i=0 then Kd.sort k==4 else Kd.sort k==3
 else if op=35 then if i=0 then Kd.sort k==4 else if i=2 then ji k (a.getD 1 zU) else true
 else if op=38∨op=39 then ji k b
 else true
def jU{M:Nat}(op:Int)(names:List ZN)(i:Nat)(a:List (K (M+1)))(env:jE M):jE M:=
 if (op=20∨op=42)/\i=1 then (names.getD 0 ByteArray.empty,a.getD 0 zU) :: env
 else if (op=32∨op=33∨op=34∨op=43)/\i=1 then (names.getD 0 ByteArray.empty,mQ (a.getD 0 zU)) :: env
 else if op=35/\i=2 then (names.getD 1 ByteArray.empty,mQ (a.getD 0 zU)) :: (names.getD 0 ByteArray.empty,a.getD 1 zU) :: env
 else env
def qd(M:Nat)(s:ZN):K (M+1):=match iZ (s.size+8) s with|some k=>fO M (s.size+8) k|none=>zU
def fV{M:Nat}(op:Int)(names:List ZN)(text:ZN)(env:jE M)(a:List (K (M+1))):K (M+2)×Int:=
 if op=1∨op=2∨op=3 then (iA op,0)
 else if op=4 then match iX env (names.getD 0 ByteArray.empty) with|some k=>(pq k,0)|none=>(zU,5)
 else if op=5 then (kE 6 (qd M text),0)
 else if op=6 then (kE 4 (qd M text),0)
 else if op=7 then (kE 6 (a.getD 0 zU),0)
 else if op=8 then (kE 4 (a.getD 0 zU),0)
 else if (9<=op/\op<=13)∨op=26 then (iA 1,0)
 else if 14<=op/\op<=18 then (iA 3,0)
 else if op=29 then (iA 2,0)
 else if op=30 then (kE 6 (iA 1),0)
 else if op=21 then match mP (a.getD 0 zU) (names.getD 0 ByteArray.empty) with|some k=>(pq k,0)|none=>(zU,8)
 else if op=23 then match mP (a.getD 0 zU) (names.getD 0 ByteArray.empty) with|some _=>(yj (a.getD 0 zU) (names.getD 0 ByteArray.empty),0)|none=>(zU,8)
 else if op=22 then (A6 (a.getD 0 zU) (names.getD 0 ByteArray.empty) (a.getD 1 zU),0)
 else if op=24 then ((⟨5,names,a⟩:Kd (K (M+1))),0)
 else if op=25 then (pq (mQ (a.getD 0 zU)),0)
 else if op=33 then (kE 4 (a.getD 1 zU),0)
 else if op=19∨op=20∨op=31∨op=32∨op=35 then (pq (a.getD 1 zU),0)
 else (pq (a.getD 0 zU),0)
def l8{M:Nat}{α:Type}(f:α->jE M->Nat->K (M+1)×Int×Nat)(cnt:α->Nat)(a:Nat->List (K (M+1))->jE M)(want:Nat->K (M+1)->List (K (M+1))->Bool):List α->List (K (M+1))->Nat->List (K (M+1))×Int×Nat
 | [],acc,_=>(acc,0,0)
 | k :: r,acc,pl=>
  if (f k (a acc.length acc) pl).2.1≠0 then ([],(f k (a acc.length acc) pl).2)
  else if want acc.length (f k (a acc.length acc) pl).1 acc=true then l8 f cnt a want r (acc++[(f k (a acc.length acc) pl).1]) (pl+cnt k)
  else ([],6,pl)
abbrev mq(M:Nat):Type:=List ((ZN×Int)×K (M+1))
def jx{M:Nat}:mq M->ZN->Int->Option (K (M+1))
 | [],_,_=>none
 | ((s,v),k) :: r,x,y=>if s=x/\v=y then some k else jx r x y
def iy{M:Nat}{α:Type}(sn:mq M)(t:Nd α):Option (K (M+1)):=
 if t.sort=38 then jx sn ByteArray.empty 0 else jx sn (t.names.getD 0 ByteArray.empty) t.num
def kA{M:Nat}{α:Type}(t:Nd α)(env:jE M)(a:List (K (M+1)))(pl:Nat):K (M+1)×Int×Nat:=
 if 36<=t.sort then (zU,0,0)
 else if (fV t.sort t.names t.text env a).2≠0 then (zU,(fV t.sort t.names t.text env a).2,pl)
 else if gF (M+2) (fV t.sort t.names t.text env a).1=true then (fO M (M+2) (fV t.sort t.names t.text env a).1,0,0)
 else (zU,7,pl)
def gR{M:Nat}(sn:mq M):(m:Nat)->T m->jE M->Nat->K (M+1)×Int×Nat
 | 0,_,_,_=>(zU,0,0)
 | m+1,t,env,pl=>
  if (Nd.sort t=38∨Nd.sort t=39)/\iy sn (show Nd (T m) from t)=none then (zU,5,pl)
  else if (l8 (gR sn m) (d9 m) (fun i a=>jU (Nd.sort t) (Nd.names t) i a env) (b7 (Nd.sort t) ((iy sn (show Nd (T m) from t)).getD zU)) (Nd.kids t) [] (pl+1)).2.1≠0 then
   (zU,(l8 (gR sn m) (d9 m) (fun i a=>jU (Nd.sort t) (Nd.names t) i a env) (b7 (Nd.sort t) ((iy sn (show Nd (T m) from t)).getD zU)) (Nd.kids t) [] (pl+1)).2)
  else kA (show Nd (T m) from t) env (l8 (gR sn m) (d9 m) (fun i a=>jU (Nd.sort t) (Nd.names t) i a env) (b7 (Nd.sort t) ((iy sn (show Nd (T m) from t)).getD zU)) (Nd.kids t) [] (pl+1)).1 pl
def zQ:List (Int×Nat):=[(7,0),(8,0),(9,0),(9,1),(10,0),(10,1),(11,0),(11,1),(12,0),(12,1),(13,0),(13,1),(14,0),(14,1),(15,0),(15,1),(16,0),(16,1),(17,0),(17,1),(18,0),(19,0),(19,1),(19,2),(20,0),(20,1),(21,0),(22,0),(22,1),(23,0),(25,0),(25,1),(26,0),(27,0),(27,1),(28,0),(28,1),(28,2),(29,0),(30,0),(31,0),(31,1),(32,0),(32,1),(32,2),(33,0),(33,1),(34,0),(34,1),(35,0),(35,1),(35,2),(41,0),(42,0),(43,0)]
theorem EE:∀k,k<44->∀i,i<(jr k).length->k=24∨k=38∨k=39∨¬(jr k).getD i 0=86∨((k:Int),i)∈zQ:=by decide
theorem gm{l:List α}{i:Nat}{d:α}(h:i<l.length):l.getD i d=l[i]:=by rw[List.getD_eq_getElem?_getD,List.getElem?_eq_getElem h,Option.getD_some]
theorem ki {S:ZP} {w:World} {l:List ZN} {v:Value} (h:fL S w l v) (d:Bd S w) (c:0<l.length) :
  ∃(p q cap:Nat),v=.slice (some ⟨p,q,none⟩) l.length cap/\p<w.heap.size/\∀i (h:i<l.length),w.cell? ⟨p,q+i,none⟩=some (.string l[i])/\l[i].size<=maxLen:=by obtain⟨n,cap,m,-,k,j⟩:=h;obtain⟨b,off,f,g,a⟩:=j (fun e=>by rw[e]at c;simp at c);exact⟨b,off,cap,by rw[m,f],d b g,fun i hi=>⟨a i hi,k _ (List.getElem_mem hi)⟩⟩
structure qt{M:Nat}(op:Int)(names:List ZN)(i:Nat)(ks:List (K (M+1))):Prop where
 one:op=20∨op=42∨op=32∨op=33∨op=34∨op=43->1<=names.length
 two:op=35->2<=names.length
 may:op=32->i=1->Kd.sort (ks.getD 0 zU)=6
 lst:op=33∨op=34∨op=43->i=1->Kd.sort (ks.getD 0 zU)=4
 fld:op=35->i=2->Kd.sort (ks.getD 0 zU)=4
structure zY{M:Nat}(op:Int)(names:List ZN)(text:ZN)(ks:List (K (M+1))):Prop where
 lo:1<=op
 hi:op<=35
 name:op=4∨op=21∨op=22∨op=23->1<=names.length
 size:op=22->(names.getD 0 ByteArray.empty).size<=8
 kind:op=5∨op=6->jV text=true
 one:op=7∨op=8∨op=21∨op=23∨op=25∨op=27∨op=28∨op=34->1<=ks.length
 two:op=19∨op=20∨op=22∨op=31∨op=32∨op=33∨op=35->2<=ks.length
 form:op=21∨op=22∨op=23->Kd.sort (ks.getD 0 zU)=5
 lst:op=25->Kd.sort (ks.getD 0 zU)=4
 few:op=24->names.length<=1000/\∀s,s∈names->s.size<=10000
theorem oU (s:ZN) (x:α):∀ (a:List ZN) (b:List α) (j:Nat),a.length=b.length->j<=a.length->(∀ i (h:i<a.length),i<j->kN a[i] s=true) ->
  ix s x a b=(a.take j++(ix s x (a.drop j) (b.drop j)).1,b.take j++(ix s x (a.drop j) (b.drop j)).2):=by
 intro a;induction a with
 | nil=>intro b j e d _;obtain rfl:j=0:=(by simpa using d);simp
 | cons n a g=>
  intro b j e d c;cases j with
  | zero=>simp
  | succ j=>
   cases b with
   | nil=>simp at e
   | cons k b=>have f:=c 0 zS om;simp only[List.getElem_cons_zero]at f;have:=g b j (by simpa using e) (by simpa using d) (fun i h hi=>by have:=c (i+1) (by simpa using h) om;simpa using this);simp only[List.take_succ_cons,List.drop_succ_cons,List.cons_append];rw[ix,if_pos f,this]
theorem Gx(s:ZN)(x:α):ix s x [] ([]:List α)=([s],[x]):=rfl
theorem Im(s:ZN)(x:α)(n:ZN)(b:List ZN)(k:α)(a:List α)(h:n=s):ix s x (n :: b) (k :: a)=(s :: b,x :: a):=by subst h;rw[ix,if_neg (by rw[tD];simp),if_pos rfl]
theorem Cl(s:ZN)(x:α)(n:ZN)(b:List ZN)(k:α)(a:List α)(h:kN n s≠true)(c:n≠s):ix s x (n :: b) (k :: a)=(s :: n :: b,x :: k :: a):=by rw[ix,if_neg h,if_neg c]
theorem ms{M:Nat}{k:K (M+1)}(h:gF (M+1) k=true)(e:Kd.sort k=5):(Kd.names k).length=(Kd.kids k).length/\(Kd.names k).length<=39/\(∀s,s∈Kd.names k->s.size<=8)/\uv (Kd.names k)/\gX (Kd.names k)=true:=by
 obtain⟨g,c⟩:=iw h;have b:fX (Kd.sort k) (Kd.names k) (Kd.kids k).length=true:=(ic g).2.1;rw[e]at b;simp[fX]at b;have n:1+b4 (fun k=>fR M k) (Kd.kids k)<=40:=c;have o:(Kd.kids k).length<=b4 (fun k=>fR M k) (Kd.kids k):=by
  have:∀l:List (K M),(∀x,x∈l->fM M x (1+1)=true)->l.length<=b4 (fun k=>fR M k) l:=by
   intro l;induction l with
   | nil=>intro _;simp
   | cons a r i=>intro d;have j:=sV M a _ (d a (List.mem_cons_self ..));have m:=i fun x f=>d x (List.mem_cons_of_mem _ f);simp only[b4,List.length_cons];omega
  exact this _ (ic g).2.2
 exact⟨om,om,jO _ b.2,IQ _ b.2,b.2⟩
def IE(m:Nat)(t:T m)(a:Bool):Bool:=(gp m t 1 && (a==decide (36<=nj m t))) && decide (d9 m t<=200) && decide (gw m t<=3000)
end Go.Proofs.YtcfojmaccikgeaaGreatDoor
