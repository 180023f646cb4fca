import Derived.Test.YtkcollkaldkccaaGreatDoorB7
set_option linter.all false
open List renaming length -> J,length->Uh
open Go.Calls renaming mono -> H
open Go.Value renaming int->I,string->Zt,bool->Zb
open Go.Ending renaming returned->Zr,returned->Ue
open Go renaming Calls->WU
namespace Go.Proofs.YtkcollkaldkccaaGreatDoor
open Go.RowKit Go.Proofs.Tryz
set_option maxRecDepth 100000
set_option maxHeartbeats 16000000
variable {k m n i i' i1 R X:Nat} {v:Value} {w W w2 w3:World} {x s:ZB} {ns:List ZB} {bad1 bad' bad b:Bool} {d:Int} {c:UInt8} {post:List UInt8} {e:TypeId} {xs:List Value} {o:Obj}
def t7(f:k<44)(w:World):WU prog 75 #[I .i64 (k:Int)] w λe g=>e=Zr (Zt (lF k))/\Bw w g:=by
 have c:Hid (∀x a b w,WU prog 51 #[I .i64 x,I .i64 a,I .i64 b] w _):=λx a b w=>fx x a b w;have d:Hid (∀o:Obj,Bw w (w.alloc o)):=λo=>eC _ o;rcases sK f with rfl|rfl|rfl|rfl|rfl|rfl|rfl|rfl|rfl|rfl|rfl|rfl|rfl|rfl|rfl|rfl|rfl|rfl|rfl|rfl|rfl|rfl|rfl|rfl|rfl|rfl|rfl|rfl|rfl|rfl|rfl|rfl|rfl|rfl|rfl|rfl|rfl|rfl|rfl|rfl|rfl|rfl|rfl|rfl;all_goals
  go_in
  go_wp2_with fail
  refine H (c _ _ _ _) ?_
  rintro e w1 ⟨rfl,rfl⟩
  go_wp2
  go_ret
  first
   | exact⟨hQ D,Qg _ _⟩
   | exact⟨hQ D,d _⟩
def Lf(s:ZB)(w:World):WU prog 182 #[Zt s] w λe n=>e=Zr (I .i64 (AV s:Nat))/\Bw w n:=by
 go_in;go_wp2;go_loopw [3] (λi wr=>∃k:Nat,5<=k/\k<=44/\i=I .i64 (k:Int)/\Hid (OR s k (44-k)=AV s)/\Bw w wr) (λi _=>44-(intOf i).toNat);case atStart=>exact⟨5,E,E,D,D,Qg _ _⟩
 case round=>
  obtain⟨k,o,l,rfl,d,f⟩:=hrel;by_cases m:k<44
  .have h:(k:Int)<=43:=E;have g:Hid (WU prog 75 _ wr _):=t7 m wr;cases hq:(lF k==s) with
   | true=>
    have HF:Hid (Ue (I .i64 (k:Int))=Zr (I .i64 ((AV s:Nat):Int))):=by show _=_;rw[<- d.out,show 44-k=(43-k)+1 by omega,Jz hq]
    have j:((lF k).toList==s.toList)=true:=(gU _ _).trans hq;have b:=a8 f;clear hq d f;go_wp2_with fail;refine H g ?_;rintro e w1 ⟨rfl,a⟩;have c:=a8 (b.trans (a.mono b.size));clear a g;go_wp2;go_ret;exact⟨HF,c⟩
   | false=>
    have HF:Hid (OR s (k+1) (44-(k+1))=AV s):=by show _=_;rw[<- d.out,show 44-k=(44-(k+1))+1 by omega,OS hq]
    have j:((lF k).toList==s.toList)=false:=(gU _ _).trans hq;have b:=a8 f;clear hq d f;go_wp2_with fail;refine H g ?_;rintro e w1 ⟨rfl,a⟩;have c:=a8 (b.trans (a.mono b.size));clear a g;go_wp2;go_roundw;case rel=>exact⟨k+1,E,E,ew,HF,c⟩
    case measure=>exact eb
  .have h:¬(k:Int)<=43:=E;have HF:Hid (Ue (I .i64 (0:Int))=Zr (I .i64 ((AV s:Nat):Int))):=by show _=_;rw[<- d.out,show 44-k=0 by omega];rfl
   have b:=a8 f;clear d f;go_wp2;go_ret;exact⟨HF,b⟩
def uY (s:ZB) (w:World) (i:s.size<=maxLen) :
  WU prog 151 #[Zt s] w λe j=>e=Zr (Zb (eM s))/\Bw w j:=by
 have a:Hid (WU prog 22 _ _ _):=kt s w i;have b:Hid (WU prog 182 _ _ _):=Lf s w;have HF:Hid (eM s=(c8 s && (AV s==0) && !(s==bs [121,101,115]) && !(s==bs [110,111]) && !(s==bs [101,110,100]))):=D;have l:=rp s [121,101,115];have m:=rp s [110,111];have n:=rp s [101,110,100];generalize (s==bs [121,101,115])=b1 at *;generalize (s==bs [110,111])=b2 at *;generalize (s==bs [101,110,100])=b3 at *;cases hn:c8 s with
 | false=>rw[hn]at a HF;go_in;go_wp2_with fail;refine H a ?_;rintro e w1 ⟨rfl,rfl⟩;go_wp2;go_ret;exact⟨cY (by rw[HF.out];simp),Qg _ _⟩
 | true=>
  rw[hn]at a HF;by_cases g:AV s=0
  .have d:(AV s==0)=true:=by simp[g]
   rw[d]at HF;rw[g]at b;cases b1<;>cases b2<;>cases b3
   all_goals
    go_in
    go_wp2_with fail
    refine H a ?_
    rintro e w1 ⟨rfl,rfl⟩
    go_wp2_with fail
    refine H b ?_
    rintro e k ⟨rfl,c⟩
    have f:=a8 c
    clear c a b
    go_wp2
    go_ret
    exact⟨cY (by rw[HF.out];rfl),f⟩
  .have d:(AV s==0)=false:=by simp[g]
   have h:(((AV s:Nat):Int)==0)=false:=zE;rw[d]at HF;go_in;go_wp2_with fail;refine H a ?_;rintro e w1 ⟨rfl,rfl⟩;go_wp2_with fail;refine H b ?_;rintro e k ⟨rfl,c⟩;have f:=a8 c;clear c a b;go_wp2;go_ret;exact⟨cY (by rw[HF.out];simp),f⟩
def Ln {S:ZN} {l:List ZB} (x:ZB) (n:cR S w l v) :
  WU prog 148 #[v,Zt x] w λe p=>p=w/\e=Zr (Zb (l.any (λy=>y==x))):=by
 obtain⟨q,cap,rfl,d,o,f⟩:=n;unfold maxLen at d;go_in;go_wp2;go_loop [5] (λi=>∃k:Nat,k<=J l/\i=I .i64 k/\Hid ((l.take k).any (λy=>y==x)=false)) (λi=>J l-(intOf i).toNat);case atStart=>exact⟨0,Q9 _,D,D⟩
 case round=>
  obtain⟨k,r,rfl,c⟩:=hrel;by_cases qf:k<J l
  .obtain⟨b,off,rfl,-,a⟩:=f nS;have m:=a k qf;cases hq:(l[k]==x) with
   | true=>
    have g:=(gU l[k] x).trans hq;have HF:Hid (true=l.any (λy=>y==x)):=by show _=_;symm;rw[List.any_eq_true];exact⟨l[k],QE qf,hq⟩
    clear f a hq c;go_wp2;go_ret;exact⟨D,cY HF⟩
   | false=>
    have g:=(gU l[k] x).trans hq;have HF:Hid ((l.take (k+1)).any (λy=>y==x)=false):=by show _=_;rw[Qq qf,List.any_append,c.out];simp[hq]
    clear f a hq c;go_wp2;go_round;case rel=>exact⟨k+1,E,ew,HF⟩
    case measure=>exact eb
  .have HF:Hid (false=l.any (λy=>y==x)):=by show _=_;have j:=c.out;rw[Xf E]at j;exact j.symm
   clear f o c;go_wp2;go_ret;exact⟨D,cY HF⟩
def K2(k:Nat):List UInt8:=if k=24 then [118,118] else Tf k
def tZ(d:k<44)(w:World):WU prog 73 #[I .i64 (k:Int)] w λe f=>e=Zr (Zt (bs (K2 k)))/\f=w:=by
 have c:Hid (∀x a b w,WU prog 51 #[I .i64 x,I .i64 a,I .i64 b] w _):=λx a b w=>fx x a b w;rcases sK d with rfl|rfl|rfl|rfl|rfl|rfl|rfl|rfl|rfl|rfl|rfl|rfl|rfl|rfl|rfl|rfl|rfl|rfl|rfl|rfl|rfl|rfl|rfl|rfl|rfl|rfl|rfl|rfl|rfl|rfl|rfl|rfl|rfl|rfl|rfl|rfl|rfl|rfl|rfl|rfl|rfl|rfl|rfl|rfl
 all_goals
  go_in
  go_wp2_with fail
  first
   | (go_ret;exact⟨hQ D,D⟩)
   | (refine H (c _ _ _ _) ?_
      rintro e w1 ⟨rfl,rfl⟩
      go_wp2
      go_ret
      exact⟨hQ D,D⟩)
def CC(s:ZB)(L b c:Nat)(a:Bool):Prop:=
 (L=0/\c=b/\a=false)∨(¬L=0/\((dq [44] (s.data.toList.drop b)=some (s.data.toList.drop (b+1))/\b+1<=s.size/\c=b+1/\a=false)∨(dq [44] (s.data.toList.drop b)=none/\c=b/\a=true)))
def Nb(s:ZB)(j c:Nat)(b a:Bool):Prop:=
 (dq [58] (s.data.toList.drop j)=some (s.data.toList.drop (j+1))/\j+1<=s.size/\c=j+1/\a=b)∨(dq [58] (s.data.toList.drop j)=none/\c=j/\a=true)
def rX(m n:Nat)(s:ZB)(i:Nat)(a:Bool)(t:K m)(c:Nat)(b:Bool):Prop:=
 i<=c/\(b=false->a=false/\i<c/\c<=s.size)/\(a=false->c<=s.size+n)/\(a=true->c=i) /\
  (∀(t0:K m) d,a=false->s.data.toList.drop i=dm m t0++d->dj m t0 (7-(n:Int))=true->t=t0/\b=false/\c=i+J (dm m t0))
def lj(m n:Nat)(s:ZB)(i:Nat)(g:List ZB)(f:List (K m))(e:Nat)(b:Bool):Prop:=
 i<=e/\(b=false->i<e/\e<=s.size)/\e<=s.size+n/\J f<=e+(if b=true then 1 else 0)/\J g=J f /\
  ∀(c:List ZB)(a:List (K m)) d,J c=J a->(∀x,x∈c->c8 x=true)->s.data.toList.drop i=123 :: (cX (dh c (a.map (dm m)))++125 :: d)->(∀k,k∈a->dj m k (7-(n:Int))=true) ->
   ∃k,k<=J a/\f=a.take k/\g=c.take k/\b=false/\s.data.toList.drop e=dH (decide (k=0)) ((dh c (a.map (dm m))).drop k)++125 :: d
def Hn(h:c8 x=true):∃c r,x.data.toList=c :: r/\dz c=true:=by
 have a:1<=x.size:=by simp only[c8,Qc,Qk]at h;exact E
 cases hd:x.data.toList with
 | nil=>
  have b:J x.data.toList=0:=by rw[hd];rfl
  have d:J x.data.toList=x.size:=zS;omega
 | cons c r=>exact⟨c,r,D,i7 h c (by rw[hd];exact zS)⟩
def Cz(a:List ZB)(l:List (List UInt8))(k:Nat)(b:k<J a)(hl:k<J l)(h:k<J (dh a l)):(dh a l)[k]=a[k].data.toList++58 :: l[k]:=by
 induction a generalizing l k with
 | nil=>simp at b
 | cons x r c=>
  cases l with
  | nil=>simp at hl
  | cons y t=>
   cases k with
   | zero=>rfl
   | succ k=>simpa [dh] using c t k (by simpa using b) pd (by simpa [dh] using h)
def GK {u:List (K m)} {t y:Nat} {d jJ:Bool} {t2:K m} (N:lj m n s i ns u i' false) (v:¬ cF s i'=125) (hc:CC s (J u) i' i1 bad1)
  (vk:Nb s (i1+J ((s.data.toList.drop i1).takeWhile dz)) t bad1 d) (hp:rX m n s t d t2 y jJ)
  (T:i1+J ((s.data.toList.drop i1).takeWhile dz)<=s.size) :
  lj m n s i (ns++[bs ((s.data.toList.drop i1).takeWhile dz)]) (u++[t2]) y jJ/\(if jJ=true then 0 else s.size+1-y)<s.size+1-i':=by
 obtain⟨q8,z,qa,B,M,L⟩:=N;obtain⟨qc,p2,W,X,q5⟩:=hp;have z:=z D;have B:J u<=i':=by simpa using B
 have Q:i'<=i1:=by exact PF
 have R:i1<=t/\t<=s.size:=by rcases vk with ⟨-,h,qq,-⟩|⟨-,h,-⟩<;>omega
 refine⟨⟨E,λh=>⟨E,(p2 h).2.2⟩,?_,?_,by simp[M],λb a f qe p O C=>?_⟩,?_⟩
 .cases d with
  | false=>exact W D
  | true=>have:=X D;omega
 .rw[Qi,QM];exact Pw
 .obtain⟨k,F,o,x,-,hd⟩:=L b a f qe p O C;have S:J u=k:=by rw[o,Xj];omega
  have V:J (dh b (a.map (dm m)))=J a:=by rw[eY _ _ z8];simp
  have qf:k<J a:=by refine Qx λP=>v ?_;have:(dh b (a.map (dm m))).drop k=[]:=zE;rw[this]at hd;unfold cF;rw[hd];rfl
  have j:k<J (dh b (a.map (dm m))):=E;have l:k<J b:=E;rw[Qy j,Cz _ _ _ l sY j,Xe,dH,QZ]at hd;have xn:bad1=false/\s.data.toList.drop i1=b[k].data.toList++58 :: (dm m a[k]++(dH false ((dh b (a.map (dm m))).drop (k+1))++125 :: f)):=by
   by_cases qE:k=0;·simp only[qE,XU,XX,QZ,QH]at hd;exact Yf
   .simp only[qE,Zq,Xu,Zf,QH,QZ]at hd;exact TT
  have w:=p b[k] zS;have q:(s.data.toList.drop i1).takeWhile dz=b[k].data.toList:=by rw[xn.2];exact gW (i7 w) (by intro c r e;cases e;decide)
  have vY:s.data.toList.drop (i1+J ((s.data.toList.drop i1).takeWhile dz))=58 :: (dm m a[k]++(dH false ((dh b (a.map (dm m))).drop (k+1))++125 :: f)):=by rw[q,<- Xk,xn.2,ZQ]
  have g:d=false/\s.data.toList.drop t=dm m a[k]++(dH false ((dh b (a.map (dm m))).drop (k+1))++125 :: f):=by exact T2
  have⟨q7,q6,ql⟩:=q5 a[k] _ g.1 g.2 (C _ zS);refine⟨k+1,E,?_,?_,q6,?_⟩;·rw[Qq qf,<- o,q7]
  .rw[Qq l,<- x,q,nw]
  .rw[ql,<- Xk,g.2,ZQ];exact dS
 .exact Py
def i6 {t:K (m+1)} (h:dj (m+1) t d=true) :
  (t=(⟨1,[],[]⟩:Kd (K m))/\dm (m+1) t=[110,117,109])∨(t=(⟨2,[],[]⟩:Kd (K m))/\dm (m+1) t=[116,101,120,116])∨(t=(⟨3,[],[]⟩:Kd (K m))/\dm (m+1) t=[102,108,97,103]) ∨
  (∃x,t=(⟨4,[],[x]⟩:Kd (K m))/\dj m x (d+1)=true/\dm (m+1) t=91 :: (dm m x++[93]))∨(∃x,t=(⟨6,[],[x]⟩:Kd (K m))/\dj m x (d+1)=true/\dm (m+1) t=63 :: dm m x) ∨
  (∃na a,t=(⟨5,na,a⟩:Kd (K m))/\J na=J a/\(∀x,x∈na->c8 x=true)/\(∀k,k∈a->dj m k (d+1)=true)/\dm (m+1) t=123 :: (cX (dh na (a.map (dm m)))++[125])):=by
 simp only[dj,Qc]at h;have ha:eh (Kd.k t) (Kd.q t) (J (Kd.o t))=true:=h.1.2;have f:=Qo.1 h.2;obtain⟨e,na,a⟩:Kd (K m):=t;simp only at ha f;unfold eh at ha;have one:(J a:Int)=1->∃x,a=[x]/\dj m x (d+1)=true:=by
  intro p;match a,p,f with
  | [x],_,f=>exact⟨x,D,f x zS⟩
 by_cases g:e=1;·rw[Qm g]at ha;simp only[Qc,QP]at ha;have b:na=[]:=Qj we;have c:a=[]:=Qj Cm;subst b c g;exact .inl ⟨D,Ac⟩
 rw[Qd g]at ha;by_cases i:e=2;·rw[Qm i]at ha;simp only[Qc,QP]at ha;have b:na=[]:=Qj we;have c:a=[]:=Qj Cm;subst b c i;exact .inr (.inl ⟨D,Ac⟩)
 rw[Qd i]at ha;by_cases j:e=3;·rw[Qm j]at ha;simp only[Qc,QP]at ha;have b:na=[]:=Qj we;have c:a=[]:=Qj Cm;subst b c j;exact .inr (.inr (.inl ⟨D,Ac⟩))
 rw[Qd j]at ha;by_cases l:e=4;·rw[Qm l]at ha;simp only[Qc,QP]at ha;have b:na=[]:=Qj we;have⟨x,c,q⟩:=one ha.2;subst b c l;exact .inr (.inr (.inr (.inl ⟨x,D,q,by simp[dm,mK]⟩)))
 rw[Qd l]at ha;by_cases n:e=5;·rw[Qm n]at ha;simp only[Qc,QP]at ha;have p:J na=J a:=we;subst n;exact .inr (.inr (.inr (.inr (.inr ⟨na,a,D,p,rK ha.2,E,Ac⟩))))
 rw[Qd n]at ha;by_cases o:e=6;·rw[Qm o]at ha;simp only[Qc,QP]at ha;have b:na=[]:=Qj we;have⟨x,c,q⟩:=one ha.2;subst b c o;exact .inr (.inr (.inr (.inr (.inl ⟨x,D,q,by simp[dm,mK]⟩))))
 .rw[Qd o]at ha;cases ha
def fX{r:List UInt8}(h:s.data.toList.drop i=c :: r):cF s i=c:=by unfold cF;rw[h];rfl
def tH(n:Nat):(7-((n+1:Nat):Int))+1=7-(n:Int):=E
def nD {so:Int} (j:i<=s.size) (g:(dq x.data.toList (s.data.toList.drop i)=some (s.data.toList.drop (i+x.size))/\i+x.size<=s.size/\i'=i+x.size/\bad'=false)∨(dq x.data.toList (s.data.toList.drop i)=none/\i'=i/\bad'=true))
  (k:0<x.size) (a:∀(t0:K (m+1)) post,s.data.toList.drop i=dm (m+1) t0++post->dj (m+1) t0 (7-((n+1:Nat):Int))=true->t0=(⟨so,[],[]⟩:Kd (K m))/\dm (m+1) t0=x.data.toList) :
  rX (m+1) (n+1) s i false (⟨so,[],[]⟩:Kd (K m)) i' bad':=by
 rcases g with ⟨c,h,rfl,rfl⟩|⟨c,rfl,rfl⟩;·refine⟨E,zE,E,zS,λt0 post _ b d=>?_⟩;have⟨f,e⟩:=a t0 post b d;exact⟨f.symm,D,by rw[e];simp⟩
 .refine⟨E,zS,E,E,λt0 post _ b d=>?_⟩;have⟨f,e⟩:=a t0 post b d;rw[b,e,ie]at c;cases c
def Jt(h:cF s i=110){t0:K (m+1)}(g:s.data.toList.drop i=dm (m+1) t0++post)(j:dj (m+1) t0 d=true):t0=(⟨1,[],[]⟩:Kd (K m))/\dm (m+1) t0=[110,117,109]:=by
 rcases i6 j with ⟨e,c⟩|⟨e,c⟩|⟨e,c⟩|⟨x,e,f,c⟩|⟨x,e,f,c⟩|⟨a,b,e,f,k,l,c⟩;·exact⟨e,c⟩
 all_goals (rw[c]at g;rw[fX g]at h;exact absurd h zC)
def Fs(g:cF s i=116){t0:K (m+1)}(f:s.data.toList.drop i=dm (m+1) t0++post)(j:dj (m+1) t0 d=true):t0=(⟨2,[],[]⟩:Kd (K m))/\dm (m+1) t0=[116,101,120,116]:=by
 rcases i6 j with ⟨e,c⟩|⟨e,c⟩|⟨e,c⟩|⟨x,e,h,c⟩|⟨x,e,h,c⟩|⟨a,b,e,h,k,l,c⟩;·rw[c]at f;rw[fX f]at g;exact absurd g zC
 .exact⟨e,c⟩
 all_goals (rw[c]at f;rw[fX f]at g;exact absurd g zC)
def Ek(g:cF s i=102){t0:K (m+1)}(f:s.data.toList.drop i=dm (m+1) t0++post)(j:dj (m+1) t0 d=true):t0=(⟨3,[],[]⟩:Kd (K m))/\dm (m+1) t0=[102,108,97,103]:=by
 rcases i6 j with ⟨e,c⟩|⟨e,c⟩|⟨e,c⟩|⟨x,e,h,c⟩|⟨x,e,h,c⟩|⟨a,b,e,h,k,l,c⟩;iterate 2
  .rw[c]at f;rw[fX f]at g;exact absurd g zC
 .exact⟨e,c⟩
 all_goals (rw[c]at f;rw[fX f]at g;exact absurd g zC)
def LF{x:K m}(k:cF s i=63)(hp:rX m n s (i+1) false x i' bad'):rX (m+1) (n+1) s i false (⟨6,[],[x]⟩:Kd (K m)) i' bad':=by
 obtain⟨z,o,p,B,q⟩:=hp;refine⟨E,λh=>⟨D,E,(o h).2.2⟩,λ_=>by have:=p D;omega,zS,λt0 d _ g l=>?_⟩;rcases i6 l with ⟨e,c⟩|⟨e,c⟩|⟨e,c⟩|⟨y,e,f,c⟩|⟨y,e,f,c⟩|⟨a,b,e,f,v,w,c⟩;case inr.inr.inr.inr.inl=>
  rw[c]at g;rw[tH]at f;have j:s.data.toList.drop (i+1)=dm m y++d:=by rw[<- Xk,g];rfl
  have⟨r,t,u⟩:=q y d D j f;exact⟨by rw[e,r],t,by rw[c,u,Qs];omega⟩
 all_goals (rw[c]at g;rw[fX g]at k;exact absurd k zC)
def ym {x:K m} (o:cF s i=91) (hp:rX m n s (i+1) false x i1 bad1)
  (j:(dq [93] (s.data.toList.drop i1)=some (s.data.toList.drop (i1+1))/\i1+1<=s.size/\i'=i1+1/\bad'=bad1)∨((bad1=false->dq [93] (s.data.toList.drop i1)=none)/\i'=i1/\bad'=true)):rX (m+1) (n+1) s i false (⟨4,[],[x]⟩:Kd (K m)) i' bad':=by
 obtain⟨O,P,p,Q,B⟩:=hp;have p:=p D;refine⟨?_,λh=>⟨D,?_,?_⟩,λ_=>?_,λh=>eI,λt0 d _ he z=>?_⟩;iterate 2
  .rcases j with ⟨-,-,h,-⟩|⟨-,h,-⟩<;>omega
 .rcases j with ⟨-,l,v,-⟩|⟨-,-,l⟩;·omega
  .rw[l]at h;cases h
 .rcases j with ⟨-,-,h,-⟩|⟨-,h,-⟩<;>omega
 rcases i6 z with ⟨e,c⟩|⟨e,c⟩|⟨e,c⟩|⟨y,e,g,c⟩|⟨y,e,g,c⟩|⟨a,b,e,g,M,N,c⟩;case inr.inr.inr.inl=>
  rw[c]at he;rw[tH]at g;have f:s.data.toList.drop (i+1)=dm m y++(93 :: d):=FSq;have⟨C,q,r⟩:=B y _ D f g;have w:s.data.toList.drop i1=93 :: d:=by rw[r,<- Xk,f,ZQ]
  rcases j with ⟨k,L,t,u⟩|⟨k,-⟩;·exact⟨by rw[e,C],by rw[u,q],by rw[c,t,r];simp;omega⟩
  .have:=k q;rw[w,di]at this;cases this
 all_goals (rw[c]at he;rw[fX he]at o;exact absurd o zC)
def NW {R:List (K m)} (v:¬ cF s i=110) (w:¬ cF s i=116) (x:¬ cF s i=102) (z:¬ cF s i=63) (B:¬ cF s i=91)
  (X:lj m n s i ns R i' bad') (jd:bad'=false->cF s i'=125):rX (m+1) (n+1) s i false (⟨5,ns,R⟩:Kd (K m)) (i'+1) bad':=by
 obtain⟨ql,V,q7,qa,F,W⟩:=X;have q:bad'=false->i'<s.size:=λhb=>by exact PY
 refine⟨E,λhb=>⟨D,E,q hb⟩,E,zS,λt0 h _ d qq=>?_⟩;rcases i6 qq with ⟨l,f⟩|⟨l,f⟩|⟨l,f⟩|⟨y,l,u,f⟩|⟨y,l,u,f⟩|⟨b,a,l,u,S,qc,f⟩;case inr.inr.inr.inr.inr=>
  rw[f]at d;have p:s.data.toList.drop i=123 :: (cX (dh b (a.map (dm m)))++125 :: h):=by rw[d];simp
  have⟨k,Q,L,M,hb,P⟩:=W b a h u S p (λk Q=>by have:=qc k Q;rwa [tH]at this);have zP:=jd hb;have N:J (dh b (a.map (dm m)))=J a:=by rw[eY _ _ (by simpa using u)];simp
  have t:k=J a:=by
   refine Qx λq5=>?_;have qf:k<J a:=E;have g:k<J (dh b (a.map (dm m))):=E;have C:k<J b:=E;unfold cF at zP;rw[P,Qy g,Cz _ _ _ C sY g,dH]at zP;have⟨c,r,e,o⟩:=Hn (S b[k] zS);by_cases j:k=0;·simp only[j,XU,XX]at zP;simp only[j]at e;rw[e]at zP;simp only[QH,XA]at zP;exact (BU o).2.1 zP
   .simp only[j,Zq,Xu,Zf,QH,XA]at zP;exact absurd zP zC
  refine⟨?_,hb,?_⟩;·rw[l,M,L,t,QG,<- u,QG]
  .have q6:=(V hb).2;have qf:=q hb;have O:=Xc Uh P;have T:=Xc Uh p;rw[t,<- N,Zz]at O;rw[f];simp[dH]at O T ⊢;omega
 .rw[f]at d;exact absurd (fX d) v
 .rw[f]at d;exact absurd (fX d) w
 .rw[f]at d;exact absurd (fX d) x
 .rw[f]at d;exact absurd (fX d) B
 .rw[f]at d;exact absurd (fX d) z
def x7 (l:i<=s.size) (j:(dq [123] (s.data.toList.drop i)=some (s.data.toList.drop (i+1))/\i+1<=s.size/\i'=i+1/\bad'=false)∨(dq [123] (s.data.toList.drop i)=none/\i'=i/\bad'=true)) :
  lj m n s i [] [] i' bad':=by
 rcases j with ⟨c,k,rfl,rfl⟩|⟨c,rfl,rfl⟩;·refine⟨E,E,E,zS,D,λg f b a e d h=>⟨0,E,zS,zS,D,?_⟩⟩;rw[<- Xk,d];simp[gN]
 .refine⟨E,zS,E,zS,D,λg f b a e d h=>?_⟩;rw[d,di]at c;cases c
def ey(m n:Nat)(w:World)(R:Nat)(s:ZB)(i:Nat)(c:Bool)(e:Ending)(w':World):Prop:=
 cH R w w' /\ ∃(t:K m)(c0 c1 c2:Value)(d:Nat)(a:Bool),e=Zr (.agg #[c0,c1,c2])/\cW (λb=>w.heap.size<=b/\b<w'.heap.size) w' m t c0 c1 c2/\d9 w' R s d a/\rX m n s i c t d a
def ni(n:Nat):Prop:=∀(m R:Nat)(s:ZB)(i:Nat)(a:Bool)(w:World),n+1<=m->d9 w R s i a->s.size<=10000->(a=false->i<=s.size)->i<=20000 ->
 WU prog 183 #[.pointer (b5 R 0),I .i64 (7-(n:Int))] w (ey m n w R s i a)
def lY {t:K m} {g0 g1 g2:Value} (a:cH R w W) (k:R<w.heap.size) (g:d9 W R s i' bad') (f:cW (λb=>w.heap.size+1<=b/\b<W.heap.size) W m t g0 g1 g2) (e:rX m n s i bad t i' bad') :
  ey m n w R s i bad (Zr (.agg #[g0,g1,g2])) (gh W w.heap.size 0 g0 g1 g2):=by have q:∀b,b≠w.heap.size->(gh W w.heap.size 0 g0 g1 g2).heap[b]?=W.heap[b]?:=λb h=>gL h;have j:(gh W w.heap.size 0 g0 g1 g2).heap.size=W.heap.size:=kV;exact⟨⟨a.os,a.tape,a.output,by rw[j];exact a.size,λb d c=>(q b E).trans (a.block b d c)⟩,t,_,_,_,i',bad',D,f.keep FN E,(q R E).trans g,e⟩
def leftRK(w:World)(R:Nat)(a:Nat):Nat:=match a7 w R 2 with|some (Zb true)=>0|_=>a+1-atOf w R
def d9.leftRK(h:d9 w R s i b)(a:Nat):leftRK w R a=if b=true then 0 else a+1-i:=by unfold Go.Proofs.YtkcollkaldkccaaGreatDoor.leftRK;rw[h.cell2,h.atOf];cases b<;>simp
def EN(h:cF s i=c)(a:c≠0):dq [c] (s.data.toList.drop i)=some (s.data.toList.drop (i+1))/\i<s.size:=by
 have qf:i<s.size:=Qx λb=>a (by rw[<- h];exact ir s i E);have d:i<J s.data.toList:=sY;refine⟨?_,qf⟩;have e:s.data.toList.drop i=c :: s.data.toList.drop (i+1):=by rw[Qy d];congr 1;rw[<- h,ky qf];simp[QX]
 rw[e,di]
def RM (x:ZB) (h:d9 w R s i bad) (l:x.size<=100) (j:s.size<i+x.size) (f:i<=20000) :
  WU prog 219 #[.pointer (b5 R 0),Zt x] w λe d=>e=Zr (.tuple #[])/\cH R w d/\d9 d R s i true:=by have c0:=h.cell0;have c1:=h.cell1;have c2:=h.cell2;have f2:=h.free 2;have b:∀m,d9 ((w.drewN m).setCell ⟨R,2,none⟩ (Zb true)) R s i true:=λm=>(h.drewN m).set2 true;have c:∀m,cH R w ((w.drewN m).setCell ⟨R,2,none⟩ (Zb true)):=λm=>((cH.refl R w).drewN m).trans (cH.set R 2 _ _);have a:Hid ((∀m,d9 _ _ _ _ _)/\(∀m,cH _ _ _)):=⟨b,c⟩;clear h b c;have k:IntKind.i64.wrap ((i:Int)+(x.size:Int))=(i:Int)+(x.size:Int):=kG;have g:decide ((s.size:Int)<(i:Int)+(x.size:Int))=true:=zE;go_in;go_wp2;go_quiet (fail);go_wp2;refine XQ (results_none D _ _ _) D ?_;exact⟨D,a.2 _,a.1 _⟩
def Hh {B:Nat} {wr:World} {f:List (K m)} {k i:Value} (h:gI R X m w wr 5 ns f k i) (hW:∀ b,X<b->W.heap[b]?=wr.heap[b]?) (s:wr.heap.size<=W.heap.size) (hl:J ns<=20000) (o:J f<=20000) (r:B<=X) :
  cW (λb=>B<=b/\b<W.heap.size) W (m+1) (⟨5,ns,f⟩:Kd (K m)) (I .i64 5) k i:=by
 have⟨t,c,e⟩:=h.o;have qS:=cO h.q;have a:=cO c;refine⟨D,D,?_,?_⟩;·exact qcQ
 .refine oh (cV c λg hg=>hW g (by have:=a g hg;omega)) o (λg hg=>?_) λj n=>?_;·have:=a g hg;exact E
  .have⟨c0,c1,c2,l,d⟩:=e j n;refine⟨c0,c1,c2,l,d.keep (λb hb=>hW b pe) (λb hb=>?_)⟩;have p:=hb.1;have q:=hb.2.1;exact⟨E,E⟩
def gI.start:gI R w.heap.size m w (w.alloc (.cells #[I .i64 5,.slice none 0 0,.slice none 0 0] 177)) 5 [] [] (.slice none 0 0) (.slice none 0 0):=
 ⟨cH.alloc _ _ _,Qh _ _,QV _ _ _ _,zS,⟨[],QV _ _ _ _,zS⟩,zC⟩
def E4{z:Nat}(h:W.ownsRow (X+1) e z v k xs)(c:R<X)(a:cH R W w2)(o:Obj):(w2.alloc o).ownsRow (X+1) e z v k xs:=
 cV h λg d=>by
  have b:=cO h g d
  have f:=a.size
  rw[Qf _ _ _ E]
  exact a.block g b.2 E
def B6 {z:Nat} {u:Value} {j:Int} {q:Nat} (a:d9 w2 R s j b) (h:W.ownsRow (X+1) e z v k xs) (c:R<X) (d:(w2.alloc o).grownBy w3 v.ownBlock) :
  d9 (w3.setCell ⟨X,q,none⟩ u) R s j b:=by have f:=a.lt;unfold d9 at a ⊢;rw[Qr _ _ _ _ (by show R≠X;omega),d.block R zE (λe=>by have:=cO h R e.symm;omega),Qf _ _ _ f];exact a
def wU{z:Nat}(h:W.ownsRow (X+1) e z v k xs)(c:X<W.heap.size)(b:R<X)(a:cH R W w2)(d:(w2.alloc o).grownBy w3 v.ownBlock):w3.heap[X]?=W.heap[X]?:=by have f:=a.size;rw[d.block X zE (λe=>by have:=cO h X e.symm;omega),Qf _ _ _ E];exact a.block X c E
