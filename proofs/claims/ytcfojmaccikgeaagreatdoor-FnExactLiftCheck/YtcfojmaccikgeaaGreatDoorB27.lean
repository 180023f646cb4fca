import Derived.Test.YtcfojmaccikgeaaGreatDoorSL5
open Go.Value renaming slice→Zs,int→Zi,string→Zt
open Go.IntKind renaming i64→Zk
open Option renaming none→Zn,some→Zo
namespace Go.Proofs.YtcfojmaccikgeaaGreatDoor
open Go.RowKit Go.Proofs.Tryz
set_option maxRecDepth 100000
set_option maxHeartbeats 16000000
theorem wN (S:ZP) (m:Nat) (n:Nd (T m)) (na ka:ZO) (c kc:Nat) (a:Bool) (w:World) (i:fL S w n.names (Zs na n.names.length c)) (g:n.kids.length<=maxLen) (j:Bd S w) (o:n.text.size<=1048576) :
  Calls prog 95 #[.agg #[Zi Zk n.sort,Zi Zk n.num,Zt n.text,Zs na n.names.length c,Zs ka n.kids.length kc],.bool a] w fun e p=>e=.returned (.bool (iS n a))/\Bw w p:=by
 by_cases h:(1<=n.sort/\n.sort<=43)/\a=decide (36<=n.sort);case neg=>exact yG m n na ka c kc a w h
 obtain⟨l,d⟩:=h;by_cases b:n.sort=24
 ·obtain⟨s,num,text,names,kids⟩:=n;simp only at b d;subst b;obtain rfl:a=false:=by rw[d];rfl
  have:=uN S m num text names kids na ka c kc w i j;have e:iS (⟨24,num,text,names,kids⟩:Nd (T m)) false=((num==0) && text.toList.isEmpty && gX names && (names.length==kids.length) && !(names.any (fun y=>y==bs [101,110,100]))):=by unfold iS;simp
  rw[e];exact this
 ·obtain⟨k,f⟩:∃k:Nat,n.sort=(k:Int):=⟨n.sort.toNat,om⟩;have:=yH S m n na ka c kc k a (by rw[d,f]) w f om om om i g j o;have e:iS n a=((n.kids.length==(jr k).length) && gr n (iR k)):=by unfold iS;rw[decide_eq_true l,d,if_neg b,show n.sort.toNat=k by omega];simp
  rw[e,f];exact this
theorem pm:yielded.match_1 (fun _=>Option Bool) (Zo undef) (fun b=>Zo b) (fun _=>Zn)=Zn:=rfl
def ip(m:Nat)(t:T m)(a:Bool)(d:Int):Int:=if kO m t a d=true/\d9 m t<=200 then (d9 m t:Int) else -1
theorem DT(m:Nat)(t:T m)(a:Bool)(d:Int): -1<=ip m t a d/\ip m t a d<=200:=by unfold ip;split<;>omega
theorem A0(m:Nat)(t:T m)(a:Bool)(d:Int)(h:0<=ip m t a d):ip m t a d=d9 m t/\kO m t a d=true:=by
 unfold ip at h ⊢;by_cases b:kO m t a d=true/\d9 m t<=200;·rw[if_pos b];exact⟨rfl,b.1⟩
 ·rw[if_neg b]at h;omega
theorem Db{m:Nat}{t:T (m+1)}{a:Bool}{d:Int}(h:kO (m+1) t a d=true)(i:Nat)(hi:i<(Nd.kids t).length):kO m (Nd.kids t)[i] (im (Nd.sort t).toNat i) (d+1)=true:=by simp only[kO,Bool.and_eq_true,List.all_eq_true]at h;exact h.2 ((Nd.kids t)[i],i) (by rw[List.mem_zipIdx_iff_getElem?];simp[hi])
theorem A1(m:Nat)(t:T (m+1))(a:Bool)(d:Int)(i:Nat)(hi:i<(Nd.kids t).length)(h:ip m (Nd.kids t)[i] (im (Nd.sort t).toNat i) (d+1)<0):ip (m+1) t a d = -1:=by unfold ip;rw[if_neg];rintro ⟨b,c⟩;have e:=Db b i hi;have f:=gK (fun k=>d9 m k) (Nd.kids t) _ (List.getElem_mem hi);simp only[d9]at c;unfold ip at h;rw[if_pos ⟨e,om⟩]at h;omega
theorem rC(m:Nat)(t:T (m+1))(a:Bool)(d:Int)(k:Nat)(h:200<1+b4 (fun k=>d9 m k) ((Nd.kids t).take k)):ip (m+1) t a d = -1:=by unfold ip;rw[if_neg];rintro ⟨-,b⟩;have:=iq (fun k=>d9 m k) ((Nd.kids t).take k) ((Nd.kids t).drop k);rw[List.take_append_drop]at this;simp only[d9]at b;omega
theorem A2 (m:Nat) (t:T (m+1)) (a:Bool) (d:Int) (h:(decide (d<=24) && iS (show Nd (T m) from t) a)=true) (b:∀ i (hi:i<(Nd.kids t).length),kO m (Nd.kids t)[i] (im (Nd.sort t).toNat i) (d+1)=true) (g:1+b4 (fun k=>d9 m k) (Nd.kids t)<=200) :
  ip (m+1) t a d=1+(b4 (fun k=>d9 m k) (Nd.kids t):Int):=by
 unfold ip;rw[if_pos];·simp only[d9];omega
 ·refine⟨?_,by simp only[d9];omega⟩;simp only[kO,h,Bool.true_and,List.all_eq_true];intro x f;have c:=List.mem_zipIdx f;have hi:x.2<(Nd.kids t).length:=om;have:=b x.2 hi;have e:x.1=(Nd.kids t)[x.2]:=by simpa using c.2.2
  rw[e];exact this
theorem vG(m:Nat)(t:T (m+1))(a:Bool)(d:Int)(h:(decide (d<=24) && iS (show Nd (T m) from t) a)=false):ip (m+1) t a d = -1:=by unfold ip;rw[if_neg];rintro ⟨b,-⟩;simp only[kO,h,Bool.false_and]at b;cases b
def qy(m:Nat):Prop:=∀(S:ZP)(t:T m)(c0 c1 c2 c3 c4:Value)(a:Bool)(d:Int)(w:World),fT S w m t c0 c1 c2 c3 c4->(Bd S w)->jR m t<=1048576->1<=d->d<=25 ->
 Calls prog 71 #[.agg #[c0,c1,c2,c3,c4],.bool a,Zi Zk d] w fun e b=>e=.returned (Zi Zk (ip m t a d))/\Bw w b
theorem Ae{α:Type}(n:Nd α)(a:Bool)(h:iS n a=true)(b:n.sort≠24):n.kids.length=(jr n.sort.toNat).length:=by unfold iS at h;rw[if_neg b]at h;simp only[Bool.and_eq_true,beq_iff_eq]at h;exact h.2.1
theorem FZ(k i:Nat)(a:k≠24)(hi:i<(bs (xP k)).size):(((bs (xP k))[i]'hi).toNat:Int)=97↔im k i=true:=by
 have b:i<(IG k).length:=by rw[gq]at hi;unfold xP at hi;rw[if_neg a]at hi;exact hi
 have e:(bs (xP k))[i]'hi=(IG k)[i]:=by rw[sS];unfold xP;simp only[if_neg a]
 rw[e];unfold im;rw[decide_eq_true a,Bool.true_and];simp only[List.getD_eq_getElem?_getD,List.getElem?_eq_getElem b,Option.getD_some,beq_iff_eq];constructor;·intro h;exact UInt8.toNat_inj.1 (by rw[(by omega:((IG k)[i]).toNat=97)];rfl)
 ·intro h;rw[h];rfl
theorem uO(m:Nat)(hn:qy m):qy (m+1):=by
 intro S t c0 c1 c2 c3 c4 f d w ht M G aF aG;obtain⟨rfl,rfl,rfl,hs,aM,aN,h3,h4,⟨na,nl,nc,rfl,aD⟩,⟨ka,kl,Z,rfl,aE⟩⟩:=ht;obtain⟨_,_,hv,-⟩:=id h3;cases hv
 obtain⟨_,_,hv,N,o⟩:=id h4;cases hv
 have aw:(Nd.text t).size<=1048576:=by simp only[jR]at G;omega
 have ao:Hid (∀k (h:k<(Nd.kids t).length),jR m (Nd.kids t)[k]<=1048576):=fun k h=>by have:=gK (fun k=>jR m k+1) (Nd.kids t) _ (List.getElem_mem h);simp only[jR]at G;omega
 clear G;have D:=(Below.refl w.heap.size w).alloc (Nat.le_refl _) (.cells #[Zi Zk (Nd.sort t),Zi Zk (Nd.num t),Zt (Nd.text t),Zs na (Nd.names t).length nc,Zs ka (Nd.kids t).length Z] 40);by_cases Q:d<=24;case neg=>have HF:Hid (ip (m+1) t f d = -1):=vG m t f d (by simp[Q]);go_in;go_wp2;go_ret;exact⟨fJ HF.out.symm,D⟩
 have ai:=h3.keep (a6 D M) (fun _ h=>h);have HC:Hid (Calls prog 95 _ _ _):=wN S m (show Nd (T m) from t) na ka nc Z f _ ai N (fun b C=>by have:=M b C;simp;omega) aw;have hK:=h4.keepN (a6 D M) (fun _ h=>h);have HD:Hid (d<=24):=Q;unfold maxLen at N;go_in;go_wp2_with fail;refine HC.out.mono ?_;rintro e w1 ⟨rfl,E⟩;have ay:=E.size;simp at ay;have J:=b5 D zS E;obtain⟨m0,m1,m2,m3,m4⟩:=fZ ((E.block w.heap.size zS).trans (heap_alloc_last w _));have aq:=hK.keepN (a6 E (fun b C=>by have:=M b C;simp;omega)) (fun _ h=>h);clear D ai HC hK E h3 h4 o;cases hal:iS (show Nd (T m) from t) f with
 | false=>have HF:Hid (ip (m+1) t f d = -1):=vG m t f d (by rw[hal];simp);clear hal;go_wp2;go_ret;exact⟨fJ HF.out.symm,J⟩
 | true=>
  have ak:Hid ((decide (d<=24) && iS (show Nd (T m) from t) f)=true):=by show _=_;rw[hal];simp[Q]
  have hr:1<=Nd.sort t/\Nd.sort t<=43:=by have h:=hal;unfold iS at h;simp only[Bool.and_eq_true,decide_eq_true_eq]at h;exact h.1.1
  obtain⟨k,hk⟩:∃k:Nat,Nd.sort t=(k:Int):=⟨(Nd.sort t).toNat,om⟩;have ag:k<44:=om;have U:(Nd.sort t).toNat=k:=om;have an:Hid (k≠24->(Nd.kids t).length=(bs (xP k)).size):=fun p=>by have:=Ae (show Nd (T m) from t) f hal (by show Nd.sort t≠24;omega);rw[wI k p,<- U];exact this
  have am:Hid (∀w,Calls prog 91 #[Zi Zk (k:Int)] w _):=fun w=>nX k ag w;obtain⟨_,_,au,-,o⟩:=aq;cases au
  have al:Hid (∀i (hi:i<(bs (xP k)).size),k≠24->((((bs (xP k))[i]'hi).toNat:Int)==97)=im k i):=fun i hi p=>by have:=FZ k i p hi;rw[Bool.eq_iff_iff,beq_iff_eq];exact this
  have aa:Hid (k=24->∀i,im k i=false):=fun h i=>by subst h;simp[im]
  have aB:=a7 hk;have ac:=a7 U;rw[hk]at m0;rw[hk];clear hal hr hk U;generalize bs (xP k)=q at *;go_wp2_with fail;refine (am.out _).mono ?_;rintro e Y ⟨rfl,rfl⟩;go_wp2;go_loopw [8,9] (fun a i wr=>∃ j:Nat,j<=(Nd.kids t).length/\i=Zi Zk j/\a=Zi Zk (1+(b4 (fun k=>d9 m k) ((Nd.kids t).take j):Int))/\1+b4 (fun k=>d9 m k) ((Nd.kids t).take j)<=200 /\
    Hid (∀i (hi:i<(Nd.kids t).length),i<j->kO m (Nd.kids t)[i] (im k i) (d+1)=true)/\Bw Y wr) (fun _ i _=>(Nd.kids t).length-(intOf i).toNat)
  case atStart=>exact⟨0,Nat.zero_le _,rfl,by simp[b4],by simp[b4],fun i _ h=>absurd h (Nat.not_lt_zero _),Below.refl _ _⟩
  case round=>
   obtain⟨j,hj,rfl,rfl,aA,x,c⟩:=hrel;have aj:=c.size;have q0:wr.cell? ⟨w.heap.size,0,Zn⟩=Zo (Zi Zk (k:Int)):=kC c m0 om;have q4:wr.cell? ⟨w.heap.size,4,Zn⟩=Zo (Zs ka (Nd.kids t).length Z):=kC c m4 om;generalize af:b4 (fun k=>d9 m k) ((Nd.kids t).take j)=sm at *;have ab:=a7 af;clear af;by_cases v:j<(Nd.kids t).length
   ·obtain⟨b,off,rfl,ar,F⟩:=o (by intro h;rw[h]at v;simp at v);obtain⟨x0,x1,x2,x3,x4,e0,e1,e2,e3,e4,X⟩:=F j v;obtain⟨y0,y1,y2,ya,yl,yc,za,zl,zc,rfl,rfl,rfl,rfl,rfl⟩:=X.shape;have aC:=M b ar;have f0:=kC c e0 om;have f1:=kC c e1 om;have f2:=kC c e2 om;have f3:=kC c e3 om;have f4:=kC c e4 om;have qq:=X.keep (a6 c (fun b C=>by have:=M b C;omega)) (fun _ h=>h);have A:Hid (∀W',Bw wr W'->Calls prog 71 #[.agg #[Zi Zk y0,Zi Zk y1,Zt y2,Zs ya yl yc,Zs za zl zc],.bool (im k j),Zi Zk (d+1)] W' fun e n=>e=.returned (Zi Zk (ip m (Nd.kids t)[j] (im k j) (d+1)))/\Bw wr n/\(n.cell? ⟨w.heap.size,0,Zn⟩=Zo (Zi Zk (k:Int))/\n.cell? ⟨w.heap.size,4,Zn⟩=Zo (Zs (Zo ⟨b,off,Zn⟩) (Nd.kids t).length Z)/\n.cell? ⟨b,off+j*5,Zn⟩=Zo (Zi Zk y0)/\n.cell? ⟨b,off+j*5+1,Zn⟩=Zo (Zi Zk y1)/\n.cell? ⟨b,off+j*5+2,Zn⟩=Zo (Zt y2)/\n.cell? ⟨b,off+j*5+3,Zn⟩=Zo (Zs ya yl yc)/\n.cell? ⟨b,off+j*5+4,Zn⟩=Zo (Zs za zl zc))):=by intro W' I;refine (hn S (Nd.kids t)[j] _ _ _ _ _ (im k j) (d+1) W' (qq.keep (a6 I (fun b C=>by have:=M b C;omega)) (fun _ h=>h)) (fun b C=>by have:=M b C;have:=I.size;omega) (ao.out j v) om (by have:=HD.out;omega)).mono ?_;rintro e n ⟨rfl,C⟩;have l:Bw wr n:=I.trans (C.mono I.size);exact⟨rfl,l,kC l q0 om,kC l q4 om,kC l f0 om,kC l f1 om,kC l f2 om,kC l f3 om,kC l f4 om⟩
    have hD:Bw wr wr.drew:=(Below.refl _ _).drew;have aO:IntKind.i64.wrap (d+1)=d+1:=by rw[IntKind.wrap_i64];omega
    have HQ:Hid (k≠24->∃hi:j<q.size,(((q[j]'hi).toNat:Int)==97)=im k j):=fun p=>by
     have hi:j<q.size:=by rw[<- an.out p];exact v
     exact⟨hi,al.out j hi p⟩
    have aJ:(j:Int)<((Nd.kids t).length:Int):=om;have L:Hid (ip m (Nd.kids t)[j] (im k j) (d+1)<0->ip (m+1) t f d = -1):=fun h=>A1 m t f d j v (by rw[ac.out];exact h);have y:Hid (0<=ip m (Nd.kids t)[j] (im k j) (d+1)->ip m (Nd.kids t)[j] (im k j) (d+1)=d9 m (Nd.kids t)[j]/\kO m (Nd.kids t)[j] (im k j) (d+1)=true):=fun h=>A0 m _ _ _ h;have g:Hid (b4 (fun k=>d9 m k) ((Nd.kids t).take (j+1))=sm+d9 m (Nd.kids t)[j]):=by show _=_;rw[fQ _ _ _ v,ab.out]
    have B:Hid (kO m (Nd.kids t)[j] (im k j) (d+1)=true->∀i (hi:i<(Nd.kids t).length),i<j+1->kO m (Nd.kids t)[i] (im k i) (d+1)=true):=fun R i hi aH=>by
     rcases Nat.lt_or_ge i j with h|h;·exact x.out i hi h
     ·have:i=j:=by omega
      subst this;exact R
    have aK:=DT m (Nd.kids t)[j] (im k j) (d+1);have K:=a7 c;have H:=a7 J;clear o F e0 e1 e2 e3 e4 X qq c x;generalize ip m (Nd.kids t)[j] (im k j) (d+1)=r at *;by_cases p:k=24
    ·have ae:=aa.out p j;rw[ae]at A;have ap:((k:Int) != 24)=false:=zE;have ad:((k:Int)==24)=true:=zE;clear HQ p;go_wp2_with fail;have ax:=pm;first|(go_region_held (fun n=>n.cell? ⟨w.heap.size,0,Zn⟩=Zo (Zi Zk (k:Int))/\n.cell? ⟨w.heap.size,4,Zn⟩=Zo (Zs (Zo ⟨b,off,Zn⟩) (Nd.kids t).length Z)/\n.cell? ⟨b,off+j*5,Zn⟩=Zo (Zi Zk y0)/\n.cell? ⟨b,off+j*5+1,Zn⟩=Zo (Zi Zk y1)/\n.cell? ⟨b,off+j*5+2,Zn⟩=Zo (Zt y2)/\n.cell? ⟨b,off+j*5+3,Zn⟩=Zo (Zs ya yl yc)/\n.cell? ⟨b,off+j*5+4,Zn⟩=Zo (Zs za zl zc)) (first|with_reducible assumption|go_keep) (first|(go_at_call 71;refine (A.out _ hD).mono ?_;rintro e w2 ⟨rfl,u,P⟩)))|fail
     all_goals
      have az:=u.size
      have s:Bw Y w2:=K.out.trans (u.mono aj)
      have O:=a7 s
      have z:=a7 (H.out.trans (s.mono H.out.size))
      clear u s P f0 f1 f2 f3 f4 q0 q4 hD A
      by_cases W:r<0
      ·go_wp2
       go_ret
       exact⟨fJ (L.out W).symm,z.out⟩
      ·by_cases V:200<1+(sm:Int)+r
       ·go_wp2
        go_ret
        refine⟨fJ (rC m t f d (j+1) ?_).symm,z.out⟩
        have:=y.out om
        rw[g.out];omega
       ·go_wp2
        go_roundw
        case rel=>
         have R:=y.out om
         refine⟨j+1,om,by go_num,?_,?_,B.out R.2,O.out⟩
         ·rw[g.out,R.1];go_num
         ·rw[g.out];omega
        case measure=>simp[intOf];omega
    ·obtain⟨hi,aL⟩:=HQ.out p;have ap:((k:Int) != 24)=true:=zE;have ad:((k:Int)==24)=false:=zE;have aI:(j:Int)<(q.size:Int):=om;generalize im k j=av at *;clear HQ;go_wp2_with fail;have ax:=pm;first|(go_region_held (fun n=>n.cell? ⟨w.heap.size,0,Zn⟩=Zo (Zi Zk (k:Int))/\n.cell? ⟨w.heap.size,4,Zn⟩=Zo (Zs (Zo ⟨b,off,Zn⟩) (Nd.kids t).length Z)/\n.cell? ⟨b,off+j*5,Zn⟩=Zo (Zi Zk y0)/\n.cell? ⟨b,off+j*5+1,Zn⟩=Zo (Zi Zk y1)/\n.cell? ⟨b,off+j*5+2,Zn⟩=Zo (Zt y2)/\n.cell? ⟨b,off+j*5+3,Zn⟩=Zo (Zs ya yl yc)/\n.cell? ⟨b,off+j*5+4,Zn⟩=Zo (Zs za zl zc)) (first|with_reducible assumption|go_keep) (first|(go_at_call 71;refine (A.out _ hD).mono ?_;rintro e w2 ⟨rfl,u,P⟩)))|fail
     all_goals
      have az:=u.size
      have s:Bw Y w2:=K.out.trans (u.mono aj)
      have O:=a7 s
      have z:=a7 (H.out.trans (s.mono H.out.size))
      clear u s P f0 f1 f2 f3 f4 q0 q4 hD A
      by_cases W:r<0
      ·go_wp2
       go_ret
       exact⟨fJ (L.out W).symm,z.out⟩
      ·by_cases V:200<1+(sm:Int)+r
       ·go_wp2
        go_ret
        refine⟨fJ (rC m t f d (j+1) ?_).symm,z.out⟩
        have:=y.out om
        rw[g.out];omega
       ·go_wp2
        go_roundw
        case rel=>
         have R:=y.out om
         refine⟨j+1,om,by go_num,?_,?_,B.out R.2,O.out⟩
         ·rw[g.out,R.1];go_num
         ·rw[g.out];omega
        case measure=>simp[intOf];omega
   ·have ah:j=(Nd.kids t).length:=by omega
    have HF:Hid (ip (m+1) t f d=1+(sm:Int)):=by show _=_;have h2:=ab.out;rw[ah,List.take_length]at h2;rw[A2 m t f d ak.out (fun i hi=>by rw[ac.out];exact x.out i hi om) (by rw[h2];omega),h2]
    have s:=J.trans (c.mono J.size);clear ah o x;go_wp2;go_ret;exact⟨fJ HF.out.symm,s⟩
theorem wQ:∀m,qy m:=by
 intro m;induction m with
 | zero=>intro S t c0 c1 c2 c3 c4 a d w b;exact b.elim
 | succ m c=>exact uO m c
end Go.Proofs.YtcfojmaccikgeaaGreatDoor
