import Derived.Test.YtcfojmaccikgeaaGreatDoorSL5
import Derived.Test.YtcfojmaccikgeaaGreatDoorB21
open Go.Value renaming slice→Zs,int→Zi,string→Zt
open Go.IntKind renaming i64→Zk
open Option renaming none→Zn,some→Zo
namespace Go.Proofs.YtcfojmaccikgeaaGreatDoor
open Go.RowKit Go.Proofs.Tryz
set_option maxRecDepth 100000
set_option maxHeartbeats 16000000
theorem vM (S:Nat->Prop) (m:Nat) (n:Nd (T m)) (na d:Option Addr) (c f:Nat) (a:Bool) (w:World) (l:fL S w n.names (Zs na n.names.length c)) (i:n.kids.length<=maxLen) (o:Bd S w) (r:n.text.size<=1048576) :
  Calls prog 95 #[.agg #[Zi Zk n.sort,Zi Zk n.num,Zt n.text,Zs na n.names.length c,Zs d n.kids.length f],.bool a] w fun e q=>e=.returned (.bool (iV n a))/\Bw w q:=by
 by_cases h:(1<=n.sort/\n.sort<=43)/\a=decide (36<=n.sort);case neg=>exact xO m n na d c f a w h
 obtain⟨p,g⟩:=h;by_cases b:n.sort=24
 ·obtain⟨s,num,text,names,kids⟩:=n;simp only at b g;subst b;obtain rfl:a=false:=by rw[g];rfl
  have:=t7 S m num text names kids na d c f w l o;have e:iV (⟨24,num,text,names,kids⟩:Nd (T m)) false=((num==0) && text.toList.isEmpty && gW names && (names.length==kids.length) && !(names.any (fun y=>y==bs [101,110,100]))):=by unfold iV;simp
  rw[e];exact this
 ·obtain⟨k,j⟩:∃k:Nat,n.sort=(k:Int):=⟨n.sort.toNat,om⟩;have:=zi S m n na d c f k a (by rw[g,j]) w j om om om l i o r;have e:iV n a=((n.kids.length==(lA k).length) && gy n (iM k)):=by unfold iV;rw[decide_eq_true p,g,if_neg b,show n.sort.toNat=k by omega];simp
  rw[e,j];exact this
theorem pd:yielded.match_1 (fun _=>Option Bool) (Zo undef) (fun b=>Zo b) (fun _=>Zn)=Zn:=rfl
def il(m:Nat)(t:T m)(a:Bool)(d:Int):Int:=if kK m t a d=true/\fJ m t<=200 then (fJ m t:Int) else -1
theorem Cs(m:Nat)(t:T m)(a:Bool)(d:Int): -1<=il m t a d/\il m t a d<=200:=by unfold il;split<;>omega
theorem Ak(m:Nat)(t:T m)(a:Bool)(d:Int)(h:0<=il m t a d):il m t a d=fJ m t/\kK m t a d=true:=by
 unfold il at h ⊢;by_cases b:kK m t a d=true/\fJ m t<=200;·rw[if_pos b];exact⟨rfl,b.1⟩
 ·rw[if_neg b]at h;omega
theorem DD{m:Nat}{t:T (m+1)}{a:Bool}{d:Int}(h:kK (m+1) t a d=true)(i:Nat)(hi:i<(Nd.kids t).length):kK m (Nd.kids t)[i] (io (Nd.sort t).toNat i) (d+1)=true:=by simp only[kK,Bool.and_eq_true,List.all_eq_true]at h;exact h.2 ((Nd.kids t)[i],i) (by rw[List.mem_zipIdx_iff_getElem?];simp[hi])
theorem AW(m:Nat)(t:T (m+1))(a:Bool)(d:Int)(i:Nat)(hi:i<(Nd.kids t).length)(h:il m (Nd.kids t)[i] (io (Nd.sort t).toNat i) (d+1)<0):il (m+1) t a d = -1:=by unfold il;rw[if_neg];rintro ⟨c,b⟩;have e:=DD c i hi;have f:=gX (fun k=>fJ m k) (Nd.kids t) _ (List.getElem_mem hi);simp only[fJ]at b;unfold il at h;rw[if_pos ⟨e,om⟩]at h;omega
theorem rz(m:Nat)(t:T (m+1))(a:Bool)(d:Int)(k:Nat)(h:200<1+b5 (fun k=>fJ m k) ((Nd.kids t).take k)):il (m+1) t a d = -1:=by unfold il;rw[if_neg];rintro ⟨-,b⟩;have:=im (fun k=>fJ m k) ((Nd.kids t).take k) ((Nd.kids t).drop k);rw[List.take_append_drop]at this;simp only[fJ]at b;omega
theorem At (m:Nat) (t:T (m+1)) (a:Bool) (d:Int) (h:(decide (d<=24) && iV (show Nd (T m) from t) a)=true) (b:∀ i (hi:i<(Nd.kids t).length),kK m (Nd.kids t)[i] (io (Nd.sort t).toNat i) (d+1)=true) (g:1+b5 (fun k=>fJ m k) (Nd.kids t)<=200) :
  il (m+1) t a d=1+(b5 (fun k=>fJ m k) (Nd.kids t):Int):=by
 unfold il;rw[if_pos];·simp only[fJ];omega
 ·refine⟨?_,by simp only[fJ];omega⟩;simp only[kK,h,Bool.true_and,List.all_eq_true];intro x f;have c:=List.mem_zipIdx f;have hi:x.2<(Nd.kids t).length:=om;have:=b x.2 hi;have e:x.1=(Nd.kids t)[x.2]:=by simpa using c.2.2
  rw[e];exact this
theorem vo(m:Nat)(t:T (m+1))(a:Bool)(d:Int)(h:(decide (d<=24) && iV (show Nd (T m) from t) a)=false):il (m+1) t a d = -1:=by unfold il;rw[if_neg];rintro ⟨b,-⟩;simp only[kK,h,Bool.false_and]at b;cases b
def qN(m:Nat):Prop:=∀(S:Nat->Prop)(t:T m)(c0 c1 c2 c3 c4:Value)(a:Bool)(d:Int)(w:World),fZ S w m t c0 c1 c2 c3 c4->(Bd S w)->kr m t<=1048576->1<=d->d<=25 ->
 Calls prog 71 #[.agg #[c0,c1,c2,c3,c4],.bool a,Zi Zk d] w fun e b=>e=.returned (Zi Zk (il m t a d))/\Bw w b
theorem A0{α:Type}(n:Nd α)(a:Bool)(h:iV n a=true)(b:n.sort≠24):n.kids.length=(lA n.sort.toNat).length:=by unfold iV at h;rw[if_neg b]at h;simp only[Bool.and_eq_true,beq_iff_eq]at h;exact h.2.1
theorem IW(k i:Nat)(a:k≠24)(hi:i<(bs (Di k)).size):(((bs (Di k))[i]'hi).toNat:Int)=97↔io k i=true:=by
 have b:i<(Ig k).length:=by rw[go]at hi;unfold Di at hi;rw[if_neg a]at hi;exact hi
 have e:(bs (Di k))[i]'hi=(Ig k)[i]:=by rw[sW];unfold Di;simp only[if_neg a]
 rw[e];unfold io;rw[decide_eq_true a,Bool.true_and];simp only[List.getD_eq_getElem?_getD,List.getElem?_eq_getElem b,Option.getD_some,beq_iff_eq];constructor;·intro h;exact UInt8.toNat_inj.1 (by rw[(by omega:((Ig k)[i]).toNat=97)];rfl)
 ·intro h;rw[h];rfl
theorem um(m:Nat)(hn:qN m):qN (m+1):=by
 intro S t c0 c1 c2 c3 c4 f d w ht N D aJ aK;obtain⟨rfl,rfl,rfl,hs,aF,aM,h3,h4,⟨na,nl,nc,rfl,aI⟩,⟨ka,kl,kc,rfl,aE⟩⟩:=ht;obtain⟨_,_,hv,-⟩:=id h3;cases hv
 obtain⟨_,_,hv,O,o⟩:=id h4;cases hv
 have ax:(Nd.text t).size<=1048576:=by simp only[kr]at D;omega
 have az:Hid (∀k (h:k<(Nd.kids t).length),kr m (Nd.kids t)[k]<=1048576):=fun k h=>by have:=gX (fun k=>kr m k+1) (Nd.kids t) _ (List.getElem_mem h);simp only[kr]at D;omega
 clear D;have B:=(Below.refl w.heap.size w).alloc (Nat.le_refl _) (.cells #[Zi Zk (Nd.sort t),Zi Zk (Nd.num t),Zt (Nd.text t),Zs na (Nd.names t).length nc,Zs ka (Nd.kids t).length kc] 40);by_cases R:d<=24;case neg=>have HF:Hid (il (m+1) t f d = -1):=vo m t f d (by simp[R]);go_in;go_wp2;go_ret;exact⟨fO HF.out.symm,B⟩
 have aj:=h3.keep (a6 B N) (fun _ h=>h);have HC:Hid (Calls prog 95 _ _ _):=vM S m (show Nd (T m) from t) na ka nc kc f _ aj O (fun b F=>by have:=N b F;simp;omega) ax;have hK:=h4.keepN (a6 B N) (fun _ h=>h);have HD:Hid (d<=24):=R;unfold maxLen at O;go_in;go_wp2_with fail;refine HC.out.mono ?_;rintro e w1 ⟨rfl,I⟩;have ap:=I.size;simp at ap;have K:=b4 B zS I;obtain⟨m0,m1,m2,m3,m4⟩:=gE ((I.block w.heap.size zS).trans (heap_alloc_last w _));have aA:=hK.keepN (a6 I (fun b F=>by have:=N b F;simp;omega)) (fun _ h=>h);clear B aj HC hK I h3 h4 o;cases hal:iV (show Nd (T m) from t) f with
 | false=>have HF:Hid (il (m+1) t f d = -1):=vo m t f d (by rw[hal];simp);clear hal;go_wp2;go_ret;exact⟨fO HF.out.symm,K⟩
 | true=>
  have ay:Hid ((decide (d<=24) && iV (show Nd (T m) from t) f)=true):=by show _=_;rw[hal];simp[R]
  have hr:1<=Nd.sort t/\Nd.sort t<=43:=by have h:=hal;unfold iV at h;simp only[Bool.and_eq_true,decide_eq_true_eq]at h;exact h.1.1
  obtain⟨k,hk⟩:∃k:Nat,Nd.sort t=(k:Int):=⟨(Nd.sort t).toNat,om⟩;have ab:k<44:=om;have U:(Nd.sort t).toNat=k:=om;have ao:Hid (k≠24->(Nd.kids t).length=(bs (Di k)).size):=fun p=>by have:=A0 (show Nd (T m) from t) f hal (by show Nd.sort t≠24;omega);rw[BD k p,<- U];exact this
  have am:Hid (∀w,Calls prog 91 #[Zi Zk (k:Int)] w _):=fun w=>rr k ab w;obtain⟨_,_,ar,-,o⟩:=aA;cases ar
  have aw:Hid (∀i (hi:i<(bs (Di k)).size),k≠24->((((bs (Di k))[i]'hi).toNat:Int)==97)=io k i):=fun i hi p=>by have:=IW k i p hi;rw[Bool.eq_iff_iff,beq_iff_eq];exact this
  have af:Hid (k=24->∀i,io k i=false):=fun h i=>by subst h;simp[io]
  have aG:=a7 hk;have ae:=a7 U;rw[hk]at m0;rw[hk];clear hal hr hk U;generalize bs (Di k)=q at *;go_wp2_with fail;refine (am.out _).mono ?_;rintro e Q ⟨rfl,rfl⟩;go_wp2;go_loopw [8,9] (fun a i wr=>∃ j:Nat,j<=(Nd.kids t).length/\i=Zi Zk j/\a=Zi Zk (1+(b5 (fun k=>fJ m k) ((Nd.kids t).take j):Int))/\1+b5 (fun k=>fJ m k) ((Nd.kids t).take j)<=200 /\
    Hid (∀i (hi:i<(Nd.kids t).length),i<j->kK m (Nd.kids t)[i] (io k i) (d+1)=true)/\Bw Q wr) (fun _ i _=>(Nd.kids t).length-(intOf i).toNat)
  case atStart=>exact⟨0,Nat.zero_le _,rfl,by simp[b5],by simp[b5],fun i _ h=>absurd h (Nat.not_lt_zero _),Below.refl _ _⟩
  case round=>
   obtain⟨j,hj,rfl,rfl,aB,z,c⟩:=hrel;have ad:=c.size;have q0:wr.cell? ⟨w.heap.size,0,Zn⟩=Zo (Zi Zk (k:Int)):=kC c m0 om;have q4:wr.cell? ⟨w.heap.size,4,Zn⟩=Zo (Zs ka (Nd.kids t).length kc):=kC c m4 om;generalize ai:b5 (fun k=>fJ m k) ((Nd.kids t).take j)=sm at *;have ag:=a7 ai;clear ai;by_cases x:j<(Nd.kids t).length
   ·obtain⟨b,off,rfl,an,G⟩:=o (by intro h;rw[h]at x;simp at x);obtain⟨x0,x1,x2,x3,x4,e0,e1,e2,e3,e4,aa⟩:=G j x;obtain⟨y0,y1,y2,ya,yl,yc,za,zl,zc,rfl,rfl,rfl,rfl,rfl⟩:=aa.shape;have aL:=N b an;have f0:=kC c e0 om;have f1:=kC c e1 om;have f2:=kC c e2 om;have f3:=kC c e3 om;have f4:=kC c e4 om;have qq:=aa.keep (a6 c (fun b F=>by have:=N b F;omega)) (fun _ h=>h);have A:Hid (∀W',Bw wr W'->Calls prog 71 #[.agg #[Zi Zk y0,Zi Zk y1,Zt y2,Zs ya yl yc,Zs za zl zc],.bool (io k j),Zi Zk (d+1)] W' fun e n=>e=.returned (Zi Zk (il m (Nd.kids t)[j] (io k j) (d+1)))/\Bw wr n/\(n.cell? ⟨w.heap.size,0,Zn⟩=Zo (Zi Zk (k:Int))/\n.cell? ⟨w.heap.size,4,Zn⟩=Zo (Zs (Zo ⟨b,off,Zn⟩) (Nd.kids t).length kc)/\n.cell? ⟨b,off+j*5,Zn⟩=Zo (Zi Zk y0)/\n.cell? ⟨b,off+j*5+1,Zn⟩=Zo (Zi Zk y1)/\n.cell? ⟨b,off+j*5+2,Zn⟩=Zo (Zt y2)/\n.cell? ⟨b,off+j*5+3,Zn⟩=Zo (Zs ya yl yc)/\n.cell? ⟨b,off+j*5+4,Zn⟩=Zo (Zs za zl zc))):=by intro W' L;refine (hn S (Nd.kids t)[j] _ _ _ _ _ (io k j) (d+1) W' (qq.keep (a6 L (fun b F=>by have:=N b F;omega)) (fun _ h=>h)) (fun b F=>by have:=N b F;have:=L.size;omega) (az.out j x) om (by have:=HD.out;omega)).mono ?_;rintro e n ⟨rfl,F⟩;have l:Bw wr n:=L.trans (F.mono L.size);exact⟨rfl,l,kC l q0 om,kC l q4 om,kC l f0 om,kC l f1 om,kC l f2 om,kC l f3 om,kC l f4 om⟩
    have hD:Bw wr wr.drew:=(Below.refl _ _).drew;have aO:IntKind.i64.wrap (d+1)=d+1:=by rw[IntKind.wrap_i64];omega
    have HQ:Hid (k≠24->∃hi:j<q.size,(((q[j]'hi).toNat:Int)==97)=io k j):=fun p=>by
     have hi:j<q.size:=by rw[<- ao.out p];exact x
     exact⟨hi,aw.out j hi p⟩
    have aD:(j:Int)<((Nd.kids t).length:Int):=om;have M:Hid (il m (Nd.kids t)[j] (io k j) (d+1)<0->il (m+1) t f d = -1):=fun h=>AW m t f d j x (by rw[ae.out];exact h);have y:Hid (0<=il m (Nd.kids t)[j] (io k j) (d+1)->il m (Nd.kids t)[j] (io k j) (d+1)=fJ m (Nd.kids t)[j]/\kK m (Nd.kids t)[j] (io k j) (d+1)=true):=fun h=>Ak m _ _ _ h;have g:Hid (b5 (fun k=>fJ m k) ((Nd.kids t).take (j+1))=sm+fJ m (Nd.kids t)[j]):=by show _=_;rw[fY _ _ _ x,ag.out]
    have C:Hid (kK m (Nd.kids t)[j] (io k j) (d+1)=true->∀i (hi:i<(Nd.kids t).length),i<j+1->kK m (Nd.kids t)[i] (io k i) (d+1)=true):=fun X i hi aN=>by
     rcases Nat.lt_or_ge i j with h|h;·exact z.out i hi h
     ·have:i=j:=by omega
      subst this;exact X
    have aP:=Cs m (Nd.kids t)[j] (io k j) (d+1);have P:=a7 c;have J:=a7 K;clear o G e0 e1 e2 e3 e4 aa qq c z;generalize il m (Nd.kids t)[j] (io k j) (d+1)=r at *;by_cases p:k=24
    ·have ac:=af.out p j;rw[ac]at A;have al:((k:Int) != 24)=false:=zE;have ah:((k:Int)==24)=true:=zE;clear HQ p;go_wp2_with fail;have au:=pd;first|(go_region_held (fun n=>n.cell? ⟨w.heap.size,0,Zn⟩=Zo (Zi Zk (k:Int))/\n.cell? ⟨w.heap.size,4,Zn⟩=Zo (Zs (Zo ⟨b,off,Zn⟩) (Nd.kids t).length kc)/\n.cell? ⟨b,off+j*5,Zn⟩=Zo (Zi Zk y0)/\n.cell? ⟨b,off+j*5+1,Zn⟩=Zo (Zi Zk y1)/\n.cell? ⟨b,off+j*5+2,Zn⟩=Zo (Zt y2)/\n.cell? ⟨b,off+j*5+3,Zn⟩=Zo (Zs ya yl yc)/\n.cell? ⟨b,off+j*5+4,Zn⟩=Zo (Zs za zl zc)) (first|with_reducible assumption|go_keep) (first|(go_at_call 71;refine (A.out _ hD).mono ?_;rintro e w2 ⟨rfl,v,Y⟩)))|fail
     all_goals
      have aq:=v.size
      have s:Bw Q w2:=P.out.trans (v.mono ad)
      have W:=a7 s
      have E:=a7 (J.out.trans (s.mono J.out.size))
      clear v s Y f0 f1 f2 f3 f4 q0 q4 hD A
      by_cases Z:r<0
      ·go_wp2
       go_ret
       exact⟨fO (M.out Z).symm,E.out⟩
      ·by_cases V:200<1+(sm:Int)+r
       ·go_wp2
        go_ret
        refine⟨fO (rz m t f d (j+1) ?_).symm,E.out⟩
        have:=y.out om
        rw[g.out];omega
       ·go_wp2
        go_roundw
        case rel=>
         have X:=y.out om
         refine⟨j+1,om,by go_num,?_,?_,C.out X.2,W.out⟩
         ·rw[g.out,X.1];go_num
         ·rw[g.out];omega
        case measure=>simp[intOf];omega
    ·obtain⟨hi,aC⟩:=HQ.out p;have al:((k:Int) != 24)=true:=zE;have ah:((k:Int)==24)=false:=zE;have aH:(j:Int)<(q.size:Int):=om;generalize io k j=av at *;clear HQ;go_wp2_with fail;have au:=pd;first|(go_region_held (fun n=>n.cell? ⟨w.heap.size,0,Zn⟩=Zo (Zi Zk (k:Int))/\n.cell? ⟨w.heap.size,4,Zn⟩=Zo (Zs (Zo ⟨b,off,Zn⟩) (Nd.kids t).length kc)/\n.cell? ⟨b,off+j*5,Zn⟩=Zo (Zi Zk y0)/\n.cell? ⟨b,off+j*5+1,Zn⟩=Zo (Zi Zk y1)/\n.cell? ⟨b,off+j*5+2,Zn⟩=Zo (Zt y2)/\n.cell? ⟨b,off+j*5+3,Zn⟩=Zo (Zs ya yl yc)/\n.cell? ⟨b,off+j*5+4,Zn⟩=Zo (Zs za zl zc)) (first|with_reducible assumption|go_keep) (first|(go_at_call 71;refine (A.out _ hD).mono ?_;rintro e w2 ⟨rfl,v,Y⟩)))|fail
     all_goals
      have aq:=v.size
      have s:Bw Q w2:=P.out.trans (v.mono ad)
      have W:=a7 s
      have E:=a7 (J.out.trans (s.mono J.out.size))
      clear v s Y f0 f1 f2 f3 f4 q0 q4 hD A
      by_cases Z:r<0
      ·go_wp2
       go_ret
       exact⟨fO (M.out Z).symm,E.out⟩
      ·by_cases V:200<1+(sm:Int)+r
       ·go_wp2
        go_ret
        refine⟨fO (rz m t f d (j+1) ?_).symm,E.out⟩
        have:=y.out om
        rw[g.out];omega
       ·go_wp2
        go_roundw
        case rel=>
         have X:=y.out om
         refine⟨j+1,om,by go_num,?_,?_,C.out X.2,W.out⟩
         ·rw[g.out,X.1];go_num
         ·rw[g.out];omega
        case measure=>simp[intOf];omega
   ·have ak:j=(Nd.kids t).length:=by omega
    have HF:Hid (il (m+1) t f d=1+(sm:Int)):=by show _=_;have h2:=ag.out;rw[ak,List.take_length]at h2;rw[At m t f d ay.out (fun i hi=>by rw[ae.out];exact z.out i hi om) (by rw[h2];omega),h2]
    have s:=K.trans (c.mono K.size);clear ak o z;go_wp2;go_ret;exact⟨fO HF.out.symm,s⟩
theorem xh:∀m,qN m:=by
 intro m;induction m with
 | zero=>intro S t c0 c1 c2 c3 c4 b d w a;exact a.elim
 | succ m c=>exact um m c
end Go.Proofs.YtcfojmaccikgeaaGreatDoor
