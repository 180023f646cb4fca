import Derived.Test.YtkcollkaldkccaaGreatDoorB4
set_option linter.all false
open List renaming length -> J
open Go.Calls renaming mono -> H
open Go.Value renaming slice->A,int->I,string->Zt,agg->Za
open Go.IntKind renaming i64->U
open Go.Ending renaming returned->Zr
open Go.Obj renaming cells->Zc
open ByteArray renaming empty->WT
open Go renaming Calls->WU
open Go.RowKit renaming Hid->G
namespace Go.Proofs.YtkcollkaldkccaaGreatDoor
open Go.RowKit Go.Proofs.Tryz
set_option maxRecDepth 100000
set_option maxHeartbeats 16000000
variable {n k:Nat} {S:ZN} {w:World} {kv:Value} {d:Int} {l:List ZB} {α:Type}
def rk(n:Nat):Prop:=∀(S:ZN)(t:K n)(c0 c1 c2:Value)(d:Int)(w:World),cW S w n t c0 c1 c2->(Bd S w)->1<=d->d<=7 ->
 WU prog 221 #[Za #[c0,c1,c2],I U d] w λe a=>e=Zr (I U (dR n t d))/\Bw w a
def Av (s:Int) (l:List ZB) (a:Nat):(eh s l a=true/\1<=s/\s<=6/\((s<4/\J l=0/\a=0)∨(s=4/\J l=0/\a=1)∨(s=6/\J l=0/\a=1)∨(s=5/\J l=a/\ee l=true))) ∨
  (eh s l a=false/\(¬(1<=s/\s<=6)∨(1<=s/\s<4/\0<J l)∨(1<=s/\s<4/\J l=0/\0<a)∨(s=4/\0<J l)∨(s=6/\0<J l)∨(s=4/\J l=0/\a≠1)∨(s=6/\J l=0/\a≠1)∨(s=5/\J l≠a)∨(s=5/\J l=a/\ee l=false))):=by
 cases h:eh s l a with
 | true=>
  refine .inl ⟨D,?_⟩;unfold eh at h;by_cases f:s=1;·subst f;simp at h;exact zE
  rw[Qd f]at h;by_cases g:s=2;·subst g;simp at h;exact⟨E,E,zE⟩
  rw[Qd g]at h;by_cases i:s=3;·subst i;simp at h;exact⟨E,E,zE⟩
  rw[Qd i]at h;by_cases j:s=4;·subst j;simp at h;exact⟨E,E,.inr (.inl ⟨D,by simp[h.1],E⟩)⟩
  rw[Qd j]at h;by_cases k:s=5;·subst k;simp at h;exact⟨E,E,.inr (.inr (.inr ⟨D,E,h.2⟩))⟩
  rw[Qd k]at h;by_cases m:s=6;·subst m;simp at h;exact⟨E,E,.inr (.inr (.inl ⟨D,by simp[h.1],E⟩))⟩
  rw[Qd m]at h;exact eI
 | false=>
  refine .inr ⟨D,?_⟩;by_cases n:1<=s/\s<=6
  .right;unfold eh at h;rcases (show (s=1∨s=2∨s=3)∨s=4∨s=6∨s=5 by omega) with b|b|b|b
   .by_cases c:J l=0
    .refine .inr (.inl ⟨E,E,c,?_⟩);rcases b with b|b|b<;>subst b<;>simp at h<;>rcases Xa a with d|d;all_goals first
      | exact d
      | (exfalso;apply h<;>first|(exact Qj c)|omega)
    .exact E
   .subst b;simp at h;by_cases c:J l=0;·exact .inr (.inr (.inr (.inr (.inl ⟨D,c,λe=>h (Qj c) E⟩))))
    .exact E
   .subst b;simp at h;by_cases c:J l=0;·exact .inr (.inr (.inr (.inr (.inr (.inl ⟨D,c,λe=>h (Qj c) E⟩)))))
    .exact E
   .subst b;simp at h;by_cases c:J l=a;·exact .inr (.inr (.inr (.inr (.inr (.inr (.inr ⟨D,c,h E⟩))))))
    .exact E
  .exact E
def De(hn:rk n):rk (n+1):=by
 intro S t c0 c1 c2 d w ht X au av;obtain⟨rfl,-,h3,h4⟩:=ht;obtain⟨na,nc,rfl,-,-,-⟩:=id h3;obtain⟨ka,kc,rfl,aj,g⟩:=id h4;unfold maxLen at aj;generalize hs:Kd.k t=s at *;have qp:=(Qg w.heap.size w).alloc E (UF s na (J (Kd.q t)) nc ka (J (Kd.o t)) kc);by_cases ag:d<=6;case neg=>have HF:G (dR (n+1) t d = -1):=B1 n t d (by simp[ag]);clear hs;exact PS
 have ad:=h3.keep (b6 qp X) zI;have HC:G (WU prog 147 _ _ _):=rx ad (fP X);have hK:=h4.keepK (b6 qp X) zI;rcases Av s (Kd.q t) (J (Kd.o t)) with ⟨q5,ap,aq,V⟩|⟨q5,V⟩;case inr=>
  have HF:G (dR (n+1) t d = -1):=B1 n t d (by show (_ && eh _ _ _)=_;rw[show (Kd.k t)=s from hs,q5];simp);clear q5 hs h3 h4 g hK ad hn;generalize J (Kd.o t)=kl at *;generalize ay:J (Kd.q t)=ln at *;have H6:G (∀w,WU prog 51 #[I U s,I U 1,I U 6] w λe w'=>e=Zr (.bool (decide (1<=s/\s<=6)))/\w'=w):=λw=>fx s 1 6 w;rcases V with hc|⟨am,af,m⟩|⟨am,af,m,l⟩|⟨rfl,m⟩|⟨rfl,m⟩|⟨rfl,m,l⟩|⟨rfl,m,l⟩|⟨rfl,m⟩|⟨rfl,m,l⟩;·have hd:decide (1<=s/\s<=6)=false:=zE;clear hc;exact qbB
  .have hd:decide (1<=s/\s<=6)=true:=zE;have he:(s==5)=false:=zE;have ah:(s != 5)=true:=zE;exact qbB
  .have hd:decide (1<=s/\s<=6)=true:=zE;have he:(s==5)=false:=zE;have ah:(s != 5)=true:=zE;have ao:¬0<(ln:Int):=E;clear m HC;exact qbB
  iterate 2
   .exact qbF
  iterate 2
   .have ao:¬0<(ln:Int):=E
    have ak:((kl:Int) != 1)=true:=zE
    clear m HC
    exact qbF
  .have ak:((ln:Int) != (kl:Int))=true:=gE;exact qbF
  .subst m;have ak:((ln:Int) != (ln:Int))=false:=zS;go_in;go_wp2_with (go_at_call 51;refine H (H6 _) ?_;rintro e w' ⟨rfl,rfl⟩);refine H HC ?_;rintro e w' ⟨rfl,al⟩;rw[l];have z:=b9 qp zS al;go_wp2;go_ret;exact⟨dd HF.symm,z⟩
 have aa:G ((decide (d<=6) && wM (show Kd (K n) from t))=true):=by show (_ && eh _ _ _)=_;rw[show (Kd.k t)=s from hs,q5];simp[ag]
 have H6:G (∀w,WU prog 51 #[I U s,I U 1,I U 6] w λe w'=>e=Zr (.bool true)/\w'=w):=λw=>by rw[<- QK (⟨ap,aq⟩:1<=s/\s<=6)];exact fx s 1 6 w
 have R:w.heap.size<(w.alloc (UF s na (J (Kd.q t)) nc ka (J (Kd.o t)) kc)).heap.size:=zS;have m2:a7 (w.alloc (UF s na (J (Kd.q t)) nc ka (J (Kd.o t)) kc)) w.heap.size 2=some (A ka (J (Kd.o t)) kc):=ke;clear q5 hs h3 h4 g ad;have z:Bw w _:=qp;rcases V with ⟨af,m,l⟩|⟨rfl,m,l⟩|⟨rfl,m,l⟩|⟨rfl,m,l⟩
 .generalize L:w.alloc (UF s na (J (Kd.q t)) nc ka (J (Kd.o t)) kc)=w1 at *;obtain⟨_,_,W,-,g⟩:=hK;cases W
  have xN:G (J (Kd.o t)=0):=l;rw[l]at m2;rw[m,l]at L ⊢;have q8:=a8 L;have he:(s==5)=false:=zE;have ah:(s != 5)=true:=zE;have aw:(s==4)=false:=zE;have ax:(s==6)=false:=zE;clear m l HC qp L;go_in;go_wp2_with (go_at_call 51;refine H (H6 _) ?_;rintro e w' ⟨rfl,rfl⟩);rw[q8.out];go_loopw [6,7] (λa i wr=>∃ k:Nat,k<=0/\i=I U k/\a=I U (1+(cG (λk=>dF n k) ((Kd.o t).take k):Int))/\1+cG (λk=>dF n k) ((Kd.o t).take k)<=40 /\
    ((Kd.o t).take k).all (λk=>dj n k (d+1))=true/\Bw w1 wr) (λ_ i _=>0-(intOf i).toNat)
  case atStart=>exact⟨0,E,D,uL,uL,zS,Qg _ _⟩
  case round=>
   obtain⟨k,hk,rfl,rfl,ql,o,c⟩:=hrel;have v:=a8 o;clear o;have q9:=c.size;have q4:a7 wr w.heap.size 2=some (A ka 0 kc):=kC c m2 R;generalize B:cG (λk=>dF n k) ((Kd.o t).take k)=sm at *;have M:=a8 B;clear B;by_cases ab:k<0;·exact absurd ab E
   .have C:k=J (Kd.o t):=J4;have HF:G (dR (n+1) t d=1+(sm:Int)):=by show _=_;have qq:=v.out;have T:=M.out;rw[C,QG]at qq T;rw[od aa.out qq (by rw[T];omega),T]
    have u:=b9 z E c;clear C g;go_wp2;go_ret;exact⟨dd HF.symm,u⟩
 .generalize L:w.alloc (UF 4 na (J (Kd.q t)) nc ka (J (Kd.o t)) kc)=w1 at *;obtain⟨_,_,W,-,g⟩:=hK;cases W
  have xN:G (J (Kd.o t)=1):=l;rw[l]at m2;rw[m,l]at L ⊢;have q8:=a8 L;clear m l HC qp L;go_in;go_wp2_with (go_at_call 51;refine H (H6 _) ?_;rintro e w' ⟨rfl,rfl⟩);rw[q8.out];go_loopw [6,7] (λa i wr=>∃ k:Nat,k<=1/\i=I U k/\a=I U (1+(cG (λk=>dF n k) ((Kd.o t).take k):Int))/\1+cG (λk=>dF n k) ((Kd.o t).take k)<=40 /\
    ((Kd.o t).take k).all (λk=>dj n k (d+1))=true/\Bw w1 wr) (λ_ i _=>1-(intOf i).toNat)
  case atStart=>exact⟨0,E,D,by simp[cG],by simp[cG],zS,Qg _ _⟩
  case round=>
   obtain⟨k,hk,rfl,rfl,ql,o,c⟩:=hrel;have v:=a8 o;clear o;have q9:=c.size;have q4:a7 wr w.heap.size 2=some (A ka 1 kc):=kC c m2 R;generalize B:cG (λk=>dF n k) ((Kd.o t).take k)=sm at *;have M:=a8 B;clear B;by_cases ab:k<1
   .have f:k<J (Kd.o t):=by have:=xN.out;omega
    obtain⟨b,off,rfl,j0,p⟩:=g (by intro h;rw[h]at f;simp at f);have⟨x0,x1,x2,e0,e1,e2,hr⟩:=p k f;have ae:=X b j0;have f0:=kC c e0 E;have f1:=kC c e1 E;have f2:=kC c e2 E;have q:=hr.keep (b6 c (fP X)) zI;clear g p e0 e1 e2 hr;have N:G (WU prog 221 _ _ _):=hn S (Kd.o t)[k] x0 x1 x2 (d+1) wr q (fP X) E E;have ai:=tL (Kd.o t)[k] (d+1);have O:G (dR n (Kd.o t)[k] (d+1)<0->dR (n+1) t d = -1):=λh=>rG f h;have x:G (0<=dR n (Kd.o t)[k] (d+1)->dR n (Kd.o t)[k] (d+1)=dF n (Kd.o t)[k]/\dj n (Kd.o t)[k] (d+1)=true):=λh=>⟨(kS h).1,(kS h).2.1⟩;have j:G (cG (λk=>dF n k) ((Kd.o t).take (k+1))=sm+dF n (Kd.o t)[k]):=by show _=_;rw[dw _ f,M.out]
    have y:G (dj n (Kd.o t)[k] (d+1)=true->((Kd.o t).take (k+1)).all (λk=>dj n k (d+1))=true):=λh=>k7 f v h;clear q;generalize qa:(Kd.o t)[k]=kk at *;clear qa f;go_wp2_with fail;refine H N ?_;rintro e w2 ⟨rfl,P⟩;have Q:=b9 c q9 P;have u:=b9 z E Q;clear P f0 f1 f2 c q4 N;generalize qc:dR n kk (d+1)=r at *;clear qc;by_cases q7:r<0;·go_wp2;go_ret;exact⟨dd (O q7).symm,u⟩
    .by_cases F:40<1+(sm:Int)+r;·go_wp2;go_ret;refine⟨dd (oV n t d (k+1) ?_).symm,u⟩;have:=x.out E;rw[j.out];omega
     .go_wp2;go_roundw;case rel=>
       have hg:=x.out E;refine⟨k+1,E,by go_num,?_,?_,y hg.2,Q⟩;·rw[j.out,hg.1];go_num
       .rw[j.out];omega
      case measure=>exact eb
   .have C:k=J (Kd.o t):=by have:=xN.out;omega
    have HF:G (dR (n+1) t d=1+(sm:Int)):=by show _=_;have qq:=v.out;have T:=M.out;rw[C,QG]at qq T;rw[od aa.out qq (by rw[T];omega),T]
    have u:=b9 z E c;clear C g;go_wp2;go_ret;exact⟨dd HF.symm,u⟩
 .generalize L:w.alloc (UF 6 na (J (Kd.q t)) nc ka (J (Kd.o t)) kc)=w1 at *;obtain⟨_,_,W,-,g⟩:=hK;cases W
  have xN:G (J (Kd.o t)=1):=l;rw[l]at m2;rw[m,l]at L ⊢;have q8:=a8 L;clear m l HC qp L;go_in;go_wp2_with (go_at_call 51;refine H (H6 _) ?_;rintro e w' ⟨rfl,rfl⟩);rw[q8.out];go_loopw [6,7] (λa i wr=>∃ k:Nat,k<=1/\i=I U k/\a=I U (1+(cG (λk=>dF n k) ((Kd.o t).take k):Int))/\1+cG (λk=>dF n k) ((Kd.o t).take k)<=40 /\
    ((Kd.o t).take k).all (λk=>dj n k (d+1))=true/\Bw w1 wr) (λ_ i _=>1-(intOf i).toNat)
  case atStart=>exact⟨0,E,D,by simp[cG],by simp[cG],zS,Qg _ _⟩
  case round=>
   obtain⟨k,hk,rfl,rfl,ql,o,c⟩:=hrel;have v:=a8 o;clear o;have q9:=c.size;have q4:a7 wr w.heap.size 2=some (A ka 1 kc):=kC c m2 R;generalize B:cG (λk=>dF n k) ((Kd.o t).take k)=sm at *;have M:=a8 B;clear B;by_cases ab:k<1
   .have f:k<J (Kd.o t):=by have:=xN.out;omega
    obtain⟨b,off,rfl,j0,p⟩:=g (by intro h;rw[h]at f;simp at f);have⟨x0,x1,x2,e0,e1,e2,hr⟩:=p k f;have ae:=X b j0;have f0:=kC c e0 E;have f1:=kC c e1 E;have f2:=kC c e2 E;have q:=hr.keep (b6 c (fP X)) zI;clear g p e0 e1 e2 hr;have N:G (WU prog 221 _ _ _):=hn S (Kd.o t)[k] x0 x1 x2 (d+1) wr q (fP X) E E;have ai:=tL (Kd.o t)[k] (d+1);have O:G (dR n (Kd.o t)[k] (d+1)<0->dR (n+1) t d = -1):=λh=>rG f h;have x:G (0<=dR n (Kd.o t)[k] (d+1)->dR n (Kd.o t)[k] (d+1)=dF n (Kd.o t)[k]/\dj n (Kd.o t)[k] (d+1)=true):=λh=>⟨(kS h).1,(kS h).2.1⟩;have j:G (cG (λk=>dF n k) ((Kd.o t).take (k+1))=sm+dF n (Kd.o t)[k]):=by show _=_;rw[dw _ f,M.out]
    have y:G (dj n (Kd.o t)[k] (d+1)=true->((Kd.o t).take (k+1)).all (λk=>dj n k (d+1))=true):=λh=>k7 f v h;clear q;generalize qa:(Kd.o t)[k]=kk at *;clear qa f;go_wp2_with fail;refine H N ?_;rintro e w2 ⟨rfl,P⟩;have Q:=b9 c q9 P;have u:=b9 z E Q;clear P f0 f1 f2 c q4 N;generalize qc:dR n kk (d+1)=r at *;clear qc;by_cases q7:r<0;·go_wp2;go_ret;exact⟨dd (O q7).symm,u⟩
    .by_cases F:40<1+(sm:Int)+r;·go_wp2;go_ret;refine⟨dd (oV n t d (k+1) ?_).symm,u⟩;have:=x.out E;rw[j.out];omega
     .go_wp2;go_roundw;case rel=>
       have hg:=x.out E;refine⟨k+1,E,by go_num,?_,?_,y hg.2,Q⟩;·rw[j.out,hg.1];go_num
       .rw[j.out];omega
      case measure=>exact eb
   .have C:k=J (Kd.o t):=by have:=xN.out;omega
    have HF:G (dR (n+1) t d=1+(sm:Int)):=by show _=_;have qq:=v.out;have T:=M.out;rw[C,QG]at qq T;rw[od aa.out qq (by rw[T];omega),T]
    have u:=b9 z E c;clear C g;go_wp2;go_ret;exact⟨dd HF.symm,u⟩
 .have an:((J (Kd.q t):Int) != (J (Kd.o t):Int))=false:=by simp;omega
  have ac:=a8 l;have xN:G (J (Kd.o t)=J (Kd.o t)):=D;clear m l qp;go_in;go_wp2_with (go_at_call 51;refine H (H6 _) ?_;rintro e w' ⟨rfl,rfl⟩);refine H HC ?_;rintro e w1 ⟨rfl,q6⟩;rw[ac.out];have ar:a7 w1 w.heap.size 0=some (I U 5):=kC q6 (by simp[go_sem]) R;replace m2:=kC q6 m2 R;replace hK:=hK.keepK (b6 q6 (fP X)) zI;replace z:=b9 z zS q6;replace R:=Qn R q6.size;clear an HC q6;go_wp2_with fail;clear ar;obtain⟨_,_,W,-,g⟩:=hK;cases W
  go_loopw [6,7] (λa i wr=>∃ k:Nat,k<=J (Kd.o t)/\i=I U k/\a=I U (1+(cG (λk=>dF n k) ((Kd.o t).take k):Int))/\1+cG (λk=>dF n k) ((Kd.o t).take k)<=40 /\
    ((Kd.o t).take k).all (λk=>dj n k (d+1))=true/\Bw w1 wr) (λ_ i _=>J (Kd.o t)-(intOf i).toNat)
  case atStart=>exact⟨0,E,D,by simp[cG],by simp[cG],zS,Qg _ _⟩
  case round=>
   obtain⟨k,hk,rfl,rfl,ql,o,c⟩:=hrel;have v:=a8 o;clear o;have q9:=c.size;have q4:a7 wr w.heap.size 2=some (A ka (J (Kd.o t)) kc):=kC c m2 R;generalize B:cG (λk=>dF n k) ((Kd.o t).take k)=sm at *;have M:=a8 B;clear B;by_cases ab:k<J (Kd.o t)
   .have f:k<J (Kd.o t):=E;obtain⟨b,off,rfl,j0,p⟩:=g (by intro h;rw[h]at f;simp at f);have⟨x0,x1,x2,e0,e1,e2,hr⟩:=p k f;have ae:=X b j0;have f0:=kC c e0 E;have f1:=kC c e1 E;have f2:=kC c e2 E;have q:=hr.keep (b6 c (fP X)) zI;clear g p e0 e1 e2 hr;have N:G (WU prog 221 _ _ _):=hn S (Kd.o t)[k] x0 x1 x2 (d+1) wr q (fP X) E E;have ai:=tL (Kd.o t)[k] (d+1);have O:G (dR n (Kd.o t)[k] (d+1)<0->dR (n+1) t d = -1):=λh=>rG f h;have x:G (0<=dR n (Kd.o t)[k] (d+1)->dR n (Kd.o t)[k] (d+1)=dF n (Kd.o t)[k]/\dj n (Kd.o t)[k] (d+1)=true):=λh=>⟨(kS h).1,(kS h).2.1⟩;have j:G (cG (λk=>dF n k) ((Kd.o t).take (k+1))=sm+dF n (Kd.o t)[k]):=by show _=_;rw[dw _ f,M.out]
    have y:G (dj n (Kd.o t)[k] (d+1)=true->((Kd.o t).take (k+1)).all (λk=>dj n k (d+1))=true):=λh=>k7 f v h;clear q;generalize qa:(Kd.o t)[k]=kk at *;clear qa f;go_wp2_with fail;refine H N ?_;rintro e w2 ⟨rfl,P⟩;have Q:=b9 c q9 P;have u:=b9 z E Q;clear P f0 f1 f2 c q4 N;generalize qc:dR n kk (d+1)=r at *;clear qc;by_cases q7:r<0;·go_wp2;go_ret;exact⟨dd (O q7).symm,u⟩
    .by_cases F:40<1+(sm:Int)+r;·go_wp2;go_ret;refine⟨dd (oV n t d (k+1) ?_).symm,u⟩;have:=x.out E;rw[j.out];omega
     .go_wp2;go_roundw;case rel=>
       have hg:=x.out E;refine⟨k+1,E,by go_num,?_,?_,y hg.2,Q⟩;·rw[j.out,hg.1];go_num
       .rw[j.out];omega
      case measure=>exact eb
   .have C:k=J (Kd.o t):=E;have HF:G (dR (n+1) t d=1+(sm:Int)):=by show _=_;have qq:=v.out;have T:=M.out;rw[C,QG]at qq T;rw[od aa.out qq (by rw[T];omega),T]
    have u:=b9 z E c;clear C g;go_wp2;go_ret;exact⟨dd HF.symm,u⟩
def EH:∀n,rk n:=by
 intro n;induction n with
 | zero=>intro S t c0 c1 c2 d w a;exact a.elim
 | succ n b=>exact De b
def Ff {t:K n} {c0 c1 c2:Value} (g:cW S w n t c0 c1 c2) (i:Bd S w) :
  WU prog 184 #[Za #[c0,c1,c2]] w λe j=>e=Zr (.bool (tI n t))/\Bw w j:=by obtain⟨k,l,o,m,p,r,q,rfl,rfl,rfl⟩:=g.shape;have a:=(Qg w.heap.size w).alloc E (UF k l o m p r q);have c:=g.keep (b6 a i) zI;have d:G (decide (0<dR n t 1)=tI n t):=qaP t;have h:G (WU prog 221 _ _ _):=EH n S t _ _ _ 1 _ c (fP i) E E;clear g c;go_in;go_wp2_with fail;refine H h ?_;rintro e w1 ⟨rfl,b⟩;have f:=b9 a zS b;clear a b h;go_wp2;go_ret;exact⟨fJ d,f⟩
def nj(n:Nat):Prop:=∀(S:ZN)(t:K n)(c0 c1 c2:Value)(d:Int)(w:World),cW S w n t c0 c1 c2->(Bd S w)->dj n t d=true->dF n t<=40 ->
 WU prog 185 #[Za #[c0,c1,c2]] w λe a=>e=Zr (Zt (bs (dm n t)))/\Bw w a
def rN {s:Int} {x:List UInt8} (na b:ZA) (f nc d c:Nat) (w:World) (a:(s=1/\x=[110,117,109])∨(s=2/\x=[116,101,120,116])∨(s=3/\x=[102,108,97,103])) :
  WU prog 185 #[UD s na f nc b d c] w λe g=>e=Zr (Zt (bs x))/\Bw w g:=by
 rcases a with ⟨rfl,rfl⟩|⟨rfl,rfl⟩|⟨rfl,rfl⟩;all_goals
  exact Fx
def Cd (C:nj n) (s:Int) {m:List (K n)} (na:ZA) (L nc:Nat) (V:s=4∨s=6) (T:kM S w (cW S w n) m kv) (v:Bd S w)
  (z:J m=1) (p:m.all (λx=>dj n x d)=true) (Q:1+cG (λx=>dF n x) m<=40) :
  WU prog 185 #[Za #[I U s,A na L nc,kv]] w λe D=>e=Zr (Zt (bs (if s=4 then 91 :: mK (dm n) m++[93] else 63 :: mK (dm n) m)))/\Bw w D:=by
 obtain⟨F,cap,rfl,B,f⟩:=T;match m,z with
 | [k],_=>
  obtain⟨b,off,rfl,y,o⟩:=f zS;have⟨M,N,O,r,t,u,j⟩:=o 0 zS;simp only[Zd,QC,XY]at r t u j;have a:=(Qg w.heap.size w).alloc E (UF s na L nc (b5 b off) 1 cap);have i:=v b y;have f0:=kC a r i;have f1:=kC a t i;have f2:=kC a u i;have g:=j.keep (b6 a v) zI;simp only[ZW,Qc]at p;simp only[cG]at Q;have l:=yY n k d p.1;have R:(bs (dm n k)).size<=960:=o9;have HQ:G (WU prog 185 #[Za #[M,N,O]] _ _):=C S k M N O d _ g (fP v) p.1 E;have P:G (bs [91]++bs (dm n k)++bs [93]=bs (91 :: mK (dm n) [k]++[93])):=by show _=_;rw[dE,dE];rfl
  have q:G (bs [63]++bs (dm n k)=bs (63 :: mK (dm n) [k])):=by show _=_;rw[dE];rfl
  have W:(bs [91]).size=1:=by rw[dG];rfl
  have X:(bs [91]++bs (dm n k)).size<=961:=by rw[Q3];omega
  clear f o r t u j g p l C;rw[QM];rcases V with rfl|rfl;·rw[Qm rfl];go_in;go_wp2_with fail;refine H HQ ?_;rintro e w1 ⟨rfl,c⟩;have h:=b9 a zS c;clear a c f0 f1 f2 HQ;go_wp2;go_ret;exact⟨yM P,h⟩
  .rw[Qd zC];go_in;go_wp2_with fail;refine H HQ ?_;rintro e w1 ⟨rfl,c⟩;have h:=b9 a zS c;clear a c f0 f1 f2 HQ;go_wp2;go_ret;exact⟨yM q,h⟩
def Ir (hn:nj n) {c:List (K n)} {na:ZA} {nc:Nat} (hl:cR S w l (A na (J l) nc)) (T:J l=J c) (qc:∀ s,s∈l->s.size<=8) (hr:kM S w (cW S w n) c kv) (M:Bd S w)
  (hg:c.all (λx=>dj n x d)=true) (hc:1+cG (λx=>dF n x) c<=40) (ah:J (cX (dh l (c.map (dm n))))<=960) :
  WU prog 185 #[Za #[I U 5,A na (J l) nc,kv]] w λe y=>e=Zr (Zt (bs (123 :: cX (dh l (c.map (dm n)))++[125])))/\Bw w y:=by
 obtain⟨q5,cap,rfl,R,o⟩:=hr;obtain⟨no,ag,q7,-,q6,g⟩:=hl;cases q7
 unfold maxLen at R;have N:=(Qg w.heap.size w).alloc (QD _) (UF 5 na (J l) nc q5 (J c) cap);have ae:=lP.new w (I U 5) (A na (J l) nc) (A q5 (J c) cap) 177;have an:(w.alloc (UF 5 na (J l) nc q5 (J c) cap)).heap.size=w.heap.size+1:=zS;have j0:G (∀k,(iH (dh l (c.map (dm n))) k).size<=960):=λk=>by have:=ii (dh l (c.map (dm n))) k;unfold iH;rw[dG];omega
 have HG:G (∀k (h:k<J c),dj n c[k] d=true/\dF n c[k]<=40):=λk h=>by refine⟨Qo.1 hg _ zS,?_⟩;have:=eK (λx=>dF n x) c _ (QE h);omega
 have vg:G (J l=J c):=T;clear hg T;go_in;go_wp2_with fail;generalize hW:w.alloc (UF 5 na (J l) nc q5 (J c) cap)=W at *;clear hW;go_loopw [3,4] (λa i wr=>∃k:Nat,k<=J c/\i=I U k/\a=Zt (iH (dh l (c.map (dm n))) k)/\Bw W wr) (λ_ i _=>J c-(intOf i).toNat);case atStart=>exact⟨0,E,D,D,Qg _ _⟩
 case round=>
  obtain⟨k,hk,rfl,rfl,f⟩:=hrel;have ac:=j0.out k;have⟨i0,i1,i2⟩:=ae.keep f;have q8:=f.size;by_cases qf:k<J c
  .obtain⟨b,off,rfl,F,O⟩:=o nS;have⟨y0,y1,y2,e0,e1,e2,P⟩:=O k qf;have C:=M b F;have j:Bw w wr:=b9 N E f;have f0:=kC j e0 C;have f1:=kC j e1 C;have f2:=kC j e2 C;have z:=P.keep (w':=wr.drew) (b6 j.drew M) zI;have t:=HG.out k qf;have L:=yY n c[k] d t.1;have ak:(bs (dm n c[k])).size<=960:=o9;have v:k<J l:=by rw[vg.out];exact qf
   obtain⟨nb,B,rfl,V,X⟩:=g (by intro h;rw[h]at v;simp at v);have q0:=kC j (X k v) (M nb V);have af:=qc l[k] zS;have al:=M nb V;have q:k<J (dh l (c.map (dm n))):=by rw[eY _ _ Cp];simpa using qf
   have u:bs (dh l (c.map (dm n)))[k]=l[k]++bs [58]++bs (dm n c[k]):=by rw[pm l (c.map (dm n)) k v sY q,Xe,<- nw l[k],dE,dE,fG];exact dS
   have HQ:G (WU prog 185 #[Za #[y0,y1,y2]] wr.drew λe y=>e=Zr (Zt (bs (dm n c[k])))/\Bw wr y/\a7 y w.heap.size 1=some (A (b5 nb B) (J l) nc)/\a7 y w.heap.size 2=some (A (b5 b off) (J c) cap)/\a7 y nb (B+k)=some (Zt l[k])):=by refine H (hn S c[k] y0 y1 y2 d wr.drew z (fP M) t.1 t.2) ?_;rintro e y ⟨rfl,hb⟩;have r:Bw wr y:=((Qg _ _).drew).trans hb;exact⟨D,r,kC r i1 E,kC r i2 E,kC r q0 E⟩
   clear o O e0 e1 e2 P z t L j g X q6;rcases Xa k with rfl|aj
   .have HS:G (iH (dh l (c.map (dm n))) (0+1)=bs []++(l[0]++bs [58]++bs (dm n c[0]))):=by show _=_;rw[DB q,u]
    have qq:G (iH (dh l (c.map (dm n))) 0=bs []):=D;clear q u;rw[Zd,QC]at f0;rw[Zd,QC]at f1 f2;rw[qq.out];rw[qq.out]at ac;generalize qa:bs []=acc at *;generalize bs (dm n c[0])=tk at *;generalize l[0]=nm at *;rw[QC]at q0;rw[QC]at HQ;have ad:(acc++nm).size<=968:=by rw[Q3];omega
    have q9:(acc++nm++bs [58]).size<=969:=by rw[Q3,dG];show _+1<=969;omega
    clear qa;have ql:(9223372036854775807<acc.size+nm.size)=False:=zE;have aa:(9223372036854775807<acc.size+nm.size+1)=False:=zE;have ab:(9223372036854775807<acc.size+nm.size+1+tk.size)=False:=zE;go_wp2_with fail;go_region_law (go_simp;go_at_call 185;refine H HQ ?_;rintro e w1 ⟨rfl,p,j1,j2,p0⟩);all_goals
     have m:=b9 f q8 p
     clear p f0 f1 f2
     go_wp2
     go_roundw
     case rel=>exact⟨0+1,E,ew,JQ,m⟩
     case measure=>exact eb
   .have HS:G (iH (dh l (c.map (dm n))) (k+1)=iH (dh l (c.map (dm n))) k++bs [44]++(l[k]++bs [58]++bs (dm n c[k]))):=by show _=_;rw[Fe q E,u]
    have ai:decide ((0:Int)<(k:Int))=true:=zE;clear q u;generalize iH (dh l (c.map (dm n))) k=acc at *;generalize bs (dm n c[k])=tk at *;generalize l[k]=nm at *;have am:(acc++bs [44]).size<=961:=by rw[Q3,dG];simp;omega
    have ad:(acc++bs [44]++nm).size<=969:=by rw[Q3];omega
    have q9:(acc++bs [44]++nm++bs [58]).size<=970:=by rw[Q3,dG];show _+1<=970;omega
    have ql:(9223372036854775807<acc.size+1+nm.size)=False:=zE;have aa:(9223372036854775807<acc.size+1+nm.size+1)=False:=zE;have ab:(9223372036854775807<acc.size+1+nm.size+1+tk.size)=False:=zE;go_wp2_with fail;go_region_law (go_simp;go_at_call 185;refine H HQ ?_;rintro e w1 ⟨rfl,p,j1,j2,p0⟩);all_goals
     have m:=b9 f q8 p
     clear p f0 f1 f2
     go_wp2
     go_roundw
     case rel=>exact⟨k+1,E,ew,JQ,m⟩
     case measure=>exact eb
  .have Q:k=J c:=E;have qq:G (bs [123]++iH (dh l (c.map (dm n))) k++bs [125]=bs (123 :: cX (dh l (c.map (dm n)))++[125])):=by
    show _=_;unfold iH;have e:J c=J (dh l (c.map (dm n))):=by rw[eY _ _ Cp];simp
    rw[Q,e,QG,dE,dE];rfl
   have j:Bw w wr:=b9 N E f;clear Q o g q6;generalize iH (dh l (c.map (dm n))) k=acc at *;go_wp2;go_ret;exact⟨yM qq,j⟩
def Is(m:nj n):nj (n+1):=by
 intro S t c0 c1 c2 d w s l g r;have a:=yY (n+1) t d g;obtain⟨rfl,-,q,i⟩:=s;obtain⟨na,nc,rfl,-,-,-⟩:=id q;obtain⟨u,v,f,-,-⟩:=id i;simp only[dj,Qc]at g;have b:eh (Kd.k t) (Kd.q t) (J (Kd.o t))=true:=g.1.2;have e:1+cG (λx=>dF n x) (Kd.o t)<=40:=by simpa only[dF] using r
 unfold eh at b;simp only[dm]at a ⊢;by_cases o:Kd.k t=1;·rw[Qm o,f];exact rN _ _ _ _ _ _ w zE
 rw[Qd o]at b a ⊢;by_cases p:Kd.k t=2;·rw[Qm p,f];exact rN _ _ _ _ _ _ w zE
 rw[Qd p]at b a ⊢;by_cases h:Kd.k t=3;·rw[Qm h,f];exact rN _ _ _ _ _ _ w zE
 rw[Qd h]at b a ⊢;by_cases c:Kd.k t=4;·rw[Qm c]at b ⊢;simp only[Qc,QP]at b;have:=Cd m (Kd.k t) na (J (Kd.q t)) nc E i l E g.2 e;rw[Qm c]at this;exact this
 rw[Qd c]at b a ⊢;by_cases j:Kd.k t=6;·rw[Qd E,Qm j]at b;rw[Qm j];simp only[Qc,QP]at b;have:=Cd m (Kd.k t) na (J (Kd.q t)) nc E i l E g.2 e;rw[Qd c]at this;exact this
 rw[Qd j]at a ⊢;by_cases k:Kd.k t=5;·rw[Qm k]at b;rw[k];simp only[Qc,QP]at b;simp only[Qi,Qs,Q0]at a;exact Ir m q E (ly b.2) i l g.2 e E
 .rw[Qd k,Qd j]at b;cases b
def G9:∀n,nj n:=by
 intro n;induction n with
 | zero=>intro S t c0 c1 c2 d w a;exact a.elim
 | succ n b=>exact Is b
def sK(h:k<44):k=0∨k=1∨k=2∨k=3∨k=4∨k=5∨k=6∨k=7∨k=8∨k=9∨k=10∨k=11∨k=12∨k=13∨k=14∨k=15∨k=16∨k=17∨k=18∨k=19∨k=20∨k=21∨k=22∨k=23∨k=24∨k=25∨k=26∨k=27∨k=28∨k=29∨k=30∨k=31∨k=32∨k=33∨k=34∨k=35∨k=36∨k=37∨k=38∨k=39∨k=40∨k=41∨k=42∨k=43:=E
def Tf(k:Nat):List UInt8:=(mD k).map (λv=>if v=65 then 97 else 118)
def Rk(k:Nat):Nat:=J ((fO k).filter (λp=>p==78 || p==88))
def Gn(k:Nat):Bool:=(fO k).contains 88
def C7(a:k<44)(w:World):WU prog 149 #[I U (k:Int)] w λe b=>e=Zr (I U (Rk k:Nat))/\b=w:=by
 rcases sK a with rfl|rfl|rfl|rfl|rfl|rfl|rfl|rfl|rfl|rfl|rfl|rfl|rfl|rfl|rfl|rfl|rfl|rfl|rfl|rfl|rfl|rfl|rfl|rfl|rfl|rfl|rfl|rfl|rfl|rfl|rfl|rfl|rfl|rfl|rfl|rfl|rfl|rfl|rfl|rfl|rfl|rfl|rfl|rfl;all_goals
  go_in
  go_wp2
  go_ret
  exact⟨dd zC,D⟩
def C6(a:k<44)(w:World):WU prog 150 #[I U (k:Int)] w λe b=>e=Zr (.bool (Gn k))/\b=w:=by
 rcases sK a with rfl|rfl|rfl|rfl|rfl|rfl|rfl|rfl|rfl|rfl|rfl|rfl|rfl|rfl|rfl|rfl|rfl|rfl|rfl|rfl|rfl|rfl|rfl|rfl|rfl|rfl|rfl|rfl|rfl|rfl|rfl|rfl|rfl|rfl|rfl|rfl|rfl|rfl|rfl|rfl|rfl|rfl|rfl|rfl;all_goals
  go_in
  go_wp2
  go_ret
  exact⟨fJ zC,D⟩
def Dp(a:Bool)(l:List ZB)(i:Nat):Bool:=c8 (l.getD i WT) && (!a || eM (l.getD i WT)) && !(decide (0<i) && (l.getD i WT==l.getD 0 WT))
def kI(a:Bool)(l:List ZB)(j:Nat):Bool:=(List.range j).all (Dp a l)
def LV(a:Bool)(l:List ZB)(k:Nat):kI a l (k+1)=(kI a l k && Dp a l k):=by simp[kI,X7]
def Hp{a:Bool}{j:Nat}(h:k<j)(b:Dp a l k=false):kI a l j=false:=by unfold kI;rw[ZM];exact⟨k,Q7.2 h,by simp[b]⟩
def uF{α:Type}(n:F α)(a:List UInt8):Bool:=
 match a with
 | [84]=>cM n.k n.n n.a [] 0
 | [75]=>(n.n==0) && lu n.a
 | [35]=>decide (Aq n.k.toNat<=n.n/\n.n<=Ar n.k.toNat) && n.a.toList.isEmpty
 | [78,35]=>decide (Aq n.k.toNat<=n.n/\n.n<=Ar n.k.toNat) && n.a.toList.isEmpty
 | _=>(n.n==0) && n.a.toList.isEmpty
def KL{a:ZB}(h:eM a=true):c8 a=true:=by simp only[eM,Qc]at h;exact h.1.1.1.1
def Hr(b:Bool)(a:ZB):kI b [a] 1=(c8 a && (!b || eM a)):=by simp[kI,Dp,X7]
def Dq(a:ZB):(c8 a && (!true || eM a))=eM a:=by
 cases h:eM a with
 | false=>simp
 | true=>rw[KL h];rfl
def qaO(a b:ZB):kI true [a,b] 2=(eM a && eM b && !(b==a)):=by
 have e:kI true [a,b] 2=((c8 a && (!true || eM a)) && ((c8 b && (!true || eM b)) && !(b==a))):=by simp[kI,Dp,X7]
 rw[e,Dq,Dq,Wy]
def Sx(n:F α)(h:k<44)(f:k≠24):dM n (fO k)=((J n.q==Rk k) && kI (Gn k) n.q (J n.q) && uF n (fO k)):=by
 have i:∀g,kI g n.q 0=true:=λ_=>D;unfold Rk Gn;rcases (og k h).resolve_left f with e|e|e|e|e|e|e|e;all_goals rw[e]
 .exact JN
 .exact JN
 .exact JN
 .exact JN
 .match hn:n.q with
  | []=>simp[dM,hn]
  | [a]=>
   have d:kI (([88]:List UInt8).contains 88) [a] 1=eM a:=by rw[Hr];exact Dq a
   simp only[dM,uF,hn,QM];rw[show J (List.filter (λp:UInt8=>p==78 || p==88) [88])=1 from D,d];simp[Wl]
  | a :: b :: q=>simp[dM,hn]
 .match hn:n.q with
  | []=>simp[dM,hn]
  | [a]=>
   have d:kI (([78]:List UInt8).contains 88) [a] 1=c8 a:=by rw[Hr];simp
   simp only[dM,uF,hn,QM];rw[show J (List.filter (λp:UInt8=>p==78 || p==88) [78])=1 from D,d];simp[Wl]
  | a :: b :: q=>simp[dM,hn]
 .match hn:n.q with
  | []=>simp[dM,hn]
  | [a]=>simp[dM,hn]
  | [a,b]=>have d:kI (([88,88]:List UInt8).contains 88) [a,b] 2=(eM a && eM b && !(b==a)):=qaO a b;simp only[dM,uF,hn,Qs,Q0];rw[show J (List.filter (λp:UInt8=>p==78 || p==88) [88,88])=2 from D,d];simp[Wl]
  | a :: b :: c :: q=>simp[dM,hn]
 .match hn:n.q with
  | []=>simp[dM,hn]
  | [a]=>
   have d:kI (([78,35]:List UInt8).contains 88) [a] 1=c8 a:=by rw[Hr];simp
   simp only[dM,uF,hn,QM];rw[show J (List.filter (λp:UInt8=>p==78 || p==88) [78,35])=1 from D,d];simp[Wl]
  | a :: b :: q=>simp[dM,hn]
def fS{α:Type}(n:F α)(a:Bool):Bool:=
 decide (1<=n.k/\n.k<=43) && (a==decide (36<=n.k)) &&
  (if n.k=24 then (n.n==0) && n.a.toList.isEmpty && ee n.q && (J n.q==J n.o) && !(n.q.any (λy=>y==bs [101,110,100]))
   else (J n.o==J (mD n.k.toNat)) && dM n (fO n.k.toNat))
def eU(k i:Nat):Bool:=decide (k≠24) && ((Tf k).getD i 0==97)
def qaR{op:Int}(h:1<=op/\op<=43):vu op=if 36<=op then 65 else 86:=by
 unfold vu;rw[Qd E];by_cases a:op<36;·rw[Qm a,Qd E]
 .rw[Qd a,Qm E]
def GY (po:α->Int) (n:F α) (c:Bool) :
  (fS n c && (n.o.zipIdx.all λx=>po x.1==(if eU n.k.toNat x.2=true then 65 else 86)))=(eQ po n && (c==decide (36<=n.k))):=by
 by_cases o:1<=n.k/\n.k<=43;case neg=>
  have j:fS n c=false:=by unfold fS;rw[QU o];rfl
  have l:eQ po n=false:=by unfold eQ;rw[QU o];rfl
  rw[j,l];rfl
 unfold fS;rw[QK o,X6];cases ha:(c==decide (36<=n.k)) with
 | false=>simp
 | true=>
  rw[Bool.and_true,X6];by_cases b:n.k=24
  .rw[Qm b,l5 po b,b,show (24:Int).toNat=24 from D];have z:(n.o.zipIdx.all λx=>po x.1==(if eU 24 x.2=true then 65 else 86))=n.o.all (λx=>po x==86):=by
    have:∀i,eU 24 i=false:=λi=>by simp[eU]
    simp only[this];rw[ZK,Qo,Qo];constructor;·intro h x g;obtain⟨i,a,rfl⟩:=QT g;exact h (n.o[i],i) (by rw[Zl];simp[a])
    .intro h x g;have:=Z0 g;exact h x.1 (by rw[this.2.2];exact zS)
   rw[z];unfold fD;by_cases hl:J n.q=J n.o
   .have f:(J n.q==J n.o)=true:=by simp[hl]
    rw[f];have w:fI po n (J n.q)=(ee n.q && !(n.q.any (λy=>y==bs [101,110,100])) && n.o.all (λx=>po x==86)):=by
     rw[ZK];simp only[fI,ee,fK,Qc,Qo,Q7,Bool.not_eq_true',List.any_eq_false,kr];constructor
     .intro h;refine⟨⟨λi a=>(h i a).1.1,λy C=>?_⟩,λx g=>?_⟩;·obtain⟨i,a,rfl⟩:=QT C;have:=(h i a).1.2;simp only[Qw,Qp a,Xm]at this;rw[this];decide
      .obtain⟨i,a,rfl⟩:=QT g;have:=(h i E).2;simpa [Qw,a] using this
     .rintro ⟨⟨j,l⟩,u⟩ i a;have p:i<J n.o:=E;refine⟨⟨j i a,?_⟩,?_⟩;·have:=l n.q[i] zS;simp only[Qw,Qp a,Xm];exact iG
      .have:=u n.o[i] zS;simpa [Qw,p] using this
    rw[w];cases (n.n==0)<;>cases n.a.toList.isEmpty<;>cases ee n.q<;>cases (n.q.any (λy=>y==bs [101,110,100]))<;>cases n.o.all (λx=>po x==86)<;>rfl
   .have f:(J n.q==J n.o)=false:=by simp[hl]
    rw[f];simp
  .rw[Qd b,mL po o.1 o.2 b];have t:n.k.toNat<44:=E;have m:n.k.toNat≠24:=E;generalize n.k.toNat=k at *;have q:((J n.o==J (mD k)) && (n.o.zipIdx.all λx=>po x.1==(if eU k x.2=true then 65 else 86)))=decide (n.o.map po=(mD k).map (λv=>(v.toNat:Int))):=by
    have d:∀i (h:i<J (mD k)),(if eU k i=true then (65:Int) else 86)=(((mD k)[i]).toNat:Int):=by
     intro i a;have B:=ye k _ (QE a);have r:(Tf k).getD i 0=if (mD k)[i]=65 then 97 else 118:=by unfold Tf;simp[Qw,a]
     unfold eU;rw[r,QK m];rcases B with e|e<;>rw[e]<;>rfl
    rw[ZK,Qk,Qc,Qo,QP];constructor
    .rintro ⟨hl,h⟩;apply Wk;·exact pd
     .intro i j l;simp only[Qv]at j l;have:=h (n.o[i],i) (by rw[Zl];simp[j]);simp only[QP]at this;rw[Xe,Xe,this,d i l]
    .intro h;have hl:J n.o=J (mD k):=by simpa using Xc List.length h
     refine⟨hl,λx g=>?_⟩;have r:=Z0 g;have a:x.2<J n.o:=E;have e:(n.o.map po)[x.2]?=((mD k).map (λv=>(v.toNat:Int)))[x.2]?:=by rw[h]
     simp only[Xg,Qp a,Qp (show x.2<J (mD k) by omega),ZZ,XP]at e;have s:x.1=n.o[x.2]:=by simpa using r.2.2
     rw[s,e,d x.2 E];simp
   rw[<- q];cases (J n.o==J (mD k))<;>cases dM n (fO k)<;>simp
