import Derived.Test.YtkcollkaldkccaaGreatDoorB3
set_option linter.all false
open List renaming length -> J,getD->Un
open Go.Calls renaming mono -> H
open Go.Value renaming slice->A,int->I,string->Zt,agg->Za,bool->Zb
open Go.IntKind renaming i64->U
open Go.Ending renaming returned->Zr
open Go renaming World->Zw,maxLen->WX,Calls->WU
namespace Go.Proofs.YtkcollkaldkccaaGreatDoor
open Go.RowKit Go.Proofs.Tryz
set_option maxRecDepth 100000
set_option maxHeartbeats 16000000
variable {S:ZN} {l:List ZB} {w:Zw} {s:ZB}
def fJ{a b:Bool}(h:a=b):Ending.returned (Zb a)=Zr (Zb b):=by rw[h]
def fx(x a b:Int)(w:Zw):WU prog 51 #[I U x,I U a,I U b] w λe c=>e=Zr (Zb (decide (a<=x/\x<=b)))/\c=w:=by
 by_cases h:a<=x<;>by_cases d:x<=b;all_goals
  go_in
  go_wp2
  go_ret
  exact⟨zE,D⟩
def kt(s:ZB)(w:Zw)(p:s.size<=WX):WU prog 22 #[Zt s] w λe j=>e=Zr (Zb (c8 s))/\j=w:=by
 unfold WX at p;by_cases o:1<=s.size/\s.size<=8
 .obtain⟨d,l⟩:=o;have g:decide ((1:Int)<=(s.size:Int)/\(s.size:Int)<=8)=true:=zE;have b:s.data.toList.headD 0=s[0]:=by
   cases hx:s.data.toList with
   | nil=>have:=Xc List.length hx;simp at this;simp[this]at d
   | cons a r=>simp[QX,<- Array.getElem_toList,hx]
  cases hu:rP s[0] with
  | false=>
   have HF:Hid (c8 s=false):=by show _=_;rw[c8,b,hu];simp
   unfold rP at hu;rw[XD]at hu;clear b;go_in;go_wp2_with (go_at_call 51;refine H (fx _ _ _ _) ?_;rintro e j ⟨rfl,rfl⟩;rw[g]);all_goals
    exact J5
  | true=>
   have m:Hid (s.data.toList.headD 0=s[0]/\rP s[0]=true):=⟨b,hu⟩;unfold rP at hu;rw[Qk]at hu;obtain⟨q,t⟩:=hu;clear b;go_in;go_wp2_with (go_at_call 51;refine H (fx _ _ _ _) ?_;rintro e j ⟨rfl,rfl⟩;rw[g]);go_loop [3] (λi=>∃k:Nat,k<=s.size/\i=I U k/\(s.data.toList.take k).all dz=true) (λi=>s.size-(intOf i).toNat);case atStart=>exact⟨0,E,D,zS⟩
   case round=>
    obtain⟨k,u,rfl,c⟩:=hrel;have HA:=a8 c;clear c;by_cases qf:k<s.size
    .cases hb:dz s[k] with
     | true=>
      have HB:Hid (dz s[k]=true):=hb;unfold dz at hb;rw[Qk]at hb;rcases hb with ⟨f,n⟩|⟨f,n⟩;all_goals
       go_wp2
       exact J8
     | false=>
      have HF:Hid (c8 s=false):=by show _=_;rw[c8,lS qf hb];simp
      unfold dz at hb;rw[XD]at hb;rcases (show (s[k].toNat:Int)<48∨(57<(s[k].toNat:Int)/\(s[k].toNat:Int)<97)∨122<(s[k].toNat:Int) by omega) with f|⟨f,n⟩|f;all_goals
       clear hb
       go_wp2
       all_goals first
        | (go_ret;exact⟨fJ HF.symm,D⟩)
        | (exfalso;rename_i h;simp at h;omega)
    .have HF:Hid (c8 s=true):=by show _=_;rw[c8,m.1,m.2,lT E HA.out];simp[d,l]
     go_wp2;exact J5
 .have g:decide ((1:Int)<=(s.size:Int)/\(s.size:Int)<=8)=false:=zE;have HF:Hid (c8 s=false):=by show _=_;rw[c8,QU o];simp
  go_in;go_wp2_with (go_at_call 51;refine H (fx _ _ _ _) ?_;rintro e j ⟨rfl,rfl⟩;rw[g]);exact J5
def rx {v:Value} (K:cR S w l v) (z:Bd S w) :
  WU prog 147 #[v] w λe u=>e=Zr (Zb (ee l))/\Bw w u:=by
 obtain⟨L,cap,rfl,q,n,m⟩:=K;unfold WX at q;go_in;go_wp2;go_loopw [3] (λi wr=>∃k:Nat,k<=J l/\i=I U k/\fK l k=true/\Bw w wr) (λi _=>J l-(intOf i).toNat);case atStart=>exact⟨0,E,D,by simp[fK],Qg _ _⟩
 case round=>
  obtain⟨k,M,rfl,g,c⟩:=hrel;have x:Hid (fK l k=true):=g;clear g;by_cases qf:k<J l
  .obtain⟨b,off,rfl,p,a⟩:=m nS;have f0:=kC c (a k qf) (z b p);have t:=n l[k] zS;have d:l.getD k ByteArray.empty=l[k]:=by simp[Un,qf]
   cases hnm:c8 l[k] with
   | false=>
    have HF:Hid (ee l=false):=lX qf (by simp only[gn,d,hnm,Ze]);have o:Hid (∀w,WU prog 22 #[Zt l[k]] w λe u=>e=Zr (Zb false)/\u=w):=λw=>by rw[<- hnm];exact kt _ w t
    clear m n a d hnm;generalize l[k]=s at *;go_wp2_with fail;go_quiet ((go_at_call 22;exact Q4 (o _)));go_wp2;go_ret;exact⟨fJ HF.symm,Wn c _⟩
   | true=>
    have o:Hid (∀w,WU prog 22 #[Zt l[k]] w λe u=>e=Zr (Zb true)/\u=w):=λw=>by rw[<- hnm];exact kt _ w t
    rcases Xa k with rfl|C
    .have y:Hid (fK l (0+1)=true):=by show _=_;rw[mP,x.out,gn,d,hnm];rfl
     clear m n a d hnm;rw[QC]at f0;generalize l[0]=s at *;go_wp2_with fail;go_quiet ((go_at_call 22;exact Q4 (o _)));go_wp2;go_roundw;case rel=>exact⟨0+1,E,ew,y,Wn c _⟩
     case measure=>exact eb
    .obtain⟨j,rfl⟩:∃j,k=j+1:=⟨k-1,E⟩;have f1:=kC c (a j E) (z b p);have f:l.getD j ByteArray.empty=l[j]:=by simp[Un,show j<J l by omega]
     have B:decide ((0:Int)<((j+1:Nat):Int))=true:=zS;cases hlt':ij l[j] l[j+1] with
     | false=>have HF:Hid (ee l=false):=lX qf (by simp only[gn,d,Z1,f,hlt'];simp);unfold ij at hlt';clear m n a d f hnm;generalize l[j]=r at *;generalize l[j+1]=s at *;go_wp2_with fail;go_quiet ((go_at_call 22;exact Q4 (o _)));go_wp2;go_ret;exact⟨fJ HF.symm,Wn c _⟩
     | true=>
      have y:Hid (fK l (j+1+1)=true):=by show _=_;rw[mP,x.out,gn,d,hnm,Z1,f,hlt'];simp
      unfold ij at hlt';clear m n a d f hnm;generalize l[j]=r at *;generalize l[j+1]=s at *;go_wp2_with fail;go_quiet ((go_at_call 22;exact Q4 (o _)));go_wp2;go_roundw;case rel=>exact⟨j+1+1,E,ew,y,Wn c _⟩
      case measure=>exact eb
  .have HF:Hid (ee l=true):=by show _=_;rw[ee,show J l=k by omega];exact x
   clear m n;go_wp2;go_ret;exact⟨fJ HF.symm,c⟩
def Dd(w:Zw)(f:s.size<=WX):WU prog 153 #[Zt s] w λe g=>e=Zr (Zb (eW s))/\g=w:=by
 unfold WX at f;by_cases c:s.size<=60
 .go_in;go_wp2;go_loop [3] (λi=>∃k:Nat,k<=s.size/\i=I U k/\(s.data.toList.take k).all kR=true) (λi=>s.size-(intOf i).toNat);case atStart=>exact⟨0,E,D,zS⟩
  case round=>
   obtain⟨k,l,rfl,a⟩:=hrel;have HA:=a8 a;clear a;by_cases qf:k<s.size
   .cases hb:kR s[k] with
    | true=>
     have HB:Hid (kR s[k]=true):=hb;unfold kR at hb;rw[Qk]at hb;obtain⟨h,j,b⟩:=hb;have d:((s[k].toNat:Int)==34)=false:=by simpa using b
     clear b;go_wp2;exact J8
    | false=>
     have HF:Hid (eW s=false):=by show _=_;rw[eW,lS qf hb];simp
     unfold kR at hb;rw[XD]at hb;go_wp2;all_goals first
      | (go_ret;exact⟨fJ HF.symm,D⟩)
      | (exfalso;apply hb;simp_all)
   .have HF:Hid (eW s=true):=by show _=_;rw[eW,lT E HA.out];simp[c]
    go_wp2;exact J5
 .go_in;go_wp2;go_ret;exact⟨fJ (by simp[eW,c]),D⟩
def Lg (m:Int) (x:ZB) (l:List ZB) (b:ZA) (a c:Nat) (w:Zw) (na:ZA) (nc:Nat) :
  WU prog 77 #[Uy 1 m x na (J l) nc b a c] w λe w'=>e=Zr (Zb (decide (-999999999<=m/\m<=999999999) && x.toList.isEmpty && ((J l:Int)==0) && ((a:Int)==0)))/\Bw w w':=by generalize hd:decide (-999999999<=m/\m<=999999999)=Azq;exact Tt
def Lh (m:Int) {x:ZB} (l:List ZB) (g:ZA) (b h:Nat) (w:Zw) (na:ZA) (nc:Nat) (f:x.size<=WX) :
  WU prog 77 #[Uy 2 m x na (J l) nc g b h] w λe c=>e=Zr (Zb ((m==0) && eW x && ((J l:Int)==0) && ((b:Int)==0)))/\Bw w c:=by
 generalize a:eW x=Azq;have d:Hid (eW x=Azq):=a;clear a;go_in;go_wp2_with (go_at_call 153;refine H (Dd _ f) ?_;rintro e c ⟨rfl,rfl⟩;rw[d.out]);all_goals
  go_ret
  exact⟨fJ (by simp_all),eC _ _⟩
def Lj (m:Int) (x:ZB) (l:List ZB) (b:ZA) (a c:Nat) (w:Zw) (na:ZA) (nc:Nat) :
  WU prog 77 #[Uy 3 m x na (J l) nc b a c] w λe w'=>e=Zr (Zb (decide (0<=m/\m<=1) && x.toList.isEmpty && ((J l:Int)==0) && ((a:Int)==0)))/\Bw w w':=by generalize hd:decide (0<=m/\m<=1)=Azq;exact Tt
def Lk (m:Int) (x:ZB) (l:List ZB) (b:ZA) (a c:Nat) (w:Zw) (na:ZA) (nc:Nat) :
  WU prog 77 #[Uy 4 m x na (J l) nc b a c] w λe d=>e=Zr (Zb ((m==0) && x.toList.isEmpty && ((J l:Int)==0) && decide ((a:Int)<=20)))/\Bw w d:=by
 go_in;go_wp2_with fail;all_goals
  go_ret
  exact⟨fJ (by simp_all),eC _ _⟩
def Ll (m:Int) (x:ZB) (k:ZA) (c n:Nat) {na:ZA} {nc:Nat} (j:cR S w l (A na (J l) nc)) (d:Bd S w) :
  WU prog 77 #[Uy 5 m x na (J l) nc k c n] w λe o=>e=Zr (Zb ((m==0) && x.toList.isEmpty && ((J l:Int)==(c:Int)) && ee l))/\Bw w o:=by
 by_cases g:m=0
 .subst g;cases hx:x.toList.isEmpty with
  | false=>exact Fx
  | true=>
   by_cases i:J l=c;·subst i;have a:=(Qg w.heap.size w).alloc E (.cells (Uz 5 0 x na (J l) nc k (J l) n) 31);have b:=j.keep (b6 a d) zI;have p:Hid (WU prog 147 #[A na (J l) nc] _ _):=rx b (fP d);have i:((J l:Int)==(J l:Int))=true:=zS;clear j b d;go_in;go_wp2_with fail;refine H p ?_;rintro e o ⟨rfl,f⟩;go_wp2;go_ret;exact⟨zS,b9 a zS f⟩
   .have q:((J l:Int)==(c:Int))=false:=gE;go_in;go_wp2;go_ret;exact⟨zE,eC _ _⟩
 .have h:(m==0)=false:=by simpa using g
  clear g;go_in;go_wp2;go_ret;exact⟨fJ (by simp[h]),eC _ _⟩
def Lm (m:Int) (x:ZB) (l:List ZB) (b:ZA) (a c:Nat) (w:Zw) (na:ZA) (nc:Nat) :
  WU prog 77 #[Uy 6 m x na (J l) nc b a c] w λe d=>e=Zr (Zb ((m==0) && x.toList.isEmpty && ((J l:Int)==0) && decide ((a:Int)<=1)))/\Bw w d:=by
 go_in;go_wp2_with fail;all_goals
  go_ret
  exact⟨fJ (by simp_all),eC _ _⟩
def AL (s m:Int) (x:ZB) (l:List ZB) (b:ZA) (d c:Nat) (w:Zw) (na:ZA) (nc:Nat)
  (g:(s==1)=false) (h:(s==2)=false) (i:(s==3)=false) (j:(s==4)=false) (k:(s==5)=false) (n:(s==6)=false) :
  WU prog 77 #[Uy s m x na (J l) nc b d c] w λe f=>e=Zr (Zb false)/\Bw w f:=by have a:=(Qg w.heap.size w).alloc E (.cells (Uz s m x na (J l) nc b d c) 31);go_in;go_wp2;go_ret;exact⟨D,a⟩
def ug (s m:Int) (x:ZB) (l:List ZB) (b:ZA) (a c:Nat) (w:Zw) (na:ZA) (nc:Nat) (o:x.size<=WX)
  (S:ZN) (n:cR S w l (A na (J l) nc)) (k:Bd S w) :
  WU prog 77 #[Uy s m x na (J l) nc b a c] w λe p=>e=Zr (Zb (cM s m x l a))/\Bw w p:=by
 unfold cM;by_cases d:s=1;·subst d;rw[Qm rfl];exact Lg m x l b a c w na nc
 rw[Qd d];by_cases f:s=2;·subst f;rw[Qm rfl];exact Lh m l b a c w na nc o
 rw[Qd f];by_cases g:s=3;·subst g;rw[Qm rfl];exact Lj m x l b a c w na nc
 rw[Qd g];by_cases h:s=4;·subst h;rw[Qm rfl];exact Lk m x l b a c w na nc
 rw[Qd h];by_cases i:s=5;·subst i;rw[Qm rfl];exact Ll m x b a c n k
 rw[Qd i];by_cases j:s=6;·subst j;rw[Qm rfl];exact Lm m x l b a c w na nc
 rw[Qd j];exact AL s m x l b a c w na nc (by simp[d]) (by simp[f]) (by simp[g]) (by simp[h]) (by simp[i]) (by simp[j])
def fj {R k i:Nat} (o:Obj) (h:d9 w R s i false) (g:(cF s i).toNat=k):∃ d,d=w.alloc o/\d.heap.size=w.heap.size+1/\a7 (w.alloc o) R 2=some (Zb false) /\
  Hid (WU prog 218 #[.pointer (b5 R 0)] d λe c=>e=Zr (I .u8 ((k:Nat):Int))/\cH R w c/\d9 c R s i false/\c.heap.size=w.heap.size+1/\c.heap[w.heap.size]?=some o):=by have b:Bw w (w.alloc o):=eC _ _;have a:d9 (w.alloc o) R s i false:=(b.block R h.lt).trans h;refine⟨_,D,zS,a.cell2,(kA a).mono λe c ⟨f,k,j⟩=>?_⟩;subst j;rw[g]at f;exact⟨f,((cH.of_below b).trans (cH.refl R _)).drewN k,a.drewN k,zS,Qh _ _⟩
