import Derived.Test.YtkcollkaldkccaaGreatDoorB1
set_option linter.all false
open List renaming length -> J,range->Ua,getD->Un
open Go.Calls renaming mono -> H
open Go.Value renaming slice->A,int->I,string->Zt,pointer->Zp,agg->Za,tuple->Zu,bool->Zb,slice->Uc
open Go.IntKind renaming i64->U
open Go.Ending renaming returned->Zr,returned->Ue
open Go.Obj renaming cells->Zc
open Option renaming none->Y,some->Z
open Go renaming World->Zw,Value->Zv,maxLen->WX,sliced->Ux,Calls->WU
open Go.Instr renaming typeAssert->W8
open ByteArray renaming empty->WT
open Go.Lib renaming decDigits->WZ,itoa->W6
open Go.World renaming frozen?->W7,setCell->Ug,cell?->WY
open UInt8 renaming ofNat->Um
open Go.Proofs.Tryz renaming prog->WV
open Go.RowKit renaming Hid->G
namespace Go.Proofs.YtkcollkaldkccaaGreatDoor
open Go.RowKit Go.Proofs.Tryz
set_option maxRecDepth 100000
set_option maxHeartbeats 16000000
variable {x s:ZB} {l:List ZB} {w w' w1 wr w2 w3 c a u u' W W1:Zw} {na ao:ZA} {nc n M g cap m L b j i rb N Azq Gzq X:Nat} {S S' P Q:ZN} {p:UInt8} {α β:Type} {k d:Int} {e t:TypeId} {c0 c1 c2 c3 c4 v kv v3 v4 p0 p1 p2 g0 g1 g2 nv:Zv} {xs:List Zv} {one:Obj} {parts:List (List UInt8)}
def qaA (m:Int) (x:ZB) (l:List ZB) (c:ZA) (a d:Nat) (w:Zw) (na:ZA) (nc:Nat) :
  WU WV 158 #[Uy 1 m x na (J l) nc c a d] w λe b=>e=Zr (Zb (decide (-999999999<=m/\m<=999999999) && x.toList.isEmpty && ((J l:Int)==0) && ((a:Int)==0)))/\Bw w b:=by
 go_in;go_wp2_with (go_at_call 197;refine H (mX _ _) ?_;rintro e b ⟨rfl,rfl⟩);all_goals
  go_ret
  exact⟨cY (by simp_all),eC _ _⟩
def qaB (m:Int) (l:List ZB) (d:ZA) (a f:Nat) (w:Zw) (na:ZA) (nc:Nat) (c:x.size<=WX) :
  WU WV 158 #[Uy 2 m x na (J l) nc d a f] w λe b=>e=Zr (Zb ((m==0) && eW x && ((J l:Int)==0) && ((a:Int)==0)))/\Bw w b:=by
 go_in;go_wp2_with (go_at_call 198;refine H (yd _ c) ?_;rintro e b ⟨rfl,rfl⟩);all_goals
  go_ret
  exact⟨cY (by simp_all),eC _ _⟩
def qaC (m:Int) (x:ZB) (l:List ZB) (h:ZA) (d i:Nat) (w:Zw) (na:ZA) (nc:Nat) :
  WU WV 158 #[Uy 3 m x na (J l) nc h d i] w λe j=>e=Zr (Zb (decide (0<=m/\m<=1) && x.toList.isEmpty && ((J l:Int)==0) && ((d:Int)==0)))/\Bw w j:=by
 by_cases a:m=0
 .subst a;go_in;go_wp2_with fail;all_goals
   go_ret
   exact⟨cY (by simp_all),eC _ _⟩
 by_cases b:m=1
 .subst b;go_in;go_wp2_with fail;all_goals
   go_ret
   exact⟨cY (by simp_all),eC _ _⟩
 have c:decide (0<=m/\m<=1)=false:=zE;have f:(m==0)=false:=by simpa using a
 have g:(m==1)=false:=by simpa using b
 rw[c];clear c a b;go_in;go_wp2_with fail;all_goals
  go_ret
  exact⟨zS,eC _ _⟩
def qaD (m:Int) (x:ZB) (l:List ZB) (b:ZA) (a c:Nat) (w:Zw) (na:ZA) (nc:Nat) :
  WU WV 158 #[Uy 4 m x na (J l) nc b a c] w λe d=>e=Zr (Zb ((m==0) && x.toList.isEmpty && ((J l:Int)==0) && decide ((a:Int)<=20)))/\Bw w d:=by
 go_in;go_wp2_with fail;all_goals
  go_ret
  exact⟨cY (by simp_all),eC _ _⟩
def qaF (m:Int) (x:ZB) (l:List ZB) (b:ZA) (a c:Nat) (w:Zw) (na:ZA) (nc:Nat) :
  WU WV 158 #[Uy 6 m x na (J l) nc b a c] w λe d=>e=Zr (Zb ((m==0) && x.toList.isEmpty && ((J l:Int)==0) && decide ((a:Int)<=1)))/\Bw w d:=by
 go_in;go_wp2_with fail;all_goals
  go_ret
  exact⟨cY (by simp_all),eC _ _⟩
def qaE (m:Int) (x:ZB) (o:ZA) (c p:Nat) (n:cR S w l (A na (J l) nc)) (k:Bd S w) :
  WU WV 158 #[Uy 5 m x na (J l) nc o c p] w λe i=>e=Zr (Zb ((m==0) && x.toList.isEmpty && ((J l:Int)==(c:Int)) && ee l))/\Bw w i:=by
 by_cases g:m=0
 .subst g;cases hx:x.toList.isEmpty with
  | false=>
   go_in;go_wp2_with fail;all_goals
    go_ret
    exact⟨zS,eC _ _⟩
  | true=>
   by_cases d:J l=c
   .subst d;have a:=(Qg w.heap.size w).alloc E (UA 5 0 x na (J l) nc o (J l) p);have b:=n.keep (b6 a k) zI;have j:=a8 (nt b);have d:((J l:Int)==(J l:Int))=true:=zS;clear n b k;cases h0:((J l:Int)==0) with
    | true=>go_in;go_wp2_with fail;refine H j ?_;rintro e i ⟨rfl,rfl⟩;go_wp2;go_ret;exact⟨zS,a⟩
    | false=>go_in;go_wp2_with fail;refine H j ?_;rintro e i ⟨rfl,rfl⟩;go_wp2;go_ret;exact zE
   .have f:((J l:Int)==(c:Int))=false:=by simp;omega
    rw[f];clear d;cases h0:((J l:Int)==0)<;>cases h1:((c:Int)==0)
    all_goals
     go_in
     go_wp2
     go_ret
     exact⟨D,eC _ _⟩
 .have h:(m==0)=false:=by simpa using g
  rw[h];clear g;go_in;go_wp2_with fail;all_goals
   go_ret
   exact⟨zS,eC _ _⟩
def GZ (s m:Int) (x:ZB) (l:List ZB) (a:ZA) (c b:Nat) (w:Zw) (na:ZA) (nc:Nat)
  (f:(s==1)=false) (g:(s==2)=false) (h:(s==3)=false) (i:(s==4)=false) (j:(s==5)=false) (k:(s==6)=false) :
  WU WV 158 #[Uy s m x na (J l) nc a c b] w λe d=>e=Zr (Zb false)/\Bw w d:=by
 go_in;go_wp2_with fail;all_goals
  go_ret
  exact⟨D,eC _ _⟩
def Ob (s m:Int) (b:ZA) (a c:Nat) (o:x.size<=WX)
  (n:cR S w l (A na (J l) nc)) (k:Bd S w) :
  WU WV 158 #[Uy s m x na (J l) nc b a c] w λe p=>e=Zr (Zb (cM s m x l a))/\Bw w p:=by
 unfold cM;by_cases d:s=1;·subst d;rw[Qm rfl];exact qaA m x l b a c w na nc
 rw[Qd d];by_cases f:s=2;·subst f;rw[Qm rfl];exact qaB m l b a c w na nc o
 rw[Qd f];by_cases g:s=3;·subst g;rw[Qm rfl];exact qaC m x l b a c w na nc
 rw[Qd g];by_cases h:s=4;·subst h;rw[Qm rfl];exact qaD m x l b a c w na nc
 rw[Qd h];by_cases i:s=5;·subst i;rw[Qm rfl];exact qaE m x b a c n k
 rw[Qd i];by_cases j:s=6;·subst j;rw[Qm rfl];exact qaF m x l b a c w na nc
 rw[Qd j];exact GZ s m x l b a c w na nc (by simp[d]) (by simp[f]) (by simp[g]) (by simp[h]) (by simp[i]) (by simp[j])
def Nt (s m:Int) (N:x.size<=WX) (k:ZA) (j n:Nat) {a v q:Nat} (d:Int) {p:Int} (z:cR S w l (A na (J l) nc)) (r:∀ b,S b->b<w.heap.size/\b≠a)
  (hp:M9 w a v q p 120 158) (L:0<=p) (M:p<=120) :
  WU WV 196 #[Uy s m x na (J l) nc k j n,I U d,Zp (b5 a 0),Zp (b5 v 0),Zp (b5 q 0)] w
   λe o=>e=Zr (Zb (decide (p+1<=120) && decide (d<=6) && cM s m x l j))/\k6 o a (p+1)/\cH a w o:=by
 have C:=hp.parts.lt;have i:cH a w (w.setCell ⟨a,0,Y⟩ (I U (p+1))):=cH.set a 0 _ (I U (p+1));have c:=i.trans (cH.alloc a _ (UA s m x na (J l) nc k j n));have g:k6 ((w.setCell ⟨a,0,Y⟩ (I U (p+1))).alloc (UA s m x na (J l) nc k j n)) a (p+1):=(hp.parts.set (p+1)).keep (eC _ _);have h:=z.keep (c.same r) zI;have y:G (WU WV 158 _ _ _):=Ob s m k j n N h (λb B=>by have:=(r b B).1;simp;omega);have c0:=hp.parts.cell;have f0:=hp.parts.free;have O:=hp.max;have a0:=hp.acc;have nm:=hp.nm;have P:=hp.na;have V:v<w.heap.size:=dK O;have T:q<w.heap.size:=dK a0;have K:w.heap.size≠a:=E;clear z h hp i r;by_cases Q:p+1<=120
 .by_cases R:d<=6;·go_in;go_wp2_with fail;refine H y ?_;rintro e o ⟨rfl,f⟩;have u:k6 o a (p+1):=(f.block a zE).trans g;have t:=c.trans (cH.of_below (bb:=a) f);clear f y;go_wp2;go_ret;exact⟨zE,u,t⟩
  .go_in;go_wp2;go_ret;exact⟨zE,g,c⟩
 .go_in;go_wp2;go_ret;exact⟨zE,g,c⟩
def pT{p:α->Bool}{l:List α}{k:Nat}(h:k<J l)(b:(l.take k).all p=true)(a:p l[k]=true):(l.take (k+1)).all p=true:=by rw[Qq h,Zj,b];simpa using a
def px(n:Nat)(t:T n)(d p:Int)(a:Nat)(w:Zw)(e:Ending)(w':Zw):Prop:=
 cH a w w' /\ ∃r,e=Zr (Zb r)/\(r=true->cS n t d=true/\p+(cJ n t:Int)<=120/\k6 w' a (p+cJ n t))/\(r=false->¬(cS n t d=true/\p+(cJ n t:Int)<=120))
def clT(c b a:Nat):Zv:=.func (.func 196) #[] #[Zp (b5 c 0),Zp (b5 b 0),Zp (b5 a 0)]
def tq(n:Nat):Prop:=∀(S:ZN)(t:T n)(c0 c1 c2 c3 c4:Zv)(d p:Int)(a e c:Nat)(w:Zw),cT S w n t c0 c1 c2 c3 c4->(∀b,S b->b<w.heap.size/\b≠a)->M9 w a e c p 120 158->0<=p->p<=120->1<=d->d<=7 ->
 WU WV 195 #[Za #[c0,c1,c2,c3,c4],I U d,clT a e c] w (px n t d p a w)
def K7(a b c d:Zv){e:Zv}(h:∃x l k,e=A x l k)(w:Zw):WU WV 307 #[Za #[a,b,c,d,e]] w λg i=>g=Zr e/\Bw w i:=by obtain⟨x,l,k,rfl⟩:=h;have f:=(Qg w.heap.size w).alloc E (Zc #[a,b,c,d,A x l k] 31);go_in;go_wp2;go_ret;exact⟨D,f⟩
def MG {n:Nat} {t:T (n+1)} {d p:Int} (k:Nat) (f:k<J (F.o t))
  (h:¬(cS n (F.o t)[k] (d+1)=true/\p+1+(cG (λx=>cJ n x) ((F.o t).take k):Int)+(cJ n (F.o t)[k]:Int)<=120)):¬(cS (n+1) t d=true/\p+(cJ (n+1) t:Int)<=120):=by rintro ⟨a,c⟩;apply h;simp only[cS,Qc,Qo]at a;refine⟨a.2 _ zS,?_⟩;have e:=dw (λx=>cJ n x) f;have b:=eV (λx=>cJ n x) ((F.o t).take (k+1)) ((F.o t).drop (k+1));rw[Q2]at b;simp only[cJ]at c;omega
def IC(hn:tq n):tq (n+1):=by
 intro S t c0 c1 c2 c3 c4 d p z mb ab w ht W g ai aj an ao;obtain⟨rfl,rfl,rfl,al,-,-,h3,h4⟩:=ht;obtain⟨na,nc,rfl,-,-,-⟩:=id h3;obtain⟨ka,kc,rfl,aa,-⟩:=id h4;unfold WX at aa;have m:=g.parts.lt;generalize hs:F.k t=s at *;have q8:=(Qg w.heap.size w).alloc E (UA s (F.n t) (F.a t) na (J (F.q t)) nc ka (J (F.o t)) kc);have R:cH z w (w.alloc (UA s (F.n t) (F.a t) na (J (F.q t)) nc ka (J (F.o t)) kc)):=cH.of_below q8;have qc:=h3.keep (R.same W) zI;have qq:G (WU WV 196 _ _ _):=Nt s (F.n t) al ka (J (F.o t)) kc d qc (λb Q=>by have:=W b Q;simp;omega) (g.keep R (g.parts.keep q8)) ai aj;unfold clT;go_in;go_wp2_with fail;refine H qq ?_;rintro e w1 ⟨rfl,j3,j⟩;have y:=R.trans j;have j0:=g.keep y j3;have ar:=y.size;have aq:w.heap.size<w1.heap.size:=by have:=j.size;simp at this;omega
 have k0:a7 w1 w.heap.size 0=Z (I U s):=j.cell (by simp[go_sem]) E;have k1:a7 w1 w.heap.size 1=Z (I U (F.n t)):=j.cell (by simp[go_sem]) E;have k2:a7 w1 w.heap.size 2=Z (Zt (F.a t)):=j.cell (by simp[go_sem]) E;have k3:a7 w1 w.heap.size 3=Z (A na (J (F.q t)) nc):=j.cell (by simp[go_sem]) E;have k4:a7 w1 w.heap.size 4=Z (A ka (J (F.o t)) kc):=j.cell (by simp[go_sem]) E;have q9:=h4.keepT (y.same W) zI;clear qq R q8 qc j h3 h4;generalize o:(decide (p+1<=120) && decide (d<=6) && cM s (F.n t) (F.a t) (F.q t) (J (F.o t)))=ok;cases ok with
 | false=>
  have HP:G (px (n+1) t d p z w (Zr (Zb false)) w1):=by
   refine⟨y,false,D,zS,λ_=>?_⟩;rintro ⟨qa,hc⟩;simp only[cS,Qc,Qk]at qa;have ha:cM s (F.n t) (F.a t) (F.q t) (J (F.o t))=true:=by rw[<- hs];exact qa.1.2
   have:p+1<=120:=by simp only[cJ]at hc;omega
   rw[ha,QK qa.1.1,QK this]at o;cases o
  clear o hs;go_wp2;go_ret;exact HP
 | true=>
  simp only[Qc,Qk]at o;have ae:G ((decide (d<=6) && oF (show F (T n) from t))=true):=by show (_ && cM (F.k t) _ _ _ _)=_;rw[hs,o.2,QK o.1.2];rfl
  obtain⟨⟨ah,ap⟩,-⟩:=o;clear hs;go_wp2_with fail;refine H (K7 _ _ _ _ ⟨_,_,_,D⟩ _) ?_;rintro e w2 ⟨rfl,C⟩;have ac:cH z w w2:=y.trans (cH.of_below C);have ak:k6 w2 z (p+1):=j3.keep C;have au:=C.size;have h5:=q9.keepT ((cH.of_below (bb:=z) C).same (λb Q=>by have:=W b Q;omega)) zI;clear q9 C j0 y j3 k0 k1 k2 k3 k4;obtain⟨_,_,ag,-,l⟩:=h5;cases ag
  go_wp2;go_loopw [18] (λi wr=>∃ k:Nat,k<=J (F.o t)/\i=I U k/\cH z w2 wr/\k6 wr z (p+1+(cG (λx=>cJ n x) ((F.o t).take k):Int)) /\
    p+1+(cG (λx=>cJ n x) ((F.o t).take k):Int)<=120/\((F.o t).take k).all (λx=>cS n x (d+1))=true) (λi _=>J (F.o t)-(intOf i).toNat)
  case atStart=>exact⟨0,E,D,cH.refl _ _,by simpa [cG] using ak,by simpa [cG] using ah,zS⟩
  case round=>
   obtain⟨k,hk,rfl,c,u,a,X⟩:=hrel;have f:=a8 X;clear X;have av:=c.size;have N:=ac.trans c;have am:=u.lt;by_cases m:k<J (F.o t)
   .obtain⟨b,off,rfl,af,M⟩:=l (by intro h;rw[h]at m;simp at m);have⟨x0,x1,x2,x3,x4,e0,e1,e2,e3,e4,hr⟩:=M k m;have K:=W b af;have f0:=c.cell e0 K.2;have f1:=c.cell e1 K.2;have f2:=c.cell e2 K.2;have f3:=c.cell e3 K.2;have f4:=c.cell e4 K.2;have q:=hr.keep (c.same (λb Q=>by have:=W b Q;omega)) zI;obtain⟨y0,y1,y2,ya,yl,yc,za,zl,zc,rfl,rfl,rfl,rfl,rfl⟩:=q.shape;clear l M e0 e1 e2 e3 e4 hr;have j2:=(Qg wr.heap.size wr).alloc E (UA y0 y1 y2 ya yl yc za zl zc);have O:cH z wr (wr.alloc (UA y0 y1 y2 ya yl yc za zl zc)):=cH.of_below j2;have q5:=q.keep (O.same (λb Q=>by have:=W b Q;omega)) zI;have L:=g.keep (N.trans O) (u.keep j2);have qq:G (WU WV 195 _ _ _):=hn S (F.o t)[k] _ _ _ _ _ (d+1) _ z mb ab _ q5 (λb Q=>by have:=W b Q;simp;omega) L E a E E;have B:=@MG n t d p k m;have v:G (cG (λx=>cJ n x) ((F.o t).take (k+1))=cG (λx=>cJ n x) ((F.o t).take k)+cJ n (F.o t)[k]):=dw _ m;clear q q5 L j2;unfold clT at qq;go_wp2_with fail;refine H qq ?_;rintro e w3 ⟨q6,r,rfl,P,q7⟩;have V:=c.trans (O.trans q6);cases r with
    | false=>have HP:G (px (n+1) t d p z w (Zr (Zb false)) w3):=⟨ac.trans V,false,D,zS,λ_=>B (q7 D)⟩;clear B q7 P v f q6 V O N;go_wp2;go_ret;exact HP
    | true=>
     have⟨qa,hc,ad⟩:=P D;have HR:G (cH z w2 w3/\k6 w3 z (p+1+(cG (λx=>cJ n x) ((F.o t).take (k+1)):Int))/\p+1+(cG (λx=>cJ n x) ((F.o t).take (k+1)):Int)<=120/\((F.o t).take (k+1)).all (λx=>cS n x (d+1))=true):=by
      refine⟨V,?_,?_,pT m f qa⟩;·rw[v.out,show p+1+((cG (λx=>cJ n x) ((F.o t).take k)+cJ n (F.o t)[k]:Nat):Int)=p+1+(cG (λx=>cJ n x) ((F.o t).take k):Int)+(cJ n (F.o t)[k]:Int) by omega];exact ad
      .rw[v.out];omega
     clear B q7 P v f q6 V O N qa hc ad u a;go_wp2;go_roundw;case rel=>exact⟨k+1,E,by go_num,HR.1,HR.2.1,HR.2.2.1,HR.2.2.2⟩
     case measure=>exact eb
   .have ql:k=J (F.o t):=E;have HP:G (px (n+1) t d p z w (Zr (Zb true)) wr):=by
     have h1:=f.out;rw[ql,QG]at h1 u a;have e:p+1+(cG (λx=>cJ n x) (F.o t):Int)=p+(cJ (n+1) t:Int):=by simp only[cJ];omega
     rw[e]at u a;exact⟨N,true,D,λ_=>⟨by have:=ae.out;simp only[cS,this,h1,ZV],a,u⟩,zS⟩
    clear ql l f N u a;go_wp2;go_ret;exact HP
def MF:∀n,tq n:=by
 intro n;induction n with
 | zero=>intro S t c0 c1 c2 c3 c4 d p f e c w a;exact a.elim
 | succ n b=>exact IC b
def KX {t:T n} (i:cT S w n t c0 c1 c2 c3 c4) (hB:Bd S w) :
  WU WV 157 #[Za #[c0,c1,c2,c3,c4],I U 120,.func (.func 158) #[] #[]] w λe B=>e=Zr (Zb (dB n t))/\Bw w B:=by
 have z:∀(j:Fn)(first cap:Array Zv)(w:Zw),(Instr.makeFunc j first cap).run WV w=.ok (.func j first cap) w:=λ_ _ _ _=>D;obtain⟨l,m,o,p,s,q,u,x,v,rfl,rfl,rfl,rfl,rfl⟩:=i.shape;have hb:Bw w ((((w.alloc (UA l m o p s q u x v)).alloc (Zc #[I U 120] 3)).alloc (Zc #[.func (.func 158) #[] #[]] 60)).alloc (Zc #[I U 0] 3)):=
  (((eC _ _).alloc zS _).alloc zE _).alloc zE _
 have d:=i.keep (b6 hb hB) zI;have f:G (WU WV 195 _ _ _):=MF n S t _ _ _ _ _ 1 0 (w.heap.size+1+1+1) (w.heap.size+1) (w.heap.size+1+1) _ d (λb hb=>y8)
  ⟨by rw[show w.heap.size+1+1+1=(((w.alloc (UA l m o p s q u x v)).alloc (Zc #[I U 120] 3)).alloc (Zc #[.func (.func 158) #[] #[]] 60)).heap.size by simp];exact k6.new _ 0,
   by simp[go_sem],ke,E,E⟩ E E E E
 unfold clT at f;clear i d;go_in;go_wp2_with fail;refine H f ?_;rintro e w1 ⟨k,r,rfl,a,c⟩;have g:=hb.trans (k.below E zE);have K:r=dB n t:=by
  cases r with
  | true=>obtain⟨y,C,-⟩:=a D;unfold dB;rw[y,QK E];rfl
  | false=>symm;rw[XL];intro h;simp only[dB,Qc,Qk]at h;exact c D ⟨h.1,E⟩
 clear a c k hb f;go_wp2;go_ret;exact⟨D,g⟩
def rt (n:Nat) (S:ZN) (t:T n) (c0 c1 c2 c3 c4:Zv) (w:Zw) (ht:cT S w n t c0 c1 c2 c3 c4) (b:Bd S w) :
  WU WV 97 #[Za #[c0,c1,c2,c3,c4]] w λe c=>e=Zr (Zb (dB n t))/\Bw w c:=by obtain⟨d,f,g,h,j,i,k,m,l,rfl,rfl,rfl,rfl,rfl⟩:=ht.shape;have qp:=(Qg w.heap.size w).alloc E (UA d f g h j i k m l);have⟨zF,a⟩:=ht.step b qp;have HC:=a8 (KX zF a);exact TA
def dL(S:ZN)(w:Zw):(n:Nat)->T n->Zv->Prop
 | 0,_,_=>False
 | n+1,t,v=>
  (F.k t=1/\v=.iface 120 (I U (F.n t)))∨(F.k t=2/\v=.iface 121 (Zt (F.a t))) ∨
  (F.k t=3/\v=.iface 123 (Zb (F.n t==1))) ∨
  (F.k t=4/\∃a,v=.iface 125 a/\fB S w (dL S w n) (F.o t) a) ∨
  (F.k t=5/\∃b a,v=.iface 128 (Za #[b,a])/\cR S w (F.q t) b/\fB S w (dL S w n) (F.o t) a) ∨
  (F.k t=6/\∃a,v=.iface 129 a/\fB S w (dL S w n) (F.o t) a)
def dL.keep(i:gw S w w')(g:∀b,S b->S' b):∀ {n:Nat} {t:T n} {v:Zv},dL S w n t v->dL S' w' n t v:=by
 intro n;induction n with
 | zero=>intro t v h;exact h.elim
 | succ n j=>
  intro t v h;rcases h with h|h|h|⟨c,f,d,a⟩|⟨c,l,f,d,k,a⟩|⟨c,f,d,a⟩;·exact .inl h
  .exact .inr (.inl h)
  .exact .inr (.inr (.inl h))
  .exact .inr (.inr (.inr (.inl ⟨c,f,d,a.keep i g λ_ _ _ e=>j e⟩)))
  .exact .inr (.inr (.inr (.inr (.inl ⟨c,l,f,d,k.keep i g,a.keep i g λ_ _ _ e=>j e⟩))))
  .exact .inr (.inr (.inr (.inr (.inr ⟨c,f,d,a.keep i g λ_ _ _ e=>j e⟩))))
def dL.iface:∀ {n:Nat} {t:T n} {v:Zv},dL S w n t v->∃u x,v=.iface u x:=by
 intro n;cases n with
 | zero=>intro t v h;exact h.elim
 | succ n=>
  intro t v h;rcases h with h|h|h|⟨c,d,a,b⟩|⟨c,f,d,a,e,b⟩|⟨c,d,a,b⟩;·exact⟨_,_,h.2⟩
  .exact⟨_,_,h.2⟩
  .exact⟨_,_,h.2⟩
  .exact⟨_,_,a⟩
  .exact⟨_,_,a⟩
  .exact⟨_,_,a⟩
def Tryz.info_at:(prog.info? 71).map (λi=>(i.zero,i.size,i.bytes))=Z (Z .nilIface,1,16):=gZ
structure td(S:ZN)(M n:Nat)(ks:List (T n))(w1:Zw)(k:Nat)(v:Zv)(wr:Zw):Prop where
 below:Below M w1 wr
 row:∃xs:List Zv,wr.ownsRow M 71 1 v k xs/\∀j (h:j<J ks) (hx:j<J xs),dL (λb=>S b∨(M<=b/\b<wr.heap.size/\v.ownBlock≠Z b)) wr n ks[j] xs[j]
def Hd {a:List (T n)} {k:Nat} {box:Obj} (h:td S M n a w1 k v wr) (d:k<J a) (hS:∀ b,S b->b<M) (c:M<=wr.heap.size)
  (qd:wr.ownsRow M 71 1 v k xs) (qw:∀j (h:j<J a) (hx:j<J xs),dL (λb=>S b∨(M<=b/\b<wr.heap.size/\v.ownBlock≠Z b)) wr n a[j] xs[j])
  (qi:Below (wr.alloc box).heap.size (wr.alloc box) w2) (qm:dL (λb=>S b∨((wr.alloc box).heap.size<=b/\b<w2.heap.size)) w2 n a[k] kv)
  (jg:w3.ownsRow M 71 1 (A (b5 g 0) (k+1) cap) (k+1) (xs++[kv])) (qg:(w2.alloc one).grownBy w3 v.ownBlock) (qy:v.ownBlock=Z g∨g=w2.heap.size+1) :
  td S M n a w1 (k+1) (A (b5 g 0) (k+1) cap) w3:=by have qu:=qi.size;exact Yk
def Bm(S:ZN)(n:Nat)(t:T n)(w:Zw)(e:Ending)(w':Zw):Prop:=
 Bw w w' /\ ∃v,e=Zr v/\dL (λb=>S b∨(w.heap.size<=b/\b<w'.heap.size)) w' n t v
def pp(n:Nat):Prop:=∀(S:ZN)(t:T n)(c0 c1 c2 c3 c4:Zv)(d:Int)(w:Zw),cT S w n t c0 c1 c2 c3 c4->(Bd S w)->cS n t d=true->cJ n t<=120 ->
 WU WV 98 #[Za #[c0,c1,c2,c3,c4]] w (Bm S n t w)
def mR{l:List (T n)}(h:l.all (λx=>cS n x d)=true):J l<=cG (λx=>cJ n x) l:=by
 induction l with
 | nil=>simp
 | cons x r a=>simp only[ZW,Qc]at h;have b:=D7 n x d h.1;have c:=a h.2;simp only[cG,Qs];omega
def AO (n:Nat) (hn:pp n) (S:ZN) (ks:List (T n)) (v:Zv) (d:Int) (w:Zw) (V:dn S w (cT S w n) ks v) (L:Bd S w) (hg:ks.all (λx=>cS n x d)=true) (hc:1+cG (λx=>cJ n x) ks<=120) :
  WU WV 159 #[v] w λe P=>Bw w P/\∃v',e=Zr v' /\ fB (λb=>S b∨(w.heap.size<=b/\b<P.heap.size)) P (dL (λb=>S b∨(w.heap.size<=b/\b<P.heap.size)) P n) ks v':=by
 obtain⟨ao,cap,rfl,M,c⟩:=V;have ac:J ks<=120:=by have:=mR hg;omega
 have C:G (∀k (h:k<J ks),cS n ks[k] d=true/\cJ n ks[k]<=120):=by intro k h;exact MM
 clear hg hc M;have⟨i0,hi,s,t,u⟩:=QY Tryz.info_at;have Q:G (_/\_/\_/\_):=⟨hi,s,t,u⟩;clear hi s t u;go_in;go_wp2;go_loopw [3,8] (λv i wr=>∃k:Nat,k<=J ks/\i=I U k/\td S w.heap.size n ks w k v wr) (λ_ i _=>J ks-(intOf i).toNat);case atStart=>exact⟨0,E,D,Qg _ _,[],QV _ _ _ _,zS⟩
 case round=>
  obtain⟨k,hk,rfl,R⟩:=hrel;have⟨xs,m,O⟩:=R.row;obtain⟨va,vc,rfl⟩:=ep m;have a:=R.below;have qq:=a.size;have X:=a8 R;have B:=a8 m;have HK:=a8 O;clear R m O;by_cases qf:k<J ks
  .obtain⟨b,off,rfl,j0,l⟩:=c nS;have⟨y0,y1,y2,y3,y4,j2,qa,F,qc,q8,V⟩:=l k qf;have j:=L b j0;have f0:=kC a j2 j;have f1:=kC a qa j;have f2:=kC a F j;have f3:=kC a qc j;have f4:=kC a q8 j;have q:=V.keep (b6 a L) zI;obtain⟨z0,z1,z2,za,zl,zc,ua,ul,uc,rfl,rfl,rfl,rfl,rfl⟩:=q.shape;clear c l j2 qa F qc q8 V;have N:=(Qg wr.heap.size wr).alloc E (UA z0 z1 z2 za zl zc ua ul uc);have q5:=q.keep (b6 N (fP L)) zI;have q6:=a8 (hn S ks[k] _ _ _ _ _ d _ q5 (fP L) (C k qf).1 (C k qf).2);clear q q5 N;go_wp2_with fail;refine H q6 ?_;rintro e W ⟨p,kv,rfl,z⟩;obtain⟨ku,kx,rfl⟩:=z.iface;have ab:wr.heap.size+1<=W.heap.size:=by have:=p.size;simpa using this
   have K:=a8 (cV B (λql q9=>by have:=cO B ql q9;exact (p.block ql zE).trans (Qf _ _ _ E)));have y:G (_/\_):=⟨p,z⟩;clear p z f0 f1 f2 f3 f4 q6;go_wp2_with (at_builtin;refine Xb _ D (.tmp 12) (.tmp 15) 124 D w.heap.size 71 i0 .nilIface 1 16 underlying124 Q.1 Q.2.1 Q.2.2.1 Q.2.2.2 D zC (A va k vc) k xs D (K.alloc _) ⟨W.heap.size,0,Y⟩ 1 1 [.iface ku kx] D D (QB (Qh W _)) iz zC fA E zE (W.heap.size+1) zS ?_;intro g cap w3 o f r aa;refine XE ?_);refine QJ ?_;have HF:=a8 (Hd X qf L qq B HK y.1 y.2 o f r);clear o f r y K B HK X;go_wp2;exact FU
  .have qn:k=J ks:=E;have HP:G (Bw w wr/\fB (λb=>S b∨(w.heap.size<=b/\b<wr.heap.size)) wr (dL (λb=>S b∨(w.heap.size<=b/\b<wr.heap.size)) wr n) ks (A va k vc)):=by refine⟨a,?_⟩;have q7:=B.out;rw[qn]at q7 ⊢;refine gM q7 zL (λg hg=>.inr (cO q7 g hg)) (λi hi hx=>?_);exact YL
   clear qn c B HK X;go_wp2;go_ret;exact⟨HP.1,_,D,HP.2⟩
def qcA(r:Nat)(h:r<10):IntKind.u8.wrap (48+(r:Int))=((Um (48+r)).toNat:Int):=by have:(Um (48+r)).toNat=48+r:=zE;rw[this,ZY];omega
def NK(w:Zw)(c:UInt8):(convert 130 9 (A (b5 w.heap.size 0) 1 1)).run WV (w.alloc (Zc #[I .u8 (c.toNat:Int)] 5))=.ok (Zt (bs [c])) (w.alloc (Zc #[I .u8 (c.toNat:Int)] 5)):=
 Zx (P:=WV) _ 130 9 5 ⟨w.heap.size,0,Y⟩ 1 [c] underlying130 underlying5 underlying9 (λj a=>by
  match j,a with
  | 0,_=>simp[Addr.add])
def RH(W:Zw)(N:Nat)(c:UInt8)(h:a7 W N 0=Z (I .u8 (c.toNat:Int))):(convert 130 9 (A (b5 N 0) 1 1)).run WV W=.ok (Zt (bs [c])) W:=
 Zx (P:=WV) W 130 9 5 ⟨N,0,Y⟩ 1 [c] underlying130 underlying5 underlying9 (λj a=>by
  match j,a with
  | 0,_=>exact h)
def BP{x:Int}{c:UInt8}(w:Zw)(f:0<=x)(g:x<10)(b:G (48+x=(c.toNat:Int))):WU WV 76 #[I U x] w λe d=>e=Zr (Zt (bs [c]))/\Bw w d:=by
 have a:G ((convert 130 9 (A (b5 w.heap.size 0) 1 1)).run WV (w.alloc (Zc #[I .u8 (48+x)] 5))=.ok (Zt (bs [c])) (w.alloc (Zc #[I .u8 (48+x)] 5))):=by show _=_;rw[b.out];exact NK w c
 clear b;go_in;go_wp2_with fail;rw[a.out];clear a;go_wp2;go_ret;exact⟨D,eC _ _⟩
def xk(r:Nat)(h:r<10):(48:Int)+(r:Int)=((Um (48+r)).toNat:Int):=by have:(Um (48+r)).toNat=48+r:=zE;rw[this];omega
def tG(m:Nat):∀(x:Nat)(w:Zw),x<=m->x<=999999999->WU WV 76 #[I U (x:Int)] w λe f=>e=Zr (Zt (bs (WZ x)))/\Bw w f:=by
 induction m with
 | zero=>intro x w z _;rw[Lib.decDigits_one E];exact BP w E E (xk x E)
 | succ m j=>
  intro x w z h;by_cases d:x<10;·rw[Lib.decDigits_one d];exact BP w E E (xk x d)
  have g:G (WZ x=WZ (x / 10)++[Um (48+x % 10)]):=by show _=_;rw[WZ,dif_neg d]
  have b:J (WZ (x / 10))<=21:=by have:=Wx ((x / 10:Nat):Int) E E;rw[Lib.itoa_nonneg]at this;omega
  obtain⟨q,o⟩:∃q:Int,q=(x:Int) / 10:=⟨_,D⟩;have HQ:G (∀W:Zw,WU WV 76 #[I U ((x:Int) / 10)] W λe f=>e=Zr (Zt (bs (WZ (x / 10))))/\Bw W f):=λW=>by have:=j (x / 10) W E E;rwa [show (((x / 10:Nat)):Int)=(x:Int) / 10 by omega]at this
  have n:∀(W:Zw)(N:Nat),a7 W N 0=Z (I .u8 (48+(x:Int) % 10))->(convert 130 9 (A (b5 N 0) 1 1)).run WV W=.ok (Zt (bs [Um (48+x % 10)])) W:=λW N hN=>by refine RH W N (Um (48+x % 10)) ?_;rw[hN,<- xk (x % 10) E,show (((x % 10:Nat)):Int)=(x:Int) % 10 by omega]
  generalize Um (48+x % 10)=c at *;generalize WZ (x / 10)=dl at *;have r:(bs dl).size+(bs [c]).size<=9223372036854775807:=by rw[dG,dG];simp;omega
  have i:(bs dl).size<=21:=by rw[dG];exact b
  have p:(bs [c]).size=1:=by rw[dG];rfl
  have k:G (bs dl++bs [c]=bs (WZ x)):=by show _=_;rw[g.out,dE]
  clear g b;have s:IntKind.i64.wrap ((x:Int) / 10)=(x:Int) / 10:=kG;have t:IntKind.i64.wrap ((x:Int) % 10)=(x:Int) % 10:=kG;have u:IntKind.i64.wrap (48+(x:Int) % 10)=48+(x:Int) % 10:=kG;have v:IntKind.u8.wrap (48+(x:Int) % 10)=48+(x:Int) % 10:=by rw[ZY];omega
  have y:(x:Int).tmod 10=(x:Int) % 10:=Int.tmod_eq_emod_of_nonneg E;clear j o;go_in;go_wp2_with fail;go_region_with (go_at_call 76;refine H (HQ _) ?_;rintro e w1 ⟨rfl,a⟩;obtain⟨l,-⟩:=BB a);all_goals
   go_wp2
   go_ret
   refine⟨hQ k,?_⟩
  all_goals first
   | exact (b9 ((Qg _ w).drew) (QD _) a).alloc (by have:=a.size;simp at this ⊢;omega) _
   | exact b9 (((Qg _ w).drew).alloc zS _) zS a
   | exact b9 (((Qg _ w).alloc (QD _) _).drew) zS a
def BO{x:Int}(w:Zw)(j : -999999999<=x)(k:x<=999999999):WU WV 76 #[I U x] w λe i=>e=Zr (Zt (bs (W6 x)))/\Bw w i:=by
 by_cases f:0<=x;·obtain⟨n,rfl⟩:=X5 f;rw[Lib.itoa_nonneg];exact tG n n w E E
 .obtain⟨n,h⟩:∃n:Nat,x = -(n:Int):=⟨x.natAbs,E⟩;subst h;have a:J (WZ n)<=21:=by have:=Wx (n:Int) E E;rw[Lib.itoa_nonneg]at this;omega
  have HQ:=a8 (tG n n w E E);have g:(bs (WZ n)).size<=21:=by rw[dG];exact a
  have d:G (bs [45]++bs (WZ n)=bs (W6 (-(n:Int)))):=by show _=_;rw[Lib.itoa_neg n E,dE];rfl
  generalize WZ n=dl at *;have c:(-(n:Int))<0:=E;go_in;go_wp2_with fail;refine H HQ ?_;rintro e w1 ⟨rfl,b⟩;go_wp2;go_ret;exact⟨hQ d,b⟩
def nr(n:Nat):Prop:=∀(S:ZN)(t:T n)(c0 c1 c2 c3 c4:Zv)(d:Int)(w:Zw),cT S w n t c0 c1 c2 c3 c4->(Bd S w)->cS n t d=true->cJ n t<=120 ->
 WU WV 74 #[Za #[c0,c1,c2,c3,c4]] w λe a=>e=Zr (Zt (bs (cK n t)))/\Bw w a
def Pm {m:Int} (x:ZB) (na d:ZA) (h nc g f:Nat) (w:Zw) (i : -999999999<=m) (j:m<=999999999) :
  WU WV 74 #[Uy 1 m x na h nc d g f] w λe k=>e=Zr (Zt (bs (W6 m)))/\Bw w k:=by have a:=(Qg w.heap.size w).alloc E (UA 1 m x na h nc d g f);go_in;go_wp2_with fail;refine H (BO _ i j) ?_;rintro e w1 ⟨rfl,b⟩;have c:=b9 a zS b;clear a b;go_wp2;go_ret;exact⟨D,c⟩
def Mt (m:Int) (na c:ZA) (g nc f d:Nat) (w:Zw) (i:x.size<=60) :
  WU WV 74 #[Uy 2 m x na g nc c f d] w λe h=>e=Zr (Zt (bs (34 :: x.data.toList++[34])))/\Bw w h:=by
 have a:G (bs [34]++x++bs [34]=bs (34 :: x.data.toList++[34])):=by show _=_;rw[<- nw x,dE,dE,fG];rfl
 have b:(bs [34]).size=1:=by rw[dG];rfl
 go_in;go_wp2;go_ret;exact⟨hQ a,eC _ _⟩
def Mp (m:Int) (x:ZB) (na c:ZA) (g nc f d:Nat) (w:Zw) :
  WU WV 74 #[Uy 3 m x na g nc c f d] w λe h=>e=Zr (Zt (bs (if m=1 then [121,101,115] else [110,111])))/\Bw w h:=by
 by_cases a:m=1;·subst a;exact Fx
 .rw[Qd a];have b:(m==1)=false:=by simpa using a
  clear a;exact Fx
def Ix (L:nr n) {p:List (T n)} (m:Int) (x:ZB) (na:ZA) (N nc:Nat) (M:dn S w (cT S w n) p kv) (z:Bd S w)
  (q:p.all (λx=>cS n x d)=true) (P:1+cG (λx=>cJ n x) p<=120) :
  WU WV 74 #[Za #[I U 6,I U m,Zt x,A na N nc,kv]] w λe V=>e=Zr (Zt (bs (gA (cK n) p)))/\Bw w V:=by
 have K:=M;obtain⟨F,cap,rfl,h,f⟩:=M;cases p with
 | nil=>exact Fx
 | cons k r=>
  obtain⟨b,off,rfl,C,o⟩:=f zS;have⟨W,X,qa,ql,qc,s,t,u,v,y,i⟩:=o 0 zS;simp only[Zd,QC,XY]at s t u v y i;unfold WX at h;simp only[Qs]at h;have a:=(Qg w.heap.size w).alloc E (UA 6 m x na N nc (b5 b off) (J r+1) cap);have c:=z b C;have f0:=kC a s c;have f1:=kC a t c;have f2:=kC a u c;have f3:=kC a v c;have f4:=kC a y c;have g:=i.keep (b6 a z) zI;simp only[ZW,Qc]at q;simp only[cG]at P;have j:=mw n k d q.1;have Q:(bs (cK n k)).size<=9840:=o9;have O:G (bs [63]++bs (cK n k)=bs (63 :: cK n k)):=by show _=_;rw[dE];rfl
  have R:(((J r:Nat):Int)+1==0)=false:=zE;have HQ:=a8 (L S k W X qa ql qc d _ g (fP z) q.1 E);clear f o s t u v y i g K q j L;rw[Qs];go_in;go_wp2_with fail;refine H HQ ?_;rintro e w1 ⟨rfl,l⟩;have B:=b9 a zS l;clear a l f0 f1 f2 f3 f4 HQ;go_wp2;go_ret;exact⟨hQ O,B⟩
def gC(parts:List (List UInt8))(k:Nat):ZB:=bs (cX (parts.take k))
def yJ{k:Nat}(h:k<J parts)(a:¬k=0):gC parts (k+1)=gC parts k++bs [44]++bs parts[k]:=by unfold gC;rw[fW h,Qd a,dE,dE]
def uB(h:0<J parts):gC parts (0+1)=bs []++bs parts[0]:=by unfold gC;rw[fW h,Qm rfl,dE]
def Mr (hn:nr n) {ks:List (T n)} (m:Int) (x:ZB) (na:ZA) (O nc:Nat) (hr:dn S w (cT S w n) ks kv) (V:Bd S w)
  (hg:ks.all (λx=>cS n x d)=true) (hc:1+cG (λx=>cJ n x) ks<=120) (aa:J (cX (ks.map (cK n)))<=9840) :
  WU WV 74 #[Za #[I U 4,I U m,Zt x,A na O nc,kv]] w λe w'=>e=Zr (Zt (bs (91 :: cX (ks.map (cK n))++[93])))/\Bw w w':=by
 obtain⟨Q,cap,rfl,L,l⟩:=hr;unfold WX at L;have z:=(Qg w.heap.size w).alloc E (UA 4 m x na O nc Q (J ks) cap);have v:=nT.new w (I U 4) (I U m) (Zt x) (A na O nc) (A Q (J ks) cap) 31;have af:(w.alloc (UA 4 m x na O nc Q (J ks) cap)).heap.size=w.heap.size+1:=zS;have y:G (∀k,(gC (ks.map (cK n)) k).size<=9840):=λk=>by have:=ii (ks.map (cK n)) k;unfold gC;rw[dG];omega
 have HG:G (∀k (h:k<J ks),cS n ks[k] d=true/\cJ n ks[k]<=120):=λk h=>by exact MM
 clear hg;go_in;go_wp2_with fail;generalize hW:w.alloc (UA 4 m x na O nc Q (J ks) cap)=W at *;clear hW;go_loopw [3,4] (λa i wr=>∃k:Nat,k<=J ks/\i=I U k/\a=Zt (gC (ks.map (cK n)) k)/\Bw W wr) (λ_ i _=>J ks-(intOf i).toNat);case atStart=>exact⟨0,E,D,D,Qg _ _⟩
 case round=>
  obtain⟨k,hk,rfl,rfl,g⟩:=hrel;have q9:=y.out k;have⟨F,qc,q7,ql,i4⟩:=v.keep g;have N:=g.size;by_cases qf:k<J ks
  .obtain⟨b,off,rfl,q6,B⟩:=l nS;have⟨y0,y1,y2,y3,y4,q8,qq,q5,j5,qa,C⟩:=B k qf;have p:=V b q6;have j:=b9 z E g;have f0:=kC j q8 p;have f1:=kC j qq p;have f2:=kC j q5 p;have f3:=kC j j5 p;have f4:=kC j qa p;have t:=C.keep (b6 j V) zI;have q:=HG.out k qf;have u:=mw n ks[k] d q.1;have ad:(bs (cK n ks[k])).size<=9840:=o9;have HQ:=a8 (hn S ks[k] y0 y1 y2 y3 y4 d wr t (fP V) q.1 q.2);have M:=y.out (k+1);have s:k<J (ks.map (cK n)):=sY;have r:(ks.map (cK n))[k]=cK n ks[k]:=zS;clear l B q8 qq q5 j5 qa C t q u j;rcases Xa k with rfl|ac
   .have R:G (gC (ks.map (cK n)) (0+1)=bs []++bs (cK n ks[0])):=by show _=_;rw[uB s,r]
    have P:G (gC (ks.map (cK n)) 0=bs []):=D;clear M s r;rw[Zd,QC]at f0;rw[Zd,QC]at f1 f2 f3 f4;rw[P.out];rw[P.out]at q9;generalize X:bs []=acc at *;generalize bs (cK n ks[0])=tk at *;clear X;go_wp2_with fail;refine H HQ ?_;rintro e w1 ⟨rfl,o⟩;have c:=b9 g N o;have⟨j0,j1,j2,j3,j4⟩:=v.keep c;clear o HQ f0 f1 f2 f3 f4 F qc q7 ql i4;go_wp2;go_roundw;case rel=>exact⟨0+1,E,ew,by rw[R.out],c⟩
    case measure=>exact eb
   .have R:G (gC (ks.map (cK n)) (k+1)=gC (ks.map (cK n)) k++bs [44]++bs (cK n ks[k])):=by show _=_;rw[yJ s E,r]
    have ab:decide ((0:Int)<(k:Int))=true:=zE;clear M s r;generalize gC (ks.map (cK n)) k=acc at *;generalize bs (cK n ks[k])=tk at *;have ae:(acc++bs [44]).size<=9841:=by rw[Q3,dG];simp;omega
    go_wp2_with fail;refine H HQ ?_;rintro e w1 ⟨rfl,o⟩;have c:=b9 g N o;have⟨j0,j1,j2,j3,j4⟩:=v.keep c;clear o HQ f0 f1 f2 f3 f4 F qc q7 ql i4;go_wp2;go_roundw;case rel=>exact⟨k+1,E,ew,by rw[R.out];rfl,c⟩
    case measure=>exact eb
  .have K:k=J ks:=E;have P:G (bs [91]++gC (ks.map (cK n)) k++bs [93]=bs (91 :: cX (ks.map (cK n))++[93])):=by show _=_;unfold gC;rw[K,<- Qv (f:=cK n),QG,dE,dE];rfl
   have j:=b9 z E g;clear K l;generalize gC (ks.map (cK n)) k=acc at *;go_wp2;go_ret;exact⟨hQ P,j⟩
def Mq (hn:nr n) {ks:List (T n)} (m:Int) (x:ZB) (hl:cR S w l (A na (J l) nc)) (P:J l=J ks) (qa:∀ s,s∈l->s.size<=8) (hr:dn S w (cT S w n) ks kv) (qq:Bd S w)
  (hg:ks.all (λx=>cS n x d)=true) (hc:1+cG (λx=>cJ n x) ks<=120) (ad:J (cX (dh l (ks.map (cK n))))<=9840) :
  WU WV 74 #[Za #[I U 5,I U m,Zt x,A na (J l) nc,kv]] w λe w'=>e=Zr (Zt (bs (123 :: cX (dh l (ks.map (cK n)))++[125])))/\Bw w w':=by
 obtain⟨q8,cap,rfl,O,o⟩:=hr;obtain⟨no,ab,qc,-,R,j⟩:=hl;cases qc
 unfold WX at O;have K:=(Qg w.heap.size w).alloc (QD _) (UA 5 m x na (J l) nc q8 (J ks) cap);have B:=nT.new w (I U 5) (I U m) (Zt x) (A na (J l) nc) (A q8 (J ks) cap) 31;have ai:(w.alloc (UA 5 m x na (J l) nc q8 (J ks) cap)).heap.size=w.heap.size+1:=zS;have C:G (∀k,(gC (dh l (ks.map (cK n))) k).size<=9840):=λk=>by have:=ii (dh l (ks.map (cK n))) k;unfold gC;rw[dG];omega
 have HG:G (∀k (h:k<J ks),cS n ks[k] d=true/\cJ n ks[k]<=120):=λk h=>by exact MM
 have vg:G (J l=J ks):=P;clear hg P;go_in;go_wp2_with fail;generalize hW:w.alloc (UA 5 m x na (J l) nc q8 (J ks) cap)=W at *;clear hW;go_loopw [3,4] (λa i wr=>∃k:Nat,k<=J ks/\i=I U k/\a=Zt (gC (dh l (ks.map (cK n))) k)/\Bw W wr) (λ_ i _=>J ks-(intOf i).toNat);case atStart=>exact⟨0,Q9 _,D,D,Qg _ _⟩
 case round=>
  obtain⟨k,hk,rfl,rfl,g⟩:=hrel;have q7:=C.out k;have⟨i0,i1,i2,i3,i4⟩:=B.keep g;have q6:=g.size;by_cases qf:k<J ks
  .obtain⟨b,off,rfl,j5,L⟩:=o nS;have⟨y0,y1,y2,y3,y4,e0,e1,e2,e3,e4,M⟩:=L k qf;have q:=qq b j5;have f:Bw w wr:=b9 K E g;have f0:=kC f e0 q;have f1:=kC f e1 q;have f2:=kC f e2 q;have f3:=kC f e3 q;have f4:=kC f e4 q;have y:=M.keep (b6 f qq) zI;have u:=HG.out k qf;have z:=mw n ks[k] d u.1;have ag:(bs (cK n ks[k])).size<=9840:=o9;have HQ:G (WU WV 74 #[Za #[y0,y1,y2,y3,y4]] wr _):=hn S ks[k] y0 y1 y2 y3 y4 d wr y (fP qq) u.1 u.2;have V:=C.out (k+1);have t:k<J l:=by rw[vg.out];exact qf
   obtain⟨nb,ac,rfl,F,Q⟩:=j (by intro h;rw[h]at t;simp at t);have q0:=kC f (Q k t) (qq nb F);have aa:=qa l[k] (QE t);have r:k<J (dh l (ks.map (cK n))):=by rw[eY _ _ Cp];simpa using qf
   have v:bs (dh l (ks.map (cK n)))[k]=l[k]++bs [58]++bs (cK n ks[k]):=by rw[pm l (ks.map (cK n)) k t sY r,Xe,<- nw l[k],dE,dE,fG];exact dS
   clear o L e0 e1 e2 e3 e4 M y u z f j Q R;rcases Xa k with rfl|af
   .have HS:G (gC (dh l (ks.map (cK n))) (0+1)=bs []++(l[0]++bs [58]++bs (cK n ks[0]))):=by show _=_;rw[uB r,v]
    have q9:G (gC (dh l (ks.map (cK n))) 0=bs []):=D;clear V r v;rw[Zd,QC]at f0;rw[Zd,QC]at f1 f2 f3 f4;rw[q9.out];rw[q9.out]at q7;generalize q5:bs []=acc at *;generalize bs (cK n ks[0])=tk at *;generalize l[0]=nm at *;rw[QC]at q0;have ql:(acc++nm).size<=9900:=by rw[Q3];omega
    have X:(acc++nm++bs [58]).size<=9901:=by rw[Q3,dG];show _+1<=9901;omega
    clear q5;go_wp2_with fail;refine H HQ ?_;rintro e w1 ⟨rfl,p⟩;have c:=b9 g q6 p;have⟨j0,j1,j2,j3,j4⟩:=B.keep c;clear p HQ f0 f1 f2 f3 f4 i0 i1 i2 i3 i4;go_wp2;go_roundw;case rel=>exact⟨0+1,E,ew,JQ,c⟩
    case measure=>exact eb
   .have HS:G (gC (dh l (ks.map (cK n))) (k+1)=gC (dh l (ks.map (cK n))) k++bs [44]++(l[k]++bs [58]++bs (cK n ks[k]))):=by show _=_;rw[yJ r E,v]
    have ae:decide ((0:Int)<(k:Int))=true:=QK E;clear V r v;generalize gC (dh l (ks.map (cK n))) k=acc at *;generalize bs (cK n ks[k])=tk at *;generalize l[k]=nm at *;have ql:(acc++bs [44]++nm).size<=9900:=by rw[Q3,Q3,dG];show _+1+_<=9900;omega
    have X:(acc++bs [44]++nm++bs [58]).size<=9901:=by rw[Q3,dG];show _+1<=9901;omega
    have ah:(acc++bs [44]).size<=9841:=by rw[Q3,dG];simp;omega
    go_wp2_with fail;refine H HQ ?_;rintro e w1 ⟨rfl,p⟩;have c:=b9 g q6 p;have⟨j0,j1,j2,j3,j4⟩:=B.keep c;clear p HQ f0 f1 f2 f3 f4 i0 i1 i2 i3 i4;go_wp2;go_roundw;case rel=>exact⟨k+1,E,ew,JQ,c⟩
    case measure=>exact eb
  .have N:k=J ks:=E;have q9:G (bs [123]++gC (dh l (ks.map (cK n))) k++bs [125]=bs (123 :: cX (dh l (ks.map (cK n)))++[125])):=by
    show _=_;unfold gC;have e:J ks=J (dh l (ks.map (cK n))):=by rw[eY _ _ Cp];simp
    rw[N,e,QG,dE,dE];rfl
   have f:Bw w wr:=b9 K E g;clear N o j R;generalize gC (dh l (ks.map (cK n))) k=acc at *;go_wp2;go_ret;exact⟨hQ q9,f⟩
def Ms(p:nr n):nr (n+1):=by
 intro S t c0 c1 c2 c3 c4 d w r o h hc;have a:=mw (n+1) t d h;obtain⟨rfl,rfl,rfl,s,-,-,q,j⟩:=r;obtain⟨na,nc,rfl,-,-,-⟩:=id q;obtain⟨u,v,g,-,-⟩:=id j;simp only[cS,Qc]at h;have b:cM (F.k t) (F.n t) (F.a t) (F.q t) (J (F.o t))=true:=h.1.2;have f:1+cG (λx=>cJ n x) (F.o t)<=120:=J3;unfold cM at b;simp only[cK]at a ⊢;by_cases l:F.k t=1;·rw[Qm l]at b ⊢;rw[l,g];simp only[Qc,Qk]at b;exact Pm _ _ _ _ _ _ _ w b.1.1.1.1 b.1.1.1.2
 rw[Qd l]at b a ⊢;by_cases m:F.k t=2;·rw[Qm m]at b ⊢;rw[m,g];simp only[Qc,eW,Qk]at b;exact Mt _ _ _ _ _ _ _ w b.1.1.2.1
 rw[Qd m]at b a ⊢;by_cases e:F.k t=3;·rw[Qm e];rw[e,g];exact Mp _ _ _ _ _ _ _ _ w
 rw[Qd e]at b a ⊢;by_cases k:F.k t=6;·rw[Qm k];rw[k];exact Ix p _ _ _ _ _ j o h.2 f
 rw[Qd k]at a ⊢;by_cases i:F.k t=5;·have c:¬F.k t=4:=E;rw[Qd c,Qm i]at b;rw[Qm i]at a ⊢;rw[i];simp only[Qc,QP]at b;simp only[Qi,Qs,Q0]at a;exact Mq p _ _ q E (ly b.2) j o h.2 f E
 rw[Qd i]at a ⊢;have c:F.k t=4:=by
  by_cases c:F.k t=4;·exact c
  .rw[Qd c,Qd i,Qd k]at b;cases b
 rw[c];simp only[Qi,Qs,Q0]at a;exact Mr p _ _ _ _ _ j o h.2 f E
def n7:∀n,nr n:=by
 intro n;induction n with
 | zero=>intro S t c0 c1 c2 c3 c4 d w a;exact a.elim
 | succ n b=>exact Ms b
def yU(n:Nat)(t:T n):ZB:=if dB n t=true then bs (cK n t) else bs []
def dr{t:T n}(h:dB n t=true):cS n t 1=true/\cJ n t<=120:=by simpa only[dB,Qc,Qk] using h
def fl:(L n:Nat)->T n->T (L+1)
 | _,0,t=>Empty.elim t
 | 0,_+1,t=>(⟨F.k t,F.n t,F.a t,F.q t,[]⟩:F (T 0))
 | L+1,n+1,t=>(⟨F.k t,F.n t,F.a t,F.q t,(F.o t).map (fl L n)⟩:F (T (L+1)))
def wt(k:T (n+1)):fl (L+1) (n+1) k=(⟨F.k k,F.n k,F.a k,F.q k,(F.o k).map (fl L n)⟩:F (T (L+1))):=rfl
def BH(k:T (n+1)):F.k (fl L (n+1) k)=F.k k:=by cases L<;>rfl
def Ej(k:T (n+1)):F.n (fl L (n+1) k)=F.n k:=by cases L<;>rfl
def BI(k:T (n+1)):F.a (fl L (n+1) k)=F.a k:=by cases L<;>rfl
def x5(k:T (n+1)):F.q (fl L (n+1) k)=F.q k:=by cases L<;>rfl
def dY{k:T (n+1)}(h:cS (n+1) k d=true):d<=6/\cM (F.k k) (F.n k) (F.a k) (F.q k) (J (F.o k))=true/\∀x,x∈F.o k->cS n x (d+1)=true:=by simp only[cS,Qc,Qk,Qo]at h;exact⟨h.1.1,h.1.2,h.2⟩
def iL{k:T (n+1)}(a:d<=6)(b:cM (F.k k) (F.n k) (F.a k) (F.q k) (J (F.o k))=true)(c:∀x,x∈F.o k->cS n x (d+1)=true):cS (n+1) k d=true:=by simp only[cS,Qc,Qk,Qo];exact⟨⟨a,b⟩,c⟩
def GO:∀(n:Nat)(k:T n)(d e:Int),cS n k d=true->e<=d->cS n k e=true:=by
 intro n;induction n with
 | zero=>intro k;exact Empty.elim (show Empty from k)
 | succ n f=>intro k d e h i;have⟨g,a,b⟩:=dY h;exact iL E a λx c=>f x _ _ (b x c) E
def qaW{α:Type}(f:α->List UInt8)(t:F α):List UInt8:=
 if t.k=1 then W6 t.n
 else if t.k=2 then 34 :: t.a.data.toList++[34]
 else if t.k=3 then (if t.n=1 then [121,101,115] else [110,111])
 else if t.k=6 then gA f t.o
 else if t.k=5 then 123 :: cX (dh t.q (t.o.map f))++[125]
 else 91 :: cX (t.o.map f)++[93]
def tJ{t:T n}(a:cS n t 1=true)(b:cJ n t<=120):dB n t=true:=by simp[dB,a,b]
def tB{k:T (n+1)}(h:cS (n+1) k d=true)(f:6<=d):F.o k=[]:=by
 have⟨c,e,a⟩:=dY h;cases hk:F.o k with
 | nil=>rfl
 | cons x r=>
  have b:=a x (by rw[hk];exact zS);cases n with
  | zero=>exact Empty.elim (show Empty from x)
  | succ n=>have:=(dY b).1;omega
def x8:∀ (L n:Nat) (k:T n) (d:Int),cS n k d=true->6 - d<=(L:Int) ->
  cS (L+1) (fl L n k) d=true/\cJ (L+1) (fl L n k)=cJ n k/\cK (L+1) (fl L n k)=cK n k:=by
 intro L n;induction n generalizing L with
 | zero=>intro k;exact Empty.elim (show Empty from k)
 | succ n m=>
  intro k d h o;have⟨f,c,g⟩:=dY h;cases L with
  | zero=>
   have b:=tB h E;refine⟨iL f ?_ λx a=>Empty.elim (show Empty from x),?_,?_⟩;·rw[b]at c;exact c
   .show 1+cG (λx=>cJ 0 x) []=1+cG (λx=>cJ n x) (F.o k);rw[b];rfl
   .show cK 1 (⟨F.k k,F.n k,F.a k,F.q k,[]⟩:F (T 0))=cK (n+1) k;simp only[cK,b,gA,Z8]
  | succ L=>
   have a:∀x,x∈F.o k->cS (L+1) (fl L n x) (d+1)=true/\cJ (L+1) (fl L n x)=cJ n x/\cK (L+1) (fl L n x)=cK n x:=λx a=>m L x (d+1) (g x a) E;refine⟨iL f ?_ ?_,?_,?_⟩;·rw[wt];show cM (F.k k) (F.n k) (F.a k) (F.q k) (J ((F.o k).map (fl L n)))=true;rw[Qv];exact c
   .rw[wt];intro x e;obtain⟨y,l,rfl⟩:=Xo.1 e;exact (a y l).1
   .rw[wt];show 1+cG (λx=>cJ (L+1) x) ((F.o k).map (fl L n))=1+cG (λx=>cJ n x) (F.o k);rw[Cb _ _ (λx=>cJ n x) _ λx h=>(a x h).2.1]
   .rw[wt];have j:((F.o k).map (fl L n)).map (cK (L+1))=(F.o k).map (cK n):=by rw[List.map_map];exact List.map_congr_left λx h=>(a x h).2.2
    have i:gA (cK (L+1)) ((F.o k).map (fl L n))=gA (cK n) (F.o k):=by
     cases b:F.o k with
     | nil=>rfl
     | cons x r=>simp only[Xx,gA];rw[(a x (by rw[b];exact zS)).2.2]
    show qaW (cK (L+1)) (⟨F.k k,F.n k,F.a k,F.q k,(F.o k).map (fl L n)⟩:F (T (L+1)))=qaW (cK n) (show F (T n) from k);unfold qaW;show (if F.k k=1 then _ else _)=_;rw[j,i]
def rD{k:T n}(f:5<=L)(h:dB n k=true):dB (L+1) (fl L n k)=true/\cJ (L+1) (fl L n k)=cJ n k/\cK (L+1) (fl L n k)=cK n k:=by have⟨d,e⟩:=dr h;have⟨a,b,c⟩:=x8 L n k 1 d E;exact⟨tJ a E,b,c⟩
def pG{k:T (n+1)}(h:dB (n+1) k=true){x:T n}(a:x∈F.o k):dB n x=true:=by have⟨b,d⟩:=dr h;have g:=(dY b).2.2 x a;have c:cJ n x<=cG (λk=>cJ n k) (F.o k):=eK _ _ _ a;have e:cJ (n+1) k=1+cG (λk=>cJ n k) (F.o k):=D;exact tJ (GO n x _ 1 g E) E
def fB.map {R:α->Zv->Prop} {R':β->Zv->Prop} {l:List α} (f:α->β) (h:fB S w R l v)
  (m:∀x c,x∈l->R x c->R' (f x) c):fB S w R' (l.map f) v:=by obtain⟨g,cap,r,p,o⟩:=h;refine⟨g,cap,by rw[r,Qv],by rw[Qv];exact p,λqh=>?_⟩;have⟨b,off,n,k,a⟩:=o PJ;refine⟨b,off,n,k,λi hi=>?_⟩;have d:i<J l:=oC;have⟨c,j,q⟩:=a i d;refine⟨c,j,?_⟩;rw[Xe];exact m _ _ zS q
def Qb {R:α->Zv->Zv->Zv->Zv->Zv->Prop} {R':β->Zv->Zv->Zv->Zv->Zv->Prop} {l:List α} (f:α->β) (h:dn S w R l v)
  (hR:∀x c0 c1 c2 c3 c4,x∈l->R x c0 c1 c2 c3 c4->R' (f x) c0 c1 c2 c3 c4):dn S w R' (l.map f) v:=by obtain⟨ao,cap,hv,hl,hc⟩:=h;exact Yo
def rm{α:Type}(S:ZN)(w:Zw)(R:α->Zv->Prop)(l:List α)(v:Zv):Prop:=
 ∃(a:ZA)(cap:Nat),v=A a (J l) cap/\J l<=WX /\
  (l≠[]->∃b off,a=b5 b off/\S b/\∀i (h:i<J l),∃c,a7 w b (off+i)=Z c/\R l[i] c)/\J l<=cap
def rm.row{R:α->Zv->Prop}{l:List α}(h:rm S w R l v):fB S w R l v:=by obtain⟨a,cap,b,c,d,-⟩:=h;exact⟨a,cap,b,c,d⟩
def rm.of{R:α->Zv->Prop}{l:List α}{a:ZA}{c:Nat}(h:fB S w R l (A a n c))(f:n<=c):rm S w R l (A a n c):=by
 obtain⟨g,cap,b,d,e⟩:=h;cases b
 exact⟨_,_,D,d,e,f⟩
def rm.use{R:α->Zv->Prop}{R':β->Zv->Prop}{l:List α}{l':List β}(h:rm S w R l v)(c:fB S w R l v->fB S' w' R' l' v):rm S' w' R' l' v:=by have a:=c h.row;obtain⟨d,cap,rfl,e,f,b⟩:=h;exact .of a b
def cN(S:ZN)(w:Zw):(n:Nat)->T n->Zv->Prop
 | 0,_,_=>False
 | n+1,t,v=>
  (F.k t=1/\v=.iface 120 (I U (F.n t)))∨(F.k t=2/\v=.iface 121 (Zt (F.a t))) ∨
  (F.k t=3/\v=.iface 123 (Zb (F.n t==1))) ∨
  (F.k t=4/\∃a,v=.iface 125 a/\rm S w (cN S w n) (F.o t) a) ∨
  (F.k t=5/\∃b a,v=.iface 128 (Za #[b,a])/\cR S w (F.q t) b/\fB S w (cN S w n) (F.o t) a) ∨
  (F.k t=6/\∃a,v=.iface 129 a/\fB S w (cN S w n) (F.o t) a)
def cN.inner:∀ {n:Nat} {t:T n} {v:Zv},cN S w n t v->dL S w n t v:=by
 intro n;induction n with
 | zero=>intro t v h;exact h.elim
 | succ n g=>
  intro t v h;have f:gw S w w:=λ_ _=>D;rcases h with h|h|h|⟨a,e,c,b⟩|⟨a,j,e,c,i,b⟩|⟨a,e,c,b⟩;·exact .inl h
  .exact .inr (.inl h)
  .exact .inr (.inr (.inl h))
  .exact .inr (.inr (.inr (.inl ⟨a,e,c,b.row.keep f zI λ_ _ _ d=>g d⟩)))
  .exact .inr (.inr (.inr (.inr (.inl ⟨a,j,e,c,i,b.keep f zI λ_ _ _ d=>g d⟩))))
  .exact .inr (.inr (.inr (.inr (.inr ⟨a,e,c,b.keep f zI λ_ _ _ d=>g d⟩))))
def cN.iface{t:T n}(h:cN S w n t v):∃u x,v=.iface u x:=h.inner.iface
def cN.keep(i:gw S w w')(g:∀b,S b->S' b):∀ {n:Nat} {t:T n} {v:Zv},cN S w n t v->cN S' w' n t v:=by
 intro n;induction n with
 | zero=>intro t v h;exact h.elim
 | succ n j=>
  intro t v h;rcases h with h|h|h|⟨c,f,d,a⟩|⟨c,m,f,d,k,a⟩|⟨c,f,d,a⟩;·exact .inl h
  .exact .inr (.inl h)
  .exact .inr (.inr (.inl h))
  .exact .inr (.inr (.inr (.inl ⟨c,f,d,a.use λl=>l.keep i g λ_ _ _ e=>j e⟩)))
  .exact .inr (.inr (.inr (.inr (.inl ⟨c,m,f,d,k.keep i g,a.keep i g λ_ _ _ e=>j e⟩))))
  .exact .inr (.inr (.inr (.inr (.inr ⟨c,f,d,a.keep i g λ_ _ _ e=>j e⟩))))
def cN.fit:∀ {n:Nat} {L:Nat} {t:T n} {d:Int} {v:Zv},cS n t d=true->6-d<=(L:Int)->cN S w n t v->cN S w (L+1) (fl L n t) v:=by
 intro n;induction n with
 | zero=>intro L t;exact Empty.elim (show Empty from t)
 | succ n q=>
  intro L t d v k s h;have g:∀a,fB S w (cN S w n) (F.o t) a->fB S w (cN S w L) (F.o (fl L (n+1) t)) a:=by
   intro a b;cases L with
   | zero=>rw[tB k E]at b;obtain⟨l,cap,e,m,j⟩:=b;exact⟨l,cap,e,m,λi=>absurd D i⟩
   | succ L=>exact b.map _ λx c p j=>q ((dY k).2.2 x p) E j
  rw[cN,BH,Ej,BI,x5];rcases h with h|h|h|⟨f,a,e,b⟩|⟨f,r,a,e,o,b⟩|⟨f,a,e,b⟩;·exact .inl h
  .exact .inr (.inl h)
  .exact .inr (.inr (.inl h))
  .exact .inr (.inr (.inr (.inl ⟨f,a,e,b.use (g a)⟩)))
  .exact .inr (.inr (.inr (.inr (.inl ⟨f,r,a,e,o,g a b⟩))))
  .exact .inr (.inr (.inr (.inr (.inr ⟨f,a,e,g a b⟩))))
def fw(c:UInt8):Bool:=decide (48<=(c.toNat:Int)/\(c.toNat:Int)<=57)
def fa(l:List UInt8):Nat:=l.foldl (λa c=>a*10+(c.toNat-48)) 0
def GC(d:Nat)(h:d<10):(Um (48+d)).toNat=48+d:=by rw[UInt8.toNat_ofNat'];omega
def fE(u:Nat):∀c,c∈WZ u->fw c=true:=by
 induction u using Nat.strongRecOn with
 | _ u b=>
  intro c a;rw[WZ]at a;split at a
  .next h=>
   rw[QR]at a;subst a;have:=GC u h;simp only[fw,this,Qk];omega
  .next h=>
   rcases QF.1 a with a|a;·exact b (u / 10) E c a
   .rw[QR]at a;subst a;have:=GC (u % 10) E;simp only[fw,this,Qk];omega
def lU(u:Nat):WZ u≠[]:=by rw[WZ];split<;>simp
def k9(u:Nat):fa (WZ u)=u:=by
 induction u using Nat.strongRecOn with
 | _ u b=>
  rw[WZ];split;·next h=>simp[fa];omega
  .next h=>
   have a:=b (u / 10) E;unfold fa at a ⊢;rw[List.foldl_append,a];simp only[Wr,List.foldl_nil,GC (u % 10) E];omega
def CU:fw 45=false:=zC
def lw(s:List UInt8):Bool:=!(fw (s.headD 0))
def Dr(s:List UInt8):List UInt8:=if s.head?=Z 45 then 45 :: (s.drop 1).takeWhile fw else s.takeWhile fw
def yr{s:List UInt8}(h:lw s=true):∀c r,s=c :: r->fw c=false:=by intro c r e;subst e;simpa [lw] using h
def LZ(m:Int){a:List UInt8}(h:lw a=true):Dr (W6 m++a)=W6 m:=by
 unfold W6;split;·unfold Dr;rw[Qm zS];simp only[QH,Xv,Xn];rw[gW (fE _) (yr h)]
 .unfold Dr;rw[Qd,gW (fE _) (yr h)];intro e;cases hd:WZ m.toNat with
  | nil=>exact lU _ hd
  | cons c r=>
   rw[hd]at e;have b:c=45:=by simpa using e
   have:=fE m.toNat c (by rw[hd];exact zS);rw[b,CU]at this;cases this
def mS{p:UInt8->Bool}(s:List UInt8):s.takeWhile p++s.drop (J (s.takeWhile p))=s:=by
 induction s with
 | nil=>rfl
 | cons c r a=>
  rw[ZU];split;·simpa using a
  .exact dS
def EX(s:List UInt8):Dr s++s.drop (J (Dr s))=s:=by
 unfold Dr;split
 .next h=>
  cases s with
  | nil=>simp at h
  | cons c r=>have:c=45:=mZ;subst this;simpa using mS (p:=fw) r
 .exact mS s
def Cg(w:List UInt8):Int:=if w.head?=Z 45 then -(fa (w.drop 1):Int) else (fa w:Int)
def Iy(m:Int):Cg (W6 m)=m:=by
 unfold Cg W6;by_cases h:m<0;·rw[Qm h];simp only[List.head?_cons,XX,Xv,Xn];rw[k9];omega
 .rw[Qd h];have a:¬(WZ m.toNat).head?=Z 45:=by
   intro e;cases hd:WZ m.toNat with
   | nil=>rw[hd]at e;cases e
   | cons c r=>
    rw[hd]at e;have b:c=45:=by simpa using e
    have:=fE m.toNat c (by rw[hd];exact zS);rw[b,CU]at this;cases this
  rw[Qd a,k9];omega
def fy(w:List UInt8):Option Int:=if (-999999999<=Cg w/\Cg w<=999999999)/\W6 (Cg w)=w then Z (Cg w) else Y
def rC{m:Int}(h : -999999999<=m/\m<=999999999):fy (W6 m)=Z m:=by unfold fy;rw[Iy,Qm ⟨h,rfl⟩]
def ob{w:List UInt8}{m:Int}(h:fy w=Z m):(-999999999<=m/\m<=999999999)/\W6 m=w:=by
 unfold fy at h;split at h;·next hex=>cases h;exact hex
 .exact eI
abbrev V6:Type:=T 6
def dU:V6:=(⟨0,0,WT,[],[]⟩:F (T 5))
def fR(s n:Int)(x:ZB):V6:=(⟨s,n,x,[],[]⟩:F (T 5))
def cL(t:V6):List V6:=(F.o t).map (fl 5 5)
def fd(s n:Int)(x:ZB)(l:List ZB)(a:List V6):T 7:=(⟨s,n,x,l,a⟩:F V6)
def eu(t:T 7):Except Int V6:=if dB 7 t=true then .ok (fl 5 7 t) else .error 4
def kf(n:Int):Except Int V6:=if -999999999<=n/\n<=999999999 then .ok (fR 1 n WT) else .error 1
def lO(b:Bool):V6:=fR 3 (if b=true then 1 else 0) WT
def mC(op a b:Int):Except Int V6:=
 if op=9 then kf (a+b) else if op=10 then kf (a-b) else if op=11 then kf (a*b)
 else if b=0 then .error 2 else if op=12 then kf (a.tdiv b) else kf (a.tmod b)
def dV(op:Int)(i:Nat)(k b:Int):Bool:=
 if (9<=op/\op<=13)∨op=29 then k==1
 else if op=30 then k==2
 else if 16<=op/\op<=18 then k==3
 else if op=14 then (i==0 && (k==1 || k==2)) || (i==1 && k==b)
 else if op=19∨op=41 then decide (0<i) || k==3
 else if op=21∨op=23 then k==5
 else if op=22 then i==1 || k==5
 else if op=25 then (i==0 && k==4) || (i==1 && k==1)
 else if op=26 then k==4 || k==2
 else if op=27 then (i==0 && (k==4 || k==2)) || (i==1 && k==b)
 else if op=28 then (i==0 && (k==4 || k==2)) || (decide (0<i) && k==1)
 else if op=31∨op=32 then decide (0<i) || k==6
 else if op=33∨op=34∨op=35∨op=43 then decide (0<i) || k==4
 else true
abbrev gk:Type:=List (ZB×V6)
def DK:gk->ZB->Option V6
 | [],_=>Y
 | (s,k) :: r,x=>if s=x then Z k else DK r x
def mV(t:V6)(a b:Int):Except Int V6:=
 if a<0∨b<a∨(if F.k t=2 then ((F.a t).size:Int) else (J (F.o t):Int))<b then .error 3
 else if F.k t=2 then .ok (fR 2 0 ((F.a t).extract a.toNat b.toNat))
 else .ok (⟨4,0,WT,[],((F.o t).drop a.toNat).take (b.toNat-a.toNat)⟩:F (T 5))
def F8(t:V6)(s:ZB)(x:V6):T 7:=fd 5 0 WT (eH s x (F.q t) (cL t)).1 (eH s x (F.q t) (cL t)).2
def Bl(t:V6)(s:ZB):V6:=(⟨5,0,WT,(ft s (F.q t) (F.o t)).1,(ft s (F.q t) (F.o t)).2⟩:F (T 5))
def rR(op num:Int)(text:ZB)(names:List ZB)(d:List V6)(a b c:V6):Except Int V6:=
 if 1<=op/\op<=3 then .ok (fR op num text)
 else if op=5 then .ok (fR 6 0 WT)
 else if op=6 then .ok (fR 4 0 WT)
 else if op=7 then eu (fd 6 0 WT [] d)
 else if op=8 then eu (fd 4 0 WT [] d)
 else if op=24 then eu (fd 5 0 WT names d)
 else if 9<=op/\op<=13 then mC op (F.n a) (F.n b)
 else if op=14 then .ok (lO (decide (F.n a<F.n b) || ij (F.a a) (F.a b)))
 else if op=15 then .ok (lO (cK 6 a==cK 6 b))
 else if op=18 then .ok (lO (F.n a==0))
 else if op=26 then kf (J (F.o a)+(F.a a).size)
 else if op=29 then .ok (fR 2 0 (bs (W6 (F.n a))))
 else if op=30 then (match fy (F.a a).data.toList with|Z v=>.ok (⟨6,0,WT,[],[(⟨1,v,WT,[],[]⟩:F (T 4))]⟩:F (T 5))|Y=>.ok (fR 6 0 WT))
 else if op=28 then mV a (F.n b) (F.n c)
 else if op=25 then (if 0<=F.n b/\F.n b<J (F.o a) then .ok ((cL a).getD (F.n b).toNat dU) else .error 3)
 else if op=27 then eu (fd (F.k a) 0 (F.a a++F.a b) [] (cL a++cL b))
 else if op=22 then eu (F8 a (names.headD WT) b)
 else match fU (F.q a) (cL a) (names.headD WT) with
  | none=>.error 6
  | some x=>if op=21 then .ok x else .ok (Bl a (names.headD WT))
def e8(op num:Int)(text:ZB)(names:List ZB)(a:List V6):Except Int V6:=rR op num text names a (a.getD 0 dU) (a.getD 1 dU) (a.getD 2 dU)
def gi{α:Type}(ev:α->gk->Except Int V6)(kids:List α)(i:Nat)(env:gk):Except Int V6:=
 match kids[i]? with
 | some k=>ev k env
 | none=>.error 6
def dD(op:Int)(i:Nat)(b:Int)(r:Except Int V6):Except Int V6:=
 match r with
 | .error c=>.error c
 | .ok t=>if dV op i (F.k t) b=true then .ok t else .error 6
def iJ{α:Type}(ev:α->gk->Except Int V6)(op:Int)(env:gk):List α->List V6->Except Int (List V6)
 | [],acc=>.ok acc
 | k :: r,acc=>
  match dD op (J acc) (F.k (acc.headD dU)) (ev k env) with
  | .error c=>.error c
  | .ok t=>iJ ev op env r (acc++[t])
def lD(g:V6->V6->Except Int V6):List V6->V6->Except Int V6
 | [],acc=>.ok acc
 | x :: r,acc=>match g acc x with|.error c=>.error c|.ok t=>lD g r t
def e9(op:Int)(g:V6->Except Int V6):List V6->List V6->Except Int (List V6)
 | [],acc=>.ok acc
 | x :: r,acc=>
  match g x with
  | .error c=>.error c
  | .ok t=>if op=34/\¬F.k t=3 then .error 6 else e9 op g r (if op=33 then acc++[t] else if F.n t=1 then acc++[x] else acc)
def kZ{α:Type}(ev:α->gk->Except Int V6)(op:Int)(b d:ZB)(kids:List α)(env:gk)(f:V6):Except Int V6:=
 if op=16∨op=17 then (if decide (op=17)=decide (F.n f=1) then .ok f else dD op 1 0 (gi ev kids 1 env))
 else if op=19 then (if F.n f=1 then gi ev kids 1 env else gi ev kids 2 env)
 else if op=31 then (match cL f with|x :: _=>.ok x|[]=>gi ev kids 1 env)
 else if op=32 then (match cL f with|x :: _=>gi ev kids 1 ((b,x) :: env)|[]=>gi ev kids 2 env)
 else if op=20 then gi ev kids 1 ((b,f) :: env)
 else if op=35 then (match gi ev kids 1 env with|.error c=>.error c|.ok a=>lD (λacc x=>gi ev kids 2 ((d,x) :: (b,acc) :: env)) (cL f) a)
 else match e9 op (λx=>gi ev kids 1 ((b,x) :: env)) (cL f) [] with
  | .error c=>.error c
  | .ok l=>eu (fd 4 0 WT [] l)
def eo{α:Type}(ev:α->gk->Except Int V6)(op:Int)(names:List ZB)(kids:List α)(env:gk)(f:V6):Except Int V6:=kZ ev op (names.headD WT) (names.getD 1 WT) kids env f
def hZ(op:Int):Bool:=decide (op=16∨op=17∨op=19∨op=20∨(31<=op/\op<=35))
def gF{α:Type}(ev:α->gk->Except Int V6)(n:F α)(env:gk):Except Int V6:=
 if n.k=4 then (match DK env (n.q.headD WT) with|Z t=>.ok t|Y=>.error 6)
 else if hZ n.k=true then (match dD n.k 0 0 (gi ev n.o 0 env) with|.error c=>.error c|.ok f=>eo ev n.k n.q n.o env f)
 else match iJ ev n.k env n.o [] with|.error c=>.error c|.ok ks=>e8 n.k n.n n.a n.q ks
def b7:(m:Nat)->T m->gk->Except Int V6
 | 0,_,_=>.error 6
 | m+1,t,env=>gF (b7 m) (show F (T m) from t) env
def BR{o:Nat}(h:a7 w b o=Z v):b<w.heap.size:=
 Qx λa=>by
  have:w.heap[b]?=Y:=zE
  simp[WY,this]at h
def wZ:Nat->Nat->List UInt8
 | 0,_=>[]
 | f+1,n=>if n=0 then [] else wZ f (n / 10)++[Um (48+n % 10)]
def Az(n:Nat):List UInt8:=wZ n n
def Kz:∀(f g n:Nat),n<=f->n<=g->wZ f n=wZ g n:=by
 intro f;induction f with
 | zero=>intro g n h _;have:n=0:=E;subst this;cases g<;>simp[wZ]
 | succ f b=>
  intro g n c d;cases g with
  | zero=>have:n=0:=E;subst this;simp[wZ]
  | succ g=>
   by_cases a:n=0;·subst a;simp[wZ]
   .simp only[wZ,Qd a];rw[b g (n / 10) E E]
def BE:Az 0=[]:=rfl
def Ea(h:n≠0):Az n=Az (n / 10)++[Um (48+n % 10)]:=by obtain⟨m,rfl⟩:=Nat.exists_eq_succ_of_ne_zero h;show wZ (m+1) (m+1)=wZ ((m+1) / 10) ((m+1) / 10)++_;rw[Kz ((m+1) / 10) m ((m+1) / 10) (QD _) E];simp only[wZ,Qd h]
def NM:∀n:Nat,J (Az n)<=n:=by
 intro n;induction n using Nat.strongRecOn with
 | ind n a=>
  by_cases h:n=0;·subst h;rw[BE];simp
  .rw[Ea h];have:=a (n / 10) E;simp only[Qi,Qs,Q0];omega
def mt(k:Int):ZB:=bs (109 :: Az k.toNat)
structure cZ where
 b:Nat
 o:Nat
 tx:Bool
def cZ.at(s:cZ):Addr:=⟨s.b,s.o,Y⟩
def cZ.val(s:cZ)(k:Int):Zv:=if s.tx then Zt (mt k) else I U k
def et:Zw->List cZ->Int->Zw
 | w,[],_=>w
 | w,s :: r,k=>et (w.setCell s.at (s.val k)) r (k+1)
def Bk(L:List cZ)(s:cZ):∀(w:Zw)(k:Int),et w (L++[s]) k=(et w L k).setCell s.at (s.val (k+J L)):=by exact Tz
def DI(L M:List cZ):∀(w:Zw)(k:Int),et w (L++M) k=et (et w L k) M (k+J L):=by exact Tz
def q6(h:w.heap[b]?=w'.heap[b]?)(p:Addr)(v:Zv):(w.setCell p v).heap[b]?=(w'.setCell p v).heap[b]?:=by
 by_cases hp:b=p.block;·subst hp;simp[Ug,QQ,h]
 .rw[Qr _ _ _ _ hp,Qr _ _ _ _ hp];exact h
def ph(L:List cZ):∀ {w a:Zw} {b:Nat} (_:w.heap[b]?=a.heap[b]?) (k:Int),(et w L k).heap[b]?=(et a L k).heap[b]?:=by
 induction L with
 | nil=>intro w a b h k;exact h
 | cons s r c=>intro w a b h k;exact c (q6 h _ _) _
structure dA(L:List cZ)(k:Int)(w w':Zw):Prop where
 os:w'.os=w.os
 tape:w'.tape=w.tape
 output:w'.output=w.output
 size:w.heap.size<=w'.heap.size
 block:∀b:Nat,b<w.heap.size->w'.heap[b]?=(et w L k).heap[b]?
def dA.refl(k:Int)(w:Zw):dA [] k w w:=⟨D,D,D,QD _,λ_ _=>D⟩
def dA.below{L:List cZ}(h:dA L k w w1)(a:Bw w1 w2):dA L k w w2:=
 ⟨a.os.trans h.os,a.tape.trans h.tape,a.output.trans h.output,Q1 h.size a.size,λb c=>(a.block b (Qn c h.size)).trans (h.block b c)⟩
def dA.from_below{L:List cZ}(a:Bw w w1)(h:dA L k w1 w2):dA L k w w2:=
 ⟨h.os.trans a.os,h.tape.trans a.tape,h.output.trans a.output,Q1 a.size h.size,λb c=>(h.block b (Qn c a.size)).trans (ph L (a.block b c) k)⟩
def dA.snoc{L:List cZ}(h:dA L k w w1)(s:cZ):dA (L++[s]) k w (w1.setCell s.at (s.val (k+J L))):=
 ⟨h.os,h.tape,h.output,by simpa using h.size,λb a=>by rw[Bk];exact q6 (h.block b a) _ _⟩
def dA.trans{L M:List cZ}(h:dA L k w w1)(a:dA M (k+J L) w1 w2):dA (L++M) k w w2:=
 ⟨a.os.trans h.os,a.tape.trans h.tape,a.output.trans h.output,Q1 h.size a.size,λb c=>by
  rw[a.block b (Qn c h.size),DI];exact ph M (h.block b c) _⟩
structure At(w w':Zw):Prop where
 int:∀b o x,w.cell? ⟨b,o,Y⟩=Z (I U x)->∃y,w'.cell? ⟨b,o,Y⟩=Z (I U y)
 str:∀b o x,w.cell? ⟨b,o,Y⟩=Z (Zt x)->∃y,w'.cell? ⟨b,o,Y⟩=Z (Zt y)
 sl:∀b o a l c,w.cell? ⟨b,o,Y⟩=Z (A a l c)->w'.cell? ⟨b,o,Y⟩=Z (A a l c)
 fz:∀b o,b<w.heap.size->w'.frozen? ⟨b,o,Y⟩=w.frozen? ⟨b,o,Y⟩
 size:w.heap.size<=w'.heap.size
def At.refl(w:Zw):At w w:=⟨λ_ _ x h=>⟨x,h⟩,λ_ _ x h=>⟨x,h⟩,zS,zS,E⟩
def At.trans{b:Zw}(h:At a b)(k:At b c):At a c:=by
 refine⟨λb o x d=>?_,λb o x d=>?_,λb o _ _ _ d=>k.sl _ _ _ _ _ (h.sl _ _ _ _ _ d),λb o f=>?_,Q1 h.size k.size⟩;·have⟨y,e⟩:=h.int b o x d;exact k.int b o y e
 .have⟨y,e⟩:=h.str b o x d;exact k.str b o y e
 .rw[k.fz b o (Qn f h.size),h.fz b o f]
def At.below{b:Zw}(h:At a b)(e:Bw b c):At a c:=by
 refine h.trans ⟨λf o x d=>?_,λf o x d=>?_,λf o _ _ _ d=>?_,λf o g=>e.frozen (p:=⟨f,o,Y⟩) g,e.size⟩;·exact⟨x,kC e d (BR d)⟩
 .exact⟨x,kC e d (BR d)⟩
 .exact kC e d (BR d)
def cZ.ok(s:cZ)(w:Zw):Prop:=(if s.tx then ∃x,w.cell? s.at=Z (Zt x) else ∃x,w.cell? s.at=Z (I U x))/\w.frozen? s.at=false
def cZ.ok_lt{s:cZ}(h:s.ok w):s.b<w.heap.size:=by
 obtain⟨h,-⟩:=h;cases ht:s.tx with
 | true=>rw[ht]at h;obtain⟨x,a⟩:=h;exact BR (o:=s.o) a
 | false=>rw[ht]at h;obtain⟨x,a⟩:=h;exact BR (o:=s.o) a
def cZ.ok_sim{s:cZ}(h:s.ok w)(d:At w w'):s.ok w':=by
 have c:=cZ.ok_lt h;obtain⟨a,f⟩:=h;refine⟨?_,(d.fz s.b s.o c).trans f⟩;cases ht:s.tx with
 | true=>rw[ht]at a;obtain⟨x,e⟩:=a;exact d.str s.b s.o x e
 | false=>rw[ht]at a;obtain⟨x,e⟩:=a;exact d.int s.b s.o x e
def JG{s:cZ}(h:s.ok w)(k:Int):At w (w.setCell s.at (s.val k)):=by
 obtain⟨c,-⟩:=h;have other:∀b o v,s.at≠⟨b,o,Y⟩->w.cell? ⟨b,o,Y⟩=Z v->(w.setCell s.at (s.val k)).cell? ⟨b,o,Y⟩=Z v:=λb o v d a=>(Xh _ _ _ _ d).trans a;cases ht:s.tx with
 | true=>
  rw[ht]at c;obtain⟨u,hu⟩:=c;have a:s.val k=Zt (mt k):=by simp[cZ.val,ht]
  refine⟨λb o x hx=>?_,λb o x hx=>?_,λb o _ _ _ hx=>?_,zS,zS⟩;·exact⟨x,other b o _ JS hx⟩
  .by_cases e:s.at=⟨b,o,Y⟩;·rw[<- e]at hx ⊢;exact⟨_,(X9 _ _ _ hx).trans (by rw[a])⟩
   .exact⟨x,other b o _ e hx⟩
  .exact other b o _ JS hx
 | false=>
  rw[ht]at c;obtain⟨u,hu⟩:=c;have a:s.val k=I U k:=by simp[cZ.val,ht]
  refine⟨λb o x hx=>?_,λb o x hx=>?_,λb o _ _ _ hx=>?_,zS,zS⟩
  .by_cases e:s.at=⟨b,o,Y⟩;·rw[<- e]at hx ⊢;exact⟨_,(X9 _ _ _ hx).trans (by rw[a])⟩
   .exact⟨x,other b o _ e hx⟩
  .exact⟨x,other b o _ JS hx⟩
  .exact other b o _ JS hx
def DA:∀(L:List cZ){w:Zw}(_:∀s,s∈L->s.ok w)(k:Int),At w (et w L k):=by
 intro L;induction L with
 | nil=>intro w _ k;exact At.refl w
 | cons s r c=>intro w h k;have a:=JG (h s zS) k;exact a.trans (c (λx b=>cZ.ok_sim (h x (Qt _ b)) a) (k+1))
def dA.sim{L:List cZ}(h:dA L k w w')(g:∀s,s∈L->s.ok w):At w w':=by
 have e:=DA L g k;have f:∀b o,b<w.heap.size->w'.cell? ⟨b,o,Y⟩=(et w L k).cell? ⟨b,o,Y⟩:=λb o d=>Ql (w:=et w L k) (w':=w') (a:=⟨b,o,Y⟩) (h.block b d);have i:∀b o,b<w.heap.size->w'.frozen? ⟨b,o,Y⟩=(et w L k).frozen? ⟨b,o,Y⟩:=λb o d=>by simp only[W7,h.block b d]
 refine⟨λb o x c=>?_,λb o x c=>?_,λb o _ _ _ c=>?_,λb o d=>(i b o d).trans (e.fz b o d),h.size⟩;·rw[f b o (BR c)];exact e.int b o x c
 .rw[f b o (BR c)];exact e.str b o x c
 .rw[f b o (BR c)];exact e.sl b o _ _ _ c
def Holds(w:Zw):List cZ->Int->Prop
 | [],_=>True
 | s :: r,k=>w.cell? s.at=Z (s.val k)/\Holds w r (k+1)
def N6:∀ {w:Zw} {L:List cZ} {k:Int},Holds w L k->∀(i:Nat)(h:i<J L),w.cell? L[i].at=Z (L[i].val (k+i)):=by
 intro w L;induction L with
 | nil=>intro k _ i h;exact absurd h (XJ _)
 | cons s r b=>
  intro k a i h;cases i with
  | zero=>simpa using a.1
  | succ i=>have:=b a.2 i mZ;simp only[ZI];rw[this,show k+1+(i:Int)=k+((i+1:Nat):Int) by omega]
def nA:∀ {L M:List cZ} {k:Int},Holds w (L++M) k->Holds w L k/\Holds w M (k+J L):=by
 intro L;induction L with
 | nil=>intro M k h;exact⟨trivial,mZ⟩
 | cons s r c=>intro M k h;have⟨a,b⟩:=c h.2;exact⟨⟨h.1,a⟩,by simp only[Qs];rw[show k+((J r+1:Nat):Int)=k+1+(J r:Int) by omega];exact b⟩
def DJ(p:Addr):∀(L:List cZ)(w:Zw)(k:Int),(∀s,s∈L->s.at≠p)->(et w L k).cell? p=w.cell? p:=by
 intro L;induction L with
 | nil=>intro w k _;rfl
 | cons s r a=>intro w k h;rw[et,a _ _ Bh,Xh _ _ _ _ (h s (XT ..))]
def Aj:∀(L:List cZ)(w:Zw)(k:Int),(∀s,s∈L->s.ok w)->L.Pairwise (λa b=>a.at≠b.at)->Holds (et w L k) L k:=by
 intro L;induction L with
 | nil=>intro w k _ _;trivial
 | cons s r i=>
  intro w k h hp;have c:=XB.1 hp;have g:=JG (h s zS) k;refine⟨?_,i _ (k+1) (λx f=>cZ.ok_sim (h x (Qt _ f)) g) c.2⟩;rw[et,DJ _ _ _ _ (λx f=>(c.1 x f).symm)];obtain⟨d,-⟩:=h s zS;cases ht:s.tx with
  | true=>rw[ht]at d;obtain⟨u,e⟩:=d;exact X9 _ _ _ e
  | false=>rw[ht]at d;obtain⟨u,e⟩:=d;exact X9 _ _ _ e
def Holds.keep:∀ {L:List cZ} {k:Int},Holds w L k->(∀s,s∈L->w'.cell? s.at=w.cell? s.at)->Holds w' L k:=by
 intro L;induction L with
 | nil=>intro k _ _;trivial
 | cons s r c=>intro k h a;exact⟨(a s zS).trans h.1,c h.2 (λx b=>a x (Qt _ b))⟩
def Kt(W:Zw)(N:Nat)(c:UInt8)(h:a7 W N 0=Z (I .u8 (c.toNat:Int))):(convert 130 9 (A (b5 N 0) 1 1)).run WV W=.ok (Zt (bs [c])) W:=
 Zx (P:=WV) W 130 9 5 ⟨N,0,Y⟩ 1 [c] underlying130 underlying5 underlying9 (λj a=>by
  match j,a with
  | 0,_=>exact h)
def Y5(r:Nat)(h:r<10):(48:Int)+(r:Int)=((Um (48+r)).toNat:Int):=by have:(Um (48+r)).toNat=48+r:=zE;rw[this];omega
def Ph{a b:ZB}(h:a=b):Ue (Zt a)=Zr (Zt b):=by rw[h]
def gK(k:Int)(w:Zw)(O:1<=k)(P:k<=1000000000):WU WV 41 #[I U k] w λe M=>e=Zr (Zt (mt k))/\Bw w M:=by
 have s:G (J (Az k.toNat)<=1000000000):=by have:=NM k.toNat;show _<=_;omega
 go_in;go_wp2;go_loopw [0,3] (λa b wr=>∃(x:Nat)(acc:List UInt8),a=I U x/\b=Zt (bs acc)/\Az x++acc=Az k.toNat/\x<=1000000000/\Bw w wr) (λa _ _=>(intOf a).toNat);case atStart=>exact⟨k.toNat,[],by congr 1;omega,rfl,zS,E,Qg _ _⟩
 case round=>
  obtain⟨x,acc,rfl,rfl,g,Q,f⟩:=hrel;have i:J acc<=1000000000:=by have h:=s.out;rw[<- g]at h;simp at h;omega
  have d:=a8 g;clear g;by_cases K:0<x
  .have r:G (Az (x / 10)++(Um (48+x % 10) :: acc)=Az k.toNat):=by show _=_;have h:=d.out;rw[Ea (n:=x) E]at h;rw[<- h];simp
   have l:∀(W:Zw)(N:Nat),a7 W N 0=Z (I .u8 (48+(x:Int) % 10))->(convert 130 9 (A (b5 N 0) 1 1)).run WV W=.ok (Zt (bs [Um (48+x % 10)])) W:=λW N hN=>by refine Kt W N (Um (48+x % 10)) ?_;rw[hN,<- Y5 (x % 10) E,show (((x % 10:Nat)):Int)=(x:Int) % 10 by omega]
   have q:=l (wr.alloc (Zc #[I .u8 (48+(x:Int) % 10)] 5)) wr.heap.size ke;clear l;generalize Um (48+x % 10)=c at *;have m:G (bs [c]++bs acc=bs (c :: acc)):=by show _=_;rw[dE];rfl
   have t:(bs [c]).size=1:=by rw[dG];rfl
   have o:(bs acc).size<=1000000000:=by rw[dG];exact i
   have u:IntKind.i64.wrap ((x:Int) / 10)=(x:Int) / 10:=kG;have v:IntKind.i64.wrap ((x:Int) % 10)=(x:Int) % 10:=kG;have y:IntKind.i64.wrap (48+(x:Int) % 10)=48+(x:Int) % 10:=kG;have z:IntKind.u8.wrap (48+(x:Int) % 10)=48+(x:Int) % 10:=by rw[ZY];omega
   have B:(x:Int).tmod 10=(x:Int) % 10:=Int.tmod_eq_emod_of_nonneg E;have C:(x:Int).tdiv 10=(x:Int) / 10:=zS;have L:(0:Int)<(x:Int):=E;have j:=f.alloc f.size (Zc #[I .u8 (48+(x:Int) % 10)] 5);clear d;go_wp2;go_roundw;case rel=>exact⟨x / 10,c :: acc,by congr 1,by rw[<- m.out],r,E,j⟩
   case measure=>exact eb
  .have p:x=0:=E;subst p;have m:G (bs [109]++bs acc=mt k):=by show _=_;have h:=d.out;rw[BE,XM]at h;rw[mt,<- h,dE];rfl
   have o:(bs acc).size<=1000000000:=by rw[dG];exact i
   clear d;go_wp2;go_ret;exact⟨Ph m,f⟩
def lE(w:Zw)(v:Zv)(L:List cZ):Prop:=
 ∃(a:ZA)(cap:Nat),v=A a (J L) cap/\J L<=WX/\(∀i (h:i<J L),∃b off,a=b5 b off/\L[i]=⟨b,off+i,true⟩)/\∀s,s∈L->s.ok w
def lE.sim{L:List cZ}(h:lE w v L)(f:At w w'):lE w' v L:=by obtain⟨b,cap,g,e,c,d⟩:=h;exact⟨b,cap,g,e,c,λs a=>cZ.ok_sim (d s a) f⟩
def lE.ok{L:List cZ}(h:lE w v L):∀s,s∈L->s.ok w:=by obtain⟨-,-,-,-,-,a⟩:=h;exact a
def gS {L:List cZ} (k:Int) (h:lE w v L) (S:1<=k) (T:k+J L<=1000000000) :
  WU WV 42 #[v,I U k] w λe d=>e=Zr (I U (k+J L))/\dA L k w d:=by
 obtain⟨R,cap,rfl,N,C,y⟩:=h;have n:G (∀s,s∈L->s.ok w):=y;clear y;go_in;go_wp2;go_loopw [1,5] (λa i wr=>∃j:Nat,j<=J L/\i=I U j/\a=I U (k+j)/\dA (L.take j) k w wr) (λ_ i _=>J L-(intOf i).toNat);case atStart=>exact⟨0,E,D,zS,by simpa using dA.refl k w⟩
 case round=>
  obtain⟨j,V,rfl,rfl,c⟩:=hrel;by_cases f:j<J L
  .obtain⟨b,off,rfl,l⟩:=C j f;have g:=c.sim (λs Q=>n s (XW Q));have u:=cZ.ok_sim (n _ (QE f)) g;rw[l]at u;obtain⟨⟨x,z⟩,t⟩:=u;have K:G (WU WV 41 #[I U (k+j)] wr λe d=>e=Zr (Zt (mt (k+j)))/\Bw wr d/\a7 d b (off+j)=Z (Zt x)/\d.frozen? ⟨b,off+j,Y⟩=false):=by refine H (gK (k+j) wr E E) ?_;rintro e d ⟨rfl,q⟩;exact⟨D,q,kC q z (BR (o:=off+j) z),(q.frozen (p:=⟨b,off+j,Y⟩) (BR (o:=off+j) z)).trans t⟩
   have M:G (∀d,Bw wr d->dA (L.take (j+1)) k w (d.setCell ⟨b,off+j,Y⟩ (Zt (mt (k+j))))):=by intro d q;have:=(c.below q).snoc L[j];rw[Qq f];rw[l]at this ⊢;simpa [cZ.at,cZ.val,Xj,Nat.min_eq_left (Nat.le_of_lt f)] using this
   clear g c C l z t;generalize mt (k+j)=tx at *;go_wp2_with fail;refine H K ?_;rintro e w1 ⟨rfl,r,O,P⟩;have B:G _:=M.out w1 r;clear r K M;go_wp2;go_roundw;case rel=>exact⟨j+1,E,ew,ew,B⟩
   case measure=>exact eb
  .have m:j=J L:=E;have B:G (dA L k w wr/\k+(j:Int)=k+(J L:Int)):=by rw[m,QG]at c;exact⟨c,by rw[m]⟩
   clear m c C;go_wp2;go_ret;exact⟨zE,B.1⟩
def ot {L:List cZ} (h:lE w v L) (t:Holds w L k) (M:1<=k) (N:k+J L<=1000000000) :
  WU WV 45 #[v,I U k] w λe f=>e=Zr (I U (k+J L))/\Bw w f:=by
 obtain⟨K,cap,rfl,u,p,-⟩:=h;have y:G (Holds w L k):=t;clear t;go_in;go_wp2;go_loopw [1,5] (λa i wr=>∃j:Nat,j<=J L/\i=I U j/\a=I U (k+j)/\Bw w wr) (λ_ i _=>J L-(intOf i).toNat);case atStart=>exact⟨0,E,D,zS,Qg _ _⟩
 case round=>
  obtain⟨j,O,rfl,rfl,c⟩:=hrel;by_cases n:j<J L
  .obtain⟨b,off,rfl,g⟩:=p j n;have r:=N6 y j n;rw[g]at r;have d:a7 w b (off+j)=Z (Zt (mt (k+j))):=by simpa [cZ.at,cZ.val] using r
   have f0:=kC c d (BR d);have s:=c.size;have x:G (WU WV 41 #[I U (k+j)] wr.drew λe f=>e=Zr (Zt (mt (k+j)))/\Bw wr f/\a7 f b (off+j)=Z (Zt (mt (k+j)))):=by refine H (gK (k+j) wr.drew E E) ?_;rintro e f ⟨rfl,z⟩;have l:Bw wr f:=((Qg _ _).drew).trans z;exact⟨D,l,kC l f0 (BR (o:=off+j) f0)⟩
   clear p g r d;generalize mt (k+j)=tx at *;go_wp2_with fail;go_region_law (go_simp;go_at_call 41;refine H x ?_;rintro e w1 ⟨rfl,m,B⟩);all_goals
    have q:=b9 c s m
    clear m
    go_wp2
    go_roundw
    case rel=>exact⟨j+1,E,ew,ew,q⟩
    case measure=>exact eb
  .have C:G (k+(j:Int)=k+(J L:Int)):=by show _=_;omega
   clear p;go_wp2;go_ret;exact⟨zE,c⟩
def lE.slice{L:List cZ}(h:lE w v L):∃a l c,v=A a l c:=by obtain⟨d,cap,b,-⟩:=h;exact⟨_,_,_,b⟩
def lV{a:List (List α)}(h:j<J a):(a.take (j+1)).flatten=(a.take j).flatten++a[j]:=by rw[Qq h,Xp,Z9,WM,XF]
def ip(a:List (List α))(j:Nat):J (a.take j).flatten<=J a.flatten:=by
 have h:J (a.take j++a.drop j).flatten=J a.flatten:=by rw[Q2]
 rw[Xp,Qi]at h;omega
def dA.snocI{L:List cZ}{kk:Int}(h:dA L k w w1)(s:cZ)(a:kk=k+J L)(p:Addr)(v:Zv)(hp:p=s.at)(b:v=s.val kk):dA (L++[s]) k w (w1.setCell p v):=by subst a hp b;exact h.snoc s
def lE.below{L:List cZ}(h:lE w v L)(a:Bw w w'):lE w' v L:=h.sim ((At.refl w).below a)
def Holds.below{L:List cZ}(h:Holds w L k)(a:∀s,s∈L->s.ok w)(b:Bw w w'):Holds w' L k:=
 h.keep (λs c=>b.cell (p:=s.at) (cZ.ok_lt (a s c)))
def GS{a:List (List cZ)}(h:Holds w a.flatten k)(b:j<J a):Holds w a[j] (k+(J (a.take j).flatten:Int)):=by
 have e:a.flatten=(a.take j).flatten++(a[j]++(a.drop (j+1)).flatten):=by have:=Q2 j a;rw[<- Z9,<- Xp,<- Qy b,this]
 rw[e]at h;exact (nA (nA h).2).1
def mQ(b o:Nat):List cZ:=[⟨b,o,false⟩,⟨b,o+1,false⟩,⟨b,o+2,true⟩]
def lI(w:Zw):Nat->Zv->List cZ->Prop
 | 0,v,L=>∃c cap,v=A c 0 cap/\L=[]
 | n + 1, v, L => ∃ (c : ZA) (cap : Nat) (a : List (List cZ)), v = A c (J a) cap /\ J a <= WX /\ L = a.flatten /\
   ∀i (h:i<J a),∃b off c3 c4 d e,c=b5 b off/\a[i]=mQ b (off+i*5)++(d++e)/\(∀s,s∈mQ b (off+i*5)->s.ok w) /\
    a7 w b (off+i*5+3)=Z c3/\a7 w b (off+i*5+4)=Z c4/\lE w c3 d/\lI w n c4 e
def lI.slice:∀ {n:Nat} {v:Zv} {L:List cZ},lI w n v L->∃a l c,v=A a l c:=by
 intro n;cases n with
 | zero=>rintro v L ⟨d,cap,b,-⟩;exact⟨_,_,_,b⟩
 | succ n=>rintro v L ⟨d,cap,e,b,-⟩;exact⟨_,_,_,b⟩
def lI.sim(d:At w w'):∀ {n:Nat} {v:Zv} {L:List cZ},lI w n v L->lI w' n v L:=by
 intro n;induction n with
 | zero=>intro v L h;exact h
 | succ n C=>
  rintro v L ⟨q,cap,p,B,z,u,y⟩;refine⟨q,cap,p,B,z,u,λi h=>?_⟩;have⟨b,off,c3,c4,m,o,x,e,f,r,t,j,k⟩:=y i h;refine⟨b,off,c3,c4,m,o,x,e,λs g=>cZ.ok_sim (f s g) d,?_,?_,j.sim d,C k⟩;·obtain⟨a,l,c,rfl⟩:=j.slice;exact d.sl _ _ _ _ _ r
  .obtain⟨a,l,c,rfl⟩:=k.slice;exact d.sl _ _ _ _ _ t
def lI.ok:∀ {n:Nat} {v:Zv} {L:List cZ},lI w n v L->∀s,s∈L->s.ok w:=by
 intro n;induction n with
 | zero=>rintro v L ⟨j,cap,o,rfl⟩ s g;cases g
 | succ n p=>
  rintro v L ⟨j,cap,u,o,B,rfl,k⟩ s g;have⟨t,c,a⟩:=Xl.1 g;obtain⟨i,h,rfl⟩:=QT c;have⟨b,off,c3,c4,q,r,z,c,f,x,y,l,m⟩:=k i h;rw[c]at a;rcases QF.1 a with d|d;·exact f s d
  .rcases QF.1 d with e|e;·exact l.ok s e
   .exact p m s e
def r8(n:Nat):Prop:=∀(L:List cZ)(v:Zv)(k:Int)(w:Zw),lI w n v L->1<=k->k+J L<=1000000000 ->
 WU WV 43 #[v,I U k] w λe a=>e=Zr (I U (k+J L))/\dA L k w a
def LE:r8 0:=by
 intro L v k w h b c;obtain⟨a,cap,rfl,rfl⟩:=h;have HP:G (dA [] k w w/\k=k+(J ([]:List cZ):Int)):=⟨dA.refl k w,zS⟩;go_in;go_wp2;refine wp_loop_rounds 1 ?_;repeat any_goals (rw[rounds_succ];go_wp2)
 go_ret;exact⟨zS,HP.1⟩
def LD(hn:r8 n):r8 (n+1):=by
 intro L v k w h h0 q7;have F:=h.ok;obtain⟨ao,cap,d,rfl,j0,rfl,hi⟩:=h;unfold WX at j0;have ab:=a8 F;have T:G (∀j,J (d.take j).flatten<=J d.flatten):=λj=>ip d j;have HB:=a8 q7;clear F q7;go_in;go_wp2;go_loopw [1,5] (λa i wr=>∃j:Nat,j<=J d/\i=I U j/\a=I U (k+(J (d.take j).flatten:Int))/\dA (d.take j).flatten k w wr) (λ_ i _=>J d-(intOf i).toNat);case atStart=>exact⟨0,E,D,zS,by simpa using dA.refl k w⟩
 case round=>
  obtain⟨j,hj,rfl,rfl,g⟩:=hrel;by_cases qa:j<J d
  .obtain⟨b,off,c3,c4,r,Q,rfl,z,f,t,q5,hN,hR⟩:=hi j qa;have c:=lV qa;have K:=T.out (j+1);rw[c,z]at K;simp only[Qi]at K;have P:J (mQ b (off+j*5))=3:=D;have ad:k+(J (d.take j).flatten:Int)+3+J r+J Q<=1000000000:=by have:=HB.out;omega
   have l:∀s,s∈(d.take j).flatten->s.ok w:=λs qc=>ab s (by
    have⟨Li,q7,h2⟩:=Xl.1 qc
    exact Xl.2 ⟨Li,XW q7,h2⟩)
   have⟨M,hM⟩:=fk ((d.take j).flatten);rw[<- hM]at g l c ad ⊢;clear hM;have m:=g.sim l;have o0:=cZ.ok_sim (f ⟨b,off+j*5,false⟩ (by simp[mQ])) m;have o1:=cZ.ok_sim (f ⟨b,off+j*5+1,false⟩ (by simp[mQ])) m;have o2:=cZ.ok_sim (f ⟨b,off+j*5+2,true⟩ (by simp[mQ])) m;obtain⟨⟨x0,r0⟩,z0⟩:=o0;obtain⟨⟨x1,r1⟩,z1⟩:=o1;obtain⟨⟨x2,r2⟩,z2⟩:=o2;simp only[cZ.at]at r0 r1 r2 z0 z1 z2;generalize C:k+(J M:Int)=kk at *;have af:1<=kk:=E;have W1:=g.snocI ⟨b,off+j*5,false⟩ C.symm ⟨b,off+j*5,Y⟩ (I U kk) D D;have W2:=W1.snocI (kk:=kk+1) ⟨b,off+j*5+1,false⟩ zE ⟨b,off+j*5+1,Y⟩ (I U (kk+1)) D D;have q6:G _:=W2;have c2:((wr.setCell ⟨b,off+j*5,Y⟩ (I U kk)).setCell ⟨b,off+j*5+1,Y⟩ (I U (kk+1))).cell? ⟨b,off+j*5+2,Y⟩=Z (Zt x2):=by rw[Xh _ _ _ _ zS,Xh _ _ _ _ zS];exact r2
   have f2:((wr.setCell ⟨b,off+j*5,Y⟩ (I U kk)).setCell ⟨b,off+j*5+1,Y⟩ (I U (kk+1))).frozen? ⟨b,off+j*5+2,Y⟩=false:=by rw[XO,XO];exact z2
   have HC:G (WU WV 41 #[I U (kk+1+1)] ((wr.setCell ⟨b,off+j*5,Y⟩ (I U kk)).setCell ⟨b,off+j*5+1,Y⟩ (I U (kk+1))) λe ql=>e=Zr (Zt (mt (kk+1+1))) /\
     ql.cell? ⟨b,off+j*5+2,Y⟩=Z (Zt x2)/\ql.frozen? ⟨b,off+j*5+2,Y⟩=false/\dA (M++mQ b (off+j*5)) k w (ql.setCell ⟨b,off+j*5+2,Y⟩ (Zt (mt (kk+1+1))))):=by
    refine H (gK (kk+1+1) _ E E) ?_
    rintro e ql ⟨rfl,hb⟩
    refine⟨D,kC hb c2 (BR (o:=off+j*5+2) c2),(hb.frozen (p:=⟨b,off+j*5+2,Y⟩) (BR (o:=off+j*5+2) c2)).trans f2,?_⟩
    have:=(q6.below hb).snocI (kk:=kk+1+1) ⟨b,off+j*5+2,true⟩ zE ⟨b,off+j*5+2,Y⟩ (Zt (mt (kk+1+1))) D D
    simpa [mQ] using this
   have u:G (∀s,s∈M++mQ b (off+j*5)->s.ok w):=λs qc=>by
    rcases QF.1 qc with h|h;·exact l s h
    .exact f s h
   have V:G (lE w c3 r/\lI w n c4 Q/\w.cell? ⟨b,off+j*5+3,Y⟩=Z c3/\w.cell? ⟨b,off+j*5+4,Y⟩=Z c4):=⟨hN,hR,t,q5⟩;obtain⟨na,nl,nc,rfl⟩:=hN.slice;obtain⟨ka,kl,kc,rfl⟩:=hR.slice;have W:G ((d.take (j+1)).flatten=M++(mQ b (off+j*5)++(r++Q))):=by show _=_;rw[c,z]
   have y:=a8 C;clear hN hR t q5 hi W1 W2 q6 m g f l c z K c2 f2 r2 z2 C;generalize mt (kk+1+1)=tx at *;go_wp2_with fail;refine H HC ?_;rintro e w3 ⟨rfl,t,ae,B⟩;have N:=B.sim u;have q3:=N.sl _ _ _ _ _ V.2.2.1;have S:G (WU WV 42 _ _ _):=gS (kk+1+1+1) (V.1.sim N) E E;have q9:G _:=B;clear N B HC;go_wp2_with fail;refine H S ?_;rintro e w5 ⟨rfl,q8⟩;have q:dA (M++mQ b (off+j*5)++r) k w w5:=q9.trans (by
    rw[show k+(J (M++mQ b (off+j*5)):Int)=kk+1+1+1 by have:=y.out;rw[Qi,P];omega];exact q8)
   have X:G (∀s,s∈M++mQ b (off+j*5)++r->s.ok w):=λs qc=>by
    rcases QF.1 qc with h|h;·exact u s h
    .exact V.1.ok s h
   have O:=q.sim X;have q4:=O.sl _ _ _ _ _ V.2.2.2;have R:G (WU WV 43 _ _ _):=hn Q _ (kk+1+1+1+J r) w5 (V.2.1.sim O) E E;have x:G _:=q;clear O q q8 q9 q3 t ae S;go_wp2_with fail;refine H R ?_;rintro e w6 ⟨rfl,qq⟩;have ac:G (dA (d.take (j+1)).flatten k w w6):=by
    show dA _ _ _ _;rw[W.out];have:=x.trans (M:=Q) (w2:=w6) (by
     rw[show k+(J (M++mQ b (off+j*5)++r):Int)=kk+1+1+1+(J r:Int) by have:=y.out;rw[Qi,Qi,P];omega];exact qq)
    simpa [QZ] using this
   have aa:G (kk+1+1+1+(J r:Int)+(J Q:Int)=k+(J (d.take (j+1)).flatten:Int)):=by show _=_;rw[W.out];have:=y.out;simp only[Qi,P];omega
   clear qq x R q4;go_wp2;go_roundw;case rel=>exact⟨j+1,E,by go_num,by rw[aa.out],ac⟩
   case measure=>exact eb
  .have HW:G (dA d.flatten k w wr/\k+(J (d.take j).flatten:Int)=k+(J d.flatten:Int)):=by rw[show j=J d by omega,QG]at g ⊢;exact⟨g,D⟩
   clear hi g;go_wp2;go_ret;exact⟨dd HW.2,HW.1⟩
def AP:∀n,r8 n:=by
 intro n;induction n with
 | zero=>exact LE
 | succ n a=>exact LD a
def rY(n:Nat):Prop:=∀(L:List cZ)(v:Zv)(k:Int)(w:Zw),lI w n v L->Holds w L k->1<=k->k+J L<=1000000000 ->
 WU WV 46 #[v,I U k] w λe a=>e=Zr (I U (k+J L))/\Bw w a
def KR:rY 0:=by
 intro L v k w h _ b c;obtain⟨a,cap,rfl,rfl⟩:=h;have HP:G (k=k+(J ([]:List cZ):Int)):=by show _=_;simp
 go_in;go_wp2;refine wp_loop_rounds 1 ?_;repeat any_goals (rw[rounds_succ];go_wp2)
 go_ret;exact⟨zS,Qg _ _⟩
def lI.below{L:List cZ}(h:lI w n v L)(a:Bw w w'):lI w' n v L:=h.sim ((At.refl w).below a)
def KQ(hn:rY n):rY (n+1):=by
 intro L v k w h hh h0 h1;have V:=h.ok;obtain⟨ao,cap,d,rfl,T,rfl,j0⟩:=h;unfold WX at T;have ab:=a8 V;have HH:G (Holds w d.flatten k):=hh;have K:G (∀j,J (d.take j).flatten<=J d.flatten):=λj=>ip d j;have HB:=a8 h1;clear V hh h1;go_in;go_wp2;go_loopw [1,5] (λa i wr=>∃j:Nat,j<=J d/\i=I U j/\a=I U (k+(J (d.take j).flatten:Int))/\Bw w wr) (λ_ i _=>J d-(intOf i).toNat);case atStart=>exact⟨0,E,D,zS,Qg _ _⟩
 case round=>
  obtain⟨j,hj,rfl,rfl,c⟩:=hrel;by_cases C:j<J d
  .obtain⟨b,off,c3,c4,s,q9,rfl,m,X,R,S,hN,q8⟩:=j0 j C;have f:=lV C;have B:=K.out (j+1);rw[f,m]at B;simp only[Qi]at B;have q6:J (mQ b (off+j*5))=3:=D;have ac:k+(J (d.take j).flatten:Int)+3+J s+J q9<=1000000000:=by have:=HB.out;omega
   have z:=GS HH C;rw[m]at z;have qq:G (k+(J (d.take j).flatten:Int)+1+1+1+(J s:Int)+(J q9:Int)=k+(J (d.take (j+1)).flatten:Int)):=by show _=_;rw[f,m];simp only[Qi,q6];omega
   have ad:0<=(J (d.take j).flatten:Int):=E;generalize qa:k+(J (d.take j).flatten:Int)=kk at *;have aa:1<=kk:=E;clear qa;have⟨F,q⟩:=nA z;have⟨x,y⟩:=nA q;rw[q6]at x y;obtain⟨g0,g1,g2,-⟩:=F;have t:a7 w b (off+j*5)=Z (I U kk):=g0;have M:a7 w b (off+j*5+1)=Z (I U (kk+1)):=g1;have u:a7 w b (off+j*5+2)=Z (Zt (mt (kk+1+1))):=g2;have l:=BR t;have f0:=kC c t l;have f1:=kC c M l;have f2:=kC c u l;have HQ:G (∀W,Bw w W->a7 W b (off+j*5+3)=Z c3/\a7 W b (off+j*5+4)=Z c4):=λW p=>⟨kC p R l,kC p S l⟩;have HN:G (∀W,Bw w W->WU WV 45 #[c3,I U (kk+1+1+1)] W λe r=>e=Zr (I U (kk+1+1+1+J s))/\Bw W r):=λW p=>ot (hN.below p) (by have:=x.below hN.ok p;rwa [show kk+((3:Nat):Int)=kk+1+1+1 by omega]at this) E E;have HR:G (∀W,Bw w W->WU WV 46 #[c4,I U (kk+1+1+1+J s)] W λe r=>e=Zr (I U (kk+1+1+1+J s+J q9))/\Bw W r):=λW p=>hn q9 c4 _ W (q8.below p) (by have:=y.below q8.ok p;rwa [show kk+((3:Nat):Int)+(J s:Int)=kk+1+1+1+(J s:Int) by omega]at this) E E;have qc:=c.size;have HC:G (WU WV 41 #[I U (kk+1+1)] wr.drew λe r=>e=Zr (Zt (mt (kk+1+1)))/\Bw w r/\a7 r b (off+j*5+2)=Z (Zt (mt (kk+1+1)))):=by refine H (gK (kk+1+1) wr.drew E E) ?_;rintro e r ⟨rfl,hb⟩;have N:Bw w r:=c.trans ((((Qg _ _).drew).trans hb).mono qc);exact⟨D,N,kC N u l⟩
   obtain⟨na,nl,nc,rfl⟩:=hN.slice;obtain⟨ka,kl,kc,rfl⟩:=q8.slice;clear hN q8 R S j0 X f m B g0 g1 g2 t M u z q x y;generalize mt (kk+1+1)=tx at *;have ae:(kk != kk)=false:=zS;have af:(kk+1 != kk+1)=false:=zS;go_wp2_with fail;go_region_law (go_simp;go_at_call 41;refine H HC ?_;rintro e w1 ⟨rfl,o,q5⟩);all_goals
    have⟨p3,p4⟩:=HQ.out _ o
    clear q5 f0 f1 f2
    go_wp2_with fail
    refine H (HN _ o) ?_
    rintro e w2 ⟨rfl,P⟩
    have g:=b9 o o.size P
    have⟨q7,ql⟩:=HQ.out _ g
    clear P p3 p4
    go_wp2_with fail
    refine H (HR _ g) ?_
    rintro e w3 ⟨rfl,Q⟩
    have O:=b9 g g.size Q
    clear Q q7 ql
    go_wp2
    go_roundw
    case rel=>exact⟨j+1,E,ew,by rw[<- qq.out],O⟩
    case measure=>exact eb
  .have HW:G (k+(J (d.take j).flatten:Int)=k+(J d.flatten:Int)):=by show _=_;rw[show j=J d by omega,QG]
   clear j0;go_wp2;go_ret;exact⟨dd HW,c⟩
def AC:∀n,rY n:=by
 intro n;induction n with
 | zero=>exact KR
 | succ n a=>exact KQ a
def Own(P:ZN)(L:List cZ):Prop:=(∀s,s∈L->P s.b)/\L.Pairwise (λa b=>a.at≠b.at)
def Own.nil(P:ZN):Own P []:=⟨zS,zS⟩
def Own.mono{L:List cZ}(h:Own P L)(a:∀b,P b->Q b):Own Q L:=⟨λs c=>a _ (h.1 s c),h.2⟩
def wR{a b:cZ}(h:a.b≠b.b):a.at≠b.at:=λe=>h (by simpa [cZ.at] using Xc Addr.block e)
def Own.app{R:ZN}{L M:List cZ}(h:Own P L)(k:Own Q M)(hp:∀b,P b->R b)(i:∀b,Q b->R b)(g:∀b,P b->Q b->False):Own R (L++M):=by
 refine⟨λs j=>?_,Wm.2 ⟨h.2,k.2,λa d b f=>wR λe=>g a.b (h.1 a d) (by rw[e];exact k.1 b f)⟩⟩;rcases QF.1 j with c|c;·exact hp _ (h.1 s c)
 .exact i _ (k.1 s c)
def cZ.ok_same{s:cZ}(h:s.ok w)(c:w'.heap[s.b]?=w.heap[s.b]?):s.ok w':=by
 have d:w'.cell? s.at=w.cell? s.at:=Ql (w:=w) (w':=w') (a:=s.at) c;have e:w'.frozen? s.at=w.frozen? s.at:=by have:w'.heap[s.at.block]?=w.heap[s.at.block]?:=c;simp only[W7,this]
 unfold cZ.ok;rw[d,e];exact h
def lE.same{L:List cZ}(h:lE w v L)(e:∀s,s∈L->w'.heap[s.b]?=w.heap[s.b]?):lE w' v L:=by obtain⟨c,cap,i,g,d,f⟩:=h;exact⟨c,cap,i,g,d,λs a=>cZ.ok_same (f s a) (e s a)⟩
def lE.no(w:Zw):lE w (A Y 0 0) []:=⟨Y,0,D,gO,zS,zS⟩
def uC(h:w.ownsRow M e 1 v (J l) (l.map Zt))(t:J l<=20000):∃L,lE w v L/\J L=J l/\Own (λb=>v.ownBlock=Z b) L:=by
 rcases id h.2 with ⟨rfl,m⟩|⟨g,cap,k,rfl,n,q,r,o,p,f⟩;·exact⟨[],lE.no w,by rw[m];rfl,Own.nil _⟩
 .refine⟨(Ua (J l)).map (λi=>(⟨g,0+i,true⟩:cZ)),⟨_,cap,by rw[Qv,X4],by simp[WX];omega,zS,λs d=>?_⟩,zS,λs d=>?_,?_⟩;·obtain⟨i,j,rfl⟩:=Xo.1 d;have c:=Q7.1 j;have:=h.cells (g:=g) D i (Zt l[i]) (by simp[c]);rw[XC]at this;exact⟨⟨l[i],this⟩,by simp[W7,cZ.at,q]⟩
  .obtain⟨i,j,rfl⟩:=Xo.1 d;exact cU
  .refine WE.2 (WG (λ{a b} hab e=>?_) Wc);have:0+a=0+b:=by simpa [cZ.at] using Xc Addr.off e
   omega
def sP(h:w.ownsRow M e 1 v (J l) (l.map Zt))(b:J l<=20000)(a:∀s,s∈l->s.size<=10000)(hS:∀g,v.ownBlock=Z g->S g):cR S w l v:=by
 have hm:∀s,s∈l->s.size<=WX:=λs h=>by have:=a s h;unfold WX;omega
 have xD:J l<=WX:=fA;exact qdD
def us {l:List (T n)} (h:w.ownsRow M e 5 v (J l) xs) (a:J l<=20000) (hS:∀ g,v.ownBlock=Z g->S g)
  (hk:∀j (h:j<J l),∃c0 c1 c2 c3 c4,(xs[j*5]?=Z c0/\xs[j*5+1]?=Z c1/\xs[j*5+2]?=Z c2/\xs[j*5+3]?=Z c3/\xs[j*5+4]?=Z c4)/\cT S w n l[j] c0 c1 c2 c3 c4):dn S w (cT S w n) l v:=by have xD:J l<=WX:=fA;exact qcX
def B7:(n:Nat)->T n->Nat
 | 0,_=>0
 | n+1,t=>J (F.q t)+cG (λk=>3+B7 n k) (F.o t)
def lI.same:∀ {n:Nat} {v:Zv} {L:List cZ},lI w n v L->(∀s,s∈L->w'.heap[s.b]?=w.heap[s.b]?)->lI w' n v L:=by
 intro n;induction n with
 | zero=>intro v L h _;exact h
 | succ n z=>
  rintro v L ⟨l,cap,g,y,t,rfl,r⟩ q;refine⟨l,cap,g,y,t,D,λi h=>?_⟩;have⟨b,off,c3,c4,j,k,p,c,f,m,o,u,x⟩:=r i h;have hm:∀s,s∈g[i]->w'.heap[s.b]?=w.heap[s.b]?:=λs e=>q s (Xl.2 ⟨_,zS,e⟩);rw[c]at hm;have d:w'.heap[b]?=w.heap[b]?:=hm ⟨b,off+i*5,false⟩ (by simp[mQ]);refine⟨b,off,c3,c4,j,k,p,c,λs e=>cZ.ok_same (f s e) (hm s (by simp[e])),?_,?_,u.same JV,z x JV⟩;·exact (Ql (w:=w) (w':=w') (a:=⟨b,off+i*5+3,Y⟩) d).trans m
  .exact (Ql (w:=w) (w':=w') (a:=⟨b,off+i*5+4,Y⟩) d).trans o
def lI.no(w:Zw)(n:Nat):lI w n (A Y 0 0) []:=by exact YI
def wh(P:ZN)(w:Zw)(n:Nat)(d:List (T n))(xs:List Zv)(a:List (List cZ)):Prop:=
 Own P a.flatten/\∀j (h:j<J d) (hp:j<J a),∃c0 c1 c2 c3 c4 b c,(xs[j*5]?=Z c0/\xs[j*5+1]?=Z c1/\xs[j*5+2]?=Z c2/\xs[j*5+3]?=Z c3/\xs[j*5+4]?=Z c4)/\a[j]=b++c /\
  cT P w n d[j] c0 c1 c2 c3 c4/\lE w c3 b/\lI w (n-1) c4 c
def Fi {l:List (T n)} {c:List (List cZ)} (h:w.ownsRow M e 5 v (J l) xs) (hl:J l<=20000) (R:J c=J l) (K:wh P w n l xs c) (ql:∀ b,P b->v.ownBlock≠Z b) :
  ∃L,lI w n v L/\Own (λb=>P b∨v.ownBlock=Z b) L/\J L=3*J l+J c.flatten:=by
 rcases id h.2 with ⟨rfl,B⟩|⟨g,cap,q8,rfl,aa,hg,ad,ab,ac,W⟩;·have:c=[]:=Qj E;subst this;exact⟨[],lI.no w n,Own.nil _,by simp[B]⟩
 .have S:∀ (i:Nat),i<J l->n≠0:=by intro i hi hn;subst hn;obtain⟨c0,c1,c2,c3,c4,X,q6,-,-,V,-⟩:=K.2 i hi E;exact V.elim
  have p:∀i (hi:i<J l),((Ua (J l)).map (λi=>mQ g (0+i*5)++c.getD i []))[i]'oC=mQ g (0+i*5)++c[i]'E:=by intro i hi;have:i<J c:=E;simp[Un,this]
  have t:Own (λb=>P b∨(Uc (b5 g 0) (J l) cap).ownBlock=Z b) ((Ua (J l)).map (λi=>mQ g (0+i*5)++c.getD i [])).flatten:=by
   have z:=ZL.1 K.1.2;have qm:∀i s,s∈c.getD i []->P s.b:=λi s hs=>by
    by_cases hi:i<J c;·rw[Qw,Qp hi,Xm]at hs;exact K.1.1 s (Xl.2 ⟨_,zS,hs⟩)
    .rw[Qw,Xs E]at hs;cases hs
   have h5:∀o (s:cZ),s∈mQ g o->s.b=g/\o<=s.o/\s.o<=o+2:=λo s hs=>by simp only[mQ,QW,ZH,WQ]at hs;rcases hs with rfl|rfl|rfl<;>exact⟨D,dS,dS⟩
   have f:∀(s:cZ),P s.b->s.b≠g:=λs hs e=>ql g (by rw[<- e];exact hs) D;refine⟨λs hs=>?_,ZL.2 ⟨λx hx=>?_,?_⟩⟩;·exact TP
   .obtain⟨i,hi,rfl⟩:=Xo.1 hx;refine Wm.2 ⟨?_,?_,λa O b C=>wR λe=>f b (qm i b C) (by rw[<- e,(h5 _ a O).1])⟩;·simp[mQ,cZ.at]
    .by_cases hi:i<J c;·rw[Qw,Qp hi,Xm];exact z.1 _ zS
     .rw[Qw,Xs E];exact zS
   .refine WE.2 (WG (λ{i j} hij a O b C=>?_) Wc);rcases QF.1 O with h1|h1
    .rcases QF.1 C with d|d
     .intro e;have e':a.o=b.o:=by simpa [cZ.at] using Xc Addr.off e
      have q1:=(h5 _ a h1).2.2;have q2:=(h5 _ b d).2.1;omega
     .exact wR λe=>f b (qm j b d) (by rw[<- e,(h5 _ a h1).1])
    .rcases QF.1 C with d|d;·exact wR λe=>f a (qm i a h1) (by rw[e,(h5 _ b d).1])
     .by_cases q9:j<J c;·rw[Qw,Qp q9,Xm]at d;rw[Qw,Qp (by omega:i<J c),Xm]at h1;exact (X1.1 z.2) i j E q9 hij a h1 b d
      .rw[Qw,Xs E]at d;cases d
  have r:J ((Ua (J l)).map (λi=>mQ g (0+i*5)++c.getD i [])).flatten=3*J l+J c.flatten:=by
   have e:c=(Ua (J l)).map (λi=>c.getD i []):=by refine Wk (by simp[R]) λi h1 d=>?_;simp[Un,h1]
   conv=>rhs;rw[e]
   generalize J l=m;induction m with
   | zero=>rfl
   | succ m ih=>rw[X7,Q8,Xp,Qi,ih,Q8,Xp,Qi];simp[mQ];omega
  refine⟨_,?_,t,r⟩;cases n with
  | zero=>have B:J l=0:=Nat.eq_zero_of_not_pos λy=>S 0 y D;exact⟨b5 g 0,cap,by rw[B],by rw[B];rfl⟩
  | succ m=>
   refine⟨b5 g 0,cap,_,by rw[Qv,X4],by simp[WX];omega,rfl,λi hi=>?_⟩;have q:i<J l:=oC;have⟨c0,c1,c2,c3,c4,X,q6,⟨qq,q5,j0,qa,F⟩,N,V,qc,q7⟩:=K.2 i q E;have k:∀j u,xs[j]?=Z u->a7 w g (0+j)=Z u:=λj u hu=>by have:=h.cells (g:=g) D j u hu;rwa [XC]at this
   obtain⟨rfl,rfl,rfl,-⟩:=V;refine⟨g,0,c3,c4,X,q6,D,by rw[p i q,N],λs hs=>?_,k _ _ qa,k _ _ F,qc,q7⟩;have Q:∀o,w.frozen? ⟨g,o,Y⟩=false:=λo=>by simp[W7,hg]
   simp only[mQ,QW,ZH,WQ]at hs;rcases hs with rfl|rfl|rfl;·exact⟨⟨_,k _ _ qq⟩,Q _⟩
   .exact⟨⟨_,k _ _ q5⟩,Q _⟩
   .exact⟨⟨_,k _ _ j0⟩,Q _⟩
def Tryz.info_strO:(prog.info? 9).map (λi=>(i.zero,i.size,i.bytes))=Z (Z (Zt ⟨#[]⟩),1,16):=gZ
def nK(s:ZB)(w:Zw)(h:s.size<=10000):WU WV 68 #[Zt s] w λe b=>e=Zr (Zt s)/\Bw w b:=by have a:G (WU WV 146 _ _ _):=Tryz.stringslite_Clone s w E;go_in;go_wp2_with fail;refine H a ?_;rintro e w1 ⟨rfl,hb⟩;clear a;exact FJ
def pW (qc:cR S w l v) (F:Bd S w) (X:J l<=10000) (q9:∀ s,s∈l->s.size<=10000) :
  WU WV 70 #[v] w λe q5=>∃qq,e=Zr qq/\q5.ownsRow w.heap.size 9 1 qq (J l) (l.map Zt)/\Bw w q5:=by
 obtain⟨ao,cap,rfl,-,-,a⟩:=qc;have⟨ql,W,n,o,p⟩:=QY Tryz.info_strO;have C:G (_/\_/\_/\_):=⟨W,n,o,p⟩;have j0:=a8 q9;clear W n o p q9;go_in;go_wp2;go_loopw [3,8] (λv i wr=>∃k:Nat,k<=J l/\i=I U k/\wr.ownsRow w.heap.size 9 1 v k ((l.take k).map Zt)/\Bw w wr) (λ_ i _=>J l-(intOf i).toNat);case atStart=>exact⟨0,E,D,QV _ _ _ _,Qg _ _⟩
 case round=>
  obtain⟨k,hk,rfl,f,c⟩:=hrel;obtain⟨O,P,rfl⟩:=ep f;have N:=c.size;have x:=a8 f;clear f;by_cases qf:k<J l
  .obtain⟨b,off,rfl,L,z⟩:=a nS;have f0:=kC c (z k qf) (F b L);have R:G (WU WV 68 _ _ _):=nK l[k] wr (j0 _ zS);have qa:G ((l.take (k+1)).map Value.string=(l.take k).map Zt++[Zt l[k]]):=by show _=_;rw[Qq qf,Q8];rfl
   clear a z;generalize l[k]=nm at *;go_wp2_with fail;refine H R ?_;rintro e B ⟨rfl,m⟩;have q8:=m.size;have r:G (B.ownsRow w.heap.size 9 1 (A O k P) k ((l.take k).map Zt)):=cV x (λT M=>m.block T (cO x T M).2);have u:G (Bw w B):=c.trans (m.mono N);clear m f0 R;go_wp2_with (at_builtin;refine Xb _ D (.tmp 12) (.tmp 15) 23 D w.heap.size 9 ql _ 1 16 underlying23 C.1 C.2.1 C.2.2.1 C.2.2.2 D zC (A O k P) k ((l.take k).map Zt) D (r.alloc _) ⟨B.heap.size,0,Y⟩ 1 1 [Zt nm] D D (QB (Qh B _)) iz zC fA E zE (B.heap.size+1) zS ?_;intro g cap Q j d y q6;refine XE ?_);refine QJ ?_;have HF:G (Q.ownsRow w.heap.size 9 1 (A (b5 g 0) (k+1) cap) (k+1) ((l.take (k+1)).map Zt)):=by show Q.ownsRow _ _ _ _ _ _;rw[qa.out];exact j
   have K:G (Bw w Q):=(u.alloc E (Zc #[Zt nm] 9)).grown d zE (λq q7=>(cO r q q7).1);clear j d y r x u;go_wp2;go_roundw;case rel=>exact⟨k+1,E,ew,HF,K⟩
   case measure=>exact eb
  .have t:k=J l:=E;have HP:G (wr.ownsRow w.heap.size 9 1 (A O k P) (J l) (l.map Zt)):=by have V:=x.out;rw[t,QG]at V;rw[t];exact V
   clear t a x;go_wp2;go_ret;exact⟨_,D,HP,c⟩
def Cc(f:α->Nat)(l:List α)(x:α):cG f (l++[x])=cG f l+f x:=by
 induction l with
 | nil=>simp[cG]
 | cons a r b=>simp only[QH,cG,b];omega
def kj:(n:Nat)->T n->Prop
 | 0,_=>False
 | n + 1, t => (F.k t = 1 -> F.a t = WT /\ F.q t = [] /\ F.o t = []) /\ (F.k t = 2 -> F.n t = 0 /\ F.q t = [] /\ F.o t = []) /\
   (F.k t=3->F.a t=WT/\F.q t=[]/\F.o t=[]/\(F.n t=0∨F.n t=1))/\(F.k t=4->F.n t=0/\F.a t=WT/\F.q t=[]) /\
   (F.k t=5->F.n t=0/\F.a t=WT)/\(F.k t=6->F.n t=0/\F.a t=WT/\F.q t=[]) /\
   -999999999<=F.n t/\F.n t<=999999999/\(F.a t).size<=10000/\J (F.q t)<=10000/\(∀s,s∈F.q t->s.size<=10000)/\J (F.o t)<=10000/\∀k,k∈F.o t->kj n k
def Tryz.info_treeO:(prog.info? 31).map (λi=>(i.zero,i.size,i.bytes))=Z (Z (Za #[I U 0,I U 0,Zt ⟨#[]⟩,A Y 0 0,A Y 0 0]),5,80):=gZ
structure CJ(M n:Nat)(ks:List (T n))(w1:Zw)(k:Nat)(v:Zv)(wr:Zw):Prop where
 below:Below M w1 wr
 row:∃xs Ps,wr.ownsRow M 31 5 v k xs/\J Ps=k/\wh (λb=>M<=b/\b<wr.heap.size/\v.ownBlock≠Z b) wr n ks xs Ps/\J Ps.flatten+3*k=cG (λx=>3+B7 n x) (ks.take k)
def OT {r:List (T n)} {k:Nat} {t:List (List cZ)} {L3 L4:List cZ} (h:Below M w1 wr) (q7:k<J r) (j0:M<=wr.heap.size)
  (m:wr.ownsRow M 31 5 v k xs) (y:J t=k) (p:wh (λb=>M<=b/\b<wr.heap.size/\v.ownBlock≠Z b) wr n r xs t) (L:J t.flatten+3*k=cG (λx=>3+B7 n x) (r.take k))
  (d:Below wr.heap.size wr w2) (K:cT (λb=>wr.heap.size<=b/\b<w2.heap.size) w2 n r[k] c0 c1 c2 c3 c4) (h3:lE w2 c3 L3) (q5:lI w2 (n-1) c4 L4) (W:Own (λb=>wr.heap.size<=b/\b<w2.heap.size) (L3++L4)) (ql:J (L3++L4)=B7 n r[k])
  (q:w3.ownsRow M 31 5 (A (b5 g 0) (k+1) cap) (k+1) (xs++[c0,c1,c2,c3,c4])) (a:(w2.alloc one).grownBy w3 v.ownBlock) (qy:v.ownBlock=Z g∨g=w2.heap.size+1) :
  CJ M n r w1 (k+1) (A (b5 g 0) (k+1) cap) w3:=by
 have aa:=d.size;have P:=a.size;simp at P;have xp:∀b,v.ownBlock=Z b->M<=b/\b<wr.heap.size:=cO m;have O:J xs=k*5:=m.1;have R:∀b,b<w2.heap.size->v.ownBlock≠Z b->w3.heap[b]?=w2.heap[b]?:=λb hb qh=>by rw[a.block b zE Bb,Qf _ _ _ hb]
 have Q:∀b,b<wr.heap.size->v.ownBlock≠Z b->w3.heap[b]?=wr.heap[b]?:=λb hb N=>by rw[R b E N,d.block b hb]
 have c:∀b,v.ownBlock≠Z b->b<w2.heap.size->(Uc (b5 g 0) (k+1) cap).ownBlock≠Z b:=by exact P2
 have l:∀b,wr.heap.size<=b->v.ownBlock≠Z b:=λb h1 e=>by have:=xp b e;omega
 refine⟨⟨?_,?_,?_,by have:=h.size;omega,λb hb=>?_⟩,xs++[c0,c1,c2,c3,c4],t++[L3++L4],q,by simp[y],⟨?_,λj F hp=>?_⟩,?_⟩;·rw[a.os];exact d.os.trans h.os
 .rw[a.tape];exact d.tape.trans h.tape
 .rw[a.output];exact d.output.trans h.output
 .rw[Q b E ID];exact h.block b hb
 .rw[Xp,ZJ];refine p.1.app W (λb hb=>⟨hb.1,E,c b hb.2.2 E⟩) (λb hb=>⟨E,E,c b (l b hb.1) hb.2⟩) (λb h1 h2=>E)
 .by_cases qc:j<k
  .have o:j<J t:=E;have⟨X,q6,q9,q8,qq,S,V,qa,u,C,z,B⟩:=p.2 j F o;have i:∀s,s∈S++V->w3.heap[s.b]?=wr.heap[s.b]?:=λs f=>by have:=p.1.1 s (Xl.2 ⟨_,QE o,by rw[u];exact f⟩);exact Q s.b this.2.1 this.2.2
   refine⟨X,q6,q9,q8,qq,S,V,?_,by rw[QS o];exact u,C.keep (λb hb=>Q b hb.2.1 hb.2.2) (λb hb=>⟨hb.1,Ad,c b hb.2.2 Ad⟩),
    z.same (λs f=>i s (XH _ f)),B.same (λs f=>i s (Xt _ f))⟩
   rw[QA E,QA E,QA E,QA E,QA E];exact qa
  .have w:j=k:=by simp at hp;omega
   subst w;have i:∀s,s∈L3++L4->w3.heap[s.b]?=w2.heap[s.b]?:=λs f=>by have:=W.1 s f;exact R s.b this.2 (l _ E)
   refine⟨c0,c1,c2,c3,c4,L3,L4,?_,by simp[<- y],K.keep (λb hb=>R b hb.2 (l b hb.1)) (λb hb=>⟨pe,by have:=hb.2;omega,c b (l b hb.1) hb.2⟩),
    h3.same (λs f=>i s (XH _ f)),q5.same (λs f=>i s (Xt _ f))⟩
   rw[Qu E,Qu E,Qu E,Qu E,Qu E,O,
    WO,show j*5+1-j*5=1 by omega,show j*5+2-j*5=2 by omega,show j*5+3-j*5=3 by omega,show j*5+4-j*5=4 by omega]
   exact⟨D,D,D,D,D⟩
 .rw[Qq q7,Cc,<- L,Xp,ZJ,Qi,ql];omega
def gJ(n:Nat)(t:T n)(w:Zw)(e:Ending)(w':Zw):Prop:=
 Below w.heap.size w w' /\ ∃g h i d f a c,e=Zr (Za #[g,h,i,d,f])/\cT (λb=>w.heap.size<=b/\b<w'.heap.size) w' n t g h i d f/\lE w' d a/\lI w' (n-1) f c /\
  Own (λb=>w.heap.size<=b/\b<w'.heap.size) (a++c)/\J (a++c)=B7 n t
def nV(n:Nat):Prop:=∀(S:ZN)(t:T n)(a:Zv)(w:Zw),dL S w n t a->(∀b,S b->b<w.heap.size)->kj n t->WU WV 36 #[a] w (gJ n t w)
def mo (hn:nV n) {a:List (T n)} (q8:fB S w (dL S w n) a v) (hB:∀ b,S b->b<w.heap.size) (ag:J a<=10000) (q6:∀ k,k∈a->kj n k) :
  WU WV 69 #[v] w λe O=>Below w.heap.size w O/\∃v' L,e=Zr v' /\ dn (λb=>w.heap.size<=b/\b<O.heap.size) O (cT (λb=>w.heap.size<=b/\b<O.heap.size) O n) a v' /\ lI O n v' L /\
   Own (λb=>w.heap.size<=b/\b<O.heap.size) L/\J L=cG (λx=>3+B7 n x) a:=by
 obtain⟨ao,cap,rfl,-,l⟩:=q8;have⟨i0,hi,z,B,C⟩:=QY Tryz.info_treeO;have j0:G (_/\_/\_/\_):=⟨hi,z,B,C⟩;have q7:G (∀k,k∈a->kj n k):=q6;clear hi z B C q6;go_enter func69,ntmps69;go_wp2_with fail;go_loopw [3,8] (λv i wr=>∃k:Nat,k<=J a/\i=I U k/\CJ w.heap.size n a w k v wr) (λ_ i _=>J a-(intOf i).toNat);case atStart=>exact⟨0,E,D,Qg _ _,[],[],QV _ _ _ _,D,⟨Own.nil _,zS⟩,uL⟩
 case round=>
  obtain⟨k,hk,rfl,d,qc,qa,r,N,q,u⟩:=hrel;obtain⟨R,V,rfl⟩:=ep r;have ad:=d.size;have Q:=a8 r;have P:G (J qa=k/\wh (λb=>w.heap.size<=b/\b<wr.heap.size/\(Uc R k V).ownBlock≠Z b) wr n a qc qa/\J qa.flatten+3*k=cG (λx=>3+B7 n x) (a.take k)):=⟨N,q,u⟩;clear r N q u;by_cases qf:k<J a
  .obtain⟨b,off,rfl,aa,o⟩:=l nS;have⟨c,e0,q8⟩:=o k qf;obtain⟨ku,kx,rfl⟩:=id q8.iface;have f0:=(d.cell (p:=⟨b,off+k,Y⟩) (hB b aa)).trans e0;have HC:G (WU WV 36 _ _ _):=hn S a[k] _ wr (q8.keep (b6 d hB) zI) (fP hB) (q7 _ zS);clear l o e0 q8;go_wp2_with fail;refine H HC ?_;rintro e F ⟨t,g0,g1,g2,g3,g4,L3,L4,rfl,K,qq,q5,ho,hl⟩;obtain⟨u0,u1,u2,ua,ul,uc,ya,yl,yc,rfl,rfl,rfl,rfl,rfl⟩:=K.shape;have af:=t.size;have W:G (F.ownsRow w.heap.size 31 5 (A R k V) k qc):=cV Q (λg' ac=>t.block g' (cO Q g' ac).2);have f:G (_/\_/\_/\_/\_/\_):=⟨t,K,qq,q5,ho,hl⟩;clear t K qq q5 ho hl f0 HC;go_wp2_with (at_builtin;refine Xb _ D (.tmp 12) (.tmp 15) 29 D w.heap.size 31 i0 _ 5 80 underlying29 j0.1 j0.2.1 j0.2.2.1 j0.2.2.2 D mz (A R k V) k qc D (W.alloc _) ⟨F.heap.size,0,Y⟩ 1 1 [I U u0,I U u1,Zt u2,A ua ul uc,A ya yl yc] D D (QB (Qh F _)) iz mz fA (by omega) gE (F.heap.size+1) dS ?_;intro g cap w3 s m y ae;refine XE ?_);refine QJ ?_;have HF:G (CJ w.heap.size n a w (k+1) (A (b5 g 0) (k+1) cap) w3):=
    OT d qf ad Q P.1 P.2.1 P.2.2 f.1 f.2.1 f.2.2.1 f.2.2.2.1 f.2.2.2.2.1 f.2.2.2.2.2 s m y
   clear s m y f W Q P;go_wp2_with fail;exact FU
  .have M:k=J a:=E;have HP:G (∃ L,dn (λb=>w.heap.size<=b/\b<wr.heap.size) wr (cT (λb=>w.heap.size<=b/\b<wr.heap.size) wr n) a (A R k V)/\lI wr n (A R k V) L /\
     Own (λb=>w.heap.size<=b/\b<wr.heap.size) L/\J L=cG (λx=>3+B7 n x) a):=by
    have ql:=Q.out
    have⟨N,q,u⟩:=P.out
    have hv:=cO ql
    rw[M,QG]at u
    have q9:J qa=J a:=E
    have X:wr.ownsRow w.heap.size 31 5 (A R k V) (J a) qc:=by rw[M]at ql ⊢;exact ql
    have⟨L,hR,hO,hL⟩:=Fi X E q9 q zS
    refine⟨L,us X E E (λj hj=>?_),hR,hO.mono (λb hb=>hb.elim E (λh=>hv b h)),E⟩
    obtain⟨d0,d1,d2,d3,d4,K3,K4,hd,-,ab,-⟩:=q.2 j hj E
    exact⟨d0,d1,d2,d3,d4,hd,ab.keep ik PV⟩
   clear M l Q P;go_wp2_with fail;go_ret;have⟨L,q1,q2,q3,q4⟩:=HP.out;exact⟨d,_,L,D,q1,q2,q3,q4⟩
def Tryz.yes_num(x:Zv)(w:Zw):(W8 (.iface 120 x) 71 120 true).run WV w=.ok (Zu #[x,Zb true]) w:=gZ
def Tryz.no_num_text(x:Zv)(w:Zw):(W8 (.iface 121 x) 71 120 true).run WV w=.ok (Zu #[I U 0,Zb false]) w:=gZ
def Tryz.yes_text(x:Zv)(w:Zw):(W8 (.iface 121 x) 71 121 true).run WV w=.ok (Zu #[x,Zb true]) w:=gZ
def Tryz.no_num_flag(x:Zv)(w:Zw):(W8 (.iface 123 x) 71 120 true).run WV w=.ok (Zu #[I U 0,Zb false]) w:=gZ
def Tryz.no_text_flag(x:Zv)(w:Zw):(W8 (.iface 123 x) 71 121 true).run WV w=.ok (Zu #[Zt WT,Zb false]) w:=gZ
def Tryz.yes_flag(x:Zv)(w:Zw):(W8 (.iface 123 x) 71 123 true).run WV w=.ok (Zu #[x,Zb true]) w:=gZ
def Tryz.no_num_list(x:Zv)(w:Zw):(W8 (.iface 125 x) 71 120 true).run WV w=.ok (Zu #[I U 0,Zb false]) w:=gZ
def Tryz.no_text_list(x:Zv)(w:Zw):(W8 (.iface 125 x) 71 121 true).run WV w=.ok (Zu #[Zt WT,Zb false]) w:=gZ
def Tryz.no_flag_list(x:Zv)(w:Zw):(W8 (.iface 125 x) 71 123 true).run WV w=.ok (Zu #[Zb false,Zb false]) w:=gZ
def Tryz.yes_list(x:Zv)(w:Zw):(W8 (.iface 125 x) 71 125 true).run WV w=.ok (Zu #[x,Zb true]) w:=gZ
def Tryz.no_num_form(x:Zv)(w:Zw):(W8 (.iface 128 x) 71 120 true).run WV w=.ok (Zu #[I U 0,Zb false]) w:=gZ
def Tryz.no_text_form(x:Zv)(w:Zw):(W8 (.iface 128 x) 71 121 true).run WV w=.ok (Zu #[Zt WT,Zb false]) w:=gZ
def Tryz.no_flag_form(x:Zv)(w:Zw):(W8 (.iface 128 x) 71 123 true).run WV w=.ok (Zu #[Zb false,Zb false]) w:=gZ
def Tryz.no_list_form(x:Zv)(w:Zw):(W8 (.iface 128 x) 71 125 true).run WV w=.ok (Zu #[A Y 0 0,Zb false]) w:=gZ
def Tryz.yes_form(x:Zv)(w:Zw):(W8 (.iface 128 x) 71 128 true).run WV w=.ok (Zu #[x,Zb true]) w:=gZ
def Tryz.no_num_maybe(x:Zv)(w:Zw):(W8 (.iface 129 x) 71 120 true).run WV w=.ok (Zu #[I U 0,Zb false]) w:=gZ
def Tryz.no_text_maybe(x:Zv)(w:Zw):(W8 (.iface 129 x) 71 121 true).run WV w=.ok (Zu #[Zt WT,Zb false]) w:=gZ
def Tryz.no_flag_maybe(x:Zv)(w:Zw):(W8 (.iface 129 x) 71 123 true).run WV w=.ok (Zu #[Zb false,Zb false]) w:=gZ
def Tryz.no_list_maybe(x:Zv)(w:Zw):(W8 (.iface 129 x) 71 125 true).run WV w=.ok (Zu #[A Y 0 0,Zb false]) w:=gZ
def Tryz.no_form_maybe(x:Zv)(w:Zw):(W8 (.iface 129 x) 71 128 true).run WV w=.ok (Zu #[Za #[A Y 0 0,A Y 0 0],Zb false]) w:=gZ
def Tryz.yes_maybe(x:Zv)(w:Zw):(W8 (.iface 129 x) 71 129 true).run WV w=.ok (Zu #[x,Zb true]) w:=gZ
def lW{l:List α}{d:α}(h:i<J l):l.getD i d=l[i]:=by rw[Qw,Qp h,Xm]
def pI (s:ZB) (x:α):∀ (a:List ZB) (b:List α) (j:Nat),J a=J b->j<=J a->(∀ i (h:i<J a),i<j->ij a[i] s=true) ->
  eH s x a b=(a.take j++(eH s x (a.drop j) (b.drop j)).1,b.take j++(eH s x (a.drop j) (b.drop j)).2):=by
 intro a;induction a with
 | nil=>intro b j hl d _;obtain rfl:j=0:=(by simpa using d);simp
 | cons n a f=>
  intro b j hl d c;cases j with
  | zero=>simp
  | succ j=>
   cases b with
   | nil=>simp at hl
   | cons k b=>have e:=c 0 zS E;simp only[XY]at e;have:=f b j pd (by simpa using d) (λi h g=>by have:=c (i+1) mZ E;simpa using this);simp only[X3,Xv,QH];rw[eH,Qm e,this]
def O2(s:ZB)(x:α):eH s x [] ([]:List α)=([s],[x]):=rfl
def SH(x:α){n:ZB}(b:List ZB)(k:α)(a:List α)(h:n=s):eH s x (n :: b) (k :: a)=(s :: b,x :: a):=by subst h;rw[eH,Qd (by rw[rz];simp),Qm rfl]
def JA(x:α){n:ZB}(b:List ZB)(k:α)(a:List α)(h:ij n s≠true)(c:n≠s):eH s x (n :: b) (k :: a)=(s :: n :: b,x :: k :: a):=by rw[eH,Qd h,Qd c]
def GV(m:Nat)(t:T m)(a:Bool):Bool:=(c7 m t 1 && (a==decide (36<=p8 m t))) && decide (cJ m t<=200) && decide (dC m t<=3000)
def Rm:Nat->List Zv
 | 0=>[]
 | n+1=>Rm n++[Zt (lF n),Zt (bs (ia n)),I U (Aq n),I U (Ar n)]
def BX:Array Zv:=(Rm 44).toArray
def St:∀n,J (Rm n)=n*4:=by
 intro n;induction n with
 | zero=>rfl
 | succ n a=>rw[Rm,Qi,a];simp;omega
def Ss:∀n k,k<n->(Rm n)[k*4]?=Z (Zt (lF k))/\(Rm n)[k*4+1]?=Z (Zt (bs (ia k)))/\(Rm n)[k*4+2]?=Z (I U (Aq k))/\(Rm n)[k*4+3]?=Z (I U (Ar k)):=by
 intro n;induction n with
 | zero=>intro k h;exact E
 | succ n g=>
  intro k h;have f:=St n;by_cases e:k<n;·have⟨a,b,c,d⟩:=g k e;rw[Rm,QA E,QA E,QA E,QA E];exact⟨a,b,c,d⟩
  .have:k=n:=E;subst this;rw[Rm,Qu E,Qu E,Qu E,Qu E,f,
    show k*4-k*4=0 by omega,show k*4+1-k*4=1 by omega,show k*4+2-k*4=2 by omega,show k*4+3-k*4=3 by omega]
   exact⟨D,D,D,D⟩
def lh(w:Zw)(b:Nat):Prop:=∀k,k<44->a7 w b (k*4)=Z (Zt (lF k))/\a7 w b (k*4+1)=Z (Zt (bs (ia k)))/\a7 w b (k*4+2)=Z (I U (Aq k))/\a7 w b (k*4+3)=Z (I U (Ar k))
def lh.keep(h:lh w b)(c:w'.heap[b]?=w.heap[b]?):lh w' b:=by intro k i;have⟨d,e,f,g⟩:=h k i;exact⟨(Ql (w:=w) (w':=w') (a:=⟨b,k*4,Y⟩) c).trans d,(Ql (w:=w) (w':=w') (a:=⟨b,k*4+1,Y⟩) c).trans e,(Ql (w:=w) (w':=w') (a:=⟨b,k*4+2,Y⟩) c).trans f,(Ql (w:=w) (w':=w') (a:=⟨b,k*4+3,Y⟩) c).trans g⟩
def lh.of{z:Nat×Nat}(h:w.heap[b]?=Z (Zc BX t z)):lh w b:=by
 intro k f;have⟨a,c,d,e⟩:=Ss 44 k f;refine⟨?_,?_,?_,?_⟩;·simp[WY,h,BX,a]
 .simp[WY,h,BX,c]
 .simp[WY,h,BX,d]
 .simp[WY,h,BX,e]
def mY {P:Program} {d:Func} {p:Tmp} {e:TypeId} (h:d.results=#[.cell p e]) {a:Array Zv} {b:Addr} (f:a.getD p undef=Zp (Z b)) (g:(loadVar e b).run P w=.ok v w) :
  (results d a).run P w=.ok v w:=by
 have c:a[p]?.getD undef=Zp (Z b):=by simpa using f
 simp[results,h,c,g,asAddr]
def AY(w:Zw):WU WV 91 #[] w λe h=>e=Zr (Za BX)/\Bw w h:=by
 have g:BX.size=176:=zK;have d:=run_storeAt_new (P:=WV) w 148 Tryz.zeroCells148 BX zK zK zK;have a:=run_storeCells_new (P:=WV) w 148 Tryz.zeroCells148 BX zK zK zK;have c:G _:=run_loadVar_new (P:=WV) w 148 BX 44 147 zK zK;go_in;go_wp2_with fail;conv=>
  pattern (Array.setIfInBounds (Array.setIfInBounds _ 174 _) 175 _)
  tactic=>refine Eq.trans (b:=BX) ?_ D;kernel_rfl
 conv=>
  pattern (List.set (List.set _ 174 _) 175 _)
  tactic=>refine Eq.trans (b:=BX.toList) ?_ D;kernel_rfl
 have f:G (Bw w (w.alloc (Zc BX 148))):=eC _ _;rw[a];clear d a;go_wp2_with fail;exact XQ (mY results91 D c) D ⟨D,f⟩
def Gm(a b:ZB):(a==b)=decide (a=b):=by
 obtain⟨x⟩:=a;obtain⟨y⟩:=b;show (x==y)=_;by_cases h:x=y;·subst h;simp
 .have c:¬(ByteArray.mk x)=⟨y⟩:=zE;rw[QU c];simpa using h
def gU(a b:ZB):(a.toList==b.toList)=(a==b):=by
 rw[QI,QI,Gm];by_cases h:a=b;·subst h;simp
 .have c:¬a.data.toList=b.data.toList:=λe=>h (Go.WideShapes.bytes_inj e);rw[QU h];simpa using c
def rp(a:ZB)(l:List UInt8):(a.toList==l)=(a==bs l):=by rw[<- gU,QI (bs l),fG]
def Jz{k:Nat}(h:(lF k==s)=true):OR s k (n+1)=k:=by rw[OR,Qm h]
def OS{k:Nat}(h:(lF k==s)=false):OR s k (n+1)=OR s (k+1) n:=by rw[OR,Qd (by rw[h];decide)]
def Dt (s:ZB) (f:lh w b) :
  WU WV 269 #[Zp (b5 b 0),Zt s] w λe l=>e=Zr (I U (AV s:Nat))/\l=w:=by
 have g:=a8 f;clear f;go_in;go_wp2;go_loop [5] (λi=>∃k:Nat,5<=k/\k<=44/\i=I U (k:Int)/\G (OR s k (44-k)=AV s)) (λi=>44-(intOf i).toNat);case atStart=>exact⟨5,E,E,D,D⟩
 case round=>
  obtain⟨k,m,h,rfl,a⟩:=hrel;by_cases j:k<44
  .obtain⟨c0,-,-,-⟩:=g.out k j;have c:(k:Int)<=43:=E;cases hq:(lF k==s) with
   | true=>
    have HF:G (Ue (I U (k:Int))=Zr (I U ((AV s:Nat):Int))):=by show _=_;rw[<- a.out,show 44-k=(43-k)+1 by omega,Jz hq]
    have d:=(gU _ _).trans hq;clear hq a;go_wp2;go_ret;exact⟨HF,D⟩
   | false=>
    have HF:G (OR s (k+1) (44-(k+1))=AV s):=by show _=_;rw[<- a.out,show 44-k=(44-(k+1))+1 by omega,OS hq]
    have d:=(gU _ _).trans hq;clear hq a;go_wp2;go_round;case rel=>exact⟨k+1,E,E,ew,HF⟩
    case measure=>exact eb
  .have c:¬(k:Int)<=43:=E;have HF:G (Ue (I U (0:Int))=Zr (I U ((AV s:Nat):Int))):=by show _=_;rw[<- a.out,show 44-k=0 by omega];rfl
   clear a;go_wp2;go_ret;exact⟨HF,D⟩
def uX (i:s.size<=WX) (h:lh w b) :
  WU WV 247 #[Zp (b5 b 0),Zt s] w λe j=>e=Zr (Zb (eM s))/\j=w:=by
 have a:=a8 (kO s w i);have c:=a8 (Dt s h);have HF:G (eM s=(c8 s && (AV s==0) && !(s==bs [121,101,115]) && !(s==bs [110,111]) && !(s==bs [101,110,100]))):=D;have k:=rp s [121,101,115];have l:=rp s [110,111];have m:=rp s [101,110,100];generalize (s==bs [121,101,115])=b1 at *;generalize (s==bs [110,111])=b2 at *;generalize (s==bs [101,110,100])=b3 at *;clear h;cases hn:c8 s with
 | false=>rw[hn]at a HF;go_in;go_wp2_with fail;refine H a ?_;exact S7
 | true=>
  rw[hn]at a HF;by_cases f:AV s=0
  .have d:(AV s==0)=true:=by simp[f]
   rw[d]at HF;rw[f]at c;cases b1<;>cases b2<;>cases b3
   all_goals
    go_in
    go_wp2_with fail
    refine H a ?_
    rintro e w1 ⟨rfl,rfl⟩
    go_wp2_with fail
    refine H c ?_
    exact S8
  .have d:(AV s==0)=false:=by simp[f]
   have g:(((AV s:Nat):Int)==0)=false:=zE;rw[d]at HF;go_in;go_wp2_with fail;refine H a ?_;rintro e w1 ⟨rfl,rfl⟩;go_wp2_with fail;refine H c ?_;exact S7
def mp(op:Int)(w:Zw):WU WV 29 #[I U op] w λe d=>e=Zr (I .i32 (vu op))/\d=w:=by
 by_cases a:op<1;·go_in;go_wp2;go_ret;exact⟨dd (by unfold vu;rw[Qm (.inl a)]),D⟩
 by_cases b:43<op;·go_in;go_wp2;go_ret;exact⟨dd (by unfold vu;rw[Qm (.inr b)]),D⟩
 by_cases c:op<36;·go_in;go_wp2;go_ret;exact⟨dd (by unfold vu;rw[Qd E,Qm c]),D⟩
 .go_in;go_wp2;go_ret;exact⟨dd (by unfold vu;rw[Qd E,Qd E]),D⟩
def KV(x y:ZB)(a c n:Int)(w:Zw):WU WV 187 #[Za #[Zt x,Zt y,I U a,I U c],I U n] w λe d=>e=Zr (Zb (decide (a<=n/\n<=c)))/\Bw w d:=by
 have b:=(Qg w.heap.size w).alloc E (Zc #[Zt x,Zt y,I U a,I U c] 147);by_cases f:a<=n<;>by_cases g:n<=c;all_goals
  go_in
  go_wp2
  go_ret
  exact⟨zE,b⟩
def mu (s m:Int) (x:ZB) (a b:ZA) (f g c d:Nat) (w:Zw):WU WV 160 #[Uy s m x a f c b g d] w
  λe i=>e=Zr (Uy s m x Y 0 0 Y 0 0)/\Bw w i:=by
 have h:Bw w ((w.alloc (UB s m x a f c b g d)).alloc (UA s m x Y 0 0 Y 0 0)):=
  (eC _ _).alloc zS _
 go_in;go_wp2_with fail;refine bR (v:=Uy s m x Y 0 0 Y 0 0) ?_;exact⟨D,h⟩
def cR.take(h:cR S w l (A ao (J l) cap))(k:Nat)(u:k<=J l):cR S w (l.take k) (A ao k cap):=by
 obtain⟨g,f,r,v,q,o⟩:=h;cases r
 have e:J (l.take k)=k:=zE;refine⟨ao,cap,by rw[e],by rw[e];omega,λs p=>q s (XW p),λd=>?_⟩;have c:l≠[]:=λj=>d (by rw[j];simp);have⟨b,off,n,m,a⟩:=o c;exact⟨b,off,n,m,λi t=>by rw[a i E,WH]⟩
def cR.tail{a:ZB}{q:List ZB}(h:cR S w (a :: q) (A ao n cap))(d:n<=cap):cR S w q (Ux ao 1 n cap 1):=by
 obtain⟨g,f,p,l,o,k⟩:=h;cases p
 obtain⟨b,off,rfl,j,c⟩:=k zS;simp only[Qs]at l d ⊢;unfold Ux;refine⟨if cap=1 then b5 b off else Z ((⟨b,off,Y⟩:Addr).add 1),cap-1,zS,E,λs m=>o s (Qt _ m),λe=>?_⟩;have t:=Wu.2 e;refine⟨b,off+1,by rw[Qd E];simp[Addr.add],j,λi r=>?_⟩;have:=c (i+1) zE;rw[show off+1+i=off+(i+1) by omega];exact iG
def dn.tail{R:α->Zv->Zv->Zv->Zv->Zv->Prop}{a:α}{q:List α}(h:dn S w R (a :: q) (A ao n cap))(d:n<=cap):dn S w R q (Ux ao 1 n cap 5):=by
 obtain⟨g,f,m,l,k⟩:=h;cases m
 obtain⟨b,off,rfl,j,c⟩:=k zS;simp only[Qs]at l d ⊢;unfold Ux;refine⟨if cap=1 then b5 b off else Z ((⟨b,off,Y⟩:Addr).add 5),cap-1,zS,E,λe=>?_⟩;have p:=Wu.2 e;refine⟨b,off+5,by rw[Qd E];simp[Addr.add],j,λi o=>?_⟩;have:=c (i+1) zE;rw[show off+5+i*5=off+(i+1)*5 by omega];exact iG
def KT (x:ZB) (n:cR S w l v) :
  WU WV 270 #[v,Zt x] w λe p=>p=w/\∃i:Int,e=Zr (I U i)/\decide (0<=i)=l.contains x:=by
 obtain⟨q,cap,rfl,f,o,g⟩:=n;unfold WX at f;go_in;go_wp2;go_loop [8] (λi=>∃k:Nat,k<=J l/\i=I U k/\G ((l.take k).contains x=false)) (λi=>J l-(intOf i).toNat);case atStart=>exact⟨0,E,D,D⟩
 case round=>
  obtain⟨k,r,rfl,c⟩:=hrel;by_cases qf:k<J l
  .obtain⟨b,off,rfl,-,a⟩:=g nS;have m:=a k qf;cases hq:(x==l[k]) with
   | true=>
    have j:=(gU x l[k]).trans hq;have HF:G (decide (0<=(k:Int))=l.contains x):=by
     show _=_;rw[QK E];have:x=l[k]:=by rw[Gm]at hq;simpa using hq
     rw[this];symm;rw[List.contains_eq_any_beq,List.any_eq_true];exact⟨l[k],zS,by rw[Gm];simp⟩
    clear g a hq c;go_wp2;go_ret;exact⟨D,_,D,HF⟩
   | false=>
    have j:=(gU x l[k]).trans hq;have HF:G ((l.take (k+1)).contains x=false):=by show _=_;have d:=c.out;rw[List.contains_eq_any_beq]at d ⊢;rw[Qq qf,List.any_append,d];simp[hq]
    clear g a hq c;go_wp2;go_round;case rel=>exact⟨k+1,E,ew,HF⟩
    case measure=>exact eb
  .have HF:G (decide (0<=(-1:Int))=l.contains x):=by show _=_;have d:=c.out;rw[Xf E]at d;rw[d];rfl
   clear g o c;go_wp2;go_ret;exact⟨D,_,D,HF⟩
def CS (x:ZB) (a:cR S w l v) :
  WU WV 248 #[v,Zt x] w λe g=>g=w/\e=Zr (Zb (l.contains x)):=by
 obtain⟨j,cap,f,-⟩:=id a;subst f;have b:=a8 (KT x a);go_in;go_wp2_with fail;refine H b ?_;rintro e w1 ⟨rfl,i,rfl,d⟩;have c:=a8 d;clear d b a;by_cases h:0<=i;·go_wp2;go_ret;exact⟨D,cY (by rw[<- c.out];simp[h])⟩
 .go_wp2;go_ret;exact⟨D,cY c⟩
def C0 (p:UInt8) {a:List ZB} (i:s.size<=WX) (h:lh w b) (g:cR S w a v) :
  WU WV 231 #[Zp (b5 b 0),I .i32 (p.toNat:Int),Zt s,v] w λe l=>e=Zr (Zb (gd p s a))/\l=w:=by
 obtain⟨m,cap,k,-⟩:=id g;subst k;have d:=a8 (kO s w i);have c:=a8 (uX i h);have f:=a8 (CS s g);clear h g;by_cases hp:p=78
 .have j:((p.toNat:Int)==78)=true:=by subst hp;rfl
  have HF:G (gd p s a=c8 s):=by show _=_;unfold gd;rw[Qm hp]
  clear hp;go_in;go_wp2_with fail;refine H d ?_;rintro e w1 ⟨rfl,rfl⟩;exact FB
 .have j:((p.toNat:Int)==78)=false:=by have:¬p.toNat=78:=λe=>hp (X8.1 e);exact gE
  have HF:G (gd p s a=(eM s && !(a.contains s))):=by show _=_;unfold gd;rw[Qd hp]
  clear hp;cases hf:eM s with
  | false=>rw[hf]at HF c;go_in;go_wp2_with fail;refine H c ?_;exact S8
  | true=>rw[hf]at HF c;go_in;go_wp2_with fail;refine H c ?_;rintro e w1 ⟨rfl,rfl⟩;go_wp2_with fail;refine H f ?_;exact S7
structure CK(S:ZN)(w:Zw)(m rb:Nat)(r:F (T m))(c0 v3 v4:Zv):Prop where
 box:w.heap[rb]?=Z (Zc #[c0,I U r.n,Zt r.a,v3,v4] 38 (0,0))
 n3:cR S w r.q v3
 k3:gQ v3
 n4:dn S w (b8 S w m) r.o v4
 k4:gQ v4
def CK.keep{r:F (T m)}(h:CK S w m rb r c0 v3 v4)(a:gw S w w')(b:w'.heap[rb]?=w.heap[rb]?):CK S w' m rb r c0 v3 v4:=
 ⟨b.trans h.box,h.n3.keep a zI,h.k3,h.n4.keepN a zI,h.k4⟩
def CK.lt{r:F (T m)}(h:CK S w m rb r c0 v3 v4):rb<w.heap.size:=(Qe.1 h.box).1
def CK.cells {r:F (T m)} (h:CK S w m rb r c0 v3 v4) :
  (a7 w rb 1=Z (I U r.n)/\a7 w rb 2=Z (Zt r.a)/\a7 w rb 3=Z v3/\a7 w rb 4=Z v4) /\
  (w.frozen? ⟨rb,1,Y⟩=false/\w.frozen? ⟨rb,2,Y⟩=false/\w.frozen? ⟨rb,3,Y⟩=false/\w.frozen? ⟨rb,4,Y⟩=false):=by have:=h.box;refine⟨⟨?_,?_,?_,?_⟩,?_,?_,?_,?_⟩<;>simp[WY,W7,this]
def mI{cs:Array Zv}{z:Nat×Nat}(h:w.heap[b]?=Z (Zc cs t z))(v:Zv):(w.setCell ⟨b,i,Y⟩ v).heap[b]?=Z (Zc (cs.setIfInBounds i v) t z):=by simp[Ug,QQ,h]
def ez(S:ZN)(m b:Nat)(n r:F (T m))(c0:Zv)(p:UInt8)(w:Zw)(e:Ending)(w':Zw):Prop:=
 cH b w w' /\ ((∃a v3 v4,iF (iQ m) n r p=Z a/\e=Zr (Zb true)/\CK S w' m b a c0 v3 v4)∨(iF (iQ m) n r p=Y/\e=Zr (Zb false)))
def b8.op:∀ {m:Nat} {t:T m} {c0 c1 c2 c3 c4:Zv},b8 S w m t c0 c1 c2 c3 c4->c0=I U (p8 m t):=by
 intro m;cases m with
 | zero=>intro t c0 c1 c2 c3 c4 h;exact h.elim
 | succ m=>intro t c0 c1 c2 c3 c4 h;exact h.1
def oj {P:Program} (sz:Nat) (d:P.underlying t=Z (.slice (P.elem t))) (b:∀ W,(sizeOf (P.elem t)).run P W=.ok sz W) (a:ZA) (c:Nat) (h:1<=n) (W:Zw) :
  (Instr.slice t (A a n c) (Z (I U 1)) Y Y).run P W=.ok (Ux a 1 n c sz) W:=by rw[run_slice_l W t a n c d U 1 E E,b];exact cU
def v8 (hp:p=86∨p=65) (n:F (T m)) {r:F (T m)} (g:CK S w m rb r c0 v3 v4) (B:∀ b,S b->b<w.heap.size/\b≠rb) :
  WU WV 191 #[Zp (Z ⟨rb,0,Y⟩),I .i32 (p.toNat:Int)] w (ez S m rb n r c0 p w):=by
 obtain⟨⟨-,-,-,V⟩,-,-,-,f4⟩:=g.cells;have qf:=g.lt;have⟨ka,kl,Q,O,s⟩:=g.k4;subst O;have⟨aa,R,hv,hl,C⟩:=id g.n4;cases hv
 cases jY:r.o with
 | nil=>have HP:G (ez S m rb n r c0 p w (Zr (Zb false)) w):=⟨cH.refl _ _,.inr ⟨JH _ n hp jY,D⟩⟩;rw[jY]at V;clear g C B;go_in;exact ow
 | cons a q=>
  obtain⟨b,off,rfl,ad,f⟩:=C sV;have⟨d0,d1,d2,d3,d4,e0,e1,e2,e3,e4,K⟩:=f 0 sV;obtain⟨j,q5,q6,j2,qq,qa,qc,ql,q8,rfl,rfl,rfl,rfl,rfl⟩:=K.shape;simp only[Zd,QC]at e0 e1 e2 e3 e4;have o:j=p8 m a:=by
   have X:=K.op;have h2:r.o[0]'sV=a:=by simp[jY]
   rw[h2]at X;exact (Value.int.inj X).2
  have M:1<=J r.o:=sV;clear C f K;generalize L:J r.o=kn at *;have af:((kn:Int)==0)=false:=zE;have N:=oj (P:=WV) 5 underlying36 FW (Z ⟨b,off,Y⟩) Q M;have l:dn S w (b8 S w m) q (Ux (Z ⟨b,off,Y⟩) 1 kn Q 5):=by have q7:=g.n4;rw[jY]at q7;exact q7.tail s
  obtain⟨t,v,u,x⟩:∃t v u,Ux (Z ⟨b,off,Y⟩) 1 kn Q 5=A t v u:=⟨_,_,_,D⟩;have d:gQ (A t v u):=by rw[<- x];exact⟨_,_,_,D,E⟩
  rw[x]at N l;have k:=(Qg w.heap.size w).alloc E (UB j q5 q6 j2 qq qa qc ql q8);have⟨W,y⟩:=fk ((w.setCell ⟨rb,4,Y⟩ (A t v u)).alloc (UB j q5 q6 j2 qq qa qc ql q8));have c:cH rb w W:=by rw[y];exact (cH.set rb 4 _ _).trans (cH.alloc _ _ _)
  have i:CK S W m rb ⟨r.k,r.n,r.a,r.q,q⟩ c0 v3 (A t v u):=by have q9:=c.same B;refine⟨?_,g.n3.keep q9 zI,g.k3,l.keepN q9 zI,d⟩;rw[y];exact (Qf _ _ _ sY).trans (mI g.box _)
  have HC:G (∀w,WU WV 29 #[I U j] w _):=λw=>mp j w;have HP:G (∀z,z=W->ez S m rb n r c0 p w (Zr (Zb (vu j==(p.toNat:Int)))) z):=by
   intro z e;subst e;refine⟨c,?_⟩;by_cases h:iQ m a=(p.toNat:Int)
   .refine .inl ⟨_,_,_,(B9 _ n hp jY).trans zE,?_,i⟩;have:vu j=(p.toNat:Int):=by rw[o];exact h
    rw[this];simp
   .refine .inr ⟨(B9 _ n hp jY).trans zE,?_⟩;have:¬vu j=(p.toNat:Int):=by rw[o];exact h
    simp[this]
  have ac:=kC k V qf;have ab:=(k.frozen (p:=⟨rb,4,Y⟩) qf).trans f4;have j0:w.heap.size≠rb:=E;have ae:=a8 x;have HW:=a8 y;clear g jY L o l d i c k x y B;go_in;go_wp2_with fail;refine H (HC _) ?_;rintro e w1 ⟨rfl,rfl⟩;go_wp2;go_ret;exact HP _ HW.symm
def Pa {P:Program} (sz:Nat) (e:P.underlying t=Z (.slice (P.elem t))) (d:∀ W,(sizeOf (P.elem t)).run P W=.ok sz W) (a:ZA) (n c:Nat) (k:Int) (b:0<=k) (h:k<=c) (W:Zw) :
  (Instr.slice t (A a n c) Y (Z (I U k)) Y).run P W=.ok (Ux a 0 k.toNat c sz) W:=by rw[run_slice_h W t a n c e U k b h,d];exact cU
def Mh(h:cR S w l (A ao (J l) cap))(k:Nat)(d:k<=J l):cR S w (l.take k) (Ux ao 0 k cap 1):=by
 have c:=h.take k d;unfold Ux;have e:(if cap=0 then ao else ao.map (·.add (0*1)))=ao:=by
  split;·exact cU
  .cases ao with
   | none=>rfl
   | some a=>obtain⟨b,o,s⟩:=a;cases s<;>simp[Addr.add]
 rw[e,Nat.sub_zero,Nat.sub_zero];exact c
def tN (hp:p=78∨p=88) {u:Nat} {n r:F (T m)} {R:Zv} (j:CK S w m rb r c0 v3 v4) (O:∀ b,S b->b<w.heap.size/\b≠rb)
  (x:lh w u) (q8:u≠rb) (f:cR S w n.q R) (q7:gQ R) (qa:J r.q<=J n.q) :
  WU WV 190 #[Zp (Z ⟨u,0,Y⟩),Zp (Z ⟨rb,0,Y⟩),I .i32 (p.toNat:Int),R] w (ez S m rb n r c0 p w):=by
 obtain⟨⟨-,-,g3,-⟩,-,-,f3,-⟩:=j.cells;have qq:=j.lt;have⟨ka,kl,kc,ae,C⟩:=j.k3;subst ae;have⟨ah,af,hv,hl,N,q9⟩:=id j.n3;cases hv
 obtain⟨aa,al,ac,j0,q5⟩:=q7;subst j0;obtain⟨_,_,ad,j2,-,-⟩:=id f;cases ad
 cases jY:r.q with
 | nil=>have HP:G (ez S m rb n r c0 p w (Zr (Zb false)) w):=⟨cH.refl _ _,.inr ⟨Fj _ n hp jY,D⟩⟩;rw[jY]at g3;clear j q9 O f;go_in;exact ow
 | cons a q=>
  obtain⟨b,off,rfl,V,i⟩:=q9 sV;have e0:=i 0 sV;have h2:r.q[0]'sV=a:=by simp[jY]
  rw[h2,QC]at e0;have M:a.size<=WX:=N a (by rw[jY];exact zS);have qc:1<=J r.q:=sV;have ql:J r.q=J q+1:=sV;clear q9 i h2;have y:cR S w q (Ux (Z ⟨b,off,Y⟩) 1 (J r.q) kc 1):=by have h4:=j.n3;rw[jY]at h4;have:=h4.tail (by rw[<- jY];exact C);rw[jY];exact this
  have c:=Mh f (J n.q-(J q+1)) E;generalize q6:J r.q=kn at *;generalize v:J n.q=an at *;have ag:((kn:Int)==0)=false:=zE;have ab:=oj (P:=WV) 1 underlying23 FW (Z ⟨b,off,Y⟩) kc qc;have t:=Pa (P:=WV) 1 underlying23 FW aa an ac ((an:Int)-(kn:Int)) E E;have K:((an:Int)-(kn:Int)).toNat=an-(J q+1):=E;rw[K]at t;obtain⟨l,s,o,X⟩:∃l s o,Ux (Z ⟨b,off,Y⟩) 1 kn kc 1=A l s o:=⟨_,_,_,D⟩;obtain⟨ua,un,uc,hU⟩:∃l s o,Ux aa 0 (an-(J q+1)) ac 1=A l s o:=⟨_,_,_,D⟩;have g:gQ (A l s o):=by rw[<- X];exact⟨_,_,_,D,E⟩
  rw[X]at ab y;rw[hU]at t c;have Q:G (∀k,cH rb w ((w.drewN k).setCell ⟨rb,3,Y⟩ (A l s o))/\CK S ((w.drewN k).setCell ⟨rb,3,Y⟩ (A l s o)) m rb ⟨r.k,r.n,r.a,q,r.o⟩ c0 (A l s o) v4):=by intro k;have z:Bw w (w.drewN k):=⟨D,D,D,QD _,λ_ _=>D⟩;have d:cH rb w ((w.drewN k).setCell ⟨rb,3,Y⟩ (A l s o)):=(cH.of_below z).trans (cH.set rb 3 _ _);have hs:=d.same O;exact⟨d,mI ((z.block rb qq).trans j.box) _,y.keep hs zI,g,j.n4.keepN hs zI,j.k4⟩
  have HC:G (∀W,cH rb w W->WU WV 231 #[Zp (Z ⟨u,0,Y⟩),I .i32 (p.toNat:Int),Zt a,A ua un uc] W λe w'=>e=Zr (Zb (gd p a (n.q.take (an-(J q+1)))))/\w'=W):=by
   intro W hW;have B:u<w.heap.size:=by have:=(x 0 E).1;exact Qx λai=>by have h0:w.heap[u]?=Y:=zE;simp[WY,h0]at this
   exact C0 p M (x.keep (hW.block u B q8)) (c.keep (hW.same O) zI)
  have HP:G (∀W,cH rb w W->CK S W m rb ⟨r.k,r.n,r.a,q,r.o⟩ c0 (A l s o) v4->ez S m rb n r c0 p w (Zr (Zb (gd p a (n.q.take (an-(J q+1)))))) W):=by
   intro W d L;refine⟨d,?_⟩;cases h:gd p a (n.q.take (an-(J q+1))) with
   | true=>exact .inl ⟨_,_,_,(sO _ n hp jY).trans (Qm (by rw[v];exact h)),D,L⟩
   | false=>exact .inr ⟨(sO _ n hp jY).trans (Qd (by rw[v,h];decide)),D⟩
  generalize gd p a (n.q.take (an-(J q+1)))=ok at *;unfold WX at j2 hl;clear j jY q6 v y g c X hU O f x K ql N qa V M;go_in;go_wp2_with fail;go_quiet (fail);go_wp2_with fail;refine H (HC _ (Q _).1) ?_;rintro e w1 ⟨rfl,rfl⟩;clear HC;go_wp2;go_ret;exact HP _ (Q _).1 (Q _).2
def uW (n:i<J l) (u:cR S w (l.take i) v) (x:l[i].size<=WX) :
  WU WV 230 #[Zt l[i],v] w λe B=>e=Zr (Zb (kr l i))/\B=w:=by
 obtain⟨p,cap,rfl,f,-,m⟩:=u;have h:J (l.take i)=i:=zE;rw[h]at f ⊢;unfold WX at f;have g:l.getD i WT=l[i]:=by simp[Un,n]
 have HF:G (kr l i=(c8 l[i] && (i==0 || ij (l.getD (i-1) WT) l[i]) && !(l[i]==bs [101,110,100]))):=by show _=_;unfold kr gn;rw[g]
 have a:=a8 (kO l[i] w x);have C:=rp l[i] [101,110,100];have d:0<i->∃b off,p=b5 b off/\a7 w b (off+(i-1))=Z (Zt (l.getD (i-1) WT)):=λj=>by obtain⟨b,off,q,-,c⟩:=m (by intro e;have:=Xc List.length e;rw[h]at this;simp at this;omega);refine⟨b,off,q,?_⟩;have:=c (i-1) E;rw[this];have t:i-1<J l:=E;simp[Un,t]
 clear m g;generalize l[i]=s at *;generalize l.getD (i-1) WT=z at *;generalize (s==bs [101,110,100])=b1 at *;clear n;cases hn:c8 s with
 | false=>rw[hn]at a HF;go_in;go_wp2_with fail;refine H a ?_;exact S8
 | true=>
  rw[hn]at a HF;cases b1 with
  | true=>go_in;go_wp2_with fail;refine H a ?_;exact S7
  | false=>
   rcases Xa i with j|j;·subst j;go_in;go_wp2_with fail;refine H a ?_;exact S8
   .obtain⟨b,off,rfl,c⟩:=d j;have K:((i:Int)==0)=false:=zE;have k:(i==0)=false:=zE;rw[k]at HF;have r:((i:Int)-1).toNat=i-1:=E;have o:G (ij z s=Op.bytesLess z.toList s.toList):=D;clear k d;generalize y:Op.bytesLess z.toList s.toList=lt at *;go_in;go_wp2_with fail;refine H a ?_;rintro e w1 ⟨rfl,rfl⟩;go_wp2;go_ret;exact⟨cY (by rw[HF.out,o.out];simp),D⟩
def Aw {n:F (T m)} (r:cR S w n.q v3) (u:gQ v3) (P:dn S w (b8 S w m) n.o v4) :
  WU WV 189 #[v3,v4] w λe C=>e=Zr (Zb (fD (iQ m) n))/\C=w:=by
 obtain⟨na,q7,nc,rfl,K⟩:=u;have⟨_,_,W,z,p,g⟩:=id r;cases W
 obtain⟨ql,qc,rfl,B,f⟩:=P;by_cases j:J n.q=J n.o;case neg=>
  have V:((J n.q:Int)==(J n.o:Int))=false:=zE;have HF:G (fD (iQ m) n=false):=by
   show _=_;unfold fD;have:(J n.q==J n.o)=false:=by simp[j]
   rw[this];rfl
  clear f g r;go_in;exact FB
 have HF:G (fD (iQ m) n=fI (iQ m) n (J n.q)):=by
  show _=_;unfold fD;have:(J n.q==J n.o)=true:=by simp[j]
  rw[this];rfl
 have v:((J n.q:Int) != (J n.o:Int))=false:=by simp[j]
 have t:G (∀(k:Nat)(y:k<J n.q),WU WV 230 #[Zt n.q[k],A na k nc] w λe C=>e=Zr (Zb (kr n.q k))/\C=w):=by intro k y;exact uW y (r.take k E) (p _ zS)
 have HP:G (∀x w,WU WV 29 #[I U x] w _):=λx w=>mp x w;unfold WX at z B;have L:J n.q<=J n.o:=E;have M:J n.o<=J n.q:=E;clear r p j;go_in;go_wp2_with fail;clear v;go_loop [14] (λi=>∃k:Nat,k<=J n.q/\i=I U k/\G (fI (iQ m) n k=true)) (λi=>J n.q-(intOf i).toNat);case atStart=>exact⟨0,E,D,D⟩
 case round=>
  obtain⟨k,y,rfl,q⟩:=hrel;by_cases qf:k<J n.q
  .obtain⟨b,off,rfl,-,d⟩:=g nS;have j0:=d k qf;obtain⟨X,N,rfl,-,a⟩:=f JY;obtain⟨q6,q9,q8,qq,q5,qa,-,-,-,-,o⟩:=a k E;obtain rfl:=o.op;have c:=a8 (t k qf);have R:(k:Int)<=(nc:Int):=E;have HS:G (fI (iQ m) n (k+1)=(kr n.q k && (vu (p8 m (n.o[k]'E))==86))):=by show _=_;rw[pX,q.out];have Q:k<J n.o:=E;simp[Un,Q,iQ]
   have HN:G (fI (iQ m) n (k+1)=false->fI (iQ m) n (J n.q)=false):=by intro h;refine xv qf ?_;rw[pX,q.out]at h;exact mZ
   clear g f d a t o;have l:(k:Int)<(J n.o:Int):=E;generalize p8 m (n.o[k]'E)=op at *;generalize n.q[k]=s at *;cases hf:kr n.q k with
   | false=>rw[hf]at c HS;go_wp2_with fail;refine H c ?_;exact TO
   | true=>
    rw[hf]at c HS;cases hpo:(vu op==86) with
    | true=>
     rw[hpo]at HS;go_wp2_with fail;refine H c ?_;rintro e w1 ⟨rfl,rfl⟩;go_wp2_with fail;refine H (HP _ _) ?_;rintro e w1 ⟨rfl,rfl⟩;go_wp2;go_round;case rel=>exact⟨k+1,E,ew,HS⟩
     case measure=>exact eb
    | false=>rw[hpo]at HS;go_wp2_with fail;refine H c ?_;rintro e w1 ⟨rfl,rfl⟩;go_wp2_with fail;refine H (HP _ _) ?_;exact TO
  .have l:k=J n.q:=E;have O:G (fD (iQ m) n=true):=by show _=_;rw[HF.out,<- l,q.out]
   clear l g f t q;go_wp2;go_ret;exact⟨cY O.symm,D⟩
def wJ(w:Zw):Nat->Zv->List cZ->Prop
 | 0,v,L=>∃c cap,v=A c 0 cap/\L=[]
 | n + 1, v, L => ∃ (c : ZA) (cap : Nat) (a : List (List cZ)), v = A c (J a) cap /\ J a <= WX /\ L = a.flatten /\
   ∀i (h:i<J a),∃b off c3 c4 d e,c=b5 b off/\a[i]=[⟨b,off+i*3,false⟩]++(d++e)/\(⟨b,off+i*3,false⟩:cZ).ok w /\
    a7 w b (off+i*3+1)=Z c3/\a7 w b (off+i*3+2)=Z c4/\lE w c3 d/\wJ w n c4 e
def wJ.slice:∀ {n:Nat} {v:Zv} {L:List cZ},wJ w n v L->∃a l c,v=A a l c:=by
 intro n;cases n with
 | zero=>rintro v L ⟨d,cap,b,-⟩;exact⟨_,_,_,b⟩
 | succ n=>rintro v L ⟨d,cap,e,b,-⟩;exact⟨_,_,_,b⟩
def wJ.sim(d:At w w'):∀ {n:Nat} {v:Zv} {L:List cZ},wJ w n v L->wJ w' n v L:=by
 intro n;induction n with
 | zero=>intro v L h;exact h
 | succ n z=>
  rintro v L ⟨p,cap,o,y,x,s,u⟩;refine⟨p,cap,o,y,x,s,λi h=>?_⟩;have⟨b,off,c3,c4,k,m,t,e,f,q,r,g,j⟩:=u i h;refine⟨b,off,c3,c4,k,m,t,e,cZ.ok_sim f d,?_,?_,g.sim d,z j⟩;·obtain⟨a,l,c,rfl⟩:=g.slice;exact d.sl _ _ _ _ _ q
  .obtain⟨a,l,c,rfl⟩:=j.slice;exact d.sl _ _ _ _ _ r
def wJ.ok:∀ {n:Nat} {v:Zv} {L:List cZ},wJ w n v L->∀s,s∈L->s.ok w:=by
 intro n;induction n with
 | zero=>rintro v L ⟨j,cap,o,rfl⟩ s g;cases g
 | succ n p=>
  rintro v L ⟨j,cap,u,o,B,rfl,k⟩ s g;have⟨t,c,a⟩:=Xl.1 g;obtain⟨i,h,rfl⟩:=QT c;have⟨b,off,c3,c4,q,r,z,c,f,x,y,l,m⟩:=k i h;rw[c]at a;rcases QF.1 a with d|d;·rw[QR]at d;subst d;exact f
  .rcases QF.1 d with e|e;·exact l.ok s e
   .exact p m s e
def wJ.below{L:List cZ}(h:wJ w n v L)(a:Bw w w'):wJ w' n v L:=h.sim ((At.refl w).below a)
def wJ.same:∀ {n:Nat} {v:Zv} {L:List cZ},wJ w n v L->(∀s,s∈L->w'.heap[s.b]?=w.heap[s.b]?)->wJ w' n v L:=by
 intro n;induction n with
 | zero=>intro v L h _;exact h
 | succ n z=>
  rintro v L ⟨k,cap,f,y,r,rfl,q⟩ p;refine⟨k,cap,f,y,r,D,λi h=>?_⟩;have⟨b,off,c3,c4,g,j,o,d,e,l,m,t,u⟩:=q i h;have hm:∀s,s∈f[i]->w'.heap[s.b]?=w.heap[s.b]?:=λs x=>p s (Xl.2 ⟨_,zS,x⟩);rw[d]at hm;have c:w'.heap[b]?=w.heap[b]?:=hm ⟨b,off+i*3,false⟩ zS;refine⟨b,off,c3,c4,g,j,o,d,cZ.ok_same e c,?_,?_,t.same JV,z u JV⟩;·exact (Ql (w:=w) (w':=w') (a:=⟨b,off+i*3+1,Y⟩) c).trans l
  .exact (Ql (w:=w) (w':=w') (a:=⟨b,off+i*3+2,Y⟩) c).trans m
def wJ.no(w:Zw)(n:Nat):wJ w n (A Y 0 0) []:=by exact YI
def rZ(P:ZN)(w:Zw)(n:Nat)(d:List (K n))(xs:List Zv)(a:List (List cZ)):Prop:=
 Own P a.flatten/\∀j (h:j<J d) (hp:j<J a),∃c0 c1 c2 b c,(xs[j*3]?=Z c0/\xs[j*3+1]?=Z c1/\xs[j*3+2]?=Z c2)/\a[j]=b++c /\
  cW P w n d[j] c0 c1 c2/\lE w c1 b/\wJ w (n-1) c2 c
def Fg {l:List (K n)} {c:List (List cZ)} (h:w.ownsRow M e 3 v (J l) xs) (hl:J l<=20000) (R:J c=J l) (C:rZ P w n l xs c) (F:∀ b,P b->v.ownBlock≠Z b) :
  ∃L,wJ w n v L/\Own (λb=>P b∨v.ownBlock=Z b) L/\J L=J l+J c.flatten:=by
 rcases id h.2 with ⟨rfl,z⟩|⟨g,cap,q9,rfl,qc,hg,aa,q7,ql,V⟩;·have:c=[]:=Qj E;subst this;exact⟨[],wJ.no w n,Own.nil _,by simp[z]⟩
 .have S:∀ (i:Nat),i<J l->n≠0:=by intro i hi hn;subst hn;obtain⟨c0,c1,c2,W,X,-,-,T,-⟩:=C.2 i hi E;exact T.elim
  have k:∀i (hi:i<J l),((Ua (J l)).map (λi=>([⟨g,0+i*3,false⟩]:List cZ)++c.getD i []))[i]'oC=([⟨g,0+i*3,false⟩]:List cZ)++c[i]'E:=by intro i hi;have:i<J c:=E;simp[Un,this]
  have r:Own (λb=>P b∨(Uc (b5 g 0) (J l) cap).ownBlock=Z b) ((Ua (J l)).map (λi=>([⟨g,0+i*3,false⟩]:List cZ)++c.getD i [])).flatten:=by
   have y:=ZL.1 C.1.2;have qm:∀i s,s∈c.getD i []->P s.b:=λi s hs=>by
    by_cases hi:i<J c;·rw[Qw,Qp hi,Xm]at hs;exact C.1.1 s (Xl.2 ⟨_,zS,hs⟩)
    .rw[Qw,Xs E]at hs;cases hs
   have h5:∀o (s:cZ),s∈([⟨g,o,false⟩]:List cZ)->s.b=g/\s.o=o:=λo s hs=>by rw[QR]at hs;subst hs;exact⟨D,D⟩
   have f:∀(s:cZ),P s.b->s.b≠g:=λs hs e=>F g (by rw[<- e];exact hs) D;refine⟨λs hs=>?_,ZL.2 ⟨λx hx=>?_,?_⟩⟩;·exact TP
   .obtain⟨i,hi,rfl⟩:=Xo.1 hx;refine Wm.2 ⟨zS,?_,λa O b B=>wR λe=>f b (qm i b B) (by rw[<- e,(h5 _ a O).1])⟩;by_cases hi:i<J c;·rw[Qw,Qp hi,Xm];exact y.1 _ zS
    .rw[Qw,Xs E];exact zS
   .refine WE.2 (WG (λ{i j} hij a O b B=>?_) Wc);rcases QF.1 O with h1|h1
    .rcases QF.1 B with d|d
     .intro e;have e':a.o=b.o:=by simpa [cZ.at] using Xc Addr.off e
      have q1:=(h5 _ a h1).2;have q2:=(h5 _ b d).2;omega
     .exact wR λe=>f b (qm j b d) (by rw[<- e,(h5 _ a h1).1])
    .rcases QF.1 B with d|d;·exact wR λe=>f a (qm i a h1) (by rw[e,(h5 _ b d).1])
     .by_cases q6:j<J c;·rw[Qw,Qp q6,Xm]at d;rw[Qw,Qp (by omega:i<J c),Xm]at h1;exact (X1.1 y.2) i j E q6 hij a h1 b d
      .rw[Qw,Xs E]at d;cases d
  have q:J ((Ua (J l)).map (λi=>([⟨g,0+i*3,false⟩]:List cZ)++c.getD i [])).flatten=J l+J c.flatten:=by
   have e:c=(Ua (J l)).map (λi=>c.getD i []):=by refine Wk (by simp[R]) λi h1 d=>?_;simp[Un,h1]
   conv=>rhs;rw[e]
   generalize J l=m;induction m with
   | zero=>rfl
   | succ m ih=>rw[X7,Q8,Xp,Qi,ih,Q8,Xp,Qi];exact gE
  refine⟨_,?_,r,q⟩;cases n with
  | zero=>have z:J l=0:=Nat.eq_zero_of_not_pos λt=>S 0 t D;exact⟨b5 g 0,cap,by rw[z],by rw[z];rfl⟩
  | succ m=>
   refine⟨b5 g 0,cap,_,by rw[Qv,X4],by simp[WX];omega,rfl,λi hi=>?_⟩;have p:i<J l:=oC;have⟨c0,c1,c2,W,X,⟨q8,qq,q5⟩,N,T,j0,qa⟩:=C.2 i p E;have Q:∀j u,xs[j]?=Z u->a7 w g (0+j)=Z u:=λj u hu=>by have:=h.cells (g:=g) D j u hu;rwa [XC]at this
   obtain⟨rfl,-⟩:=T;have hf:∀o,w.frozen? ⟨g,o,Y⟩=false:=λo=>by simp[W7,hg]
   exact⟨g,0,c1,c2,W,X,D,by rw[k i p,N],⟨⟨_,Q _ _ q8⟩,hf _⟩,Q _ _ qq,Q _ _ q5,j0,qa⟩
def lP.eqb{a b c:Zv}(h:lP w N a b c)(d:w'.heap[N]?=w.heap[N]?):lP w' N a b c:=
 ⟨(Ql (w:=w) (w':=w') (a:=⟨N,0,Y⟩) d).trans h.c0,(Ql (w:=w) (w':=w') (a:=⟨N,1,Y⟩) d).trans h.c1,(Ql (w:=w) (w':=w') (a:=⟨N,2,Y⟩) d).trans h.c2⟩
structure Kl(m:Nat)(k:K m)(P:ZN)(Azq Gzq:Nat)(p0 p1 p2 g0 g1 g2:Zv)(w u:Zw):Prop where
 below:Bw w u
 ansBox:lP u Azq p0 p1 p2
 ans:cW P u m k p0 p1 p2
 ansB:∀b,P b->b<Azq
 gotBox:lP u Gzq g0 g1 g2
 ag:Azq<Gzq
 gu:Gzq<u.heap.size
def Kl.step {k:K m} (h:Kl m k P Azq Gzq p0 p1 p2 g0 g1 g2 w u) {Zzq:ZN} (a:Bw w u') (c:u.heap.size<=u'.heap.size)
  (e:∀b:Nat,b<u.heap.size->¬Zzq b->u'.heap[b]?=u.heap[b]?) (d:∀b,Zzq b->Azq<b/\b≠Gzq):Kl m k P Azq Gzq p0 p1 p2 g0 g1 g2 w u':=by
 have ag:=h.ag;have gu:=h.gu;have q:∀b,b<=Azq->u'.heap[b]?=u.heap[b]?:=λb a=>e b E (λc=>by have:=d b c;omega);exact⟨a,h.ansBox.eqb (q Azq (QD _)),h.ans.keep (λb a=>q b (by have:=h.ansB b a;omega)) zI,h.ansB,
  h.gotBox.eqb (e Gzq gu (λc=>(d Gzq c).2 D)),ag,E⟩
def Kl.keep {k:K m} (h:Kl m k P Azq Gzq p0 p1 p2 g0 g1 g2 w u) (d:w.heap.size<=u.heap.size) (a:Bw u u') :
  Kl m k P Azq Gzq p0 p1 p2 g0 g1 g2 w u':=h.step (Zzq:=λ_=>False) (b9 h.below d a) a.size (λb c _=>a.block b c) Ae
def yK:(n:Nat)->K n->Nat
 | 0,_=>0
 | n+1,t=>J (Kd.q t)+cG (λk=>1+yK n k) (Kd.o t)
structure l9(X n:Nat)(ks:List (K n))(s:Int)(nv:Zv)(w1:Zw)(k:Nat)(v:Zv)(wr:Zw):Prop where
 near:cH X w1 wr
 box:wr.heap[X]?=Z (Zc #[I U s,nv,v] 177 (0,0))
 row:∃xs Ps,wr.ownsRow w1.heap.size 177 3 v k xs/\J Ps=k/\rZ (λb=>w1.heap.size<=b/\b<wr.heap.size/\v.ownBlock≠Z b) wr n ks xs Ps/\J Ps.flatten+k=cG (λx=>1+yK n x) (ks.take k)
def l9.lt{a:List (K n)}{s:Int}{k:Nat}(h:l9 X n a s nv w1 k v wr):X<wr.heap.size:=(Qe.1 h.box).1
def Ld {u:List (K n)} {s:Int} {k:Nat} {y:List (List cZ)} {L3 L4:List cZ} (h:cH X w1 wr) (hX:X<w1.heap.size)
  (B:wr.heap[X]?=Z (Zc #[I U s,nv,v] 177 (0,0))) (hk:k<J u)
  (o:wr.ownsRow w1.heap.size 177 3 v k xs) (L:J y=k) (t:rZ (λb=>w1.heap.size<=b/\b<wr.heap.size/\v.ownBlock≠Z b) wr n u xs y) (V:J y.flatten+k=cG (λx=>1+yK n x) (u.take k))
  (N:W.heap=wr.heap) (p:W.os=wr.os/\W.tape=wr.tape/\W.output=wr.output)
  (f:Bw W w2) (T:cW (λb=>wr.heap.size<=b/\b<w2.heap.size) w2 n u[k] c0 c1 c2) (h3:lE w2 c1 L3) (h4:wJ w2 (n-1) c2 L4) (qc:Own (λb=>wr.heap.size<=b/\b<w2.heap.size) (L3++L4)) (hl:J (L3++L4)=yK n u[k])
  (c:w3.ownsRow w1.heap.size 177 3 (A (b5 g 0) (k+1) cap) (k+1) (xs++[c0,c1,c2])) (a:(w2.alloc one).grownBy w3 v.ownBlock) (qy:v.ownBlock=Z g∨g=w2.heap.size+1) :
  l9 X n u s nv w1 (k+1) (A (b5 g 0) (k+1) cap) (w3.setCell ⟨X,2,Y⟩ (A (b5 g 0) (k+1) cap)):=by
 have q8:=f.size;have qq:=a.size;have ac:=h.size;simp at qq;rw[N]at q8;have xp:∀b,v.ownBlock=Z b->w1.heap.size<=b/\b<wr.heap.size:=cO o;have q9:J xs=k*3:=o.1;have q5:∀b,b<w2.heap.size->v.ownBlock≠Z b->w3.heap[b]?=w2.heap[b]?:=λb hb qh=>by rw[a.block b zE Bb,Qf _ _ _ hb]
 have M:∀b,b<wr.heap.size->v.ownBlock≠Z b->w3.heap[b]?=wr.heap[b]?:=λb hb q6=>by rw[q5 b E q6,f.block b (by rw[N];exact hb),N]
 have w:∀b,b≠X->(w3.setCell ⟨X,2,Y⟩ (A (b5 g 0) (k+1) cap)).heap[b]?=w3.heap[b]?:=λb hb=>Qr _ _ _ _ hb;have qo:(w3.setCell ⟨X,2,Y⟩ (A (b5 g 0) (k+1) cap)).heap.size=w3.heap.size:=zS;have O:v.ownBlock≠Z X:=λe=>by have:=xp X e;omega
 have q:=(M X E O).trans B;have d:∀b,v.ownBlock≠Z b->b<w2.heap.size->(Uc (b5 g 0) (k+1) cap).ownBlock≠Z b:=by exact P2
 have m:∀b,wr.heap.size<=b->v.ownBlock≠Z b:=λb h1 e=>by have:=xp b e;omega
 have aa:=cO c g D;refine⟨⟨?_,?_,?_,oA,λb hb qh=>?_⟩,?_,xs++[c0,c1,c2],y++[L3++L4],cV c λF S=>w F (by have:=cO c F S;omega),by simp[L],⟨?_,λj hj hp=>?_⟩,?_⟩;·show w3.os=w1.os;rw[a.os];exact f.os.trans (p.1.trans h.os)
 .show w3.tape=w1.tape;rw[a.tape];exact f.tape.trans (p.2.1.trans h.tape)
 .show w3.output=w1.output;rw[a.output];exact f.output.trans (p.2.2.trans h.output)
 .rw[w b qh,M b E ID];exact h.block b hb qh
 .simp[Ug,QQ,q]
 .rw[Xp,ZJ];refine t.1.app qc (λb hb=>⟨hb.1,oA,d b hb.2.2 E⟩) (λb hb=>⟨E,oA,d b (m b hb.1) hb.2⟩) (λb h1 h2=>E)
 .by_cases ab:j<k
  .have r:j<J y:=E;have⟨q7,ql,d2,j0,qa,hd,z,R,P,Q⟩:=t.2 j hj r;have l:∀s,s∈j0++qa->(w3.setCell ⟨X,2,Y⟩ (A (b5 g 0) (k+1) cap)).heap[s.b]?=wr.heap[s.b]?:=λs i=>by have:=t.1.1 s (Xl.2 ⟨_,QE r,by rw[z];exact i⟩);rw[w s.b (by have:=this.1;omega)];exact M s.b this.2.1 this.2.2
   refine⟨q7,ql,d2,j0,qa,?_,by rw[QS r];exact z,R.keep (λb hb=>by rw[w b pe];exact M b hb.2.1 hb.2.2) (λb hb=>⟨hb.1,S6,d b hb.2.2 Ad⟩),
    P.same (λs i=>l s (XH _ i)),Q.same (λs i=>l s (Xt _ i))⟩
   rw[QA E,QA E,QA E];exact hd
  .have C:j=k:=by simp at hp;omega
   subst C;have l:∀s,s∈L3++L4->(w3.setCell ⟨X,2,Y⟩ (A (b5 g 0) (j+1) cap)).heap[s.b]?=w2.heap[s.b]?:=λs i=>by have:=qc.1 s i;rw[w s.b E];exact q5 s.b this.2 (m _ E)
   refine⟨c0,c1,c2,L3,L4,?_,by simp[<- L],T.keep (λb hb=>by rw[w b E];exact q5 b hb.2 (m b hb.1)) (λb hb=>⟨pe,by rw[qo];have:=hb.2;omega,d b (m b hb.1) hb.2⟩),
    h3.same (λs i=>l s (XH _ i)),h4.same (λs i=>l s (Xt _ i))⟩
   rw[Qu E,Qu E,Qu E,q9,
    WO,show j*3+1-j*3=1 by omega,show j*3+2-j*3=2 by omega]
   exact⟨D,D,D⟩
 .rw[Qq hk,Cc,<- V,Xp,ZJ,Qi,hl];omega
def oS{k:K (n+1)}(h:dj (n+1) k d=true)(b:¬Kd.k k=5):Kd.q k=[]:=by
 simp only[dj,Qc]at h;have a:eh (Kd.k k) (Kd.q k) (J (Kd.o k))=true:=h.1.2;unfold eh at a;rw[Qd b]at a;have e:(J (Kd.q k):Int)=0:=by
  split at a;·simp at a;simp[a.1]
  split at a;·simp at a;simp[a.1]
  split at a;·simp at a;simp[a.1]
  split at a;·simp at a;simp[a.1]
  split at a;·simp at a;simp[a.1]
  .cases a
 exact Qj E
def I6{k:K (n+1)}(h:dj (n+1) k d=true)(b:Kd.k k=5):J (Kd.q k)=J (Kd.o k)/\ee (Kd.q k)=true:=by simp only[dj,Qc]at h;have a:eh (Kd.k k) (Kd.q k) (J (Kd.o k))=true:=h.1.2;unfold eh at a;rw[b]at a;simp at a;exact⟨E,a.2⟩
def yG(h:ee l=true):∀s,s∈l->s.size<=8:=by exact T9
def Tryz.info_kindO:(prog.info? 177).map (λi=>(i.zero,i.size,i.bytes))=Z (Z (Za UC),3,56):=gZ
def r9(n:Nat)(t:K n)(w:Zw)(e:Ending)(w':Zw):Prop:=
 Bw w w' /\ ∃g d f a c,e=Zr (Za #[g,d,f])/\cW (λb=>w.heap.size<=b/\b<w'.heap.size) w' n t g d f/\lE w' d a/\wJ w' (n-1) f c /\
  Own (λb=>w.heap.size<=b/\b<w'.heap.size) (a++c)/\J (a++c)=yK n t
def wH(n:Nat):Prop:=∀(S:ZN)(t:K n)(v:Zv)(d:Int)(w:Zw),kL S w n t v->(Bd S w)->dj n t d=true->dF n t<=40->WU WV 229 #[v] w (r9 n t w)
def NZ{t:K (n+1)}(h:dj (n+1) t d=true):(Lit.int U (Kd.k t)).wf=true:=by
 simp only[dj,Qc]at h;have a:eh (Kd.k t) (Kd.q t) (J (Kd.o t))=true:=h.1.2;generalize Kd.k t=s at *;unfold eh at a;by_cases b:s=1;·subst b;rfl
 by_cases c:s=2;·subst c;rfl
 by_cases e:s=3;·subst e;rfl
 by_cases f:s=4;·subst f;rfl
 by_cases g:s=5;·subst g;rfl
 by_cases i:s=6;·subst i;rfl
 rw[Qd b,Qd c,Qd e,Qd f,Qd g,Qd i]at a;cases a
structure lZ(n:Nat)(t:K (n+1))(w:Zw)(X:Nat)(s:Int)(nv:Zv)(W:Zw):Prop where
 below:Bw w W
 zero:W.heap[w.heap.size]?=Z (Zc UC 177 (0,0))
 box:W.heap[X]?=Z (Zc #[I U s,nv,A Y 0 0] 177 (0,0))
 q:W.ownsRow (w.heap.size+1) 9 1 nv (J (Kd.q t)) ((Kd.q t).map Zt)
 far:nv.ownBlock≠Z X
 low:w.heap.size<X
def C4 {t:K (n+1)} {s:Int} (d:Bw w W1) (g:W1.heap.size=w.heap.size+1) (c:W1.heap[w.heap.size]?=Z (Zc UC 177 (0,0))) (b:Bw W1 w1)
  (a:w1.ownsRow W1.heap.size 9 1 nv (J (Kd.q t)) ((Kd.q t).map Zt)):lZ n t w w1.heap.size s nv (w1.alloc (Zc #[I U s,nv,A Y 0 0] 177)):=by have h:=b.size;have f:=cO a;refine⟨(d.trans (b.mono E)).alloc E _,?_,Qh _ _,by rw[<- g];exact a.alloc _,λe=>by have:=f _ e;omega,E⟩;rw[Qf _ _ _ E,b.block _ E];exact c
def G4 {t:K (n+1)} {d:Zw} {s:Int} (qj:Bw w W1) (k:W1.heap.size=w.heap.size+1) (c:W1.heap[w.heap.size]?=Z (Zc UC 177 (0,0)))
  (xe:d=W1.alloc (Zc UC 177)) (a:Bw d w1)
  (b:w1.ownsRow d.heap.size 9 1 nv (J (Kd.q t)) ((Kd.q t).map Zt)):lZ n t w (w.heap.size+1) s nv (gh w1 (w.heap.size+1) 0 (I U s) nv (A Y 0 0)):=by
 have m:d.heap.size=w.heap.size+2:=by rw[xe];simp;omega
 have p:=a.size;have h:=cO b;have j:w1.heap[w.heap.size+1]?=Z (Zc UC 177 (0,0)):=by rw[a.block _ E,xe,<- k];exact Qh _ _
 have f:Bw w d:=J0;refine⟨kU (f.trans (a.mono E)) E,?_,?_,?_,λe=>by have:=h _ e;omega,E⟩;·rw[gL E,a.block _ E,xe,Qf _ _ _ E];exact c
 .simp[gh,Ug,QQ,j]
 .have o:w1.ownsRow (w.heap.size+1) 9 1 nv (J (Kd.q t)) ((Kd.q t).map Zt):=by refine⟨zS,b.2.elim .inl λ⟨g,cap,i,e,l,r⟩=>.inr ⟨g,cap,i,e,E,r⟩⟩
  exact cV o λg l=>gL (by have:=h g l;omega)
def k5 (h:w.heap[N]?=Z (Zc UC 177 (0,0))) :
  (a7 w N 0=Z (I U 0)/\a7 w N 1=Z (A Y 0 0)/\a7 w N 2=Z (A Y 0 0)) /\
   w.frozen? ⟨N,0,Y⟩=false/\w.frozen? ⟨N,1,Y⟩=false/\w.frozen? ⟨N,2,Y⟩=false:=by refine⟨⟨?_,?_,?_⟩,?_,?_,?_⟩<;>simp[WY,W7,h]
def Oi {t:K (n+1)} {s:Int} (h:lZ n t w X s nv W) (M:Kd.k t=s) (B:(Lit.int U s).wf=true) (hl:J (Kd.q t)<=100) (y:∀ x,x∈Kd.q t->x.size<=10000) (j0:J (Kd.o t)<=100)
  (d:l9 X n (Kd.o t) s nv W (J (Kd.o t)) v wr):r9 (n+1) t w (Zr (Za #[I U s,nv,v])) (gh wr w.heap.size 0 (I U s) nv v):=by
 have L:=h.low;have qa:=h.below.size;have F:=d.near.size;have⟨xs,Ps,f,z,i,u⟩:=d.row;have N:=cO f;have zZ:=cO h.q;have q:∀b,b≠w.heap.size->(gh wr w.heap.size 0 (I U s) nv v).heap[b]?=wr.heap[b]?:=λb h=>gL h;have hz:(gh wr w.heap.size 0 (I U s) nv v).heap.size=wr.heap.size:=kV;have q8:X<W.heap.size:=(Qe.1 h.box).1;have c:wr.ownsRow (w.heap.size+1) 9 1 nv (J (Kd.q t)) ((Kd.q t).map Zt):=cV h.q λg k=>d.near.block g (zZ g k).2 (λe=>h.far (by rw[<- e];exact k));have⟨C,qc,q7,ql⟩:=uC c E;have⟨l,q9,q6,m⟩:=Fg f E z i zS;rw[QG]at u;have o:Own (λb=>W.heap.size<=b/\b<wr.heap.size) l:=q6.mono (λb hb=>hb.elim E (λh=>N b h));have a:Own (λb=>w.heap.size+1<=b/\b<wr.heap.size) (C++l):=ql.app o JX E (λb R h2=>by have:=zZ b R;omega);have p:Bw w wr:=⟨d.near.os.trans h.below.os,d.near.tape.trans h.below.tape,d.near.output.trans h.below.output,E,λb hb=>(d.near.block b E E).trans (h.below.block b hb)⟩;refine⟨kU p E,_,_,_,C,l,D,⟨by rw[M],by rw[M];exact B,?_,?_⟩,qc.same (λx h=>q _ (by have:=(a.1 x (XH _ h)).1;omega)),q9.same (λx h=>q _ (by have:=(a.1 x (Xt _ h)).1;omega)),a.mono E,?_⟩;·have T:=go (S:=λb=>w.heap.size+1<=b/\b<wr.heap.size) c E y JX;exact T.keep FN E
 .have V:=oh (S:=λb=>w.heap.size+1<=b/\b<wr.heap.size) f E (λg k=>by have:=N g k;omega) (λj q5=>by
   obtain⟨O,P,Q,K3,K4,qq,-,r,-⟩:=i.2 j q5 E
   exact⟨O,P,Q,qq,r.keep ik (λb hb=>⟨pe,hb.2.1⟩)⟩)
  exact V.keepK FN E
 .rw[Qi,q7,m];show _=J (Kd.q t)+cG (λx=>1+yK n x) (Kd.o t);omega
def yv(hn:wH n):wH (n+1):=by
 intro S t v d w aF hB hg hc;have aG:=NZ hg;have q7:=oS hg;have qc:=I6 hg;have q5:=hg;simp only[dj,Qc]at q5;have af:G (∀j (h:j<J (Kd.o t)),dj n (Kd.o t)[j] (d+1)=true/\dF n (Kd.o t)[j]<=40):=by intro j h;refine⟨Qo.1 q5.2 _ zS,?_⟩;have:=eK (λx=>dF n x) (Kd.o t) _ (QE h);simp only[dF]at hc;omega
 have aP:J (Kd.o t)<=40:=by have:=JJ q5.2;simp only[dF]at hc;omega
 have aQ:J (Kd.q t)<=40:=by
  by_cases h5:Kd.k t=5;·have:=(qc h5).1;omega
  .rw[q7 h5];simp
 have ab:∀x,x∈Kd.q t->x.size<=10000:=by
  intro x hx;by_cases h5:Kd.k t=5;·have:=yG (qc h5).2 x hx;omega
  .rw[q7 h5]at hx;cases hx
 have aA:G (∀x,x∈Kd.q t->x.size<=10000):=ab;clear q5 hg hc q7 qc;obtain⟨b,nv,pv,kv,rfl,aB,l,hN,-,hK⟩:=aF;obtain⟨na,nc,rfl,-⟩:=id hN;obtain⟨ka,kc,rfl,-,r⟩:=id hK;generalize hs:Kd.k t=s at *;have HS:G (Kd.k t=s):=hs;clear hs;have M:=hB b aB;have k0:a7 w b 0=Z (I U s):=by simp[WY,l]
 have k1:a7 w b 1=Z (A na (J (Kd.q t)) nc):=by simp[WY,l]
 have k3:a7 w b 3=Z (A ka (J (Kd.o t)) kc):=by simp[WY,l]
 have⟨V,qR⟩:=fk (w.alloc (Zc UC 177));have ac:V.heap.size=w.heap.size+1:=re;have L:Bw w V:=by rw[qR];exact eC _ _
 have Q:V.heap[w.heap.size]?=Z (Zc UC 177 (0,0)):=FT;have j0:=kC L k0 M;have j1:=kC L k1 M;have HC:∀ W,Bw w W->w.heap.size+1<=W.heap.size->WU WV 70 #[A na (J (Kd.q t)) nc] W.drew λe w'=>∃ y B z,e=Zr (A y B z)/\Bw W w' /\ a7 w' b 0=Z (I U s) /\
   w'.ownsRow W.heap.size 9 1 (A y B z) (J (Kd.q t)) ((Kd.q t).map Zt):=by
  intro W aj aR
  refine H (pW (hN.keep (b6 aj.drew hB) zI) (fP hB) E ab) ?_
  rintro e w' ⟨v',rfl,f,hb⟩
  have ah:Bw W w':=((Qg _ _).drew).trans hb
  obtain⟨a,c,rfl⟩:=ep f
  exact⟨_,_,_,D,ah,kC ah ((aj.cell (p:=⟨b,0,Y⟩) M).trans k0) E,f⟩
 have ae:G (WU WV 70 #[A na (J (Kd.q t)) nc] V.drew _):=HC V L E;have qq:Bw w (V.alloc (Zc UC 177)):=L.alloc L.size _;have ad:G (WU WV 70 #[A na (J (Kd.q t)) nc] (V.alloc (Zc UC 177)).drew _):=HC _ qq zE;have ag:G ((V.alloc (Zc UC 177)).heap[w.heap.size+1]?=Z (Zc UC 177 (0,0))):=by rw[<- ac];exact Qh _ _
 have q8:G (V.heap[w.heap.size]?=Z (Zc UC 177 (0,0))/\Bw w V):=⟨Q,L⟩;have HK:G (fB S w (kL S w n) (Kd.o t) (A ka (J (Kd.o t)) kc)):=hK;have aH:=kC qq k0 M;have aI:=kC qq k1 M;clear hN hK ab Q l HC qq;go_in;go_wp2_with fail;rw[<- qR];clear qR;go_upto_region 1 with fail;go_cut [3] from 6 (λv wx=>∃(X:Nat)(y:ZA)(B z:Nat),v=Zp (b5 X 0)/\lZ n t w X s (A y B z) wx);case first=>
  go_region_law (first
   | (go_simp;go_at_call 70;refine H ae ?_;rintro e w1 ⟨y,B,z,rfl,m,aw,f⟩;have aN:a7 (w1.alloc (Zc UC 177)) b 0=Z (I U s):=((Ql (Qf _ _ _ (by show b<_;have:=m.size;omega))).trans aw))
   | (go_simp;go_at_call 70;refine H ad ?_;rintro e w1 ⟨y,B,z,rfl,m,aw,f⟩;have⟨⟨r0,r1,r2⟩,f0,f1,f2⟩:=k5 ((m.block (w.heap.size+1) zE).trans ag)))
  all_goals
   have C:G (lZ n t w _ s (A y B z) _):=(by first|exact C4 q8.2 ac q8.1 m f|exact G4 q8.2 ac q8.1 D m f)
   clear m f
   go_wp2
   go_meet
   exact⟨_,_,_,_,D,C⟩
 case rest=>
  obtain⟨X,y,B,z,rfl,K⟩:=hcut;have aC:X<wc.heap.size:=(Qe.1 K.box).1;have aK:=K.low;have aU:=kC K.below k3 M;have C:G (lZ n t w X s (A y B z) wc):=K;have aS:=K.below.size;clear K ad ae ag j0 j1 aH aI k0 k1 k3;go_wp2;go_loopw [21] (λi wr=>∃(k:Nat)(v:Zv),k<=J (Kd.o t)/\i=I U k/\l9 X n (Kd.o t) s (A y B z) wc k v wr) (λi _=>J (Kd.o t)-(intOf i).toNat);case atStart=>exact⟨0,A Y 0 0,E,D,cH.refl _ _,C.box,[],[],QV _ _ _ _,D,⟨Own.nil _,zS⟩,uL⟩
  case round=>
   obtain⟨k,v,hk,rfl,ql⟩:=hrel;have⟨xs,Ps,f,ap,am,an⟩:=ql.row;obtain⟨R,T,rfl⟩:=ep f;have aa:=ql.near;have aT:=aa.size;have x0:a7 wr X 0=Z (I U s):=by simp[WY,ql.box]
   have x1:a7 wr X 1=Z (A y B z):=by simp[WY,ql.box]
   have x2:a7 wr X 2=Z (A R k T):=by simp[WY,ql.box]
   have HL:G (l9 X n (Kd.o t) s (A y B z) wc k (A R k T) wr):=ql;have HX:G (wr.ownsRow wc.heap.size 177 3 (A R k T) k xs):=f;have q9:G (J Ps=k/\rZ (λb=>wc.heap.size<=b/\b<wr.heap.size/\(Uc R k T).ownBlock≠Z b) wr n (Kd.o t) xs Ps/\J Ps.flatten+k=cG (λx=>1+yK n x) ((Kd.o t).take k)):=⟨ap,am,an⟩;clear ql f ap am an;by_cases qf:k<J (Kd.o t)
   .obtain⟨kb,off,rfl,ai,l⟩:=r nS;have⟨c,e0,hr⟩:=l k qf;obtain⟨cb,rfl,-⟩:=id hr.ptr;have aO:=hB kb ai;have u:∀b,S b->wr.heap[b]?=w.heap[b]?:=λb hb=>by have:=hB b hb;rw[aa.block b E E];exact C.below.block b this
    have f0:a7 wr kb (off+k)=Z (Zp (b5 cb 0)):=(Ql (w:=w) (w':=wr) (a:=⟨kb,off+k,Y⟩) (u kb ai)).trans e0;have HC:G (WU WV 229 #[Zp (b5 cb 0)] wr.drew (r9 n (Kd.o t)[k] wr.drew)):=hn S (Kd.o t)[k] _ (d+1) wr.drew (hr.keep (w':=wr.drew) (λb hb=>u b hb) zI) (fP hB) (af k qf).1 (af k qf).2;have⟨i0,ak,au,F,av⟩:=QY Tryz.info_kindO;have q6:G (_/\_/\_/\_):=⟨ak,au,F,av⟩;have aD:X<wr.heap.size:=E;clear ak au F av r l e0 hr u;go_wp2_with fail;go_region_law (first
     | (refine Xd _ cU (.tmp 26) (.tmp 29) 175 cU wc.heap.size 177 i0 _ 3 56 underlying175 q6.1 q6.2.1 q6.2.2.1 q6.2.2.2 D zC (A R k T) k xs cU (ao _) ⟨w2.heap.size,0,Y⟩ 1 1 [I U u0,A ua ul uc,A ya yl yc] cU D (QB (Qh w2 _)) iz zC fA E zE (w2.heap.size+1) zS ?_;intro g cap w3 P q j2 aL;have qt:=((q.block X zE JO).trans (Qf _ _ _ E)).trans N;have ay:a7 w3 X 2=Z (A R k T):=rf;have az:w3.frozen? ⟨X,2,Y⟩=false:=rg)
     | (go_simp;go_at_call 229;refine H HC ?_;rintro e w2 ⟨m,g0,g1,g2,L3,L4,rfl,O,aq,ar,ho,hl⟩;obtain⟨u0,ua,ul,uc,ya,yl,yc,rfl,rfl,rfl⟩:=O.shape;have aM:wr.heap.size<=w2.heap.size:=m.size;have N:=(m.block X (by simpa using aD)).trans HL.box;have ao:∀o,(w2.alloc o).ownsRow wc.heap.size 177 3 (A R k T) k xs:=(λo=>(cV HX (λg' aE=>m.block g' (by have:=cO HX g' aE;simp;omega))).alloc o);have ax:a7 w2 X 2=Z (A R k T):=(by simp[WY,N]);have aJ:a7 (w2.alloc (UF u0 ua ul uc ya yl yc)) X 2=Z (A R k T):=(Ql (Qf _ _ _ (by show X<_;omega))).trans ax))
    all_goals
     have HF:G (l9 X n (Kd.o t) s (A y B z) wc (k+1) (A (b5 g 0) (k+1) cap) (w3.setCell ⟨X,2,Y⟩ (A (b5 g 0) (k+1) cap))):=
      Ld (W:=wr.drew) HL.near aC HL.box qf HX q9.1 q9.2.1 q9.2.2 D ⟨D,D,D⟩ m O aq ar ho hl P q j2
     clear P q j2 O m aq ar ho hl ao ax aJ ay az qt N
     go_wp2
     go_roundw
     case rel=>exact⟨k+1,_,E,ew,HF⟩
     case measure=>exact eb
   .have al:k=J (Kd.o t):=E;have qa:wr.heap[w.heap.size]?=Z (Zc UC 177 (0,0)):=(aa.block _ E E).trans C.zero;have⟨⟨r0,r1,r2⟩,f0,f1,f2⟩:=k5 qa;have HP:G (r9 (n+1) t w (Zr (UD s y B z R k T)) (gh wr w.heap.size 0 (I U s) (A y B z) (A R k T))):=by have h1:=HL.out;rw[al]at h1 ⊢;exact Oi C HS aG E aA E h1
    clear al r HX q9 HL qa;exact io
def AW:∀n,wH n:=by
 intro n;induction n with
 | zero=>intro S t v d w h;exact h.elim
 | succ n a=>exact yv a
