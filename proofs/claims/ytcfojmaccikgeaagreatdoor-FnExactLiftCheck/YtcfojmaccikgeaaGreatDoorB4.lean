import Derived.Test.YtcfojmaccikgeaaGreatDoorB2
import Derived.Deep.RegionWith
import Derived.BigQuiet
open Go.Value renaming slice→Zs,int→Zi,string→Zt,agg→Za,bool→Zb
open Go.IntKind renaming i64→Zk
open Go.Ending renaming returned→Zr
open Go.Obj renaming cells→Zc
open Go renaming World→Zw
open List renaming eq_nil_of_length_eq_zero→Zz
open Nat renaming zero_le→ZE
namespace Go.Proofs.YtcfojmaccikgeaaGreatDoor
open Go.RowKit Go.Proofs.Tryz
set_option maxRecDepth 100000
set_option maxHeartbeats 16000000
theorem gb{a b:Bool}(h:a=b):Ending.returned (Zb a)=Zr (Zb b):=by rw[h]
theorem iO(x a b:Int)(w:Zw):Calls prog 58 #[Zi Zk x,Zi Zk a,Zi Zk b] w fun e d=>e=Zr (Zb (decide (a<=x/\x<=b)))/\d=w:=by
 by_cases h:a<=x<;>by_cases c:x<=b;all_goals
  go_in
  go_wp2
  go_ret
  exact⟨gb (by simp[h,c];try omega),rfl⟩
theorem kK(s:ZN)(w:Zw)(v:s.size<=maxLen):Calls prog 30 #[Zt s] w fun e m=>e=Zr (Zb (gj s))/\m=w:=by
 unfold maxLen at v;by_cases t:1<=s.size/\s.size<=8
 ·obtain⟨f,n⟩:=t;have l:decide ((1:Int)<=(s.size:Int)/\(s.size:Int)<=8)=true:=decide_eq_true ⟨om,om⟩;have b:s.data.toList.headD 0=s[0]:=by
   cases hx:s.data.toList with
   | nil=>have:=congrArg List.length hx;simp at this;simp[this]at f
   | cons a r=>simp[ByteArray.getElem_eq_getElem_data,<- Array.getElem_toList,hx]
  cases hu:pI s[0] with
  | false=>
   have d:Hid (gj s=false):=by show _=_;rw[gj,b,hu];simp
   unfold pI at hu;rw[decide_eq_false_iff_not]at hu;clear b;go_in;go_wp2_with (go_at_call 58;refine (iO _ _ _ _).mono ?_;rintro e m ⟨rfl,rfl⟩;rw[l]);all_goals
    go_ret
    exact⟨gb d.out.symm,rfl⟩
  | true=>
   have p:Hid (s.data.toList.headD 0=s[0]/\pI s[0]=true):=⟨b,hu⟩;unfold pI at hu;rw[decide_eq_true_eq]at hu;obtain⟨x,y⟩:=hu;clear b;go_in;go_wp2_with (go_at_call 58;refine (iO _ _ _ _).mono ?_;rintro e m ⟨rfl,rfl⟩;rw[l]);go_loop [3] (fun i=>∃k:Nat,k<=s.size/\i=Zi Zk k/\(s.data.toList.take k).all gC=true) (fun i=>s.size-(intOf i).toNat);case atStart=>exact⟨0,ZE _,rfl,zS⟩
   case round=>
    obtain⟨k,z,rfl,c⟩:=hrel;have o:=a7 c;clear c;by_cases g:k<s.size
    ·cases hb:gC s[k] with
     | true=>
      have u:Hid (gC s[k]=true):=hb;unfold gC at hb;rw[decide_eq_true_eq]at hb;rcases hb with ⟨j,q⟩|⟨j,q⟩;all_goals
       go_wp2
       go_round
       case rel=>exact⟨k+1,om,by go_num,kd k g o.out u.out⟩
       case measure=>simp[intOf];omega
     | false=>
      have d:Hid (gj s=false):=by show _=_;rw[gj,lG k g hb];simp
      unfold gC at hb;rw[decide_eq_false_iff_not]at hb;rcases (show (s[k].toNat:Int)<48∨(57<(s[k].toNat:Int)/\(s[k].toNat:Int)<97)∨122<(s[k].toNat:Int) by omega) with j|⟨j,q⟩|j;all_goals
       clear hb
       go_wp2
       all_goals first
        | (go_ret;exact⟨gb d.out.symm,rfl⟩)
        | (exfalso;rename_i h;simp at h;omega)
    ·have d:Hid (gj s=true):=by show _=_;rw[gj,p.out.1,p.out.2,lH k om o.out];simp[f,n]
     go_wp2;go_ret;exact⟨gb d.out.symm,rfl⟩
 ·have l:decide ((1:Int)<=(s.size:Int)/\(s.size:Int)<=8)=false:=decide_eq_false om;have d:Hid (gj s=false):=by show _=_;rw[gj,decide_eq_false t];simp
  go_in;go_wp2_with (go_at_call 58;refine (iO _ _ _ _).mono ?_;rintro e m ⟨rfl,rfl⟩;rw[l]);go_ret;exact⟨gb d.out.symm,rfl⟩
theorem pz (S:ZP) (l:List ZN) (v:Value) (w:Zw) (E:fL S w l v) (B:Bd S w) :
  Calls prog 99 #[v] w fun e y=>e=Zr (Zb (gX l))/\Bw w y:=by
 obtain⟨F,cap,rfl,u,o,n⟩:=E;unfold maxLen at u;go_in;go_wp2;go_loopw [3] (fun i wr=>∃k:Nat,k<=l.length/\i=Zi Zk k/\iP l k=true/\Bw w wr) (fun i _=>l.length-(intOf i).toNat);case atStart=>exact⟨0,ZE _,rfl,by simp[iP],Below.refl _ _⟩
 case round=>
  obtain⟨k,G,rfl,m,c⟩:=hrel;have z:Hid (iP l k=true):=m;clear m;by_cases f:k<l.length
  ·obtain⟨b,off,rfl,t,a⟩:=n (by intro h;rw[h]at f;simp at f);have f0:=kC c (a k f) (B b t);have x:=o l[k] (List.getElem_mem f);have d:l.getD k ByteArray.empty=l[k]:=by simp[List.getD,f]
   cases hnm:gj l[k] with
   | false=>
    have q:Hid (gX l=false):=lK l k f (by simp only[i8,d,hnm,Bool.false_and]);have p:Hid (∀w,Calls prog 30 #[Zt l[k]] w fun e y=>e=Zr (Zb false)/\y=w):=fun w=>by rw[<- hnm];exact kK _ w x
    clear n o a d hnm;generalize l[k]=s at *;go_wp2_with fail;go_quiet ((go_at_call 30;exact Calls.quiet_of_same (p.out _)));go_wp2;go_ret;exact⟨gb q.out.symm,below_drewN c _⟩
   | true=>
    have p:Hid (∀w,Calls prog 30 #[Zt l[k]] w fun e y=>e=Zr (Zb true)/\y=w):=fun w=>by rw[<- hnm];exact kK _ w x
    rcases Nat.eq_zero_or_pos k with rfl|D
    ·have A:Hid (iP l (0+1)=true):=by show _=_;rw[mw,z.out,i8,d,hnm];rfl
     clear n o a d hnm;rw[Nat.add_zero]at f0;generalize l[0]=s at *;go_wp2_with fail;go_quiet ((go_at_call 30;exact Calls.quiet_of_same (p.out _)));go_wp2;go_roundw;case rel=>exact⟨0+1,om,by go_num,A.out,below_drewN c _⟩
     case measure=>simp[intOf];omega
    ·obtain⟨j,rfl⟩:∃j,k=j+1:=⟨k-1,om⟩;have f1:=kC c (a j om) (B b t);have g:l.getD j ByteArray.empty=l[j]:=by simp[List.getD,show j<l.length by omega]
     have C:decide ((0:Int)<((j+1:Nat):Int))=true:=decide_eq_true om;cases hlt':kN l[j] l[j+1] with
     | false=>have q:Hid (gX l=false):=lK l (j+1) f (by simp only[i8,d,Nat.add_sub_cancel,g,hlt'];simp);unfold kN at hlt';clear n o a d g hnm;generalize l[j]=r at *;generalize l[j+1]=s at *;go_wp2_with fail;go_quiet ((go_at_call 30;exact Calls.quiet_of_same (p.out _)));go_wp2;go_ret;exact⟨gb q.out.symm,below_drewN c _⟩
     | true=>
      have A:Hid (iP l (j+1+1)=true):=by show _=_;rw[mw,z.out,i8,d,hnm,Nat.add_sub_cancel,g,hlt'];simp
      unfold kN at hlt';clear n o a d g hnm;generalize l[j]=r at *;generalize l[j+1]=s at *;go_wp2_with fail;go_quiet ((go_at_call 30;exact Calls.quiet_of_same (p.out _)));go_wp2;go_roundw;case rel=>exact⟨j+1+1,om,by go_num,A.out,below_drewN c _⟩
      case measure=>simp[intOf];omega
  ·have q:Hid (gX l=true):=by show _=_;rw[gX,show l.length=k by omega];exact z.out
   clear n o;go_wp2;go_ret;exact⟨gb q.out.symm,c⟩
def pt(n:Nat):Prop:=∀(S:ZP)(t:K n)(c0 c1 c2:Value)(d:Int)(w:Zw),a8 S w n t c0 c1 c2->(Bd S w)->1<=d->d<=7 ->
 Calls prog 73 #[Za #[c0,c1,c2],Zi Zk d] w fun e a=>e=Zr (Zi Zk (gD n t d))/\Bw w a
theorem uz (s:Int) (l:List ZN) (kl:Nat):(fX s l kl=true/\1<=s/\s<=6/\((s<4/\l.length=0/\kl=0)∨(s=4/\l.length=0/\kl=1)∨(s=6/\l.length=0/\kl=1)∨(s=5/\l.length=kl/\gX l=true))) ∨
  (fX s l kl=false/\(¬(1<=s/\s<=6)∨(1<=s/\s<4/\0<l.length)∨(1<=s/\s<4/\l.length=0/\0<kl)∨(s=4/\0<l.length)∨(s=6/\0<l.length)∨(s=4/\l.length=0/\kl≠1)∨(s=6/\l.length=0/\kl≠1)∨(s=5/\l.length≠kl)∨(s=5/\l.length=kl/\gX l=false))):=by
 cases h:fX s l kl with
 | true=>
  refine .inl ⟨rfl,?_⟩;unfold fX at h;by_cases d:s=1;·subst d;simp at h;exact⟨om,om,.inl ⟨om,by simp[h.1],om⟩⟩
  rw[if_neg d]at h;by_cases f:s=2;·subst f;simp at h;exact⟨om,om,.inl ⟨om,by simp[h.1],om⟩⟩
  rw[if_neg f]at h;by_cases g:s=3;·subst g;simp at h;exact⟨om,om,.inl ⟨om,by simp[h.1],om⟩⟩
  rw[if_neg g]at h;by_cases i:s=4;·subst i;simp at h;exact⟨om,om,.inr (.inl ⟨rfl,by simp[h.1],om⟩)⟩
  rw[if_neg i]at h;by_cases j:s=5;·subst j;simp at h;exact⟨om,om,.inr (.inr (.inr ⟨rfl,om,h.2⟩))⟩
  rw[if_neg j]at h;by_cases k:s=6;·subst k;simp at h;exact⟨om,om,.inr (.inr (.inl ⟨rfl,by simp[h.1],om⟩))⟩
  rw[if_neg k]at h;cases h
 | false=>
  refine .inr ⟨rfl,?_⟩;by_cases m:1<=s/\s<=6
  ·right;unfold fX at h;rcases (show (s=1∨s=2∨s=3)∨s=4∨s=6∨s=5 by omega) with b|b|b|b
   ·by_cases a:l.length=0
    ·refine .inr (.inl ⟨om,om,a,?_⟩);rcases b with b|b|b<;>subst b<;>simp at h<;>rcases Nat.eq_zero_or_pos kl with c|c;all_goals first
      | exact c
      | (exfalso;apply h<;>first|(exact Zz a)|omega)
    ·exact .inl ⟨om,om,om⟩
   ·subst b;simp at h;by_cases a:l.length=0;·exact .inr (.inr (.inr (.inr (.inl ⟨rfl,a,fun e=>h (Zz a) om⟩))))
    ·exact .inr (.inr (.inl ⟨rfl,om⟩))
   ·subst b;simp at h;by_cases a:l.length=0;·exact .inr (.inr (.inr (.inr (.inr (.inl ⟨rfl,a,fun e=>h (Zz a) om⟩)))))
    ·exact .inr (.inr (.inr (.inl ⟨rfl,om⟩)))
   ·subst b;simp at h;by_cases a:l.length=kl;·exact .inr (.inr (.inr (.inr (.inr (.inr (.inr ⟨rfl,a,h om⟩))))))
    ·exact .inr (.inr (.inr (.inr (.inr (.inr (.inl ⟨rfl,a⟩))))))
  ·exact .inl m
theorem wX(n:Nat)(hn:pt n):pt (n+1):=by
 intro S t c0 c1 c2 d w ht T aA aB;obtain⟨rfl,-,h3,h4⟩:=ht;obtain⟨na,nc,rfl,-,-,-⟩:=id h3;obtain⟨ka,kc,rfl,ap,g⟩:=id h4;unfold maxLen at ap;generalize hs:Kd.sort t=s at *;have x:=(Below.refl w.heap.size w).alloc (Nat.le_refl _) (Zc #[Zi Zk s,Zs na (Kd.names t).length nc,Zs ka (Kd.kids t).length kc] 31);by_cases am:d<=6;case neg=>have G:Hid (gD (n+1) t d = -1):=vL n t d (by simp[am]);clear hs;go_in;go_wp2;go_ret;exact⟨fJ G.out.symm,x⟩
 have aj:=h3.keep (a6 x T) (fun _ h=>h);have HC:Hid (Calls prog 99 _ _ _):=pz S (Kd.names t) (Zs na (Kd.names t).length nc) _ aj (fun b O=>by have:=T b O;simp;omega);have hK:=h4.keepK (a6 x T) (fun _ h=>h);rcases uz s (Kd.names t) (Kd.kids t).length with ⟨Z,ax,ay,P⟩|⟨Z,P⟩;case inr=>
  have G:Hid (gD (n+1) t d = -1):=vL n t d (by show (_ && fX _ _ _)=_;rw[show (Kd.sort t)=s from hs,Z];simp);clear Z hs h3 h4 g hK aj hn;generalize (Kd.kids t).length=kl at *;generalize aE:(Kd.names t).length=ln at *;have W:Hid (∀w,Calls prog 58 #[Zi Zk s,Zi Zk 1,Zi Zk 6] w fun e R=>e=Zr (Zb (decide (1<=s/\s<=6)))/\R=w):=fun w=>iO s 1 6 w;rcases P with hc|⟨au,al,m⟩|⟨au,al,m,l⟩|⟨rfl,m⟩|⟨rfl,m⟩|⟨rfl,m,l⟩|⟨rfl,m,l⟩|⟨rfl,m⟩|⟨rfl,m,l⟩;·have hd:decide (1<=s/\s<=6)=false:=decide_eq_false hc;clear hc;go_in;go_wp2_with (go_at_call 58;refine (W.out _).mono ?_;rintro e R ⟨rfl,rfl⟩;rw[hd]);go_ret;exact⟨fJ G.out.symm,x⟩
  ·have hd:decide (1<=s/\s<=6)=true:=decide_eq_true om;have he:(s==5)=false:=zE;have an:(s != 5)=true:=zE;go_in;go_wp2_with (go_at_call 58;refine (W.out _).mono ?_;rintro e R ⟨rfl,rfl⟩;rw[hd]);go_ret;exact⟨fJ G.out.symm,x⟩
  ·have hd:decide (1<=s/\s<=6)=true:=decide_eq_true om;have he:(s==5)=false:=zE;have an:(s != 5)=true:=zE;have aw:¬0<(ln:Int):=om;clear m HC;go_in;go_wp2_with (go_at_call 58;refine (W.out _).mono ?_;rintro e R ⟨rfl,rfl⟩;rw[hd]);go_ret;exact⟨fJ G.out.symm,x⟩
  iterate 2
   ·go_in
    go_wp2_with (go_at_call 58;refine (W.out _).mono ?_;rintro e R ⟨rfl,rfl⟩)
    go_ret
    exact⟨fJ G.out.symm,x⟩
  iterate 2
   ·have aw:¬0<(ln:Int):=by omega
    have aq:((kl:Int) != 1)=true:=zE
    clear m HC
    go_in
    go_wp2_with (go_at_call 58;refine (W.out _).mono ?_;rintro e R ⟨rfl,rfl⟩)
    go_ret
    exact⟨fJ G.out.symm,x⟩
  ·have aq:((ln:Int) != (kl:Int))=true:=by simp;omega
   go_in;go_wp2_with (go_at_call 58;refine (W.out _).mono ?_;rintro e R ⟨rfl,rfl⟩);go_ret;exact⟨fJ G.out.symm,x⟩
  ·subst m;have aq:((ln:Int) != (ln:Int))=false:=zS;go_in;go_wp2_with (go_at_call 58;refine (W.out _).mono ?_;rintro e R ⟨rfl,rfl⟩);refine HC.out.mono ?_;rintro e R ⟨rfl,ar⟩;rw[l];have A:=b5 x zS ar;go_wp2;go_ret;exact⟨fJ G.out.symm,A⟩
 have ag:Hid ((decide (d<=6) && lA (show Kd (K n) from t))=true):=by show (_ && fX _ _ _)=_;rw[show (Kd.sort t)=s from hs,Z];simp[am]
 have W:Hid (∀w,Calls prog 58 #[Zi Zk s,Zi Zk 1,Zi Zk 6] w fun e R=>e=Zr (Zb true)/\R=w):=fun w=>by rw[<- decide_eq_true (⟨ax,ay⟩:1<=s/\s<=6)];exact iO s 1 6 w
 have M:w.heap.size<(w.alloc (Zc #[Zi Zk s,Zs na (Kd.names t).length nc,Zs ka (Kd.kids t).length kc] 31)).heap.size:=zS;have m2:(w.alloc (Zc #[Zi Zk s,Zs na (Kd.names t).length nc,Zs ka (Kd.kids t).length kc] 31)).cell? ⟨w.heap.size,2,none⟩=some (Zs ka (Kd.kids t).length kc):=by simp[go_sem]
 clear Z hs h3 h4 g aj;have A:Bw w _:=x;rcases P with ⟨al,m,l⟩|⟨rfl,m,l⟩|⟨rfl,m,l⟩|⟨rfl,m,l⟩
 ·generalize D:w.alloc (Zc #[Zi Zk s,Zs na (Kd.names t).length nc,Zs ka (Kd.kids t).length kc] 31)=w1 at *;obtain⟨_,_,Q,-,g⟩:=hK;cases Q
  have H:Hid ((Kd.kids t).length=0):=l;rw[l]at m2;rw[m,l]at D ⊢;have X:=a7 D;have he:(s==5)=false:=zE;have an:(s != 5)=true:=zE;have aC:(s==4)=false:=zE;have aD:(s==6)=false:=zE;clear m l HC x D;go_in;go_wp2_with (go_at_call 58;refine (W.out _).mono ?_;rintro e R ⟨rfl,rfl⟩);rw[X.out];go_loopw [6,7] (fun a i wr=>∃ k:Nat,k<=0/\i=Zi Zk k/\a=Zi Zk (1+(b4 (fun k=>fR n k) ((Kd.kids t).take k):Int))/\1+b4 (fun k=>fR n k) ((Kd.kids t).take k)<=40 /\
    ((Kd.kids t).take k).all (fun k=>fM n k (d+1))=true/\Bw w1 wr) (fun _ i _=>0-(intOf i).toNat)
  case atStart=>exact⟨0,ZE _,rfl,by simp[b4],by simp[b4],zS,Below.refl _ _⟩
  case round=>
   obtain⟨k,hk,rfl,rfl,af,o,c⟩:=hrel;have v:=a7 o;clear o;have V:=c.size;have q4:wr.cell? ⟨w.heap.size,2,none⟩=some (Zs ka 0 kc):=kC c m2 M;generalize B:b4 (fun k=>fR n k) ((Kd.kids t).take k)=sm at *;have E:=a7 B;clear B;by_cases ah:k<0;·exact absurd ah (Nat.not_lt_zero _)
   ·have C:k=(Kd.kids t).length:=by have:=H.out;omega
    have G:Hid (gD (n+1) t d=1+(sm:Int)):=by show _=_;have Y:=v.out;have N:=E.out;rw[C,List.take_length]at Y N;rw[nw n t d ag.out Y (by rw[N];omega),N]
    have u:=b5 A om c;clear C g;go_wp2;go_ret;exact⟨fJ G.out.symm,u⟩
 ·generalize D:w.alloc (Zc #[Zi Zk 4,Zs na (Kd.names t).length nc,Zs ka (Kd.kids t).length kc] 31)=w1 at *;obtain⟨_,_,Q,-,g⟩:=hK;cases Q
  have H:Hid ((Kd.kids t).length=1):=l;rw[l]at m2;rw[m,l]at D ⊢;have X:=a7 D;clear m l HC x D;go_in;go_wp2_with (go_at_call 58;refine (W.out _).mono ?_;rintro e R ⟨rfl,rfl⟩);rw[X.out];go_loopw [6,7] (fun a i wr=>∃ k:Nat,k<=1/\i=Zi Zk k/\a=Zi Zk (1+(b4 (fun k=>fR n k) ((Kd.kids t).take k):Int))/\1+b4 (fun k=>fR n k) ((Kd.kids t).take k)<=40 /\
    ((Kd.kids t).take k).all (fun k=>fM n k (d+1))=true/\Bw w1 wr) (fun _ i _=>1-(intOf i).toNat)
  case atStart=>exact⟨0,ZE _,rfl,by simp[b4],by simp[b4],zS,Below.refl _ _⟩
  case round=>
   obtain⟨k,hk,rfl,rfl,af,o,c⟩:=hrel;have v:=a7 o;clear o;have V:=c.size;have q4:wr.cell? ⟨w.heap.size,2,none⟩=some (Zs ka 1 kc):=kC c m2 M;generalize B:b4 (fun k=>fR n k) ((Kd.kids t).take k)=sm at *;have E:=a7 B;clear B;by_cases ah:k<1
   ·have f:k<(Kd.kids t).length:=by have:=H.out;omega
    obtain⟨b,off,rfl,aa,p⟩:=g (by intro h;rw[h]at f;simp at f);obtain⟨x0,x1,x2,e0,e1,e2,hr⟩:=p k f;have ak:=T b aa;have f0:=kC c e0 om;have f1:=kC c e1 om;have f2:=kC c e2 om;have q:=hr.keep (a6 c (fun b O=>by have:=T b O;omega)) (fun _ h=>h);clear g p e0 e1 e2 hr;have F:Hid (Calls prog 73 _ _ _):=hn S (Kd.kids t)[k] x0 x1 x2 (d+1) wr q (fun b O=>by have:=T b O;omega) om om;have ao:=qR n (Kd.kids t)[k] (d+1);have I:Hid (gD n (Kd.kids t)[k] (d+1)<0->gD (n+1) t d = -1):=fun h=>pE n t d k f h;have y:Hid (0<=gD n (Kd.kids t)[k] (d+1)->gD n (Kd.kids t)[k] (d+1)=fR n (Kd.kids t)[k]/\fM n (Kd.kids t)[k] (d+1)=true):=fun h=>⟨(kY n _ _ h).1,(kY n _ _ h).2.1⟩;have j:Hid (b4 (fun k=>fR n k) ((Kd.kids t).take (k+1))=sm+fR n (Kd.kids t)[k]):=by show _=_;rw[fQ _ _ _ f,E.out]
    have z:Hid (fM n (Kd.kids t)[k] (d+1)=true->((Kd.kids t).take (k+1)).all (fun k=>fM n k (d+1))=true):=fun h=>j9 k f v.out h;clear q;generalize ab:(Kd.kids t)[k]=kk at *;clear ab f;go_wp2_with fail;refine F.out.mono ?_;rintro e w2 ⟨rfl,J⟩;have L:=b5 c V J;have u:=b5 A om L;clear J f0 f1 f2 c q4 F;generalize ad:gD n kk (d+1)=r at *;clear ad;by_cases ae:r<0;·go_wp2;go_ret;exact⟨fJ (I.out ae).symm,u⟩
    ·by_cases ac:40<1+(sm:Int)+r;·go_wp2;go_ret;refine⟨fJ (oo n t d (k+1) ?_).symm,u⟩;have:=y.out om;rw[j.out];omega
     ·go_wp2;go_roundw;case rel=>
       have hg:=y.out om;refine⟨k+1,om,by go_num,?_,?_,z.out hg.2,L⟩;·rw[j.out,hg.1];go_num
       ·rw[j.out];omega
      case measure=>simp[intOf];omega
   ·have C:k=(Kd.kids t).length:=by have:=H.out;omega
    have G:Hid (gD (n+1) t d=1+(sm:Int)):=by show _=_;have Y:=v.out;have N:=E.out;rw[C,List.take_length]at Y N;rw[nw n t d ag.out Y (by rw[N];omega),N]
    have u:=b5 A om c;clear C g;go_wp2;go_ret;exact⟨fJ G.out.symm,u⟩
 ·generalize D:w.alloc (Zc #[Zi Zk 6,Zs na (Kd.names t).length nc,Zs ka (Kd.kids t).length kc] 31)=w1 at *;obtain⟨_,_,Q,-,g⟩:=hK;cases Q
  have H:Hid ((Kd.kids t).length=1):=l;rw[l]at m2;rw[m,l]at D ⊢;have X:=a7 D;clear m l HC x D;go_in;go_wp2_with (go_at_call 58;refine (W.out _).mono ?_;rintro e R ⟨rfl,rfl⟩);rw[X.out];go_loopw [6,7] (fun a i wr=>∃ k:Nat,k<=1/\i=Zi Zk k/\a=Zi Zk (1+(b4 (fun k=>fR n k) ((Kd.kids t).take k):Int))/\1+b4 (fun k=>fR n k) ((Kd.kids t).take k)<=40 /\
    ((Kd.kids t).take k).all (fun k=>fM n k (d+1))=true/\Bw w1 wr) (fun _ i _=>1-(intOf i).toNat)
  case atStart=>exact⟨0,ZE _,rfl,by simp[b4],by simp[b4],zS,Below.refl _ _⟩
  case round=>
   obtain⟨k,hk,rfl,rfl,af,o,c⟩:=hrel;have v:=a7 o;clear o;have V:=c.size;have q4:wr.cell? ⟨w.heap.size,2,none⟩=some (Zs ka 1 kc):=kC c m2 M;generalize B:b4 (fun k=>fR n k) ((Kd.kids t).take k)=sm at *;have E:=a7 B;clear B;by_cases ah:k<1
   ·have f:k<(Kd.kids t).length:=by have:=H.out;omega
    obtain⟨b,off,rfl,aa,p⟩:=g (by intro h;rw[h]at f;simp at f);obtain⟨x0,x1,x2,e0,e1,e2,hr⟩:=p k f;have ak:=T b aa;have f0:=kC c e0 om;have f1:=kC c e1 om;have f2:=kC c e2 om;have q:=hr.keep (a6 c (fun b O=>by have:=T b O;omega)) (fun _ h=>h);clear g p e0 e1 e2 hr;have F:Hid (Calls prog 73 _ _ _):=hn S (Kd.kids t)[k] x0 x1 x2 (d+1) wr q (fun b O=>by have:=T b O;omega) om om;have ao:=qR n (Kd.kids t)[k] (d+1);have I:Hid (gD n (Kd.kids t)[k] (d+1)<0->gD (n+1) t d = -1):=fun h=>pE n t d k f h;have y:Hid (0<=gD n (Kd.kids t)[k] (d+1)->gD n (Kd.kids t)[k] (d+1)=fR n (Kd.kids t)[k]/\fM n (Kd.kids t)[k] (d+1)=true):=fun h=>⟨(kY n _ _ h).1,(kY n _ _ h).2.1⟩;have j:Hid (b4 (fun k=>fR n k) ((Kd.kids t).take (k+1))=sm+fR n (Kd.kids t)[k]):=by show _=_;rw[fQ _ _ _ f,E.out]
    have z:Hid (fM n (Kd.kids t)[k] (d+1)=true->((Kd.kids t).take (k+1)).all (fun k=>fM n k (d+1))=true):=fun h=>j9 k f v.out h;clear q;generalize ab:(Kd.kids t)[k]=kk at *;clear ab f;go_wp2_with fail;refine F.out.mono ?_;rintro e w2 ⟨rfl,J⟩;have L:=b5 c V J;have u:=b5 A om L;clear J f0 f1 f2 c q4 F;generalize ad:gD n kk (d+1)=r at *;clear ad;by_cases ae:r<0;·go_wp2;go_ret;exact⟨fJ (I.out ae).symm,u⟩
    ·by_cases ac:40<1+(sm:Int)+r;·go_wp2;go_ret;refine⟨fJ (oo n t d (k+1) ?_).symm,u⟩;have:=y.out om;rw[j.out];omega
     ·go_wp2;go_roundw;case rel=>
       have hg:=y.out om;refine⟨k+1,om,by go_num,?_,?_,z.out hg.2,L⟩;·rw[j.out,hg.1];go_num
       ·rw[j.out];omega
      case measure=>simp[intOf];omega
   ·have C:k=(Kd.kids t).length:=by have:=H.out;omega
    have G:Hid (gD (n+1) t d=1+(sm:Int)):=by show _=_;have Y:=v.out;have N:=E.out;rw[C,List.take_length]at Y N;rw[nw n t d ag.out Y (by rw[N];omega),N]
    have u:=b5 A om c;clear C g;go_wp2;go_ret;exact⟨fJ G.out.symm,u⟩
 ·have av:(((Kd.names t).length:Int) != ((Kd.kids t).length:Int))=false:=by simp;omega
  have ai:=a7 l;have H:Hid ((Kd.kids t).length=(Kd.kids t).length):=rfl;clear m l x;go_in;go_wp2_with (go_at_call 58;refine (W.out _).mono ?_;rintro e R ⟨rfl,rfl⟩);refine HC.out.mono ?_;rintro e w1 ⟨rfl,U⟩;rw[ai.out];have az:w1.cell? ⟨w.heap.size,0,none⟩=some (Zi Zk 5):=kC U (by simp[go_sem]) M;replace m2:=kC U m2 M;replace hK:=hK.keepK (a6 U (fun b O=>by have:=T b O;simp;omega)) (fun _ h=>h);replace A:=b5 A zS U;replace M:=Nat.lt_of_lt_of_le M U.size;clear av HC U;go_wp2_with fail;clear az;obtain⟨_,_,Q,-,g⟩:=hK;cases Q
  go_loopw [6,7] (fun a i wr=>∃ k:Nat,k<=(Kd.kids t).length/\i=Zi Zk k/\a=Zi Zk (1+(b4 (fun k=>fR n k) ((Kd.kids t).take k):Int))/\1+b4 (fun k=>fR n k) ((Kd.kids t).take k)<=40 /\
    ((Kd.kids t).take k).all (fun k=>fM n k (d+1))=true/\Bw w1 wr) (fun _ i _=>(Kd.kids t).length-(intOf i).toNat)
  case atStart=>exact⟨0,ZE _,rfl,by simp[b4],by simp[b4],zS,Below.refl _ _⟩
  case round=>
   obtain⟨k,hk,rfl,rfl,af,o,c⟩:=hrel;have v:=a7 o;clear o;have V:=c.size;have q4:wr.cell? ⟨w.heap.size,2,none⟩=some (Zs ka (Kd.kids t).length kc):=kC c m2 M;generalize B:b4 (fun k=>fR n k) ((Kd.kids t).take k)=sm at *;have E:=a7 B;clear B;by_cases ah:k<(Kd.kids t).length
   ·have f:k<(Kd.kids t).length:=by omega
    obtain⟨b,off,rfl,aa,p⟩:=g (by intro h;rw[h]at f;simp at f);obtain⟨x0,x1,x2,e0,e1,e2,hr⟩:=p k f;have ak:=T b aa;have f0:=kC c e0 om;have f1:=kC c e1 om;have f2:=kC c e2 om;have q:=hr.keep (a6 c (fun b O=>by have:=T b O;omega)) (fun _ h=>h);clear g p e0 e1 e2 hr;have F:Hid (Calls prog 73 _ _ _):=hn S (Kd.kids t)[k] x0 x1 x2 (d+1) wr q (fun b O=>by have:=T b O;omega) om om;have ao:=qR n (Kd.kids t)[k] (d+1);have I:Hid (gD n (Kd.kids t)[k] (d+1)<0->gD (n+1) t d = -1):=fun h=>pE n t d k f h;have y:Hid (0<=gD n (Kd.kids t)[k] (d+1)->gD n (Kd.kids t)[k] (d+1)=fR n (Kd.kids t)[k]/\fM n (Kd.kids t)[k] (d+1)=true):=fun h=>⟨(kY n _ _ h).1,(kY n _ _ h).2.1⟩;have j:Hid (b4 (fun k=>fR n k) ((Kd.kids t).take (k+1))=sm+fR n (Kd.kids t)[k]):=by show _=_;rw[fQ _ _ _ f,E.out]
    have z:Hid (fM n (Kd.kids t)[k] (d+1)=true->((Kd.kids t).take (k+1)).all (fun k=>fM n k (d+1))=true):=fun h=>j9 k f v.out h;clear q;generalize ab:(Kd.kids t)[k]=kk at *;clear ab f;go_wp2_with fail;refine F.out.mono ?_;rintro e w2 ⟨rfl,J⟩;have L:=b5 c V J;have u:=b5 A om L;clear J f0 f1 f2 c q4 F;generalize ad:gD n kk (d+1)=r at *;clear ad;by_cases ae:r<0;·go_wp2;go_ret;exact⟨fJ (I.out ae).symm,u⟩
    ·by_cases ac:40<1+(sm:Int)+r;·go_wp2;go_ret;refine⟨fJ (oo n t d (k+1) ?_).symm,u⟩;have:=y.out om;rw[j.out];omega
     ·go_wp2;go_roundw;case rel=>
       have hg:=y.out om;refine⟨k+1,om,by go_num,?_,?_,z.out hg.2,L⟩;·rw[j.out,hg.1];go_num
       ·rw[j.out];omega
      case measure=>simp[intOf];omega
   ·have C:k=(Kd.kids t).length:=by omega
    have G:Hid (gD (n+1) t d=1+(sm:Int)):=by show _=_;have Y:=v.out;have N:=E.out;rw[C,List.take_length]at Y N;rw[nw n t d ag.out Y (by rw[N];omega),N]
    have u:=b5 A om c;clear C g;go_wp2;go_ret;exact⟨fJ G.out.symm,u⟩
theorem yQ:∀n,pt n:=by
 intro n;induction n with
 | zero=>intro S t c0 c1 c2 d w a;exact a.elim
 | succ n b=>exact wX n b
theorem ow (n:Nat) (S:ZP) (t:K n) (c0 c1 c2:Value) (w:Zw) (i:a8 S w n t c0 c1 c2) (k:Bd S w) :
  Calls prog 31 #[Za #[c0,c1,c2]] w fun e m=>e=Zr (Zb (gF n t))/\Bw w m:=by obtain⟨o,p,r,q,s,v,u,rfl,rfl,rfl⟩:=i.shape;have a:=(Below.refl w.heap.size w).alloc (Nat.le_refl _) (Zc #[Zi Zk o,Zs p r q,Zs s v u] 31);have d:=i.keep (a6 a k) (fun _ h=>h);have f:Hid (decide (0<gD n t 1)=gF n t):=Jn n t;have j:Hid (Calls prog 73 _ _ _):=yQ n S t _ _ _ 1 _ d (fun b l=>by have:=k b l;simp;omega) om om;clear i d;go_in;go_wp2_with fail;refine j.out.mono ?_;rintro e w1 ⟨rfl,c⟩;have g:=b5 a zS c;clear a c j;go_wp2;go_ret;exact⟨gb f.out,g⟩
theorem wW(s:ZN)(w:Zw)(l:s.size<=maxLen):Calls prog 176 #[Zt s] w fun e m=>e=Zr (Zb (kB s))/\m=w:=by
 unfold maxLen at l;by_cases g:s.size<=60
 ·go_in;go_wp2;go_loop [3] (fun i=>∃k:Nat,k<=s.size/\i=Zi Zk k/\(s.data.toList.take k).all mf=true) (fun i=>s.size-(intOf i).toNat);case atStart=>exact⟨0,ZE _,rfl,zS⟩
  case round=>
   obtain⟨k,p,rfl,a⟩:=hrel;have d:=a7 a;clear a;by_cases b:k<s.size
   ·cases hb:mf s[k] with
    | true=>
     have h:Hid (mf s[k]=true):=hb;unfold mf at hb;rw[decide_eq_true_eq]at hb;obtain⟨n,o,f⟩:=hb;have j:((s[k].toNat:Int)==34)=false:=by simpa using f
     clear f;go_wp2;go_round;case rel=>exact⟨k+1,om,by go_num,kd k b d.out h.out⟩
     case measure=>simp[intOf];omega
    | false=>
     have c:Hid (kB s=false):=by show _=_;rw[kB,lG k b hb];simp
     unfold mf at hb;rw[decide_eq_false_iff_not]at hb;go_wp2;all_goals first
      | (go_ret;exact⟨gb c.out.symm,rfl⟩)
      | (exfalso;apply hb;simp_all)
   ·have c:Hid (kB s=true):=by show _=_;rw[kB,lH k om d.out];simp[g]
    go_wp2;go_ret;exact⟨gb c.out.symm,rfl⟩
 ·go_in;go_wp2;go_ret;exact⟨gb (by simp[kB,g]),rfl⟩
theorem Dy (m:Int) (x:ZN) (l:List ZN) (ka:ZO) (kl kc:Nat) (w:Zw) (na:ZO) (d:Nat) :
  Calls prog 145 #[Za #[Zi Zk 1,Zi Zk m,Zt x,Zs na l.length d,Zs ka kl kc]] w fun e b=>e=Zr (Zb (decide (-999999999<=m/\m<=999999999) && x.toList.isEmpty && ((l.length:Int)==0) && ((kl:Int)==0)))/\Bw w b:=by
 generalize a:decide (-999999999<=m/\m<=999999999)=A;have c:=a7 a;clear a;go_in;go_wp2_with (go_at_call 58;refine (iO _ _ _ _).mono ?_;rintro e b ⟨rfl,rfl⟩;rw[c.out]);all_goals
  go_ret
  exact⟨gb (by simp_all),gx _ _⟩
theorem Dz (m:Int) (x:ZN) (l:List ZN) (ka:ZO) (kl kc:Nat) (w:Zw) (na:ZO) (f:Nat) (d:x.size<=maxLen) :
  Calls prog 145 #[Za #[Zi Zk 2,Zi Zk m,Zt x,Zs na l.length f,Zs ka kl kc]] w fun e b=>e=Zr (Zb ((m==0) && kB x && ((l.length:Int)==0) && ((kl:Int)==0)))/\Bw w b:=by
 generalize a:kB x=A;have c:Hid (kB x=A):=a;clear a;go_in;go_wp2_with (go_at_call 176;refine (wW _ _ d).mono ?_;rintro e b ⟨rfl,rfl⟩;rw[c.out]);all_goals
  go_ret
  exact⟨gb (by simp_all),gx _ _⟩
theorem DA (m:Int) (x:ZN) (l:List ZN) (ka:ZO) (kl kc:Nat) (w:Zw) (na:ZO) (d:Nat) :
  Calls prog 145 #[Za #[Zi Zk 3,Zi Zk m,Zt x,Zs na l.length d,Zs ka kl kc]] w fun e b=>e=Zr (Zb (decide (0<=m/\m<=1) && x.toList.isEmpty && ((l.length:Int)==0) && ((kl:Int)==0)))/\Bw w b:=by
 generalize a:decide (0<=m/\m<=1)=A;have c:=a7 a;clear a;go_in;go_wp2_with (go_at_call 58;refine (iO _ _ _ _).mono ?_;rintro e b ⟨rfl,rfl⟩;rw[c.out]);all_goals
  go_ret
  exact⟨gb (by simp_all),gx _ _⟩
theorem DB (m:Int) (x:ZN) (l:List ZN) (ka:ZO) (kl kc:Nat) (w:Zw) (na:ZO) (a:Nat) :
  Calls prog 145 #[Za #[Zi Zk 4,Zi Zk m,Zt x,Zs na l.length a,Zs ka kl kc]] w fun e b=>e=Zr (Zb ((m==0) && x.toList.isEmpty && ((l.length:Int)==0) && decide ((kl:Int)<=20)))/\Bw w b:=by
 go_in;go_wp2_with fail;all_goals
  go_ret
  exact⟨gb (by simp_all),gx _ _⟩
theorem DC (m:Int) (x:ZN) (l:List ZN) (ka:ZO) (kl kc:Nat) (w:Zw) (na:ZO) (d:Nat) (S:ZP) (o:fL S w l (Zs na l.length d)) (f:Bd S w) :
  Calls prog 145 #[Za #[Zi Zk 5,Zi Zk m,Zt x,Zs na l.length d,Zs ka kl kc]] w fun e p=>e=Zr (Zb ((m==0) && x.toList.isEmpty && ((l.length:Int)==(kl:Int)) && gX l))/\Bw w p:=by
 by_cases j:m=0
 ·subst j;cases hx:x.toList.isEmpty with
  | false=>go_in;go_wp2;go_ret;exact⟨rfl,gx _ _⟩
  | true=>
   by_cases n:l.length=kl;·subst n;have a:=(Below.refl w.heap.size w).alloc (Nat.le_refl _) (Zc #[Zi Zk 5,Zi Zk 0,Zt x,Zs na l.length d,Zs ka l.length kc] 164);have c:=o.keep (a6 a f) (fun _ h=>h);have q:Hid (Calls prog 99 #[Zs na l.length d] _ _):=pz S l _ _ c (fun b r=>by have:=f b r;simp;omega);have n:((l.length:Int)==(l.length:Int))=true:=zS;clear o c f;go_in;go_wp2_with fail;refine q.out.mono ?_;rintro e p ⟨rfl,g⟩;go_wp2;go_ret;exact⟨zS,b5 a zS g⟩
   ·have i:((l.length:Int)==(kl:Int))=false:=by simp;omega
    go_in;go_wp2;go_ret;exact⟨gb (by simp[i]),gx _ _⟩
 ·have k:(m==0)=false:=by simpa using j
  clear j;go_in;go_wp2;go_ret;exact⟨gb (by simp[k]),gx _ _⟩
theorem DD (m:Int) (x:ZN) (l:List ZN) (ka:ZO) (kl kc:Nat) (w:Zw) (na:ZO) (a:Nat) :
  Calls prog 145 #[Za #[Zi Zk 6,Zi Zk m,Zt x,Zs na l.length a,Zs ka kl kc]] w fun e b=>e=Zr (Zb ((m==0) && x.toList.isEmpty && ((l.length:Int)==0) && decide ((kl:Int)<=1)))/\Bw w b:=by
 go_in;go_wp2_with fail;all_goals
  go_ret
  exact⟨gb (by simp_all),gx _ _⟩
theorem uP (s m:Int) (x:ZN) (l:List ZN) (ka:ZO) (kl kc:Nat) (w:Zw) (na:ZO) (b:Nat)
  (d:(s==1)=false) (f:(s==2)=false) (g:(s==3)=false) (h:(s==4)=false) (i:(s==5)=false) (j:(s==6)=false) :
  Calls prog 145 #[Za #[Zi Zk s,Zi Zk m,Zt x,Zs na l.length b,Zs ka kl kc]] w fun e c=>e=Zr (Zb false)/\Bw w c:=by have a:=(Below.refl w.heap.size w).alloc (Nat.le_refl _) (Zc #[Zi Zk s,Zi Zk m,Zt x,Zs na l.length b,Zs ka kl kc] 164);go_in;go_wp2;go_ret;exact⟨rfl,a⟩
theorem yP (s m:Int) (x:ZN) (l:List ZN) (ka:ZO) (kl kc:Nat) (w:Zw) (na:ZO) (a:Nat) (k:x.size<=maxLen)
  (S:ZP) (j:fL S w l (Zs na l.length a)) (i:Bd S w) :
  Calls prog 145 #[Za #[Zi Zk s,Zi Zk m,Zt x,Zs na l.length a,Zs ka kl kc]] w fun e n=>e=Zr (Zb (gM s m x l kl))/\Bw w n:=by
 unfold gM;by_cases b:s=1;·subst b;rw[if_pos rfl];exact Dy m x l ka kl kc w na a
 rw[if_neg b];by_cases c:s=2;·subst c;rw[if_pos rfl];exact Dz m x l ka kl kc w na a k
 rw[if_neg c];by_cases d:s=3;·subst d;rw[if_pos rfl];exact DA m x l ka kl kc w na a
 rw[if_neg d];by_cases f:s=4;·subst f;rw[if_pos rfl];exact DB m x l ka kl kc w na a
 rw[if_neg f];by_cases g:s=5;·subst g;rw[if_pos rfl];exact DC m x l ka kl kc w na a S j i
 rw[if_neg g];by_cases h:s=6;·subst h;rw[if_pos rfl];exact DD m x l ka kl kc w na a
 rw[if_neg h];exact uP s m x l ka kl kc w na a (by simp[b]) (by simp[c]) (by simp[d]) (by simp[f]) (by simp[g]) (by simp[h])
end Go.Proofs.YtcfojmaccikgeaaGreatDoor
