import Derived.Test.YtcfojmaccikgeaaGreatDoorB2
import Derived.Deep.RegionWith
import Derived.Deep.QuietTactic
import Derived.BigQuiet
open Go.Value renaming slice→Zs,int→Zi,string→Zt,agg→Za,bool→Zb
open Go.IntKind renaming i64→Zk
open Go.Ending renaming returned→Zr
open Go.Obj renaming cells→Zc
open Go renaming World→Zw
open List renaming eq_nil_of_length_eq_zero→Zz
open Nat renaming zero_le→ZE
namespace Go.Proofs.YtcfojmaccikgeaaGreatDoor
open Go.RowKit Go.Proofs.Tryz
set_option maxRecDepth 100000
set_option maxHeartbeats 16000000
theorem gd{a b:Bool}(h:a=b):Ending.returned (Zb a)=Zr (Zb b):=by rw[h]
theorem iY(x a b:Int)(w:Zw):Calls prog 58 #[Zi Zk x,Zi Zk a,Zi Zk b] w fun e c=>e=Zr (Zb (decide (a<=x/\x<=b)))/\c=w:=by
 by_cases h:a<=x<;>by_cases d:x<=b;all_goals
  go_in
  go_wp2
  go_ret
  exact⟨gd (by simp[h,d];try omega),rfl⟩
theorem kI(s:ByteArray)(w:Zw)(v:s.size<=maxLen):Calls prog 30 #[Zt s] w fun e l=>e=Zr (Zb (gh s))/\l=w:=by
 unfold maxLen at v;by_cases q:1<=s.size/\s.size<=8
 ·obtain⟨g,n⟩:=q;have m:decide ((1:Int)<=(s.size:Int)/\(s.size:Int)<=8)=true:=decide_eq_true ⟨om,om⟩;have b:s.data.toList.headD 0=s[0]:=by
   cases hx:s.data.toList with
   | nil=>have:=congrArg List.length hx;simp at this;simp[this]at g
   | cons a r=>simp[ByteArray.getElem_eq_getElem_data,<- Array.getElem_toList,hx]
  cases hu:pg s[0] with
  | false=>
   have d:Hid (gh s=false):=by show _=_;rw[gh,b,hu];simp
   unfold pg at hu;rw[decide_eq_false_iff_not]at hu;clear b;go_in;go_wp2_with (go_at_call 58;refine (iY _ _ _ _).mono ?_;rintro e l ⟨rfl,rfl⟩;rw[m]);all_goals
    go_ret
    exact⟨gd d.out.symm,rfl⟩
  | true=>
   have p:Hid (s.data.toList.headD 0=s[0]/\pg s[0]=true):=⟨b,hu⟩;unfold pg at hu;rw[decide_eq_true_eq]at hu;obtain⟨y,u⟩:=hu;clear b;go_in;go_wp2_with (go_at_call 58;refine (iY _ _ _ _).mono ?_;rintro e l ⟨rfl,rfl⟩;rw[m]);go_loop [3] (fun i=>∃k:Nat,k<=s.size/\i=Zi Zk k/\(s.data.toList.take k).all gH=true) (fun i=>s.size-(intOf i).toNat);case atStart=>exact⟨0,ZE _,rfl,zS⟩
   case round=>
    obtain⟨k,z,rfl,c⟩:=hrel;have t:=a7 c;clear c;by_cases f:k<s.size
    ·cases hb:gH s[k] with
     | true=>
      have x:Hid (gH s[k]=true):=hb;unfold gH at hb;rw[decide_eq_true_eq]at hb;rcases hb with ⟨j,o⟩|⟨j,o⟩;all_goals
       go_wp2
       go_round
       case rel=>exact⟨k+1,om,by go_num,jU k f t.out x.out⟩
       case measure=>simp[intOf];omega
     | false=>
      have d:Hid (gh s=false):=by show _=_;rw[gh,lD k f hb];simp
      unfold gH at hb;rw[decide_eq_false_iff_not]at hb;rcases (show (s[k].toNat:Int)<48∨(57<(s[k].toNat:Int)/\(s[k].toNat:Int)<97)∨122<(s[k].toNat:Int) by omega) with j|⟨j,o⟩|j;all_goals
       clear hb
       go_wp2
       all_goals first
        | (go_ret;exact⟨gd d.out.symm,rfl⟩)
        | (exfalso;rename_i h;simp at h;omega)
    ·have d:Hid (gh s=true):=by show _=_;rw[gh,p.out.1,p.out.2,lK k om t.out];simp[g,n]
     go_wp2;go_ret;exact⟨gd d.out.symm,rfl⟩
 ·have m:decide ((1:Int)<=(s.size:Int)/\(s.size:Int)<=8)=false:=decide_eq_false om;have d:Hid (gh s=false):=by show _=_;rw[gh,decide_eq_false q];simp
  go_in;go_wp2_with (go_at_call 58;refine (iY _ _ _ _).mono ?_;rintro e l ⟨rfl,rfl⟩;rw[m]);go_ret;exact⟨gd d.out.symm,rfl⟩
theorem pj (S:Nat->Prop) (l:List ByteArray) (v:Value) (w:Zw) (D:fL S w l v) (B:Bd S w) :
  Calls prog 99 #[v] w fun e y=>e=Zr (Zb (gW l))/\Bw w y:=by
 obtain⟨G,cap,rfl,u,o,n⟩:=D;unfold maxLen at u;go_in;go_wp2;go_loopw [3] (fun i wr=>∃k:Nat,k<=l.length/\i=Zi Zk k/\iQ l k=true/\Bw w wr) (fun i _=>l.length-(intOf i).toNat);case atStart=>exact⟨0,ZE _,rfl,by simp[iQ],Below.refl _ _⟩
 case round=>
  obtain⟨k,F,rfl,m,c⟩:=hrel;have z:Hid (iQ l k=true):=m;clear m;by_cases f:k<l.length
  ·obtain⟨b,off,rfl,x,a⟩:=n (by intro h;rw[h]at f;simp at f);have f0:=kC c (a k f) (B b x);have p:=o l[k] (List.getElem_mem f);have d:l.getD k ByteArray.empty=l[k]:=by simp[List.getD,f]
   cases hnm:gh l[k] with
   | false=>
    have t:Hid (gW l=false):=lE l k f (by simp only[iU,d,hnm,Bool.false_and]);have q:Hid (∀w,Calls prog 30 #[Zt l[k]] w fun e y=>e=Zr (Zb false)/\y=w):=fun w=>by rw[<- hnm];exact kI _ w p
    clear n o a d hnm;generalize l[k]=s at *;go_wp2_with fail;go_quiet ((go_at_call 30;exact Calls.quiet_of_same (q.out _)));go_wp2;go_ret;exact⟨gd t.out.symm,below_drewN c _⟩
   | true=>
    have q:Hid (∀w,Calls prog 30 #[Zt l[k]] w fun e y=>e=Zr (Zb true)/\y=w):=fun w=>by rw[<- hnm];exact kI _ w p
    rcases Nat.eq_zero_or_pos k with rfl|C
    ·have A:Hid (iQ l (0+1)=true):=by show _=_;rw[mD,z.out,iU,d,hnm];rfl
     clear n o a d hnm;rw[Nat.add_zero]at f0;generalize l[0]=s at *;go_wp2_with fail;go_quiet ((go_at_call 30;exact Calls.quiet_of_same (q.out _)));go_wp2;go_roundw;case rel=>exact⟨0+1,om,by go_num,A.out,below_drewN c _⟩
     case measure=>simp[intOf];omega
    ·obtain⟨j,rfl⟩:∃j,k=j+1:=⟨k-1,om⟩;have f1:=kC c (a j om) (B b x);have g:l.getD j ByteArray.empty=l[j]:=by simp[List.getD,show j<l.length by omega]
     have E:decide ((0:Int)<((j+1:Nat):Int))=true:=decide_eq_true om;cases hlt':kJ l[j] l[j+1] with
     | false=>have t:Hid (gW l=false):=lE l (j+1) f (by simp only[iU,d,Nat.add_sub_cancel,g,hlt'];simp);unfold kJ at hlt';clear n o a d g hnm;generalize l[j]=r at *;generalize l[j+1]=s at *;go_wp2_with fail;go_quiet ((go_at_call 30;exact Calls.quiet_of_same (q.out _)));go_wp2;go_ret;exact⟨gd t.out.symm,below_drewN c _⟩
     | true=>
      have A:Hid (iQ l (j+1+1)=true):=by show _=_;rw[mD,z.out,iU,d,hnm,Nat.add_sub_cancel,g,hlt'];simp
      unfold kJ at hlt';clear n o a d g hnm;generalize l[j]=r at *;generalize l[j+1]=s at *;go_wp2_with fail;go_quiet ((go_at_call 30;exact Calls.quiet_of_same (q.out _)));go_wp2;go_roundw;case rel=>exact⟨j+1+1,om,by go_num,A.out,below_drewN c _⟩
      case measure=>simp[intOf];omega
  ·have t:Hid (gW l=true):=by show _=_;rw[gW,show l.length=k by omega];exact z.out
   clear n o;go_wp2;go_ret;exact⟨gd t.out.symm,c⟩
def pp(n:Nat):Prop:=∀(S:Nat->Prop)(t:K n)(c0 c1 c2:Value)(d:Int)(w:Zw),a8 S w n t c0 c1 c2->(Bd S w)->1<=d->d<=7 ->
 Calls prog 73 #[Za #[c0,c1,c2],Zi Zk d] w fun e a=>e=Zr (Zi Zk (gI n t d))/\Bw w a
theorem uJ (s:Int) (l:List ByteArray) (a:Nat):(fW s l a=true/\1<=s/\s<=6/\((s<4/\l.length=0/\a=0)∨(s=4/\l.length=0/\a=1)∨(s=6/\l.length=0/\a=1)∨(s=5/\l.length=a/\gW l=true))) ∨
  (fW s l a=false/\(¬(1<=s/\s<=6)∨(1<=s/\s<4/\0<l.length)∨(1<=s/\s<4/\l.length=0/\0<a)∨(s=4/\0<l.length)∨(s=6/\0<l.length)∨(s=4/\l.length=0/\a≠1)∨(s=6/\l.length=0/\a≠1)∨(s=5/\l.length≠a)∨(s=5/\l.length=a/\gW l=false))):=by
 cases h:fW s l a with
 | true=>
  refine .inl ⟨rfl,?_⟩;unfold fW at h;by_cases g:s=1;·subst g;simp at h;exact⟨om,om,.inl ⟨om,by simp[h.1],om⟩⟩
  rw[if_neg g]at h;by_cases d:s=2;·subst d;simp at h;exact⟨om,om,.inl ⟨om,by simp[h.1],om⟩⟩
  rw[if_neg d]at h;by_cases i:s=3;·subst i;simp at h;exact⟨om,om,.inl ⟨om,by simp[h.1],om⟩⟩
  rw[if_neg i]at h;by_cases j:s=4;·subst j;simp at h;exact⟨om,om,.inr (.inl ⟨rfl,by simp[h.1],om⟩)⟩
  rw[if_neg j]at h;by_cases f:s=5;·subst f;simp at h;exact⟨om,om,.inr (.inr (.inr ⟨rfl,om,h.2⟩))⟩
  rw[if_neg f]at h;by_cases m:s=6;·subst m;simp at h;exact⟨om,om,.inr (.inr (.inl ⟨rfl,by simp[h.1],om⟩))⟩
  rw[if_neg m]at h;cases h
 | false=>
  refine .inr ⟨rfl,?_⟩;by_cases n:1<=s/\s<=6
  ·right;unfold fW at h;rcases (show (s=1∨s=2∨s=3)∨s=4∨s=6∨s=5 by omega) with b|b|b|b
   ·by_cases c:l.length=0
    ·refine .inr (.inl ⟨om,om,c,?_⟩);rcases b with b|b|b<;>subst b<;>simp at h<;>rcases Nat.eq_zero_or_pos a with k|k;all_goals first
      | exact k
      | (exfalso;apply h<;>first|(exact Zz c)|omega)
    ·exact .inl ⟨om,om,om⟩
   ·subst b;simp at h;by_cases c:l.length=0;·exact .inr (.inr (.inr (.inr (.inl ⟨rfl,c,fun e=>h (Zz c) om⟩))))
    ·exact .inr (.inr (.inl ⟨rfl,om⟩))
   ·subst b;simp at h;by_cases c:l.length=0;·exact .inr (.inr (.inr (.inr (.inr (.inl ⟨rfl,c,fun e=>h (Zz c) om⟩)))))
    ·exact .inr (.inr (.inr (.inl ⟨rfl,om⟩)))
   ·subst b;simp at h;by_cases c:l.length=a;·exact .inr (.inr (.inr (.inr (.inr (.inr (.inr ⟨rfl,c,h om⟩))))))
    ·exact .inr (.inr (.inr (.inr (.inr (.inr (.inl ⟨rfl,c⟩))))))
  ·exact .inl n
theorem vZ(n:Nat)(hn:pp n):pp (n+1):=by
 intro S t c0 c1 c2 d w ht T aA aB;obtain⟨rfl,-,h3,h4⟩:=ht;obtain⟨na,nc,rfl,-,-,-⟩:=id h3;obtain⟨Z,kc,rfl,aq,g⟩:=id h4;unfold maxLen at aq;generalize hs:Kd.sort t=s at *;have x:=(Below.refl w.heap.size w).alloc (Nat.le_refl _) (Zc #[Zi Zk s,Zs na (Kd.names t).length nc,Zs Z (Kd.kids t).length kc] 31);by_cases ap:d<=6;case neg=>have L:Hid (gI (n+1) t d = -1):=uS n t d (by simp[ap]);clear hs;go_in;go_wp2;go_ret;exact⟨fO L.out.symm,x⟩
 have aj:=h3.keep (a6 x T) (fun _ h=>h);have HC:Hid (Calls prog 99 _ _ _):=pj S (Kd.names t) (Zs na (Kd.names t).length nc) _ aj (fun b R=>by have:=T b R;simp;omega);have hK:=h4.keepK (a6 x T) (fun _ h=>h);rcases uJ s (Kd.names t) (Kd.kids t).length with ⟨ae,aw,au,N⟩|⟨ae,N⟩;case inr=>
  have L:Hid (gI (n+1) t d = -1):=uS n t d (by show (_ && fW _ _ _)=_;rw[show (Kd.sort t)=s from hs,ae];simp);clear ae hs h3 h4 g hK aj hn;generalize (Kd.kids t).length=kl at *;generalize aE:(Kd.names t).length=ln at *;have W:Hid (∀w,Calls prog 58 #[Zi Zk s,Zi Zk 1,Zi Zk 6] w fun e Q=>e=Zr (Zb (decide (1<=s/\s<=6)))/\Q=w):=fun w=>iY s 1 6 w;rcases N with hc|⟨ax,an,m⟩|⟨ax,an,m,l⟩|⟨rfl,m⟩|⟨rfl,m⟩|⟨rfl,m,l⟩|⟨rfl,m,l⟩|⟨rfl,m⟩|⟨rfl,m,l⟩;·have hd:decide (1<=s/\s<=6)=false:=decide_eq_false hc;clear hc;go_in;go_wp2_with (go_at_call 58;refine (W.out _).mono ?_;rintro e Q ⟨rfl,rfl⟩;rw[hd]);go_ret;exact⟨fO L.out.symm,x⟩
  ·have hd:decide (1<=s/\s<=6)=true:=decide_eq_true om;have he:(s==5)=false:=zE;have al:(s != 5)=true:=zE;go_in;go_wp2_with (go_at_call 58;refine (W.out _).mono ?_;rintro e Q ⟨rfl,rfl⟩;rw[hd]);go_ret;exact⟨fO L.out.symm,x⟩
  ·have hd:decide (1<=s/\s<=6)=true:=decide_eq_true om;have he:(s==5)=false:=zE;have al:(s != 5)=true:=zE;have ar:¬0<(ln:Int):=om;clear m HC;go_in;go_wp2_with (go_at_call 58;refine (W.out _).mono ?_;rintro e Q ⟨rfl,rfl⟩;rw[hd]);go_ret;exact⟨fO L.out.symm,x⟩
  iterate 2
   ·go_in
    go_wp2_with (go_at_call 58;refine (W.out _).mono ?_;rintro e Q ⟨rfl,rfl⟩)
    go_ret
    exact⟨fO L.out.symm,x⟩
  iterate 2
   ·have ar:¬0<(ln:Int):=by omega
    have am:((kl:Int) != 1)=true:=zE
    clear m HC
    go_in
    go_wp2_with (go_at_call 58;refine (W.out _).mono ?_;rintro e Q ⟨rfl,rfl⟩)
    go_ret
    exact⟨fO L.out.symm,x⟩
  ·have am:((ln:Int) != (kl:Int))=true:=by simp;omega
   go_in;go_wp2_with (go_at_call 58;refine (W.out _).mono ?_;rintro e Q ⟨rfl,rfl⟩);go_ret;exact⟨fO L.out.symm,x⟩
  ·subst m;have am:((ln:Int) != (ln:Int))=false:=zS;go_in;go_wp2_with (go_at_call 58;refine (W.out _).mono ?_;rintro e Q ⟨rfl,rfl⟩);refine HC.out.mono ?_;rintro e Q ⟨rfl,az⟩;rw[l];have C:=b4 x zS az;go_wp2;go_ret;exact⟨fO L.out.symm,C⟩
 have ag:Hid ((decide (d<=6) && lq (show Kd (K n) from t))=true):=by show (_ && fW _ _ _)=_;rw[show (Kd.sort t)=s from hs,ae];simp[ap]
 have W:Hid (∀w,Calls prog 58 #[Zi Zk s,Zi Zk 1,Zi Zk 6] w fun e Q=>e=Zr (Zb true)/\Q=w):=fun w=>by rw[<- decide_eq_true (⟨aw,au⟩:1<=s/\s<=6)];exact iY s 1 6 w
 have G:w.heap.size<(w.alloc (Zc #[Zi Zk s,Zs na (Kd.names t).length nc,Zs Z (Kd.kids t).length kc] 31)).heap.size:=zS;have m2:(w.alloc (Zc #[Zi Zk s,Zs na (Kd.names t).length nc,Zs Z (Kd.kids t).length kc] 31)).cell? ⟨w.heap.size,2,none⟩=some (Zs Z (Kd.kids t).length kc):=by simp[go_sem]
 clear ae hs h3 h4 g aj;have C:Bw w _:=x;rcases N with ⟨an,m,l⟩|⟨rfl,m,l⟩|⟨rfl,m,l⟩|⟨rfl,m,l⟩
 ·generalize A:w.alloc (Zc #[Zi Zk s,Zs na (Kd.names t).length nc,Zs Z (Kd.kids t).length kc] 31)=w1 at *;obtain⟨_,_,O,-,g⟩:=hK;cases O
  have I:Hid ((Kd.kids t).length=0):=l;rw[l]at m2;rw[m,l]at A ⊢;have ab:=a7 A;have he:(s==5)=false:=zE;have al:(s != 5)=true:=zE;have aD:(s==4)=false:=zE;have aC:(s==6)=false:=zE;clear m l HC x A;go_in;go_wp2_with (go_at_call 58;refine (W.out _).mono ?_;rintro e Q ⟨rfl,rfl⟩);rw[ab.out];go_loopw [6,7] (fun a i wr=>∃ k:Nat,k<=0/\i=Zi Zk k/\a=Zi Zk (1+(b5 (fun k=>fP n k) ((Kd.kids t).take k):Int))/\1+b5 (fun k=>fP n k) ((Kd.kids t).take k)<=40 /\
    ((Kd.kids t).take k).all (fun k=>fK n k (d+1))=true/\Bw w1 wr) (fun _ i _=>0-(intOf i).toNat)
  case atStart=>exact⟨0,ZE _,rfl,by simp[b5],by simp[b5],zS,Below.refl _ _⟩
  case round=>
   obtain⟨k,hk,rfl,rfl,Y,o,c⟩:=hrel;have v:=a7 o;clear o;have U:=c.size;have q4:wr.cell? ⟨w.heap.size,2,none⟩=some (Zs Z 0 kc):=kC c m2 G;generalize B:b5 (fun k=>fP n k) ((Kd.kids t).take k)=sm at *;have E:=a7 B;clear B;by_cases ah:k<0;·exact absurd ah (Nat.not_lt_zero _)
   ·have D:k=(Kd.kids t).length:=by have:=I.out;omega
    have L:Hid (gI (n+1) t d=1+(sm:Int)):=by show _=_;have h1:=v.out;have P:=E.out;rw[D,List.take_length]at h1 P;rw[mZ n t d ag.out h1 (by rw[P];omega),P]
    have u:=b4 C om c;clear D g;go_wp2;go_ret;exact⟨fO L.out.symm,u⟩
 ·generalize A:w.alloc (Zc #[Zi Zk 4,Zs na (Kd.names t).length nc,Zs Z (Kd.kids t).length kc] 31)=w1 at *;obtain⟨_,_,O,-,g⟩:=hK;cases O
  have I:Hid ((Kd.kids t).length=1):=l;rw[l]at m2;rw[m,l]at A ⊢;have ab:=a7 A;clear m l HC x A;go_in;go_wp2_with (go_at_call 58;refine (W.out _).mono ?_;rintro e Q ⟨rfl,rfl⟩);rw[ab.out];go_loopw [6,7] (fun a i wr=>∃ k:Nat,k<=1/\i=Zi Zk k/\a=Zi Zk (1+(b5 (fun k=>fP n k) ((Kd.kids t).take k):Int))/\1+b5 (fun k=>fP n k) ((Kd.kids t).take k)<=40 /\
    ((Kd.kids t).take k).all (fun k=>fK n k (d+1))=true/\Bw w1 wr) (fun _ i _=>1-(intOf i).toNat)
  case atStart=>exact⟨0,ZE _,rfl,by simp[b5],by simp[b5],zS,Below.refl _ _⟩
  case round=>
   obtain⟨k,hk,rfl,rfl,Y,o,c⟩:=hrel;have v:=a7 o;clear o;have U:=c.size;have q4:wr.cell? ⟨w.heap.size,2,none⟩=some (Zs Z 1 kc):=kC c m2 G;generalize B:b5 (fun k=>fP n k) ((Kd.kids t).take k)=sm at *;have E:=a7 B;clear B;by_cases ah:k<1
   ·have f:k<(Kd.kids t).length:=by have:=I.out;omega
    obtain⟨b,off,rfl,ac,p⟩:=g (by intro h;rw[h]at f;simp at f);obtain⟨x0,x1,x2,e0,e1,e2,hr⟩:=p k f;have ak:=T b ac;have f0:=kC c e0 om;have f1:=kC c e1 om;have f2:=kC c e2 om;have q:=hr.keep (a6 c (fun b R=>by have:=T b R;omega)) (fun _ h=>h);clear g p e0 e1 e2 hr;have F:Hid (Calls prog 73 _ _ _):=hn S (Kd.kids t)[k] x0 x1 x2 (d+1) wr q (fun b R=>by have:=T b R;omega) om om;have ao:=qp n (Kd.kids t)[k] (d+1);have J:Hid (gI n (Kd.kids t)[k] (d+1)<0->gI (n+1) t d = -1):=fun h=>pz n t d k f h;have y:Hid (0<=gI n (Kd.kids t)[k] (d+1)->gI n (Kd.kids t)[k] (d+1)=fP n (Kd.kids t)[k]/\fK n (Kd.kids t)[k] (d+1)=true):=fun h=>⟨(kS n _ _ h).1,(kS n _ _ h).2.1⟩;have j:Hid (b5 (fun k=>fP n k) ((Kd.kids t).take (k+1))=sm+fP n (Kd.kids t)[k]):=by show _=_;rw[fY _ _ _ f,E.out]
    have z:Hid (fK n (Kd.kids t)[k] (d+1)=true->((Kd.kids t).take (k+1)).all (fun k=>fK n k (d+1))=true):=fun h=>jV k f v.out h;clear q;generalize X:(Kd.kids t)[k]=kk at *;clear X f;go_wp2_with fail;refine F.out.mono ?_;rintro e w2 ⟨rfl,M⟩;have H:=b4 c U M;have u:=b4 C om H;clear M f0 f1 f2 c q4 F;generalize ad:gI n kk (d+1)=r at *;clear ad;by_cases af:r<0;·go_wp2;go_ret;exact⟨fO (J.out af).symm,u⟩
    ·by_cases aa:40<1+(sm:Int)+r;·go_wp2;go_ret;refine⟨fO (nV n t d (k+1) ?_).symm,u⟩;have:=y.out om;rw[j.out];omega
     ·go_wp2;go_roundw;case rel=>
       have hg:=y.out om;refine⟨k+1,om,by go_num,?_,?_,z.out hg.2,H⟩;·rw[j.out,hg.1];go_num
       ·rw[j.out];omega
      case measure=>simp[intOf];omega
   ·have D:k=(Kd.kids t).length:=by have:=I.out;omega
    have L:Hid (gI (n+1) t d=1+(sm:Int)):=by show _=_;have h1:=v.out;have P:=E.out;rw[D,List.take_length]at h1 P;rw[mZ n t d ag.out h1 (by rw[P];omega),P]
    have u:=b4 C om c;clear D g;go_wp2;go_ret;exact⟨fO L.out.symm,u⟩
 ·generalize A:w.alloc (Zc #[Zi Zk 6,Zs na (Kd.names t).length nc,Zs Z (Kd.kids t).length kc] 31)=w1 at *;obtain⟨_,_,O,-,g⟩:=hK;cases O
  have I:Hid ((Kd.kids t).length=1):=l;rw[l]at m2;rw[m,l]at A ⊢;have ab:=a7 A;clear m l HC x A;go_in;go_wp2_with (go_at_call 58;refine (W.out _).mono ?_;rintro e Q ⟨rfl,rfl⟩);rw[ab.out];go_loopw [6,7] (fun a i wr=>∃ k:Nat,k<=1/\i=Zi Zk k/\a=Zi Zk (1+(b5 (fun k=>fP n k) ((Kd.kids t).take k):Int))/\1+b5 (fun k=>fP n k) ((Kd.kids t).take k)<=40 /\
    ((Kd.kids t).take k).all (fun k=>fK n k (d+1))=true/\Bw w1 wr) (fun _ i _=>1-(intOf i).toNat)
  case atStart=>exact⟨0,ZE _,rfl,by simp[b5],by simp[b5],zS,Below.refl _ _⟩
  case round=>
   obtain⟨k,hk,rfl,rfl,Y,o,c⟩:=hrel;have v:=a7 o;clear o;have U:=c.size;have q4:wr.cell? ⟨w.heap.size,2,none⟩=some (Zs Z 1 kc):=kC c m2 G;generalize B:b5 (fun k=>fP n k) ((Kd.kids t).take k)=sm at *;have E:=a7 B;clear B;by_cases ah:k<1
   ·have f:k<(Kd.kids t).length:=by have:=I.out;omega
    obtain⟨b,off,rfl,ac,p⟩:=g (by intro h;rw[h]at f;simp at f);obtain⟨x0,x1,x2,e0,e1,e2,hr⟩:=p k f;have ak:=T b ac;have f0:=kC c e0 om;have f1:=kC c e1 om;have f2:=kC c e2 om;have q:=hr.keep (a6 c (fun b R=>by have:=T b R;omega)) (fun _ h=>h);clear g p e0 e1 e2 hr;have F:Hid (Calls prog 73 _ _ _):=hn S (Kd.kids t)[k] x0 x1 x2 (d+1) wr q (fun b R=>by have:=T b R;omega) om om;have ao:=qp n (Kd.kids t)[k] (d+1);have J:Hid (gI n (Kd.kids t)[k] (d+1)<0->gI (n+1) t d = -1):=fun h=>pz n t d k f h;have y:Hid (0<=gI n (Kd.kids t)[k] (d+1)->gI n (Kd.kids t)[k] (d+1)=fP n (Kd.kids t)[k]/\fK n (Kd.kids t)[k] (d+1)=true):=fun h=>⟨(kS n _ _ h).1,(kS n _ _ h).2.1⟩;have j:Hid (b5 (fun k=>fP n k) ((Kd.kids t).take (k+1))=sm+fP n (Kd.kids t)[k]):=by show _=_;rw[fY _ _ _ f,E.out]
    have z:Hid (fK n (Kd.kids t)[k] (d+1)=true->((Kd.kids t).take (k+1)).all (fun k=>fK n k (d+1))=true):=fun h=>jV k f v.out h;clear q;generalize X:(Kd.kids t)[k]=kk at *;clear X f;go_wp2_with fail;refine F.out.mono ?_;rintro e w2 ⟨rfl,M⟩;have H:=b4 c U M;have u:=b4 C om H;clear M f0 f1 f2 c q4 F;generalize ad:gI n kk (d+1)=r at *;clear ad;by_cases af:r<0;·go_wp2;go_ret;exact⟨fO (J.out af).symm,u⟩
    ·by_cases aa:40<1+(sm:Int)+r;·go_wp2;go_ret;refine⟨fO (nV n t d (k+1) ?_).symm,u⟩;have:=y.out om;rw[j.out];omega
     ·go_wp2;go_roundw;case rel=>
       have hg:=y.out om;refine⟨k+1,om,by go_num,?_,?_,z.out hg.2,H⟩;·rw[j.out,hg.1];go_num
       ·rw[j.out];omega
      case measure=>simp[intOf];omega
   ·have D:k=(Kd.kids t).length:=by have:=I.out;omega
    have L:Hid (gI (n+1) t d=1+(sm:Int)):=by show _=_;have h1:=v.out;have P:=E.out;rw[D,List.take_length]at h1 P;rw[mZ n t d ag.out h1 (by rw[P];omega),P]
    have u:=b4 C om c;clear D g;go_wp2;go_ret;exact⟨fO L.out.symm,u⟩
 ·have av:(((Kd.names t).length:Int) != ((Kd.kids t).length:Int))=false:=by simp;omega
  have ai:=a7 l;have I:Hid ((Kd.kids t).length=(Kd.kids t).length):=rfl;clear m l x;go_in;go_wp2_with (go_at_call 58;refine (W.out _).mono ?_;rintro e Q ⟨rfl,rfl⟩);refine HC.out.mono ?_;rintro e w1 ⟨rfl,V⟩;rw[ai.out];have ay:w1.cell? ⟨w.heap.size,0,none⟩=some (Zi Zk 5):=kC V (by simp[go_sem]) G;replace m2:=kC V m2 G;replace hK:=hK.keepK (a6 V (fun b R=>by have:=T b R;simp;omega)) (fun _ h=>h);replace C:=b4 C zS V;replace G:=Nat.lt_of_lt_of_le G V.size;clear av HC V;go_wp2_with fail;clear ay;obtain⟨_,_,O,-,g⟩:=hK;cases O
  go_loopw [6,7] (fun a i wr=>∃ k:Nat,k<=(Kd.kids t).length/\i=Zi Zk k/\a=Zi Zk (1+(b5 (fun k=>fP n k) ((Kd.kids t).take k):Int))/\1+b5 (fun k=>fP n k) ((Kd.kids t).take k)<=40 /\
    ((Kd.kids t).take k).all (fun k=>fK n k (d+1))=true/\Bw w1 wr) (fun _ i _=>(Kd.kids t).length-(intOf i).toNat)
  case atStart=>exact⟨0,ZE _,rfl,by simp[b5],by simp[b5],zS,Below.refl _ _⟩
  case round=>
   obtain⟨k,hk,rfl,rfl,Y,o,c⟩:=hrel;have v:=a7 o;clear o;have U:=c.size;have q4:wr.cell? ⟨w.heap.size,2,none⟩=some (Zs Z (Kd.kids t).length kc):=kC c m2 G;generalize B:b5 (fun k=>fP n k) ((Kd.kids t).take k)=sm at *;have E:=a7 B;clear B;by_cases ah:k<(Kd.kids t).length
   ·have f:k<(Kd.kids t).length:=by omega
    obtain⟨b,off,rfl,ac,p⟩:=g (by intro h;rw[h]at f;simp at f);obtain⟨x0,x1,x2,e0,e1,e2,hr⟩:=p k f;have ak:=T b ac;have f0:=kC c e0 om;have f1:=kC c e1 om;have f2:=kC c e2 om;have q:=hr.keep (a6 c (fun b R=>by have:=T b R;omega)) (fun _ h=>h);clear g p e0 e1 e2 hr;have F:Hid (Calls prog 73 _ _ _):=hn S (Kd.kids t)[k] x0 x1 x2 (d+1) wr q (fun b R=>by have:=T b R;omega) om om;have ao:=qp n (Kd.kids t)[k] (d+1);have J:Hid (gI n (Kd.kids t)[k] (d+1)<0->gI (n+1) t d = -1):=fun h=>pz n t d k f h;have y:Hid (0<=gI n (Kd.kids t)[k] (d+1)->gI n (Kd.kids t)[k] (d+1)=fP n (Kd.kids t)[k]/\fK n (Kd.kids t)[k] (d+1)=true):=fun h=>⟨(kS n _ _ h).1,(kS n _ _ h).2.1⟩;have j:Hid (b5 (fun k=>fP n k) ((Kd.kids t).take (k+1))=sm+fP n (Kd.kids t)[k]):=by show _=_;rw[fY _ _ _ f,E.out]
    have z:Hid (fK n (Kd.kids t)[k] (d+1)=true->((Kd.kids t).take (k+1)).all (fun k=>fK n k (d+1))=true):=fun h=>jV k f v.out h;clear q;generalize X:(Kd.kids t)[k]=kk at *;clear X f;go_wp2_with fail;refine F.out.mono ?_;rintro e w2 ⟨rfl,M⟩;have H:=b4 c U M;have u:=b4 C om H;clear M f0 f1 f2 c q4 F;generalize ad:gI n kk (d+1)=r at *;clear ad;by_cases af:r<0;·go_wp2;go_ret;exact⟨fO (J.out af).symm,u⟩
    ·by_cases aa:40<1+(sm:Int)+r;·go_wp2;go_ret;refine⟨fO (nV n t d (k+1) ?_).symm,u⟩;have:=y.out om;rw[j.out];omega
     ·go_wp2;go_roundw;case rel=>
       have hg:=y.out om;refine⟨k+1,om,by go_num,?_,?_,z.out hg.2,H⟩;·rw[j.out,hg.1];go_num
       ·rw[j.out];omega
      case measure=>simp[intOf];omega
   ·have D:k=(Kd.kids t).length:=by omega
    have L:Hid (gI (n+1) t d=1+(sm:Int)):=by show _=_;have h1:=v.out;have P:=E.out;rw[D,List.take_length]at h1 P;rw[mZ n t d ag.out h1 (by rw[P];omega),P]
    have u:=b4 C om c;clear D g;go_wp2;go_ret;exact⟨fO L.out.symm,u⟩
theorem ye:∀n,pp n:=by
 intro n;induction n with
 | zero=>intro S t c0 c1 c2 d w a;exact a.elim
 | succ n b=>exact vZ n b
theorem nN (n:Nat) (S:Nat->Prop) (t:K n) (c0 c1 c2:Value) (w:Zw) (i:a8 S w n t c0 c1 c2) (k:Bd S w) :
  Calls prog 31 #[Za #[c0,c1,c2]] w fun e q=>e=Zr (Zb (gV n t))/\Bw w q:=by obtain⟨u,r,m,v,l,p,o,rfl,rfl,rfl⟩:=i.shape;have a:=(Below.refl w.heap.size w).alloc (Nat.le_refl _) (Zc #[Zi Zk u,Zs r m v,Zs l p o] 31);have c:=i.keep (a6 a k) (fun _ h=>h);have f:Hid (decide (0<gI n t 1)=gV n t):=Im n t;have j:Hid (Calls prog 73 _ _ _):=ye n S t _ _ _ 1 _ c (fun b s=>by have:=k b s;simp;omega) om om;clear i c;go_in;go_wp2_with fail;refine j.out.mono ?_;rintro e w1 ⟨rfl,d⟩;have g:=b4 a zS d;clear a d j;go_wp2;go_ret;exact⟨gd f.out,g⟩
theorem ww(s:ByteArray)(w:Zw)(l:s.size<=maxLen):Calls prog 176 #[Zt s] w fun e j=>e=Zr (Zb (kf s))/\j=w:=by
 unfold maxLen at l;by_cases d:s.size<=60
 ·go_in;go_wp2;go_loop [3] (fun i=>∃k:Nat,k<=s.size/\i=Zi Zk k/\(s.data.toList.take k).all ml=true) (fun i=>s.size-(intOf i).toNat);case atStart=>exact⟨0,ZE _,rfl,zS⟩
  case round=>
   obtain⟨k,p,rfl,a⟩:=hrel;have g:=a7 a;clear a;by_cases b:k<s.size
   ·cases hb:ml s[k] with
    | true=>
     have m:Hid (ml s[k]=true):=hb;unfold ml at hb;rw[decide_eq_true_eq]at hb;obtain⟨o,n,f⟩:=hb;have h:((s[k].toNat:Int)==34)=false:=by simpa using f
     clear f;go_wp2;go_round;case rel=>exact⟨k+1,om,by go_num,jU k b g.out m.out⟩
     case measure=>simp[intOf];omega
    | false=>
     have c:Hid (kf s=false):=by show _=_;rw[kf,lD k b hb];simp
     unfold ml at hb;rw[decide_eq_false_iff_not]at hb;go_wp2;all_goals first
      | (go_ret;exact⟨gd c.out.symm,rfl⟩)
      | (exfalso;apply hb;simp_all)
   ·have c:Hid (kf s=true):=by show _=_;rw[kf,lK k om g.out];simp[d]
    go_wp2;go_ret;exact⟨gd c.out.symm,rfl⟩
 ·go_in;go_wp2;go_ret;exact⟨gd (by simp[kf,d]),rfl⟩
theorem CQ (m:Int) (x:ByteArray) (l:List ByteArray) (d:Option Addr) (b h:Nat) (w:Zw) (na:Option Addr) (g:Nat) :
  Calls prog 145 #[Za #[Zi Zk 1,Zi Zk m,Zt x,Zs na l.length g,Zs d b h]] w fun e a=>e=Zr (Zb (decide (-999999999<=m/\m<=999999999) && x.toList.isEmpty && ((l.length:Int)==0) && ((b:Int)==0)))/\Bw w a:=by
 generalize c:decide (-999999999<=m/\m<=999999999)=A;have f:=a7 c;clear c;go_in;go_wp2_with (go_at_call 58;refine (iY _ _ _ _).mono ?_;rintro e a ⟨rfl,rfl⟩;rw[f.out]);all_goals
  go_ret
  exact⟨gd (by simp_all),gF _ _⟩
theorem C3 (m:Int) (x:ByteArray) (l:List ByteArray) (d:Option Addr) (b i:Nat) (w:Zw) (na:Option Addr) (h:Nat) (g:x.size<=maxLen) :
  Calls prog 145 #[Za #[Zi Zk 2,Zi Zk m,Zt x,Zs na l.length h,Zs d b i]] w fun e a=>e=Zr (Zb ((m==0) && kf x && ((l.length:Int)==0) && ((b:Int)==0)))/\Bw w a:=by
 generalize c:kf x=A;have f:Hid (kf x=A):=c;clear c;go_in;go_wp2_with (go_at_call 176;refine (ww _ _ g).mono ?_;rintro e a ⟨rfl,rfl⟩;rw[f.out]);all_goals
  go_ret
  exact⟨gd (by simp_all),gF _ _⟩
theorem Eg (m:Int) (x:ByteArray) (l:List ByteArray) (d:Option Addr) (b h:Nat) (w:Zw) (na:Option Addr) (g:Nat) :
  Calls prog 145 #[Za #[Zi Zk 3,Zi Zk m,Zt x,Zs na l.length g,Zs d b h]] w fun e a=>e=Zr (Zb (decide (0<=m/\m<=1) && x.toList.isEmpty && ((l.length:Int)==0) && ((b:Int)==0)))/\Bw w a:=by
 generalize c:decide (0<=m/\m<=1)=A;have f:=a7 c;clear c;go_in;go_wp2_with (go_at_call 58;refine (iY _ _ _ _).mono ?_;rintro e a ⟨rfl,rfl⟩;rw[f.out]);all_goals
  go_ret
  exact⟨gd (by simp_all),gF _ _⟩
theorem C0 (m:Int) (x:ByteArray) (l:List ByteArray) (b:Option Addr) (a f:Nat) (w:Zw) (na:Option Addr) (d:Nat) :
  Calls prog 145 #[Za #[Zi Zk 4,Zi Zk m,Zt x,Zs na l.length d,Zs b a f]] w fun e c=>e=Zr (Zb ((m==0) && x.toList.isEmpty && ((l.length:Int)==0) && decide ((a:Int)<=20)))/\Bw w c:=by
 go_in;go_wp2_with fail;all_goals
  go_ret
  exact⟨gd (by simp_all),gF _ _⟩
theorem Df (m:Int) (x:ByteArray) (l:List ByteArray) (o:Option Addr) (d p:Nat) (w:Zw) (na:Option Addr) (f:Nat) (S:Nat->Prop) (r:fL S w l (Zs na l.length f)) (n:Bd S w) :
  Calls prog 145 #[Za #[Zi Zk 5,Zi Zk m,Zt x,Zs na l.length f,Zs o d p]] w fun e s=>e=Zr (Zb ((m==0) && x.toList.isEmpty && ((l.length:Int)==(d:Int)) && gW l))/\Bw w s:=by
 by_cases j:m=0
 ·subst j;cases hx:x.toList.isEmpty with
  | false=>go_in;go_wp2;go_ret;exact⟨rfl,gF _ _⟩
  | true=>
   by_cases q:l.length=d;·subst q;have a:=(Below.refl w.heap.size w).alloc (Nat.le_refl _) (Zc #[Zi Zk 5,Zi Zk 0,Zt x,Zs na l.length f,Zs o l.length p] 164);have c:=r.keep (a6 a n) (fun _ h=>h);have t:Hid (Calls prog 99 #[Zs na l.length f] _ _):=pj S l _ _ c (fun b u=>by have:=n b u;simp;omega);have q:((l.length:Int)==(l.length:Int))=true:=zS;clear r c n;go_in;go_wp2_with fail;refine t.out.mono ?_;rintro e s ⟨rfl,k⟩;go_wp2;go_ret;exact⟨zS,b4 a zS k⟩
   ·have g:((l.length:Int)==(d:Int))=false:=by simp;omega
    go_in;go_wp2;go_ret;exact⟨gd (by simp[g]),gF _ _⟩
 ·have i:(m==0)=false:=by simpa using j
  clear j;go_in;go_wp2;go_ret;exact⟨gd (by simp[i]),gF _ _⟩
theorem C8 (m:Int) (x:ByteArray) (l:List ByteArray) (b:Option Addr) (a f:Nat) (w:Zw) (na:Option Addr) (d:Nat) :
  Calls prog 145 #[Za #[Zi Zk 6,Zi Zk m,Zt x,Zs na l.length d,Zs b a f]] w fun e c=>e=Zr (Zb ((m==0) && x.toList.isEmpty && ((l.length:Int)==0) && decide ((a:Int)<=1)))/\Bw w c:=by
 go_in;go_wp2_with fail;all_goals
  go_ret
  exact⟨gd (by simp_all),gF _ _⟩
theorem ut (s m:Int) (x:ByteArray) (l:List ByteArray) (b:Option Addr) (f d:Nat) (w:Zw) (na:Option Addr) (c:Nat)
  (j:(s==1)=false) (h:(s==2)=false) (k:(s==3)=false) (n:(s==4)=false) (i:(s==5)=false) (o:(s==6)=false) :
  Calls prog 145 #[Za #[Zi Zk s,Zi Zk m,Zt x,Zs na l.length c,Zs b f d]] w fun e g=>e=Zr (Zb false)/\Bw w g:=by have a:=(Below.refl w.heap.size w).alloc (Nat.le_refl _) (Zc #[Zi Zk s,Zi Zk m,Zt x,Zs na l.length c,Zs b f d] 164);go_in;go_wp2;go_ret;exact⟨rfl,a⟩
theorem yq (s m:Int) (x:ByteArray) (l:List ByteArray) (c:Option Addr) (b d:Nat) (w:Zw) (na:Option Addr) (a:Nat) (o:x.size<=maxLen)
  (S:Nat->Prop) (q:fL S w l (Zs na l.length a)) (p:Bd S w) :
  Calls prog 145 #[Za #[Zi Zk s,Zi Zk m,Zt x,Zs na l.length a,Zs c b d]] w fun e n=>e=Zr (Zb (gS s m x l b))/\Bw w n:=by
 unfold gS;by_cases h:s=1;·subst h;rw[if_pos rfl];exact CQ m x l c b d w na a
 rw[if_neg h];by_cases f:s=2;·subst f;rw[if_pos rfl];exact C3 m x l c b d w na a o
 rw[if_neg f];by_cases i:s=3;·subst i;rw[if_pos rfl];exact Eg m x l c b d w na a
 rw[if_neg i];by_cases j:s=4;·subst j;rw[if_pos rfl];exact C0 m x l c b d w na a
 rw[if_neg j];by_cases g:s=5;·subst g;rw[if_pos rfl];exact Df m x l c b d w na a S q p
 rw[if_neg g];by_cases k:s=6;·subst k;rw[if_pos rfl];exact C8 m x l c b d w na a
 rw[if_neg k];exact ut s m x l c b d w na a (by simp[h]) (by simp[f]) (by simp[i]) (by simp[j]) (by simp[g]) (by simp[k])
end Go.Proofs.YtcfojmaccikgeaaGreatDoor
