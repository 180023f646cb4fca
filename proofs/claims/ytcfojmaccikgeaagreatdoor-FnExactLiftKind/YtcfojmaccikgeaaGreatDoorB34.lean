import Derived.Test.YtcfojmaccikgeaaGreatDoorB33
import Derived.Test.YtcfojmaccikgeaaGreatDoorB31
import Derived.Deep.Cut
import Derived.Deep.CutRange
import Derived.Test.YtcfojmaccikgeaaGreatDoorB13
open Go.Value renaming slice→Zs,int→Zi,string→Zt
open Go.IntKind renaming i64→Zk
open Go.Obj renaming cells→Zc
open Bool renaming and_eq_true→Zq
namespace Go.Proofs.YtcfojmaccikgeaaGreatDoor
open Go.RowKit Go.Proofs.Tryz
set_option maxRecDepth 100000
set_option maxHeartbeats 16000000
theorem ET (m:Nat) (hn:Fv m) (S:Nat->Prop) (n:Nd (T m)) (na B:Option Addr) (y E k:Nat) (d:Int) (w:World) (aa:k<44) (aO:5<=k) (ay:k≠24) (Z:Bd S w) (h3:fL S w n.names (Zs na n.names.length y)) (h4:ig S w (fZ S w m) n.kids (Zs B n.kids.length E))
  (hg:n.kids.all (fun x=>gD m x d)=true) (L:(k=37∨k=39)->0<=n.num/\n.num<=99)
  (hl:(km k).size+jc n.names+(if n.text.size=0 then 0 else n.text.size+1)+(if k=37∨k=39 then (Lib.itoa n.num).length+1 else 0)+b5 (fun x=>gx m x+1) n.kids<=800000) :
  Calls prog 72 #[.agg #[Zi Zk (k:Int),Zi Zk n.num,Zt n.text,Zs na n.names.length y,Zs B n.kids.length E]] w fun e w'=>Bw w w' /\ ∃s,e=.returned (Zt s)/\s.size=(km k).size+jc n.names+(if n.text.size=0 then 0 else n.text.size+1)+(if k=37∨k=39 then (Lib.itoa n.num).length+1 else 0)+b5 (fun x=>gx m x+1) n.kids:=by
 obtain⟨W,hW⟩:=iw (w.alloc (Zc #[Zi Zk (k:Int),Zi Zk n.num,Zt n.text,Zs na n.names.length y,Zs B n.kids.length E] 40));have G:Bw w W:=by rw[hW];exact gF _ _
 have aM:w.heap.size<W.heap.size:=by rw[hW];simp
 have K:W.heap[w.heap.size]?=some (Zc #[Zi Zk (k:Int),Zi Zk n.num,Zt n.text,Zs na n.names.length y,Zs B n.kids.length E] 40 (0,0)):=by rw[hW];exact heap_alloc_last _ _
 obtain⟨_,_,hv,aB,F,ag⟩:=h3.keep (a6 G Z) (fun _ h=>h);cases hv
 obtain⟨_,_,hv,ap,ac⟩:=h4.keepN (a6 G Z) (fun _ h=>h);cases hv
 have HG:Hid (∀k (h:k<n.kids.length),gD m n.kids[k] d=true):=fun k h=>List.all_eq_true.1 hg _ (List.getElem_mem h);have af:Hid (∀w,Calls prog 97 #[Zi Zk (k:Int)] w _):=fun w=>rt k aa w;have d1:((k:Int)==1)=false:=zE;have d2:((k:Int)==2)=false:=zE;have d3:((k:Int)==3)=false:=zE;have d4:((k:Int)==4)=false:=zE;have aF:((k:Int)==24)=false:=zE;obtain⟨A,hA⟩:=iw ((km k).size);obtain⟨I,U⟩:=iw ((if n.text.size=0 then 0 else n.text.size+1));obtain⟨C,hC⟩:=iw ((if k=37∨k=39 then (Lib.itoa n.num).length+1 else 0));rw[<- hA,<- U,<- hC]at hl ⊢;have HA:=a7 hA;have N:=a7 U;have ab:=a7 hC;have V:=a7 hl;have ax:=a7 G;have ai:=a7 L;have p:=a7 K;unfold maxLen at aB ap;clear hg hl h3 h4 G hA U hC L K ay;subst hW;go_in;go_wp2_with fail;refine (af.out _).mono ?_;rintro e w1 ⟨rfl,ao⟩;have aA:=a7 ao;have aC:Hid ((km k).size=A):=HA.out.symm;clear ao af;generalize km k=s0 at *;go_wp2;go_loopw [5,6] (fun a i wr=>∃(j:Nat)(s:ByteArray),j<=n.names.length/\i=Zi Zk j/\a=Zt s/\Hid (s.size=A+jc (n.names.take j))/\Below (w.heap.size+1) (w.alloc (Zc #[Zi Zk (k:Int),Zi Zk n.num,Zt n.text,Zs na n.names.length y,Zs B n.kids.length E] 40)) wr) (fun _ i _=>n.names.length-(intOf i).toNat);case atStart=>exact⟨0,s0,Nat.zero_le _,rfl,rfl,by show _=_;rw[aC.out];simp[jc],by have:=aA.out;simpa [Bw] using this⟩
 case round=>
  obtain⟨j,s,hj,rfl,rfl,z,c⟩:=hrel;obtain⟨z0,X,z2,z3,z4⟩:=gE ((c.block w.heap.size om).trans p.out);by_cases l:j<n.names.length
  ·obtain⟨b,off,rfl,ar,u⟩:=ag (by intro h;rw[h]at l;simp at l);have aN:=Z b ar;have e0:=kC c (u j l) om;have HN:Hid (jc (n.names.take (j+1))=jc (n.names.take j)+(n.names[j].size+1)):=pa _ _ l;have al:s.size+n.names[j].size+1<=900000:=by have h1:=rm n.names (j+1);have h3:=V.out;rw[HN.out]at h1;rw[z.out];omega
   have q:=a7 c;clear u c;generalize n.names[j]=nm at *;have g:Hid (((s++⟨#[32]⟩)++nm).size=A+jc (n.names.take (j+1))):=by show _=_;rw[HN.out,iW,iW,z.out];show _+1+_=_;omega
   go_wp2;go_roundw;case rel=>exact⟨j+1,_,om,by go_num,rfl,g,q.out⟩
   case measure=>simp[intOf];omega
  ·have t:j=n.names.length:=by omega
   have D:Hid (s.size=A+jc n.names):=by show _=_;have:=z.out;rw[t,List.take_length]at this;exact this
   have al:s.size<=800000:=by rw[D.out];have:=V.out;omega
   clear t ag F z;have q:=a7 c;clear c;have aH:s.size+I+C<=800000:=by rw[D.out];have:=V.out;omega
   have HT:Hid ((!n.text.toList.isEmpty)=true↔n.text.size≠0):=by show _↔_;rw[ByteArray.toList_eq];have h2:n.text.data.toList.length=n.text.size:=zS;rw[<- h2];cases n.text.data.toList<;>simp
   have aQ:n.text.size<=800000:=by have h:=N.out;split at h<;>omega
   go_upto_if 75 with fail;go_cut [5] from 58 to 80 (fun sv wx=>∃J:ByteArray,sv=Zt J/\J.size=A+jc n.names+I/\Below (w.heap.size+1) (w.alloc (Zc #[Zi Zk (k:Int),Zi Zk n.num,Zt n.text,Zs na n.names.length y,Zs B n.kids.length E] 40)) wx);case first=>
    have aj:((s++⟨#[32]⟩)++n.text).size=s.size+1+n.text.size:=by rw[iW,iW];rfl
    have g:=a7 aj;clear aj;go_wp2_with fail;·have h0:=HT.out.1 (by assumption);go_meet;exact⟨_,rfl,by rw[g.out,D.out,N.out,if_neg h0];omega,q.out⟩
    ·have hw:(!n.text.toList.isEmpty)=false:=by assumption
     have h0:n.text.size=0:=Decidable.of_not_not fun h=>by rw[HT.out.2 h]at hw;cases hw
     go_meet;exact⟨_,rfl,by rw[D.out,N.out,if_pos h0];rfl,q.out⟩
   case rest=>
    obtain⟨J,rfl,r,v⟩:=hcut;obtain⟨z0,X,z2,z3,z4⟩:=gE ((v.block w.heap.size om).trans p.out);have O:=v.size;simp at O;have g:=a7 r;have R:=a7 v;have aR:J.size+C<=800000:=by rw[r];have:=V.out;omega
    clear r v;go_upto_region 22 with fail;go_cut [88] from 58 to 87 (fun bv wx=>∃b,bv=.bool b/\Hid (b=true↔k=37∨k=39)/\Below (w.heap.size+1) (w.alloc (Zc #[Zi Zk (k:Int),Zi Zk n.num,Zt n.text,Zs na n.names.length y,Zs B n.kids.length E] 40)) wx);case first=>
     by_cases h7:k=37
     ·have d7:((k:Int)==37)=true:=by simp[h7]
      have Y:Hid (k=37∨k=39):=.inl h7;clear h7;go_wp2;go_meet;exact⟨_,rfl,(show _↔_ from ⟨fun _=>Y.out,fun _=>rfl⟩),R.out⟩
     ·have d7:((k:Int)==37)=false:=by simp;omega
      have Y:Hid (((k:Int)==39)=true↔k=37∨k=39):=by show _↔_;rw[beq_iff_eq];omega
      clear h7;go_wp2;go_meet;exact⟨_,rfl,Y,R.out⟩
    case rest=>
     obtain⟨b,rfl,HB,H⟩:=hcut;obtain⟨z0,X,z2,z3,z4⟩:=gE ((H.block w.heap.size om).trans p.out);have O:=H.size;simp at O;have ad:=a7 H;clear H R;go_upto_if 88 with fail;go_cut [5] from 58 to 94 (fun sv wx=>∃s3:ByteArray,sv=Zt s3/\s3.size=A+jc n.names+I+C/\Below (w.heap.size+1) (w.alloc (Zc #[Zi Zk (k:Int),Zi Zk n.num,Zt n.text,Zs na n.names.length y,Zs B n.kids.length E] 40)) wx);case first=>
      cases b
      rotate_left 1
      ·have M:=HB.out.1 rfl;have au:=ai.out M;obtain⟨x,hx⟩:∃x:Nat,n.num=(x:Int):=⟨n.num.toNat,om⟩;have Y:Hid (∀w,Calls prog 98 #[Zi Zk (x:Int)] w _):=fun w=>qu x x w (Nat.le_refl _) om;rw[hx]at X;have an:Hid ((bs (Lib.decDigits x)).size+1=C):=by show _=_;rw[go,ab.out,if_pos M];unfold Lib.itoa;rw[if_neg om,show n.num.toNat=x by omega]
       generalize bs (Lib.decDigits x)=sd at *;have aG:sd.size<=900000:=by have:=an.out;have:=V.out;omega
       clear au M hx;go_wp2_with fail;refine (Y.out _).mono ?_;rintro e w5 ⟨rfl,ak⟩;have aw:Hid (Below (w.heap.size+1) _ w5):=ad.out.trans (ak.mono O);have Q:Hid (((J++⟨#[32]⟩)++sd).size=A+jc n.names+I+C):=by show _=_;rw[iW,iW,g.out,<- an.out];show _+1+_=_;omega
       clear ak Y;go_wp2;go_meet;exact⟨_,rfl,Q.out,aw.out⟩
      ·have Q:Hid (J.size=A+jc n.names+I+C):=by show _=_;rw[g.out,ab.out,if_neg (fun h=>by cases HB.out.2 h)];rfl
       go_wp2;go_meet;exact⟨_,rfl,Q.out,ad.out⟩
     case rest=>
      obtain⟨s,rfl,F,am⟩:=hcut;have av:=a7 F;have az:=a7 am;clear F am z0 X z2 z3 z4;go_wp2;go_loopw [5,7] (fun a i wr=>∃(j:Nat)(s:ByteArray),j<=n.kids.length/\i=Zi Zk j/\a=Zt s/\Hid (s.size=A+jc n.names+I+C+b5 (fun x=>gx m x+1) (n.kids.take j))/\Below (w.heap.size+1) (w.alloc (Zc #[Zi Zk (k:Int),Zi Zk n.num,Zt n.text,Zs na n.names.length y,Zs B n.kids.length E] 40)) wr) (fun _ i _=>n.kids.length-(intOf i).toNat);case atStart=>exact⟨0,s,Nat.zero_le _,rfl,rfl,by show _=_;rw[av.out];simp[b5],az.out⟩
      case round=>
       obtain⟨j,s,hj,rfl,rfl,z,c⟩:=hrel;obtain⟨z0,X,z2,z3,z4⟩:=gE ((c.block w.heap.size om).trans p.out);have O:=c.size;simp at O;by_cases l:j<n.kids.length
       ·obtain⟨b2,aE,rfl,ah,o⟩:=ac (by intro h;have:=List.length_eq_zero_iff.2 h;omega);have aD:=Z b2 ah;obtain⟨d0,aK,aJ,aP,aI,k0,k1,k2,k3,k4,P⟩:=o j l;obtain⟨x0,x1,x2,xa,xl,xc,ya,yl,yc,rfl,rfl,rfl,rfl,rfl⟩:=P.shape;have f0:=kC c k0 om;have f1:=kC c k1 om;have f2:=kC c k2 om;have f3:=kC c k3 om;have f4:=kC c k4 om;have HN:Hid (b5 (fun x=>gx m x+1) (n.kids.take (j+1))=b5 (fun x=>gx m x+1) (n.kids.take j)+(gx m n.kids[j]+1)):=fY _ _ _ l;have al:s.size+gx m n.kids[j]+1<=800000:=by have h2:=pJ (fun x=>gx m x+1) n.kids (j+1);have h3:=V.out;rw[HN.out]at h2;rw[z.out];omega
        have HC:Hid (Calls prog 72 _ wr _):=hn S n.kids[j] _ _ _ _ _ d wr (P.keep (a6 c (fun b hb=>by have:=Z b hb;omega)) (fun _ h=>h)) (fun b hb=>by have:=Z b hb;omega) (HG.out j l) om;have q:=a7 c;have aL:(j:Int)<(n.kids.length:Int):=om;clear o P k0 k1 k2 k3 k4 c;generalize gx m n.kids[j]=lk at *;go_wp2_with fail;refine HC.out.mono ?_;rintro e w2 ⟨ae,J,rfl,r⟩;have aq:Hid (Below (w.heap.size+1) _ w2):=q.out.trans (ae.mono O);have g:Hid (((s++⟨#[32]⟩)++J).size=A+jc n.names+I+C+b5 (fun x=>gx m x+1) (n.kids.take (j+1))):=by show _=_;rw[HN.out,iW,iW,z.out,r];show _+1+_=_;omega
        clear ae HC f0 f1 f2 f3 f4 z0 X z2 z3 z4;go_wp2;go_roundw;case rel=>exact⟨j+1,_,om,by go_num,rfl,g,aq.out⟩
        case measure=>simp[intOf];omega
       ·have t:j=n.kids.length:=by omega
        have HE:Hid (s.size=A+jc n.names+I+C+b5 (fun x=>gx m x+1) n.kids):=by show _=_;have:=z.out;rw[t,List.take_length]at this;exact this
        have HB:=a7 (ax.out.trans (c.mono om));clear ac t c z;go_wp2;go_ret;exact⟨HB.out,_,rfl,HE.out⟩
theorem CB:∀m,Fv m:=by
 intro m;induction m with
 | zero=>intro S t c0 c1 c2 c3 c4 d w B;exact B.elim
 | succ m J=>
  intro S t c0 c1 c2 c3 c4 d w B C H p;obtain⟨rfl,rfl,rfl,I,l,j,q,v,⟨na,Q,y,rfl,M⟩,⟨z,P,u,rfl,O⟩⟩:=B;obtain⟨_,_,A,-⟩:=id q;cases A
  obtain⟨_,_,A,-⟩:=id v;cases A
  simp only[gD,Zq]at H;obtain⟨⟨-,a⟩,c⟩:=H;obtain⟨n,L⟩:∃n:Nd (T m),n=t:=⟨t,rfl⟩;have G:gx (m+1) t=jY (gx m) n:=by rw[L];rfl
  rw[G]at p ⊢;change iu (jT m) t=true at a;rw[<- L]at a c l j I q v ⊢;have K:1<=n.sort/\n.sort<=43:=by have h:=a;unfold iu at h;simp only[Zq,decide_eq_true_eq]at h;exact h.1
  obtain⟨k,f⟩:∃k:Nat,n.sort=(k:Int):=⟨n.sort.toNat,om⟩;obtain⟨i,g,r,o⟩:=sj (jT m) n k f a;have b:n.sort.toNat=k:=om;have R:Nd.sort n=(k:Int):=f;by_cases E:k<=3
  ·have e:jY (gx m) n=(ky n.sort n.num n.text).length:=by unfold jY;rw[if_pos om]
   rw[e];have:=A6 m n na z y u k f om E w l j I (g (by
    have:k=1∨k=2∨k=3:=om
    rcases this with rfl|rfl|rfl<;>decide))
   rw[f]at this ⊢;exact this
  by_cases D:k=4
  ·subst D;have e:jY (gx m) n=(n.names.headD ByteArray.empty).size:=by unfold jY;rw[if_neg om,if_pos om]
   rw[e,f];refine Ay S m n na z y u w C q ?_;rw[mx (jT m) n K.1 K.2 om,b,sp.1]at a;simp only[gy,Zq]at a;intro N;have:=a.1.2;rw[N]at this;exact absurd this zC
  by_cases s:k=24
  ·subst s;rw[lN (jT m) n om]at a;simp only[Zq]at a;have F:=gL _ a.2.2;have e:jY (gx m) n=8+jc n.names+b5 (fun x=>gx m x+1) n.kids:=by unfold jY;rw[if_neg om,if_neg om,b,if_pos F,if_neg om,if_pos om,show (km 24).size=4 by decide];omega
   rw[e]at p ⊢;rw[f];exact A9 m J S n na z y u (d+1) w C q v (o zC) c p
  ·have e:jY (gx m) n=(km k).size+jc n.names+(if n.text.size=0 then 0 else n.text.size+1)+(if k=37∨k=39 then (Lib.itoa n.num).length+1 else 0)+b5 (fun x=>gx m x+1) n.kids:=by
    unfold jY;rw[if_neg om,if_neg om,b,if_neg (show ¬n.sort=24 by omega)];have:(if n.sort=37∨n.sort=39 then (Lib.itoa n.num).length+1 else 0)=(if k=37∨k=39 then (Lib.itoa n.num).length+1 else 0):=by
     by_cases h:k=37∨k=39;·rw[if_pos h,if_pos om]
     ·rw[if_neg h,if_neg om]
    rw[this];rfl
   rw[e]at p ⊢;rw[f];refine ET m J S n na z y u k (d+1) w i om s C q v c (fun h=>r ?_) p;rcases h with rfl|rfl<;>decide
theorem E2:∀(m:Nat)(t:T m)(d:Int),gD m t d=true->1<=fJ m t:=by
 intro m t d h;cases m with
 | zero=>simp[gD]at h
 | succ m=>simp only[fJ];omega
theorem D3 (m:Nat) (S:Nat->Prop) (t:T m) (c0 c1 c2 c3 c4:Value) (a:Bool) (w:World) (k:fZ S w m t c0 c1 c2 c3 c4) (Q:Bd S w) (J:kr m t<=1048576) :
  Calls prog 29 #[.agg #[c0,c1,c2,c3,c4],.bool a] w fun e L=>e=.returned (.bool (CX m t a))/\Bw w L:=by
 obtain⟨y,q,u,E,r,F,B,x,D,rfl,rfl,rfl,rfl,rfl⟩:=k.shape;have A:=(Below.refl w.heap.size w).alloc (Nat.le_refl _) (Zc #[Zi Zk y,Zi Zk q,Zt u,Zs E r F,Zs B x D] 40);obtain⟨d,z⟩:=k.step Q A;have i:Hid (Calls prog 71 _ _ _):=xh m S t _ _ _ _ _ a 1 _ d z J om om;have g:Hid (∀ w1,Below (w.alloc (Zc #[Zi Zk y,Zi Zk q,Zt u,Zs E r F,Zs B x D] 40)).heap.size (w.alloc (Zc #[Zi Zk y,Zi Zk q,Zt u,Zs E r F,Zs B x D] 40)) w1->Bw w w1/\(w1.cell? ⟨w.heap.size,0,none⟩=some (Zi Zk y)/\w1.cell? ⟨w.heap.size,1,none⟩=some (Zi Zk q)/\w1.cell? ⟨w.heap.size,2,none⟩=some (Zt u)/\w1.cell? ⟨w.heap.size,3,none⟩=some (Zs E r F)/\w1.cell? ⟨w.heap.size,4,none⟩=some (Zs B x D)) /\
   (gD m t 1=true->fJ m t<=200->Calls prog 72 #[.agg #[Zi Zk y,Zi Zk q,Zt u,Zs E r F,Zs B x D]] w1 fun e L=>Bw w1 L/\∃s,e=.returned (Zt s)/\s.size=gx m t)):=by
  intro w1 b
  obtain⟨p,K⟩:=d.step z b
  refine⟨b4 A zS b,gE ((b.block w.heap.size zS).trans (heap_alloc_last w _)),fun l I=>?_⟩
  have X:=B5 m t 1 l
  exact CB m S t _ _ _ _ _ 1 w1 p K l om
 have G:Hid (il m t a 1=if (gD m t 1 && (a==decide (36<=pU m t)))=true/\fJ m t<=200 then (fJ m t:Int) else -1):=by show _=_;unfold il;rw[Fx]
 clear k d;generalize il m t a 1=v at *;by_cases j:(gD m t 1 && (a==decide (36<=pU m t)))=true/\fJ m t<=200
 ·have l:gD m t 1=true:=by have:=j.1;simp only[Zq]at this;exact this.1
  have W:=E2 m t 1 l;have P:(0:Int)<v:=by rw[G.out,if_pos j];omega
  have H:Hid (CX m t a=decide ((gx m t:Int)<=3000)):=by
   show _=_;unfold CX;rw[j.1,decide_eq_true j.2];by_cases N:gx m t<=3000;·rw[decide_eq_true N,decide_eq_true om];rfl
   ·rw[decide_eq_false N,decide_eq_false om];rfl
  have I:=j.2;clear j G W;go_in;go_wp2_with fail;refine i.out.mono ?_;rintro e w1 ⟨rfl,b⟩;obtain⟨c,⟨z0,V,z2,z3,z4⟩,o⟩:=g.out w1 b;have n:=a7 (o l I);have f:=a7 c;clear b c o i g l I;go_wp2_with fail;refine n.out.mono ?_;rintro e R ⟨C,s,rfl,O⟩;have M:Hid (CX m t a=decide ((s.size:Int)<=3000)/\Bw w R):=⟨by rw[H.out,O],f.out.trans (C.mono f.out.size)⟩;clear C O n H z0 V z2 z3 z4;go_wp2;go_ret;exact⟨b6 M.out.1.symm,M.out.2⟩
 ·have P:¬(0:Int)<v:=by rw[G.out,if_neg j];omega
  have H:Hid (CX m t a=false):=by
   show _=_;unfold CX;cases h1:(gD m t 1 && (a==decide (36<=pU m t))) with
   | false=>rfl
   | true=>have U:¬fJ m t<=200:=fun h=>j ⟨h1,h⟩;rw[decide_eq_false U];rfl
  clear j G;go_in;go_wp2_with fail;refine i.out.mono ?_;rintro e w1 ⟨rfl,b⟩;obtain⟨c,-,-⟩:=g.out w1 b;have f:=a7 c;clear b c i g;go_wp2;go_ret;exact⟨b6 H.out.symm,f.out⟩
end Go.Proofs.YtcfojmaccikgeaaGreatDoor
