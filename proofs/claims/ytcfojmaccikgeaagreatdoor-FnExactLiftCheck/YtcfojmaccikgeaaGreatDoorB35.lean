import Derived.Test.YtcfojmaccikgeaaGreatDoorB27
import Derived.Test.YtcfojmaccikgeaaGreatDoorB34
open Go.Value renaming slice→Zs,int→Zi,string→Zt,agg→Za
open Go.IntKind renaming i64→Zk
open Go.Ending renaming returned→Zr
open Go.Obj renaming cells→Zc
open Option renaming none→Zn,some→Zo
open Bool renaming and_eq_true→Zq
namespace Go.Proofs.YtcfojmaccikgeaaGreatDoor
open Go.RowKit Go.Proofs.Tryz
set_option maxRecDepth 100000
set_option maxHeartbeats 16000000
theorem GN (m:Nat) (hn:E2 m) (S:ZP) (n:Nd (T m)) (na ka:ZO) (E kc k:Nat) (d:Int) (w:World) (al:k<44) (aN:5<=k) (aw:k≠24) (U:Bd S w) (h3:fL S w n.names (Zs na n.names.length E)) (h4:ik S w (fT S w m) n.kids (Zs ka n.kids.length kc))
  (hg:n.kids.all (fun x=>gp m x d)=true) (H:(k=37∨k=39)->0<=n.num/\n.num<=99)
  (hl:(ld k).size+jk n.names+(if n.text.size=0 then 0 else n.text.size+1)+(if k=37∨k=39 then (Lib.itoa n.num).length+1 else 0)+b4 (fun x=>gw m x+1) n.kids<=800000) :
  Calls prog 72 #[Za #[Zi Zk (k:Int),Zi Zk n.num,Zt n.text,Zs na n.names.length E,Zs ka n.kids.length kc]] w fun e w'=>Bw w w' /\ ∃s,e=Zr (Zt s)/\s.size=(ld k).size+jk n.names+(if n.text.size=0 then 0 else n.text.size+1)+(if k=37∨k=39 then (Lib.itoa n.num).length+1 else 0)+b4 (fun x=>gw m x+1) n.kids:=by
 obtain⟨W,hW⟩:=ii (w.alloc (Zc #[Zi Zk (k:Int),Zi Zk n.num,Zt n.text,Zs na n.names.length E,Zs ka n.kids.length kc] 40));have y:Bw w W:=by rw[hW];exact gx _ _
 have aP:w.heap.size<W.heap.size:=by rw[hW];simp
 have G:W.heap[w.heap.size]?=Zo (Zc #[Zi Zk (k:Int),Zi Zk n.num,Zt n.text,Zs na n.names.length E,Zs ka n.kids.length kc] 40 (0,0)):=by rw[hW];exact heap_alloc_last _ _
 obtain⟨_,_,hv,ay,z,aj⟩:=h3.keep (a6 y U) (fun _ h=>h);cases hv
 obtain⟨_,_,hv,az,ak⟩:=h4.keepN (a6 y U) (fun _ h=>h);cases hv
 have HG:Hid (∀k (h:k<n.kids.length),gp m n.kids[k] d=true):=fun k h=>List.all_eq_true.1 hg _ (List.getElem_mem h);have ac:Hid (∀w,Calls prog 97 #[Zi Zk (k:Int)] w _):=fun w=>rt k al w;have d1:((k:Int)==1)=false:=zE;have d2:((k:Int)==2)=false:=zE;have d3:((k:Int)==3)=false:=zE;have d4:((k:Int)==4)=false:=zE;have aF:((k:Int)==24)=false:=zE;obtain⟨A,hA⟩:=ii ((ld k).size);obtain⟨F,M⟩:=ii ((if n.text.size=0 then 0 else n.text.size+1));obtain⟨C,hC⟩:=ii ((if k=37∨k=39 then (Lib.itoa n.num).length+1 else 0));rw[<- hA,<- M,<- hC]at hl ⊢;have HA:=a7 hA;have J:=a7 M;have X:=a7 hC;have R:=a7 hl;have ao:=a7 y;have aa:=a7 H;have l:=a7 G;unfold maxLen at ay az;clear hg hl h3 h4 y hA M hC H G aw;subst hW;go_in;go_wp2_with fail;refine (ac.out _).mono ?_;rintro e w1 ⟨rfl,af⟩;have ar:=a7 af;have ap:Hid ((ld k).size=A):=HA.out.symm;clear af ac;generalize ld k=s0 at *;go_wp2;go_loopw [5,6] (fun a i wr=>∃(j:Nat)(s:ZN),j<=n.names.length/\i=Zi Zk j/\a=Zt s/\Hid (s.size=A+jk (n.names.take j))/\Below (w.heap.size+1) (w.alloc (Zc #[Zi Zk (k:Int),Zi Zk n.num,Zt n.text,Zs na n.names.length E,Zs ka n.kids.length kc] 40)) wr) (fun _ i _=>n.names.length-(intOf i).toNat);case atStart=>exact⟨0,s0,Nat.zero_le _,rfl,rfl,by show _=_;rw[ap.out];simp[jk],by have:=ar.out;simpa [Bw] using this⟩
 case round=>
  obtain⟨j,s,hj,rfl,rfl,u,c⟩:=hrel;obtain⟨z0,V,z2,z3,z4⟩:=fZ ((c.block w.heap.size om).trans l.out);by_cases g:j<n.names.length
  ·obtain⟨b,off,rfl,ax,q⟩:=aj (by intro h;rw[h]at g;simp at g);have aL:=U b ax;have e0:=kC c (q j g) om;have Z:Hid (jk (n.names.take (j+1))=jk (n.names.take j)+(n.names[j].size+1)):=ph _ _ g;have ai:s.size+n.names[j].size+1<=900000:=by have h1:=rI n.names (j+1);have h3:=R.out;rw[Z.out]at h1;rw[u.out];omega
   have p:=a7 c;clear q c;generalize n.names[j]=nm at *;have f:Hid (((s++⟨#[32]⟩)++nm).size=A+jk (n.names.take (j+1))):=by show _=_;rw[Z.out,iW,iW,u.out];show _+1+_=_;omega
   go_wp2;go_roundw;case rel=>exact⟨j+1,_,om,by go_num,rfl,f,p.out⟩
   case measure=>simp[intOf];omega
  ·have r:j=n.names.length:=by omega
   have v:Hid (s.size=A+jk n.names):=by show _=_;have:=u.out;rw[r,List.take_length]at this;exact this
   have ai:s.size<=800000:=by rw[v.out];have:=R.out;omega
   clear r aj z u;have p:=a7 c;clear c;have aK:s.size+F+C<=800000:=by rw[v.out];have:=R.out;omega
   have HT:Hid ((!n.text.toList.isEmpty)=true↔n.text.size≠0):=by show _↔_;rw[ByteArray.toList_eq];have h2:n.text.data.toList.length=n.text.size:=zS;rw[<- h2];cases n.text.data.toList<;>simp
   have aJ:n.text.size<=800000:=by have h:=J.out;split at h<;>omega
   go_upto_if 75 with fail;go_cut [5] from 58 to 80 (fun sv wx=>∃I:ZN,sv=Zt I/\I.size=A+jk n.names+F/\Below (w.heap.size+1) (w.alloc (Zc #[Zi Zk (k:Int),Zi Zk n.num,Zt n.text,Zs na n.names.length E,Zs ka n.kids.length kc] 40)) wx);case first=>
    have ad:((s++⟨#[32]⟩)++n.text).size=s.size+1+n.text.size:=by rw[iW,iW];rfl
    have f:=a7 ad;clear ad;go_wp2_with fail;·have h0:=HT.out.1 (by assumption);go_meet;exact⟨_,rfl,by rw[f.out,v.out,J.out,if_neg h0];omega,p.out⟩
    ·have hw:(!n.text.toList.isEmpty)=false:=by assumption
     have h0:n.text.size=0:=Decidable.of_not_not fun h=>by rw[HT.out.2 h]at hw;cases hw
     go_meet;exact⟨_,rfl,by rw[v.out,J.out,if_pos h0];rfl,p.out⟩
   case rest=>
    obtain⟨I,rfl,t,B⟩:=hcut;obtain⟨z0,V,z2,z3,z4⟩:=fZ ((B.block w.heap.size om).trans l.out);have P:=B.size;simp at P;have f:=a7 t;have L:=a7 B;have aI:I.size+C<=800000:=by rw[t];have:=R.out;omega
    clear t B;go_upto_region 22 with fail;go_cut [88] from 58 to 87 (fun bv wx=>∃b,bv=.bool b/\Hid (b=true↔k=37∨k=39)/\Below (w.heap.size+1) (w.alloc (Zc #[Zi Zk (k:Int),Zi Zk n.num,Zt n.text,Zs na n.names.length E,Zs ka n.kids.length kc] 40)) wx);case first=>
     by_cases h7:k=37
     ·have d7:((k:Int)==37)=true:=by simp[h7]
      have Q:Hid (k=37∨k=39):=.inl h7;clear h7;go_wp2;go_meet;exact⟨_,rfl,(show _↔_ from ⟨fun _=>Q.out,fun _=>rfl⟩),L.out⟩
     ·have d7:((k:Int)==37)=false:=by simp;omega
      have Q:Hid (((k:Int)==39)=true↔k=37∨k=39):=by show _↔_;rw[beq_iff_eq];omega
      clear h7;go_wp2;go_meet;exact⟨_,rfl,Q,L.out⟩
    case rest=>
     obtain⟨b,rfl,HB,D⟩:=hcut;obtain⟨z0,V,z2,z3,z4⟩:=fZ ((D.block w.heap.size om).trans l.out);have P:=D.size;simp at P;have ab:=a7 D;clear D L;go_upto_if 88 with fail;go_cut [5] from 58 to 94 (fun sv wx=>∃s3:ZN,sv=Zt s3/\s3.size=A+jk n.names+F+C/\Below (w.heap.size+1) (w.alloc (Zc #[Zi Zk (k:Int),Zi Zk n.num,Zt n.text,Zs na n.names.length E,Zs ka n.kids.length kc] 40)) wx);case first=>
      cases b
      rotate_left 1
      ·have O:=HB.out.1 rfl;have aA:=aa.out O;obtain⟨x,hx⟩:∃x:Nat,n.num=(x:Int):=⟨n.num.toNat,om⟩;have Q:Hid (∀w,Calls prog 98 #[Zi Zk (x:Int)] w _):=fun w=>qM x x w (Nat.le_refl _) om;rw[hx]at V;have Y:Hid ((bs (Lib.decDigits x)).size+1=C):=by show _=_;rw[gq,X.out,if_pos O];unfold Lib.itoa;rw[if_neg om,show n.num.toNat=x by omega]
       generalize bs (Lib.decDigits x)=sd at *;have aO:sd.size<=900000:=by have:=Y.out;have:=R.out;omega
       clear aA O hx;go_wp2_with fail;refine (Q.out _).mono ?_;rintro e w5 ⟨rfl,ah⟩;have av:Hid (Below (w.heap.size+1) _ w5):=ab.out.trans (ah.mono P);have K:Hid (((I++⟨#[32]⟩)++sd).size=A+jk n.names+F+C):=by show _=_;rw[iW,iW,f.out,<- Y.out];show _+1+_=_;omega
       clear ah Q;go_wp2;go_meet;exact⟨_,rfl,K.out,av.out⟩
      ·have K:Hid (I.size=A+jk n.names+F+C):=by show _=_;rw[f.out,X.out,if_neg (fun h=>by cases HB.out.2 h)];rfl
       go_wp2;go_meet;exact⟨_,rfl,K.out,ab.out⟩
     case rest=>
      obtain⟨s,rfl,z,am⟩:=hcut;have aq:=a7 z;have au:=a7 am;clear z am z0 V z2 z3 z4;go_wp2;go_loopw [5,7] (fun a i wr=>∃(j:Nat)(s:ZN),j<=n.kids.length/\i=Zi Zk j/\a=Zt s/\Hid (s.size=A+jk n.names+F+C+b4 (fun x=>gw m x+1) (n.kids.take j))/\Below (w.heap.size+1) (w.alloc (Zc #[Zi Zk (k:Int),Zi Zk n.num,Zt n.text,Zs na n.names.length E,Zs ka n.kids.length kc] 40)) wr) (fun _ i _=>n.kids.length-(intOf i).toNat);case atStart=>exact⟨0,s,Nat.zero_le _,rfl,rfl,by show _=_;rw[aq.out];simp[b4],au.out⟩
      case round=>
       obtain⟨j,s,hj,rfl,rfl,u,c⟩:=hrel;obtain⟨z0,V,z2,z3,z4⟩:=fZ ((c.block w.heap.size om).trans l.out);have P:=c.size;simp at P;by_cases g:j<n.kids.length
       ·obtain⟨b2,aC,rfl,ae,o⟩:=ak (by intro h;have:=List.length_eq_zero_iff.2 h;omega);have aB:=U b2 ae;obtain⟨d0,aD,aE,aG,aH,k0,k1,k2,k3,k4,N⟩:=o j g;obtain⟨x0,x1,x2,xa,xl,xc,ya,yl,yc,rfl,rfl,rfl,rfl,rfl⟩:=N.shape;have f0:=kC c k0 om;have f1:=kC c k1 om;have f2:=kC c k2 om;have f3:=kC c k3 om;have f4:=kC c k4 om;have Z:Hid (b4 (fun x=>gw m x+1) (n.kids.take (j+1))=b4 (fun x=>gw m x+1) (n.kids.take j)+(gw m n.kids[j]+1)):=fQ _ _ _ g;have ai:s.size+gw m n.kids[j]+1<=800000:=by have h2:=qj (fun x=>gw m x+1) n.kids (j+1);have h3:=R.out;rw[Z.out]at h2;rw[u.out];omega
        have HC:Hid (Calls prog 72 _ wr _):=hn S n.kids[j] _ _ _ _ _ d wr (N.keep (a6 c (fun b hb=>by have:=U b hb;omega)) (fun _ h=>h)) (fun b hb=>by have:=U b hb;omega) (HG.out j g) om;have p:=a7 c;have aM:(j:Int)<(n.kids.length:Int):=om;clear o N k0 k1 k2 k3 k4 c;generalize gw m n.kids[j]=lk at *;go_wp2_with fail;refine HC.out.mono ?_;rintro e w2 ⟨ag,I,rfl,t⟩;have an:Hid (Below (w.heap.size+1) _ w2):=p.out.trans (ag.mono P);have f:Hid (((s++⟨#[32]⟩)++I).size=A+jk n.names+F+C+b4 (fun x=>gw m x+1) (n.kids.take (j+1))):=by show _=_;rw[Z.out,iW,iW,u.out,t];show _+1+_=_;omega
        clear ag HC f0 f1 f2 f3 f4 z0 V z2 z3 z4;go_wp2;go_roundw;case rel=>exact⟨j+1,_,om,by go_num,rfl,f,an.out⟩
        case measure=>simp[intOf];omega
       ·have r:j=n.kids.length:=by omega
        have HE:Hid (s.size=A+jk n.names+F+C+b4 (fun x=>gw m x+1) n.kids):=by show _=_;have:=u.out;rw[r,List.take_length]at this;exact this
        have HB:=a7 (ao.out.trans (c.mono om));clear ak r c u;go_wp2;go_ret;exact⟨HB.out,_,rfl,HE.out⟩
theorem Ec:∀m,E2 m:=by
 intro m;induction m with
 | zero=>intro S t c0 c1 c2 c3 c4 d w E;exact E.elim
 | succ m L=>
  intro S t c0 c1 c2 c3 c4 d w E C H q;obtain⟨rfl,rfl,rfl,K,r,s,i,u,⟨na,R,z,rfl,N⟩,⟨v,Q,y,rfl,O⟩⟩:=E;obtain⟨_,_,F,-⟩:=id i;cases F
  obtain⟨_,_,F,-⟩:=id u;cases F
  simp only[gp,Zq]at H;obtain⟨⟨-,a⟩,b⟩:=H;obtain⟨n,I⟩:∃n:Nd (T m),n=t:=⟨t,rfl⟩;have D:gw (m+1) t=kD (gw m) n:=by rw[I];rfl
  rw[D]at q ⊢;change gZ (jM m) t=true at a;rw[<- I]at a b r s K i u ⊢;have J:1<=n.sort/\n.sort<=43:=by have h:=a;unfold gZ at h;simp only[Zq,decide_eq_true_eq]at h;exact h.1
  obtain⟨k,c⟩:∃k:Nat,n.sort=(k:Int):=⟨n.sort.toNat,om⟩;obtain⟨p,o,l,j⟩:=tu (jM m) n k c a;have f:n.sort.toNat=k:=om;have P:Nd.sort n=(k:Int):=c;by_cases A:k<=3
  ·have e:kD (gw m) n=(kL n.sort n.num n.text).length:=by unfold kD;rw[if_pos om]
   rw[e];have:=Bs m n na v z y k c om A w r s K (o (by
    have:k=1∨k=2∨k=3:=om
    rcases this with rfl|rfl|rfl<;>decide))
   rw[c]at this ⊢;exact this
  by_cases B:k=4
  ·subst B;have e:kD (gw m) n=(n.names.headD ByteArray.empty).size:=by unfold kD;rw[if_neg om,if_pos om]
   rw[e,c];refine Bt S m n na v z y w C i ?_;rw[la (jM m) n J.1 J.2 om,f,tJ.1]at a;simp only[gr,Zq]at a;intro M;have:=a.1.2;rw[M]at this;exact absurd this zC
  by_cases g:k=24
  ·subst g;rw[lP (jM m) n om]at a;simp only[Zq]at a;have G:=gH _ a.2.2;have e:kD (gw m) n=8+jk n.names+b4 (fun x=>gw m x+1) n.kids:=by unfold kD;rw[if_neg om,if_neg om,f,if_pos G,if_neg om,if_pos om,show (ld 24).size=4 by decide];omega
   rw[e]at q ⊢;rw[c];exact Br m L S n na v z y (d+1) w C i u (j zC) b q
  ·have e:kD (gw m) n=(ld k).size+jk n.names+(if n.text.size=0 then 0 else n.text.size+1)+(if k=37∨k=39 then (Lib.itoa n.num).length+1 else 0)+b4 (fun x=>gw m x+1) n.kids:=by
    unfold kD;rw[if_neg om,if_neg om,f,if_neg (show ¬n.sort=24 by omega)];have:(if n.sort=37∨n.sort=39 then (Lib.itoa n.num).length+1 else 0)=(if k=37∨k=39 then (Lib.itoa n.num).length+1 else 0):=by
     by_cases h:k=37∨k=39;·rw[if_pos h,if_pos om]
     ·rw[if_neg h,if_neg om]
    rw[this];rfl
   rw[e]at q ⊢;rw[c];refine GN m L S n na v z y k (d+1) w p om g C i u b (fun h=>l ?_) q;rcases h with rfl|rfl<;>decide
theorem Fp:∀(m:Nat)(t:T m)(d:Int),gp m t d=true->1<=d9 m t:=by
 intro m t d h;cases m with
 | zero=>simp[gp]at h
 | succ m=>simp only[d9];omega
theorem Dv (m:Nat) (S:ZP) (t:T m) (c0 c1 c2 c3 c4:Value) (a:Bool) (w:World) (k:fT S w m t c0 c1 c2 c3 c4) (Q:Bd S w) (K:jR m t<=1048576) :
  Calls prog 29 #[Za #[c0,c1,c2,c3,c4],.bool a] w fun e L=>e=Zr (.bool (IE m t a))/\Bw w L:=by
 obtain⟨x,y,z,A,C,B,D,F,E,rfl,rfl,rfl,rfl,rfl⟩:=k.shape;have p:=(Below.refl w.heap.size w).alloc (Nat.le_refl _) (Zc #[Zi Zk x,Zi Zk y,Zt z,Zs A C B,Zs D F E] 40);obtain⟨d,o⟩:=k.step Q p;have g:Hid (Calls prog 71 _ _ _):=wQ m S t _ _ _ _ _ a 1 _ d o K om om;have i:Hid (∀ w1,Below (w.alloc (Zc #[Zi Zk x,Zi Zk y,Zt z,Zs A C B,Zs D F E] 40)).heap.size (w.alloc (Zc #[Zi Zk x,Zi Zk y,Zt z,Zs A C B,Zs D F E] 40)) w1->Bw w w1/\(w1.cell? ⟨w.heap.size,0,Zn⟩=Zo (Zi Zk x)/\w1.cell? ⟨w.heap.size,1,Zn⟩=Zo (Zi Zk y)/\w1.cell? ⟨w.heap.size,2,Zn⟩=Zo (Zt z)/\w1.cell? ⟨w.heap.size,3,Zn⟩=Zo (Zs A C B)/\w1.cell? ⟨w.heap.size,4,Zn⟩=Zo (Zs D F E)) /\
   (gp m t 1=true->d9 m t<=200->Calls prog 72 #[Za #[Zi Zk x,Zi Zk y,Zt z,Zs A C B,Zs D F E]] w1 fun e L=>Bw w1 L/\∃s,e=Zr (Zt s)/\s.size=gw m t)):=by
  intro w1 b
  obtain⟨u,I⟩:=d.step o b
  refine⟨b5 p zS b,fZ ((b.block w.heap.size zS).trans (heap_alloc_last w _)),fun l J=>?_⟩
  have X:=B5 m t 1 l
  exact Ec m S t _ _ _ _ _ 1 w1 u I l om
 have H:Hid (ip m t a 1=if (gp m t 1 && (a==decide (36<=nj m t)))=true/\d9 m t<=200 then (d9 m t:Int) else -1):=by show _=_;unfold ip;rw[FN]
 clear k d;generalize ip m t a 1=v at *;by_cases j:(gp m t 1 && (a==decide (36<=nj m t)))=true/\d9 m t<=200
 ·have l:gp m t 1=true:=by have:=j.1;simp only[Zq]at this;exact this.1
  have R:=Fp m t 1 l;have U:(0:Int)<v:=by rw[H.out,if_pos j];omega
  have G:Hid (IE m t a=decide ((gw m t:Int)<=3000)):=by
   show _=_;unfold IE;rw[j.1,decide_eq_true j.2];by_cases N:gw m t<=3000;·rw[decide_eq_true N,decide_eq_true om];rfl
   ·rw[decide_eq_false N,decide_eq_false om];rfl
  have J:=j.2;clear j H R;go_in;go_wp2_with fail;refine g.out.mono ?_;rintro e w1 ⟨rfl,b⟩;obtain⟨c,⟨z0,W,z2,z3,z4⟩,r⟩:=i.out w1 b;have n:=a7 (r l J);have f:=a7 c;clear b c r g i l J;go_wp2_with fail;refine n.out.mono ?_;rintro e V ⟨q,s,rfl,O⟩;have M:Hid (IE m t a=decide ((s.size:Int)<=3000)/\Bw w V):=⟨by rw[G.out,O],f.out.trans (q.mono f.out.size)⟩;clear q O n G z0 W z2 z3 z4;go_wp2;go_ret;exact⟨b6 M.out.1.symm,M.out.2⟩
 ·have U:¬(0:Int)<v:=by rw[H.out,if_neg j];omega
  have G:Hid (IE m t a=false):=by
   show _=_;unfold IE;cases h1:(gp m t 1 && (a==decide (36<=nj m t))) with
   | false=>rfl
   | true=>have P:¬d9 m t<=200:=fun h=>j ⟨h1,h⟩;rw[decide_eq_false P];rfl
  clear j H;go_in;go_wp2_with fail;refine g.out.mono ?_;rintro e w1 ⟨rfl,b⟩;obtain⟨c,-,-⟩:=i.out w1 b;have f:=a7 c;clear b c g i;go_wp2;go_ret;exact⟨b6 G.out.symm,f.out⟩
theorem Ht(m:Nat)(t:T m):IE m t true=Gh m t:=by
 unfold IE Gh EJ;cases hg:gp m t 1 with
 | false=>simp
 | true=>
  have b:1<=nj m t/\nj m t<=43:=by
   cases m with
   | zero=>simp[gp]at hg
   | succ m=>simp only[gp,Zq]at hg;have:=hg.1.2;unfold gZ at this;simp only[Zq,decide_eq_true_eq]at this;exact this.1
  have a:jM m t=if 36<=nj m t then 65 else 86:=Gp _ b
  rw[a];by_cases h:36<=nj m t;·simp[h]
  ·simp[h]
theorem zt (m:Nat) (S:ZP) (t:T m) (c0 c1 c2 c3 c4:Value) (w:World) (b:fT S w m t c0 c1 c2 c3 c4) (j:Bd S w) (h:jR m t<=1048576) :
  Calls prog 56 #[Za #[c0,c1,c2,c3,c4]] w fun e k=>e=Zr (.bool (Gh m t))/\Bw w k:=by obtain⟨l,n,o,p,r,q,s,v,u,rfl,rfl,rfl,rfl,rfl⟩:=b.shape;have c:=(Below.refl w.heap.size w).alloc (Nat.le_refl _) (Zc #[Zi Zk l,Zi Zk n,Zt o,Zs p r q,Zs s v u] 40);obtain⟨a,g⟩:=b.step j c;have f:Hid (Calls prog 29 _ _ _):=Dv m S t _ _ _ _ _ true _ a g h;rw[Ht]at f;clear b a;go_in;go_wp2_with fail;refine f.out.mono ?_;rintro e w1 ⟨rfl,d⟩;have i:=a7 (b5 c zS d);clear d f;go_wp2;go_ret;exact⟨rfl,i.out⟩
theorem wV(s:Int)(i:Nat)(w:World):Calls prog 92 #[Zi Zk s,Zi Zk (i:Int)] w fun e k=>e=Zr (Zi Zk (iQ s i))/\k=w:=by
 by_cases h:s=33∨s=34∨s=43
 ·have j:(s==35)=false:=by simp;omega
  by_cases hi:i=1
  ·subst hi;have a:Hid (iQ s 1=20):=by show _=_;unfold iQ;rw[if_pos (.inl ⟨h,rfl⟩)]
   rcases h with rfl|rfl|rfl;all_goals
    go_enter func92,ntmps92
    go_wp2
    go_ret
    exact⟨fJ a.out.symm,rfl⟩
  ·have b:((i:Int)==1)=false:=by simp;omega
   have a:Hid (iQ s i=1):=by show _=_;unfold iQ;rw[if_neg (by omega)]
   clear hi;rcases h with rfl|rfl|rfl;all_goals
    go_enter func92,ntmps92
    go_wp2_with fail
    go_ret
    exact⟨fJ a.out.symm,rfl⟩
 ·have c:(s==33)=false:=by simp;omega
  have d:(s==34)=false:=by simp;omega
  have f:(s==43)=false:=by simp;omega
  by_cases g:s=35
  ·subst g;by_cases hi:i=2;·subst hi;have a:Hid (iQ 35 2=20):=rfl;clear h c d f;go_enter func92,ntmps92;go_wp2;go_ret;exact⟨fJ a.out.symm,rfl⟩
   ·have b:((i:Int)==2)=false:=by simp;omega
    have a:Hid (iQ 35 i=1):=by show _=_;unfold iQ;rw[if_neg (by omega)]
    clear hi h c d f;go_enter func92,ntmps92;go_wp2_with fail;go_ret;exact⟨fJ a.out.symm,rfl⟩
  ·have l:(s==35)=false:=by simp;omega
   have a:Hid (iQ s i=1):=by show _=_;unfold iQ;rw[if_neg (by omega)]
   clear h g;go_enter func92,ntmps92;go_wp2_with fail;go_ret;exact⟨fJ a.out.symm,rfl⟩
def EP(m:Nat):Prop:=∀(S:ZP)(t:T m)(c0 c1 c2 c3 c4:Value)(w:World),fT S w m t c0 c1 c2 c3 c4->(∀b,S b->b<w.heap.size)->jR m t<=1048576 ->
 Calls prog 60 #[Za #[c0,c1,c2,c3,c4]] w fun e a=>e=Zr (Zi Zk (gN m t))/\Below w.heap.size w a
theorem Dq(m:Nat)(t:T (m+1))(h:jR (m+1) t<=1048576):(Nd.kids t).length<=1048576:=by
 have:∀l:List (T m),l.length<=b4 (fun k=>jR m k+1) l:=by
  intro l;induction l with
  | nil=>simp
  | cons a r b=>simp only[b4,List.length_cons];omega
 have:=this (Nd.kids t);simp only[jR]at h;omega
theorem wS(m:Nat)(hn:EP m):EP (m+1):=by
 intro S t c0 c1 c2 c3 c4 w ht F q;obtain⟨rfl,rfl,rfl,hs,ag,aa,h3,R,⟨na,nl,nc,rfl,V⟩,⟨M,kl,B,rfl,X⟩⟩:=ht;obtain⟨_,_,hv,-⟩:=id h3;cases hv
 obtain⟨_,_,hv,H,-⟩:=id R;cases hv
 have ab:=Dq m t q;have Q:Hid (∀k (h:k<(Nd.kids t).length),jR m (Nd.kids t)[k]<=1048576):=fun k h=>by have:=gK (fun k=>jR m k+1) (Nd.kids t) _ (List.getElem_mem h);simp only[jR]at q;omega
 clear q H;have s:=(Below.refl w.heap.size w).alloc (Nat.le_refl _) (Zc #[Zi Zk (Nd.sort t),Zi Zk (Nd.num t),Zt (Nd.text t),Zs na (Nd.names t).length nc,Zs M (Nd.kids t).length B] 40);have hK:=R.keepN (a6 s F) (fun _ h=>h);obtain⟨W,L⟩:∃W,W=w.alloc (Zc #[Zi Zk (Nd.sort t),Zi Zk (Nd.num t),Zt (Nd.text t),Zs na (Nd.names t).length nc,Zs M (Nd.kids t).length B] 40):=⟨_,rfl⟩;have v:=heap_alloc_last w (Zc #[Zi Zk (Nd.sort t),Zi Zk (Nd.num t),Zt (Nd.text t),Zs na (Nd.names t).length nc,Zs M (Nd.kids t).length B] 40);have J:w.heap.size<W.heap.size:=by rw[L];simp
 obtain⟨z0,z1,z2,z3,z4⟩:=fZ v;rw[<- L]at s hK z0 z4;have r:=a7 s;have E:Hid (∀j,gQ (gN m) (Nd.sort t) (Nd.kids t) j<=1+800020*(j:Int)/\1<=gQ (gN m) (Nd.sort t) (Nd.kids t) j):=fun j=>by have:=oN (gN m) (Nd.sort t) (Nd.kids t) (fun x _=>⟨by have:=lq m x;omega,(lq m x).2⟩) j;exact⟨this.2.1,this.1⟩
 clear h3 R s v z1 z2 z3 V X hs aa;go_enter func60,ntmps60;go_wp2_with fail;rw[<- L];clear L;obtain⟨_,_,Z,-,l⟩:=hK;cases Z
 go_loopw [3,4] (fun a i wr=>∃j:Nat,j<=(Nd.kids t).length/\i=Zi Zk j/\a=Zi Zk (gQ (gN m) (Nd.sort t) (Nd.kids t) j)/\gQ (gN m) (Nd.sort t) (Nd.kids t) j<=40000/\Below W.heap.size W wr) (fun _ i _=>(Nd.kids t).length-(intOf i).toNat);case atStart=>exact⟨0,Nat.zero_le _,rfl,rfl,by show (1:Int)<=_;omega,Below.refl _ _⟩
 case round=>
  obtain⟨j,hj,rfl,rfl,ac,c⟩:=hrel;have ae:=c.size;have af:=E.out j;have q0:wr.cell? ⟨w.heap.size,0,Zn⟩=Zo (Zi Zk (Nd.sort t)):=(c.cell (p:=⟨w.heap.size,0,Zn⟩) J).trans z0;have q4:wr.cell? ⟨w.heap.size,4,Zn⟩=Zo (Zs M (Nd.kids t).length B):=(c.cell (p:=⟨w.heap.size,4,Zn⟩) J).trans z4;by_cases o:j<(Nd.kids t).length
  ·obtain⟨b,off,rfl,U,n⟩:=l (by intro h;rw[h]at o;simp at o);obtain⟨x0,x1,x2,x3,x4,e0,e1,e2,e3,e4,A⟩:=n j o;obtain⟨y0,y1,y2,ya,yl,yc,za,zl,zc,rfl,rfl,rfl,rfl,rfl⟩:=A.shape;have ad:=F b U;have f0:=(c.cell (p:=⟨b,off+j*5,Zn⟩) (by show b<_;omega)).trans e0;have f1:=(c.cell (p:=⟨b,off+j*5+1,Zn⟩) (by show b<_;omega)).trans e1;have f2:=(c.cell (p:=⟨b,off+j*5+2,Zn⟩) (by show b<_;omega)).trans e2;have f3:=(c.cell (p:=⟨b,off+j*5+3,Zn⟩) (by show b<_;omega)).trans e3;have f4:=(c.cell (p:=⟨b,off+j*5+4,Zn⟩) (by show b<_;omega)).trans e4;have qq:=A.keep (a6 c (fun b y=>by have:=F b y;omega)) (fun _ h=>h);have C:Hid (Calls prog 60 #[Za #[Zi Zk y0,Zi Zk y1,Zt y2,Zs ya yl yc,Zs za zl zc]] wr.drew fun e d=>e=Zr (Zi Zk (gN m (Nd.kids t)[j]))/\Below W.heap.size W d/\(d.cell? ⟨w.heap.size,0,Zn⟩=Zo (Zi Zk (Nd.sort t))/\d.cell? ⟨w.heap.size,4,Zn⟩=Zo (Zs (Zo ⟨b,off,Zn⟩) (Nd.kids t).length B)/\d.cell? ⟨b,off+j*5,Zn⟩=Zo (Zi Zk y0)/\d.cell? ⟨b,off+j*5+1,Zn⟩=Zo (Zi Zk y1)/\d.cell? ⟨b,off+j*5+2,Zn⟩=Zo (Zt y2)/\d.cell? ⟨b,off+j*5+3,Zn⟩=Zo (Zs ya yl yc)/\d.cell? ⟨b,off+j*5+4,Zn⟩=Zo (Zs za zl zc))):=by have K:Below wr.heap.size wr wr.drew:=(Below.refl _ _).drew;refine (hn S (Nd.kids t)[j] _ _ _ _ _ wr.drew (qq.keep (a6 K (fun b y=>by have:=F b y;omega)) (fun _ h=>h)) (fun b y=>by have:=F b y;have:=K.size;omega) (Q.out j o)).mono ?_;rintro e d ⟨rfl,y⟩;have f:Below wr.heap.size wr d:=K.trans (y.mono K.size);exact⟨rfl,c.trans (f.mono c.size),(f.cell (p:=⟨w.heap.size,0,Zn⟩) (by show w.heap.size<_;omega)).trans q0,(f.cell (p:=⟨w.heap.size,4,Zn⟩) (by show w.heap.size<_;omega)).trans q4,(f.cell (p:=⟨b,off+j*5,Zn⟩) (by show b<_;omega)).trans f0,(f.cell (p:=⟨b,off+j*5+1,Zn⟩) (by show b<_;omega)).trans f1,(f.cell (p:=⟨b,off+j*5+2,Zn⟩) (by show b<_;omega)).trans f2,(f.cell (p:=⟨b,off+j*5+3,Zn⟩) (by show b<_;omega)).trans f3,(f.cell (p:=⟨b,off+j*5+4,Zn⟩) (by show b<_;omega)).trans f4⟩
   have D:Hid (∀w,Calls prog 92 #[Zi Zk (Nd.sort t),Zi Zk (j:Int)] w fun e d=>e=Zr (Zi Zk (iQ (Nd.sort t) j))/\d=w):=fun w=>wV (Nd.sort t) j w;have g:Hid (gQ (gN m) (Nd.sort t) (Nd.kids t) (j+1)=gQ (gN m) (Nd.sort t) (Nd.kids t) j+iQ (Nd.sort t) j*gN m (Nd.kids t)[j]):=rm _ _ _ _ o;have u:Hid (40000<gQ (gN m) (Nd.sort t) (Nd.kids t) (j+1)->gN (m+1) t=40001):=fun h=>CO m t (j+1) (by omega) h;rw[g.out]at u;have hc:=lq m (Nd.kids t)[j];have I:=uj (Nd.sort t) j;have hm:=uk I.1 I.2 (by omega) hc.2;generalize gQ (gN m) (Nd.sort t) (Nd.kids t) j=cs at *;generalize gN m (Nd.kids t)[j]=cv at *;generalize iQ (Nd.sort t) j=tv at *;have ah:IntKind.i64.wrap (tv*cv)=tv*cv:=by rw[IntKind.wrap_i64];omega
   have ai:IntKind.i64.wrap (cs+tv*cv)=cs+tv*cv:=by rw[IntKind.wrap_i64];omega
   clear l n e0 e1 e2 e3 e4 A qq c E;go_wp2_with fail;go_region_held (fun d=>d.cell? ⟨w.heap.size,0,Zn⟩=Zo (Zi Zk (Nd.sort t))/\d.cell? ⟨w.heap.size,4,Zn⟩=Zo (Zs (Zo ⟨b,off,Zn⟩) (Nd.kids t).length B)/\d.cell? ⟨b,off+j*5,Zn⟩=Zo (Zi Zk y0)/\d.cell? ⟨b,off+j*5+1,Zn⟩=Zo (Zi Zk y1)/\d.cell? ⟨b,off+j*5+2,Zn⟩=Zo (Zt y2)/\d.cell? ⟨b,off+j*5+3,Zn⟩=Zo (Zs ya yl yc)/\d.cell? ⟨b,off+j*5+4,Zn⟩=Zo (Zs za zl zc)) (first|with_reducible assumption|go_keep) (first|(go_at_call 60;refine C.out.mono ?_;rintro e w2 ⟨rfl,z,T⟩)|(go_at_call 92;refine (D.out _).mono ?_;rintro e w3 ⟨rfl,rfl⟩));all_goals
    have N:=a7 z
    have O:=a7 (r.out.trans (z.mono r.out.size))
    clear z T f0 f1 f2 f3 f4 q0 q4 C D
    by_cases Y:40000<cs+tv*cv
    ·have P:=a7 (u.out Y)
     go_wp2_with fail
     go_ret
     exact⟨fJ P.out.symm,O.out⟩
    ·go_wp2_with fail
     go_roundw
     case rel=>
      refine⟨j+1,by omega,by go_num,?_,?_,N.out⟩
      ·rw[g.out]
      ·rw[g.out];omega
     case measure=>simp[intOf];omega
  ·have G:j=(Nd.kids t).length:=by omega
   have HP:Hid (Below w.heap.size w wr):=r.out.trans (c.mono r.out.size);have P:Hid (gN (m+1) t=gQ (gN m) (Nd.sort t) (Nd.kids t) j):=by show min (gQ (gN m) (Nd.sort t) (Nd.kids t) (Nd.kids t).length) 40001=_;rw[<- G];omega
   clear l G;go_wp2_with fail;go_ret;exact⟨fJ P.out.symm,HP.out⟩
theorem yJ:∀m,EP m:=by
 intro m;induction m with
 | zero=>intro S t c0 c1 c2 c3 c4 w a;exact a.elim
 | succ m b=>exact wS m b
end Go.Proofs.YtcfojmaccikgeaaGreatDoor
