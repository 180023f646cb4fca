import Derived.Test.YtcfojmaccikgeaaGreatDoorB40
import Derived.Test.YtcfojmaccikgeaaGreatDoorB41
import Derived.Deep.RegionLaw
import Derived.Test.YtcfojmaccikgeaaGreatDoorB13
open Go.Value renaming slice→Zs,int→Zi,string→Zt,agg→Za,bool→Zb
open Go.IntKind renaming i64→Zk
open Go.Obj renaming cells→Zc
open Option renaming none→Zn,some→Zo
open Go.RowKit.Below renaming heap_alloc→Zh
namespace Go.Proofs.YtcfojmaccikgeaaGreatDoor
open Go.RowKit Go.Proofs.Tryz
set_option maxRecDepth 100000
set_option maxHeartbeats 16000000
variable {n j:Nat} {α:Type} {s:ByteArray} {NA N:List ByteArray} {d:Bool}
theorem gU.up{S:Nat->Prop}{w:World}{L:Nat}{l:List (K n)}{v:Value}(h:gU S w (a8 S w n) l v)(m:n<=L+1):gU S w (a8 S w (L+1)) (l.map (fQ L n)) v:=by
 obtain⟨r,cap,j,q,k⟩:=h;refine⟨r,cap,by rw[List.length_map];exact j,by rw[List.length_map];exact q,fun c=>?_⟩;obtain⟨b,off,p,t,a⟩:=k (fun e=>c (by rw[e];rfl));refine⟨b,off,p,t,fun i hi=>?_⟩;have d:i<l.length:=by rw[List.length_map]at hi;exact hi
 obtain⟨c0,c1,c2,s,g,f,o⟩:=a i d;exact⟨c0,c1,c2,s,g,f,by rw[List.getElem_map];exact o.cp m⟩
theorem Fu(s:ByteArray):∀(b:List ByteArray)(a:List α),(iK s b a).1.length=(iK s b a).2.length/\(iK s b a).1.length<=b.length:=by
 intro b;induction b with
 | nil=>intro a;simp[iK]
 | cons n b c=>
  intro a;cases a with
  | nil=>simp[iK]
  | cons k a=>
   have:=c a;unfold iK;by_cases h:n=s;·rw[if_pos h];simp only[List.length_cons];omega
   ·rw[if_neg h];simp only[List.length_cons];omega
theorem Ck (s:ByteArray):∀ (a:List ByteArray) (b:List α) (j:Nat) (c:j<a.length) (d:j<b.length),
  iK s (a.take (j+1)) (b.take (j+1))=if a[j]=s then iK s (a.take j) (b.take j) else ((iK s (a.take j) (b.take j)).1++[a[j]],(iK s (a.take j) (b.take j)).2++[b[j]]):=by
 intro a;induction a with
 | nil=>intro b j c;exact absurd c (Nat.not_lt_zero _)
 | cons n a f=>
  intro b j c d;cases b with
  | nil=>exact absurd d (Nat.not_lt_zero _)
  | cons k b=>
   cases j with
   | zero=>
    simp only[List.take_succ_cons,List.take_zero,List.getElem_cons_zero,iK];by_cases h:n=s;·rw[if_pos h,if_pos h]
    ·rw[if_neg h,if_neg h];rfl
   | succ j=>
    have:=f b j (by simpa using c) (by simpa using d);simp only[List.take_succ_cons,List.getElem_cons_succ]at this ⊢;simp only[iK];rw[this];by_cases h:n=s;·simp only[if_pos h]
    ·simp only[if_neg h];by_cases e:a[j]'(by simpa using c)=s;·simp only[if_pos e]
     ·simp only[if_neg e,List.cons_append]
theorem yo (n:Nat) (S:Nat->Prop) (so:Int) (c:List ByteArray) (l:List (K n)) (na ka:Option Addr) (E D m H:Nat) (x:ByteArray) (w:World) (h1:fL S w c (Zs na m E)) (h2:gU S w (a8 S w n) l (Zs ka H D)) (hB:Bd S w)
  (aQ:c.length=m) (aD:l.length=H) (az:m=H) (bx:m<=39) (aT:∀s,s∈c->s.size<=8) :
  Calls prog 106 #[Za #[Zi Zk so,Zs na m E,Zs ka H D],Zt x] w (rh S (n+1) (⟨5,(iK x c l).1,(iK x c l).2⟩:Kd (K n)) w):=by
 obtain⟨k,A⟩:=iw (((w.alloc (Zc #[Zi Zk so,Zs na m E,Zs ka H D] 31)).alloc (Zc #[Zi Zk 0,Zs Zn 0 0,Zs Zn 0 0] 31)).alloc (Zc #[Zi Zk 5,Zs Zn 0 0,Zs Zn 0 0] 31));have t:Bw w k:=by rw[A];exact ((gF _ _).alloc zS _).alloc zE _
 have aq:k.heap.size=w.heap.size+3:=by rw[A];simp
 obtain⟨X,hX⟩:=iw (w.heap.size+1+1);have aM:k.heap[w.heap.size]?=Zo (Zc #[Zi Zk so,Zs na m E,Zs ka H D] 31 (0,0)):=by rw[A,Zh _ _ _ zE,Zh _ _ _ zS];exact heap_alloc_new _ _
 have aY:k.heap[w.heap.size+1]?=Zo (Zc #[Zi Zk 0,Zs Zn 0 0,Zs Zn 0 0] 31 (0,0)):=by have:=heap_alloc_new (w.alloc (Zc #[Zi Zk so,Zs na m E,Zs ka H D] 31)) (Zc #[Zi Zk 0,Zs Zn 0 0,Zs Zn 0 0] 31);rw[A,Zh _ _ _ zS];simpa using this
 have aI:k.heap[X]?=Zo (Zc #[Zi Zk 5,Zs Zn 0 0,Zs Zn 0 0] 31 (0,0)):=by have:=heap_alloc_new ((w.alloc (Zc #[Zi Zk so,Zs na m E,Zs ka H D] 31)).alloc (Zc #[Zi Zk 0,Zs Zn 0 0,Zs Zn 0 0] 31)) (Zc #[Zi Zk 5,Zs Zn 0 0,Zs Zn 0 0] 31);rw[A,hX];simpa using this
 have bC:w.heap.size+2<=X:=Nat.le_of_eq hX.symm;have br:X<=w.heap.size+2:=Nat.le_of_eq hX;have bA:w.heap.size+3<=k.heap.size:=Nat.le_of_eq aq.symm;have bB:k.heap.size<=w.heap.size+3:=Nat.le_of_eq aq;have aV:Hid (∀b,S b->b<k.heap.size/\b≠X):=fun b G=>by have:=hB b G;exact⟨om,om⟩
 have ac:∀W,b7 X k W->∀b,S b->W.heap[b]?=w.heap[b]?:=fun W hW b G=>by have:=hB b G;exact (hW.block b om om).trans (t.block b this)
 have aN:Hid (∀W,b7 X k W->(W.cell? ⟨w.heap.size,1,Zn⟩=Zo (Zs na m E)/\W.cell? ⟨w.heap.size,2,Zn⟩=Zo (Zs ka H D))/\W.heap[w.heap.size+1]?=Zo (Zc #[Zi Zk 0,Zs Zn 0 0,Zs Zn 0 0] 31 (0,0))):=fun W hW=>by have e1:=(hW.block w.heap.size om om).trans aM;have e2:=(hW.block (w.heap.size+1) om om).trans aY;exact⟨⟨kM e1 1 _ rfl,kM e1 2 _ rfl⟩,e2⟩
 have bg:Hid (∀i (hi:i<c.length),(∃p q,na=Zo ⟨p,q,Zn⟩/\∀W,b7 X k W->W.cell? ⟨p,q+i,Zn⟩=Zo (Zt c[i]))/\c[i].size<=10000):=fun i hi=>by
  obtain⟨ao,cap,he,-,-,hc⟩:=id h1;obtain⟨b,off,ax,G,C⟩:=hc (fun e=>by rw[e]at hi;simp at hi);have U:na=ao:=by simpa using congrArg (fun v=>match v with|Value.slice a _ _=>a|_=>Zn) he
  exact⟨⟨b,off,U.trans ax,fun W hW=>(World.cell?_of_block (a:=⟨b,off+i,Zn⟩) (ac W hW b G)).trans (C i hi)⟩,by have:=aT _ (List.getElem_mem hi);omega⟩
 have bh:Hid (∀i (hi:i<l.length),∃p q u0 ua ul uc ta tl tc,ka=Zo ⟨p,q,Zn⟩/\∀W,b7 X k W->(W.cell? ⟨p,q+i*3,Zn⟩=Zo (Zi Zk u0)/\W.cell? ⟨p,q+i*3+1,Zn⟩=Zo (Zs ua ul uc)/\W.cell? ⟨p,q+i*3+2,Zn⟩=Zo (Zs ta tl tc))/\a8 S W n l[i] (Zi Zk u0) (Zs ua ul uc) (Zs ta tl tc)):=fun i hi=>by
  obtain⟨ao,cap,he,-,hc⟩:=id h2;obtain⟨b,off,ax,G,C⟩:=hc (fun e=>by rw[e]at hi;simp at hi);have U:ka=ao:=by simpa using congrArg (fun v=>match v with|Value.slice a _ _=>a|_=>Zn) he
  obtain⟨c0,c1,c2,q0,q1,q2,hk⟩:=C i hi;obtain⟨u0,ua,ul,uc,ta,tl,tc,rfl,rfl,rfl⟩:=hk.shape;refine⟨b,off,u0,ua,ul,uc,ta,tl,tc,U.trans ax,fun W hW=>?_⟩;have e:=ac W hW b G;exact⟨⟨(World.cell?_of_block (a:=⟨b,off+i*3,Zn⟩) e).trans q0,(World.cell?_of_block (a:=⟨b,off+i*3+1,Zn⟩) e).trans q1,(World.cell?_of_block (a:=⟨b,off+i*3+2,Zn⟩) e).trans q2⟩,hk.keep (ac W hW) (fun _ h=>h)⟩
 have am:Hid (∀(W:World)(ns:List ByteArray)(ks:List (K n))(nv kv:Value),iF S X n k W 5 ns ks nv kv->ns.length<=39->ks.length<=39->rh S (n+1) (⟨5,ns,ks⟩:Kd (K n)) w (.returned (Za #[Zi Zk 5,nv,kv])) (((W.setCell ⟨w.heap.size+1,0,Zn⟩ (Zi Zk 5)).setCell ⟨w.heap.size+1,1,Zn⟩ nv).setCell ⟨w.heap.size+1,2,Zn⟩ kv)):=fun W ns ks nv kv y hn hk=>by
  have R:=y.near;have bu:=R.size;have bk:Bw w W:=⟨R.os.trans t.os,R.tape.trans t.tape,R.output.trans t.output,om,fun b G=>(R.block b om om).trans (t.block b G)⟩;refine⟨gN bk om,_,_,_,rfl,y.kind (B:=w.heap.size) rfl (fun b G=>gi ?_) (by rw[jZ];exact Nat.le_refl _) om om om⟩;rcases G with G|G;·omega
  ·have:=hB b G;omega
 have be:Hid (k.heap[X]?=Zo (Zc #[Zi Zk 5,Zs Zn 0 0,Zs Zn 0 0] 31 (0,0))):=aI;have HC:=a7 (Ck x c l);have bj:=a7 (fun j=>Fu x (c.take j) (l.take j));have al:Hid (iK x c l=iK x (c.take m) (l.take m)):=by show _=_;rw[List.take_of_length_le om,List.take_of_length_le om]
 have aW:Hid (c.length=m/\l.length=H):=⟨aQ,aD⟩;have bm:m<=H:=Nat.le_of_eq az;have bo:H<=m:=Nat.le_of_eq az.symm;obtain⟨bf,I,J,Z,M⟩:=info_parts Tryz.info_kindD;have ab:Hid (_/\_/\_/\_):=⟨I,J,Z,M⟩;clear I J Z M;obtain⟨bd,I,J,Z,M⟩:=info_parts Tryz.info_strD;have aa:Hid (_/\_/\_/\_):=⟨I,J,Z,M⟩;rw[al.out];clear I J Z M h1 h2 hB aT aq aM aY aI t ac aQ aD az al;go_in;go_wp2_with fail;rw[<- A,<- hX];clear A hX;go_loopw [6] (fun iv wr=>∃(j:Nat)(an:Option Addr)(u:Nat)(ak:Option Addr)(r:Nat),j<=m/\iv=Zi Zk j/\iF S X n k wr 5 (iK x (c.take j) (l.take j)).1 (iK x (c.take j) (l.take j)).2 (Zs an (iK x (c.take j) (l.take j)).1.length u) (Zs ak (iK x (c.take j) (l.take j)).1.length r)) (fun iv _=>m-(intOf iv).toNat);case atStart=>exact⟨0,Zn,0,Zn,0,Nat.zero_le _,rfl,iF.start be.out⟩
 case round=>
  obtain⟨j,an,u,ak,r,hj,rfl,y⟩:=hrel;have ay:=bj.out j;have ba:(c.take j).length<=j:=by rw[List.length_take];omega
  obtain⟨⟨y1,y2⟩,P⟩:=aN.out wr y.near;by_cases bz:j<m
  ·have aG:j<c.length:=by have:=aW.out.1;omega
   have aF:j<l.length:=by have:=aW.out.2;omega
   have Y:=a7 (HC.out j aG aF);obtain⟨⟨np,nq,rfl,au⟩,aC⟩:=bg.out j aG;have fN:=au _ y.near;have bw:(j:Int)<(m:Int):=om;have bp:(j:Int)<(H:Int):=om;obtain⟨acc,ah⟩:∃acc,iK x (c.take j) (l.take j)=acc:=⟨_,rfl⟩;rw[ah]at y ay Y;obtain⟨f,Q⟩:∃f,acc.1.length=f:=⟨_,rfl⟩;have HL:Hid (acc.1.length=f/\acc.2.length=f):=⟨Q,om⟩;rw[Q]at y;have bn:f<=39:=om;clear ah Q ay ba;by_cases hx:c[j]=x
   ·have L:Hid (iK x (c.take (j+1)) (l.take (j+1))=acc):=by show _=_;rw[Y.out,if_pos hx]
    have bl:(x.toList==x.toList)=true:=zS;rw[hx]at fN;have HG:=Lib.hid y;clear y hx Y au P aC;go_wp2;go_roundw;case rel=>exact⟨j+1,an,u,ak,r,om,by go_num,by rw[L.out,HL.out.1];exact HG.out⟩
    case measure=>simp[intOf];omega
   ·have L:Hid (iK x (c.take (j+1)) (l.take (j+1))=(acc.1++[c[j]],acc.2++[l[j]])):=by show _=_;rw[Y.out,if_neg hx]
    have bl:(c[j].toList==x.toList)=false:=by rw[beq_eq_false_iff_ne];intro e;exact hx (by rw[ByteArray.toList_eq,ByteArray.toList_eq]at e;exact WideShapes.bytes_inj e)
    have bi:=bh.out j aF;generalize l[j]=kx at *;generalize c[j]=nm at *;obtain⟨V1,aL⟩:=iw wr;rw[<- aL]at y fN y1 y2 P ⊢;have x1:V1.cell? ⟨X,1,Zn⟩=Zo (Zs an f u):=kM y.box 1 _ rfl;have ap:Hid (V1.ownsRow k.heap.size 9 1 (Zs an f u) f (acc.1.map Zt)):=by have:=y.names;rw[HL.out.1]at this;exact this
    have ae:∀o,(V1.drew.alloc o).ownsRow k.heap.size 9 1 (Zs an f u) f (acc.1.map Zt):=fun o=>ap.out.drew.alloc o;have aS:X<V1.heap.size:=y.lt;have bt:=y.near.size;have ar:=Lib.hid y;clear y aL hx Y au P;go_upto_region 6 with fail;go_cut [6] from 8 to 41 (fun iv wx=>iv=Zi Zk j/\∃g cap,iF S X n k wx 5 (acc.1++[nm]) acc.2 (Zs (Zo ⟨g,0,Zn⟩) (f+1) cap) (Zs ak f r));case first=>
     go_region_law (first
      | (refine step_append_lies _ (by rfl) (.tmp 23) (.tmp 29) 23 (by rfl) k.heap.size 9 bd _ 1 16 underlying23 aa.out.1 aa.out.2.1 aa.out.2.2.1 aa.out.2.2.2 rfl zC (Zs an f u) f (acc.1.map Zt) (by rfl) (ae _) ⟨V1.heap.size,0,Zn⟩ 1 1 [Zt nm] (by rfl) rfl (World.news_of_block (heap_alloc_new V1.drew _)) (by simp[Value.oneCell']) zC (by unfold maxLen;omega) om zE (V1.heap.size+1) zS ?_;intro g cap v3 af F aO aJ;have aw:=((F.block X zE (fun e=>by have:=fR ap.out _ e.symm;omega)).trans (Zh _ _ _ (by simpa using aS))).trans ar.out.box;have aR:v3.cell? ⟨X,1,Zn⟩=Zo (Zs an f u):=(by simp[World.cell?,aw]);have aK:v3.frozen? ⟨X,1,Zn⟩=false:=(by simp[World.frozen?,aw])))
     all_goals
      have d:=iF.name (Wa:=V1.drew.alloc (Zc #[Zt nm] 9)) (one:=Zc #[Zt nm] 9) (x:=nm) (g:=g) (cap:=cap) ar.out aV.out om rfl ⟨rfl,rfl,rfl⟩ aC (by rw[HL.out.1];exact af) F aO
      rw[HL.out.1]at d
      have T:=Lib.hid d
      clear d af F aO aJ aw aR aK x1 fN
      go_wp2
      go_meet
      exact⟨rfl,_,_,T.out⟩
    case rest=>
     obtain⟨rfl,g,cap,d⟩:=hcut;obtain⟨V2,aU⟩:=iw wc;rw[<- aU]at d ⊢;clear aU y1 y2 x1 fN;have bv:=d.near.size;obtain⟨⟨y1,y2⟩,-⟩:=aN.out V2 d.near;obtain⟨kp,kq,u0,ua,ul,uc,ta,tl,tc,rfl,aX⟩:=bi;obtain⟨⟨q0,q1,q2⟩,ag⟩:=aX V2 d.near;obtain⟨xs,av,ad⟩:=d.kids;have aP:=Lib.hid ad;have HX:Hid (V2.ownsRow k.heap.size 31 3 (Zs ak f r) f xs):=by rw[HL.out.2]at av;exact av
     have aj:∀o,(V2.drew.alloc o).ownsRow k.heap.size 31 3 (Zs ak f r) f xs:=fun o=>HX.out.drew.alloc o;have x2:V2.cell? ⟨X,2,Zn⟩=Zo (Zs ak f r):=kM d.box 2 _ rfl;have bc:=d.lt;have T:=Lib.hid d;have bb:=Lib.hid ag;clear d ag aX av ad ap ae ar aS;go_wp2_with fail;go_region_law (first
      | (refine step_append_lies _ (by rfl) (.tmp 33) (.tmp 39) 29 (by rfl) k.heap.size 31 bf _ 3 56 underlying29 ab.out.1 ab.out.2.1 ab.out.2.2.1 ab.out.2.2.2 rfl zC (Zs ak f r) f xs (by rfl) (aj _) ⟨V2.heap.size,0,Zn⟩ 1 1 [Zi Zk u0,Zs ua ul uc,Zs ta tl tc] (by rfl) rfl (World.news_of_block (heap_alloc_new V2.drew _)) (by simp[Value.oneCell']) zC (by unfold maxLen;omega) om zE (V2.heap.size+1) zS ?_;intro g2 V v3 N z ai aZ;have aA:=((z.block X zE (fun e=>by have:=fR HX.out _ e.symm;omega)).trans (Zh _ _ _ (by simpa using bc))).trans T.out.box;have aB:v3.cell? ⟨X,2,Zn⟩=Zo (Zs ak f r):=(by simp[World.cell?,aA]);have aH:v3.frozen? ⟨X,2,Zn⟩=false:=(by simp[World.frozen?,aA])))
     all_goals
      have hF:=iF.kid (Wa:=V2.drew.alloc (Zc #[Zi Zk u0,Zs ua ul uc,Zs ta tl tc] 31)) (one:=Zc #[Zi Zk u0,Zs ua ul uc,Zs ta tl tc] 31) (g:=g2) (cap:=V) (xs:=xs) T.out aV.out om bb.out rfl ⟨rfl,rfl,rfl⟩ (by rw[HL.out.2];exact HX.out) aP.out (by rw[HL.out.2];exact N) z ai
      rw[HL.out.2]at hF
      have HF:=Lib.hid hF
      clear hF N z ai aZ aB aH aA x2 aj aP HX T bb
      go_wp2
      go_roundw
      case rel=>
       refine⟨j+1,Zo ⟨g,0,Zn⟩,cap,Zo ⟨g2,0,Zn⟩,V,om,by go_num,?_⟩
       rw[L.out]
       show iF S X n k _ 5 (acc.1++[nm]) (acc.2++[kx]) (Zs _ (acc.1++[nm]).length cap) (Zs _ (acc.1++[nm]).length V)
       rw[show (acc.1++[nm]).length=f+1 by rw[List.length_append,HL.out.1];rfl]
       exact HF.out
      case measure=>simp[intOf];omega
  ·have aE:j=m:=by omega
   have bq:¬(j:Int)<(m:Int):=om;have Q:(iK x (c.take j) (l.take j)).1.length<=39:=om;have HF:=Lib.hid (am.out _ _ _ _ _ y Q om);obtain⟨⟨p0,p1,p2⟩,-⟩:=fM y.box;obtain⟨⟨r0,r1,r2⟩,f0,f1,f2⟩:=fM P;generalize (iK x (c.take j) (l.take j)).1.length=f at *;rw[aE]at HF;clear y ay aE P ba am;go_wp2_with fail;refine bodyPost_ret (v:=Za #[Zi Zk 5,Zs an f u,Zs ak f r]) (by simp[results,results106,go_sem,r0,r1,r2]) rfl ?_;exact HF.out
def nH{α:Type}(s:ByteArray)(x:α)(a:List ByteArray)(b:List α)(j:Nat)(d:Bool)(N:List ByteArray)(Q:List α):Prop:=
 N.length=Q.length/\N.length<=j+1/\(d=false->N.length<=j/\N=a.take j/\Q=b.take j/\∀i (h:i<a.length),i<j->kJ a[i] s=true) /\
  (d=true->iy s x a b=(N++a.drop j,Q++b.drop j)/\∀i (h:i<a.length),j<=i->a[i]≠s)
theorem nH.start(s:ByteArray)(x:α)(a:List ByteArray)(b:List α):nH s x a b 0 false [] []:=
 ⟨rfl,zS,fun _=>⟨zS,rfl,rfl,fun i _ h=>absurd h (Nat.not_lt_zero _)⟩,fun h=>by cases h⟩
theorem nH.round {x:α} {a:List α} {Q:List α} (h:nH s x NA a j d N Q) (C:NA.length=a.length) (A:uk NA) (p:j<NA.length) (v:j<a.length) :
  (¬(d=false/\kJ NA[j] s=false)->NA[j]≠s/\nH s x NA a (j+1) d (N++[NA[j]]) (Q++[a[j]])) /\
  ((d=false/\kJ NA[j] s=false)->(NA[j]=s->nH s x NA a (j+1) true (N++[s]) (Q++[x]))/\(NA[j]≠s->nH s x NA a (j+1) true ((N++[s])++[NA[j]]) ((Q++[x])++[a[j]]))):=by
 obtain⟨q,F,w,y⟩:=h;have g:NA.drop j=NA[j] :: NA.drop (j+1):=List.drop_eq_getElem_cons p;have l:a.drop j=a[j] :: a.drop (j+1):=List.drop_eq_getElem_cons v;have f:∀i (h:i<NA.length),j+1<=i->kJ NA[j] NA[i]=true:=fun i hi E=>(List.pairwise_iff_getElem.1 A) j i p hi om;refine⟨fun D=>?_,fun B=>?_⟩
 ·cases d with
  | false=>
   obtain⟨z,m,k,t⟩:=w rfl;have c:kJ NA[j] s=true:=by
    cases hb:kJ NA[j] s with
    | true=>rfl
    | false=>exact absurd ⟨rfl,hb⟩ D
   refine⟨vt c,by simp[q],zE,fun _=>⟨zE,?_,?_,fun i hi b=>?_⟩,fun h=>by cases h⟩;·rw[m,List.take_append_getElem p]
   ·rw[k,List.take_append_getElem v]
   ·by_cases e:i=j;·subst e;exact c
    ·exact t i hi om
  | true=>obtain⟨m,k⟩:=y rfl;refine⟨k j p (Nat.le_refl _),by simp[q],zE,fun h=>(by cases h),fun _=>⟨?_,fun i hi b=>k i hi om⟩⟩;rw[m,g,l,List.append_assoc,List.append_assoc];rfl
 ·obtain⟨rfl,c⟩:=B;obtain⟨z,m,k,t⟩:=w rfl;have n:=oy s x NA a j C om t;have u:N.length+1=Q.length+1:=om;refine⟨fun o=>?_,fun r=>?_⟩
  ·refine⟨by simp[q],zE,fun h=>(by cases h),fun _=>⟨?_,fun i hi b e=>?_⟩⟩;·rw[n,g,l,He s x _ _ _ _ o,<- m,<- k,List.append_assoc,List.append_assoc];rfl
   ·have:=f i hi b;rw[o,e,tB]at this;cases this
  ·refine⟨by simp[q],zE,fun h=>(by cases h),fun _=>⟨?_,fun i hi b e=>?_⟩⟩;·rw[n,g,l,B8 s x _ _ _ _ (by rw[c];simp) r,<- m,<- k];simp
   ·have:=f i hi b;rw[e,c]at this;cases this
theorem nH.done {x:α} {a:List α} {Q:List α} (h:nH s x NA a j d N Q) (e:NA.length=a.length) (n:j=NA.length) :
  (d=true->iy s x NA a=(N,Q))/\(d=false->iy s x NA a=(N++[s],Q++[x])):=by
 subst n;obtain⟨p,o,f,g⟩:=h;refine⟨fun c=>?_,fun c=>?_⟩;·have:=(g c).1;rw[List.drop_length,e,List.drop_length,List.append_nil,List.append_nil]at this;exact this
 ·obtain⟨q,k,i,l⟩:=f c;have b:=oy s x NA a NA.length e (Nat.le_refl _) l;have m:a.drop NA.length=[]:=by rw[e];exact List.drop_length
  rw[List.drop_length,m,Gc]at b;rw[b,k,i]
theorem mc{l:List α}(x:α)(h:l.length=n):(l++[x]).length=n+1:=by rw[List.length_append,h];rfl
theorem yQ (n:Nat) (S:Nat->Prop) (so:Int) (y:List ByteArray) (U:List (K n)) (xk:K n) (na ka:Option Addr) (aq am Y ma:Nat) (d0:Int) (da ea:Option Addr) (dl dc el ec:Nat) (x:ByteArray) (w:World) (h1:fL S w y (Zs na Y aq)) (h2:gU S w (a8 S w n) U (Zs ka ma am)) (h3:a8 S w n xk (Zi Zk d0) (Zs da dl dc) (Zs ea el ec)) (hB:Bd S w)
  (bz:y.length=Y) (bi:U.length=ma) (bf:Y=ma) (cc:Y<=39) (bA:∀s,s∈y->s.size<=8) (bx:x.size<=8) (aR:uk y) :
  Calls prog 107 #[Za #[Zi Zk so,Zs na Y aq,Zs ka ma am],Zt x,Za #[Zi Zk d0,Zs da dl dc,Zs ea el ec]] w (rh S (n+1) (⟨5,(iy x xk y U).1,(iy x xk y U).2⟩:Kd (K n)) w):=by
 obtain⟨u,ai⟩:=iw ((((w.alloc (Zc #[Zi Zk so,Zs na Y aq,Zs ka ma am] 31)).alloc (Zc #[Zi Zk d0,Zs da dl dc,Zs ea el ec] 31)).alloc (Zc #[Zi Zk 0,Zs Zn 0 0,Zs Zn 0 0] 31)).alloc (Zc #[Zi Zk 5,Zs Zn 0 0,Zs Zn 0 0] 31));have ac:Bw w u:=by rw[ai];exact (((gF _ _).alloc zS _).alloc zE _).alloc zE _
 have aT:u.heap.size=w.heap.size+4:=by rw[ai];simp
 obtain⟨X,hX⟩:=iw (w.heap.size+1+1+1);have bu:u.heap[w.heap.size]?=Zo (Zc #[Zi Zk so,Zs na Y aq,Zs ka ma am] 31 (0,0)):=by rw[ai,Zh _ _ _ zE,Zh _ _ _ zE,Zh _ _ _ zS];exact heap_alloc_new _ _
 have bt:u.heap[w.heap.size+1]?=Zo (Zc #[Zi Zk d0,Zs da dl dc,Zs ea el ec] 31 (0,0)):=by have:=heap_alloc_new (w.alloc (Zc #[Zi Zk so,Zs na Y aq,Zs ka ma am] 31)) (Zc #[Zi Zk d0,Zs da dl dc,Zs ea el ec] 31);rw[ai,Zh _ _ _ zS,Zh _ _ _ zS];simpa using this
 have bF:u.heap[w.heap.size+1+1]?=Zo (Zc #[Zi Zk 0,Zs Zn 0 0,Zs Zn 0 0] 31 (0,0)):=by have:=heap_alloc_new ((w.alloc (Zc #[Zi Zk so,Zs na Y aq,Zs ka ma am] 31)).alloc (Zc #[Zi Zk d0,Zs da dl dc,Zs ea el ec] 31)) (Zc #[Zi Zk 0,Zs Zn 0 0,Zs Zn 0 0] 31);rw[ai,Zh _ _ _ zS];simpa using this
 have bp:u.heap[X]?=Zo (Zc #[Zi Zk 5,Zs Zn 0 0,Zs Zn 0 0] 31 (0,0)):=by have:=heap_alloc_new (((w.alloc (Zc #[Zi Zk so,Zs na Y aq,Zs ka ma am] 31)).alloc (Zc #[Zi Zk d0,Zs da dl dc,Zs ea el ec] 31)).alloc (Zc #[Zi Zk 0,Zs Zn 0 0,Zs Zn 0 0] 31)) (Zc #[Zi Zk 5,Zs Zn 0 0,Zs Zn 0 0] 31);rw[ai,hX];simpa using this
 have ch:w.heap.size+3<=X:=Nat.le_of_eq hX.symm;have bY:X<=w.heap.size+3:=Nat.le_of_eq hX;have ce:w.heap.size+4<=u.heap.size:=Nat.le_of_eq aT.symm;have cf:u.heap.size<=w.heap.size+4:=Nat.le_of_eq aT;have aB:Hid (∀b,S b->b<u.heap.size/\b≠X):=fun b hb=>by have:=hB b hb;exact⟨om,om⟩
 have aM:∀W,b7 X u W->∀b,S b->W.heap[b]?=w.heap[b]?:=fun W hW b hb=>by have:=hB b hb;exact (hW.block b om om).trans (ac.block b this)
 have aO:Hid (∀W,b7 X u W->(W.cell? ⟨w.heap.size,1,Zn⟩=Zo (Zs na Y aq)/\W.cell? ⟨w.heap.size,2,Zn⟩=Zo (Zs ka ma am))/\W.heap[w.heap.size+1+1]?=Zo (Zc #[Zi Zk 0,Zs Zn 0 0,Zs Zn 0 0] 31 (0,0))):=fun W hW=>by have e1:=(hW.block w.heap.size om om).trans bu;have e2:=(hW.block (w.heap.size+1+1) om om).trans bF;exact⟨⟨kM e1 1 _ rfl,kM e1 2 _ rfl⟩,e2⟩
 have bH:Hid (∀W,b7 X u W->(W.cell? ⟨w.heap.size+1,0,Zn⟩=Zo (Zi Zk d0)/\W.cell? ⟨w.heap.size+1,1,Zn⟩=Zo (Zs da dl dc)/\W.cell? ⟨w.heap.size+1,2,Zn⟩=Zo (Zs ea el ec))/\a8 S W n xk (Zi Zk d0) (Zs da dl dc) (Zs ea el ec)):=fun W hW=>by have e1:=(hW.block (w.heap.size+1) om om).trans bt;exact⟨⟨kM e1 0 _ rfl,kM e1 1 _ rfl,kM e1 2 _ rfl⟩,h3.keep (aM W hW) (fun _ h=>h)⟩
 have bM:Hid (∀i (hi:i<y.length),(∃p q,na=Zo ⟨p,q,Zn⟩/\∀W,b7 X u W->W.cell? ⟨p,q+i,Zn⟩=Zo (Zt y[i]))/\y[i].size<=10000):=fun i hi=>by
  obtain⟨ao,cap,he,-,-,hc⟩:=id h1;obtain⟨b,off,ba,hb,av⟩:=hc (fun e=>by rw[e]at hi;simp at hi);have aK:na=ao:=by simpa using congrArg (fun v=>match v with|Value.slice a _ _=>a|_=>Zn) he
  exact⟨⟨b,off,aK.trans ba,fun W hW=>(World.cell?_of_block (a:=⟨b,off+i,Zn⟩) (aM W hW b hb)).trans (av i hi)⟩,by have:=bA _ (List.getElem_mem hi);omega⟩
 have bN:Hid (∀i (hi:i<U.length),∃p q u0 ua ul uc ta tl tc,ka=Zo ⟨p,q,Zn⟩/\∀W,b7 X u W->(W.cell? ⟨p,q+i*3,Zn⟩=Zo (Zi Zk u0)/\W.cell? ⟨p,q+i*3+1,Zn⟩=Zo (Zs ua ul uc)/\W.cell? ⟨p,q+i*3+2,Zn⟩=Zo (Zs ta tl tc))/\a8 S W n U[i] (Zi Zk u0) (Zs ua ul uc) (Zs ta tl tc)):=fun i hi=>by
  obtain⟨ao,cap,he,-,hc⟩:=id h2;obtain⟨b,off,ba,hb,av⟩:=hc (fun e=>by rw[e]at hi;simp at hi);have aK:ka=ao:=by simpa using congrArg (fun v=>match v with|Value.slice a _ _=>a|_=>Zn) he
  obtain⟨c0,c1,c2,q0,q1,q2,hk⟩:=av i hi;obtain⟨u0,ua,ul,uc,ta,tl,tc,rfl,rfl,rfl⟩:=hk.shape;refine⟨b,off,u0,ua,ul,uc,ta,tl,tc,aK.trans ba,fun W hW=>?_⟩;have e:=aM W hW b hb;exact⟨⟨(World.cell?_of_block (a:=⟨b,off+i*3,Zn⟩) e).trans q0,(World.cell?_of_block (a:=⟨b,off+i*3+1,Zn⟩) e).trans q1,(World.cell?_of_block (a:=⟨b,off+i*3+2,Zn⟩) e).trans q2⟩,hk.keep (aM W hW) (fun _ h=>h)⟩
 have az:Hid (∀(W:World)(ns:List ByteArray)(ks:List (K n))(nv kv:Value),iF S X n u W 5 ns ks nv kv->ns.length<=42->ks.length<=42->rh S (n+1) (⟨5,ns,ks⟩:Kd (K n)) w (.returned (Za #[Zi Zk 5,nv,kv])) (((W.setCell ⟨w.heap.size+1+1,0,Zn⟩ (Zi Zk 5)).setCell ⟨w.heap.size+1+1,1,Zn⟩ nv).setCell ⟨w.heap.size+1+1,2,Zn⟩ kv)):=fun W ns ks nv kv hG hn hk=>by
  have aJ:=hG.near;have bZ:=aJ.size;have bQ:Bw w W:=⟨aJ.os.trans ac.os,aJ.tape.trans ac.tape,aJ.output.trans ac.output,om,fun b hb=>(aJ.block b om om).trans (ac.block b hb)⟩;refine⟨gN bQ om,_,_,_,rfl,hG.kind (B:=w.heap.size) rfl (fun b hb=>gi ?_) (by rw[jZ];exact Nat.le_refl _) om om om⟩;rcases hb with hb|hb;·omega
  ·have:=hB b hb;omega
 have bL:Hid (u.heap[X]?=Zo (Zc #[Zi Zk 5,Zs Zn 0 0,Zs Zn 0 0] 31 (0,0))):=bp;have HR:Hid (∀ {j:Nat} {d:Bool} {N:List ByteArray} {Q:List (K n)},nH x xk y U j d N Q->∀(hj:j<y.length)(hk:j<U.length),(¬(d=false/\kJ y[j] x=false)->y[j]≠x/\nH x xk y U (j+1) d (N++[y[j]]) (Q++[U[j]])) /\
  ((d=false/\kJ y[j] x=false)->(y[j]=x->nH x xk y U (j+1) true (N++[x]) (Q++[xk]))/\(y[j]≠x->nH x xk y U (j+1) true ((N++[x])++[y[j]]) ((Q++[xk])++[U[j]])))):=fun h hj hk=>h.round om aR hj hk
 have HD:Hid (∀ {j:Nat} {d:Bool} {N:List ByteArray} {Q:List (K n)},nH x xk y U j d N Q->j=Y->(d=true->iy x xk y U=(N,Q))/\(d=false->iy x xk y U=(N++[x],Q++[xk]))):=fun h hj=>h.done om om;have bC:Hid (y.length=Y/\U.length=ma):=⟨bz,bi⟩;have bS:Y<=ma:=Nat.le_of_eq bf;have bV:ma<=Y:=Nat.le_of_eq bf.symm;have bw:=a7 bx;obtain⟨aW,aE,aF,aL,ae⟩:=info_parts Tryz.info_kindD;have L:Hid (_/\_/\_/\_):=⟨aE,aF,aL,ae⟩;clear aE aF aL ae;obtain⟨aV,aE,aF,aL,ae⟩:=info_parts Tryz.info_strD;have I:Hid (_/\_/\_/\_):=⟨aE,aF,aL,ae⟩;clear aE aF aL ae h1 h2 h3 hB bA aT bu bF bp bt ac aM bz bi bf aR bx;go_in;go_wp2_with fail;rw[<- ai,<- hX];clear ai hX;go_loopw [8,9] (fun dv iv wr=>∃(j:Nat)(d:Bool)(N:List ByteArray)(Q:List (K n))(an:Option Addr)(C:Nat)(ak:Option Addr)(A:Nat),j<=Y/\iv=Zi Zk j/\dv=Zb d/\nH x xk y U j d N Q/\iF S X n u wr 5 N Q (Zs an N.length C) (Zs ak N.length A)) (fun _ iv _=>Y-(intOf iv).toNat);case atStart=>exact⟨0,false,[],[],Zn,0,Zn,0,Nat.zero_le _,rfl,rfl,nH.start _ _ _ _,iF.start bL.out⟩
 case round=>
  obtain⟨j,d,N,Q,an,C,ak,A,hj,rfl,rfl,hI,hG⟩:=hrel;have bb:=hI.1;have aX:=hI.2.1;obtain⟨⟨y1,y2⟩,ah⟩:=aO.out wr hG.near;obtain⟨l,aH⟩:∃l,N.length=l:=⟨_,rfl⟩;have Z:Hid (N.length=l/\Q.length=l):=⟨aH,om⟩;rw[aH]at hG;by_cases cd:j<Y
  ·have bl:j<y.length:=by have:=bC.out.1;omega
   have bj:j<U.length:=by have:=bC.out.2;omega
   have bD:=a7 (HR.out hI bl bj);obtain⟨⟨np,nq,rfl,aY⟩,bJ⟩:=bM.out j bl;have bP:=a7 aY;have fN:=aY _ hG.near;have cb:(j:Int)<(Y:Int):=om;have bW:(j:Int)<(ma:Int):=om;have bO:=bN.out j bj;generalize U[j]=kx at *;generalize y[j]=nm at *;obtain⟨V1,aG⟩:=iw wr;rw[<- aG]at hG fN y1 y2 ah ⊢;have t:=Lib.hid hG;have bU:l<=40:=om;have ca:d=false/\kJ nm x=false∨¬(d=false/\kJ nm x=false):=Classical.em _;clear aG hI bb aX aH hG aY ah;go_upto_region 6 with fail;go_cut [8,9,28] from 11 to 67 (fun dv iv bv wx=>dv=Zb d/\iv=Zi Zk j/\(∃b:Bool,bv=Zb b/\(b=true↔d=false/\kJ nm x=false))/\wx=V1);case first=>
    cases d with
    | true=>go_wp2;go_meet;exact⟨rfl,rfl,⟨false,rfl,zS⟩,rfl⟩
    | false=>
     have HE:Hid ((!Op.bytesLess nm.toList x.toList)=true↔false=false/\kJ nm x=false):=by show (!kJ nm x)=true↔false=false/\kJ nm x=false;cases kJ nm x<;>simp
     go_wp2;go_meet;exact⟨rfl,rfl,⟨_,rfl,HE.out⟩,rfl⟩
   case rest=>
    obtain⟨rfl,rfl,⟨b,rfl,hb⟩,rfl⟩:=hcut;have bI:=a7 hb;clear hb fN;go_upto_if 28 with fail;go_cut [8,9] from 11 to 67 (fun dv iv wx=>iv=Zi Zk j/\∃(N':List ByteArray)(Q':List (K n))(an:Option Addr)(C:Nat)(ak:Option Addr)(A l:Nat),dv=Zb (d || b)/\N'.length=l/\Q'.length=l/\l<=41/\iF S X n u wx 5 N' Q' (Zs an l C) (Zs ak l A)/\(nm=x->nH x xk y U (j+1) (d || b) N' Q')/\(nm≠x->nH x xk y U (j+1) (d || b) (N'++[nm]) (Q'++[kx])));case first=>
     cases b with
     | false=>
      have bK:¬(d=false/\kJ nm x=false):=fun h=>by have:=bI.out.2 h;cases this
      have HP:=a7 (bD.out.1 bK);go_wp2;go_meet;exact⟨rfl,N,Q,an,C,ak,A,l,zS,Z.out.1,Z.out.2,om,t.out,fun e=>absurd e HP.out.1,fun _=>by simpa using HP.out.2⟩
     | true=>
      have ae:=bI.out.1 rfl;have HP:=a7 (bD.out.2 ae);have hd:=ae.1;subst hd;have x1:wc.cell? ⟨X,1,Zn⟩=Zo (Zs an l C):=kM t.out.box 1 _ rfl;have M:Hid (wc.ownsRow u.heap.size 9 1 (Zs an l C) l (N.map Zt)):=by have:=t.out.names;rw[Z.out.1]at this;exact this
      have aA:X<wc.heap.size:=t.out.lt;have bo:=t.out.near.size;go_wp2_with (at_builtin;refine wpList_append_lies _ rfl (.tmp 30) (.tmp 32) 23 rfl u.heap.size 9 aV _ 1 16 underlying23 I.out.1 I.out.2.1 I.out.2.2.1 I.out.2.2.2 rfl zC (Zs an l C) l (N.map Zt) rfl (M.out.alloc _) ⟨wc.heap.size,0,Zn⟩ 1 1 [Zt x] rfl rfl (World.news_of_block (heap_alloc_new wc _)) (by simp[Value.oneCell']) zC (by unfold maxLen;omega) om zE (wc.heap.size+1) zS ?_;intro g cap v3 G k aj af;refine Hid.out ?_);refine Lib.hid ?_;have c:=iF.name (Wa:=wc.alloc (Zc #[Zt x] 9)) (one:=Zc #[Zt x] 9) (x:=x) (g:=g) (cap:=cap) t.out aB.out om rfl ⟨rfl,rfl,rfl⟩ (by have:=bw.out;omega) (by rw[Z.out.1];exact G) k aj;rw[Z.out.1]at c;have P:=((k.block X zE (fun e=>by have:=fR M.out _ e.symm;omega)).trans (Zh _ _ _ (by simpa using aA))).trans t.out.box;have ap:v3.cell? ⟨X,1,Zn⟩=Zo (Zs an l C):=by simp[World.cell?,P]
      have ag:v3.frozen? ⟨X,1,Zn⟩=false:=by simp[World.frozen?,P]
      obtain⟨J,aa⟩:=iw (v3.setCell ⟨X,1,Zn⟩ (Zs (Zo ⟨g,0,Zn⟩) (l+1) cap));rw[<- aa]at c;obtain⟨⟨k0,k1,k2⟩,aI⟩:=bH.out J c.near;obtain⟨xs,O,F⟩:=c.kids;have al:=Lib.hid F;have HX:Hid (J.ownsRow u.heap.size 31 3 (Zs ak l A) l xs):=by rw[Z.out.2]at O;exact O
      have x2:J.cell? ⟨X,2,Zn⟩=Zo (Zs ak l A):=kM c.box 2 _ rfl;have aD:=c.lt;have br:=c.near.size;have E:=Lib.hid c;have au:=Lib.hid aI;clear c G k aj af P x1 M O F aI;go_upto_region 8 with fail;rw[<- aa];clear aa ap ag;go_wp2_with (at_builtin;refine wpList_append_lies _ rfl (.tmp 36) (.tmp 38) 29 rfl u.heap.size 31 aW _ 3 56 underlying29 L.out.1 L.out.2.1 L.out.2.2.1 L.out.2.2.2 rfl zC (Zs ak l A) l xs rfl (HX.out.alloc _) ⟨J.heap.size,0,Zn⟩ 1 1 [Zi Zk d0,Zs da dl dc,Zs ea el ec] rfl rfl (World.news_of_block (heap_alloc_new J _)) (by simp[Value.oneCell']) zC (by unfold maxLen;omega) om zE (J.heap.size+1) zS ?_;intro g2 D v4 r f H ar;refine Hid.out ?_);refine Lib.hid ?_;have hF:=iF.kid (Wa:=J.alloc (Zc #[Zi Zk d0,Zs da dl dc,Zs ea el ec] 31)) (one:=Zc #[Zi Zk d0,Zs da dl dc,Zs ea el ec] 31) (g:=g2) (cap:=D) (xs:=xs) E.out aB.out om au.out rfl ⟨rfl,rfl,rfl⟩ (by rw[Z.out.2];exact HX.out) al.out (by rw[Z.out.2];exact r) f H;rw[Z.out.2]at hF;have T:=((f.block X zE (fun e=>by have:=fR HX.out _ e.symm;omega)).trans (Zh _ _ _ (by simpa using aD))).trans E.out.box;have ax:v4.cell? ⟨X,2,Zn⟩=Zo (Zs ak l A):=by simp[World.cell?,T]
      have ay:v4.frozen? ⟨X,2,Zn⟩=false:=by simp[World.frozen?,T]
      have HF:=Lib.hid hF;clear hF r f H ar T HX E au al x2;go_wp2;go_meet;exact⟨rfl,N++[x],Q++[xk],Zo ⟨g,0,Zn⟩,cap,Zo ⟨g2,0,Zn⟩,D,l+1,rfl,mc x Z.out.1,mc xk Z.out.2,om,HF.out,HP.out.1,HP.out.2⟩
    case rest=>
     obtain⟨rfl,N',Q',aC,ab,aw,R,m,rfl,bG,bq,cg,V,bk,bm⟩:=hcut;have ad:Hid (N'.length=m/\Q'.length=m):=⟨bG,bq⟩;have bd:=a7 bk;have bh:=a7 bm;obtain⟨V3,bB⟩:=iw wc;rw[<- bB]at V ⊢;clear y1 y2 bB bG bq bk bm t Z;have fN:=bP.out V3 V.near;obtain⟨⟨y1,y2⟩,-⟩:=aO.out V3 V.near;have aN:=Lib.hid V;generalize (d || b)=db at *;by_cases hx:nm=x
     ·have bR:(x.toList==x.toList)=true:=by simp
      subst hx;have bg:=a7 (bd.out rfl);clear V bd bh;go_wp2;go_roundw;case rel=>exact⟨j+1,db,N',Q',aC,ab,aw,R,om,by go_num,rfl,bg.out,by rw[ad.out.1];exact aN.out⟩
      case measure=>simp[intOf];omega
     ·have bR:(nm.toList==x.toList)=false:=by rw[beq_eq_false_iff_ne];intro e;exact hx (by rw[ByteArray.toList_eq,ByteArray.toList_eq]at e;exact WideShapes.bytes_inj e)
      have bg:=a7 (bh.out hx);have x1:V3.cell? ⟨X,1,Zn⟩=Zo (Zs aC m ab):=kM V.box 1 _ rfl;have M:Hid (V3.ownsRow u.heap.size 9 1 (Zs aC m ab) m (N'.map Zt)):=by have:=V.names;rw[ad.out.1]at this;exact this
      have aP:∀o,(V3.drew.alloc o).ownsRow u.heap.size 9 1 (Zs aC m ab) m (N'.map Zt):=fun o=>M.out.drew.alloc o;have aA:X<V3.heap.size:=V.lt;have bo:=V.near.size;clear V hx bd bh;go_upto_region 11 with fail;go_cut [8,9] from 11 to 67 (fun dv iv wx=>dv=Zb db/\iv=Zi Zk j/\∃g cap,iF S X n u wx 5 (N'++[nm]) Q' (Zs (Zo ⟨g,0,Zn⟩) (m+1) cap) (Zs aw m R));case first=>
       go_region_law (first
        | (refine step_append_lies _ (by rfl) (.tmp 49) (.tmp 55) 23 (by rfl) u.heap.size 9 aV _ 1 16 underlying23 I.out.1 I.out.2.1 I.out.2.2.1 I.out.2.2.2 rfl zC (Zs aC m ab) m (N'.map Zt) (by rfl) (aP _) ⟨V3.heap.size,0,Zn⟩ 1 1 [Zt nm] (by rfl) rfl (World.news_of_block (heap_alloc_new V3.drew _)) (by simp[Value.oneCell']) zC (by unfold maxLen;omega) om zE (V3.heap.size+1) zS ?_;intro g cap v3 G k aj af;have P:=((k.block X zE (fun e=>by have:=fR M.out _ e.symm;omega)).trans (Zh _ _ _ (by simpa using aA))).trans aN.out.box;have ap:v3.cell? ⟨X,1,Zn⟩=Zo (Zs aC m ab):=(by simp[World.cell?,P]);have ag:v3.frozen? ⟨X,1,Zn⟩=false:=(by simp[World.frozen?,P])))
       all_goals
        have c:=iF.name (Wa:=V3.drew.alloc (Zc #[Zt nm] 9)) (one:=Zc #[Zt nm] 9) (x:=nm) (g:=g) (cap:=cap) aN.out aB.out om rfl ⟨rfl,rfl,rfl⟩ bJ (by rw[ad.out.1];exact G) k aj
        rw[ad.out.1]at c
        have E:=Lib.hid c
        clear c G k aj af P ap ag x1 fN
        go_wp2
        go_meet
        exact⟨rfl,rfl,_,_,E.out⟩
      case rest=>
       obtain⟨rfl,rfl,g,cap,c⟩:=hcut;obtain⟨J,aa⟩:=iw wc;rw[<- aa]at c ⊢;clear aa y1 y2 x1 fN;have br:=c.near.size;obtain⟨⟨y1,y2⟩,-⟩:=aO.out J c.near;obtain⟨kp,kq,u0,ua,ul,uc,ta,tl,tc,rfl,bE⟩:=bO;obtain⟨⟨q0,q1,q2⟩,aQ⟩:=bE J c.near;obtain⟨xs,O,F⟩:=c.kids;have al:=Lib.hid F;have HX:Hid (J.ownsRow u.heap.size 31 3 (Zs aw m R) m xs):=by rw[ad.out.2]at O;exact O
       have aS:∀o,(J.drew.alloc o).ownsRow u.heap.size 31 3 (Zs aw m R) m xs:=fun o=>HX.out.drew.alloc o;have x2:J.cell? ⟨X,2,Zn⟩=Zo (Zs aw m R):=kM c.box 2 _ rfl;have aD:=c.lt;have E:=Lib.hid c;have au:=Lib.hid aQ;clear c aQ bE O F M aP aN aA;go_wp2_with fail;go_region_law (first
        | (refine step_append_lies _ (by rfl) (.tmp 59) (.tmp 65) 29 (by rfl) u.heap.size 31 aW _ 3 56 underlying29 L.out.1 L.out.2.1 L.out.2.2.1 L.out.2.2.2 rfl zC (Zs aw m R) m xs (by rfl) (aS _) ⟨J.heap.size,0,Zn⟩ 1 1 [Zi Zk u0,Zs ua ul uc,Zs ta tl tc] (by rfl) rfl (World.news_of_block (heap_alloc_new J.drew _)) (by simp[Value.oneCell']) zC (by unfold maxLen;omega) om zE (J.heap.size+1) zS ?_;intro g2 D v3 r f H ar;have T:=((f.block X zE (fun e=>by have:=fR HX.out _ e.symm;omega)).trans (Zh _ _ _ (by simpa using aD))).trans E.out.box;have ax:v3.cell? ⟨X,2,Zn⟩=Zo (Zs aw m R):=(by simp[World.cell?,T]);have ay:v3.frozen? ⟨X,2,Zn⟩=false:=(by simp[World.frozen?,T])))
       all_goals
        have hF:=iF.kid (Wa:=J.drew.alloc (Zc #[Zi Zk u0,Zs ua ul uc,Zs ta tl tc] 31)) (one:=Zc #[Zi Zk u0,Zs ua ul uc,Zs ta tl tc] 31) (g:=g2) (cap:=D) (xs:=xs) E.out aB.out om au.out rfl ⟨rfl,rfl,rfl⟩ (by rw[ad.out.2];exact HX.out) al.out (by rw[ad.out.2];exact r) f H
        rw[ad.out.2]at hF
        have HF:=Lib.hid hF
        clear hF r f H ar ax ay T x2 aS al HX E au
        go_wp2
        go_roundw
        case rel=>
         refine⟨j+1,db,N'++[nm],Q'++[kx],Zo ⟨g,0,Zn⟩,cap,Zo ⟨g2,0,Zn⟩,D,om,by go_num,rfl,bg.out,?_⟩
         rw[mc nm ad.out.1]
         exact HF.out
        case measure=>simp[intOf];omega
  ·have aU:j=Y:=by omega
   have bX:¬(j:Int)<(Y:Int):=om;have bn:=a7 (HD.out hI aU);have t:=Lib.hid hG;have bT:l<=40:=om;cases d with
   | true=>have HF:=Lib.hid (az.out _ _ _ _ _ hG om om);obtain⟨⟨p0,p1,p2⟩,-⟩:=fM hG.box;obtain⟨⟨r0,r1,r2⟩,f0,f1,f2⟩:=fM ah;have aZ:=a7 (bn.out.1 rfl);clear hG ah hI aU aH bb aX az;go_wp2_with fail;refine bodyPost_ret (v:=Za #[Zi Zk 5,Zs an l C,Zs ak l A]) (by simp[results,results107,go_sem,r0,r1,r2]) rfl ?_;rw[aZ.out];exact HF.out
   | false=>
    have aZ:=a7 (bn.out.2 rfl);obtain⟨V1,aG⟩:=iw wr;rw[<- aG]at t y1 ⊢;clear hG ah hI aU aH bb aX aG y2;have x1:V1.cell? ⟨X,1,Zn⟩=Zo (Zs an l C):=kM t.out.box 1 _ rfl;have M:Hid (V1.ownsRow u.heap.size 9 1 (Zs an l C) l (N.map Zt)):=by have:=t.out.names;rw[Z.out.1]at this;exact this
    have aA:X<V1.heap.size:=t.out.lt;have bo:=t.out.near.size;go_wp2_with (at_builtin;refine wpList_append_lies _ rfl (.tmp 71) (.tmp 73) 23 rfl u.heap.size 9 aV _ 1 16 underlying23 I.out.1 I.out.2.1 I.out.2.2.1 I.out.2.2.2 rfl zC (Zs an l C) l (N.map Zt) rfl (M.out.alloc _) ⟨V1.heap.size,0,Zn⟩ 1 1 [Zt x] rfl rfl (World.news_of_block (heap_alloc_new V1 _)) (by simp[Value.oneCell']) zC (by unfold maxLen;omega) om zE (V1.heap.size+1) zS ?_;intro g cap v3 G k aj af;refine Hid.out ?_);refine Lib.hid ?_;have c:=iF.name (Wa:=V1.alloc (Zc #[Zt x] 9)) (one:=Zc #[Zt x] 9) (x:=x) (g:=g) (cap:=cap) t.out aB.out om rfl ⟨rfl,rfl,rfl⟩ (by have:=bw.out;omega) (by rw[Z.out.1];exact G) k aj;rw[Z.out.1]at c;have P:=((k.block X zE (fun e=>by have:=fR M.out _ e.symm;omega)).trans (Zh _ _ _ (by simpa using aA))).trans t.out.box;have ap:v3.cell? ⟨X,1,Zn⟩=Zo (Zs an l C):=by simp[World.cell?,P]
    have ag:v3.frozen? ⟨X,1,Zn⟩=false:=by simp[World.frozen?,P]
    obtain⟨J,aa⟩:=iw (v3.setCell ⟨X,1,Zn⟩ (Zs (Zo ⟨g,0,Zn⟩) (l+1) cap));rw[<- aa]at c;obtain⟨⟨k0,k1,k2⟩,aI⟩:=bH.out J c.near;obtain⟨xs,O,F⟩:=c.kids;have al:=Lib.hid F;have HX:Hid (J.ownsRow u.heap.size 31 3 (Zs ak l A) l xs):=by rw[Z.out.2]at O;exact O
    have x2:J.cell? ⟨X,2,Zn⟩=Zo (Zs ak l A):=kM c.box 2 _ rfl;have aD:=c.lt;have br:=c.near.size;have E:=Lib.hid c;have au:=Lib.hid aI;clear c G k aj af P x1 M O F aI;go_upto_region 15 with fail;rw[<- aa];clear aa ap ag;go_wp2_with (at_builtin;refine wpList_append_lies _ rfl (.tmp 77) (.tmp 79) 29 rfl u.heap.size 31 aW _ 3 56 underlying29 L.out.1 L.out.2.1 L.out.2.2.1 L.out.2.2.2 rfl zC (Zs ak l A) l xs rfl (HX.out.alloc _) ⟨J.heap.size,0,Zn⟩ 1 1 [Zi Zk d0,Zs da dl dc,Zs ea el ec] rfl rfl (World.news_of_block (heap_alloc_new J _)) (by simp[Value.oneCell']) zC (by unfold maxLen;omega) om zE (J.heap.size+1) zS ?_;intro g2 D v4 r f H ar;refine Hid.out ?_);refine Lib.hid ?_;have hF:=iF.kid (Wa:=J.alloc (Zc #[Zi Zk d0,Zs da dl dc,Zs ea el ec] 31)) (one:=Zc #[Zi Zk d0,Zs da dl dc,Zs ea el ec] 31) (g:=g2) (cap:=D) (xs:=xs) E.out aB.out om au.out rfl ⟨rfl,rfl,rfl⟩ (by rw[Z.out.2];exact HX.out) al.out (by rw[Z.out.2];exact r) f H;rw[Z.out.2]at hF;have T:=((f.block X zE (fun e=>by have:=fR HX.out _ e.symm;omega)).trans (Zh _ _ _ (by simpa using aD))).trans E.out.box;have ax:v4.cell? ⟨X,2,Zn⟩=Zo (Zs ak l A):=by simp[World.cell?,T]
    have ay:v4.frozen? ⟨X,2,Zn⟩=false:=by simp[World.frozen?,T]
    have HF:=Lib.hid (az.out _ _ _ _ _ hF (by rw[mc x Z.out.1];omega) (by rw[mc xk Z.out.2];omega));have bc:=hF.near;obtain⟨V5,be⟩:=iw (v4.setCell ⟨X,2,Zn⟩ (Zs (Zo ⟨g2,0,Zn⟩) (l+1) D));rw[<- be]at HF bc hF;obtain⟨⟨p0,p1,p2⟩,-⟩:=fM hF.box;obtain⟨-,ah⟩:=aO.out V5 bc;obtain⟨⟨r0,r1,r2⟩,f0,f1,f2⟩:=fM ah;clear hF r f H ar T HX E au al x2 ah bc az;go_upto_region 16 with fail;rw[<- be];clear be ax ay;go_wp2_with fail;refine bodyPost_ret (v:=Za #[Zi Zk 5,Zs (Zo ⟨g,0,Zn⟩) (l+1) cap,Zs (Zo ⟨g2,0,Zn⟩) (l+1) D]) (by simp[results,results107,go_sem,r0,r1,r2]) rfl ?_;rw[aZ.out];exact HF.out
end Go.Proofs.YtcfojmaccikgeaaGreatDoor
