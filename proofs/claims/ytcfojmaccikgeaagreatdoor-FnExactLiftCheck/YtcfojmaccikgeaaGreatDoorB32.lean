import Derived.Test.YtcfojmaccikgeaaGreatDoorB31
open Go.Value renaming slice→Zs,int→Zi,string→Zt,agg→Za,bool→Zb
open Go.IntKind renaming i64→Zk
open Go.Obj renaming cells→Zc
open Option renaming none→Zn,some→Zo
open Go.RowKit.Below renaming heap_alloc→Zh
namespace Go.Proofs.YtcfojmaccikgeaaGreatDoor
open Go.RowKit Go.Proofs.Tryz
set_option maxRecDepth 100000
set_option maxHeartbeats 16000000
variable {n j:Nat} {α:Type} {s:ZN} {NA N:List ZN} {d:Bool}
theorem gO.up{S:ZP}{w:World}{L:Nat}{l:List (K n)}{v:Value}(h:gO S w (a8 S w n) l v)(m:n<=L+1):gO S w (a8 S w (L+1)) (l.map (fO L n)) v:=by
 obtain⟨f,cap,t,s,q⟩:=h;refine⟨f,cap,by rw[List.length_map];exact t,by rw[List.length_map];exact s,fun d=>?_⟩;obtain⟨b,off,o,p,a⟩:=q (fun e=>d (by rw[e];rfl));refine⟨b,off,o,p,fun i hi=>?_⟩;have c:i<l.length:=by rw[List.length_map]at hi;exact hi
 obtain⟨c0,c1,c2,g,j,k,r⟩:=a i c;exact⟨c0,c1,c2,g,j,k,by rw[List.getElem_map];exact r.cp m⟩
theorem Fu(s:ZN):∀(b:List ZN)(a:List α),(iK s b a).1.length=(iK s b a).2.length/\(iK s b a).1.length<=b.length:=by
 intro b;induction b with
 | nil=>intro a;simp[iK]
 | cons n b c=>
  intro a;cases a with
  | nil=>simp[iK]
  | cons k a=>
   have:=c a;unfold iK;by_cases h:n=s;·rw[if_pos h];simp only[List.length_cons];omega
   ·rw[if_neg h];simp only[List.length_cons];omega
theorem CP (s:ZN):∀ (b:List ZN) (a:List α) (j:Nat) (c:j<b.length) (d:j<a.length),
  iK s (b.take (j+1)) (a.take (j+1))=if b[j]=s then iK s (b.take j) (a.take j) else ((iK s (b.take j) (a.take j)).1++[b[j]],(iK s (b.take j) (a.take j)).2++[a[j]]):=by
 intro b;induction b with
 | nil=>intro a j c;exact absurd c (Nat.not_lt_zero _)
 | cons n b f=>
  intro a j c d;cases a with
  | nil=>exact absurd d (Nat.not_lt_zero _)
  | cons k a=>
   cases j with
   | zero=>
    simp only[List.take_succ_cons,List.take_zero,List.getElem_cons_zero,iK];by_cases h:n=s;·rw[if_pos h,if_pos h]
    ·rw[if_neg h,if_neg h];rfl
   | succ j=>
    have:=f a j (by simpa using c) (by simpa using d);simp only[List.take_succ_cons,List.getElem_cons_succ]at this ⊢;simp only[iK];rw[this];by_cases h:n=s;·simp only[if_pos h]
    ·simp only[if_neg h];by_cases e:b[j]'(by simpa using c)=s;·simp only[if_pos e]
     ·simp only[if_neg e,List.cons_append]
theorem yK (n:Nat) (S:ZP) (so:Int) (c:List ZN) (k:List (K n)) (na ka:ZO) (F E y Y:Nat) (x:ZN) (w:World) (h1:fL S w c (Zs na y F)) (h2:gO S w (a8 S w n) k (Zs ka Y E)) (hB:Bd S w)
  (aN:c.length=y) (aQ:k.length=Y) (ax:y=Y) (bo:y<=39) (aT:∀s,s∈c->s.size<=8) :
  Calls prog 106 #[Za #[Zi Zk so,Zs na y F,Zs ka Y E],Zt x] w (rf S (n+1) (⟨5,(iK x c k).1,(iK x c k).2⟩:Kd (K n)) w):=by
 obtain⟨l,A⟩:=ii (((w.alloc (Zc #[Zi Zk so,Zs na y F,Zs ka Y E] 31)).alloc (Zc #[Zi Zk 0,Zs Zn 0 0,Zs Zn 0 0] 31)).alloc (Zc #[Zi Zk 5,Zs Zn 0 0,Zs Zn 0 0] 31));have m:Bw w l:=by rw[A];exact ((gx _ _).alloc zS _).alloc zE _
 have az:l.heap.size=w.heap.size+3:=by rw[A];simp
 obtain⟨X,hX⟩:=ii (w.heap.size+1+1);have aU:l.heap[w.heap.size]?=Zo (Zc #[Zi Zk so,Zs na y F,Zs ka Y E] 31 (0,0)):=by rw[A,Zh _ _ _ zE,Zh _ _ _ zS];exact heap_alloc_new _ _
 have aV:l.heap[w.heap.size+1]?=Zo (Zc #[Zi Zk 0,Zs Zn 0 0,Zs Zn 0 0] 31 (0,0)):=by have:=heap_alloc_new (w.alloc (Zc #[Zi Zk so,Zs na y F,Zs ka Y E] 31)) (Zc #[Zi Zk 0,Zs Zn 0 0,Zs Zn 0 0] 31);rw[A,Zh _ _ _ zS];simpa using this
 have aW:l.heap[X]?=Zo (Zc #[Zi Zk 5,Zs Zn 0 0,Zs Zn 0 0] 31 (0,0)):=by have:=heap_alloc_new ((w.alloc (Zc #[Zi Zk so,Zs na y F,Zs ka Y E] 31)).alloc (Zc #[Zi Zk 0,Zs Zn 0 0,Zs Zn 0 0] 31)) (Zc #[Zi Zk 5,Zs Zn 0 0,Zs Zn 0 0] 31);rw[A,hX];simpa using this
 have bq:=Nat.le_of_eq hX.symm;have br:=Nat.le_of_eq hX;have bz:=Nat.le_of_eq az.symm;have bA:=Nat.le_of_eq az;have aE:Hid (∀b,S b->b<l.heap.size/\b≠X):=fun b G=>by have:=hB b G;exact⟨om,om⟩
 have ab:∀W,b8 X l W->∀b,S b->W.heap[b]?=w.heap[b]?:=fun W hW b G=>by have:=hB b G;exact (hW.block b om om).trans (m.block b this)
 have aA:Hid (∀W,b8 X l W->(W.cell? ⟨w.heap.size,1,Zn⟩=Zo (Zs na y F)/\W.cell? ⟨w.heap.size,2,Zn⟩=Zo (Zs ka Y E))/\W.heap[w.heap.size+1]?=Zo (Zc #[Zi Zk 0,Zs Zn 0 0,Zs Zn 0 0] 31 (0,0))):=fun W hW=>by have e1:=(hW.block w.heap.size om om).trans aU;have e2:=(hW.block (w.heap.size+1) om om).trans aV;exact⟨⟨ls e1 1 _ rfl,ls e1 2 _ rfl⟩,e2⟩
 have bd:Hid (∀i (hi:i<c.length),(∃p q,na=Zo ⟨p,q,Zn⟩/\∀W,b8 X l W->W.cell? ⟨p,q+i,Zn⟩=Zo (Zt c[i]))/\c[i].size<=10000):=fun i hi=>by
  obtain⟨ao,cap,he,-,-,hc⟩:=id h1;obtain⟨b,off,ar,G,C⟩:=hc (fun e=>by rw[e]at hi;simp at hi);have M:na=ao:=by simpa using congrArg (fun v=>match v with|Value.slice a _ _=>a|_=>Zn) he
  exact⟨⟨b,off,M.trans ar,fun W hW=>(World.cell?_of_block (a:=⟨b,off+i,Zn⟩) (ab W hW b G)).trans (C i hi)⟩,by have:=aT _ (List.getElem_mem hi);omega⟩
 have bc:Hid (∀i (hi:i<k.length),∃p q u0 ua ul uc ta tl tc,ka=Zo ⟨p,q,Zn⟩/\∀W,b8 X l W->(W.cell? ⟨p,q+i*3,Zn⟩=Zo (Zi Zk u0)/\W.cell? ⟨p,q+i*3+1,Zn⟩=Zo (Zs ua ul uc)/\W.cell? ⟨p,q+i*3+2,Zn⟩=Zo (Zs ta tl tc))/\a8 S W n k[i] (Zi Zk u0) (Zs ua ul uc) (Zs ta tl tc)):=fun i hi=>by
  obtain⟨ao,cap,he,-,hc⟩:=id h2;obtain⟨b,off,ar,G,C⟩:=hc (fun e=>by rw[e]at hi;simp at hi);have M:ka=ao:=by simpa using congrArg (fun v=>match v with|Value.slice a _ _=>a|_=>Zn) he
  obtain⟨c0,c1,c2,q0,q1,q2,hk⟩:=C i hi;obtain⟨u0,ua,ul,uc,ta,tl,tc,rfl,rfl,rfl⟩:=hk.shape;refine⟨b,off,u0,ua,ul,uc,ta,tl,tc,M.trans ar,fun W hW=>?_⟩;have e:=ab W hW b G;exact⟨⟨(World.cell?_of_block (a:=⟨b,off+i*3,Zn⟩) e).trans q0,(World.cell?_of_block (a:=⟨b,off+i*3+1,Zn⟩) e).trans q1,(World.cell?_of_block (a:=⟨b,off+i*3+2,Zn⟩) e).trans q2⟩,hk.keep (ab W hW) (fun _ h=>h)⟩
 have ad:Hid (∀(W:World)(ns:List ZN)(ks:List (K n))(nv kv:Value),iE S X n l W 5 ns ks nv kv->ns.length<=39->ks.length<=39->rf S (n+1) (⟨5,ns,ks⟩:Kd (K n)) w (.returned (Za #[Zi Zk 5,nv,kv])) (((W.setCell ⟨w.heap.size+1,0,Zn⟩ (Zi Zk 5)).setCell ⟨w.heap.size+1,1,Zn⟩ nv).setCell ⟨w.heap.size+1,2,Zn⟩ kv)):=fun W ns ks nv kv t hn hk=>by
  have P:=t.near;have bw:=P.size;have bh:Bw w W:=⟨P.os.trans m.os,P.tape.trans m.tape,P.output.trans m.output,om,fun b G=>(P.block b om om).trans (m.block b G)⟩;refine⟨iG bh om,_,_,_,rfl,t.kind (B:=w.heap.size) rfl (fun b G=>gS ?_) (by rw[oP];exact Nat.le_refl _) om om om⟩;rcases G with G|G;·omega
  ·have:=hB b G;omega
 have be:=a7 aW;have HC:=a7 (CP x c k);have bb:=a7 (fun j=>Fu x (c.take j) (k.take j));have ac:Hid (iK x c k=iK x (c.take y) (k.take y)):=by show _=_;rw[List.take_of_length_le om,List.take_of_length_le om]
 have aD:Hid (c.length=y/\k.length=Y):=⟨aN,aQ⟩;have bm:=Nat.le_of_eq ax;have bn:=Nat.le_of_eq ax.symm;obtain⟨bj,N,R,T,U⟩:=info_parts Tryz.info_kindD;have Z:Hid (_/\_/\_/\_):=⟨N,R,T,U⟩;clear N R T U;obtain⟨bk,N,R,T,U⟩:=info_parts Tryz.info_strD;have aa:Hid (_/\_/\_/\_):=⟨N,R,T,U⟩;rw[ac.out];clear N R T U h1 h2 hB aT az aU aV aW m ab aN aQ ax ac;go_in;go_wp2_with fail;rw[<- A,<- hX];clear A hX;go_loopw [6] (fun iv wr=>∃(j:Nat)(an:ZO)(z:Nat)(ak:ZO)(r:Nat),j<=y/\iv=Zi Zk j/\iE S X n l wr 5 (iK x (c.take j) (k.take j)).1 (iK x (c.take j) (k.take j)).2 (Zs an (iK x (c.take j) (k.take j)).1.length z) (Zs ak (iK x (c.take j) (k.take j)).1.length r)) (fun iv _=>y-(intOf iv).toNat);case atStart=>exact⟨0,Zn,0,Zn,0,Nat.zero_le _,rfl,iE.start be.out⟩
 case round=>
  obtain⟨j,an,z,ak,r,hj,rfl,t⟩:=hrel;have aq:=bb.out j;have aS:(c.take j).length<=j:=by rw[List.length_take];omega
  obtain⟨⟨y1,y2⟩,V⟩:=aA.out wr t.near;by_cases bu:j<y
  ·have aH:j<c.length:=by have:=aD.out.1;omega
   have aG:j<k.length:=by have:=aD.out.2;omega
   have I:=a7 (HC.out j aH aG);obtain⟨⟨np,nq,rfl,aw⟩,aR⟩:=bd.out j aH;have fN:=aw _ t.near;have bt:(j:Int)<(y:Int):=om;have bv:(j:Int)<(Y:Int):=om;obtain⟨acc,ae⟩:∃acc,iK x (c.take j) (k.take j)=acc:=⟨_,rfl⟩;rw[ae]at t aq I;obtain⟨f,O⟩:∃f,acc.1.length=f:=⟨_,rfl⟩;have HL:Hid (acc.1.length=f/\acc.2.length=f):=⟨O,om⟩;rw[O]at t;have bl:f<=39:=om;clear ae O aq aS;by_cases hx:c[j]=x
   ·have J:Hid (iK x (c.take (j+1)) (k.take (j+1))=acc):=by show _=_;rw[I.out,if_pos hx]
    have bi:(x.toList==x.toList)=true:=zS;rw[hx]at fN;have HG:=Lib.hid t;clear t hx I aw V aR;go_wp2;go_roundw;case rel=>exact⟨j+1,an,z,ak,r,om,by go_num,by rw[J.out,HL.out.1];exact HG.out⟩
    case measure=>simp[intOf];omega
   ·have J:Hid (iK x (c.take (j+1)) (k.take (j+1))=(acc.1++[c[j]],acc.2++[k[j]])):=by show _=_;rw[I.out,if_neg hx]
    have bi:(c[j].toList==x.toList)=false:=by rw[beq_eq_false_iff_ne];intro e;exact hx (by rw[ByteArray.toList_eq,ByteArray.toList_eq]at e;exact WideShapes.bytes_inj e)
    have bf:=bc.out j aG;generalize k[j]=kx at *;generalize c[j]=nm at *;obtain⟨V1,aI⟩:=ii wr;rw[<- aI]at t fN y1 y2 V ⊢;have x1:=ls t.box 1 _ rfl;have ap:Hid (V1.ownsRow l.heap.size 9 1 (Zs an f z) f (acc.1.map Zt)):=by have:=t.names;rw[HL.out.1]at this;exact this
    have al:∀o,(V1.drew.alloc o).ownsRow l.heap.size 9 1 (Zs an f z) f (acc.1.map Zt):=fun o=>ap.out.drew.alloc o;have aK:=t.lt;have bB:=t.near.size;have am:=Lib.hid t;clear t aI hx I aw V;go_upto_region 6 with fail;go_cut [6] from 8 to 41 (fun iv wx=>iv=Zi Zk j/\∃g cap,iE S X n l wx 5 (acc.1++[nm]) acc.2 (Zs (Zo ⟨g,0,Zn⟩) (f+1) cap) (Zs ak f r));case first=>
     go_region_law (first
      | (refine step_append_lies _ (by rfl) (.tmp 23) (.tmp 29) 23 (by rfl) l.heap.size 9 bk _ 1 16 underlying23 aa.out.1 aa.out.2.1 aa.out.2.2.1 aa.out.2.2.2 rfl zC (Zs an f z) f (acc.1.map Zt) (by rfl) (al _) ⟨V1.heap.size,0,Zn⟩ 1 1 [Zt nm] (by rfl) rfl (World.news_of_block (heap_alloc_new V1.drew _)) (by simp[Value.oneCell']) zC (by unfold maxLen;omega) om zE (V1.heap.size+1) zS ?_;intro g cap v3 ai D aL aP;have au:=((D.block X zE (fun e=>by have:=fU ap.out _ e.symm;omega)).trans (Zh _ _ _ (by simpa using aK))).trans am.out.box;have aX:v3.cell? ⟨X,1,Zn⟩=Zo (Zs an f z):=(by simp[World.cell?,au]);have aZ:v3.frozen? ⟨X,1,Zn⟩=false:=(by simp[World.frozen?,au])))
     all_goals
      have d:=iE.name (Wa:=V1.drew.alloc (Zc #[Zt nm] 9)) (one:=Zc #[Zt nm] 9) (x:=nm) (g:=g) (cap:=cap) am.out aE.out om rfl ⟨rfl,rfl,rfl⟩ aR (by rw[HL.out.1];exact ai) D aL
      rw[HL.out.1]at d
      have H:=Lib.hid d
      clear d ai D aL aP au aX aZ x1 fN
      go_wp2
      go_meet
      exact⟨rfl,_,_,H.out⟩
    case rest=>
     obtain⟨rfl,g,cap,d⟩:=hcut;obtain⟨V2,aJ⟩:=ii wc;rw[<- aJ]at d ⊢;clear aJ y1 y2 x1 fN;have bx:=d.near.size;obtain⟨⟨y1,y2⟩,-⟩:=aA.out V2 d.near;obtain⟨kp,kq,u0,ua,ul,uc,ta,tl,tc,rfl,aF⟩:=bf;obtain⟨⟨q0,q1,q2⟩,ag⟩:=aF V2 d.near;obtain⟨xs,ay,ah⟩:=d.kids;have aC:=Lib.hid ah;have HX:Hid (V2.ownsRow l.heap.size 31 3 (Zs ak f r) f xs):=by rw[HL.out.2]at ay;exact ay
     have aj:∀o,(V2.drew.alloc o).ownsRow l.heap.size 31 3 (Zs ak f r) f xs:=fun o=>HX.out.drew.alloc o;have x2:=ls d.box 2 _ rfl;have bg:=d.lt;have H:=Lib.hid d;have aB:=Lib.hid ag;clear d ag aF ay ah ap al am aK;go_wp2_with fail;go_region_law (first
      | (refine step_append_lies _ (by rfl) (.tmp 33) (.tmp 39) 29 (by rfl) l.heap.size 31 bj _ 3 56 underlying29 Z.out.1 Z.out.2.1 Z.out.2.2.1 Z.out.2.2.2 rfl zC (Zs ak f r) f xs (by rfl) (aj _) ⟨V2.heap.size,0,Zn⟩ 1 1 [Zi Zk u0,Zs ua ul uc,Zs ta tl tc] (by rfl) rfl (World.news_of_block (heap_alloc_new V2.drew _)) (by simp[Value.oneCell']) zC (by unfold maxLen;omega) om zE (V2.heap.size+1) zS ?_;intro g2 L v3 Q u af aO;have av:=((u.block X zE (fun e=>by have:=fU HX.out _ e.symm;omega)).trans (Zh _ _ _ (by simpa using bg))).trans H.out.box;have aY:v3.cell? ⟨X,2,Zn⟩=Zo (Zs ak f r):=(by simp[World.cell?,av]);have ba:v3.frozen? ⟨X,2,Zn⟩=false:=(by simp[World.frozen?,av])))
     all_goals
      have hF:=iE.kid (Wa:=V2.drew.alloc (Zc #[Zi Zk u0,Zs ua ul uc,Zs ta tl tc] 31)) (one:=Zc #[Zi Zk u0,Zs ua ul uc,Zs ta tl tc] 31) (g:=g2) (cap:=L) (xs:=xs) H.out aE.out om aB.out rfl ⟨rfl,rfl,rfl⟩ (by rw[HL.out.2];exact HX.out) aC.out (by rw[HL.out.2];exact Q) u af
      rw[HL.out.2]at hF
      have HF:=Lib.hid hF
      clear hF Q u af aO aY ba av x2 aj aC HX H aB
      go_wp2
      go_roundw
      case rel=>
       refine⟨j+1,Zo ⟨g,0,Zn⟩,cap,Zo ⟨g2,0,Zn⟩,L,om,by go_num,?_⟩
       rw[J.out]
       show iE S X n l _ 5 (acc.1++[nm]) (acc.2++[kx]) (Zs _ (acc.1++[nm]).length cap) (Zs _ (acc.1++[nm]).length L)
       rw[show (acc.1++[nm]).length=f+1 by rw[List.length_append,HL.out.1];rfl]
       exact HF.out
      case measure=>simp[intOf];omega
  ·have aM:j=y:=by omega
   have bp:¬(j:Int)<(y:Int):=om;have O:(iK x (c.take j) (k.take j)).1.length<=39:=om;have HF:=Lib.hid (ad.out _ _ _ _ _ t O om);obtain⟨⟨p0,p1,p2⟩,-⟩:=fY t.box;obtain⟨⟨r0,r1,r2⟩,f0,f1,f2⟩:=fY V;generalize (iK x (c.take j) (k.take j)).1.length=f at *;rw[aM]at HF;clear t aq aM V aS ad;go_wp2_with fail;refine bodyPost_ret (v:=Za #[Zi Zk 5,Zs an f z,Zs ak f r]) (by simp[results,results106,go_sem,r0,r1,r2]) rfl ?_;exact HF.out
def nH{α:Type}(s:ZN)(x:α)(a:List ZN)(b:List α)(j:Nat)(d:Bool)(N:List ZN)(Q:List α):Prop:=
 N.length=Q.length/\N.length<=j+1/\(d=false->N.length<=j/\N=a.take j/\Q=b.take j/\∀i (h:i<a.length),i<j->kN a[i] s=true) /\
  (d=true->ix s x a b=(N++a.drop j,Q++b.drop j)/\∀i (h:i<a.length),j<=i->a[i]≠s)
theorem nH.start(s:ZN)(x:α)(b:List ZN)(a:List α):nH s x b a 0 false [] []:=
 ⟨rfl,zS,fun _=>⟨zS,rfl,rfl,fun i _ h=>absurd h (Nat.not_lt_zero _)⟩,fun h=>by cases h⟩
theorem nH.round {x:α} {c:List α} {Q:List α} (h:nH s x NA c j d N Q) (C:NA.length=c.length) (A:uv NA) (q:j<NA.length) (v:j<c.length) :
  (¬(d=false/\kN NA[j] s=false)->NA[j]≠s/\nH s x NA c (j+1) d (N++[NA[j]]) (Q++[c[j]])) /\
  ((d=false/\kN NA[j] s=false)->(NA[j]=s->nH s x NA c (j+1) true (N++[s]) (Q++[x]))/\(NA[j]≠s->nH s x NA c (j+1) true ((N++[s])++[NA[j]]) ((Q++[x])++[c[j]]))):=by
 obtain⟨p,F,u,z⟩:=h;have l:=List.drop_eq_getElem_cons q;have k:=List.drop_eq_getElem_cons v;have f:∀i (h:i<NA.length),j+1<=i->kN NA[j] NA[i]=true:=fun i hi B=>(List.pairwise_iff_getElem.1 A) j i q hi om;refine⟨fun D=>?_,fun E=>?_⟩
 ·cases d with
  | false=>
   obtain⟨y,m,g,r⟩:=u rfl;have b:kN NA[j] s=true:=by
    cases hb:kN NA[j] s with
    | true=>rfl
    | false=>exact absurd ⟨rfl,hb⟩ D
   refine⟨vF b,by simp[p],zE,fun _=>⟨zE,?_,?_,fun i hi a=>?_⟩,fun h=>by cases h⟩;·rw[m,List.take_append_getElem q]
   ·rw[g,List.take_append_getElem v]
   ·by_cases e:i=j;·subst e;exact b
    ·exact r i hi om
  | true=>obtain⟨m,g⟩:=z rfl;refine⟨g j q (Nat.le_refl _),by simp[p],zE,fun h=>(by cases h),fun _=>⟨?_,fun i hi a=>g i hi om⟩⟩;rw[m,l,k,List.append_assoc,List.append_assoc];rfl
 ·obtain⟨rfl,b⟩:=E;obtain⟨y,m,g,r⟩:=u rfl;have o:=oU s x NA c j C om r;have w:N.length+1=Q.length+1:=om;refine⟨fun n=>?_,fun t=>?_⟩
  ·refine⟨by simp[p],zE,fun h=>(by cases h),fun _=>⟨?_,fun i hi a e=>?_⟩⟩;·rw[o,l,k,Im s x _ _ _ _ n,<- m,<- g,List.append_assoc,List.append_assoc];rfl
   ·have:=f i hi a;rw[n,e,tD]at this;cases this
  ·refine⟨by simp[p],zE,fun h=>(by cases h),fun _=>⟨?_,fun i hi a e=>?_⟩⟩;·rw[o,l,k,Cl s x _ _ _ _ (by rw[b];simp) t,<- m,<- g];simp
   ·have:=f i hi a;rw[e,b]at this;cases this
theorem nH.done {x:α} {a:List α} {Q:List α} (h:nH s x NA a j d N Q) (e:NA.length=a.length) (m:j=NA.length) :
  (d=true->ix s x NA a=(N,Q))/\(d=false->ix s x NA a=(N++[s],Q++[x])):=by
 subst m;obtain⟨p,q,k,l⟩:=h;refine⟨fun c=>?_,fun c=>?_⟩;·have:=(l c).1;rw[List.drop_length,e,List.drop_length,List.append_nil,List.append_nil]at this;exact this
 ·obtain⟨o,f,g,i⟩:=k c;have b:=oU s x NA a NA.length e (Nat.le_refl _) i;have n:a.drop NA.length=[]:=by rw[e];exact List.drop_length
  rw[List.drop_length,n,Gx]at b;rw[b,f,g]
theorem lV{l:List α}(x:α)(h:l.length=n):(l++[x]).length=n+1:=by rw[List.length_append,h];rfl
theorem yM (n:Nat) (S:ZP) (so:Int) (y:List ZN) (T:List (K n)) (xk:K n) (na ka:ZO) (ap am Z ma:Nat) (d0:Int) (da ea:ZO) (dl dc el ec:Nat) (x:ZN) (w:World) (h1:fL S w y (Zs na Z ap)) (h2:gO S w (a8 S w n) T (Zs ka ma am)) (h3:a8 S w n xk (Zi Zk d0) (Zs da dl dc) (Zs ea el ec)) (hB:Bd S w)
  (bx:y.length=Z) (bz:T.length=ma) (bd:Z=ma) (bV:Z<=39) (bA:∀s,s∈y->s.size<=8) (bE:x.size<=8) (aO:uv y) :
  Calls prog 107 #[Za #[Zi Zk so,Zs na Z ap,Zs ka ma am],Zt x,Za #[Zi Zk d0,Zs da dl dc,Zs ea el ec]] w (rf S (n+1) (⟨5,(ix x xk y T).1,(ix x xk y T).2⟩:Kd (K n)) w):=by
 obtain⟨u,af⟩:=ii ((((w.alloc (Zc #[Zi Zk so,Zs na Z ap,Zs ka ma am] 31)).alloc (Zc #[Zi Zk d0,Zs da dl dc,Zs ea el ec] 31)).alloc (Zc #[Zi Zk 0,Zs Zn 0 0,Zs Zn 0 0] 31)).alloc (Zc #[Zi Zk 5,Zs Zn 0 0,Zs Zn 0 0] 31));have ab:Bw w u:=by rw[af];exact (((gx _ _).alloc zS _).alloc zE _).alloc zE _
 have be:u.heap.size=w.heap.size+4:=by rw[af];simp
 obtain⟨X,hX⟩:=ii (w.heap.size+1+1+1);have bB:u.heap[w.heap.size]?=Zo (Zc #[Zi Zk so,Zs na Z ap,Zs ka ma am] 31 (0,0)):=by rw[af,Zh _ _ _ zE,Zh _ _ _ zE,Zh _ _ _ zS];exact heap_alloc_new _ _
 have bF:u.heap[w.heap.size+1]?=Zo (Zc #[Zi Zk d0,Zs da dl dc,Zs ea el ec] 31 (0,0)):=by have:=heap_alloc_new (w.alloc (Zc #[Zi Zk so,Zs na Z ap,Zs ka ma am] 31)) (Zc #[Zi Zk d0,Zs da dl dc,Zs ea el ec] 31);rw[af,Zh _ _ _ zS,Zh _ _ _ zS];simpa using this
 have bC:u.heap[w.heap.size+1+1]?=Zo (Zc #[Zi Zk 0,Zs Zn 0 0,Zs Zn 0 0] 31 (0,0)):=by have:=heap_alloc_new ((w.alloc (Zc #[Zi Zk so,Zs na Z ap,Zs ka ma am] 31)).alloc (Zc #[Zi Zk d0,Zs da dl dc,Zs ea el ec] 31)) (Zc #[Zi Zk 0,Zs Zn 0 0,Zs Zn 0 0] 31);rw[af,Zh _ _ _ zS];simpa using this
 have bD:u.heap[X]?=Zo (Zc #[Zi Zk 5,Zs Zn 0 0,Zs Zn 0 0] 31 (0,0)):=by have:=heap_alloc_new (((w.alloc (Zc #[Zi Zk so,Zs na Z ap,Zs ka ma am] 31)).alloc (Zc #[Zi Zk d0,Zs da dl dc,Zs ea el ec] 31)).alloc (Zc #[Zi Zk 0,Zs Zn 0 0,Zs Zn 0 0] 31)) (Zc #[Zi Zk 5,Zs Zn 0 0,Zs Zn 0 0] 31);rw[af,hX];simpa using this
 have bX:w.heap.size+3<=X:=Nat.le_of_eq hX.symm;have bY:X<=w.heap.size+3:=Nat.le_of_eq hX;have cf:w.heap.size+4<=u.heap.size:=Nat.le_of_eq be.symm;have cg:u.heap.size<=w.heap.size+4:=Nat.le_of_eq be;have az:Hid (∀b,S b->b<u.heap.size/\b≠X):=fun b hb=>by have:=hB b hb;exact⟨om,om⟩
 have aC:∀W,b8 X u W->∀b,S b->W.heap[b]?=w.heap[b]?:=fun W hW b hb=>by have:=hB b hb;exact (hW.block b om om).trans (ab.block b this)
 have aM:Hid (∀W,b8 X u W->(W.cell? ⟨w.heap.size,1,Zn⟩=Zo (Zs na Z ap)/\W.cell? ⟨w.heap.size,2,Zn⟩=Zo (Zs ka ma am))/\W.heap[w.heap.size+1+1]?=Zo (Zc #[Zi Zk 0,Zs Zn 0 0,Zs Zn 0 0] 31 (0,0))):=fun W hW=>by have e1:=(hW.block w.heap.size om om).trans bB;have e2:=(hW.block (w.heap.size+1+1) om om).trans bC;exact⟨⟨ls e1 1 _ rfl,ls e1 2 _ rfl⟩,e2⟩
 have bm:Hid (∀W,b8 X u W->(W.cell? ⟨w.heap.size+1,0,Zn⟩=Zo (Zi Zk d0)/\W.cell? ⟨w.heap.size+1,1,Zn⟩=Zo (Zs da dl dc)/\W.cell? ⟨w.heap.size+1,2,Zn⟩=Zo (Zs ea el ec))/\a8 S W n xk (Zi Zk d0) (Zs da dl dc) (Zs ea el ec)):=fun W hW=>by have e1:=(hW.block (w.heap.size+1) om om).trans bF;exact⟨⟨ls e1 0 _ rfl,ls e1 1 _ rfl,ls e1 2 _ rfl⟩,h3.keep (aC W hW) (fun _ h=>h)⟩
 have bK:Hid (∀i (hi:i<y.length),(∃p q,na=Zo ⟨p,q,Zn⟩/\∀W,b8 X u W->W.cell? ⟨p,q+i,Zn⟩=Zo (Zt y[i]))/\y[i].size<=10000):=fun i hi=>by
  obtain⟨ao,cap,he,-,-,hc⟩:=id h1;obtain⟨b,off,ba,hb,av⟩:=hc (fun e=>by rw[e]at hi;simp at hi);have aF:na=ao:=by simpa using congrArg (fun v=>match v with|Value.slice a _ _=>a|_=>Zn) he
  exact⟨⟨b,off,aF.trans ba,fun W hW=>(World.cell?_of_block (a:=⟨b,off+i,Zn⟩) (aC W hW b hb)).trans (av i hi)⟩,by have:=bA _ (List.getElem_mem hi);omega⟩
 have bJ:Hid (∀i (hi:i<T.length),∃p q u0 ua ul uc ta tl tc,ka=Zo ⟨p,q,Zn⟩/\∀W,b8 X u W->(W.cell? ⟨p,q+i*3,Zn⟩=Zo (Zi Zk u0)/\W.cell? ⟨p,q+i*3+1,Zn⟩=Zo (Zs ua ul uc)/\W.cell? ⟨p,q+i*3+2,Zn⟩=Zo (Zs ta tl tc))/\a8 S W n T[i] (Zi Zk u0) (Zs ua ul uc) (Zs ta tl tc)):=fun i hi=>by
  obtain⟨ao,cap,he,-,hc⟩:=id h2;obtain⟨b,off,ba,hb,av⟩:=hc (fun e=>by rw[e]at hi;simp at hi);have aF:ka=ao:=by simpa using congrArg (fun v=>match v with|Value.slice a _ _=>a|_=>Zn) he
  obtain⟨c0,c1,c2,q0,q1,q2,hk⟩:=av i hi;obtain⟨u0,ua,ul,uc,ta,tl,tc,rfl,rfl,rfl⟩:=hk.shape;refine⟨b,off,u0,ua,ul,uc,ta,tl,tc,aF.trans ba,fun W hW=>?_⟩;have e:=aC W hW b hb;exact⟨⟨(World.cell?_of_block (a:=⟨b,off+i*3,Zn⟩) e).trans q0,(World.cell?_of_block (a:=⟨b,off+i*3+1,Zn⟩) e).trans q1,(World.cell?_of_block (a:=⟨b,off+i*3+2,Zn⟩) e).trans q2⟩,hk.keep (aC W hW) (fun _ h=>h)⟩
 have aw:Hid (∀(W:World)(ns:List ZN)(ks:List (K n))(nv kv:Value),iE S X n u W 5 ns ks nv kv->ns.length<=42->ks.length<=42->rf S (n+1) (⟨5,ns,ks⟩:Kd (K n)) w (.returned (Za #[Zi Zk 5,nv,kv])) (((W.setCell ⟨w.heap.size+1+1,0,Zn⟩ (Zi Zk 5)).setCell ⟨w.heap.size+1+1,1,Zn⟩ nv).setCell ⟨w.heap.size+1+1,2,Zn⟩ kv)):=fun W ns ks nv kv hG hn hk=>by
  have aJ:=hG.near;have ce:=aJ.size;have bN:Bw w W:=⟨aJ.os.trans ab.os,aJ.tape.trans ab.tape,aJ.output.trans ab.output,om,fun b hb=>(aJ.block b om om).trans (ab.block b hb)⟩;refine⟨iG bN om,_,_,_,rfl,hG.kind (B:=w.heap.size) rfl (fun b hb=>gS ?_) (by rw[oP];exact Nat.le_refl _) om om om⟩;rcases hb with hb|hb;·omega
  ·have:=hB b hb;omega
 have bL:Hid (u.heap[X]?=Zo (Zc #[Zi Zk 5,Zs Zn 0 0,Zs Zn 0 0] 31 (0,0))):=bD;have HR:Hid (∀ {j:Nat} {d:Bool} {N:List ZN} {Q:List (K n)},nH x xk y T j d N Q->∀(hj:j<y.length)(hk:j<T.length),(¬(d=false/\kN y[j] x=false)->y[j]≠x/\nH x xk y T (j+1) d (N++[y[j]]) (Q++[T[j]])) /\
  ((d=false/\kN y[j] x=false)->(y[j]=x->nH x xk y T (j+1) true (N++[x]) (Q++[xk]))/\(y[j]≠x->nH x xk y T (j+1) true ((N++[x])++[y[j]]) ((Q++[xk])++[T[j]])))):=fun h hj hk=>h.round om aO hj hk
 have HD:Hid (∀ {j:Nat} {d:Bool} {N:List ZN} {Q:List (K n)},nH x xk y T j d N Q->j=Z->(d=true->ix x xk y T=(N,Q))/\(d=false->ix x xk y T=(N++[x],Q++[xk]))):=fun h hj=>h.done om om;have bj:Hid (y.length=Z/\T.length=ma):=⟨bx,bz⟩;have bT:Z<=ma:=Nat.le_of_eq bd;have bU:ma<=Z:=Nat.le_of_eq bd.symm;have bl:=a7 bE;obtain⟨bf,aG,aK,aL,aj⟩:=info_parts Tryz.info_kindD;have H:Hid (_/\_/\_/\_):=⟨aG,aK,aL,aj⟩;clear aG aK aL aj;obtain⟨bg,aG,aK,aL,aj⟩:=info_parts Tryz.info_strD;have I:Hid (_/\_/\_/\_):=⟨aG,aK,aL,aj⟩;clear aG aK aL aj h1 h2 h3 hB bA be bB bC bD bF ab aC bx bz bd aO bE;go_in;go_wp2_with fail;rw[<- af,<- hX];clear af hX;go_loopw [8,9] (fun dv iv wr=>∃(j:Nat)(d:Bool)(N:List ZN)(Q:List (K n))(an:ZO)(A:Nat)(ak:ZO)(z:Nat),j<=Z/\iv=Zi Zk j/\dv=Zb d/\nH x xk y T j d N Q/\iE S X n u wr 5 N Q (Zs an N.length A) (Zs ak N.length z)) (fun _ iv _=>Z-(intOf iv).toNat);case atStart=>exact⟨0,false,[],[],Zn,0,Zn,0,Nat.zero_le _,rfl,rfl,nH.start _ _ _ _,iE.start bL.out⟩
 case round=>
  obtain⟨j,d,N,Q,an,A,ak,z,hj,rfl,rfl,hI,hG⟩:=hrel;have aX:=hI.1;have aY:=hI.2.1;obtain⟨⟨y1,y2⟩,al⟩:=aM.out wr hG.near;obtain⟨l,aI⟩:∃l,N.length=l:=⟨_,rfl⟩;have U:Hid (N.length=l/\Q.length=l):=⟨aI,om⟩;rw[aI]at hG;by_cases cb:j<Z
  ·have bq:j<y.length:=by have:=bj.out.1;omega
   have bo:j<T.length:=by have:=bj.out.2;omega
   have bk:=a7 (HR.out hI bq bo);obtain⟨⟨np,nq,rfl,bb⟩,bQ⟩:=bK.out j bq;have bI:=a7 bb;have fN:=bb _ hG.near;have ca:(j:Int)<(Z:Int):=om;have cc:(j:Int)<(ma:Int):=om;have bM:=bJ.out j bo;generalize T[j]=kx at *;generalize y[j]=nm at *;obtain⟨V1,aD⟩:=ii wr;rw[<- aD]at hG fN y1 y2 al ⊢;have t:=Lib.hid hG;have bS:l<=40:=om;have bZ:d=false/\kN nm x=false∨¬(d=false/\kN nm x=false):=Classical.em _;clear aD hI aX aY aI hG bb al;go_upto_region 6 with fail;go_cut [8,9,28] from 11 to 67 (fun dv iv bv wx=>dv=Zb d/\iv=Zi Zk j/\(∃b:Bool,bv=Zb b/\(b=true↔d=false/\kN nm x=false))/\wx=V1);case first=>
    cases d with
    | true=>go_wp2;go_meet;exact⟨rfl,rfl,⟨false,rfl,zS⟩,rfl⟩
    | false=>
     have HE:Hid ((!Op.bytesLess nm.toList x.toList)=true↔false=false/\kN nm x=false):=by show (!kN nm x)=true↔false=false/\kN nm x=false;cases kN nm x<;>simp
     go_wp2;go_meet;exact⟨rfl,rfl,⟨_,rfl,HE.out⟩,rfl⟩
   case rest=>
    obtain⟨rfl,rfl,⟨b,rfl,hb⟩,rfl⟩:=hcut;have bh:=a7 hb;clear hb fN;go_upto_if 28 with fail;go_cut [8,9] from 11 to 67 (fun dv iv wx=>iv=Zi Zk j/\∃(N':List ZN)(Q':List (K n))(an:ZO)(A:Nat)(ak:ZO)(z l:Nat),dv=Zb (d || b)/\N'.length=l/\Q'.length=l/\l<=41/\iE S X n u wx 5 N' Q' (Zs an l A) (Zs ak l z)/\(nm=x->nH x xk y T (j+1) (d || b) N' Q')/\(nm≠x->nH x xk y T (j+1) (d || b) (N'++[nm]) (Q'++[kx])));case first=>
     cases b with
     | false=>
      have bP:¬(d=false/\kN nm x=false):=fun h=>by have:=bh.out.2 h;cases this
      have HP:=a7 (bk.out.1 bP);go_wp2;go_meet;exact⟨rfl,N,Q,an,A,ak,z,l,zS,U.out.1,U.out.2,om,t.out,fun e=>absurd e HP.out.1,fun _=>by simpa using HP.out.2⟩
     | true=>
      have aj:=bh.out.1 rfl;have HP:=a7 (bk.out.2 aj);have hd:=aj.1;subst hd;have x1:wc.cell? ⟨X,1,Zn⟩=Zo (Zs an l A):=ls t.out.box 1 _ rfl;have L:Hid (wc.ownsRow u.heap.size 9 1 (Zs an l A) l (N.map Zt)):=by have:=t.out.names;rw[U.out.1]at this;exact this
      have aB:X<wc.heap.size:=t.out.lt;have bH:=t.out.near.size;go_wp2_with (at_builtin;refine wpList_append_lies _ rfl (.tmp 30) (.tmp 32) 23 rfl u.heap.size 9 bg _ 1 16 underlying23 I.out.1 I.out.2.1 I.out.2.2.1 I.out.2.2.2 rfl zC (Zs an l A) l (N.map Zt) rfl (L.out.alloc _) ⟨wc.heap.size,0,Zn⟩ 1 1 [Zt x] rfl rfl (World.news_of_block (heap_alloc_new wc _)) (by simp[Value.oneCell']) zC (by unfold maxLen;omega) om zE (wc.heap.size+1) zS ?_;intro g cap v3 G k ag ai;refine Hid.out ?_);refine Lib.hid ?_;have c:=iE.name (Wa:=wc.alloc (Zc #[Zt x] 9)) (one:=Zc #[Zt x] 9) (x:=x) (g:=g) (cap:=cap) t.out az.out om rfl ⟨rfl,rfl,rfl⟩ (by have:=bl.out;omega) (by rw[U.out.1];exact G) k ag;rw[U.out.1]at c;have O:=((k.block X zE (fun e=>by have:=fU L.out _ e.symm;omega)).trans (Zh _ _ _ (by simpa using aB))).trans t.out.box;have aq:v3.cell? ⟨X,1,Zn⟩=Zo (Zs an l A):=by simp[World.cell?,O]
      have ar:v3.frozen? ⟨X,1,Zn⟩=false:=by simp[World.frozen?,O]
      obtain⟨J,Y⟩:=ii (v3.setCell ⟨X,1,Zn⟩ (Zs (Zo ⟨g,0,Zn⟩) (l+1) cap));rw[<- Y]at c;obtain⟨⟨k0,k1,k2⟩,aH⟩:=bm.out J c.near;obtain⟨xs,R,F⟩:=c.kids;have ae:=Lib.hid F;have HX:Hid (J.ownsRow u.heap.size 31 3 (Zs ak l z) l xs):=by rw[U.out.2]at R;exact R
      have x2:J.cell? ⟨X,2,Zn⟩=Zo (Zs ak l z):=ls c.box 2 _ rfl;have aE:=c.lt;have bG:=c.near.size;have D:=Lib.hid c;have ad:=Lib.hid aH;clear c G k ag ai O x1 L R F aH;go_upto_region 8 with fail;rw[<- Y];clear Y aq ar;go_wp2_with (at_builtin;refine wpList_append_lies _ rfl (.tmp 36) (.tmp 38) 29 rfl u.heap.size 31 bf _ 3 56 underlying29 H.out.1 H.out.2.1 H.out.2.2.1 H.out.2.2.2 rfl zC (Zs ak l z) l xs rfl (HX.out.alloc _) ⟨J.heap.size,0,Zn⟩ 1 1 [Zi Zk d0,Zs da dl dc,Zs ea el ec] rfl rfl (World.news_of_block (heap_alloc_new J _)) (by simp[Value.oneCell']) zC (by unfold maxLen;omega) om zE (J.heap.size+1) zS ?_;intro g2 C v4 r f E ah;refine Hid.out ?_);refine Lib.hid ?_;have hF:=iE.kid (Wa:=J.alloc (Zc #[Zi Zk d0,Zs da dl dc,Zs ea el ec] 31)) (one:=Zc #[Zi Zk d0,Zs da dl dc,Zs ea el ec] 31) (g:=g2) (cap:=C) (xs:=xs) D.out az.out om ad.out rfl ⟨rfl,rfl,rfl⟩ (by rw[U.out.2];exact HX.out) ae.out (by rw[U.out.2];exact r) f E;rw[U.out.2]at hF;have P:=((f.block X zE (fun e=>by have:=fU HX.out _ e.symm;omega)).trans (Zh _ _ _ (by simpa using aE))).trans D.out.box;have ax:v4.cell? ⟨X,2,Zn⟩=Zo (Zs ak l z):=by simp[World.cell?,P]
      have ay:v4.frozen? ⟨X,2,Zn⟩=false:=by simp[World.frozen?,P]
      have HF:=Lib.hid hF;clear hF r f E ah P HX D ad ae x2;go_wp2;go_meet;exact⟨rfl,N++[x],Q++[xk],Zo ⟨g,0,Zn⟩,cap,Zo ⟨g2,0,Zn⟩,C,l+1,rfl,lV x U.out.1,lV xk U.out.2,om,HF.out,HP.out.1,HP.out.2⟩
    case rest=>
     obtain⟨rfl,N',Q',aA,aa,au,M,m,rfl,bp,bu,cd,V,br,bt⟩:=hcut;have ac:Hid (N'.length=m/\Q'.length=m):=⟨bp,bu⟩;have aT:=a7 br;have aU:=a7 bt;obtain⟨V3,bw⟩:=ii wc;rw[<- bw]at V ⊢;clear y1 y2 bw bp bu br bt t U;have fN:=bI.out V3 V.near;obtain⟨⟨y1,y2⟩,-⟩:=aM.out V3 V.near;have aN:=Lib.hid V;generalize (d || b)=db at *;by_cases hx:nm=x
     ·have bO:(x.toList==x.toList)=true:=by simp
      subst hx;have aV:=a7 (aT.out rfl);clear V aT aU;go_wp2;go_roundw;case rel=>exact⟨j+1,db,N',Q',aA,aa,au,M,om,by go_num,rfl,aV.out,by rw[ac.out.1];exact aN.out⟩
      case measure=>simp[intOf];omega
     ·have bO:(nm.toList==x.toList)=false:=by rw[beq_eq_false_iff_ne];intro e;exact hx (by rw[ByteArray.toList_eq,ByteArray.toList_eq]at e;exact WideShapes.bytes_inj e)
      have aV:=a7 (aU.out hx);have x1:V3.cell? ⟨X,1,Zn⟩=Zo (Zs aA m aa):=ls V.box 1 _ rfl;have L:Hid (V3.ownsRow u.heap.size 9 1 (Zs aA m aa) m (N'.map Zt)):=by have:=V.names;rw[ac.out.1]at this;exact this
      have aR:∀o,(V3.drew.alloc o).ownsRow u.heap.size 9 1 (Zs aA m aa) m (N'.map Zt):=fun o=>L.out.drew.alloc o;have aB:X<V3.heap.size:=V.lt;have bH:=V.near.size;clear V hx aT aU;go_upto_region 11 with fail;go_cut [8,9] from 11 to 67 (fun dv iv wx=>dv=Zb db/\iv=Zi Zk j/\∃g cap,iE S X n u wx 5 (N'++[nm]) Q' (Zs (Zo ⟨g,0,Zn⟩) (m+1) cap) (Zs au m M));case first=>
       go_region_law (first
        | (refine step_append_lies _ (by rfl) (.tmp 49) (.tmp 55) 23 (by rfl) u.heap.size 9 bg _ 1 16 underlying23 I.out.1 I.out.2.1 I.out.2.2.1 I.out.2.2.2 rfl zC (Zs aA m aa) m (N'.map Zt) (by rfl) (aR _) ⟨V3.heap.size,0,Zn⟩ 1 1 [Zt nm] (by rfl) rfl (World.news_of_block (heap_alloc_new V3.drew _)) (by simp[Value.oneCell']) zC (by unfold maxLen;omega) om zE (V3.heap.size+1) zS ?_;intro g cap v3 G k ag ai;have O:=((k.block X zE (fun e=>by have:=fU L.out _ e.symm;omega)).trans (Zh _ _ _ (by simpa using aB))).trans aN.out.box;have aq:v3.cell? ⟨X,1,Zn⟩=Zo (Zs aA m aa):=(by simp[World.cell?,O]);have ar:v3.frozen? ⟨X,1,Zn⟩=false:=(by simp[World.frozen?,O])))
       all_goals
        have c:=iE.name (Wa:=V3.drew.alloc (Zc #[Zt nm] 9)) (one:=Zc #[Zt nm] 9) (x:=nm) (g:=g) (cap:=cap) aN.out az.out om rfl ⟨rfl,rfl,rfl⟩ bQ (by rw[ac.out.1];exact G) k ag
        rw[ac.out.1]at c
        have D:=Lib.hid c
        clear c G k ag ai O aq ar x1 fN
        go_wp2
        go_meet
        exact⟨rfl,rfl,_,_,D.out⟩
      case rest=>
       obtain⟨rfl,rfl,g,cap,c⟩:=hcut;obtain⟨J,Y⟩:=ii wc;rw[<- Y]at c ⊢;clear Y y1 y2 x1 fN;have bG:=c.near.size;obtain⟨⟨y1,y2⟩,-⟩:=aM.out J c.near;obtain⟨kp,kq,u0,ua,ul,uc,ta,tl,tc,rfl,bn⟩:=bM;obtain⟨⟨q0,q1,q2⟩,aP⟩:=bn J c.near;obtain⟨xs,R,F⟩:=c.kids;have ae:=Lib.hid F;have HX:Hid (J.ownsRow u.heap.size 31 3 (Zs au m M) m xs):=by rw[ac.out.2]at R;exact R
       have aQ:∀o,(J.drew.alloc o).ownsRow u.heap.size 31 3 (Zs au m M) m xs:=fun o=>HX.out.drew.alloc o;have x2:J.cell? ⟨X,2,Zn⟩=Zo (Zs au m M):=ls c.box 2 _ rfl;have aE:=c.lt;have D:=Lib.hid c;have ad:=Lib.hid aP;clear c aP bn R F L aR aN aB;go_wp2_with fail;go_region_law (first
        | (refine step_append_lies _ (by rfl) (.tmp 59) (.tmp 65) 29 (by rfl) u.heap.size 31 bf _ 3 56 underlying29 H.out.1 H.out.2.1 H.out.2.2.1 H.out.2.2.2 rfl zC (Zs au m M) m xs (by rfl) (aQ _) ⟨J.heap.size,0,Zn⟩ 1 1 [Zi Zk u0,Zs ua ul uc,Zs ta tl tc] (by rfl) rfl (World.news_of_block (heap_alloc_new J.drew _)) (by simp[Value.oneCell']) zC (by unfold maxLen;omega) om zE (J.heap.size+1) zS ?_;intro g2 C v3 r f E ah;have P:=((f.block X zE (fun e=>by have:=fU HX.out _ e.symm;omega)).trans (Zh _ _ _ (by simpa using aE))).trans D.out.box;have ax:v3.cell? ⟨X,2,Zn⟩=Zo (Zs au m M):=(by simp[World.cell?,P]);have ay:v3.frozen? ⟨X,2,Zn⟩=false:=(by simp[World.frozen?,P])))
       all_goals
        have hF:=iE.kid (Wa:=J.drew.alloc (Zc #[Zi Zk u0,Zs ua ul uc,Zs ta tl tc] 31)) (one:=Zc #[Zi Zk u0,Zs ua ul uc,Zs ta tl tc] 31) (g:=g2) (cap:=C) (xs:=xs) D.out az.out om ad.out rfl ⟨rfl,rfl,rfl⟩ (by rw[ac.out.2];exact HX.out) ae.out (by rw[ac.out.2];exact r) f E
        rw[ac.out.2]at hF
        have HF:=Lib.hid hF
        clear hF r f E ah ax ay P x2 aQ ae HX D ad
        go_wp2
        go_roundw
        case rel=>
         refine⟨j+1,db,N'++[nm],Q'++[kx],Zo ⟨g,0,Zn⟩,cap,Zo ⟨g2,0,Zn⟩,C,om,by go_num,rfl,aV.out,?_⟩
         rw[lV nm ac.out.1]
         exact HF.out
        case measure=>simp[intOf];omega
  ·have bc:j=Z:=by omega
   have bW:¬(j:Int)<(Z:Int):=om;have bi:=a7 (HD.out hI bc);have t:=Lib.hid hG;have bR:l<=40:=om;cases d with
   | true=>have HF:=Lib.hid (aw.out _ _ _ _ _ hG om om);obtain⟨⟨p0,p1,p2⟩,-⟩:=fY hG.box;obtain⟨⟨r0,r1,r2⟩,f0,f1,f2⟩:=fY al;have aS:=a7 (bi.out.1 rfl);clear hG al hI bc aI aX aY aw;go_wp2_with fail;refine bodyPost_ret (v:=Za #[Zi Zk 5,Zs an l A,Zs ak l z]) (by simp[results,results107,go_sem,r0,r1,r2]) rfl ?_;rw[aS.out];exact HF.out
   | false=>
    have aS:=a7 (bi.out.2 rfl);obtain⟨V1,aD⟩:=ii wr;rw[<- aD]at t y1 ⊢;clear hG al hI bc aI aX aY aD y2;have x1:V1.cell? ⟨X,1,Zn⟩=Zo (Zs an l A):=ls t.out.box 1 _ rfl;have L:Hid (V1.ownsRow u.heap.size 9 1 (Zs an l A) l (N.map Zt)):=by have:=t.out.names;rw[U.out.1]at this;exact this
    have aB:X<V1.heap.size:=t.out.lt;have bH:=t.out.near.size;go_wp2_with (at_builtin;refine wpList_append_lies _ rfl (.tmp 71) (.tmp 73) 23 rfl u.heap.size 9 bg _ 1 16 underlying23 I.out.1 I.out.2.1 I.out.2.2.1 I.out.2.2.2 rfl zC (Zs an l A) l (N.map Zt) rfl (L.out.alloc _) ⟨V1.heap.size,0,Zn⟩ 1 1 [Zt x] rfl rfl (World.news_of_block (heap_alloc_new V1 _)) (by simp[Value.oneCell']) zC (by unfold maxLen;omega) om zE (V1.heap.size+1) zS ?_;intro g cap v3 G k ag ai;refine Hid.out ?_);refine Lib.hid ?_;have c:=iE.name (Wa:=V1.alloc (Zc #[Zt x] 9)) (one:=Zc #[Zt x] 9) (x:=x) (g:=g) (cap:=cap) t.out az.out om rfl ⟨rfl,rfl,rfl⟩ (by have:=bl.out;omega) (by rw[U.out.1];exact G) k ag;rw[U.out.1]at c;have O:=((k.block X zE (fun e=>by have:=fU L.out _ e.symm;omega)).trans (Zh _ _ _ (by simpa using aB))).trans t.out.box;have aq:v3.cell? ⟨X,1,Zn⟩=Zo (Zs an l A):=by simp[World.cell?,O]
    have ar:v3.frozen? ⟨X,1,Zn⟩=false:=by simp[World.frozen?,O]
    obtain⟨J,Y⟩:=ii (v3.setCell ⟨X,1,Zn⟩ (Zs (Zo ⟨g,0,Zn⟩) (l+1) cap));rw[<- Y]at c;obtain⟨⟨k0,k1,k2⟩,aH⟩:=bm.out J c.near;obtain⟨xs,R,F⟩:=c.kids;have ae:=Lib.hid F;have HX:Hid (J.ownsRow u.heap.size 31 3 (Zs ak l z) l xs):=by rw[U.out.2]at R;exact R
    have x2:J.cell? ⟨X,2,Zn⟩=Zo (Zs ak l z):=ls c.box 2 _ rfl;have aE:=c.lt;have bG:=c.near.size;have D:=Lib.hid c;have ad:=Lib.hid aH;clear c G k ag ai O x1 L R F aH;go_upto_region 15 with fail;rw[<- Y];clear Y aq ar;go_wp2_with (at_builtin;refine wpList_append_lies _ rfl (.tmp 77) (.tmp 79) 29 rfl u.heap.size 31 bf _ 3 56 underlying29 H.out.1 H.out.2.1 H.out.2.2.1 H.out.2.2.2 rfl zC (Zs ak l z) l xs rfl (HX.out.alloc _) ⟨J.heap.size,0,Zn⟩ 1 1 [Zi Zk d0,Zs da dl dc,Zs ea el ec] rfl rfl (World.news_of_block (heap_alloc_new J _)) (by simp[Value.oneCell']) zC (by unfold maxLen;omega) om zE (J.heap.size+1) zS ?_;intro g2 C v4 r f E ah;refine Hid.out ?_);refine Lib.hid ?_;have hF:=iE.kid (Wa:=J.alloc (Zc #[Zi Zk d0,Zs da dl dc,Zs ea el ec] 31)) (one:=Zc #[Zi Zk d0,Zs da dl dc,Zs ea el ec] 31) (g:=g2) (cap:=C) (xs:=xs) D.out az.out om ad.out rfl ⟨rfl,rfl,rfl⟩ (by rw[U.out.2];exact HX.out) ae.out (by rw[U.out.2];exact r) f E;rw[U.out.2]at hF;have P:=((f.block X zE (fun e=>by have:=fU HX.out _ e.symm;omega)).trans (Zh _ _ _ (by simpa using aE))).trans D.out.box;have ax:v4.cell? ⟨X,2,Zn⟩=Zo (Zs ak l z):=by simp[World.cell?,P]
    have ay:v4.frozen? ⟨X,2,Zn⟩=false:=by simp[World.frozen?,P]
    have HF:=Lib.hid (aw.out _ _ _ _ _ hF (by rw[lV x U.out.1];omega) (by rw[lV xk U.out.2];omega));have aW:=hF.near;obtain⟨V5,aZ⟩:=ii (v4.setCell ⟨X,2,Zn⟩ (Zs (Zo ⟨g2,0,Zn⟩) (l+1) C));rw[<- aZ]at HF aW hF;obtain⟨⟨p0,p1,p2⟩,-⟩:=fY hF.box;obtain⟨-,al⟩:=aM.out V5 aW;obtain⟨⟨r0,r1,r2⟩,f0,f1,f2⟩:=fY al;clear hF r f E ah P HX D ad ae x2 al aW aw;go_upto_region 16 with fail;rw[<- aZ];clear aZ ax ay;go_wp2_with fail;refine bodyPost_ret (v:=Za #[Zi Zk 5,Zs (Zo ⟨g,0,Zn⟩) (l+1) cap,Zs (Zo ⟨g2,0,Zn⟩) (l+1) C]) (by simp[results,results107,go_sem,r0,r1,r2]) rfl ?_;rw[aS.out];exact HF.out
end Go.Proofs.YtcfojmaccikgeaaGreatDoor
