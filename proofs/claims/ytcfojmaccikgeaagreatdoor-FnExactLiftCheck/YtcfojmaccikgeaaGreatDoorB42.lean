import Derived.Test.YtcfojmaccikgeaaGreatDoorZM0
import Derived.Test.YtcfojmaccikgeaaGreatDoorB23
import Derived.Test.YtcfojmaccikgeaaGreatDoorB41
import Derived.Laws.StructEq
import Derived.Test.YtcfojmaccikgeaaGreatDoorB29
import Derived.Deep.Cut
import Derived.Deep.CutRange
import Derived.Test.YtcfojmaccikgeaaGreatDoorB27
import Derived.Test.YtcfojmaccikgeaaGreatDoorB36
open Go.Value renaming slice→Zs,int→Zi,string→Zt,pointer→Zp,agg→Za,tuple→Zu,bool→Zb
open Go.IntKind renaming i64→Zk
open Go.Ending renaming returned→Zr
open Go.Obj renaming cells→Zc
open Option renaming none→Zn,some→Zo
open Go renaming World→Zw,Value→Zv
namespace Go.Proofs.YtcfojmaccikgeaaGreatDoor
open Go.RowKit Go.Proofs.Tryz
set_option maxRecDepth 100000
set_option maxHeartbeats 16000000
def BI(S:Nat->Prop)(n:Nat)(t:K n)(w:Zw)(e:Ending)(w':Zw):Prop:=
 Bw w w' /\ ((jJ n t=true/\gG n t=true/\∃a,e=Zr (Zu #[Zp (Zo ⟨a,0,Zn⟩),Zb true])/\b9 (fun b=>S b∨w.heap.size<=b/\b<w'.heap.size) w' n t (Zp (Zo ⟨a,0,Zn⟩)))∨(jJ n t=false/\e=Zr (Zu #[Zp Zn,Zb false])))
theorem pd (n:Nat) (S:Nat->Prop) (t:K n) (c0 c1 c2:Zv) (w:Zw) (p:a8 S w n t c0 c1 c2) (r:Bd S w) :
  Calls prog 65 #[Za #[c0,c1,c2]] w (BI S n t w):=by
 obtain⟨v,x,z,y,A,C,B,rfl,rfl,rfl⟩:=p.shape;obtain⟨W,l⟩:=il (w.alloc (Zc #[Zi Zk v,Zs x z y,Zs A C B] 31));have m:Bw w W:=by rw[l];exact gA _ _
 have o:w.heap.size<=W.heap.size:=m.size;obtain⟨⟨E,F,G⟩,-⟩:=fY (show W.heap[w.heap.size]?=_ by rw[l];exact heap_alloc_new _ _);have j:=a7 (pe n S t _ _ _ W (p.keep (a6 m r) fun _ h=>h) (fun b h=>Nat.lt_of_lt_of_le (r b h) o));clear p;go_in;go_wp2_with fail;rw[<- l];clear l;refine j.out.mono ?_;rintro e q ⟨g,⟨d,D,rfl,c⟩|⟨d,rfl⟩⟩
 ·obtain⟨s,rfl,-⟩:=id c.ptr;cases n with
  | zero=>exact c.elim
  | succ n=>
   have u:=tm c;have i:=m.trans (g.mono o);by_cases k:Kd.sort t=5
   ·have a:jJ (n+1) t=true:=by show (gG (n+1) t && (Kd.sort t==5))=true;rw[d,k];rfl
    have f:Hid (BI S (n+1) t w (Zr (Zu #[Zp (Zo ⟨s,0,Zn⟩),Zb true])) q):=⟨i,.inl ⟨a,d,s,rfl,c.keep (fun _ _=>rfl) fun b h=>h.imp id fun h=>⟨Nat.le_trans o h.1,h.2⟩⟩⟩;rw[k]at u;clear j c a k;go_wp2;go_ret2;exact f.out
   ·have a:jJ (n+1) t=false:=by show (gG (n+1) t && (Kd.sort t==5))=false;simp[k]
    have f:Hid (BI S (n+1) t w (Zr (Zu #[Zp Zn,Zb false])) q):=⟨i,.inr ⟨a,rfl⟩⟩;clear j c a;go_wp2;go_ret2;exact f.out
 ·have a:jJ n t=false:=by cases n with|zero=>rfl|succ n=>show (gG (n+1) t && (Kd.sort t==5))=false;rw[d];rfl
  have f:Hid (BI S n t w (Zr (Zu #[Zp Zn,Zb false])) q):=⟨m.trans (g.mono o),.inr ⟨a,rfl⟩⟩;clear j a;go_wp2;go_ret2;exact f.out
theorem D3 (s:ByteArray) (v:Int) (w:Zw) (o:s.size<=maxLen) :
  Calls prog 93 #[Za #[Zt s,Zi Zk v]] w fun e g=>e=Zr (Zb (qV s v))/\Bw w g:=by
 have c:=a7 (kX s (w.alloc (Zc #[Zt s,Zi Zk v] 146)) o);have d:=a7 (gA w (Zc #[Zt s,Zi Zk v] 146));by_cases i:s=ByteArray.empty/\v=0
 ·obtain⟨rfl,rfl⟩:=i;have f:Hid (qV ByteArray.empty 0=true):=by show ((_==_ && _) || _)=_;rfl
  have p:ByteArray.empty.toList=[]:=by rw[ByteArray.toList_eq];rfl
  rw[f.out];go_in;go_wp2;go_ret;exact⟨rfl,d.out⟩
 ·have f:Hid (qV s v=(gm s && (decide (1<=v) && decide (v<=12)))):=by
   show _=_;unfold qV;have:(s==ByteArray.empty && v==0)=false:=by
    rw[Bool.and_eq_false_iff];by_cases h:s=ByteArray.empty;·exact .inr (by simpa using fun b=>i ⟨h,b⟩)
    ·exact .inl (by rw[qE];exact decide_eq_false h)
   rw[this,Bool.false_or]
  have k:s.toList=[]/\¬v=0∨¬s.toList=[]:=by
   by_cases h:s.toList=[];·refine .inl ⟨h,fun b=>i ⟨?_,b⟩⟩;rw[ByteArray.toList_eq]at h;exact WideShapes.bytes_inj (h.trans rfl)
   ·exact .inr h
  clear i;rw[f.out];cases hn:gm s with
  | false=>
   rw[hn]at c;clear hn f;rcases k with ⟨a,b⟩|a;all_goals
    go_in
    go_wp2_with fail
    refine c.out.mono ?_
    rintro e g ⟨rfl,rfl⟩
    go_wp2
    go_ret
    exact⟨rfl,d.out⟩
  | true=>
   rw[hn]at c;clear hn f;by_cases m:1<=v
   ·by_cases j:v<=12
    ·rw[decide_eq_true m,decide_eq_true j];rcases k with ⟨a,b⟩|a;all_goals
      go_in
      go_wp2_with fail
      refine c.out.mono ?_
      rintro e g ⟨rfl,rfl⟩
      go_wp2
      go_ret
      exact⟨rfl,d.out⟩
    ·have l:=decide_eq_false j;rw[decide_eq_true m,l];rcases k with ⟨a,b⟩|a;all_goals
      go_in
      go_wp2_with fail
      refine c.out.mono ?_
      rintro e g ⟨rfl,rfl⟩
      go_wp2
      go_ret
      exact⟨by first|rfl|(simp only[l];rfl),d.out⟩
   ·have n:=decide_eq_false m;have j:v<=12:=by omega
    have l:=decide_eq_true j;rw[n];rcases k with ⟨a,b⟩|a;all_goals
     go_in
     go_wp2_with fail
     refine c.out.mono ?_
     rintro e g ⟨rfl,rfl⟩
     go_wp2
     go_ret
     exact⟨rfl,d.out⟩
end Go.Proofs.YtcfojmaccikgeaaGreatDoor
namespace Go.Proofs.YtcfojmaccikgeaaGreatDoor
open Go.RowKit Go.WideMaps Go.Maps Go.Proofs.Tryz
variable {M:Nat} {S S':Nat->Prop} {w w':Zw} {bs:List ((ByteArray×Int)×Nat)} {p:ByteArray×Int}
theorem Jo{s:ByteArray}{v:Int}(h:qV s v=true):nM (s,v):=by
 unfold qV at h;simp only[Bool.or_eq_true,Bool.and_eq_true,decide_eq_true_eq,qE,beq_iff_eq]at h;rcases h with ⟨rfl,rfl⟩|⟨a,c,b⟩;·exact⟨by decide,by decide,by decide⟩
 ·exact⟨mS a,by show 0<=v;omega,b⟩
theorem tU(p:ByteArray×Int)(k:K (M+1))(x:ByteArray)(y:Int):∀a:mq M,jy (a++[(p,k)]) x y=match jy a x y with|Zo z=>Zo z|Zn=>if p=(x,y) then Zo k else Zn:=by
 intro a;induction a with
 | nil=>obtain⟨e,f⟩:=p;simp only[List.nil_append,jy,Prod.mk.injEq]
 | cons q r b=>
  obtain⟨⟨c,d⟩,g⟩:=q;simp only[List.cons_append,jy];by_cases h:c=x/\d=y;·rw[if_pos h,if_pos h]
  ·rw[if_neg h,if_neg h];exact b
def mH(S:Nat->Prop)(w:Zw)(M:Nat)(sn:mq M)(bs:List ((ByteArray×Int)×Nat)):Prop:=
 (∀q,q∈bs->nM q.1)/\∀p:ByteArray×Int,(jy sn p.1 p.2=Zn/\qg bs p=Zn)∨∃k b,jy sn p.1 p.2=Zo k/\qg bs p=Zo b/\gG (M+1) k=true/\b9 S w (M+1) k (Zp (Zo ⟨b,0,Zn⟩))
theorem mH.keep{sn:mq M}(h:mH S w M sn bs)(g:jn S w w')(f:∀b,S b->S' b):mH S' w' M sn bs:=
 ⟨h.1,fun p=>(h.2 p).imp id fun ⟨k,b,a,c,d,e⟩=>⟨k,b,a,c,d,e.keep g f⟩⟩
theorem mH.new{sn:mq M}(h:mH S w M sn bs){k:K (M+1)}{c:Nat}(o:nM p)(n:qg bs p=Zn)(g:gG (M+1) k=true)(f:b9 S w (M+1) k (Zp (Zo ⟨c,0,Zn⟩))):mH S w M (sn++[(p,k)]) ((p,c) :: bs):=by
 refine⟨fun q i=>?_,fun q=>?_⟩
 ·rcases List.mem_cons.1 i with rfl|i;·exact o
  ·exact h.1 q i
 ·have j:qg ((p,c) :: bs) q=if p=q then Zo c else qg bs q:=rfl
  rw[tU,j];rcases h.2 q with ⟨d,a⟩|⟨r,b,d,a,l,m⟩
  ·rw[d];show (if p=q then Zo k else Zn)=Zn/\_∨∃_ _,(if p=q then Zo k else Zn)=Zo _/\_;by_cases e:p=q;·rw[if_pos e,if_pos e];exact .inr ⟨k,c,rfl,rfl,g,f⟩
   ·rw[if_neg e,if_neg e];exact .inl ⟨rfl,a⟩
  ·rw[d];have e:¬p=q:=fun e=>by rw[<- e,n]at a;cases a
   exact .inr ⟨r,b,rfl,by rw[if_neg e];exact a,l,m⟩
theorem mH.old{sn:mq M}(h:mH S w M sn bs)(k:K (M+1)){b:Nat}(i:qg bs p=Zo b):mH S w M (sn++[(p,k)]) bs:=by
 refine⟨h.1,fun q=>?_⟩;rw[tU];rcases h.2 q with ⟨c,a⟩|⟨j,d,c,a,f,g⟩
 ·rw[c];have e:¬p=q:=fun e=>by rw[<- e,i]at a;cases a
  exact .inl ⟨if_neg e,a⟩
 ·rw[c];exact .inr ⟨j,d,rfl,a,f,g⟩
def vj(S:Nat->Prop)(w:Zw)(M:Nat)(sn:mq M)(v:Zv):Prop:=
 ∃a bs n,v=.map (Zo a)/\S a/\w.ownsMap prog 146 oq a n (qU bs)/\mH S w M sn bs
theorem vj.keep{sn:mq M}{v:Zv}(h:vj S w M sn v)(e:jn S w w')(d:∀b,S b->S' b):vj S' w' M sn v:=by obtain⟨c,l,n,rfl,f,⟨g,a,i,j⟩,k⟩:=h;exact⟨c,l,n,rfl,d c f,⟨g,a,by rw[e c f];exact i,j⟩,k.keep e d⟩
end Go.Proofs.YtcfojmaccikgeaaGreatDoor
namespace Go.Proofs.YtcfojmaccikgeaaGreatDoor
set_option maxRecDepth 100000
set_option maxHeartbeats 16000000
open Go.RowKit Go.WideMaps Go.Maps Go.Proofs.Tryz
def wh(S:Nat->Prop)(M:Nat){n:Nat}(l:List ((ByteArray×Int)×K n))(w:Zw)(e:Ending)(w':Zw):Prop:=
 Bw w w' /\ ((l.all jd=true/\∃v,e=Zr (Zu #[v,Zb true])/\vj (Ov S w.heap.size Zn w') w' M (mi M l) v)∨(l.all jd=false/\e=Zr (Zu #[.map Zn,Zb false])))
theorem JC{w:Zw}{N:Nat}{t:TypeId}{a b c d e:Zv}(h:w.heap[N]?=Zo (Zc #[a,b,c,d,e] t (0,0))):w.cell? ⟨N,0,Zn⟩=Zo a/\w.cell? ⟨N,1,Zn⟩=Zo b/\w.cell? ⟨N,2,Zn⟩=Zo c/\w.cell? ⟨N,3,Zn⟩=Zo d/\w.cell? ⟨N,4,Zn⟩=Zo e:=by simp[World.cell?,h]
theorem GF{M n:Nat}(l:List ((ByteArray×Int)×K n))(i:Nat)(h:i<l.length):(mi M l).take (i+1)=(mi M l).take i++[(l[i].1,fO M n l[i].2)]:=by unfold mi;rw[List.take_succ_eq_append_getElem (by simpa using h),List.getElem_map]
theorem qL (S:Nat->Prop) (M n:Nat) (hM:5<=M) (l:List ((ByteArray × Int) × K n)) (v:Zv) (w:Zw) (hv:hY S w n l v) (hB:Bd S w) (hl:l.length<=1048576) :
  Calls prog 66 #[v] w (wh S M l w):=by
 have aF:∀(w:Zw),(Instr.makeMap 111 Zn).run prog w=.ok (.map (Zo w.heap.size)) (w.alloc (.map #[] 0)):=by intro w;simp[Instr.makeMap,go_sem]
 obtain⟨ao,cap,rfl,aE,N⟩:=id hv;obtain⟨W1,I⟩:=il (w.alloc (.map #[] 0));have ag:Bw w W1:=by rw[I];exact gA _ _
 have au:w.heap.size+1<=W1.heap.size:=by rw[I];simp
 have P:Hid (W1.ownsMap prog 146 oq w.heap.size 0 (qU [])/\Bw w W1/\w.heap.size+1<=W1.heap.size):=⟨by rw[I];exact World.ownsMap_made w prog 146 oq,ag,au⟩;have aw:=a7 N;clear ag au hv N;go_in;go_wp2_with fail;rw[<- I];clear I;go_loopw [13] (fun iv wr=>∃(i:Nat)(bs:List ((ByteArray×Int)×Nat)),iv=Zi Zk i/\i<=l.length/\(l.take i).all jd=true/\wr.ownsMap prog 146 oq w.heap.size i (qU bs)/\Bw w wr/\w.heap.size+1<=wr.heap.size/\mH (Ov S (w.heap.size+1) Zn wr) wr M ((mi M l).take i) bs) (fun iv _=>l.length-(intOf iv).toNat);case atStart=>exact⟨0,[],rfl,Nat.zero_le _,rfl,P.out.1,P.out.2.1,P.out.2.2,fun _ h=>absurd h zS,fun p=>.inl ⟨rfl,rfl⟩⟩
 case round=>
  obtain⟨i,bs,rfl,aD,T,U,f,aK,ai⟩:=hrel;have o:=a7 T;have j:=a7 U;have r:=a7 ai;have aL:=f.size;clear T U ai P;by_cases H:i<l.length
  ·obtain⟨b,off,rfl,ax,L⟩:=aw.out (by intro h;rw[h]at H;simp at H);obtain⟨k0,k1,k2,e0,e1,e2,e3,e4,az,ac⟩:=L i H;obtain⟨y0,ya,yl,yc,za,zl,zc,rfl,rfl,rfl⟩:=ac.shape;have J:=hB b ax;have f0:=kC f e0 J;have f1:=kC f e1 J;have f2:=kC f e2 J;have f3:=kC f e3 J;have f4:=kC f e4 J;have aC:(i:Int)<(l.length:Int):=om;have HT:=a7 (GF (M:=M) l i H);have HA:=a7 (CF (p:=jd) (l:=l) i H);have HN:=a7 (fun h=>GT (p:=jd) (l:=l) i H h);have R:jd l[i]=(jJ n l[i].2 && qV l[i].1.1 l[i].1.2):=rfl;have am:l[i].1=(l[i].1.1,l[i].1.2):=rfl;generalize l[i].1.1=s at *;generalize l[i].1.2=vn at *;generalize l[i].2=kk at *;generalize l[i].1=pp at *;generalize jd l[i]=sb at *;obtain⟨W2,G⟩:=il ((wr.alloc (Zc #[Zt s,Zi Zk vn,Zi Zk y0,Zs ya yl yc,Zs za zl zc] 103)).alloc (Zc #[Zt s,Zi Zk vn] 146));have aa:Bw wr W2:=by rw[G];exact (gA _ _).alloc zS _
   have aI:wr.heap.size+2<=W2.heap.size:=by rw[G];simp
   have aq:W2.heap[wr.heap.size]?=Zo (Zc #[Zt s,Zi Zk vn,Zi Zk y0,Zs ya yl yc,Zs za zl zc] 103 (0,0)):=by rw[G,Below.heap_alloc _ _ _ zS];exact heap_alloc_new _ _
   have ar:W2.heap[wr.heap.size+1]?=Zo (Zc #[Zt s,Zi Zk vn] 146 (0,0)):=by have:=heap_alloc_new (wr.alloc (Zc #[Zt s,Zi Zk vn,Zi Zk y0,Zs ya yl yc,Zs za zl zc] 103)) (Zc #[Zt s,Zi Zk vn] 146);rw[G];simpa using this
   have m:=f.trans (aa.mono f.size);have HC:=a7 (pd n S kk _ _ _ W2 (ac.keep (a6 m hB) fun _ h=>h) (fun b g=>Nat.lt_of_lt_of_le (hB b g) m.size));obtain⟨q0,q1,p0,p1,p2⟩:=JC aq;obtain⟨r0,r1⟩:=oV ar;have HR:Hid (∀V,Bw W2 V->V.cell? ⟨wr.heap.size+1,0,Zn⟩=Zo (Zt s)/\V.cell? ⟨wr.heap.size+1,1,Zn⟩=Zo (Zi Zk vn)):=fun V hV=>⟨kC hV r0 om,kC hV r1 om⟩;have X:=a7 R;have HP:=a7 am;clear L e0 e1 e2 e3 e4 ac aq ar q0 q1 r0 r1 R am;go_wp2_with fail;rw[<- G];clear G;refine HC.out.mono ?_;rintro e w2 ⟨u,⟨ab,al,kb,rfl,Q⟩|⟨ab,rfl⟩⟩
   ·have aG:=u.size;have E:=m.trans (u.mono m.size);obtain⟨a0,a1⟩:=HR.out w2 u;have B:=a7 (D3 s vn w2 az);cases hnb:qV s vn with
    | false=>rw[hnb]at B;have A:Hid (∀y,Bw w2 y->wh S M l w (Zr (Zu #[.map Zn,Zb false])) y):=fun y F=>⟨E.trans (F.mono E.size),.inr ⟨HN.out (by rw[X.out,hnb,Bool.and_false]),rfl⟩⟩;clear HC Q hnb r j HT HA;go_wp2_with fail;refine B.out.mono ?_;rintro e y ⟨rfl,F⟩;have av:=a7 (A.out y F);clear B F A;go_wp2;go_ret2;exact av.out
    | true=>
     rw[hnb]at B;have ad:=Jo hnb;have R:sb=true:=by rw[X.out,ab,hnb];rfl
     clear HC;go_wp2_with fail;refine B.out.mono ?_;rintro e y ⟨rfl,F⟩;obtain⟨a2,a3⟩:=HR.out y (u.trans (F.mono u.size));have c:Bw wr y:=aa.trans ((u.trans (F.mono u.size)).mono aa.size);have aH:=F.size;have x:=E.trans (F.mono E.size);have k:y.ownsMap prog 146 oq w.heap.size i (qU bs):=by obtain⟨es,Y,h1,h2⟩:=j.out;exact⟨es,Y,(c.block w.heap.size om).trans h1,h2⟩
     have W:=zo (p:=(s,vn)) k r.out.1 ad;have C:∀z,y.heap.size<=z.heap.size->(∀b,b<y.heap.size->b≠w.heap.size->z.heap[b]?=y.heap[b]?)->mH (Ov S (w.heap.size+1) Zn z) z M ((mi M l).take i) bs/\b9 (Ov S (w.heap.size+1) Zn z) z (M+1) (fO M n kk) (Zp (Zo ⟨kb,0,Zn⟩)):=fun z aJ q=>by
      refine⟨r.out.keep (fun b g=>?_) fun b g=>g.imp id fun h=>⟨h.1,by have:=h.2.1;have:=c.size;omega,zS⟩,(b9.okd al hM Q).keep (fun b g=>?_) fun b g=>g.imp id fun h=>⟨by have:=h.1;omega,by have:=h.2;omega,zS⟩⟩
      ·rcases g with g|g;·have:=hB b g;exact (q b (by have:=c.size;omega) om).trans (c.block b om)
       ·exact (q b (by have:=c.size;have:=g.2.1;omega) (by have:=g.1;omega)).trans (c.block b g.2.1)
      ·rcases g with g|g;·have:=hB b g;exact (q b om om).trans (F.block b om)
       ·exact (q b (by have:=g.2;omega) (by have:=g.1;omega)).trans (F.block b g.2)
     have D:=a7 C;have af:Hid ((l.take (i+1)).all jd=true):=by show _=_;rw[HA.out,o.out,R];rfl
     have aj:i+1<=l.length:=om;cases hsk:qg bs (s,vn) with
     | some b'=>
      rw[hsk]at W;have A:=a7 (And.intro (k.mono (Nat.le_succ i)) (And.intro x (((D.out y (Nat.le_refl _) (fun _ _ _=>rfl)).1).old (fO M n kk) hsk)));rw[<- HP.out,<- HT.out]at A;have ae:w.heap.size+1<=y.heap.size:=by have:=c.size;omega
      clear k C D r j B Q hsk c HT HA HN o HR F;go_wp2;go_roundw;case rel=>exact⟨i+1,bs,by go_num,aj,af.out,A.out.1,A.out.2.1,ae,A.out.2.2⟩
      case measure=>simp[intOf];omega
     | none=>
      rw[hsk]at W;obtain⟨z,an,O,a⟩:=k.update (t:=111) (e:=82) Cm underlying111 (by unfold maxLen;omega) (qh ad) (val:=Zp (Zo ⟨kb,0,Zn⟩)) (d:=.lit (.int Zk (kb:Int))) (ps:=[]) rfl;have ap:=a.size;have q4:∀b,b<y.heap.size->b≠w.heap.size->z.heap[b]?=y.heap[b]?:=fun b g ay=>a.block b g (fun e=>ay (by injection e));have Z:=D.out z ap q4;have ah:Bw w z:=⟨a.os.trans x.os,a.tape.trans x.tape,a.output.trans x.output,om,fun b g=>(q4 b om om).trans (x.block b g)⟩;have A:Hid (z.ownsMap prog 146 oq w.heap.size (i+1) (qU (((s,vn),kb) :: bs))/\Bw w z/\mH (Ov S (w.heap.size+1) Zn z) z M ((mi M l).take (i+1)) (((s,vn),kb) :: bs)):=⟨O,ah,by rw[HT.out,HP.out];exact Z.1.new ad hsk (nh hM al).1 Z.2⟩;have ae:w.heap.size+1<=z.heap.size:=by have:=c.size;omega
      have aB:(Instr.mapUpdate 111 (.map (Zo w.heap.size)) (Za #[Zt s,Zi Zk vn]) (Zp (Zo ⟨kb,0,Zn⟩))).run prog y=.ok () z:=an;clear k C D r j B Q hsk c HT HA HN o HR F O a q4 Z ah an;go_wp2;go_roundw;case rel=>exact⟨i+1,_,by go_num,aj,af.out,A.out.1,A.out.2.1,ae,A.out.2.2⟩
      case measure=>simp[intOf];omega
   ·have A:Hid (wh S M l w (Zr (Zu #[.map Zn,Zb false])) w2):=⟨m.trans (u.mono m.size),.inr ⟨HN.out (by rw[X.out,ab,Bool.false_and]),rfl⟩⟩;clear HC r j HT HA HN;go_wp2;go_ret2;exact A.out
  ·have ak:i=l.length:=by omega
   have aA:¬(i:Int)<(l.length:Int):=om;have A:Hid (wh S M l w (Zr (Zu #[.map (Zo w.heap.size),Zb true])) wr):=by have h1:=o.out;rw[ak,List.take_length]at h1;have h2:=r.out;rw[List.take_of_length_le (by unfold mi;rw[List.length_map];omega)]at h2;exact⟨f,.inl ⟨h1,_,rfl,w.heap.size,bs,i,rfl,.inr ⟨Nat.le_refl _,om,zS⟩,j.out,h2.keep (fun _ _=>rfl) fun b g=>g.imp id fun h=>⟨by have:=h.1;omega,h.2.1,zS⟩⟩⟩
   clear o j r ak;go_wp2;go_ret2;exact A.out
end Go.Proofs.YtcfojmaccikgeaaGreatDoor
namespace Go.Proofs.YtcfojmaccikgeaaGreatDoor
open Go.RowKit Go.Proofs.Tryz
set_option maxRecDepth 100000
set_option maxHeartbeats 16000000
theorem tT (b d:Int) (m:ByteArray) (nb no f i:Nat) (na:Option Addr) (G:Zv) (s:ByteArray) (w:Zw) (o:∃ a n c,G=Zs a n c) (F:b≠38->na=Zo ⟨nb,no,Zn⟩/\0<f/\nb<w.heap.size/\w.cell? ⟨nb,no,Zn⟩=Zo (Zt s)) :
  Calls prog 83 #[Za #[Zi Zk b,Zi Zk d,Zt m,Zs na f i,G]] w fun e k=>(e=Zr (Za #[Zt (if b=38 then ByteArray.empty else s),Zi Zk (if b=38 then 0 else d)]))/\Bw w k:=by
 obtain⟨q,t,r,rfl⟩:=o;obtain⟨W,g⟩:=il ((w.alloc (Zc #[Zi Zk b,Zi Zk d,Zt m,Zs na f i,Zs q t r] 40)).alloc (Zc #[Zt ⟨#[]⟩,Zi Zk 0] 146));have j:Bw w W:=by rw[g];exact (gA _ _).alloc zS _
 have p:W.heap[w.heap.size]?=Zo (Zc #[Zi Zk b,Zi Zk d,Zt m,Zs na f i,Zs q t r] 40 (0,0)):=by rw[g,Below.heap_alloc _ _ _ zS];exact heap_alloc_new _ _
 have l:W.heap[w.heap.size+1]?=Zo (Zc #[Zt ⟨#[]⟩,Zi Zk 0] 146 (0,0)):=by have:=heap_alloc_new (w.alloc (Zc #[Zi Zk b,Zi Zk d,Zt m,Zs na f i,Zs q t r] 40)) (Zc #[Zt ⟨#[]⟩,Zi Zk 0] 146);rw[g];simpa using this
 obtain⟨u,x⟩:=oV l;have B:W.frozen? ⟨w.heap.size+1,0,Zn⟩=false:=by simp[World.frozen?,l]
 have C:W.frozen? ⟨w.heap.size+1,1,Zn⟩=false:=by simp[World.frozen?,l]
 have H:=ls p 1 _ rfl;have I:=ls p 3 _ rfl;have J:=a7 j;clear p l;go_in;by_cases h:b=38;·subst h;go_wp2_with fail;rw[<- g];clear g j;refine bodyPost_ret (v:=Za #[Zt ⟨#[]⟩,Zi Zk 0]) (by simp[results,results83,go_sem,u,x]) rfl ?_;exact⟨rfl,J.out⟩
 ·obtain⟨rfl,P,O,D⟩:=F h;have Q:(b==38)=false:=by simpa using h
  have E:=kC j D O;rw[if_neg h,if_neg h];have L:Hid (Bw w ((W.drew.setCell ⟨w.heap.size+1,0,Zn⟩ (Zt s)).setCell ⟨w.heap.size+1,1,Zn⟩ (Zi Zk d))):=(j.drew.setCell (by show w.heap.size<=w.heap.size+1;omega) _).setCell (by show w.heap.size<=w.heap.size+1;omega) _;have y:W.drew.cell? ⟨w.heap.size,1,Zn⟩=Zo (Zi Zk d):=H;have z:W.drew.cell? ⟨w.heap.size,3,Zn⟩=Zo (Zs (Zo ⟨nb,no,Zn⟩) f i):=I;have A:W.drew.cell? ⟨nb,no,Zn⟩=Zo (Zt s):=E;have M:W.drew.cell? ⟨w.heap.size+1,0,Zn⟩=Zo (Zt ⟨#[]⟩):=u;have N:W.drew.cell? ⟨w.heap.size+1,1,Zn⟩=Zo (Zi Zk 0):=x;have T:W.drew.frozen? ⟨w.heap.size+1,0,Zn⟩=false:=B;have U:W.drew.frozen? ⟨w.heap.size+1,1,Zn⟩=false:=C;have R:(0:Int)<(f:Int):=om;clear F D j H I u x B C E;go_wp2_with fail;rw[<- g];clear g;refine wp_region_held_drew (S:=fun k=>k.cell? ⟨w.heap.size,1,Zn⟩=Zo (Zi Zk d)/\k.cell? ⟨w.heap.size,3,Zn⟩=Zo (Zs (Zo ⟨nb,no,Zn⟩) f i)/\k.cell? ⟨nb,no,Zn⟩=Zo (Zt s)) zK ⟨y,z,A⟩ (fun hHeld=>?_);generalize W.drew=V at *;refine tk 0 ?_;refine tk 1 ?_;refine tk 2 ?_;refine tk 3 ?_;refine tk 4 ?_;refine tk 5 ?_;refine tk 6 ?_;refine js 7 fun K hK=>?_;go_simp;refine hK.out _ _ ⟨by simp[go_sem,y],by simp[go_sem,z],by simp[go_sem,A]⟩ (fun hHeld=>?_);clear hK K;refine wpAnyH_done zK ?_ _;go_simp;go_wp2_with fail;refine bodyPost_ret (v:=Za #[Zt s,Zi Zk d]) (by simp[results,results83,go_sem,M,N]) rfl ?_;exact⟨rfl,L.out⟩
end Go.Proofs.YtcfojmaccikgeaaGreatDoor
namespace Go.Proofs.YtcfojmaccikgeaaGreatDoor
set_option maxRecDepth 100000
set_option maxHeartbeats 16000000
open Go.RowKit Go.WideMaps Go.Maps Go.Proofs.Tryz
variable {M m k:Nat} {w:Zw} {F:Nat->Prop}
theorem IG:∀k:Nat,k<44->36<=k->∀j:Nat,j<3->∀i:Nat,i<j->(!decide ((j:Int)=o7 (k:Int)) || (jo k).getD i 0==86)=true:=by decide
theorem Jt{s:Int}{j:Nat}(h:(j:Int)=o7 s):j<3:=by
 unfold o7 at h;split at h;·omega
 ·split at h<;>omega
theorem Iu{sn:mq M}{t:T (m+1)}{b:K (M+1)}(e:Nd.sort t=(k:Int)) (h:k=38∨k=39->iz (α:=T m) sn t=Zo b) (i:Nat) (x:K (M+1)) (c:List (K (M+1))):b7 (Nd.sort t) ((iz sn (show Nd (T m) from t)).getD zU) i x c=b7 (k:Int) b i x c:=by
 rw[e];by_cases d:k=38∨k=39;·have a:iz sn (show Nd (T m) from t)=Zo b:=h d;rw[a];rfl
 ·have a:¬((k:Int)=38∨(k:Int)=39):=by omega
  unfold b7;simp only[if_neg a]
theorem Gf{w':Zw}{P:Program}{t b n:Nat}{d:DataW Unit}(h:w.ownsMap P t oq b n d)(e:w'.heap[b]?=w.heap[b]?):w'.ownsMap P t oq b n d:=by obtain⟨c,a,f,g⟩:=h;exact⟨c,a,by rw[e];exact f,g⟩
theorem ij.sink{w0:Zw}{c:Nat}{cs:Array Zv}{a:Nat}{c0 c1 c2 c3 c4 g f:Zv}{pl p:Nat}(h:ij F M w0 c cs a c0 c1 c2 c3 c4 g f pl p [] (Zs Zn 0 0) [] w)(k:c<w0.heap.size)(v:Zv):ij F M w0 c cs a c0 c1 c2 c3 c4 g v pl p [] (Zs Zn 0 0) [] (w.setCell ⟨a,7,Zn⟩ v):=by have j:=h.ge;refine⟨⟨h.near.os,h.near.tape,h.near.output,by simpa using h.near.size,fun b d e=>(Below.heap_setCell _ _ _ _ (by show b≠a;omega)).trans (h.near.block b d e)⟩,(Below.heap_setCell _ _ _ _ (by show c≠a;omega)).trans h.chk,h.ge,?_,World.ownsRow_nil _ _ _ _,fun i h=>absurd h (Nat.not_lt_zero _)⟩;have d:=h.box;simp only[World.setCell,Array.getElem?_modify,d,if_pos,Option.map_some];rfl
theorem A9{sn:mq M}{t:T (m+1)}{na ka:Option Addr}{r kl kc:Nat}{V:Zw}(c:Nd.sort t=(k:Int))(d:k=38∨k=39)(n:vh t)(g:fL F V (Nd.names t) (Zs na (Nd.names t).length r))(v:Bd F V):∃o p,Calls prog 83 #[Za #[Zi Zk (k:Int),Zi Zk (Nd.num t),Zt (Nd.text t),Zs na (Nd.names t).length r,Zs ka kl kc]] V (fun e y=>e=Zr (Za #[Zt o,Zi Zk p])/\Bw V y)/\nM (o,p)/\iz (α:=T m) sn t=jy sn o p:=by
 rcases d with rfl|rfl;·refine⟨ByteArray.empty,0,tT 38 _ _ 0 0 _ _ _ _ ByteArray.empty V ⟨_,_,_,rfl⟩ (fun h=>absurd rfl h),⟨by decide,by decide,by decide⟩,?_⟩;unfold iz;exact if_pos c
 ·obtain⟨⟨a,b,j,-⟩,z,u⟩:=n.send c;obtain⟨w,x,cap,l,f,i⟩:=kj g v (by rw[b];simp);injection l with l _ _;subst l;have A:(Nd.names t).length=1:=by rw[b];rfl
  have q:=(i 0 (by omega)).1;have s:(Nd.names t)[0]'(by omega)=a:=by simp[b]
  rw[s]at q;refine⟨a,Nd.num t,tT 39 _ _ w x _ _ _ _ a V ⟨_,_,_,rfl⟩ (fun _=>⟨rfl,by omega,f,by simpa using q⟩),⟨j,by show 0<=Nd.num t;omega,u⟩,?_⟩;unfold iz;rw[if_neg (by show ¬Nd.sort t=38;rw[c];decide)];have:(show Nd (T m) from t).names.getD 0 ByteArray.empty=a:=by show (Nd.names t).getD 0 ByteArray.empty=a;rw[b];rfl
  rw[this]
def EQ(M:Nat)(sn:mq M)(m:Nat):Prop:=∀(F:Nat->Prop)(t:T m)(c0 c1 c2 c3 c4:Zv)(env:jF M)(n:Nat)(e:Zv)(d:Int)(c a:Nat)(cs:Array Zv)(mv:Zv)(w:Zw),fT F w m t c0 c1 c2 c3 c4->gH F w M n env e->(∀b,F b->b<w.heap.size/\b≠a)->a<w.heap.size->nD F w cs->w.heap[a]?=Zo (lB cs c)->gp m t d=true->36<=ni m t->(∀p,p∈env->gG (M+1) p.2=true)->c+fI m t<=1000->cs[0]?=Zo mv->vj F w M sn mv ->
 Calls prog 41 #[Zp (Zo ⟨a,0,Zn⟩),Za #[c0,c1,c2,c3,c4],e] w (mp F M (gS sn m t env c) cs a (c+fI m t) w)
theorem AV(M m:Nat)(hM:5<=M)(sn:mq M)(hn:EQ M sn m):EQ M sn (m+1):=by
 intro F t c0 c1 c2 c3 c4 env n sv d a g cs mv w ht bt hB cL br bW hg am aX cm aW bf;have am:36<=Nd.sort t:=am;simp only[gp,Bool.and_eq_true,decide_eq_true_eq,List.all_eq_true]at hg;obtain⟨⟨dc,hj⟩,ca⟩:=hg;have cn:=zZ hj am;have dk:Nd.sort t<=43:=by have h:=hj;unfold gV at h;simp only[Bool.and_eq_true,decide_eq_true_eq]at h;exact h.1.2
 obtain⟨k,hk⟩:∃k:Nat,Nd.sort t=(k:Int):=⟨(Nd.sort t).toNat,by omega⟩;have y:36<=k:=om;have z:k<44:=om;have R:=ht;obtain⟨bT,rfl,rfl,hs,dr,ds,h3,h4,⟨na,nl,nc,rfl,dl⟩,⟨O,kl,P,rfl,dm⟩⟩:=ht;rw[hk]at bT;subst bT;obtain⟨_,_,cS,-⟩:=id h3;cases cS
 obtain⟨_,_,cT,-⟩:=id h4;cases cT
 obtain⟨so,rfl⟩:∃so,sv=Zp so:=by rcases bt.ptr with ⟨-,rfl⟩|⟨sb,rfl,-⟩<;>exact⟨_,rfl⟩
 have ax:fI (m+1) t=1+b4 (fun x=>fI m x) (Nd.kids t):=rfl;have bZ:=mQ (Nd.kids t);have aE:fK (Nd.kids t) (Nd.kids t).length a=a+fI (m+1) t:=by unfold fK;rw[List.take_length,ax];omega
 have cN:(Nd.kids t).length<=1000:=om;obtain⟨f,ap⟩:∃W,W=w.alloc (Zc #[Zi Zk (k:Int),Zi Zk (Nd.num t),Zt (Nd.text t),Zs na (Nd.names t).length nc,Zs O (Nd.kids t).length P] 40):=⟨_,rfl⟩;have bm:Bw w f:=by rw[ap];exact gA _ _
 have cq:f.heap.size=w.heap.size+1:=by rw[ap];simp
 have aG:f.heap[w.heap.size]?=Zo (Zc #[Zi Zk (k:Int),Zi Zk (Nd.num t),Zt (Nd.text t),Zs na (Nd.names t).length nc,Zs O (Nd.kids t).length P] 40 (0,0)):=by rw[ap];exact heap_alloc_new _ _
 have cO:Bd F w:=fun b hb=>(hB b hb).1;have aF:=a6 bm cO;have hf:∀Q s,rf F f M Q s->qw F M m f g cs t (Zi Zk (k:Int)) (Zi Zk (Nd.num t)) (Zt (Nd.text t)) (Zs na (Nd.names t).length nc) (Zs O (Nd.kids t).length P) env n (Zp so) Q s:=fun Q s aO=>⟨fun b hb=>⟨by have:=(hB b hb).1;omega,(hB b hb).2⟩,om,br.keep aF fun _ h=>h,R.keep aF fun _ h=>h,bt.keep aF fun _ h=>h,aO⟩;have au:f.heap[g]?=Zo (lB cs a):=(bm.block g cL).trans bW;obtain⟨W2,ae⟩:∃W,W=(f.alloc (Zc #[Zi Zk (k:Int),Zi Zk (Nd.num t),Zt (Nd.text t),Zs na (Nd.names t).length nc,Zs O (Nd.kids t).length P,Zi Zk (a:Int),Zp so,Zp Zn,Zs Zn 0 0] 144)).drew:=⟨_,rfl⟩;have U:Bw f W2:=by rw[ae];exact (gA _ _).drew
 have cW:f.heap.size+1<=W2.heap.size:=by rw[ae];show _<=(f.alloc _).heap.size;simp
 have bx:W2.heap[f.heap.size]?=Zo (Zc #[Zi Zk (k:Int),Zi Zk (Nd.num t),Zt (Nd.text t),Zs na (Nd.names t).length nc,Zs O (Nd.kids t).length P,Zi Zk (a:Int),Zp so,Zp Zn,Zs Zn 0 0] 144 (0,0)):=by rw[ae];exact heap_alloc_new f _
 have bo:=br.1;have av:W2.heap[g]?=Zo (lB cs a):=(U.block g om).trans au;have bL:((a+1:Nat):Int)=(a:Int)+1:=om;have bh:∀p0,p0=a+1->ij F M f g cs f.heap.size (Zi Zk (k:Int)) (Zi Zk (Nd.num t)) (Zt (Nd.text t)) (Zs na (Nd.names t).length nc) (Zs O (Nd.kids t).length P) (Zp so) (Zp Zn) a p0 [] (Zs Zn 0 0) [] (W2.setCell ⟨g,89,Zn⟩ (Zi Zk ((a:Int)+1))):=by rintro _ rfl;rw[<- bL];exact⟨(b8.of_below U).trans (b8.set g 89 _ _),BM bo av,Nat.le_refl _,(Below.heap_setCell _ _ _ _ (by show f.heap.size≠g;omega)).trans bx,World.ownsRow_nil _ _ _ _,fun i h=>absurd h (Nat.not_lt_zero _)⟩
 obtain⟨da,cJ⟩:=nP bo av;obtain⟨cr,-⟩:=nP bo au;have aJ:=a7 cn;have cw:=a7 ca;have aQ:=a7 aX;have J:Hid (∀V,b8 g f V->b8 g w V/\V.cell? ⟨w.heap.size,0,Zn⟩=Zo (Zi Zk (k:Int))/\V.cell? ⟨w.heap.size,4,Zn⟩=Zo (Zs O (Nd.kids t).length P)):=fun V hV=>⟨(b8.of_below bm).trans hV,hV.cell (fZ aG).1 om,hV.cell (fZ aG).2.2.2.2 om⟩;have bJ:Hid (∀V,b8 g f V->V.cell? ⟨w.heap.size,0,Zn⟩=Zo (Zi Zk (k:Int))/\V.cell? ⟨w.heap.size,1,Zn⟩=Zo (Zi Zk (Nd.num t))/\V.cell? ⟨w.heap.size,2,Zn⟩=Zo (Zt (Nd.text t))/\V.cell? ⟨w.heap.size,3,Zn⟩=Zo (Zs na (Nd.names t).length nc)/\V.cell? ⟨w.heap.size,4,Zn⟩=Zo (Zs O (Nd.kids t).length P)):=fun V hV=>by obtain⟨g0,g1,g2,g3,g4⟩:=fZ aG;exact⟨hV.cell g0 om,hV.cell g1 om,hV.cell g2 om,hV.cell g3 om,hV.cell g4 om⟩
 have al:=a7 (bh (fK (Nd.kids t) 0 a) (by unfold fK;simp[b4]));obtain⟨g0,g1,g2,g3,g4⟩:=fZ aG;have N:w.heap.size<f.heap.size:=om;have bV:g<f.heap.size:=om;have aM:∀V,Bw f V->V.cell? ⟨w.heap.size,0,Zn⟩=Zo (Zi Zk (k:Int))/\V.cell? ⟨w.heap.size,1,Zn⟩=Zo (Zi Zk (Nd.num t))/\V.cell? ⟨w.heap.size,2,Zn⟩=Zo (Zt (Nd.text t))/\V.cell? ⟨w.heap.size,3,Zn⟩=Zo (Zs na (Nd.names t).length nc)/\V.cell? ⟨w.heap.size,4,Zn⟩=Zo (Zs O (Nd.kids t).length P)/\V.cell? ⟨g,89,Zn⟩=Zo (Zi Zk (a:Int)):=fun V h=>⟨kC h g0 N,kC h g1 N,kC h g2 N,kC h g3 N,kC h g4 N,kC h cr bV⟩;have cF:=a7 aM;have bP:=aM W2 U;have aT:=a7 (aM f.drew (Below.refl _ _).drew);have bI:=a7 (bf.keep aF fun _ h=>h);have bA:=a7 aW;have G:=a7 hf;have cI:Hid (W2.heap[f.heap.size]?=_):=bx;have cu:=a7 U;have dj:=a7 R;have cD:=a7 aE;have cE:=a7 cm;have cv:=a7 ax;have dh:(a:Int)+1<2000:=om;have dg:(0:Int)<=(a:Int):=om;have di:w.heap.size+1<=f.heap.size:=Nat.le_of_eq cq.symm;clear cq;clear bf aW;clear R bt br bW cn ca aX hj hf bh au av aG bx U g0 g1 g2 g3 g4 aM h3 h4 aF ax aE cm bZ bL;go_in;go_upto_region 1 with fail;rw[<- ap];refine wp_region_held_drew (S:=fun E=>E.cell? ⟨w.heap.size,0,Zn⟩=Zo (Zi Zk (k:Int))/\E.cell? ⟨w.heap.size,1,Zn⟩=Zo (Zi Zk (Nd.num t))/\E.cell? ⟨w.heap.size,2,Zn⟩=Zo (Zt (Nd.text t))/\E.cell? ⟨w.heap.size,3,Zn⟩=Zo (Zs na (Nd.names t).length nc)/\E.cell? ⟨w.heap.size,4,Zn⟩=Zo (Zs O (Nd.kids t).length P)/\E.cell? ⟨g,89,Zn⟩=Zo (Zi Zk (a:Int))) zK aT.out (fun hHeld=>?_);clear ap;have cX:f.heap.size<=f.drew.heap.size:=Nat.le_refl _;refine tk 0 ?_;refine tk 1 ?_;refine tk 2 ?_;refine tk 3 ?_;refine tk 4 ?_;refine tk 5 ?_;refine tk 6 ?_;refine js 7 fun K hK=>?_;go_simp;refine hK.out _ _ (by rw[<- ae];exact bP) (fun hHeld=>?_);clear hK K;rw[<- ae];clear ae;refine tk 8 ?_;refine wpAnyH_done zK ?_ _;go_simp;obtain⟨r0,r1,r2,r3,r4,r5⟩:=bP;clear hHeld;go_upto_region 3 with fail;obtain⟨V3,aN⟩:=il (W2.setCell ⟨g,89,Zn⟩ (Zi Zk ((a:Int)+1)));have H:=al;rw[<- aN]at H ⊢;have v0:V3.cell? ⟨w.heap.size,0,Zn⟩=Zo (Zi Zk (k:Int)):=by rw[aN];simp[go_sem,r0]
 have cH:=a7 aN;clear aN;go_cut [33] from 26 to 32 (fun bv wx=>(∃b,bv=Zb b/\Hid (b=true↔k=38∨k=39))/\wx=V3);case first=>
  by_cases an:k=38
  ·have HE:Hid (k=38∨k=39):=.inl an;have hb:((k:Int)==38)=true:=by simp[an]
   clear an;go_wp2;go_meet;exact⟨⟨true,rfl,⟨fun _=>HE.out,fun _=>rfl⟩⟩,rfl⟩
  ·have hb:((k:Int)==38)=false:=by simpa using (show ¬(k:Int)=38 by omega)
   by_cases aL:k=39
   ·have HE:Hid (k=38∨k=39):=.inr aL;have U:((k:Int)==39)=true:=by simp[aL]
    clear an aL;go_wp2;go_meet;exact⟨⟨true,rfl,⟨fun _=>HE.out,fun _=>rfl⟩⟩,rfl⟩
   ·have HE:Hid (false=true↔k=38∨k=39):=⟨fun h=>(by cases h),fun h=>absurd h (by omega)⟩;have U:((k:Int)==39)=false:=by simpa using (show ¬(k:Int)=39 by omega)
    clear an aL;go_wp2;go_meet;exact⟨⟨false,rfl,HE⟩,rfl⟩
 case rest=>
  obtain⟨⟨b,rfl,HE⟩,co⟩:=hcut;rw[co];clear co;go_upto_if 33 with fail;go_cut [8] from 34 to 50 (fun lv wx=>lv=Zp (Zo ⟨f.heap.size,0,Zn⟩)/\∃Q s,rf F f M Q s/\(k=38∨k=39->iz (α:=T m) sn t=Zo Q/\gG (M+1) Q=true)/\ij F M f g cs f.heap.size (Zi Zk (k:Int)) (Zi Zk (Nd.num t)) (Zt (Nd.text t)) (Zs na (Nd.names t).length nc) (Zs O (Nd.kids t).length P) (Zp so) s a (fK (Nd.kids t) 0 a) [] (Zs Zn 0 0) [] wx);case first=>
   cases b with
   | false=>go_wp2;go_meet;exact⟨rfl,zU,Zp Zn,.inr ⟨rfl,rfl⟩,fun h=>absurd (HE.out.2 h) (by simp),H.out⟩
   | true=>
    have bq:=HE.out.1 rfl;have cB:=a7 bq;clear HE;obtain⟨mb,bs,bz,rfl,ao,bc,hrel⟩:=bI.out;have bY:Bw V3 V3.drew:=(Below.refl _ _).drew;have u:=H.out.on (fun b hb=>((G.out zU _ (.inr ⟨rfl,rfl⟩)).fz b hb).1) bY;have ag:=(G.out zU _ (.inr ⟨rfl,rfl⟩)).fz;have bX:=(G.out zU _ (.inr ⟨rfl,rfl⟩)).cblt;obtain⟨-,-,-,-,-,-,cj,-⟩:=id (G.out zU _ (.inr ⟨rfl,rfl⟩)).node;have be:=u.near.same ag;have bN:Bd F V3.drew:=fun b hb=>Nat.lt_of_lt_of_le (ag b hb).1 u.near.size;obtain⟨ps,pv,ar,bd,bg⟩:=A9 (sn:=sn) (ka:=O) (kl:=(Nd.kids t).length) (kc:=P) hk bq aJ.out (cj.keep be fun _ h=>h) bN;have bB:=a7 ar;have hS:∀V p,b8 g f V->V.heap[g]?=Zo (lB cs p)->V.cell? ⟨g,0,Zn⟩=Zo (.map (Zo mb))/\(V.cell? ⟨w.heap.size,0,Zn⟩=Zo (Zi Zk (k:Int))/\V.cell? ⟨w.heap.size,1,Zn⟩=Zo (Zi Zk (Nd.num t))/\V.cell? ⟨w.heap.size,2,Zn⟩=Zo (Zt (Nd.text t))/\V.cell? ⟨w.heap.size,3,Zn⟩=Zo (Zs na (Nd.names t).length nc)/\V.cell? ⟨w.heap.size,4,Zn⟩=Zo (Zs O (Nd.kids t).length P))/\V.ownsMap prog 146 oq mb bz (qU bs):=fun V p hV hc=>⟨mM hc 0 _ (by rw[Array.getElem?_push,if_neg om];exact bA.out),bJ.out V hV,Gf bc (hV.block mb (ag mb ao).1 (ag mb ao).2)⟩;have HS:=a7 hS;have bk:=a7 hrel;obtain⟨sp,bu⟩:=il ((qg bs (ps,pv)).map fun b=>(⟨b,0,Zn⟩:Addr));have bD:Hid (∀V,V.ownsMap prog 146 oq mb bz (qU bs)->(Instr.lookup 111 (.map (Zo mb)) (Za #[Zt ps,Zi Zk pv]) false).run prog V=.ok (Zp sp) V):=fun V h=>by rw[bu];exact zo (p:=(ps,pv)) h hrel.1 bd
    have aI:=a7 bu;have bQ:=hS _ _ u.near u.chk;have aU:=a7 u;have bH:=a7 bg;have df:=u.lt;clear bu bq bc hrel u cj be ar hS bg bd H al;go_upto_region 4 with fail;refine wp_region_held_drew (S:=fun E=>E.cell? ⟨g,0,Zn⟩=Zo (.map (Zo mb))/\(E.cell? ⟨w.heap.size,0,Zn⟩=Zo (Zi Zk (k:Int))/\E.cell? ⟨w.heap.size,1,Zn⟩=Zo (Zi Zk (Nd.num t))/\E.cell? ⟨w.heap.size,2,Zn⟩=Zo (Zt (Nd.text t))/\E.cell? ⟨w.heap.size,3,Zn⟩=Zo (Zs na (Nd.names t).length nc)/\E.cell? ⟨w.heap.size,4,Zn⟩=Zo (Zs O (Nd.kids t).length P))/\E.ownsMap prog 146 oq mb bz (qU bs)) zK bQ (fun hHeld=>?_);generalize V3.drew=Y at *;refine tk 0 ?_;refine tk 1 ?_;refine tk 2 ?_;refine tk 3 ?_;refine tk 4 ?_;refine tk 5 ?_;refine js 6 fun K hK=>?_;go_simp;go_at_call 83;refine bB.out.mono ?_;rintro e Y1 ⟨rfl,bS⟩;have A:=aU.out.on (fun b hb=>(ag b hb).1) bS;refine hK.out _ _ (HS.out _ _ A.near A.chk) (fun hHeld=>?_);have aV:=a7 A;have de:=A.lt;have aq:=A.box;have q7:=(ia aq).2.2.2.2.2.2.2.1;have f7:Y1.frozen? ⟨f.heap.size,7,Zn⟩=false:=by simp[World.frozen?,aq]
    clear hK K bB A aU aq;refine tk 7 (v:=Zp sp) ?_ (hy:=by intro wq hSw;have dq:=bD.out wq hSw.2.2;go_simp);refine tk 8 ?_;refine tk 9 ?_;have ac:=aV.out.sink bX (Zp sp);have bR:=HS.out _ _ ac.near ac.chk;refine js 10 fun K hK=>?_;go_simp;refine hK.out _ _ bR (fun hHeld=>?_);clear hK K;refine wpAnyH_done zK ?_ _;go_simp;have I:=a7 ac;obtain⟨Z,hZ⟩:=il (Y1.setCell ⟨f.heap.size,7,Zn⟩ (Zp sp));rw[<- hZ]at I ⊢;obtain⟨-,-,-,-,-,z5,-,z7,-⟩:=ia I.out.box;clear ac bR hHeld aV q7 f7 hZ ag bX ao bN bY bQ bS HS bD;rcases bk.out.2 (ps,pv) with ⟨aA,aB⟩|⟨k0,b0,aA,aB,aC,aZ⟩
    ·obtain rfl:sp=Zn:=by have h:=aI.out;rw[aB]at h;exact h
     clear aI;have aw:gS sn (m+1) t env a=(zU,5,a):=by rw[gS,if_pos ⟨(by have:=cB.out;omega),bH.out.trans aA⟩]
     have HP:Hid (mp F M (gS sn (m+1) t env a) cs g (a+fI (m+1) t) w (Zr (Zu #[Zp Zn,mz 5 a])) Z):=by show mp _ _ _ _ _ _ _ _ _;rw[aw];exact⟨(J.out Z I.out.near).1,.inr ⟨show (5:Int)≠0 by decide,_,0,rfl,rfl⟩⟩
     have bj:=Lib.hid (qH f.heap.size a 5 Z z5);obtain⟨tt,xx,ai⟩:∃tt xx,mz 5 (a:Nat)=.iface tt xx:=⟨_,_,rfl⟩;rw[ai]at HP bj;clear aw aA aB ai I bk;go_wp2_with fail;refine bj.out.mono ?_;rintro e w2 ⟨rfl,rfl⟩;clear bj;go_wp2_with fail;refine bodyPost_ret (by simp[results,results41,go_sem];rfl) rfl ?_;exact HP.out
    ·obtain rfl:sp=Zo ⟨b0,0,Zn⟩:=by have h:=aI.out;rw[aB]at h;exact h
     clear aI;have bG:Hid (rf F f M k0 (Zp (Zo ⟨b0,0,Zn⟩))/\(k=38∨k=39->iz (α:=T m) sn t=Zo k0/\gG (M+1) k0=true)):=⟨.inl ⟨aC,aZ⟩,fun _=>⟨bH.out.trans aA,aC⟩⟩;clear aA aB aC aZ bk;go_wp2;go_meet;exact⟨rfl,k0,_,bG.out.1,bG.out.2,I.out⟩
  case rest=>
   obtain⟨rfl,Q,s,aO,aP,ay⟩:=hcut;have ci:Nd.sort t=38∨Nd.sort t=39->iz (α:=T m) sn t≠Zn:=fun h=>by rw[(aP om).1];simp
   have bU:=fun cZ=>oL (M:=M) (env:=env) (pl:=cZ) ci;have bi:=a7 bU;have aH:=a7 aO;have cG:=a7 aP;have aR:=a7 ay;have bK:=a7 (Iu (M:=M) hk fun h=>(aP h).1);have z4:=(J.out _ ay.near).2.2;clear ci bU aO aP ay al H cH cI cu v0 r0 r1 r2 r3 r4 r5 da cJ cF aT cr cX cW HE bJ;go_wp2_with fail;go_loopw [54] (fun iv wr=>∃(j:Nat)(D:List (K (M+1)))(kv:Zv)(xs:List Zv),iv=Zi Zk j/\j<=(Nd.kids t).length/\qv sn m t env a j D/\(∀i (h:i<D.length),(jo k).getD i 0=86->gG (M+1) D[i]=true)/\ij F M f g cs f.heap.size (Zi Zk (k:Int)) (Zi Zk (Nd.num t)) (Zt (Nd.text t)) (Zs na (Nd.names t).length nc) (Zs O (Nd.kids t).length P) (Zp so) s a (fK (Nd.kids t) j a) D kv xs wr) (fun iv _=>(Nd.kids t).length-(intOf iv).toNat);case atStart=>exact⟨0,[],_,_,rfl,Nat.zero_le _,qv.start _ _ _ _ _,fun i h=>absurd h (Nat.not_lt_zero _),aR.out⟩
   case round=>
    clear z4 aR;obtain⟨j,D,kv,xs,rfl,dp,bw,bb,ch⟩:=hrel;have ab:=bw.len;have ak:=a7 bw;have aS:=a7 bb;have aj:=a7 ch;clear bw bb ch;by_cases l:j<(Nd.kids t).length
    ·have ah:=aJ.out.op j l;rw[hk,Int.toNat_natCast]at ah;have cP:1<=m:=by
      cases m with
      | zero=>have e:∀x:T 0,ni 0 x=0:=fun _=>rfl;rw[e]at ah;omega
      | succ m=>omega
     obtain⟨r,hr⟩:=il (mB sn m t env a j D (Nd.kids t)[j]);have HR:=a7 hr;have bn:=aJ.out.bindOk am ak.out;have aD:(j:Int)=o7 (Nd.sort t)->∀x,x∈D->gG (M+1) x=true:=fun af x hx=>by obtain⟨i,hi,rfl⟩:=List.getElem_of_mem hx;rw[hk]at af;exact aS.out i hi (by have h:=IG k z y j (Jt af) i om;simpa [af] using h)
     have X:∀p,p∈jV (Nd.sort t) (Nd.names t) j D env->gG (M+1) p.2=true:=by
      by_cases af:(j:Int)=o7 (Nd.sort t);·exact xX aQ.out (aD af) ab bn
      ·rw[Fc af];exact aQ.out
     have C:=cw.out _ (List.getElem_mem l);have cl:fK (Nd.kids t) j a+fI m (Nd.kids t)[j]<=1000:=by have h1:=lO (Nd.kids t) (j+1);rw[fQ _ _ _ l]at h1;have:=cE.out;have:=cv.out;unfold fK;omega
     have bp:r.2.1=0->(jo k).getD j 0=86->gG (M+1) r.1=true:=fun B ad=>by
      rcases ah with ⟨-,-,aK⟩|⟨bl,-⟩;·rw[hr]at B ⊢;exact pu (M:=M) hM (sn:=sn) aK B cP
      ·exact absurd (bl.symm.trans ad) (by decide)
     have bO:=BZ F M m k j g f.heap.size a (fK (Nd.kids t) j a) (fK (Nd.kids t) (j+1) a) f wr cs t _ _ _ _ _ env (jV (Nd.sort t) (Nd.names t) j D env) n _ Q s D kv xs r (G.out Q s aH.out) aj.out hk om om l (fun _=>by have:=aJ.out.cnt;rw[hk,Int.toNat_natCast]at this;omega) cN ab
      ((aj.out.on (fun b hb=>((G.out Q s aH.out).fz b hb).1) ((Below.refl _ _).drew)).at (G.out Q s aH.out) j ab bn aD)
      (fun S V ct n' d0 d1 d2 d3 d4 g1 g2 g3 g4 g5 g6 cK cR=>by
       rw[hr]
       rcases ah with ⟨-,-,aK⟩|⟨-,bM⟩
       ·have:=DM M hM m S (Nd.kids t)[j] d0 d1 d2 d3 d4 _ n' ct (d+1) (fK (Nd.kids t) j a) g cs V g1 g2 g3 g6 g4 g5 C aK X cl
        rw[<- oo _ _ _ l,<- Ag sn m _ _ C aK]at this
        exact this
       ·have:=hn S (Nd.kids t)[j] d0 d1 d2 d3 d4 _ n' ct (d+1) (fK (Nd.kids t) j a) g cs mv V g1 g2 g3 g6 g4 g5 C bM X cl bA.out (bI.out.keep cR cK)
        rw[<- oo _ _ _ l]at this
        exact this)
      (fun B hw=>bp B (by
       rcases ah with ⟨ad,-⟩|⟨bl,-⟩
       ·exact ad
       ·exact absurd hw (E2 z y bl)))
      (fun q h=>(E1 z y h).elim)
      (fun h=>(Aa z y h).elim)
      (fun h=>(cG.out (E3 z y h)).2)
     have aa:=a7 bO;have cM:(j:Int)<((Nd.kids t).length:Int):=om;have cf:¬r.2.1=0->gS sn (m+1) t env a=(zU,r.2):=fun B=>by
      have h1:ip sn m t env a=([],r.2):=by have:=ak.out.bad l (by rw[<- HR.out];exact B);rw[<- HR.out]at this;exact this
      rw[bi.out,h1];exact if_pos B
     have cg:r.2.1=0->b7 (k:Int) Q j r.1 D=false->gS sn (m+1) t env a=(zU,6,fK (Nd.kids t) j a):=fun B hw=>by have h1:ip sn m t env a=([],6,fK (Nd.kids t) j a):=ak.out.wrong l (by rw[<- HR.out];exact B) (by rw[bK.out,<- HR.out];exact hw);rw[bi.out,h1];exact if_pos (show (6:Int)≠0 by decide)
     have ce:r.2.1=0->b7 (k:Int) Q j r.1 D=true->qv sn m t env a (j+1) (D++[r.1]):=fun B hw=>by have:=ak.out.next l (by rw[<- HR.out];exact B) (by rw[bK.out,<- HR.out];exact hw);rw[<- HR.out]at this;exact this
     have cz:=a7 cf;have cA:=a7 cg;have cx:=a7 ce;have cy:=a7 bp;clear cf cg ce bp bO hr bn X C aD ah;generalize b7 (k:Int) Q j r.1 D=wb at *;go_wp2_with fail;refine aa.out.mono ?_;have aY:∀(w2:Zw)(tt:TypeId)(xx:Zv)(c:Int)(p dd:Nat),b8 g f w2->c≠0->lh dd (.iface tt xx) c p->gS sn (m+1) t env a=(zU,c,p)->mp F M (gS sn (m+1) t env a) cs g (a+fI (m+1) t) w (Zr (Zu #[Zp Zn,.iface 151 (Za #[Zi Zk (k:Int),.iface tt xx])])) w2.drew/\w2.drew.cell? ⟨w.heap.size,0,Zn⟩=Zo (Zi Zk (k:Int)):=fun w2 tt xx c p dd o hc L he=>by rw[he];exact⟨⟨(J.out w2 o).1.drew,.inr ⟨hc,_,_,rfl,s4 (k:Int) L⟩⟩,(J.out w2 o).2.1⟩
     have bC:=a7 aY;clear aY;rintro e w2 (⟨B,o,v,dd,rfl,L⟩|⟨B,cU,o,rfl⟩|⟨B,cV,rfl,cY,db,ba⟩);·obtain⟨tt,xx,rfl⟩:=L.iface;obtain⟨HP,z0⟩:=bC.out w2 tt xx _ _ _ o B L (cz.out B);have HP:=a7 HP;clear aa L;go_upto_region 12 with fail;refine wp_region_held_drew (S:=fun E=>E.cell? ⟨w.heap.size,0,Zn⟩=Zo (Zi Zk (k:Int))) zK z0 (fun hHeld=>?_);generalize w2.drew=Y at *;refine tk 0 ?_;refine tk 1 ?_;refine tk 2 ?_;refine tk 3 ?_;refine tk 4 ?_;refine tk 5 ?_;refine tk 6 ?_;refine wpAnyH_done zK ?_ _;go_simp;go_wp2_with fail;refine bodyPost_ret (by simp[results,results41,go_sem];rfl) rfl ?_;exact HP.out
     ·obtain⟨tt,xx,ai⟩:∃tt xx,mz 6 (fK (Nd.kids t) j a:Nat)=.iface tt xx:=⟨_,_,rfl⟩;have L:lh 0 (.iface tt xx) 6 (fK (Nd.kids t) j a):=ai.symm;obtain⟨HP,z0⟩:=bC.out w2 tt xx _ _ _ o zC L (cA.out B cU);have HP:=a7 HP;rw[ai];clear ai aa L;go_upto_region 12 with fail;refine wp_region_held_drew (S:=fun E=>E.cell? ⟨w.heap.size,0,Zn⟩=Zo (Zi Zk (k:Int))) zK z0 (fun hHeld=>?_);generalize w2.drew=Y at *;refine tk 0 ?_;refine tk 1 ?_;refine tk 2 ?_;refine tk 3 ?_;refine tk 4 ?_;refine tk 5 ?_;refine tk 6 ?_;refine wpAnyH_done zK ?_ _;go_simp;go_wp2_with fail;refine bodyPost_ret (by simp[results,results41,go_sem];rfl) rfl ?_;exact HP.out
     ·have cC:=a7 (cx.out B cV);have HO:=a7 (cy.out B);have bE:=a7 ba;clear ba aj aa;go_wp2;go_roundw;case rel=>
       refine⟨j+1,D++[r.1],cY,db,by go_num,om,cC.out,fun i hi ad=>?_,bE.out⟩;by_cases cc:i<D.length;·rw[List.getElem_append_left cc];exact aS.out i cc ad
       ·have e:i=D.length:=by simp at hi;omega
        subst e;have e2:(D++[r.1])[D.length]'hi=r.1:=by simp
        rw[e2];exact HO.out (by rw[<- ab];exact ad)
      case measure=>simp[intOf];omega
    ·have cd:j=(Nd.kids t).length:=by omega
     have az:=aj.out;have cQ:=az.near;have aw:gS sn (m+1) t env a=(zU,0,0):=by rw[bi.out,ak.out.done cd];refine (if_neg (by simp)).trans ?_;unfold kB;exact if_pos am
     have bF:=Lib.hid (F2 (Ov F f.heap.size Zn wr) k g f.heap.size _ wr (az.chkIn (G.out Q s aH.out)) (ia az.box).1 y z);have ck:fK (Nd.kids t) j a=a+fI (m+1) t:=by rw[cd];exact cD.out
     have HP:Hid (mp F M (gS sn (m+1) t env a) cs g (a+fI (m+1) t) w (Zr (Zu #[Zp Zn,.nilIface])) wr.drew):=by show mp _ _ _ _ _ _ _ _ _;rw[aw,<- ck];exact⟨(J.out wr cQ).1.drew,.inl ⟨rfl,_,rfl,.inr ⟨rfl,rfl⟩,az.chk⟩⟩
     have cM:¬(j:Int)<((Nd.kids t).length:Int):=om;clear aw az aj ck;go_wp2_with fail;refine bF.out.mono ?_;rintro e w2 ⟨rfl,rfl⟩;clear bF;go_wp2_with fail;refine bodyPost_ret (by simp[results,results41,go_sem];rfl) rfl ?_;exact HP.out
theorem DL(M:Nat)(a:5<=M)(sn:mq M):∀m,EQ M sn m:=by
 intro m;induction m with
 | zero=>intro F t c0 c1 c2 c3 c4 env n g d f e cs mv w b;exact b.elim
 | succ m c=>exact AV M m a sn c
end Go.Proofs.YtcfojmaccikgeaaGreatDoor
