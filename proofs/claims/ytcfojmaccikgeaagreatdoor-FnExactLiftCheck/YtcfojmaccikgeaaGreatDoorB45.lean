import Derived.Test.YtcfojmaccikgeaaGreatDoorB41
open Go.Value renaming slice→Zs,int→Zi,string→Zt,pointer→Zp,agg→Za,tuple→Zu,bool→Zb
open Go.IntKind renaming i64→Zk
open Go.Ending renaming returned→Zr
open Go.Obj renaming cells→Zc
open Option renaming none→Zn,some→Zo
open Go renaming World→Zw,Value→Zv
namespace Go.Proofs.YtcfojmaccikgeaaGreatDoor
set_option maxRecDepth 100000
set_option maxHeartbeats 16000000
open Go.RowKit Go.WideMaps Go.Maps Go.Proofs.Tryz
variable {p:ZN×Int}
theorem Cp:Keyed prog 146:=Keyed.of_law (deep_law (m:=2) zC zK zK zK)
def Is(s:ZN)(v:Int):Zv:=Za #[Zt s,Zi Zk v]
def D8(s:ZN)(v:Int):Lit:=.string (keyBytes [.string s.data.toList,.int Zk v])
def nN(p:ZN×Int):Prop:=p.1.size<=8/\0<=p.2/\p.2<=12
theorem qh{s:ZN}{v:Int}(h:nN (s,v)):keyOf prog 146 (Is s v)=Zo (D8 s v):=by
 obtain⟨d,f,g⟩:=h;have b:s.size<=maxLen:=by unfold maxLen;simp only at d;omega
 have c:(Lit.int Zk v).wf=true:=by
  have e:wrap64 v=v:=by unfold wrap64;simp only at f g;omega
  have h:=wrap64_wf v;rwa [e]at h
 obtain⟨f0,f1,a,k,l,m,n,t0,o⟩:∃ f0 f1:Field,prog.underlying 146=Zo (.struct #[f0,f1])/\(f0.name != "_")=true/\(f1.name != "_")=true/\f0.offset=0/\f1.offset=1/\f0.type=9/\f1.type=3:=by have h:(prog.fieldsOf 146).size=2:=zK;refine⟨(prog.fieldsOf 146)[0],(prog.fieldsOf 146)[1],zK,zK,zK,zK,zK,zK,zK⟩
 have c0:prog.cellsOf 9=1:=zK;have c1:prog.cellsOf 3=1:=zK;have c2:prog.cellsOf 146=2:=zK;have j:prog.types.size=366:=zK;have i:prog.keyType 146=true:=zK;unfold keyOf;simp only[a];rw[if_pos (by rw[i];simp[Is,Value.formed,a,c2]),j];unfold Program.keyLits;simp only[a,Is,Value.cells];rw[if_pos ⟨by rw[c2];rfl,by simp[k,l]⟩];simp only[List.mapM_cons,List.mapM_nil,m,n,t0,o,c0,c1];simp[Program.keyLits,underlying9,underlying3,b,c,D8]
theorem GF{q:ZN×Int}(c:nN p)(d:nN q)(h:D8 p.1 p.2=D8 q.1 q.2):p=q:=by have a:=qh (s:=p.1) (v:=p.2) c;have b:=qh (s:=q.1) (v:=q.2) d;rw[h]at a;have:=Cp.inj a b;simp only[Is,Value.agg.injEq,Array.mk.injEq,List.cons.injEq,Value.string.injEq,Value.int.injEq,and_true,true_and]at this;exact Prod.ext this.1 this.2
def qU:List ((ZN×Int)×Nat)->DataW Unit
 | []=>.map []
 | p :: r=>(qU r).put (D8 p.1.1 p.1.2) (.lit (.int Zk (p.2:Int)))
def qg:List ((ZN×Int)×Nat)->ZN×Int->Option Nat
 | [],_=>Zn
 | p :: r,x=>if p.1=x then Zo p.2 else qg r x
theorem Jt:∀l,IsMap (qU l):=by
 intro l;induction l with
 | nil=>exact⟨_,rfl⟩
 | cons p r a=>exact a.put _ _
theorem JY(c:nN p)(z:DataW Unit):∀l:List ((ZN×Int)×Nat),(∀q,q∈l->nN q.1)->(qU l).atKey (D8 p.1 p.2) z=match qg l p with|Zo b=>.lit (.int Zk (b:Int))|Zn=>z:=by
 intro l;induction l with
 | nil=>intro _;rfl
 | cons q r f=>
  intro h;unfold qg;by_cases e:q.1=p;·rw[if_pos e,<- e];exact atKey_put_same (Jt r) (Cp.key (qh (h q (List.mem_cons_self ..)))) _ z
  ·rw[if_neg e,qU,atKey_put_other (fun a=>e (GF c (h q (List.mem_cons_self ..)) a).symm)];exact f fun x d=>h x (List.mem_cons_of_mem _ d)
theorem zr {w:Zw} {d n:Nat} {l:List ((ZN × Int) × Nat)} (a:w.ownsMap prog 146 ot d n (qU l)) (i:∀ q,q∈l->nN q.1) (e:nN p) :
  (Instr.lookup 111 (.map (Zo d)) (Za #[Zt p.1,Zi Zk p.2]) false).run prog w=.ok (Zp ((qg l p).map fun b=>⟨b,0,Zn⟩)) w:=by
 obtain⟨v,k,c,f⟩:=a.lookup Cp underlying111 (zW w) (zd:=.lit (.int Zk (-1))) (zp:=[]) rfl (qh (s:=p.1) (v:=p.2) e);rw[JY e _ l i]at f;have j:(Instr.lookup 111 (.map (Zo d)) (Za #[Zt p.1,Zi Zk p.2]) false).run prog w=.ok v w:=c;rw[j];rcases tL f with ⟨rfl,h⟩|⟨b,rfl,h⟩
 ·cases hs:qg l p with
  | none=>rfl
  | some b=>rw[hs]at h;have:=oR h;omega
 ·cases hs:qg l p with
  | none=>rw[hs]at h;have:=oR h;omega
  | some g=>rw[hs]at h;have:=oR h;obtain rfl:g=b:=Int.ofNat_inj.1 this;rfl
end Go.Proofs.YtcfojmaccikgeaaGreatDoor
namespace Go.Proofs.YtcfojmaccikgeaaGreatDoor
open Go.RowKit Go.Proofs.Tryz
set_option maxRecDepth 100000
set_option maxHeartbeats 16000000
def BL(S:ZP)(n:Nat)(t:K n)(w:Zw)(e:Ending)(w':Zw):Prop:=
 Bw w w' /\ ((jH n t=true/\gF n t=true/\∃a,e=Zr (Zu #[Zp (Zo ⟨a,0,Zn⟩),Zb true])/\b9 (fun b=>S b∨w.heap.size<=b/\b<w'.heap.size) w' n t (Zp (Zo ⟨a,0,Zn⟩)))∨(jH n t=false/\e=Zr (Zu #[Zp Zn,Zb false])))
theorem pd (n:Nat) (S:ZP) (t:K n) (c0 c1 c2:Zv) (w:Zw) (p:a8 S w n t c0 c1 c2) (r:Bd S w) :
  Calls prog 65 #[Za #[c0,c1,c2]] w (BL S n t w):=by
 obtain⟨v,x,z,y,A,C,B,rfl,rfl,rfl⟩:=p.shape;obtain⟨W,l⟩:=ii (w.alloc (Zc #[Zi Zk v,Zs x z y,Zs A C B] 31));have m:Bw w W:=by rw[l];exact gx _ _
 have o:w.heap.size<=W.heap.size:=m.size;obtain⟨⟨E,F,G⟩,-⟩:=fY (show W.heap[w.heap.size]?=_ by rw[l];exact heap_alloc_new _ _);have j:=a7 (pe n S t _ _ _ W (p.keep (a6 m r) fun _ h=>h) (fun b h=>Nat.lt_of_lt_of_le (r b h) o));clear p;go_in;go_wp2_with fail;rw[<- l];clear l;refine j.out.mono ?_;rintro e q ⟨g,⟨d,D,rfl,c⟩|⟨d,rfl⟩⟩
 ·obtain⟨s,rfl,-⟩:=id c.ptr;cases n with
  | zero=>exact c.elim
  | succ n=>
   have u:=tm c;have i:=m.trans (g.mono o);by_cases k:Kd.sort t=5
   ·have a:jH (n+1) t=true:=by show (gF (n+1) t && (Kd.sort t==5))=true;rw[d,k];rfl
    have f:Hid (BL S (n+1) t w (Zr (Zu #[Zp (Zo ⟨s,0,Zn⟩),Zb true])) q):=⟨i,.inl ⟨a,d,s,rfl,c.keep (fun _ _=>rfl) fun b h=>h.imp id fun h=>⟨Nat.le_trans o h.1,h.2⟩⟩⟩;rw[k]at u;clear j c a k;go_wp2;go_ret2;exact f.out
   ·have a:jH (n+1) t=false:=by show (gF (n+1) t && (Kd.sort t==5))=false;simp[k]
    have f:Hid (BL S (n+1) t w (Zr (Zu #[Zp Zn,Zb false])) q):=⟨i,.inr ⟨a,rfl⟩⟩;clear j c a;go_wp2;go_ret2;exact f.out
 ·have a:jH n t=false:=by cases n with|zero=>rfl|succ n=>show (gF (n+1) t && (Kd.sort t==5))=false;rw[d];rfl
  have f:Hid (BL S n t w (Zr (Zu #[Zp Zn,Zb false])) q):=⟨m.trans (g.mono o),.inr ⟨a,rfl⟩⟩;clear j a;go_wp2;go_ret2;exact f.out
theorem D9 (s:ZN) (v:Int) (w:Zw) (o:s.size<=maxLen) :
  Calls prog 93 #[Za #[Zt s,Zi Zk v]] w fun e g=>e=Zr (Zb (qV s v))/\Bw w g:=by
 have c:=a7 (kV s (w.alloc (Zc #[Zt s,Zi Zk v] 146)) o);have d:=a7 (gx w (Zc #[Zt s,Zi Zk v] 146));by_cases i:s=ByteArray.empty/\v=0
 ·obtain⟨rfl,rfl⟩:=i;have f:Hid (qV ByteArray.empty 0=true):=by show ((_==_ && _) || _)=_;rfl
  have p:ByteArray.empty.toList=[]:=by rw[ByteArray.toList_eq];rfl
  rw[f.out];go_in;go_wp2;go_ret;exact⟨rfl,d.out⟩
 ·have f:Hid (qV s v=(gj s && (decide (1<=v) && decide (v<=12)))):=by
   show _=_;unfold qV;have:(s==ByteArray.empty && v==0)=false:=by
    rw[Bool.and_eq_false_iff];by_cases h:s=ByteArray.empty;·exact .inr (by simpa using fun b=>i ⟨h,b⟩)
    ·exact .inl (by rw[qE];exact decide_eq_false h)
   rw[this,Bool.false_or]
  have k:s.toList=[]/\¬v=0∨¬s.toList=[]:=by
   by_cases h:s.toList=[];·refine .inl ⟨h,fun b=>i ⟨?_,b⟩⟩;rw[ByteArray.toList_eq]at h;exact WideShapes.bytes_inj (h.trans rfl)
   ·exact .inr h
  clear i;rw[f.out];cases hn:gj s with
  | false=>
   rw[hn]at c;clear hn f;rcases k with ⟨a,b⟩|a;all_goals
    go_in
    go_wp2_with fail
    refine c.out.mono ?_
    rintro e g ⟨rfl,rfl⟩
    go_wp2
    go_ret
    exact⟨rfl,d.out⟩
  | true=>
   rw[hn]at c;clear hn f;by_cases m:1<=v
   ·by_cases j:v<=12
    ·rw[decide_eq_true m,decide_eq_true j];rcases k with ⟨a,b⟩|a;all_goals
      go_in
      go_wp2_with fail
      refine c.out.mono ?_
      rintro e g ⟨rfl,rfl⟩
      go_wp2
      go_ret
      exact⟨rfl,d.out⟩
    ·have l:=decide_eq_false j;rw[decide_eq_true m,l];rcases k with ⟨a,b⟩|a;all_goals
      go_in
      go_wp2_with fail
      refine c.out.mono ?_
      rintro e g ⟨rfl,rfl⟩
      go_wp2
      go_ret
      exact⟨by first|rfl|(simp only[l];rfl),d.out⟩
   ·have n:=decide_eq_false m;have j:v<=12:=by omega
    have l:=decide_eq_true j;rw[n];rcases k with ⟨a,b⟩|a;all_goals
     go_in
     go_wp2_with fail
     refine c.out.mono ?_
     rintro e g ⟨rfl,rfl⟩
     go_wp2
     go_ret
     exact⟨rfl,d.out⟩
end Go.Proofs.YtcfojmaccikgeaaGreatDoor
namespace Go.Proofs.YtcfojmaccikgeaaGreatDoor
open Go.RowKit Go.WideMaps Go.Maps Go.Proofs.Tryz
variable {M:Nat} {S S':ZP} {w w':Zw} {bs:List ((ZN×Int)×Nat)} {p:ZN×Int}
theorem Ju{s:ZN}{v:Int}(h:qV s v=true):nN (s,v):=by
 unfold qV at h;simp only[Bool.or_eq_true,Bool.and_eq_true,decide_eq_true_eq,qE,beq_iff_eq]at h;rcases h with ⟨rfl,rfl⟩|⟨a,c,b⟩;·exact⟨by decide,by decide,by decide⟩
 ·exact⟨mT a,by show 0<=v;omega,b⟩
theorem tV(p:ZN×Int)(k:K (M+1))(x:ZN)(y:Int):∀a:mq M,jx (a++[(p,k)]) x y=match jx a x y with|Zo z=>Zo z|Zn=>if p=(x,y) then Zo k else Zn:=by
 intro a;induction a with
 | nil=>obtain⟨e,f⟩:=p;simp only[List.nil_append,jx,Prod.mk.injEq]
 | cons q r b=>
  obtain⟨⟨c,d⟩,g⟩:=q;simp only[List.cons_append,jx];by_cases h:c=x/\d=y;·rw[if_pos h,if_pos h]
  ·rw[if_neg h,if_neg h];exact b
def mI(S:ZP)(w:Zw)(M:Nat)(sn:mq M)(bs:List ((ZN×Int)×Nat)):Prop:=
 (∀q,q∈bs->nN q.1)/\∀p:ZN×Int,(jx sn p.1 p.2=Zn/\qg bs p=Zn)∨∃k b,jx sn p.1 p.2=Zo k/\qg bs p=Zo b/\gF (M+1) k=true/\b9 S w (M+1) k (Zp (Zo ⟨b,0,Zn⟩))
theorem mI.keep{sn:mq M}(h:mI S w M sn bs)(g:jn S w w')(f:∀b,S b->S' b):mI S' w' M sn bs:=
 ⟨h.1,fun p=>(h.2 p).imp id fun ⟨k,b,a,c,d,e⟩=>⟨k,b,a,c,d,e.keep g f⟩⟩
theorem mI.new{sn:mq M}(h:mI S w M sn bs){k:K (M+1)}{c:Nat}(o:nN p)(n:qg bs p=Zn)(g:gF (M+1) k=true)(f:b9 S w (M+1) k (Zp (Zo ⟨c,0,Zn⟩))):mI S w M (sn++[(p,k)]) ((p,c) :: bs):=by
 refine⟨fun q i=>?_,fun q=>?_⟩
 ·rcases List.mem_cons.1 i with rfl|i;·exact o
  ·exact h.1 q i
 ·have j:qg ((p,c) :: bs) q=if p=q then Zo c else qg bs q:=rfl
  rw[tV,j];rcases h.2 q with ⟨d,a⟩|⟨r,b,d,a,l,m⟩
  ·rw[d];show (if p=q then Zo k else Zn)=Zn/\_∨∃_ _,(if p=q then Zo k else Zn)=Zo _/\_;by_cases e:p=q;·rw[if_pos e,if_pos e];exact .inr ⟨k,c,rfl,rfl,g,f⟩
   ·rw[if_neg e,if_neg e];exact .inl ⟨rfl,a⟩
  ·rw[d];have e:¬p=q:=fun e=>by rw[<- e,n]at a;cases a
   exact .inr ⟨r,b,rfl,by rw[if_neg e];exact a,l,m⟩
theorem mI.old{sn:mq M}(h:mI S w M sn bs)(k:K (M+1)){b:Nat}(i:qg bs p=Zo b):mI S w M (sn++[(p,k)]) bs:=by
 refine⟨h.1,fun q=>?_⟩;rw[tV];rcases h.2 q with ⟨c,a⟩|⟨j,d,c,a,f,g⟩
 ·rw[c];have e:¬p=q:=fun e=>by rw[<- e,i]at a;cases a
  exact .inl ⟨if_neg e,a⟩
 ·rw[c];exact .inr ⟨j,d,rfl,a,f,g⟩
def vk(S:ZP)(w:Zw)(M:Nat)(sn:mq M)(v:Zv):Prop:=
 ∃a bs n,v=.map (Zo a)/\S a/\w.ownsMap prog 146 ot a n (qU bs)/\mI S w M sn bs
theorem vk.keep{sn:mq M}{v:Zv}(h:vk S w M sn v)(e:jn S w w')(d:∀b,S b->S' b):vk S' w' M sn v:=by obtain⟨c,l,n,rfl,f,⟨g,a,i,j⟩,k⟩:=h;exact⟨c,l,n,rfl,d c f,⟨g,a,by rw[e c f];exact i,j⟩,k.keep e d⟩
end Go.Proofs.YtcfojmaccikgeaaGreatDoor
namespace Go.Proofs.YtcfojmaccikgeaaGreatDoor
set_option maxRecDepth 100000
set_option maxHeartbeats 16000000
open Go.RowKit Go.WideMaps Go.Maps Go.Proofs.Tryz
def wh(S:ZP)(M:Nat){n:Nat}(l:List ((ZN×Int)×K n))(w:Zw)(e:Ending)(w':Zw):Prop:=
 Bw w w' /\ ((l.all jd=true/\∃v,e=Zr (Zu #[v,Zb true])/\vk (Ov S w.heap.size Zn w') w' M (mi M l) v)∨(l.all jd=false/\e=Zr (Zu #[.map Zn,Zb false])))
theorem JJ{w:Zw}{N:Nat}{t:TypeId}{a b c d e:Zv}(h:w.heap[N]?=Zo (Zc #[a,b,c,d,e] t (0,0))):w.cell? ⟨N,0,Zn⟩=Zo a/\w.cell? ⟨N,1,Zn⟩=Zo b/\w.cell? ⟨N,2,Zn⟩=Zo c/\w.cell? ⟨N,3,Zn⟩=Zo d/\w.cell? ⟨N,4,Zn⟩=Zo e:=by simp[World.cell?,h]
theorem GM{M n:Nat}(l:List ((ZN×Int)×K n))(i:Nat)(h:i<l.length):(mi M l).take (i+1)=(mi M l).take i++[(l[i].1,fO M n l[i].2)]:=by unfold mi;rw[List.take_succ_eq_append_getElem (by simpa using h),List.getElem_map]
theorem qL (S:ZP) (M n:Nat) (hM:5<=M) (l:List ((ZN × Int) × K n)) (v:Zv) (w:Zw) (hv:gY S w n l v) (hB:Bd S w) (hl:l.length<=1048576) :
  Calls prog 66 #[v] w (wh S M l w):=by
 have aF:∀(w:Zw),(Instr.makeMap 111 Zn).run prog w=.ok (.map (Zo w.heap.size)) (w.alloc (.map #[] 0)):=by intro w;simp[Instr.makeMap,go_sem]
 obtain⟨ao,cap,rfl,aE,N⟩:=id hv;obtain⟨W1,I⟩:=ii (w.alloc (.map #[] 0));have ag:Bw w W1:=by rw[I];exact gx _ _
 have au:w.heap.size+1<=W1.heap.size:=by rw[I];simp
 have P:Hid (W1.ownsMap prog 146 ot w.heap.size 0 (qU [])/\Bw w W1/\w.heap.size+1<=W1.heap.size):=⟨by rw[I];exact World.ownsMap_made w prog 146 ot,ag,au⟩;have aw:=a7 N;clear ag au hv N;go_in;go_wp2_with fail;rw[<- I];clear I;go_loopw [13] (fun iv wr=>∃(i:Nat)(bs:List ((ZN×Int)×Nat)),iv=Zi Zk i/\i<=l.length/\(l.take i).all jd=true/\wr.ownsMap prog 146 ot w.heap.size i (qU bs)/\Bw w wr/\w.heap.size+1<=wr.heap.size/\mI (Ov S (w.heap.size+1) Zn wr) wr M ((mi M l).take i) bs) (fun iv _=>l.length-(intOf iv).toNat);case atStart=>exact⟨0,[],rfl,Nat.zero_le _,rfl,P.out.1,P.out.2.1,P.out.2.2,fun _ h=>absurd h zS,fun p=>.inl ⟨rfl,rfl⟩⟩
 case round=>
  obtain⟨i,bs,rfl,aD,T,U,f,aK,ai⟩:=hrel;have o:=a7 T;have j:=a7 U;have r:=a7 ai;have aL:=f.size;clear T U ai P;by_cases H:i<l.length
  ·obtain⟨b,off,rfl,ax,L⟩:=aw.out (by intro h;rw[h]at H;simp at H);obtain⟨k0,k1,k2,e0,e1,e2,e3,e4,az,ac⟩:=L i H;obtain⟨y0,ya,yl,yc,za,zl,zc,rfl,rfl,rfl⟩:=ac.shape;have J:=hB b ax;have f0:=kC f e0 J;have f1:=kC f e1 J;have f2:=kC f e2 J;have f3:=kC f e3 J;have f4:=kC f e4 J;have aC:(i:Int)<(l.length:Int):=om;have HT:=a7 (GM (M:=M) l i H);have HA:=a7 (CI (p:=jd) (l:=l) i H);have HN:=a7 (fun h=>G0 (p:=jd) (l:=l) i H h);have R:jd l[i]=(jH n l[i].2 && qV l[i].1.1 l[i].1.2):=rfl;have am:l[i].1=(l[i].1.1,l[i].1.2):=rfl;generalize l[i].1.1=s at *;generalize l[i].1.2=vn at *;generalize l[i].2=kk at *;generalize l[i].1=pp at *;generalize jd l[i]=sb at *;obtain⟨W2,G⟩:=ii ((wr.alloc (Zc #[Zt s,Zi Zk vn,Zi Zk y0,Zs ya yl yc,Zs za zl zc] 103)).alloc (Zc #[Zt s,Zi Zk vn] 146));have aa:Bw wr W2:=by rw[G];exact (gx _ _).alloc zS _
   have aI:wr.heap.size+2<=W2.heap.size:=by rw[G];simp
   have aq:W2.heap[wr.heap.size]?=Zo (Zc #[Zt s,Zi Zk vn,Zi Zk y0,Zs ya yl yc,Zs za zl zc] 103 (0,0)):=by rw[G,Below.heap_alloc _ _ _ zS];exact heap_alloc_new _ _
   have ar:W2.heap[wr.heap.size+1]?=Zo (Zc #[Zt s,Zi Zk vn] 146 (0,0)):=by have:=heap_alloc_new (wr.alloc (Zc #[Zt s,Zi Zk vn,Zi Zk y0,Zs ya yl yc,Zs za zl zc] 103)) (Zc #[Zt s,Zi Zk vn] 146);rw[G];simpa using this
   have m:=f.trans (aa.mono f.size);have HC:=a7 (pd n S kk _ _ _ W2 (ac.keep (a6 m hB) fun _ h=>h) (fun b g=>Nat.lt_of_lt_of_le (hB b g) m.size));obtain⟨q0,q1,p0,p1,p2⟩:=JJ aq;obtain⟨r0,r1⟩:=oV ar;have HR:Hid (∀V,Bw W2 V->V.cell? ⟨wr.heap.size+1,0,Zn⟩=Zo (Zt s)/\V.cell? ⟨wr.heap.size+1,1,Zn⟩=Zo (Zi Zk vn)):=fun V hV=>⟨kC hV r0 om,kC hV r1 om⟩;have X:=a7 R;have HP:=a7 am;clear L e0 e1 e2 e3 e4 ac aq ar q0 q1 r0 r1 R am;go_wp2_with fail;rw[<- G];clear G;refine HC.out.mono ?_;rintro e w2 ⟨u,⟨ab,al,kb,rfl,Q⟩|⟨ab,rfl⟩⟩
   ·have aG:=u.size;have E:=m.trans (u.mono m.size);obtain⟨a0,a1⟩:=HR.out w2 u;have B:=a7 (D9 s vn w2 az);cases hnb:qV s vn with
    | false=>rw[hnb]at B;have A:Hid (∀y,Bw w2 y->wh S M l w (Zr (Zu #[.map Zn,Zb false])) y):=fun y F=>⟨E.trans (F.mono E.size),.inr ⟨HN.out (by rw[X.out,hnb,Bool.and_false]),rfl⟩⟩;clear HC Q hnb r j HT HA;go_wp2_with fail;refine B.out.mono ?_;rintro e y ⟨rfl,F⟩;have av:=a7 (A.out y F);clear B F A;go_wp2;go_ret2;exact av.out
    | true=>
     rw[hnb]at B;have ad:=Ju hnb;have R:sb=true:=by rw[X.out,ab,hnb];rfl
     clear HC;go_wp2_with fail;refine B.out.mono ?_;rintro e y ⟨rfl,F⟩;obtain⟨a2,a3⟩:=HR.out y (u.trans (F.mono u.size));have c:Bw wr y:=aa.trans ((u.trans (F.mono u.size)).mono aa.size);have aH:=F.size;have x:=E.trans (F.mono E.size);have k:y.ownsMap prog 146 ot w.heap.size i (qU bs):=by obtain⟨es,Y,h1,h2⟩:=j.out;exact⟨es,Y,(c.block w.heap.size om).trans h1,h2⟩
     have W:=zr (p:=(s,vn)) k r.out.1 ad;have C:∀z,y.heap.size<=z.heap.size->(∀b,b<y.heap.size->b≠w.heap.size->z.heap[b]?=y.heap[b]?)->mI (Ov S (w.heap.size+1) Zn z) z M ((mi M l).take i) bs/\b9 (Ov S (w.heap.size+1) Zn z) z (M+1) (fO M n kk) (Zp (Zo ⟨kb,0,Zn⟩)):=fun z aJ q=>by
      refine⟨r.out.keep (fun b g=>?_) fun b g=>g.imp id fun h=>⟨h.1,by have:=h.2.1;have:=c.size;omega,zS⟩,(b9.okd al hM Q).keep (fun b g=>?_) fun b g=>g.imp id fun h=>⟨by have:=h.1;omega,by have:=h.2;omega,zS⟩⟩
      ·rcases g with g|g;·have:=hB b g;exact (q b (by have:=c.size;omega) om).trans (c.block b om)
       ·exact (q b (by have:=c.size;have:=g.2.1;omega) (by have:=g.1;omega)).trans (c.block b g.2.1)
      ·rcases g with g|g;·have:=hB b g;exact (q b om om).trans (F.block b om)
       ·exact (q b (by have:=g.2;omega) (by have:=g.1;omega)).trans (F.block b g.2)
     have D:=a7 C;have af:Hid ((l.take (i+1)).all jd=true):=by show _=_;rw[HA.out,o.out,R];rfl
     have aj:i+1<=l.length:=om;cases hsk:qg bs (s,vn) with
     | some b'=>
      rw[hsk]at W;have A:=a7 (And.intro (k.mono (Nat.le_succ i)) (And.intro x (((D.out y (Nat.le_refl _) (fun _ _ _=>rfl)).1).old (fO M n kk) hsk)));rw[<- HP.out,<- HT.out]at A;have ae:w.heap.size+1<=y.heap.size:=by have:=c.size;omega
      clear k C D r j B Q hsk c HT HA HN o HR F;go_wp2;go_roundw;case rel=>exact⟨i+1,bs,by go_num,aj,af.out,A.out.1,A.out.2.1,ae,A.out.2.2⟩
      case measure=>simp[intOf];omega
     | none=>
      rw[hsk]at W;obtain⟨z,an,O,a⟩:=k.update (t:=111) (e:=82) Cp underlying111 (by unfold maxLen;omega) (qh ad) (val:=Zp (Zo ⟨kb,0,Zn⟩)) (d:=.lit (.int Zk (kb:Int))) (ps:=[]) rfl;have ap:=a.size;have q4:∀b,b<y.heap.size->b≠w.heap.size->z.heap[b]?=y.heap[b]?:=fun b g ay=>a.block b g (fun e=>ay (by injection e));have Z:=D.out z ap q4;have ah:Bw w z:=⟨a.os.trans x.os,a.tape.trans x.tape,a.output.trans x.output,om,fun b g=>(q4 b om om).trans (x.block b g)⟩;have A:Hid (z.ownsMap prog 146 ot w.heap.size (i+1) (qU (((s,vn),kb) :: bs))/\Bw w z/\mI (Ov S (w.heap.size+1) Zn z) z M ((mi M l).take (i+1)) (((s,vn),kb) :: bs)):=⟨O,ah,by rw[HT.out,HP.out];exact Z.1.new ad hsk (ni hM al).1 Z.2⟩;have ae:w.heap.size+1<=z.heap.size:=by have:=c.size;omega
      have aB:(Instr.mapUpdate 111 (.map (Zo w.heap.size)) (Za #[Zt s,Zi Zk vn]) (Zp (Zo ⟨kb,0,Zn⟩))).run prog y=.ok () z:=an;clear k C D r j B Q hsk c HT HA HN o HR F O a q4 Z ah an;go_wp2;go_roundw;case rel=>exact⟨i+1,_,by go_num,aj,af.out,A.out.1,A.out.2.1,ae,A.out.2.2⟩
      case measure=>simp[intOf];omega
   ·have A:Hid (wh S M l w (Zr (Zu #[.map Zn,Zb false])) w2):=⟨m.trans (u.mono m.size),.inr ⟨HN.out (by rw[X.out,ab,Bool.false_and]),rfl⟩⟩;clear HC r j HT HA HN;go_wp2;go_ret2;exact A.out
  ·have ak:i=l.length:=by omega
   have aA:¬(i:Int)<(l.length:Int):=om;have A:Hid (wh S M l w (Zr (Zu #[.map (Zo w.heap.size),Zb true])) wr):=by have h1:=o.out;rw[ak,List.take_length]at h1;have h2:=r.out;rw[List.take_of_length_le (by unfold mi;rw[List.length_map];omega)]at h2;exact⟨f,.inl ⟨h1,_,rfl,w.heap.size,bs,i,rfl,.inr ⟨Nat.le_refl _,om,zS⟩,j.out,h2.keep (fun _ _=>rfl) fun b g=>g.imp id fun h=>⟨by have:=h.1;omega,h.2.1,zS⟩⟩⟩
   clear o j r ak;go_wp2;go_ret2;exact A.out
end Go.Proofs.YtcfojmaccikgeaaGreatDoor
namespace Go.Proofs.YtcfojmaccikgeaaGreatDoor
open Go.RowKit Go.Proofs.Tryz
set_option maxRecDepth 100000
set_option maxHeartbeats 16000000
theorem tU (b d:Int) (m:ZN) (nb no f i:Nat) (na:ZO) (G:Zv) (s:ZN) (w:Zw) (o:∃ a n c,G=Zs a n c) (F:b≠38->na=Zo ⟨nb,no,Zn⟩/\0<f/\nb<w.heap.size/\w.cell? ⟨nb,no,Zn⟩=Zo (Zt s)) :
  Calls prog 83 #[Za #[Zi Zk b,Zi Zk d,Zt m,Zs na f i,G]] w fun e k=>(e=Zr (Za #[Zt (if b=38 then ByteArray.empty else s),Zi Zk (if b=38 then 0 else d)]))/\Bw w k:=by
 obtain⟨q,t,r,rfl⟩:=o;obtain⟨W,g⟩:=ii ((w.alloc (Zc #[Zi Zk b,Zi Zk d,Zt m,Zs na f i,Zs q t r] 40)).alloc (Zc #[Zt ⟨#[]⟩,Zi Zk 0] 146));have j:Bw w W:=by rw[g];exact (gx _ _).alloc zS _
 have p:W.heap[w.heap.size]?=Zo (Zc #[Zi Zk b,Zi Zk d,Zt m,Zs na f i,Zs q t r] 40 (0,0)):=by rw[g,Below.heap_alloc _ _ _ zS];exact heap_alloc_new _ _
 have l:W.heap[w.heap.size+1]?=Zo (Zc #[Zt ⟨#[]⟩,Zi Zk 0] 146 (0,0)):=by have:=heap_alloc_new (w.alloc (Zc #[Zi Zk b,Zi Zk d,Zt m,Zs na f i,Zs q t r] 40)) (Zc #[Zt ⟨#[]⟩,Zi Zk 0] 146);rw[g];simpa using this
 obtain⟨u,x⟩:=oV l;have B:W.frozen? ⟨w.heap.size+1,0,Zn⟩=false:=by simp[World.frozen?,l]
 have C:W.frozen? ⟨w.heap.size+1,1,Zn⟩=false:=by simp[World.frozen?,l]
 have H:=ls p 1 _ rfl;have I:=ls p 3 _ rfl;have J:=a7 j;clear p l;go_in;by_cases h:b=38;·subst h;go_wp2_with fail;rw[<- g];clear g j;refine bodyPost_ret (v:=Za #[Zt ⟨#[]⟩,Zi Zk 0]) (by simp[results,results83,go_sem,u,x]) rfl ?_;exact⟨rfl,J.out⟩
 ·obtain⟨rfl,P,O,D⟩:=F h;have Q:(b==38)=false:=by simpa using h
  have E:=kC j D O;rw[if_neg h,if_neg h];have L:Hid (Bw w ((W.drew.setCell ⟨w.heap.size+1,0,Zn⟩ (Zt s)).setCell ⟨w.heap.size+1,1,Zn⟩ (Zi Zk d))):=(j.drew.setCell (by show w.heap.size<=w.heap.size+1;omega) _).setCell (by show w.heap.size<=w.heap.size+1;omega) _;have y:W.drew.cell? ⟨w.heap.size,1,Zn⟩=Zo (Zi Zk d):=H;have z:W.drew.cell? ⟨w.heap.size,3,Zn⟩=Zo (Zs (Zo ⟨nb,no,Zn⟩) f i):=I;have A:W.drew.cell? ⟨nb,no,Zn⟩=Zo (Zt s):=E;have M:W.drew.cell? ⟨w.heap.size+1,0,Zn⟩=Zo (Zt ⟨#[]⟩):=u;have N:W.drew.cell? ⟨w.heap.size+1,1,Zn⟩=Zo (Zi Zk 0):=x;have T:W.drew.frozen? ⟨w.heap.size+1,0,Zn⟩=false:=B;have U:W.drew.frozen? ⟨w.heap.size+1,1,Zn⟩=false:=C;have R:(0:Int)<(f:Int):=om;clear F D j H I u x B C E;go_wp2_with fail;rw[<- g];clear g;refine wp_region_held_drew (S:=fun k=>k.cell? ⟨w.heap.size,1,Zn⟩=Zo (Zi Zk d)/\k.cell? ⟨w.heap.size,3,Zn⟩=Zo (Zs (Zo ⟨nb,no,Zn⟩) f i)/\k.cell? ⟨nb,no,Zn⟩=Zo (Zt s)) zK ⟨y,z,A⟩ (fun hHeld=>?_);generalize W.drew=V at *;refine tk 0 ?_;refine tk 1 ?_;refine tk 2 ?_;refine tk 3 ?_;refine tk 4 ?_;refine tk 5 ?_;refine tk 6 ?_;refine i6 7 fun K hK=>?_;go_simp;refine hK.out _ _ ⟨by simp[go_sem,y],by simp[go_sem,z],by simp[go_sem,A]⟩ (fun hHeld=>?_);clear hK K;refine wpAnyH_done zK ?_ _;go_simp;go_wp2_with fail;refine bodyPost_ret (v:=Za #[Zt s,Zi Zk d]) (by simp[results,results83,go_sem,M,N]) rfl ?_;exact⟨rfl,L.out⟩
end Go.Proofs.YtcfojmaccikgeaaGreatDoor
namespace Go.Proofs.YtcfojmaccikgeaaGreatDoor
set_option maxRecDepth 100000
set_option maxHeartbeats 16000000
open Go.RowKit Go.WideMaps Go.Maps Go.Proofs.Tryz
variable {M m k:Nat} {w:Zw} {F:ZP}
theorem IM:∀k:Nat,k<44->36<=k->∀j:Nat,j<3->∀i:Nat,i<j->(!decide ((j:Int)=o7 (k:Int)) || (jr k).getD i 0==86)=true:=by decide
theorem JA{s:Int}{j:Nat}(h:(j:Int)=o7 s):j<3:=by
 unfold o7 at h;split at h;·omega
 ·split at h<;>omega
theorem IB{sn:mq M}{t:T (m+1)}{b:K (M+1)}(e:Nd.sort t=(k:Int)) (h:k=38∨k=39->iy (α:=T m) sn t=Zo b) (i:Nat) (x:K (M+1)) (c:List (K (M+1))):b7 (Nd.sort t) ((iy sn (show Nd (T m) from t)).getD zU) i x c=b7 (k:Int) b i x c:=by
 rw[e];by_cases d:k=38∨k=39;·have a:iy sn (show Nd (T m) from t)=Zo b:=h d;rw[a];rfl
 ·have a:¬((k:Int)=38∨(k:Int)=39):=by omega
  unfold b7;simp only[if_neg a]
theorem Gm{w':Zw}{P:Program}{t b n:Nat}{d:DataW Unit}(h:w.ownsMap P t ot b n d)(e:w'.heap[b]?=w.heap[b]?):w'.ownsMap P t ot b n d:=by obtain⟨c,a,f,g⟩:=h;exact⟨c,a,by rw[e];exact f,g⟩
theorem ij.sink{w0:Zw}{c:Nat}{cs:Array Zv}{a:Nat}{c0 c1 c2 c3 c4 g f:Zv}{pl p:Nat}(h:ij F M w0 c cs a c0 c1 c2 c3 c4 g f pl p [] (Zs Zn 0 0) [] w)(k:c<w0.heap.size)(v:Zv):ij F M w0 c cs a c0 c1 c2 c3 c4 g v pl p [] (Zs Zn 0 0) [] (w.setCell ⟨a,7,Zn⟩ v):=by have j:=h.ge;refine⟨⟨h.near.os,h.near.tape,h.near.output,by simpa using h.near.size,fun b d e=>(Below.heap_setCell _ _ _ _ (by show b≠a;omega)).trans (h.near.block b d e)⟩,(Below.heap_setCell _ _ _ _ (by show c≠a;omega)).trans h.chk,h.ge,?_,World.ownsRow_nil _ _ _ _,fun i h=>absurd h (Nat.not_lt_zero _)⟩;have d:=h.box;simp only[World.setCell,Array.getElem?_modify,d,if_pos,Option.map_some];rfl
theorem Bc{sn:mq M}{t:T (m+1)}{na ka:ZO}{r kl kc:Nat}{V:Zw}(c:Nd.sort t=(k:Int))(d:k=38∨k=39)(n:vi t)(g:fL F V (Nd.names t) (Zs na (Nd.names t).length r))(v:Bd F V):∃o p,Calls prog 83 #[Za #[Zi Zk (k:Int),Zi Zk (Nd.num t),Zt (Nd.text t),Zs na (Nd.names t).length r,Zs ka kl kc]] V (fun e y=>e=Zr (Za #[Zt o,Zi Zk p])/\Bw V y)/\nN (o,p)/\iy (α:=T m) sn t=jx sn o p:=by
 rcases d with rfl|rfl;·refine⟨ByteArray.empty,0,tU 38 _ _ 0 0 _ _ _ _ ByteArray.empty V ⟨_,_,_,rfl⟩ (fun h=>absurd rfl h),⟨by decide,by decide,by decide⟩,?_⟩;unfold iy;exact if_pos c
 ·obtain⟨⟨a,b,j,-⟩,z,u⟩:=n.send c;obtain⟨w,x,cap,l,f,i⟩:=ki g v (by rw[b];simp);injection l with l _ _;subst l;have A:(Nd.names t).length=1:=by rw[b];rfl
  have q:=(i 0 (by omega)).1;have s:(Nd.names t)[0]'(by omega)=a:=by simp[b]
  rw[s]at q;refine⟨a,Nd.num t,tU 39 _ _ w x _ _ _ _ a V ⟨_,_,_,rfl⟩ (fun _=>⟨rfl,by omega,f,by simpa using q⟩),⟨j,by show 0<=Nd.num t;omega,u⟩,?_⟩;unfold iy;rw[if_neg (by show ¬Nd.sort t=38;rw[c];decide)];have:(show Nd (T m) from t).names.getD 0 ByteArray.empty=a:=by show (Nd.names t).getD 0 ByteArray.empty=a;rw[b];rfl
  rw[this]
def EW(M:Nat)(sn:mq M)(m:Nat):Prop:=∀(F:ZP)(t:T m)(c0 c1 c2 c3 c4:Zv)(env:jE M)(n:Nat)(e:Zv)(d:Int)(c a:Nat)(cs:Array Zv)(mv:Zv)(w:Zw),fT F w m t c0 c1 c2 c3 c4->gG F w M n env e->(∀b,F b->b<w.heap.size/\b≠a)->a<w.heap.size->nE F w cs->w.heap[a]?=Zo (lB cs c)->gp m t d=true->36<=nj m t->(∀p,p∈env->gF (M+1) p.2=true)->c+d9 m t<=1000->cs[0]?=Zo mv->vk F w M sn mv ->
 Calls prog 41 #[Zp (Zo ⟨a,0,Zn⟩),Za #[c0,c1,c2,c3,c4],e] w (mp F M (gR sn m t env c) cs a (c+d9 m t) w)
theorem AY(M m:Nat)(hM:5<=M)(sn:mq M)(hn:EW M sn m):EW M sn (m+1):=by
 intro F t c0 c1 c2 c3 c4 env n sv d a g cs mv w ht br hB cK bq bV hg al aW cl aV be;have al:36<=Nd.sort t:=al;simp only[gp,Bool.and_eq_true,decide_eq_true_eq,List.all_eq_true]at hg;obtain⟨⟨db,hj⟩,bZ⟩:=hg;have cm:=Ac hj al;have dj:Nd.sort t<=43:=by have h:=hj;unfold gZ at h;simp only[Bool.and_eq_true,decide_eq_true_eq]at h;exact h.1.2
 obtain⟨k,hk⟩:∃k:Nat,Nd.sort t=(k:Int):=⟨(Nd.sort t).toNat,by omega⟩;have y:36<=k:=om;have z:k<44:=om;have Q:=ht;obtain⟨bS,rfl,rfl,hs,dq,dr,h3,h4,⟨na,nl,nc,rfl,dk⟩,⟨N,kl,O,rfl,dl⟩⟩:=ht;rw[hk]at bS;subst bS;obtain⟨_,_,cR,-⟩:=id h3;cases cR
 obtain⟨_,_,cS,-⟩:=id h4;cases cS
 obtain⟨so,rfl⟩:∃so,sv=Zp so:=by rcases br.ptr with ⟨-,rfl⟩|⟨sb,rfl,-⟩<;>exact⟨_,rfl⟩
 have aw:d9 (m+1) t=1+b4 (fun x=>d9 m x) (Nd.kids t):=rfl;have bY:=mR (Nd.kids t);have aD:fK (Nd.kids t) (Nd.kids t).length a=a+d9 (m+1) t:=by unfold fK;rw[List.take_length,aw];omega
 have cM:(Nd.kids t).length<=1000:=om;obtain⟨f,ao⟩:∃W,W=w.alloc (Zc #[Zi Zk (k:Int),Zi Zk (Nd.num t),Zt (Nd.text t),Zs na (Nd.names t).length nc,Zs N (Nd.kids t).length O] 40):=⟨_,rfl⟩;have bl:Bw w f:=by rw[ao];exact gx _ _
 have co:f.heap.size=w.heap.size+1:=by rw[ao];simp
 have aF:f.heap[w.heap.size]?=Zo (Zc #[Zi Zk (k:Int),Zi Zk (Nd.num t),Zt (Nd.text t),Zs na (Nd.names t).length nc,Zs N (Nd.kids t).length O] 40 (0,0)):=by rw[ao];exact heap_alloc_new _ _
 have cN:Bd F w:=fun b hb=>(hB b hb).1;have aE:=a6 bl cN;have hf:∀P s,rd F f M P s->qw F M m f g cs t (Zi Zk (k:Int)) (Zi Zk (Nd.num t)) (Zt (Nd.text t)) (Zs na (Nd.names t).length nc) (Zs N (Nd.kids t).length O) env n (Zp so) P s:=fun P s aN=>⟨fun b hb=>⟨by have:=(hB b hb).1;omega,(hB b hb).2⟩,om,bq.keep aE fun _ h=>h,Q.keep aE fun _ h=>h,br.keep aE fun _ h=>h,aN⟩;have ar:f.heap[g]?=Zo (lB cs a):=(bl.block g cK).trans bV;obtain⟨W2,ad⟩:∃W,W=(f.alloc (Zc #[Zi Zk (k:Int),Zi Zk (Nd.num t),Zt (Nd.text t),Zs na (Nd.names t).length nc,Zs N (Nd.kids t).length O,Zi Zk (a:Int),Zp so,Zp Zn,Zs Zn 0 0] 144)).drew:=⟨_,rfl⟩;have R:Bw f W2:=by rw[ad];exact (gx _ _).drew
 have cV:f.heap.size+1<=W2.heap.size:=by rw[ad];show _<=(f.alloc _).heap.size;simp
 have bw:W2.heap[f.heap.size]?=Zo (Zc #[Zi Zk (k:Int),Zi Zk (Nd.num t),Zt (Nd.text t),Zs na (Nd.names t).length nc,Zs N (Nd.kids t).length O,Zi Zk (a:Int),Zp so,Zp Zn,Zs Zn 0 0] 144 (0,0)):=by rw[ad];exact heap_alloc_new f _
 have bn:=bq.1;have au:W2.heap[g]?=Zo (lB cs a):=(R.block g om).trans ar;have bK:((a+1:Nat):Int)=(a:Int)+1:=om;have bg:∀p0,p0=a+1->ij F M f g cs f.heap.size (Zi Zk (k:Int)) (Zi Zk (Nd.num t)) (Zt (Nd.text t)) (Zs na (Nd.names t).length nc) (Zs N (Nd.kids t).length O) (Zp so) (Zp Zn) a p0 [] (Zs Zn 0 0) [] (W2.setCell ⟨g,89,Zn⟩ (Zi Zk ((a:Int)+1))):=by rintro _ rfl;rw[<- bK];exact⟨(b8.of_below R).trans (b8.set g 89 _ _),BP bn au,Nat.le_refl _,(Below.heap_setCell _ _ _ _ (by show f.heap.size≠g;omega)).trans bw,World.ownsRow_nil _ _ _ _,fun i h=>absurd h (Nat.not_lt_zero _)⟩
 obtain⟨cZ,cI⟩:=nQ bn au;obtain⟨cq,-⟩:=nQ bn ar;have aI:=a7 cm;have cv:=a7 bZ;have aP:=a7 aW;have I:Hid (∀V,b8 g f V->b8 g w V/\V.cell? ⟨w.heap.size,0,Zn⟩=Zo (Zi Zk (k:Int))/\V.cell? ⟨w.heap.size,4,Zn⟩=Zo (Zs N (Nd.kids t).length O)):=fun V hV=>⟨(b8.of_below bl).trans hV,hV.cell (fZ aF).1 om,hV.cell (fZ aF).2.2.2.2 om⟩;have bI:Hid (∀V,b8 g f V->D5 V w.heap.size (k:Int) (Nd.num t) (Nd.text t) na (Nd.names t).length nc N (Nd.kids t).length O):=fun V hV=>by obtain⟨g0,g1,g2,g3,g4⟩:=fZ aF;exact⟨hV.cell g0 om,hV.cell g1 om,hV.cell g2 om,hV.cell g3 om,hV.cell g4 om⟩
 have ak:=a7 (bg (fK (Nd.kids t) 0 a) (by unfold fK;simp[b4]));obtain⟨g0,g1,g2,g3,g4⟩:=fZ aF;have L:w.heap.size<f.heap.size:=om;have bU:g<f.heap.size:=om;have aL:∀V,Bw f V->V.cell? ⟨w.heap.size,0,Zn⟩=Zo (Zi Zk (k:Int))/\V.cell? ⟨w.heap.size,1,Zn⟩=Zo (Zi Zk (Nd.num t))/\V.cell? ⟨w.heap.size,2,Zn⟩=Zo (Zt (Nd.text t))/\V.cell? ⟨w.heap.size,3,Zn⟩=Zo (Zs na (Nd.names t).length nc)/\V.cell? ⟨w.heap.size,4,Zn⟩=Zo (Zs N (Nd.kids t).length O)/\V.cell? ⟨g,89,Zn⟩=Zo (Zi Zk (a:Int)):=fun V h=>⟨kC h g0 L,kC h g1 L,kC h g2 L,kC h g3 L,kC h g4 L,kC h cq bU⟩;have cE:=a7 aL;have bO:=aL W2 R;have aS:=a7 (aL f.drew (Below.refl _ _).drew);have bH:=a7 (be.keep aE fun _ h=>h);have bz:=a7 aV;have E:=a7 hf;have cH:Hid (W2.heap[f.heap.size]?=_):=bw;have ct:=a7 R;have di:=a7 Q;have cC:=a7 aD;have cD:=a7 cl;have cu:=a7 aw;have dg:(a:Int)+1<2000:=om;have df:(0:Int)<=(a:Int):=om;have dh:w.heap.size+1<=f.heap.size:=Nat.le_of_eq co.symm;clear co;clear be aV;clear Q br bq bV cm bZ aW hj hf bg ar au aF bw R g0 g1 g2 g3 g4 aL h3 h4 aE aw aD cl bY bK;go_in;go_upto_region 1 with fail;rw[<- ao];refine wp_region_held_drew (S:=fun w'=>w'.cell? ⟨w.heap.size,0,Zn⟩=Zo (Zi Zk (k:Int))/\w'.cell? ⟨w.heap.size,1,Zn⟩=Zo (Zi Zk (Nd.num t))/\w'.cell? ⟨w.heap.size,2,Zn⟩=Zo (Zt (Nd.text t))/\w'.cell? ⟨w.heap.size,3,Zn⟩=Zo (Zs na (Nd.names t).length nc)/\w'.cell? ⟨w.heap.size,4,Zn⟩=Zo (Zs N (Nd.kids t).length O)/\w'.cell? ⟨g,89,Zn⟩=Zo (Zi Zk (a:Int))) zK aS.out (fun hHeld=>?_);clear ao;have cW:f.heap.size<=f.drew.heap.size:=Nat.le_refl _;refine tk 0 ?_;refine tk 1 ?_;refine tk 2 ?_;refine tk 3 ?_;refine tk 4 ?_;refine tk 5 ?_;refine tk 6 ?_;refine i6 7 fun K hK=>?_;go_simp;refine hK.out _ _ (by rw[<- ad];exact bO) (fun hHeld=>?_);clear hK K;rw[<- ad];clear ad;refine tk 8 ?_;refine wpAnyH_done zK ?_ _;go_simp;obtain⟨r0,r1,r2,r3,r4,r5⟩:=bO;clear hHeld;go_upto_region 3 with fail;obtain⟨V3,aM⟩:=ii (W2.setCell ⟨g,89,Zn⟩ (Zi Zk ((a:Int)+1)));have G:=ak;rw[<- aM]at G ⊢;have v0:V3.cell? ⟨w.heap.size,0,Zn⟩=Zo (Zi Zk (k:Int)):=by rw[aM];simp[go_sem,r0]
 have cG:=a7 aM;clear aM;go_cut [33] from 26 to 32 (fun bv wx=>(∃b,bv=Zb b/\Hid (b=true↔k=38∨k=39))/\wx=V3);case first=>
  by_cases am:k=38
  ·have HE:Hid (k=38∨k=39):=.inl am;have hb:((k:Int)==38)=true:=by simp[am]
   clear am;go_wp2;go_meet;exact⟨⟨true,rfl,⟨fun _=>HE.out,fun _=>rfl⟩⟩,rfl⟩
  ·have hb:((k:Int)==38)=false:=by simpa using (show ¬(k:Int)=38 by omega)
   by_cases aK:k=39
   ·have HE:Hid (k=38∨k=39):=.inr aK;have R:((k:Int)==39)=true:=by simp[aK]
    clear am aK;go_wp2;go_meet;exact⟨⟨true,rfl,⟨fun _=>HE.out,fun _=>rfl⟩⟩,rfl⟩
   ·have HE:Hid (false=true↔k=38∨k=39):=⟨fun h=>(by cases h),fun h=>absurd h (by omega)⟩;have R:((k:Int)==39)=false:=by simpa using (show ¬(k:Int)=39 by omega)
    clear am aK;go_wp2;go_meet;exact⟨⟨false,rfl,HE⟩,rfl⟩
 case rest=>
  obtain⟨⟨b,rfl,HE⟩,cn⟩:=hcut;rw[cn];clear cn;go_upto_if 33 with fail;go_cut [8] from 34 to 50 (fun lv wx=>lv=Zp (Zo ⟨f.heap.size,0,Zn⟩)/\∃P s,rd F f M P s/\(k=38∨k=39->iy (α:=T m) sn t=Zo P/\gF (M+1) P=true)/\ij F M f g cs f.heap.size (Zi Zk (k:Int)) (Zi Zk (Nd.num t)) (Zt (Nd.text t)) (Zs na (Nd.names t).length nc) (Zs N (Nd.kids t).length O) (Zp so) s a (fK (Nd.kids t) 0 a) [] (Zs Zn 0 0) [] wx);case first=>
   cases b with
   | false=>go_wp2;go_meet;exact⟨rfl,zU,Zp Zn,.inr ⟨rfl,rfl⟩,fun h=>absurd (HE.out.2 h) (by simp),G.out⟩
   | true=>
    have bp:=HE.out.1 rfl;have cA:=a7 bp;clear HE;obtain⟨mb,bs,bx,rfl,an,bb,hrel⟩:=bH.out;have bX:Bw V3 V3.drew:=(Below.refl _ _).drew;have u:=G.out.on (fun b hb=>((E.out zU _ (.inr ⟨rfl,rfl⟩)).fz b hb).1) bX;have af:=(E.out zU _ (.inr ⟨rfl,rfl⟩)).fz;have bW:=(E.out zU _ (.inr ⟨rfl,rfl⟩)).cblt;obtain⟨-,-,-,-,-,-,ci,-⟩:=id (E.out zU _ (.inr ⟨rfl,rfl⟩)).node;have bd:=u.near.same af;have bM:Bd F V3.drew:=fun b hb=>Nat.lt_of_lt_of_le (af b hb).1 u.near.size;obtain⟨ps,pv,aq,bc,bf⟩:=Bc (sn:=sn) (ka:=N) (kl:=(Nd.kids t).length) (kc:=O) hk bp aI.out (ci.keep bd fun _ h=>h) bM;have bA:=a7 aq;have hS:∀V p,b8 g f V->V.heap[g]?=Zo (lB cs p)->V.cell? ⟨g,0,Zn⟩=Zo (.map (Zo mb))/\(D5 V w.heap.size (k:Int) (Nd.num t) (Nd.text t) na (Nd.names t).length nc N (Nd.kids t).length O)/\V.ownsMap prog 146 ot mb bx (qU bs):=fun V p hV hc=>⟨mN hc 0 _ (by rw[Array.getElem?_push,if_neg om];exact bz.out),bI.out V hV,Gm bb (hV.block mb (af mb an).1 (af mb an).2)⟩;have HS:=a7 hS;have bj:=a7 hrel;obtain⟨sp,bt⟩:=ii ((qg bs (ps,pv)).map fun b=>(⟨b,0,Zn⟩:Addr));have bC:Hid (∀V,V.ownsMap prog 146 ot mb bx (qU bs)->(Instr.lookup 111 (.map (Zo mb)) (Za #[Zt ps,Zi Zk pv]) false).run prog V=.ok (Zp sp) V):=fun V h=>by rw[bt];exact zr (p:=(ps,pv)) h hrel.1 bc
    have aH:=a7 bt;have bP:=hS _ _ u.near u.chk;have aT:=a7 u;have bG:=a7 bf;have de:=u.lt;clear bt bp bb hrel u ci bd aq hS bf bc G ak;go_upto_region 4 with fail;refine wp_region_held_drew (S:=fun w'=>w'.cell? ⟨g,0,Zn⟩=Zo (.map (Zo mb))/\(D5 w' w.heap.size (k:Int) (Nd.num t) (Nd.text t) na (Nd.names t).length nc N (Nd.kids t).length O)/\w'.ownsMap prog 146 ot mb bx (qU bs)) zK bP (fun hHeld=>?_);generalize V3.drew=Y at *;refine tk 0 ?_;refine tk 1 ?_;refine tk 2 ?_;refine tk 3 ?_;refine tk 4 ?_;refine tk 5 ?_;refine i6 6 fun K hK=>?_;go_simp;go_at_call 83;refine bA.out.mono ?_;rintro e Y1 ⟨rfl,bR⟩;have A:=aT.out.on (fun b hb=>(af b hb).1) bR;refine hK.out _ _ (HS.out _ _ A.near A.chk) (fun hHeld=>?_);have aU:=a7 A;have dc:=A.lt;have ap:=A.box;have q7:=(h9 ap).2.2.2.2.2.2.2.1;have f7:Y1.frozen? ⟨f.heap.size,7,Zn⟩=false:=by simp[World.frozen?,ap]
    clear hK K bA A aT ap;refine tk 7 (v:=Zp sp) ?_ (hy:=by intro wq hSw;have dp:=bC.out wq hSw.2.2;go_simp);refine tk 8 ?_;refine tk 9 ?_;have ab:=aU.out.sink bW (Zp sp);have bQ:=HS.out _ _ ab.near ab.chk;refine i6 10 fun K hK=>?_;go_simp;refine hK.out _ _ bQ (fun hHeld=>?_);clear hK K;refine wpAnyH_done zK ?_ _;go_simp;have H:=a7 ab;obtain⟨Z,hZ⟩:=ii (Y1.setCell ⟨f.heap.size,7,Zn⟩ (Zp sp));rw[<- hZ]at H ⊢;obtain⟨-,-,-,-,-,z5,-,z7,-⟩:=h9 H.out.box;clear ab bQ hHeld aU q7 f7 hZ af bW an bM bX bP bR HS bC;rcases bj.out.2 (ps,pv) with ⟨az,aA⟩|⟨k0,b0,az,aA,aB,aY⟩
    ·obtain rfl:sp=Zn:=by have h:=aH.out;rw[aA]at h;exact h
     clear aH;have av:gR sn (m+1) t env a=(zU,5,a):=by rw[gR,if_pos ⟨(by have:=cA.out;omega),bG.out.trans az⟩]
     have HP:Hid (mp F M (gR sn (m+1) t env a) cs g (a+d9 (m+1) t) w (Zr (Zu #[Zp Zn,mB 5 a])) Z):=by show mp _ _ _ _ _ _ _ _ _;rw[av];exact⟨(I.out Z H.out.near).1,.inr ⟨show (5:Int)≠0 by decide,_,0,rfl,rfl⟩⟩
     have bi:=Lib.hid (qH f.heap.size a 5 Z z5);obtain⟨tt,xx,ah⟩:∃tt xx,mB 5 (a:Nat)=.iface tt xx:=⟨_,_,rfl⟩;rw[ah]at HP bi;clear av az aA ah H bj;go_wp2_with fail;refine bi.out.mono ?_;rintro e w2 ⟨rfl,rfl⟩;clear bi;go_wp2_with fail;refine bodyPost_ret (by simp[results,results41,go_sem];rfl) rfl ?_;exact HP.out
    ·obtain rfl:sp=Zo ⟨b0,0,Zn⟩:=by have h:=aH.out;rw[aA]at h;exact h
     clear aH;have bF:Hid (rd F f M k0 (Zp (Zo ⟨b0,0,Zn⟩))/\(k=38∨k=39->iy (α:=T m) sn t=Zo k0/\gF (M+1) k0=true)):=⟨.inl ⟨aB,aY⟩,fun _=>⟨bG.out.trans az,aB⟩⟩;clear az aA aB aY bj;go_wp2;go_meet;exact⟨rfl,k0,_,bF.out.1,bF.out.2,H.out⟩
  case rest=>
   obtain⟨rfl,P,s,aN,aO,ax⟩:=hcut;have ch:Nd.sort t=38∨Nd.sort t=39->iy (α:=T m) sn t≠Zn:=fun h=>by rw[(aO om).1];simp
   have bT:=fun cY=>oL (M:=M) (env:=env) (pl:=cY) ch;have bh:=a7 bT;have aG:=a7 aN;have cF:=a7 aO;have aQ:=a7 ax;have bJ:=a7 (IB (M:=M) hk fun h=>(aO h).1);have z4:=(I.out _ ax.near).2.2;clear ch bT aN aO ax ak G cG cH ct v0 r0 r1 r2 r3 r4 r5 cZ cI cE aS cq cW cV HE bI;go_wp2_with fail;go_loopw [54] (fun iv wr=>∃(j:Nat)(D:List (K (M+1)))(kv:Zv)(xs:List Zv),iv=Zi Zk j/\j<=(Nd.kids t).length/\qv sn m t env a j D/\(∀i (h:i<D.length),(jr k).getD i 0=86->gF (M+1) D[i]=true)/\ij F M f g cs f.heap.size (Zi Zk (k:Int)) (Zi Zk (Nd.num t)) (Zt (Nd.text t)) (Zs na (Nd.names t).length nc) (Zs N (Nd.kids t).length O) (Zp so) s a (fK (Nd.kids t) j a) D kv xs wr) (fun iv _=>(Nd.kids t).length-(intOf iv).toNat);case atStart=>exact⟨0,[],_,_,rfl,Nat.zero_le _,qv.start _ _ _ _ _,fun i h=>absurd h (Nat.not_lt_zero _),aQ.out⟩
   case round=>
    clear z4 aQ;obtain⟨j,D,kv,xs,rfl,dm,bu,ba,cg⟩:=hrel;have aa:=bu.len;have aj:=a7 bu;have aR:=a7 ba;have ai:=a7 cg;clear bu ba cg;by_cases l:j<(Nd.kids t).length
    ·have ag:=aI.out.op j l;rw[hk,Int.toNat_natCast]at ag;have cO:1<=m:=by
      cases m with
      | zero=>have e:∀x:T 0,nj 0 x=0:=fun _=>rfl;rw[e]at ag;omega
      | succ m=>omega
     obtain⟨r,hr⟩:=ii (mC sn m t env a j D (Nd.kids t)[j]);have HR:=a7 hr;have bm:=aI.out.bindOk al aj.out;have aC:(j:Int)=o7 (Nd.sort t)->∀x,x∈D->gF (M+1) x=true:=fun ae x hx=>by obtain⟨i,hi,rfl⟩:=List.getElem_of_mem hx;rw[hk]at ae;exact aR.out i hi (by have h:=IM k z y j (JA ae) i om;simpa [ae] using h)
     have U:∀p,p∈jU (Nd.sort t) (Nd.names t) j D env->gF (M+1) p.2=true:=by
      by_cases ae:(j:Int)=o7 (Nd.sort t);·exact xX aP.out (aC ae) aa bm
      ·rw[Fi ae];exact aP.out
     have C:=cv.out _ (List.getElem_mem l);have ck:fK (Nd.kids t) j a+d9 m (Nd.kids t)[j]<=1000:=by have h1:=lO (Nd.kids t) (j+1);rw[fQ _ _ _ l]at h1;have:=cD.out;have:=cu.out;unfold fK;omega
     have bo:r.2.1=0->(jr k).getD j 0=86->gF (M+1) r.1=true:=fun B ac=>by
      rcases ag with ⟨-,-,aJ⟩|⟨bk,-⟩;·rw[hr]at B ⊢;exact pu (M:=M) hM (sn:=sn) aJ B cO
      ·exact absurd (bk.symm.trans ac) (by decide)
     have bN:=B2 F M m k j g f.heap.size a (fK (Nd.kids t) j a) (fK (Nd.kids t) (j+1) a) f wr cs t _ _ _ _ _ env (jU (Nd.sort t) (Nd.names t) j D env) n _ P s D kv xs r (E.out P s aG.out) ai.out hk om om l (fun _=>by have:=aI.out.cnt;rw[hk,Int.toNat_natCast]at this;omega) cM aa
      ((ai.out.on (fun b hb=>((E.out P s aG.out).fz b hb).1) ((Below.refl _ _).drew)).at (E.out P s aG.out) j aa bm aC)
      (fun S V cr n' d0 d1 d2 d3 d4 g1 g2 g3 g4 g5 g6 cJ cQ=>by
       rw[hr]
       rcases ag with ⟨-,-,aJ⟩|⟨-,bL⟩
       ·have:=DQ M hM m S (Nd.kids t)[j] d0 d1 d2 d3 d4 _ n' cr (d+1) (fK (Nd.kids t) j a) g cs V g1 g2 g3 g6 g4 g5 C aJ U ck
        rw[<- oq _ _ _ l,<- Aj sn m _ _ C aJ]at this
        exact this
       ·have:=hn S (Nd.kids t)[j] d0 d1 d2 d3 d4 _ n' cr (d+1) (fK (Nd.kids t) j a) g cs mv V g1 g2 g3 g6 g4 g5 C bL U ck bz.out (bH.out.keep cQ cJ)
        rw[<- oq _ _ _ l]at this
        exact this)
      (fun B hw=>bo B (by
       rcases ag with ⟨ac,-⟩|⟨bk,-⟩
       ·exact ac
       ·exact absurd hw (E8 z y bk)))
      (fun q h=>(E7 z y h).elim)
      (fun h=>(Ad z y h).elim)
      (fun h=>(cF.out (E9 z y h)).2)
     have X:=a7 bN;have cL:(j:Int)<((Nd.kids t).length:Int):=om;have ce:¬r.2.1=0->gR sn (m+1) t env a=(zU,r.2):=fun B=>by
      have h1:io sn m t env a=([],r.2):=by have:=aj.out.bad l (by rw[<- HR.out];exact B);rw[<- HR.out]at this;exact this
      rw[bh.out,h1];exact if_pos B
     have cf:r.2.1=0->b7 (k:Int) P j r.1 D=false->gR sn (m+1) t env a=(zU,6,fK (Nd.kids t) j a):=fun B hw=>by have h1:io sn m t env a=([],6,fK (Nd.kids t) j a):=aj.out.wrong l (by rw[<- HR.out];exact B) (by rw[bJ.out,<- HR.out];exact hw);rw[bh.out,h1];exact if_pos (show (6:Int)≠0 by decide)
     have cd:r.2.1=0->b7 (k:Int) P j r.1 D=true->qv sn m t env a (j+1) (D++[r.1]):=fun B hw=>by have:=aj.out.next l (by rw[<- HR.out];exact B) (by rw[bJ.out,<- HR.out];exact hw);rw[<- HR.out]at this;exact this
     have cy:=a7 ce;have cz:=a7 cf;have cw:=a7 cd;have cx:=a7 bo;clear ce cf cd bo bN hr bm U C aC ag;generalize b7 (k:Int) P j r.1 D=wb at *;go_wp2_with fail;refine X.out.mono ?_;have aX:∀(w2:Zw)(tt:TypeId)(xx:Zv)(c:Int)(p dd:Nat),b8 g f w2->c≠0->lh dd (.iface tt xx) c p->gR sn (m+1) t env a=(zU,c,p)->mp F M (gR sn (m+1) t env a) cs g (a+d9 (m+1) t) w (Zr (Zu #[Zp Zn,.iface 151 (Za #[Zi Zk (k:Int),.iface tt xx])])) w2.drew/\w2.drew.cell? ⟨w.heap.size,0,Zn⟩=Zo (Zi Zk (k:Int)):=fun w2 tt xx c p dd o hc J he=>by rw[he];exact⟨⟨(I.out w2 o).1.drew,.inr ⟨hc,_,_,rfl,s4 (k:Int) J⟩⟩,(I.out w2 o).2.1⟩
     have bB:=a7 aX;clear aX;rintro e w2 (⟨B,o,v,dd,rfl,J⟩|⟨B,cT,o,rfl⟩|⟨B,cU,rfl,cX,da,aZ⟩);·obtain⟨tt,xx,rfl⟩:=J.iface;obtain⟨HP,z0⟩:=bB.out w2 tt xx _ _ _ o B J (cy.out B);have HP:=a7 HP;clear X J;go_upto_region 12 with fail;refine wp_region_held_drew (S:=fun w'=>w'.cell? ⟨w.heap.size,0,Zn⟩=Zo (Zi Zk (k:Int))) zK z0 (fun hHeld=>?_);generalize w2.drew=Y at *;refine tk 0 ?_;refine tk 1 ?_;refine tk 2 ?_;refine tk 3 ?_;refine tk 4 ?_;refine tk 5 ?_;refine tk 6 ?_;refine wpAnyH_done zK ?_ _;go_simp;go_wp2_with fail;refine bodyPost_ret (by simp[results,results41,go_sem];rfl) rfl ?_;exact HP.out
     ·obtain⟨tt,xx,ah⟩:∃tt xx,mB 6 (fK (Nd.kids t) j a:Nat)=.iface tt xx:=⟨_,_,rfl⟩;have J:lh 0 (.iface tt xx) 6 (fK (Nd.kids t) j a):=ah.symm;obtain⟨HP,z0⟩:=bB.out w2 tt xx _ _ _ o zC J (cz.out B cT);have HP:=a7 HP;rw[ah];clear ah X J;go_upto_region 12 with fail;refine wp_region_held_drew (S:=fun w'=>w'.cell? ⟨w.heap.size,0,Zn⟩=Zo (Zi Zk (k:Int))) zK z0 (fun hHeld=>?_);generalize w2.drew=Y at *;refine tk 0 ?_;refine tk 1 ?_;refine tk 2 ?_;refine tk 3 ?_;refine tk 4 ?_;refine tk 5 ?_;refine tk 6 ?_;refine wpAnyH_done zK ?_ _;go_simp;go_wp2_with fail;refine bodyPost_ret (by simp[results,results41,go_sem];rfl) rfl ?_;exact HP.out
     ·have cB:=a7 (cw.out B cU);have HO:=a7 (cx.out B);have bD:=a7 aZ;clear aZ ai X;go_wp2;go_roundw;case rel=>
       refine⟨j+1,D++[r.1],cX,da,by go_num,om,cB.out,fun i hi ac=>?_,bD.out⟩;by_cases ca:i<D.length;·rw[List.getElem_append_left ca];exact aR.out i ca ac
       ·have e:i=D.length:=by simp at hi;omega
        subst e;have e2:(D++[r.1])[D.length]'hi=r.1:=by simp
        rw[e2];exact HO.out (by rw[<- aa];exact ac)
      case measure=>simp[intOf];omega
    ·have cc:j=(Nd.kids t).length:=by omega
     have ay:=ai.out;have cP:=ay.near;have av:gR sn (m+1) t env a=(zU,0,0):=by rw[bh.out,aj.out.done cc];refine (if_neg (by simp)).trans ?_;unfold kA;exact if_pos al
     have bE:=Lib.hid (F9 (Ov F f.heap.size Zn wr) k g f.heap.size _ wr (ay.chkIn (E.out P s aG.out)) (h9 ay.box).1 y z);have cj:fK (Nd.kids t) j a=a+d9 (m+1) t:=by rw[cc];exact cC.out
     have HP:Hid (mp F M (gR sn (m+1) t env a) cs g (a+d9 (m+1) t) w (Zr (Zu #[Zp Zn,.nilIface])) wr.drew):=by show mp _ _ _ _ _ _ _ _ _;rw[av,<- cj];exact⟨(I.out wr cP).1.drew,.inl ⟨rfl,_,rfl,.inr ⟨rfl,rfl⟩,ay.chk⟩⟩
     have cL:¬(j:Int)<((Nd.kids t).length:Int):=om;clear av ay ai cj;go_wp2_with fail;refine bE.out.mono ?_;rintro e w2 ⟨rfl,rfl⟩;clear bE;go_wp2_with fail;refine bodyPost_ret (by simp[results,results41,go_sem];rfl) rfl ?_;exact HP.out
theorem DP(M:Nat)(a:5<=M)(sn:mq M):∀m,EW M sn m:=by
 intro m;induction m with
 | zero=>intro F t c0 c1 c2 c3 c4 env n g d f e cs mv w b;exact b.elim
 | succ m c=>exact AY M m a sn c
end Go.Proofs.YtcfojmaccikgeaaGreatDoor
