import Derived.Test.YtcfojmaccikgeaaGreatDoorB22
import Derived.Test.YtcfojmaccikgeaaGreatDoorB17
open Go.Value renaming slice→Zs,int→Zi,string→Zt,pointer→Zp,tuple→Zu,bool→Zb
open Go.IntKind renaming i64→Zk
open Go.Ending renaming returned→Zr
open Go.Obj renaming cells→Zc
open Option renaming none→Zn,some→Zo
open Go renaming World→Zw,Value→Zv
open Bool renaming and_eq_true→Zq
open Array renaming getElem?_eq_some_iff→ZF
namespace Go.Proofs.YtcfojmaccikgeaaGreatDoor
open Go.RowKit Go.Proofs.Tryz
variable {S S':ZP} {w w0 w1 w':Zw} {n B wb bk:Nat} {v:Zv} {l:List UInt8}
theorem b9.up:∀ {n:Nat} {t:K n} {v:Zv},b9 S w n t v->b9 S w (n+1) (fO n n t) v:=by
 intro n;induction n with
 | zero=>intro t v h;exact h.elim
 | succ n y=>intro t v h;obtain⟨b,z,A,B,x,u,a,q,r,j,cap,rfl,p,m⟩:=h;have e:(Kd.kids (fO (n+1) (n+1) t)).length=(Kd.kids t).length:=List.length_map ..;refine⟨b,z,A,_,x,u,a,q,r,j,cap,by rw[e],by rw[e];exact p,fun f=>?_⟩;obtain⟨g,off,l,o,d⟩:=m (fun h=>f (by show (Kd.kids t).map (fO n n)=[];rw[h];rfl));refine⟨g,off,l,o,fun i hi=>?_⟩;obtain⟨c,k,s⟩:=d i (by rw[<- e];exact hi);refine⟨c,k,?_⟩;have:(Kd.kids (fO (n+1) (n+1) t))[i]=fO n n ((Kd.kids t)[i]'(by rw[<- e];exact hi)):=List.getElem_map ..;rw[this];exact y s
theorem b9.dn:∀ {n:Nat} {L:Nat} {t:K n} {d:Int} {v:Zv},fM n t d=true->6-d<=(L:Int)->b9 S w n t v->b9 S w (L+1) (fO L n t) v:=by
 intro n;induction n with
 | zero=>intro L t;exact Empty.elim (show Empty from t)
 | succ n G=>
  intro L t d v k J h;obtain⟨H,I,o⟩:=ic k;obtain⟨b,y,z,M,u,s,a,p,q,m,cap,rfl,D,C⟩:=h;cases L with
  | zero=>
   have l:Kd.kids t=[]:=by
    cases l:Kd.kids t with
    | nil=>rfl
    | cons x r=>
     have F:=o x (by rw[l];exact List.mem_cons_self ..);cases n with
     | zero=>exact Empty.elim (show Empty from x)
     | succ n=>have:=(ic F).1;omega
   exact⟨b,y,z,_,u,s,a,p,q,m,cap,by rw[l];rfl,by show ([]:List (K 0)).length<=maxLen;simp,fun f=>absurd rfl f⟩
  | succ L=>have e:(Kd.kids (fO (L+1) (n+1) t)).length=(Kd.kids t).length:=List.length_map ..;refine⟨b,y,z,_,u,s,a,p,q,m,cap,by rw[e],by rw[e];exact D,fun f=>?_⟩;obtain⟨g,off,B,k,j⟩:=C (fun h=>f (by show (Kd.kids t).map (fO L n)=[];rw[h];rfl));refine⟨g,off,B,k,fun i hi=>?_⟩;obtain⟨c,A,E⟩:=j i (by rw[<- e];exact hi);refine⟨c,A,?_⟩;have:(Kd.kids (fO (L+1) (n+1) t))[i]=fO L n ((Kd.kids t)[i]'(by rw[<- e];exact hi)):=List.getElem_map ..;rw[this];exact G (o _ (List.getElem_mem _)) om E
theorem b9.okd{L:Nat}{t:K n}(h:gF n t=true)(b:5<=L)(a:b9 S w n t v):b9 S w (L+1) (fO L n t) v:=
 a.dn (iw h).1 om
theorem GL{a b:List ZN}(t:fL S w a v)(u:fL S' w b v):a=b:=by obtain⟨z,cap,rfl,-,-,x⟩:=t;obtain⟨n,m,e,-,-,k⟩:=u;injection e with c p A;refine List.ext_getElem p fun i h f=>?_;obtain⟨g,o,s,-,y⟩:=x (fun j=>by rw[j]at h;simp at h);obtain⟨B,C,d,-,l⟩:=k (fun j=>by rw[j]at f;simp at f);rw[s,d]at c;injection c with c;injection c with q r;subst q;subst r;have:=(y i h).symm.trans (l i f);injection this with this;injection this
theorem b9.one:∀ {n:Nat} {a b:K n} {v:Zv},b9 S w n a v->b9 S' w n b v->a=b:=by
 intro n;induction n with
 | zero=>intro a b v h;exact h.elim
 | succ n J=>
  intro a b v h k;obtain⟨g,X,pv,W,rfl,-,j,H,-,Q,cap,rfl,-,G⟩:=h;obtain⟨T,M,N,L,e,-,d,s,-,x,u,rfl,-,p⟩:=k;injection e with e;injection e with e;injection e with e;subst e;have f:=j.symm.trans d;injection f with f;injection f with f;have f:=congrArg Array.toList f;simp only[List.cons.injEq,Value.int.injEq,Value.slice.injEq,true_and,and_true]at f;obtain⟨y,z,-,l,A,-⟩:=f;subst z;have E:=GL H s;have F:Kd.kids a=Kd.kids b:=by refine List.ext_getElem A fun i h k=>?_;obtain⟨U,Y,D,-,I⟩:=G (fun o=>by rw[o]at h;simp at h);obtain⟨V,Z,m,-,t⟩:=p (fun o=>by rw[o]at k;simp at k);rw[D,m]at l;injection l with l;injection l with B C;subst B;subst C;obtain⟨c,q,r⟩:=I i h;obtain⟨R,O,P⟩:=t i k;have:=q.symm.trans O;injection this with this;subst this;exact J r P
  cases a;cases b
  cases y;cases E;cases F
  rfl
theorem xq{k:K (n+1)}(ok:gF (n+1) k=true)(d:Kd.sort k=4∨Kd.sort k=6):∃x,Kd.kids k=[x]:=by
 have a:fX (Kd.sort k) (Kd.names k) (Kd.kids k).length=true:=(ic (iw ok).1).2.1;unfold fX at a;refine List.length_eq_one_iff.1 ?_;rcases d with c|b;·rw[c]at a;simp at a;omega
 ·rw[b]at a;simp at a;omega
theorem b9.within {M:Nat} {k:K (M+1)} {b:Nat} (h:b9 S w (M+1) k (Zp (Zo ⟨b,0,Zn⟩))) (ok:gF (M+1) k=true) (s:Kd.sort k=4∨Kd.sort k=6) :
  gF (M+1) (mQ k)=true/\∃g o cap l,w.cell? ⟨b,3,Zn⟩=Zo (Zs (Zo ⟨g,o,Zn⟩) 1 cap)/\w.cell? ⟨g,o,Zn⟩=Zo (Zp (Zo ⟨l,0,Zn⟩))/\b9 S w (M+1) (mQ k) (Zp (Zo ⟨l,0,Zn⟩)):=by
 obtain⟨x,f⟩:=xq ok s;have e:mQ k=fO M M x:=by unfold mQ;rw[f]
 obtain⟨u,D,E,C,d,v,a,A,B,t,cap,rfl,z,r⟩:=h;injection d with d;injection d with d;injection d with d;subst d;obtain⟨g,off,rfl,y,m⟩:=r (by rw[f];simp);obtain⟨c,q,p⟩:=m 0 (by rw[f];simp);have j:b9 S w M x c:=by
  have:(Kd.kids k)[0]'(by rw[f];simp)=x:=by simp[f]
  rw[this]at p;exact p
 obtain⟨l,rfl,-⟩:=j.ptr;refine⟨?_,g,off,cap,l,?_,by simpa using q,by rw[e];exact j.up⟩;·have i:=pD ok x (by rw[f];simp);have n:=ss M x;rw[e];unfold gF at i ⊢;rw[n.1,n.2.1];exact i
 ·rw[(lY a).2.2.2,f];rfl
set_option maxRecDepth 100000
set_option maxHeartbeats 16000000
def nJ:(n:Nat)->K n->Bool
 | 0,_=>true
 | n+1,t=>lA (show Kd (K n) from t) && (Kd.kids t).all (nJ n)
theorem GC{t:K (n+1)}(h:nJ (n+1) t=true):fX (Kd.sort t) (Kd.names t) (Kd.kids t).length=true/\∀x,x∈Kd.kids t->nJ n x=true:=by simp only[nJ,Zq,List.all_eq_true]at h;exact h
theorem D6:∀ {n:Nat} {t:K n} {d:Int},fM n t d=true->nJ n t=true:=by
 intro n;induction n with
 | zero=>intro t d _;rfl
 | succ n e=>intro t d h;obtain⟨-,a,b⟩:=ic h;simp only[nJ,Zq,List.all_eq_true];exact⟨a,fun x c=>e (b x c)⟩
theorem FR(v:Zv)(c:∃a,v=Zp a)(w:Zw):Calls prog 170 #[v] w fun e d=>e=Zr (Zb true)/\Bw w d:=by obtain⟨a,rfl⟩:=c;have b:=Below.refl w.heap.size w;go_in;go_wp2;go_ret;exact⟨rfl,b⟩
theorem E5 (a:ZO) (b n m:Nat) (d p:Int) (w:Zw) (c:GV w b n m p 40 170) (s:0<=p) (t:p<=40) :
  Calls prog 206 #[Zp a,Zi Zk d,Zp (Zo ⟨b,0,Zn⟩),Zp (Zo ⟨n,0,Zn⟩),Zp (Zo ⟨m,0,Zn⟩)] w
   fun e i=>e=Zr (Zb (decide (p+1<=40) && decide (d<=6)))/\lm i b (p+1)/\b8 b w i:=by
 have r:=c.parts.lt;have g:b8 b w (w.setCell ⟨b,0,Zn⟩ (Zi Zk (p+1))):=b8.set b 0 _ (Zi Zk (p+1));have h:lm (w.setCell ⟨b,0,Zn⟩ (Zi Zk (p+1))) b (p+1):=c.parts.set (p+1);have l:Hid (Calls prog 170 _ _ _):=FR (Zp a) ⟨_,rfl⟩ (w.setCell ⟨b,0,Zn⟩ (Zi Zk (p+1)));have c0:=c.parts.cell;have f0:=c.parts.free;have v:=c.max;have a0:=c.acc;have nm:=c.nm;have u:=c.na;clear c;by_cases o:p+1<=40
 ·by_cases q:d<=6;·go_in;go_wp2_with fail;refine l.out.mono ?_;rintro e i ⟨rfl,f⟩;have k:lm i b (p+1):=(f.block b (by simp<;>omega)).trans h;have j:=g.trans (b8.of_below (bb:=b) f);clear f l;go_wp2;go_ret;exact⟨b6 (by simp[o,q]),k,j⟩
  ·go_in;go_wp2;go_ret;exact⟨b6 (by rw[decide_eq_false (show ¬d<=6 by omega)]),h,g⟩
 ·go_in;go_wp2;go_ret;exact⟨b6 (by rw[decide_eq_false (show ¬p+1<=40 by omega)];simp),h,g⟩
def J3(c b a:Nat):Zv:=.func (.func 206) #[] #[Zp (Zo ⟨c,0,Zn⟩),Zp (Zo ⟨b,0,Zn⟩),Zp (Zo ⟨a,0,Zn⟩)]
def qB(n:Nat):Prop:=∀(S:ZP)(t:K n)(v:Zv)(d p:Int)(a e c:Nat)(w:Zw),b9 S w n t v->nJ n t=true->(∀b,S b->b<w.heap.size/\b≠a)->GV w a e c p 40 170->0<=p->p<=40->1<=d->d<=7 ->
 Calls prog 205 #[v,Zi Zk d,J3 a e c] w (kt n t d p a w)
theorem Do(b:Nat)(c:Zv)(w:Zw)(f:w.cell? ⟨b,3,Zn⟩=Zo c):Calls prog 287 #[Zp (Zo ⟨b,0,Zn⟩)] w fun e d=>e=Zr c/\Bw w d:=by have a:=Below.refl w.heap.size w;go_in;go_wp2;go_ret;exact⟨rfl,a⟩
theorem BD(n:Nat)(hn:qB n):qB (n+1):=by
 intro S t v d p E mb ab w ht Z hB s ai aj am an;obtain⟨b0,nv,pv,kv,rfl,ae,a,-,-,Y⟩:=ht;obtain⟨ka,kc,rfl,V,j⟩:=Y;obtain⟨Q,G⟩:=GC Z;unfold maxLen at V;have g:=s.parts.lt;have R:=hB b0 ae;have c3:=(lY a).2.2.2;have N:=a7 (E5 (Zo ⟨b0,0,Zn⟩) E mb ab d p w s ai aj);have ad:=a7 G;have ac:=a7 Q;unfold J3;clear a Z G Q;go_in;go_wp2_with fail;refine N.out.mono ?_;rintro e w1 ⟨rfl,M,u⟩;have H:=s.keep u M;have ap:=u.size;have P:=u.cell c3 R.2;clear N;generalize y:(decide (p+1<=40) && decide (d<=6))=ok;cases ok with
 | false=>
  have O:Hid (kt (n+1) t d p E w (Zr (Zb false)) w1):=by
   refine⟨u,false,rfl,fun h=>(by cases h),fun _=>?_⟩;rintro ⟨T,hc⟩;simp only[fM,Zq,decide_eq_true_eq]at T;have:p+1<=40:=by simp only[fR]at hc;omega
   rw[decide_eq_true T.1.1,decide_eq_true this]at y;cases y
  clear y;go_wp2;go_ret;exact O.out
 | true=>
  simp only[Zq,decide_eq_true_eq]at y;have aa:Hid ((decide (d<=6) && lA (show Kd (K n) from t))=true):=by show (_ && fX (Kd.sort t) _ _)=_;rw[ac.out,decide_eq_true y.2];rfl
  obtain⟨ah,ao⟩:=y;go_wp2_with fail;refine (Do b0 _ w1 P).mono ?_;rintro e w2 ⟨rfl,C⟩;have W:=u.trans (b8.of_below C);have ak:=M.keep C;have aq:=C.size;clear C H u M c3 P;go_wp2;go_loopw [18] (fun i wr=>∃ k:Nat,k<=(Kd.kids t).length/\i=Zi Zk k/\b8 E w2 wr/\lm wr E (p+1+(b4 (fun x=>fR n x) ((Kd.kids t).take k):Int)) /\
    p+1+(b4 (fun x=>fR n x) ((Kd.kids t).take k):Int)<=40/\((Kd.kids t).take k).all (fun x=>fM n x (d+1))=true) (fun i _=>(Kd.kids t).length-(intOf i).toNat)
  case atStart=>exact⟨0,Nat.zero_le _,rfl,b8.refl _ _,by simpa [b4] using ak,by simpa [b4] using ah,zS⟩
  case round=>
   obtain⟨k,hk,rfl,L,m,c,F⟩:=hrel;have f:=a7 F;clear F;have ar:=L.size;have l:=W.trans L;have al:=m.lt;by_cases g:k<(Kd.kids t).length
   ·obtain⟨b,off,rfl,af,a⟩:=j (by intro h;rw[h]at g;simp at g);obtain⟨x0,e0,hr⟩:=a k g;have ag:=hB b af;have f0:=l.cell e0 ag.2;have q:=hr.keep (l.same (fun b hb=>by have:=hB b hb;omega)) (fun _ h=>h);obtain⟨xb,rfl,-⟩:=q.ptr;have A:=s.keep l m;have N:=a7 (hn S (Kd.kids t)[k] _ (d+1) _ E mb ab wr q (ad.out _ (List.getElem_mem g)) (fun b hb=>by have:=hB b hb;omega) A om c om om);have z:=@vT n t d p k g;have o:Hid (b4 (fun x=>fR n x) ((Kd.kids t).take (k+1))=b4 (fun x=>fR n x) ((Kd.kids t).take k)+fR n (Kd.kids t)[k]):=fQ _ _ _ g;clear q A j a e0 hr;unfold J3 at N;go_wp2_with fail;refine N.out.mono ?_;rintro e w3 ⟨I,r,rfl,B,J⟩;have D:=L.trans I;cases r with
    | false=>have O:Hid (kt (n+1) t d p E w (Zr (Zb false)) w3):=⟨W.trans D,false,rfl,fun h=>(by cases h),fun _=>z (J rfl)⟩;clear z J B o f I D l;go_wp2;go_ret;exact O.out
    | true=>
     obtain⟨T,hc,X⟩:=B rfl;have HR:Hid (b8 E w2 w3/\lm w3 E (p+1+(b4 (fun x=>fR n x) ((Kd.kids t).take (k+1)):Int))/\p+1+(b4 (fun x=>fR n x) ((Kd.kids t).take (k+1)):Int)<=40/\((Kd.kids t).take (k+1)).all (fun x=>fM n x (d+1))=true):=by
      refine⟨D,?_,?_,j9 k g f.out T⟩;·rw[o.out,show p+1+((b4 (fun x=>fR n x) ((Kd.kids t).take k)+fR n (Kd.kids t)[k]:Nat):Int)=p+1+(b4 (fun x=>fR n x) ((Kd.kids t).take k):Int)+(fR n (Kd.kids t)[k]:Int) by omega];exact X
      ·rw[o.out];omega
     clear z J B o f I D l T hc X m c;go_wp2;go_roundw;case rel=>exact⟨k+1,om,by go_num,HR.out.1,HR.out.2.1,HR.out.2.2.1,HR.out.2.2.2⟩
     case measure=>simp[intOf];omega
   ·have U:k=(Kd.kids t).length:=by omega
    have O:Hid (kt (n+1) t d p E w (Zr (Zb true)) wr):=by
     have h1:=f.out;rw[U,List.take_length]at h1 m c;have e:p+1+(b4 (fun x=>fR n x) (Kd.kids t):Int)=p+(fR (n+1) t:Int):=by simp only[fR];omega
     rw[e]at m c;exact⟨l,true,rfl,fun _=>⟨by have:=aa.out;simp only[fM,this,h1,Bool.and_self],c,m⟩,fun h=>(by cases h)⟩
    clear U j f l m c;go_wp2;go_ret;exact O.out
theorem Et:∀n,qB n:=by
 intro n;induction n with
 | zero=>intro S t v d p f e c w a;exact a.elim
 | succ n b=>exact BD n b
theorem Di (n:Nat) (S:ZP) (t:K n) (v:Zv) (w:Zw) (k:b9 S w n t v) (j:nJ n t=true) (m:Bd S w) :
  Calls prog 169 #[v,Zi Zk 40,.func (.func 170) #[] #[]] w fun e s=>e=Zr (Zb (gF n t))/\Bw w s:=by
 have q:∀(l:Fn)(first cap:Array Zv)(w:Zw),(Instr.makeFunc l first cap).run prog w=.ok (.func l first cap) w:=fun _ _ _ _=>rfl;obtain⟨u,rfl,-⟩:=k.ptr;have c:Bw w (((w.alloc (Zc #[Zi Zk 40] 3)).alloc (Zc #[.func (.func 170) #[] #[]] 191)).alloc (Zc #[Zi Zk 0] 3)):=
  ((gx _ _).alloc zS _).alloc zE _
 have f:=k.keep (a6 c m) (fun _ h=>h);have g:Hid (Calls prog 205 _ _ _):=Et n S t _ 1 0 (w.heap.size+1+1) w.heap.size (w.heap.size+1) _ f j (fun b c=>by have:=m b c;simp;omega)
  ⟨by rw[show w.heap.size+1+1=((w.alloc (Zc #[Zi Zk 40] 3)).alloc (Zc #[.func (.func 170) #[] #[]] 191)).heap.size by simp];exact lm.new _ 0,
   by simp[go_sem],by simp[go_sem],om,om⟩ om om om om
 unfold J3 at g;clear k f;go_in;go_wp2_with fail;refine g.out.mono ?_;rintro e w1 ⟨o,r,rfl,a,d⟩;have i:=c.trans (o.below om zE);have y:r=gF n t:=by
  cases r with
  | true=>obtain⟨p,x,-⟩:=a rfl;unfold gF;rw[p,decide_eq_true om];rfl
  | false=>symm;rw[Bool.eq_false_iff];intro h;simp only[gF,Zq,decide_eq_true_eq]at h;exact d rfl ⟨h.1,om⟩
 clear a d o c g;go_wp2;go_ret;exact⟨rfl,i⟩
theorem tp (n:Nat) (S:ZP) (t:K n) (v:Zv) (w:Zw) (c:b9 S w n t v) (b:nJ n t=true) (g:Bd S w) :
  Calls prog 133 #[v] w fun e i=>e=Zr (Zb (gF n t))/\Bw w i:=by have h:∀(f:Fn)(first cap:Array Zv)(w:Zw),(Instr.makeFunc f first cap).run prog w=.ok (.func f first cap) w:=fun _ _ _ _=>rfl;obtain⟨j,rfl,-⟩:=c.ptr;have d:=a7 (Di n S t _ w c b g);clear c;go_in;go_wp2_with fail;refine d.out.mono ?_;rintro e w1 ⟨rfl,a⟩;clear d;go_wp2;go_ret;exact⟨rfl,a⟩
structure lz(B wb bk:Nat)(w0 w:Zw)(v:Zv)(l:List UInt8):Prop where
 own:w.ownsRow B 5 1 v l.length (Lib.byteCells l)
 below:Below B w0 w
 le:B<=w.heap.size
 kept:Lib.OthersKept 5 (Zo wb) w0 w
 box:w.heap[wb]?=Zo (Zc #[Zp (Zo ⟨bk,0,Zn⟩),v] 219 (0,0))
 ge:B<=wb
theorem lz.here(h:lz B wb bk w0 w v l):lz B wb bk w w v l:=⟨h.own,Below.refl _ _,h.le,Lib.OthersKept.refl _ _ _,h.box,h.ge⟩
theorem lz.from{v0:Zv}{b:List UInt8}(h:lz B wb bk w1 w v l)(a:lz B wb bk w0 w1 v0 b):lz B wb bk w0 w v l:=⟨h.own,a.below.trans h.below,h.le,a.kept.trans h.kept,h.box,h.ge⟩
theorem lz.buf(h:lz B wb bk w0 w v l):iV B w w v l:=⟨h.own,Below.refl _ _,h.le,Lib.OthersKept.refl _ _ _⟩
theorem AF{e:TypeId}{b:Option Nat}(h:Lib.OthersKept e Zn w w'):Lib.OthersKept e b w w':=fun k o a _ c=>h k o a zS c
theorem DX{x:Zv}{xs:List Zv}{o:Obj}(h:w.ownsRow B 5 1 v n xs)(d:w.heap[wb]?=Zo o)(l:∀c fz,o≠Zc c 5 fz)(i:Nat):(w.setCell ⟨wb,i,Zn⟩ x).ownsRow B 5 1 v n xs:=by
 refine⟨h.1,?_⟩;rcases h.2 with k|⟨g,cap,a,p,b,f,m⟩;·exact .inl k
 ·refine .inr ⟨g,cap,a,p,b,?_,m⟩;rw[Below.heap_setCell _ _ _ _ (fun e=>?_)];·exact f
  ·have j:g=wb:=e;subst j;rw[f]at d;exact l _ _ (Option.some.inj d).symm
theorem lz.took{d:Zv}{f:List UInt8}(h:lz B wb bk w0 w v l)(a:iV B w w1 d f):lz B wb bk w0 (w1.setCell ⟨wb,1,Zn⟩ d) d f:=by have b:=a.kept wb _ h.box zS (fun c fz e=>by cases e);exact⟨DX a.own b (fun c fz e=>by cases e) 1,(h.below.trans a.below).setCell h.ge _,by have:=a.le;simpa using this,(h.kept.trans (AF a.kept)).setCell _ rfl _,lI b _,h.ge⟩
theorem lz.lt(h:lz B wb bk w0 w v l):wb<w.heap.size:=(ZF.1 h.box).1
theorem lz.alloc(h:lz B wb bk w0 w v l)(o:Obj):lz B wb bk w0 (w.alloc o) v l:=
 ⟨h.own.alloc o,h.below.alloc h.le o,by have:=h.le;simp;omega,h.kept.alloc o,(Below.heap_alloc _ _ _ h.lt).trans h.box,h.ge⟩
theorem lz.drew(h:lz B wb bk w0 w v l):lz B wb bk w0 w.drew v l:=
 ⟨h.own.drew,h.below.drew,h.le,h.kept.drew,h.box,h.ge⟩
theorem lz.on(h:lz B wb bk w0 w v l)(a:Bw w w'):lz B wb bk w0 w' v l:=by
 refine⟨⟨h.own.1,?_⟩,h.below.trans (a.mono h.le),Nat.le_trans h.le a.size,h.kept.trans (fun k o e _ _=>(a.block k (ZF.1 e).1).trans e),(a.block wb h.lt).trans h.box,h.ge⟩;rcases h.own.2 with f|⟨g,cap,b,j,c,d,i⟩;·exact .inl f
 ·exact .inr ⟨g,cap,b,j,c,(a.block g (ZF.1 d).1).trans d,i⟩
theorem lz.cells(h:lz B wb bk w0 w v l):w.cell? ⟨wb,0,Zn⟩=Zo (Zp (Zo ⟨bk,0,Zn⟩))/\w.cell? ⟨wb,1,Zn⟩=Zo v/\w.frozen? ⟨wb,1,Zn⟩=false:=by have:=h.box;refine⟨?_,?_,?_⟩<;>simp[World.cell?,World.frozen?,this]
def nO(B c bk:Nat)(w:Zw)(k:Nat)(e:Ending)(w':Zw):Prop:=e=Zr (Zu #[])/\∃b a,lz B c bk w w' b a/\a.length=k
theorem mj (B b bk:Nat) (w:Zw) (v:Zv) (l:List UInt8) (s:ZN) (h:lz B b bk w w v l) (K:l.length+1+s.size<=900000) :
  Calls prog 186 #[Zp (Zo ⟨b,0,Zn⟩),Zt s] w (nO B b bk w (wk l.length s.size)):=by
 obtain⟨A,y,C,rfl⟩:=h.buf.shape;obtain⟨-,c1,f1⟩:=h.cells;have u:y=l.length:=by
  rcases h.own.2 with ⟨F,p⟩|⟨g,cap,N,F,-⟩;·cases F;exact p.symm
  ·cases F;rfl
 by_cases p:l.length=0
 ·obtain rfl:y=0:=by omega
  have r:=a7 h.buf;have z:Hid (wk l.length s.size=s.size/\l.length=0):=⟨by simp[wk,p],p⟩;have d:l.length+s.size<=1000000:=om;clear p u K;go_in;go_wp2_with (at_builtin;refine gI rfl (.tmp 23) (.tmp 24) 9 rfl underlying9 B (Zs A 0 C) l rfl w r.out s rfl d ?_;intro P w1 a;obtain⟨i,k,j,rfl⟩:=a.shape;refine Hid.out ?_);refine Lib.hid ?_;have q:=h.took a;have n:=a.kept b _ h.box zS (fun c fz e=>by cases e);have L:w1.cell? ⟨b,1,Zn⟩=Zo (Zs A 0 C):=by simp[World.cell?,n]
  have M:w1.frozen? ⟨b,1,Zn⟩=false:=by simp[World.frozen?,n]
  have D:Hid (nO B b bk w (wk l.length s.size) (Zr (Zu #[])) (w1.setCell ⟨b,1,Zn⟩ (Zs i k j))):=⟨rfl,_,_,q,by rw[List.length_append,z.out.1,z.out.2];simp⟩;clear a q h r n;go_wp2_with fail;refine bodyPost_end (results_none rfl _ _ _) rfl ?_;exact D.out
 ·have O:(0:Int)<(y:Int):=by omega
  have r:=a7 h.buf;have z:Hid (wk l.length s.size=l.length+1+s.size):=j7 om _;have d:l.length<=1000000:=om;have m:(l++[32]).length+s.size<=1000000:=zE;clear p u K;go_in;go_wp2_with (at_builtin;refine fS rfl (.tmp 14) (.tmp 15) rfl B (Zs A y C) l rfl w w 32 32 rfl r.out rfl d ?_;intro P w1 a;obtain⟨i,k,j,rfl⟩:=a.shape;refine Hid.out ?_);refine Lib.hid ?_;have q:=h.took a;have n:=a.kept b _ h.box zS (fun c fz e=>by cases e);have L:w1.cell? ⟨b,1,Zn⟩=Zo (Zs A y C):=by simp[World.cell?,n]
  have M:w1.frozen? ⟨b,1,Zn⟩=false:=by simp[World.frozen?,n]
  have E:=a7 q;have t:=a7 q.buf;clear a q h r n;go_wp2_with (at_builtin;refine gI rfl (.tmp 23) (.tmp 24) 9 rfl underlying9 B (Zs i k j) (l++[32]) rfl _ t.out s rfl m ?_;intro v2 J f;obtain⟨G,I,H,rfl⟩:=f.shape;refine Hid.out ?_);refine Lib.hid ?_;have x:=E.out.took f;have o:=f.kept b _ E.out.box zS (fun c fz e=>by cases e);have Q:J.cell? ⟨b,1,Zn⟩=Zo (Zs i k j):=by simp[World.cell?,o]
  have R:J.frozen? ⟨b,1,Zn⟩=false:=by simp[World.frozen?,o]
  have D:Hid (nO B b bk w (wk l.length s.size) (Zr (Zu #[])) (J.setCell ⟨b,1,Zn⟩ (Zs G I H))):=⟨rfl,_,_,x,by rw[List.length_append,List.length_append,z.out];simp⟩;clear f x E t o L M;go_wp2_with fail;refine bodyPost_end (results_none rfl _ _ _) rfl ?_;exact D.out
def EY(m:Nat):Prop:=∀(B a bk:Nat)(w:Zw)(v:Zv)(l:List UInt8)(t:T m)(c0 c1 c2 c3 c4:Zv)(d:Int),lz B a bk w w v l->fT (fun b=>b<B) w m t c0 c1 c2 c3 c4->lg w bk->bk<B->gp m t d=true ->
 wk l.length (gw m t)<=800000->rM B w->Calls prog 148 #[Zp (Zo ⟨a,0,Zn⟩),.agg #[c0,c1,c2,c3,c4]] w (nO B a bk w (wk l.length (gw m t)))
theorem lu(k x:Nat):k+x<=wk k x:=by unfold wk;split<;>omega
theorem yS{α:Type}(d:α->Nat):∀(c:List ZN)(b:List α)(k:Nat),k<=jc d c b k:=by
 intro c;induction c with
 | nil=>intro b k;simp[jc]
 | cons a c e=>
  intro b k;cases b with
  | nil=>simp[jc]
  | cons x r=>rw[jc];have f:=e r (wk (wk k a.size) (d x));have g:=lu (wk k a.size) (d x);have h:=lu k a.size;omega
theorem lz.same(h:lz B wb bk w0 w v l):jn (fun b=>b<B) w0 w:=fun b a=>h.below.block b a
theorem Ar (m:Nat) (hn:EY m) (B s bk:Nat) (w:Zw) (v:Zv) (l:List UInt8) (n:Nd (T m)) (na ka:ZO) (nc kc:Nat) (d:Int) (h:lz B s bk w w v l)
  (h3:fL (fun b=>b<B) w n.names (Zs na n.names.length nc)) (h4:ik (fun b=>b<B) w (fT (fun b=>b<B) w m) n.kids (Zs ka n.kids.length kc)) (aj:n.names.length=n.kids.length) (V:lg w bk) (H:bk<B)
  (hg:n.kids.all (fun x=>gp m x d)=true) (hl:jc (gw m) n.names n.kids l.length<=800000) (hT:rM B w) :
  Calls prog 189 #[Zp (Zo ⟨s,0,Zn⟩),.agg #[Zi Zk n.sort,Zi Zk n.num,Zt n.text,Zs na n.names.length nc,Zs ka n.kids.length kc]] w (nO B s bk w (wk (jc (gw m) n.names n.kids l.length) 3)):=by
 obtain⟨W,hW⟩:=ii (w.alloc (Zc #[Zi Zk n.sort,Zi Zk n.num,Zt n.text,Zs na n.names.length nc,Zs ka n.kids.length kc] 40));have z:lz B s bk w W v l:=by rw[hW];exact h.alloc _
 have A:W.heap[w.heap.size]?=Zo (Zc #[Zi Zk n.sort,Zi Zk n.num,Zt n.text,Zs na n.names.length nc,Zs ka n.kids.length kc] 40 (0,0)):=by rw[hW];exact heap_alloc_last _ _
 have am:=h.lt;have N:=z.same;obtain⟨_,_,hv,ah,ao,J⟩:=h3.keep N (fun _ h=>h);cases hv
 obtain⟨_,_,hv,ai,K⟩:=h4.keepN N (fun _ h=>h);cases hv
 have X:=V.keep (z.below.block bk H);have af:=hT.on z.below;have HG:Hid (∀k (h:k<n.kids.length),gp m n.kids[k] d=true):=fun k h=>List.all_eq_true.1 hg _ (List.getElem_mem h);have HL:=a7 hl;have R:=a7 z;have ak:n.names.length<=n.kids.length:=om;have al:n.kids.length<=n.names.length:=om;have U:=a7 hW;unfold maxLen at ah ai;clear hg hl h3 h4 aj V hT h N z hW;obtain⟨q0,q1,q2,q3,q4⟩:=fZ A;rw[U.out]at q0 q1 q2 q3 q4;go_in;go_wp2_with fail;rw[<- U.out];clear q0 q1 q2 q3 q4;go_loopw [9] (fun i wr=>∃(k:Nat)(v':Zv)(t:List UInt8),k<=n.names.length/\i=Zi Zk k/\lz B s bk W wr v' t/\Hid (jc (gw m) (n.names.drop k) (n.kids.drop k) t.length=jc (gw m) n.names n.kids l.length)) (fun i _=>n.names.length-(intOf i).toNat);case atStart=>exact⟨0,v,l,Nat.zero_le _,rfl,R.out.here,by rw[List.drop_zero,List.drop_zero];exact rfl⟩
 case round=>
  obtain⟨k,v',t,hk,rfl,f,HE⟩:=hrel;have I:=(f.kept w.heap.size _ A zE (fun c fz e=>by cases e));obtain⟨z0,z1,z2,z3,z4⟩:=fZ I;by_cases F:k<n.names.length
  ·obtain⟨b,off,rfl,ae,C⟩:=J (by intro h;rw[h]at F;simp at F);have e0:=kC f.below (C k F) ae;have M:k<n.kids.length:=om;obtain⟨O,j,rfl,p,r⟩:=K (by intro h;have:=List.length_eq_zero_iff.2 h;omega);obtain⟨d0,d1,d2,d3,d4,k0,k1,k2,k3,k4,L⟩:=r k M;obtain⟨x0,x1,x2,xa,xl,xc,ya,yl,yc,rfl,rfl,rfl,rfl,rfl⟩:=L.shape;have HS:Hid (jc (gw m) (n.names.drop (k+1)) (n.kids.drop (k+1)) (wk (wk t.length n.names[k].size) (gw m n.kids[k]))=jc (gw m) n.names n.kids l.length):=by have:=HE.out;rw[List.drop_eq_getElem_cons F,List.drop_eq_getElem_cons M,jc]at this;exact this
   have Y:=yS (gw m) (n.names.drop (k+1)) (n.kids.drop (k+1)) (wk (wk t.length n.names[k].size) (gw m n.kids[k]));rw[HS.out]at Y;have hL:=HL.out;have g1:=lu (wk t.length n.names[k].size) (gw m n.kids[k]);have g2:=lu t.length n.names[k].size;have y:=a7 (mj B s bk wr v' t n.names[k] f.here om);have P:Hid (∀o v2 u,lz B s bk wr o v2 u->u.length=wk t.length n.names[k].size->Calls prog 148 #[Zp (Zo ⟨s,0,Zn⟩),.agg #[Zi Zk x0,Zi Zk x1,Zt x2,Zs xa xl xc,Zs ya yl yc]] o (nO B s bk o (wk (wk t.length n.names[k].size) (gw m n.kids[k])))):=by intro o v2 u a q;have g:=a.from f;have:=hn B s bk o v2 u n.kids[k] _ _ _ _ _ d a.here (L.keep g.same (fun _ h=>h)) (X.keep (g.below.block bk H)) H (HG.out k M) (by rw[q];omega) (af.on g.below);rw[q]at this;exact this
   have HK:Hid (∀o v2 u,lz B s bk wr o v2 u->(o.cell? ⟨w.heap.size,4,Zn⟩=Zo (Zs (Zo ⟨O,j,Zn⟩) n.kids.length kc)/\o.cell? ⟨O,j+k*5,Zn⟩=Zo (Zi Zk x0)/\o.cell? ⟨O,j+k*5+1,Zn⟩=Zo (Zi Zk x1)/\o.cell? ⟨O,j+k*5+2,Zn⟩=Zo (Zt x2)/\o.cell? ⟨O,j+k*5+3,Zn⟩=Zo (Zs xa xl xc)/\o.cell? ⟨O,j+k*5+4,Zn⟩=Zo (Zs ya yl yc))):=by intro o v2 u a;have g:=a.from f;have ag:=fZ (g.kept w.heap.size _ A zE (fun c fz e=>by cases e));exact⟨ag.2.2.2.2,kC g.below k0 p,kC g.below k1 p,kC g.below k2 p,kC g.below k3 p,kC g.below k4 p⟩
   have E:=a7 f;clear J K C r L I Y g1 g2 hL f k0 k1 k2 k3 k4 HE;have an:(k:Int)<(n.kids.length:Int):=om;generalize n.names[k]=nm at *;go_wp2_with fail;refine y.out.mono ?_;rintro e o ⟨rfl,v2,u,a,q⟩;have Q:=a7 (P.out o v2 u a q);obtain⟨y4,k0,k1,k2,k3,k4⟩:=HK.out o v2 u a;have S:=a7 a;clear a y P HK z0 z1 z2 z3 z4 e0;go_wp2_with fail;refine Q.out.mono ?_;rintro e w3 ⟨rfl,v3,l3,aa,G⟩;have ad:=a7 ((aa.from S.out).from E.out);have ac:Hid (jc (gw m) (n.names.drop (k+1)) (n.kids.drop (k+1)) l3.length=jc (gw m) n.names n.kids l.length):=by show _=_;rw[G];exact HS.out
   clear aa Q y4 k0 k1 k2 k3 k4 S E HS G q;go_wp2;go_roundw;case rel=>exact⟨k+1,v3,l3,om,by go_num,ad.out,ac⟩
   case measure=>simp[intOf];omega
  ·have Z:k=n.names.length:=by omega
   have D:t.length=jc (gw m) n.names n.kids l.length:=by have:=HE.out;rw[Z,List.drop_length]at this;simpa [jc] using this
   have y:=a7 (mj B s bk wr v' t ⟨#[101,110,100]⟩ f.here (by rw[D];have:=HL.out;show _+3<=_;omega));have E:=a7 (f.from R.out);have ab:=a7 D;clear J K I f Z D HE z0 z1 z2 z3 z4;go_wp2_with fail;refine y.out.mono ?_;rintro e o ⟨rfl,v2,u,a,q⟩;have HP:Hid (nO B s bk w (wk (jc (gw m) n.names n.kids l.length) 3) (Zr (Zu #[])) o):=⟨rfl,v2,u,a.from E.out,by rw[q,ab.out];rfl⟩;clear a q y;go_wp2_with fail;refine bodyPost_end (results_none rfl _ _ _) rfl ?_;exact HP.out
end Go.Proofs.YtcfojmaccikgeaaGreatDoor
