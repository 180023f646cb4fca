import Derived.Test.YtcfojmaccikgeaaGreatDoorB5
import Derived.Deep.WholeRow
import Derived.Test.YtcfojmaccikgeaaGreatDoorB4
open Go.Value renaming slice→Zs,int→Zi,string→Zt,pointer→Zp,bool→Zb
open Go.IntKind renaming i64→Zk
open Go.Ending renaming returned→Zr
open Go.Obj renaming cells→Zc
open Option renaming none→Zn,some→Zo
open Go renaming World→Zw,Value→Zv
open Bool renaming and_eq_true→Zq
open List renaming getElem_mem→Zg,length_cons→Zy,all_eq_true→ZC
namespace Go.Proofs.YtcfojmaccikgeaaGreatDoor
open Go.RowKit Go.Proofs.Tryz
set_option maxRecDepth 100000
set_option maxHeartbeats 16000000
variable {w w':Zw} {b k n cap m rb:Nat} {t:TypeId} {z:Nat×Nat} {P:Program} {s:ZN} {S:ZP} {l:List ZN} {ao:ZO} {α:Type} {c0 v3 v4:Zv}
def GT:Nat->List Zv
 | 0=>[]
 | n+1=>GT n++[Zt (ld n),Zt (bs (jF n)),Zi Zk (lst n),Zi Zk (uu n)]
def vI:Array Zv:=(GT 44).toArray
theorem Ia:∀n,(GT n).length=n*4:=by
 intro n;induction n with
 | zero=>rfl
 | succ n a=>rw[GT,List.length_append,a];simp;omega
theorem H9:∀n k,k<n->(GT n)[k*4]?=Zo (Zt (ld k))/\(GT n)[k*4+1]?=Zo (Zt (bs (jF k)))/\(GT n)[k*4+2]?=Zo (Zi Zk (lst k))/\(GT n)[k*4+3]?=Zo (Zi Zk (uu k)):=by
 intro n;induction n with
 | zero=>intro k h;exact absurd h (Nat.not_lt_zero _)
 | succ n g=>
  intro k h;have f:=Ia n;by_cases e:k<n;·obtain⟨a,b,c,d⟩:=g k e;rw[GT,List.getElem?_append_left om,List.getElem?_append_left om,List.getElem?_append_left om,List.getElem?_append_left om];exact⟨a,b,c,d⟩
  ·have:k=n:=by omega
   subst this;rw[GT,List.getElem?_append_right om,List.getElem?_append_right om,List.getElem?_append_right om,List.getElem?_append_right om,f,
    show k*4-k*4=0 by omega,show k*4+1-k*4=1 by omega,show k*4+2-k*4=2 by omega,show k*4+3-k*4=3 by omega]
   exact⟨rfl,rfl,rfl,rfl⟩
def lg(w:Zw)(b:Nat):Prop:=∀k,k<44->w.cell? ⟨b,k*4,Zn⟩=Zo (Zt (ld k))/\w.cell? ⟨b,k*4+1,Zn⟩=Zo (Zt (bs (jF k)))/\w.cell? ⟨b,k*4+2,Zn⟩=Zo (Zi Zk (lst k))/\w.cell? ⟨b,k*4+3,Zn⟩=Zo (Zi Zk (uu k))
theorem lg.keep(h:lg w b)(c:w'.heap[b]?=w.heap[b]?):lg w' b:=by intro k i;obtain⟨d,e,f,g⟩:=h k i;exact⟨(World.cell?_of_block (w:=w) (w':=w') (a:=⟨b,k*4,Zn⟩) c).trans d,(World.cell?_of_block (w:=w) (w':=w') (a:=⟨b,k*4+1,Zn⟩) c).trans e,(World.cell?_of_block (w:=w) (w':=w') (a:=⟨b,k*4+2,Zn⟩) c).trans f,(World.cell?_of_block (w:=w) (w':=w') (a:=⟨b,k*4+3,Zn⟩) c).trans g⟩
theorem lg.of(h:w.heap[b]?=Zo (Zc vI t z)):lg w b:=by
 intro k f;obtain⟨a,c,d,e⟩:=H9 44 k f;refine⟨?_,?_,?_,?_⟩;·simp[World.cell?,h,vI,a]
 ·simp[World.cell?,h,vI,c]
 ·simp[World.cell?,h,vI,d]
 ·simp[World.cell?,h,vI,e]
theorem pg {d:Func} {p:Tmp} {e:TypeId} (h:d.results=#[.cell p e]) (a:Array Zv) (w:Zw) (b:Addr) (v:Zv) (f:a.getD p undef=Zp (Zo b)) (g:(loadVar e b).run P w=.ok v w) :
  (results d a).run P w=.ok v w:=by
 have c:a[p]?.getD undef=Zp (Zo b):=by simpa using f
 simp[results,h,c,g,asAddr]
theorem uZ(w:Zw):Calls prog 108 #[] w fun e h=>e=Zr (.agg vI)/\Bw w h:=by
 have g:vI.size=176:=zK;have d:=run_storeAt_new (P:=prog) w 175 Tryz.zeroCells175 vI zK zK zK;have a:=run_storeCells_new (P:=prog) w 175 Tryz.zeroCells175 vI zK zK zK;have c:Hid _:=run_loadVar_new (P:=prog) w 175 vI 44 174 zK zK;go_in;go_wp2_with fail;conv=>
  pattern (Array.setIfInBounds (Array.setIfInBounds _ 174 _) 175 _)
  tactic=>refine Eq.trans (b:=vI) ?_ rfl;kernel_rfl
 conv=>
  pattern (List.set (List.set _ 174 _) 175 _)
  tactic=>refine Eq.trans (b:=vI.toList) ?_ rfl;kernel_rfl
 have f:Hid (Bw w (w.alloc (Zc vI 175))):=gx _ _;rw[a];clear d a;go_wp2_with fail;exact bodyPost_ret (pg results108 _ _ ⟨w.heap.size,0,Zn⟩ _ rfl c.out) rfl ⟨rfl,f.out⟩
theorem uW(w:Zw):Calls prog 78 #[] w fun e d=>∃b,e=Zr (Zp (Zo ⟨b,0,Zn⟩))/\w.heap.size<=b/\b<d.heap.size/\lg d b/\Bw w d:=by
 have g:vI.size=176:=zK;have h:Array.foldl (fun cs (x:Zv×Nat)=>cs.setIfInBounds x.snd x.fst) Tryz.zeroCells178 vI.zipIdx 0 176=vI:=zK;go_in;go_wp2_with fail;refine (uZ w).mono ?_;rintro e w1 ⟨rfl,a⟩;have c:=a.alloc a.size (Zc vI 178);have f:Hid (∃b,Ending.returned (Zp (Zo ⟨w1.heap.size,0,Zn⟩))=Zr (Zp (Zo ⟨b,0,Zn⟩))/\w.heap.size<=b/\b<(w1.alloc (Zc vI 178)).heap.size/\lg (w1.alloc (Zc vI 178)) b/\Bw w (w1.alloc (Zc vI 178))):=
  ⟨w1.heap.size,rfl,a.size,zS,lg.of (heap_alloc_last w1 _),c⟩
 clear a c;go_wp2;go_ret;exact f.out
theorem qE(a b:ZN):(a==b)=decide (a=b):=by
 obtain⟨x⟩:=a;obtain⟨y⟩:=b;show (x==y)=_;by_cases h:x=y;·subst h;simp
 ·have c:¬(ByteArray.mk x)=⟨y⟩:=fun e=>h (congrArg ByteArray.data e);rw[decide_eq_false c];simpa using h
theorem jA(a b:ZN):(a.toList==b.toList)=(a==b):=by
 rw[ByteArray.toList_eq,ByteArray.toList_eq,qE];by_cases h:a=b;·subst h;simp
 ·have c:¬a.data.toList=b.data.toList:=fun e=>h (Go.WideShapes.bytes_inj e);rw[decide_eq_false h];simpa using c
theorem px(a:ZN)(l:List UInt8):(a.toList==l)=(a==bs l):=by rw[<- jA,ByteArray.toList_eq (bs l),jy]
theorem Ce(h:(ld k==s)=true):Gk s k (n+1)=k:=by rw[Gk,if_pos h]
theorem Gl(h:(ld k==s)=false):Gk s k (n+1)=Gk s (k+1) n:=by rw[Gk,if_neg (by rw[h];decide)]
theorem xr (b:Nat) (s:ZN) (w:Zw) (g:lg w b) :
  Calls prog 244 #[Zp (Zo ⟨b,0,Zn⟩),Zt s] w fun e m=>e=Zr (Zi Zk (uX s:Nat))/\m=w:=by
 have h:=a7 g;clear g;go_in;go_wp2;go_loop [5] (fun i=>∃k:Nat,5<=k/\k<=44/\i=Zi Zk (k:Int)/\Hid (Gk s k (44-k)=uX s)) (fun i=>44-(intOf i).toNat);case atStart=>exact⟨5,om,om,rfl,rfl⟩
 case round=>
  obtain⟨k,n,j,rfl,a⟩:=hrel;by_cases l:k<44
  ·obtain⟨c0,-,-,-⟩:=h.out k l;have d:(k:Int)<=43:=om;cases hq:(ld k==s) with
   | true=>
    have c:Hid (Ending.returned (Zi Zk (k:Int))=Zr (Zi Zk ((uX s:Nat):Int))):=by show _=_;rw[<- a.out,show 44-k=(43-k)+1 by omega,Ce hq]
    have f:=(jA _ _).trans hq;clear hq a;go_wp2;go_ret;exact⟨c.out,rfl⟩
   | false=>
    have c:Hid (Gk s (k+1) (44-(k+1))=uX s):=by show _=_;rw[<- a.out,show 44-k=(44-(k+1))+1 by omega,Gl hq]
    have f:=(jA _ _).trans hq;clear hq a;go_wp2;go_round;case rel=>exact⟨k+1,om,om,by go_num,c⟩
    case measure=>simp[intOf];omega
  ·have d:¬(k:Int)<=43:=by omega
   have c:Hid (Ending.returned (Zi Zk (0:Int))=Zr (Zi Zk ((uX s:Nat):Int))):=by show _=_;rw[<- a.out,show 44-k=0 by omega];rfl
   clear a;go_wp2;go_ret;exact⟨c.out,rfl⟩
theorem rU (b:Nat) (s:ZN) (w:Zw) (j:s.size<=maxLen) (i:lg w b) :
  Calls prog 228 #[Zp (Zo ⟨b,0,Zn⟩),Zt s] w fun e k=>e=Zr (Zb (il s))/\k=w:=by
 have a:=a7 (kV s w j);have c:=a7 (xr b s w i);have d:Hid (il s=(gj s && (uX s==0) && !(s==bs [121,101,115]) && !(s==bs [110,111]) && !(s==bs [101,110,100]))):=rfl;have l:=px s [121,101,115];have m:=px s [110,111];have n:=px s [101,110,100];generalize (s==bs [121,101,115])=b1 at *;generalize (s==bs [110,111])=b2 at *;generalize (s==bs [101,110,100])=b3 at *;clear i;cases hn:gj s with
 | false=>rw[hn]at a d;go_in;go_wp2_with fail;refine a.out.mono ?_;rintro e w1 ⟨rfl,rfl⟩;go_wp2;go_ret;exact⟨b6 (by rw[d.out];simp),rfl⟩
 | true=>
  rw[hn]at a d;by_cases g:uX s=0
  ·have f:(uX s==0)=true:=by simp[g]
   rw[f]at d;rw[g]at c;cases b1<;>cases b2<;>cases b3
   all_goals
    go_in
    go_wp2_with fail
    refine a.out.mono ?_
    rintro e w1 ⟨rfl,rfl⟩
    go_wp2_with fail
    refine c.out.mono ?_
    rintro e w1 ⟨rfl,rfl⟩
    go_wp2
    go_ret
    exact⟨b6 (by rw[d.out];rfl),rfl⟩
  ·have f:(uX s==0)=false:=by simp[g]
   have h:(((uX s:Nat):Int)==0)=false:=zE;rw[f]at d;go_in;go_wp2_with fail;refine a.out.mono ?_;rintro e w1 ⟨rfl,rfl⟩;go_wp2_with fail;refine c.out.mono ?_;rintro e w1 ⟨rfl,rfl⟩;go_wp2;go_ret;exact⟨b6 (by rw[d.out];simp),rfl⟩
theorem nt(op:Int)(w:Zw):Calls prog 37 #[Zi Zk op] w fun e d=>e=Zr (Zi .i32 (rF op))/\d=w:=by
 by_cases a:op<1;·go_in;go_wp2;go_ret;exact⟨fJ (by unfold rF;rw[if_pos (.inl a)]),rfl⟩
 by_cases b:43<op;·go_in;go_wp2;go_ret;exact⟨fJ (by unfold rF;rw[if_pos (.inr b)]),rfl⟩
 by_cases c:op<36;·go_in;go_wp2;go_ret;exact⟨fJ (by unfold rF;rw[if_neg om,if_pos c]),rfl⟩
 ·go_in;go_wp2;go_ret;exact⟨fJ (by unfold rF;rw[if_neg om,if_neg om]),rfl⟩
theorem Dg(x y:ZN)(a c n:Int)(w:Zw):Calls prog 182 #[.agg #[Zt x,Zt y,Zi Zk a,Zi Zk c],Zi Zk n] w fun e g=>e=Zr (Zb (decide (a<=n/\n<=c)))/\Bw w g:=by
 have b:=(Below.refl w.heap.size w).alloc (Nat.le_refl _) (Zc #[Zt x,Zt y,Zi Zk a,Zi Zk c] 174);by_cases d:a<=n<;>by_cases f:n<=c;all_goals
  go_in
  go_wp2
  go_ret
  exact⟨b6 (by simp[d,f];try omega),b⟩
theorem oz (s m:Int) (x:ZN) (a a2:ZO) (d f b c:Nat) (w:Zw):Calls prog 181 #[.agg #[Zi Zk s,Zi Zk m,Zt x,Zs a d b,Zs a2 f c]] w
  fun e h=>e=Zr (.agg #[Zi Zk s,Zi Zk m,Zt x,Zs Zn 0 0,Zs Zn 0 0])/\Bw w h:=by
 have g:Bw w ((w.alloc (Zc #[Zi Zk s,Zi Zk m,Zt x,Zs a d b,Zs a2 f c] 40)).alloc (Zc #[Zi Zk s,Zi Zk m,Zt x,Zs Zn 0 0,Zs Zn 0 0] 164)):=
  (gx _ _).alloc zS _
 go_in;go_wp2_with fail;refine bodyPost_ret (v:=.agg #[Zi Zk s,Zi Zk m,Zt x,Zs Zn 0 0,Zs Zn 0 0]) (by simp[results,results181,go_sem]) rfl ?_;exact⟨rfl,g⟩
theorem fL.take(h:fL S w l (Zs ao l.length cap))(k:Nat)(t:k<=l.length):fL S w (l.take k) (Zs ao k cap):=by
 obtain⟨g,f,r,u,q,o⟩:=h;cases r
 have e:(l.take k).length=k:=zE;refine⟨ao,cap,by rw[e],by rw[e];omega,fun s p=>q s (List.mem_of_mem_take p),fun d=>?_⟩;have c:l≠[]:=fun j=>d (by rw[j];simp);obtain⟨b,off,n,m,a⟩:=o c;exact⟨b,off,n,m,fun i hi=>by rw[a i om,List.getElem_take]⟩
theorem fL.tail{a:ZN}{q:List ZN}(h:fL S w (a :: q) (Zs ao n cap))(d:n<=cap):fL S w q (sliced ao 1 n cap 1):=by
 obtain⟨g,f,p,l,o,k⟩:=h;cases p
 obtain⟨b,off,rfl,j,c⟩:=k zS;simp only[Zy]at l d ⊢;unfold sliced;refine⟨if cap=1 then Zo ⟨b,off,Zn⟩ else Zo ((⟨b,off,Zn⟩:Addr).add 1),cap-1,zS,om,fun s m=>o s (List.mem_cons_of_mem _ m),fun e=>?_⟩;have r:=List.length_pos_iff.2 e;refine⟨b,off+1,by rw[if_neg om];simp[Addr.add],j,fun i hi=>?_⟩;have:=c (i+1) zE;rw[show off+1+i=off+(i+1) by omega];simpa using this
theorem ik.tail{R:α->Zv->Zv->Zv->Zv->Zv->Prop}{a:α}{q:List α}(h:ik S w R (a :: q) (Zs ao n cap))(d:n<=cap):ik S w R q (sliced ao 1 n cap 5):=by
 obtain⟨g,f,m,l,k⟩:=h;cases m
 obtain⟨b,off,rfl,j,c⟩:=k zS;simp only[Zy]at l d ⊢;unfold sliced;refine⟨if cap=1 then Zo ⟨b,off,Zn⟩ else Zo ((⟨b,off,Zn⟩:Addr).add 5),cap-1,zS,om,fun e=>?_⟩;have o:=List.length_pos_iff.2 e;refine⟨b,off+5,by rw[if_neg om];simp[Addr.add],j,fun i hi=>?_⟩;have:=c (i+1) zE;rw[show off+5+i*5=off+(i+1)*5 by omega];simpa using this
theorem Dd (S:ZP) (l:List ZN) (v:Zv) (x:ZN) (w:Zw) (p:fL S w l v) :
  Calls prog 245 #[v,Zt x] w fun e r=>r=w/\∃i:Int,e=Zr (Zi Zk i)/\decide (0<=i)=l.contains x:=by
 obtain⟨s,cap,rfl,j,q,m⟩:=p;unfold maxLen at j;go_in;go_wp2;go_loop [8] (fun i=>∃k:Nat,k<=l.length/\i=Zi Zk k/\Hid ((l.take k).contains x=false)) (fun i=>l.length-(intOf i).toNat);case atStart=>exact⟨0,Nat.zero_le _,rfl,rfl⟩
 case round=>
  obtain⟨k,t,rfl,d⟩:=hrel;by_cases c:k<l.length
  ·obtain⟨b,off,rfl,-,a⟩:=m (by intro h;rw[h]at c;simp at c);have o:=a k c;cases hq:(x==l[k]) with
   | true=>
    have n:=(jA x l[k]).trans hq;have f:Hid (decide (0<=(k:Int))=l.contains x):=by
     show _=_;rw[decide_eq_true om];have:x=l[k]:=by rw[qE]at hq;simpa using hq
     rw[this];symm;rw[List.contains_eq_any_beq,List.any_eq_true];exact⟨l[k],Zg c,by rw[qE];simp⟩
    clear m a hq d;go_wp2;go_ret;exact⟨rfl,_,rfl,f.out⟩
   | false=>
    have n:=(jA x l[k]).trans hq;have f:Hid ((l.take (k+1)).contains x=false):=by show _=_;have g:=d.out;rw[List.contains_eq_any_beq]at g ⊢;rw[List.take_succ_eq_append_getElem c,List.any_append,g];simp[hq]
    clear m a hq d;go_wp2;go_round;case rel=>exact⟨k+1,om,by go_num,f⟩
    case measure=>simp[intOf];omega
  ·have f:Hid (decide (0<=(-1:Int))=l.contains x):=by show _=_;have g:=d.out;rw[List.take_of_length_le om]at g;rw[g];rfl
   clear m q d;go_wp2;go_ret;exact⟨rfl,_,rfl,f.out⟩
theorem ww (S:ZP) (l:List ZN) (v:Zv) (x:ZN) (w:Zw) (a:fL S w l v) :
  Calls prog 229 #[v,Zt x] w fun e f=>f=w/\e=Zr (Zb (l.contains x)):=by
 obtain⟨g,cap,d,-⟩:=id a;subst d;have b:=a7 (Dd S l _ x w a);go_in;go_wp2_with fail;refine b.out.mono ?_;rintro e w1 ⟨rfl,i,rfl,hi⟩;have c:=a7 hi;clear hi b a;by_cases h:0<=i;·go_wp2;go_ret;exact⟨rfl,b6 (by rw[<- c.out];simp[h])⟩
 ·go_wp2;go_ret;exact⟨rfl,b6 c.out⟩
theorem wF (S:ZP) (b:Nat) (p:UInt8) (s:ZN) (a:List ZN) (v:Zv) (w:Zw) (k:s.size<=maxLen) (j:lg w b) (i:fL S w a v) :
  Calls prog 210 #[Zp (Zo ⟨b,0,Zn⟩),Zi .i32 (p.toNat:Int),Zt s,v] w fun e n=>e=Zr (Zb (iY p s a))/\n=w:=by
 obtain⟨o,cap,m,-⟩:=id i;subst m;have g:=a7 (kV s w k);have c:=a7 (rU b s w k j);have h:=a7 (ww S a _ s w i);clear j i;by_cases f:p=78
 ·have l:((p.toNat:Int)==78)=true:=by subst f;rfl
  have d:Hid (iY p s a=gj s):=by show _=_;unfold iY;rw[if_pos f]
  clear f;go_in;go_wp2_with fail;refine g.out.mono ?_;rintro e w1 ⟨rfl,rfl⟩;go_wp2;go_ret;exact⟨b6 d.out.symm,rfl⟩
 ·have l:((p.toNat:Int)==78)=false:=by have:¬p.toNat=78:=fun e=>f (UInt8.toNat_inj.1 e);simp;omega
  have d:Hid (iY p s a=(il s && !(a.contains s))):=by show _=_;unfold iY;rw[if_neg f]
  clear f;cases hf:il s with
  | false=>rw[hf]at d c;go_in;go_wp2_with fail;refine c.out.mono ?_;rintro e w1 ⟨rfl,rfl⟩;go_wp2;go_ret;exact⟨b6 (by rw[d.out];rfl),rfl⟩
  | true=>rw[hf]at d c;go_in;go_wp2_with fail;refine c.out.mono ?_;rintro e w1 ⟨rfl,rfl⟩;go_wp2_with fail;refine h.out.mono ?_;rintro e w1 ⟨rfl,rfl⟩;go_wp2;go_ret;exact⟨b6 (by rw[d.out];simp),rfl⟩
structure wg(S:ZP)(w:Zw)(m rb:Nat)(r:Nd (T m))(c0 v3 v4:Zv):Prop where
 box:w.heap[rb]?=Zo (Zc #[c0,Zi Zk r.num,Zt r.text,v3,v4] 40 (0,0))
 n3:fL S w r.names v3
 k3:mn v3
 n4:ik S w (fT S w m) r.kids v4
 k4:mn v4
theorem wg.keep{r:Nd (T m)}(h:wg S w m rb r c0 v3 v4)(a:jn S w w')(b:w'.heap[rb]?=w.heap[rb]?):wg S w' m rb r c0 v3 v4:=
 ⟨b.trans h.box,h.n3.keep a (fun _ h=>h),h.k3,h.n4.keepN a (fun _ h=>h),h.k4⟩
theorem wg.lt{r:Nd (T m)}(h:wg S w m rb r c0 v3 v4):rb<w.heap.size:=(Array.getElem?_eq_some_iff.1 h.box).1
theorem wg.cells {r:Nd (T m)} (h:wg S w m rb r c0 v3 v4) :
  (w.cell? ⟨rb,1,Zn⟩=Zo (Zi Zk r.num)/\w.cell? ⟨rb,2,Zn⟩=Zo (Zt r.text)/\w.cell? ⟨rb,3,Zn⟩=Zo v3/\w.cell? ⟨rb,4,Zn⟩=Zo v4) /\
  (w.frozen? ⟨rb,1,Zn⟩=false/\w.frozen? ⟨rb,2,Zn⟩=false/\w.frozen? ⟨rb,3,Zn⟩=false/\w.frozen? ⟨rb,4,Zn⟩=false):=by have:=h.box;refine⟨⟨?_,?_,?_,?_⟩,?_,?_,?_,?_⟩<;>simp[World.cell?,World.frozen?,this]
theorem lI{i:Nat}{cs:Array Zv}(h:w.heap[b]?=Zo (Zc cs t z))(v:Zv):(w.setCell ⟨b,i,Zn⟩ v).heap[b]?=Zo (Zc (cs.setIfInBounds i v) t z):=by simp[World.setCell,Array.getElem?_modify,h]
def gW(S:ZP)(m b:Nat)(n r:Nd (T m))(c0:Zv)(p:UInt8)(w:Zw)(e:Ending)(w':Zw):Prop:=
 b8 b w w' /\ ((∃a v3 v4,jW (jM m) n r p=Zo a/\e=Zr (Zb true)/\wg S w' m b a c0 v3 v4)∨(jW (jM m) n r p=Zn/\e=Zr (Zb false)))
theorem fT.op:∀ {m:Nat} {t:T m} {c0 c1 c2 c3 c4:Zv},fT S w m t c0 c1 c2 c3 c4->c0=Zi Zk (nj m t):=by
 intro m;cases m with
 | zero=>intro t c0 c1 c2 c3 c4 h;exact h.elim
 | succ m=>intro t c0 c1 c2 c3 c4 h;exact h.1
theorem nC (t:TypeId) (sz:Nat) (d:P.underlying t=Zo (.slice (P.elem t))) (b:∀ W,(sizeOf (P.elem t)).run P W=.ok sz W) (a:ZO) (n c:Nat) (h:1<=n) (W:Zw) :
  (Instr.slice t (Zs a n c) (Zo (Zi Zk 1)) Zn Zn).run P W=.ok (sliced a 1 n c sz) W:=by rw[run_slice_l W t a n c d Zk 1 om om,b];rfl
theorem rX (S:ZP) (m:Nat) (p:UInt8) (I:p=86∨p=65) (d:Nat) (n r:Nd (T m)) (c0 v3 v4:Zv) (w:Zw) (i:wg S w m d r c0 v3 v4) (D:∀ b,S b->b<w.heap.size/\b≠d) :
  Calls prog 185 #[Zp (Zo ⟨d,0,Zn⟩),Zi .i32 (p.toNat:Int)] w (gW S m d n r c0 p w):=by
 obtain⟨⟨-,-,-,N⟩,-,-,-,f4⟩:=i.cells;have o:=i.lt;obtain⟨ka,kl,L,K,u⟩:=i.k4;subst K;obtain⟨aa,M,hv,hl,E⟩:=id i.n4;cases hv
 cases hks:r.kids with
 | nil=>have B:Hid (gW S m d n r c0 p w (Zr (Zb false)) w):=⟨b8.refl _ _,.inr ⟨Cr _ n r I hks,rfl⟩⟩;rw[hks]at N;clear i E D;go_in;go_wp2;go_ret;exact B.out
 | cons a q=>
  obtain⟨b,off,rfl,ad,g⟩:=E (by rw[hks];simp);obtain⟨d0,d1,d2,d3,d4,e0,e1,e2,e3,e4,F⟩:=g 0 (by rw[hks];simp);obtain⟨k,V,X,Y,xl,Z,ya,yl,yc,rfl,rfl,rfl,rfl,rfl⟩:=F.shape;simp only[Nat.zero_mul,Nat.add_zero]at e0 e1 e2 e3 e4;have t:k=nj m a:=by
   have O:=F.op;have h2:r.kids[0]'(by rw[hks];simp)=a:=by simp[hks]
   rw[h2]at O;exact (Value.int.inj O).2
  have H:1<=r.kids.length:=by rw[hks];simp
  clear E g F;generalize G:r.kids.length=kn at *;have af:((kn:Int)==0)=false:=zE;have J:=nC (P:=prog) 38 5 underlying38 (fun _=>by simp[go_sem]) (Zo ⟨b,off,Zn⟩) kn L H;have s:ik S w (fT S w m) q (sliced (Zo ⟨b,off,Zn⟩) 1 kn L 5):=by have Q:=i.n4;rw[hks]at Q;exact Q.tail u
  obtain⟨v,y,x,z⟩:∃v y x,sliced (Zo ⟨b,off,Zn⟩) 1 kn L 5=Zs v y x:=⟨_,_,_,rfl⟩;have f:mn (Zs v y x):=by rw[<- z];exact⟨_,_,_,rfl,om⟩
  rw[z]at J s;have l:=(Below.refl w.heap.size w).alloc (Nat.le_refl _) (Zc #[Zi Zk k,Zi Zk V,Zt X,Zs Y xl Z,Zs ya yl yc] 40);obtain⟨W,A⟩:=ii ((w.setCell ⟨d,4,Zn⟩ (Zs v y x)).alloc (Zc #[Zi Zk k,Zi Zk V,Zt X,Zs Y xl Z,Zs ya yl yc] 40));have c:b8 d w W:=by rw[A];exact (b8.set d 4 _ _).trans (b8.alloc _ _ _)
  have j:wg S W m d ⟨r.sort,r.num,r.text,r.names,q⟩ c0 v3 (Zs v y x):=by have U:=c.same D;refine⟨?_,i.n3.keep U (fun _ h=>h),i.k3,s.keepN U (fun _ h=>h),f⟩;rw[A];exact (Below.heap_alloc _ _ _ (by simpa using o)).trans (lI i.box _)
  have HC:Hid (∀w,Calls prog 37 #[Zi Zk k] w _):=fun w=>nt k w;have B:Hid (∀C,C=W->gW S m d n r c0 p w (Zr (Zb (rF k==(p.toNat:Int)))) C):=by
   intro C e;subst e;refine⟨c,?_⟩;by_cases h:jM m a=(p.toNat:Int)
   ·refine .inl ⟨_,_,_,(vQ _ n r I hks).trans (if_pos h),?_,j⟩;have:rF k=(p.toNat:Int):=by rw[t];exact h
    rw[this];simp
   ·refine .inr ⟨(vQ _ n r I hks).trans (if_neg h),?_⟩;have:¬rF k=(p.toNat:Int):=by rw[t];exact h
    simp[this]
  have ac:=kC l N o;have ab:=(l.frozen (p:=⟨d,4,Zn⟩) o).trans f4;have R:w.heap.size≠d:=om;have ae:=a7 z;have HW:=a7 A;clear i hks G t s f j c l z A D;go_in;go_wp2_with fail;refine (HC.out _).mono ?_;rintro e w1 ⟨rfl,rfl⟩;go_wp2;go_ret;exact B.out _ HW.out.symm
theorem GD (t:TypeId) (sz:Nat) (e:P.underlying t=Zo (.slice (P.elem t))) (d:∀ W,(sizeOf (P.elem t)).run P W=.ok sz W) (a:ZO) (n c:Nat) (k:Int) (b:0<=k) (h:k<=c) (W:Zw) :
  (Instr.slice t (Zs a n c) Zn (Zo (Zi Zk k)) Zn).run P W=.ok (sliced a 0 k.toNat c sz) W:=by rw[run_slice_h W t a n c e Zk k b h,d];rfl
theorem D7(h:fL S w l (Zs ao l.length cap))(k:Nat)(d:k<=l.length):fL S w (l.take k) (sliced ao 0 k cap 1):=by
 have c:=h.take k d;unfold sliced;have e:(if cap=0 then ao else ao.map (·.add (0*1)))=ao:=by
  split;·rfl
  ·cases ao with
   | none=>rfl
   | some a=>obtain⟨b,o,s⟩:=a;cases s<;>simp[Addr.add]
 rw[e,Nat.sub_zero,Nat.sub_zero];exact c
theorem qZ (S:ZP) (m:Nat) (p:UInt8) (hp:p=78∨p=88) (bk f:Nat) (n r:Nd (T m)) (c0 v3 v4 J:Zv) (w:Zw) (l:wg S w m f r c0 v3 v4) (G:∀ b,S b->b<w.heap.size/\b≠f)
  (x:lg w bk) (Z:bk≠f) (g:fL S w n.names J) (M:mn J) (V:r.names.length<=n.names.length) :
  Calls prog 184 #[Zp (Zo ⟨bk,0,Zn⟩),Zp (Zo ⟨f,0,Zn⟩),Zi .i32 (p.toNat:Int),J] w (gW S m f n r c0 p w):=by
 obtain⟨⟨-,-,g3,-⟩,-,-,f3,-⟩:=l.cells;have X:=l.lt;obtain⟨ka,kl,kc,af,B⟩:=l.k3;subst af;obtain⟨ai,ag,hv,hl,F,O⟩:=id l.n3;cases hv
 obtain⟨aa,al,ac,N,Q⟩:=M;subst N;obtain⟨_,_,ae,U,-,-⟩:=id g;cases ae
 cases hks:r.names with
 | nil=>have H:Hid (gW S m f n r c0 p w (Zr (Zb false)) w):=⟨b8.refl _ _,.inr ⟨zw _ n r hp hks,rfl⟩⟩;rw[hks]at g3;clear l O G g;go_in;go_wp2;go_ret;exact H.out
 | cons a q=>
  obtain⟨b,off,rfl,K,j⟩:=O (by rw[hks];simp);have e0:=j 0 (by rw[hks];simp);have h2:r.names[0]'(by rw[hks];simp)=a:=by simp[hks]
  rw[h2,Nat.add_zero]at e0;have E:a.size<=maxLen:=F a (by rw[hks];exact List.mem_cons_self ..);have Y:1<=r.names.length:=by rw[hks];simp
  have ab:r.names.length=q.length+1:=by rw[hks];simp
  clear O j h2;have y:fL S w q (sliced (Zo ⟨b,off,Zn⟩) 1 r.names.length kc 1):=by have h4:=l.n3;rw[hks]at h4;have:=h4.tail (by rw[<- hks];exact B);rw[hks];exact this
  have c:=D7 g (n.names.length-(q.length+1)) om;generalize R:r.names.length=kn at *;generalize v:n.names.length=an at *;have ah:((kn:Int)==0)=false:=zE;have ad:=nC (P:=prog) 23 1 underlying23 (fun _=>by simp[go_sem]) (Zo ⟨b,off,Zn⟩) kn kc Y;have u:=GD (P:=prog) 23 1 underlying23 (fun _=>by simp[go_sem]) aa an ac ((an:Int)-(kn:Int)) om om;have C:((an:Int)-(kn:Int)).toNat=an-(q.length+1):=om;rw[C]at u;obtain⟨o,t,s,L⟩:∃o t s,sliced (Zo ⟨b,off,Zn⟩) 1 kn kc 1=Zs o t s:=⟨_,_,_,rfl⟩;obtain⟨ua,un,uc,hU⟩:∃o t s,sliced aa 0 (an-(q.length+1)) ac 1=Zs o t s:=⟨_,_,_,rfl⟩;have i:mn (Zs o t s):=by rw[<- L];exact⟨_,_,_,rfl,om⟩
  rw[L]at ad y;rw[hU]at u c;have I:Hid (∀k,b8 f w ((w.drewN k).setCell ⟨f,3,Zn⟩ (Zs o t s))/\wg S ((w.drewN k).setCell ⟨f,3,Zn⟩ (Zs o t s)) m f ⟨r.sort,r.num,r.text,q,r.kids⟩ c0 (Zs o t s) v4):=by intro k;have z:Bw w (w.drewN k):=⟨rfl,rfl,rfl,Nat.le_refl _,fun _ _=>rfl⟩;have d:b8 f w ((w.drewN k).setCell ⟨f,3,Zn⟩ (Zs o t s)):=(b8.of_below z).trans (b8.set f 3 _ _);have hs:=d.same G;exact⟨d,lI ((z.block f X).trans l.box) _,y.keep hs (fun _ h=>h),i,l.n4.keepN hs (fun _ h=>h),l.k4⟩
  have HC:Hid (∀W,b8 f w W->Calls prog 210 #[Zp (Zo ⟨bk,0,Zn⟩),Zi .i32 (p.toNat:Int),Zt a,Zs ua un uc] W fun e w'=>e=Zr (Zb (iY p a (n.names.take (an-(q.length+1)))))/\w'=W):=by
   intro W hW;have A:bk<w.heap.size:=by have:=(x 0 om).1;exact Classical.byContradiction fun aj=>by have h0:w.heap[bk]?=Zn:=Array.getElem?_eq_none om;simp[World.cell?,h0]at this
   exact wF S bk p a _ _ W E (x.keep (hW.block bk A Z)) (c.keep (hW.same G) (fun _ h=>h))
  have H:Hid (∀W,b8 f w W->wg S W m f ⟨r.sort,r.num,r.text,q,r.kids⟩ c0 (Zs o t s) v4->gW S m f n r c0 p w (Zr (Zb (iY p a (n.names.take (an-(q.length+1)))))) W):=by
   intro W d D;refine⟨d,?_⟩;cases h:iY p a (n.names.take (an-(q.length+1))) with
   | true=>exact .inl ⟨_,_,_,(qi _ n r hp hks).trans (if_pos (by rw[v];exact h)),rfl,D⟩
   | false=>exact .inr ⟨(qi _ n r hp hks).trans (if_neg (by rw[v,h];decide)),rfl⟩
  generalize iY p a (n.names.take (an-(q.length+1)))=ok at *;unfold maxLen at U hl;clear l hks R v y i c L hU G g x C ab F V K E;go_in;go_wp2_with fail;go_quiet (fail);go_wp2_with fail;refine (HC.out _ (I.out _).1).mono ?_;rintro e w1 ⟨rfl,rfl⟩;clear HC;go_wp2;go_ret;exact H.out _ (I.out _).1 (I.out _).2
theorem rT (S:ZP) (l:List ZN) (i:Nat) (hi:i<l.length) (v:Zv) (w:Zw) (u:fL S w (l.take i) v) (x:l[i].size<=maxLen) :
  Calls prog 209 #[Zt l[i],v] w fun e A=>e=Zr (Zb (kJ l i))/\A=w:=by
 obtain⟨p,cap,rfl,f,-,n⟩:=u;have j:(l.take i).length=i:=zE;rw[j]at f ⊢;unfold maxLen at f;have h:l.getD i ByteArray.empty=l[i]:=by simp[List.getD,hi]
 have g:Hid (kJ l i=(gj l[i] && (i==0 || kN (l.getD (i-1) ByteArray.empty) l[i]) && !(l[i]==bs [101,110,100]))):=by show _=_;unfold kJ i8;rw[h]
 have a:=a7 (kV l[i] w x);have B:=px l[i] [101,110,100];have d:0<i->∃b off,p=Zo ⟨b,off,Zn⟩/\w.cell? ⟨b,off+(i-1),Zn⟩=Zo (Zt (l.getD (i-1) ByteArray.empty)):=fun k=>by obtain⟨b,off,q,-,c⟩:=n (by intro e;have:=congrArg List.length e;rw[j]at this;simp at this;omega);refine⟨b,off,q,?_⟩;have:=c (i-1) om;rw[this];have t:i-1<l.length:=om;simp[List.getD,t]
 clear n h;generalize l[i]=s at *;generalize l.getD (i-1) ByteArray.empty=z at *;generalize (s==bs [101,110,100])=b1 at *;clear hi;cases hn:gj s with
 | false=>rw[hn]at a g;go_in;go_wp2_with fail;refine a.out.mono ?_;rintro e w1 ⟨rfl,rfl⟩;go_wp2;go_ret;exact⟨b6 (by rw[g.out];rfl),rfl⟩
 | true=>
  rw[hn]at a g;cases b1 with
  | true=>go_in;go_wp2_with fail;refine a.out.mono ?_;rintro e w1 ⟨rfl,rfl⟩;go_wp2;go_ret;exact⟨b6 (by rw[g.out];simp),rfl⟩
  | false=>
   rcases Nat.eq_zero_or_pos i with k|k;·subst k;go_in;go_wp2_with fail;refine a.out.mono ?_;rintro e w1 ⟨rfl,rfl⟩;go_wp2;go_ret;exact⟨b6 (by rw[g.out];rfl),rfl⟩
   ·obtain⟨b,off,rfl,c⟩:=d k;have C:((i:Int)==0)=false:=zE;have m:(i==0)=false:=zE;rw[m]at g;have r:((i:Int)-1).toNat=i-1:=om;have o:Hid (kN z s=Op.bytesLess z.toList s.toList):=rfl;clear m d;generalize y:Op.bytesLess z.toList s.toList=lt at *;go_in;go_wp2_with fail;refine a.out.mono ?_;rintro e w1 ⟨rfl,rfl⟩;go_wp2;go_ret;exact⟨b6 (by rw[g.out,o.out];simp),rfl⟩
theorem uB (S:ZP) (m:Nat) (n:Nd (T m)) (v3 v4:Zv) (w:Zw) (v:fL S w n.names v3) (A:mn v3) (N:ik S w (fT S w m) n.kids v4) :
  Calls prog 183 #[v3,v4] w fun e E=>e=Zr (Zb (iH (jM m) n))/\E=w:=by
 obtain⟨na,nl,K,rfl,H⟩:=A;obtain⟨_,_,R,C,t,j⟩:=id v;cases R
 obtain⟨ka,kc,rfl,D,g⟩:=N;by_cases l:n.names.length=n.kids.length;case neg=>
  have Q:((n.names.length:Int)==(n.kids.length:Int))=false:=zE;have q:Hid (iH (jM m) n=false):=by
   show _=_;unfold iH;have:(n.names.length==n.kids.length)=false:=by simp[l]
   rw[this];rfl
  clear g j v;go_in;go_wp2;go_ret;exact⟨b6 q.out.symm,rfl⟩
 have q:Hid (iH (jM m) n=iN (jM m) n n.names.length):=by
  show _=_;unfold iH;have:(n.names.length==n.kids.length)=true:=by simp[l]
  rw[this];rfl
 have B:((n.names.length:Int) != (n.kids.length:Int))=false:=by simp[l]
 have z:Hid (∀(k:Nat)(y:k<n.names.length),Calls prog 209 #[Zt n.names[k],Zs na k K] w fun e E=>e=Zr (Zb (kJ n.names k))/\E=w):=by intro k y;exact rT S n.names k y _ w (v.take k om) (t _ (Zg y))
 have G:Hid (∀x w,Calls prog 37 #[Zi Zk x] w _):=fun x w=>nt x w;unfold maxLen at C D;have I:n.names.length<=n.kids.length:=om;have J:n.kids.length<=n.names.length:=om;clear v t l;go_in;go_wp2_with fail;clear B;go_loop [14] (fun i=>∃k:Nat,k<=n.names.length/\i=Zi Zk k/\Hid (iN (jM m) n k=true)) (fun i=>n.names.length-(intOf i).toNat);case atStart=>exact⟨0,Nat.zero_le _,rfl,rfl⟩
 case round=>
  obtain⟨k,y,rfl,u⟩:=hrel;by_cases f:k<n.names.length
  ·obtain⟨b,off,rfl,-,d⟩:=j (by intro h;rw[h]at f;simp at f);have e0:=d k f;obtain⟨U,L,rfl,-,a⟩:=g (by intro h;have:=List.length_eq_zero_iff.2 h;omega);obtain⟨V,W,X,Y,Z,k0,-,-,-,-,r⟩:=a k om;obtain rfl:=r.op;have c:=a7 (z.out k f);have P:(k:Int)<=(K:Int):=om;have o:Hid (iN (jM m) n (k+1)=(kJ n.names k && (rF (nj m (n.kids[k]'om))==86))):=by show _=_;rw[o9,u.out];have O:k<n.kids.length:=om;simp[List.getD,O,jM]
   have F:Hid (iN (jM m) n (k+1)=false->iN (jM m) n n.names.length=false):=by intro h;refine s7 _ _ k f ?_;rw[o9,u.out]at h;simpa using h
   clear j g d a z r;have p:(k:Int)<(n.kids.length:Int):=om;generalize nj m (n.kids[k]'om)=op at *;generalize n.names[k]=s at *;cases hf:kJ n.names k with
   | false=>rw[hf]at c o;go_wp2_with fail;refine c.out.mono ?_;rintro e w1 ⟨rfl,rfl⟩;go_wp2;go_ret;exact⟨b6 (by rw[q.out,F.out (by rw[o.out];rfl)]),rfl⟩
   | true=>
    rw[hf]at c o;cases hpo:(rF op==86) with
    | true=>
     rw[hpo]at o;go_wp2_with fail;refine c.out.mono ?_;rintro e w1 ⟨rfl,rfl⟩;go_wp2_with fail;refine (G.out _ _).mono ?_;rintro e w1 ⟨rfl,rfl⟩;go_wp2;go_round;case rel=>exact⟨k+1,om,by go_num,o⟩
     case measure=>simp[intOf];omega
    | false=>rw[hpo]at o;go_wp2_with fail;refine c.out.mono ?_;rintro e w1 ⟨rfl,rfl⟩;go_wp2_with fail;refine (G.out _ _).mono ?_;rintro e w1 ⟨rfl,rfl⟩;go_wp2;go_ret;exact⟨b6 (by rw[q.out,F.out (by rw[o.out];rfl)]),rfl⟩
  ·have p:k=n.names.length:=by omega
   have M:Hid (iH (jM m) n=true):=by show _=_;rw[q.out,<- p,u.out]
   clear p j g z u;go_wp2;go_ret;exact⟨b6 M.out.symm,rfl⟩
theorem pZ(k:Nat)(h:k<44):k=0∨k=1∨k=2∨k=3∨k=4∨k=5∨k=6∨k=7∨k=8∨k=9∨k=10∨k=11∨k=12∨k=13∨k=14∨k=15∨k=16∨k=17∨k=18∨k=19∨k=20∨k=21∨k=22∨k=23∨k=24∨k=25∨k=26∨k=27∨k=28∨k=29∨k=30∨k=31∨k=32∨k=33∨k=34∨k=35∨k=36∨k=37∨k=38∨k=39∨k=40∨k=41∨k=42∨k=43:=by omega
def IG(k:Nat):List UInt8:=(jr k).map (fun v=>if v=65 then 97 else 118)
def GS(k:Nat):Nat:=((iR k).filter (fun p=>p==78 || p==88)).length
def Af(k:Nat):Bool:=(iR k).contains 88
theorem wP(k:Nat)(a:k<44)(w:Zw):Calls prog 142 #[Zi Zk (k:Int)] w fun e b=>e=Zr (Zi Zk (GS k:Nat))/\b=w:=by
 rcases pZ k a with rfl|rfl|rfl|rfl|rfl|rfl|rfl|rfl|rfl|rfl|rfl|rfl|rfl|rfl|rfl|rfl|rfl|rfl|rfl|rfl|rfl|rfl|rfl|rfl|rfl|rfl|rfl|rfl|rfl|rfl|rfl|rfl|rfl|rfl|rfl|rfl|rfl|rfl|rfl|rfl|rfl|rfl|rfl|rfl;all_goals
  go_in
  go_wp2
  go_ret
  exact⟨fJ zC,rfl⟩
theorem wO(k:Nat)(a:k<44)(w:Zw):Calls prog 143 #[Zi Zk (k:Int)] w fun e b=>e=Zr (Zb (Af k))/\b=w:=by
 rcases pZ k a with rfl|rfl|rfl|rfl|rfl|rfl|rfl|rfl|rfl|rfl|rfl|rfl|rfl|rfl|rfl|rfl|rfl|rfl|rfl|rfl|rfl|rfl|rfl|rfl|rfl|rfl|rfl|rfl|rfl|rfl|rfl|rfl|rfl|rfl|rfl|rfl|rfl|rfl|rfl|rfl|rfl|rfl|rfl|rfl;all_goals
  go_in
  go_wp2
  go_ret
  exact⟨gb zC,rfl⟩
def xP(k:Nat):List UInt8:=if k=24 then [118,118] else IG k
theorem nX(k:Nat)(d:k<44)(w:Zw):Calls prog 91 #[Zi Zk (k:Int)] w fun e f=>e=Zr (Zt (bs (xP k)))/\f=w:=by
 have c:Hid (∀x a b w,Calls prog 58 #[Zi Zk x,Zi Zk a,Zi Zk b] w _):=fun x a b w=>iO x a b w;rcases pZ k d with rfl|rfl|rfl|rfl|rfl|rfl|rfl|rfl|rfl|rfl|rfl|rfl|rfl|rfl|rfl|rfl|rfl|rfl|rfl|rfl|rfl|rfl|rfl|rfl|rfl|rfl|rfl|rfl|rfl|rfl|rfl|rfl|rfl|rfl|rfl|rfl|rfl|rfl|rfl|rfl|rfl|rfl|rfl|rfl
 all_goals
  go_in
  go_wp2_with fail
  first
   | (go_ret;exact⟨jQ rfl,rfl⟩)
   | (refine (c.out _ _ _ _).mono ?_
      rintro e w1 ⟨rfl,rfl⟩
      go_wp2
      go_ret
      exact⟨jQ rfl,rfl⟩)
def xo(a:Bool)(l:List ZN)(i:Nat):Bool:=gj (l.getD i ByteArray.empty) && (!a || il (l.getD i ByteArray.empty)) && !(decide (0<i) && (l.getD i ByteArray.empty==l.getD 0 ByteArray.empty))
def kf(a:Bool)(l:List ZN)(j:Nat):Bool:=(List.range j).all (xo a l)
theorem DO(a:Bool)(l:List ZN)(k:Nat):kf a l (k+1)=(kf a l k && xo a l k):=by simp[kf,List.range_succ]
theorem AV(a:Bool)(l:List ZN)(k j:Nat)(h:k<j)(b:xo a l k=false):kf a l j=false:=by unfold kf;rw[List.all_eq_false];exact⟨k,List.mem_range.2 h,by simp[b]⟩
def oy{α:Type}(n:Nd α)(a:List UInt8):Bool:=
 match a with
 | [84]=>gM n.sort n.num n.text [] 0
 | [75]=>(n.num==0) && jV n.text
 | [35]=>decide (lst n.sort.toNat<=n.num/\n.num<=uu n.sort.toNat) && n.text.toList.isEmpty
 | [78,35]=>decide (lst n.sort.toNat<=n.num/\n.num<=uu n.sort.toNat) && n.text.toList.isEmpty
 | _=>(n.num==0) && n.text.toList.isEmpty
theorem C9(a:ZN)(h:il a=true):gj a=true:=by simp only[il,Zq]at h;exact h.1.1.1.1
theorem AX(b:Bool)(a:ZN):kf b [a] 1=(gj a && (!b || il a)):=by simp[kf,xo,List.range_succ]
theorem xp(a:ZN):(gj a && (!true || il a))=il a:=by
 cases h:il a with
 | false=>simp
 | true=>rw[C9 a h];rfl
theorem Jm(a b:ZN):kf true [a,b] 2=(il a && il b && !(b==a)):=by
 have e:kf true [a,b] 2=((gj a && (!true || il a)) && ((gj b && (!true || il b)) && !(b==a))):=by simp[kf,xo,List.range_succ]
 rw[e,xp,xp,Bool.and_assoc]
theorem Ie(n:Nd α)(k:Nat)(h:k<44)(f:k≠24):gr n (iR k)=((n.names.length==GS k) && kf (Af k) n.names n.names.length && oy n (iR k)):=by
 have i:∀g,kf g n.names 0=true:=fun _=>rfl;unfold GS Af;rcases (nx k h).resolve_left f with e|e|e|e|e|e|e|e;all_goals rw[e]
 ·cases hn:n.names with
  | nil=>simp[gr,oy,hn,kf]
  | cons a q=>simp[gr,hn];omega
 ·cases hn:n.names with
  | nil=>simp[gr,oy,hn,kf]
  | cons a q=>simp[gr,hn];omega
 ·cases hn:n.names with
  | nil=>simp[gr,oy,hn,kf]
  | cons a q=>simp[gr,hn];omega
 ·cases hn:n.names with
  | nil=>simp[gr,oy,hn,kf]
  | cons a q=>simp[gr,hn];omega
 ·match hn:n.names with
  | []=>simp[gr,hn]
  | [a]=>
   have d:kf (([88]:List UInt8).contains 88) [a] 1=il a:=by rw[AX];exact xp a
   simp only[gr,oy,hn,List.length_singleton];rw[show (List.filter (fun p:UInt8=>p==78 || p==88) [88]).length=1 from rfl,d];simp[Bool.and_comm]
  | a :: b :: q=>simp[gr,hn]
 ·match hn:n.names with
  | []=>simp[gr,hn]
  | [a]=>
   have d:kf (([78]:List UInt8).contains 88) [a] 1=gj a:=by rw[AX];simp
   simp only[gr,oy,hn,List.length_singleton];rw[show (List.filter (fun p:UInt8=>p==78 || p==88) [78]).length=1 from rfl,d];simp[Bool.and_comm]
  | a :: b :: q=>simp[gr,hn]
 ·match hn:n.names with
  | []=>simp[gr,hn]
  | [a]=>simp[gr,hn]
  | [a,b]=>have d:kf (([88,88]:List UInt8).contains 88) [a,b] 2=(il a && il b && !(b==a)):=Jm a b;simp only[gr,oy,hn,Zy,List.length_nil];rw[show (List.filter (fun p:UInt8=>p==78 || p==88) [88,88]).length=2 from rfl,d];simp[Bool.and_comm]
  | a :: b :: c :: q=>simp[gr,hn]
 ·match hn:n.names with
  | []=>simp[gr,hn]
  | [a]=>
   have d:kf (([78,35]:List UInt8).contains 88) [a] 1=gj a:=by rw[AX];simp
   simp only[gr,oy,hn,List.length_singleton];rw[show (List.filter (fun p:UInt8=>p==78 || p==88) [78,35]).length=1 from rfl,d];simp[Bool.and_comm]
  | a :: b :: q=>simp[gr,hn]
def iS{α:Type}(n:Nd α)(a:Bool):Bool:=
 decide (1<=n.sort/\n.sort<=43) && (a==decide (36<=n.sort)) &&
  (if n.sort=24 then (n.num==0) && n.text.toList.isEmpty && gX n.names && (n.names.length==n.kids.length) && !(n.names.any (fun y=>y==bs [101,110,100]))
   else (n.kids.length==(jr n.sort.toNat).length) && gr n (iR n.sort.toNat))
def im(k i:Nat):Bool:=decide (k≠24) && ((IG k).getD i 0==97)
theorem Gp(op:Int)(h:1<=op/\op<=43):rF op=if 36<=op then 65 else 86:=by
 unfold rF;rw[if_neg om];by_cases a:op<36;·rw[if_pos a,if_neg om]
 ·rw[if_neg a,if_pos om]
theorem AD (a:α->Int) (n:Nd α) (c:Bool) :
  (iS n c && (n.kids.zipIdx.all fun x=>a x.1==(if im n.sort.toNat x.2=true then 65 else 86)))=(gZ a n && (c==decide (36<=n.sort))):=by
 by_cases q:1<=n.sort/\n.sort<=43;case neg=>
  have j:iS n c=false:=by unfold iS;rw[decide_eq_false q];rfl
  have l:gZ a n=false:=by unfold gZ;rw[decide_eq_false q];rfl
  rw[j,l];rfl
 unfold iS;rw[decide_eq_true q,Bool.true_and];cases ha:(c==decide (36<=n.sort)) with
 | false=>simp
 | true=>
  rw[Bool.and_true,Bool.true_and];by_cases b:n.sort=24
  ·rw[if_pos b,lP a n b,b,show (24:Int).toNat=24 from rfl];have A:(n.kids.zipIdx.all fun x=>a x.1==(if im 24 x.2=true then 65 else 86))=n.kids.all (fun x=>a x==86):=by
    have:∀i,im 24 i=false:=fun i=>by simp[im]
    simp only[this];rw[Bool.eq_iff_iff,ZC,ZC];constructor;·intro h x g;obtain⟨i,hi,rfl⟩:=List.getElem_of_mem g;exact h (n.kids[i],i) (by rw[List.mem_zipIdx_iff_getElem?];simp[hi])
    ·intro h x g;have:=List.mem_zipIdx g;exact h x.1 (by rw[this.2.2];exact Zg _)
   rw[A];unfold iH;by_cases m:n.names.length=n.kids.length
   ·have f:(n.names.length==n.kids.length)=true:=by simp[m]
    rw[f];have z:iN a n n.names.length=(gX n.names && !(n.names.any (fun y=>y==bs [101,110,100])) && n.kids.all (fun x=>a x==86)):=by
     rw[Bool.eq_iff_iff];simp only[iN,gX,iP,Zq,ZC,List.mem_range,Bool.not_eq_true',List.any_eq_false,kJ];constructor
     ·intro h;refine⟨⟨fun i hi=>(h i hi).1.1,fun y C=>?_⟩,fun x g=>?_⟩;·obtain⟨i,hi,rfl⟩:=List.getElem_of_mem C;have:=(h i hi).1.2;simp only[List.getD_eq_getElem?_getD,List.getElem?_eq_getElem hi,Option.getD_some]at this;rw[this];decide
      ·obtain⟨i,hi,rfl⟩:=List.getElem_of_mem g;have:=(h i om).2;simpa [List.getD_eq_getElem?_getD,hi] using this
     ·rintro ⟨⟨j,l⟩,w⟩ i hi;have p:i<n.kids.length:=om;refine⟨⟨j i hi,?_⟩,?_⟩;·have:=l n.names[i] (Zg hi);simp only[List.getD_eq_getElem?_getD,List.getElem?_eq_getElem hi,Option.getD_some];simpa using this
      ·have:=w n.kids[i] (Zg p);simpa [List.getD_eq_getElem?_getD,p] using this
    rw[z];cases (n.num==0)<;>cases n.text.toList.isEmpty<;>cases gX n.names<;>cases (n.names.any (fun y=>y==bs [101,110,100]))<;>cases n.kids.all (fun x=>a x==86)<;>rfl
   ·have f:(n.names.length==n.kids.length)=false:=by simp[m]
    rw[f];simp
  ·rw[if_neg b,la a n q.1 q.2 b];have u:n.sort.toNat<44:=om;have o:n.sort.toNat≠24:=om;generalize n.sort.toNat=k at *;have r:((n.kids.length==(jr k).length) && (n.kids.zipIdx.all fun x=>a x.1==(if im k x.2=true then 65 else 86)))=decide (n.kids.map a=(jr k).map (fun v=>(v.toNat:Int))):=by
    have d:∀i (h:i<(jr k).length),(if im k i=true then (65:Int) else 86)=(((jr k)[i]).toNat:Int):=by
     intro i hi;have B:=pV k _ (Zg hi);have s:(IG k).getD i 0=if (jr k)[i]=65 then 97 else 118:=by unfold IG;simp[List.getD_eq_getElem?_getD,hi]
     unfold im;rw[s,decide_eq_true o];rcases B with e|e<;>rw[e]<;>rfl
    rw[Bool.eq_iff_iff,decide_eq_true_eq,Zq,ZC,beq_iff_eq];constructor
    ·rintro ⟨m,h⟩;apply List.ext_getElem;·simpa using m
     ·intro i j l;simp only[List.length_map]at j l;have:=h (n.kids[i],i) (by rw[List.mem_zipIdx_iff_getElem?];simp[j]);simp only[beq_iff_eq]at this;rw[List.getElem_map,List.getElem_map,this,d i l]
    ·intro h;have m:n.kids.length=(jr k).length:=by simpa using congrArg List.length h
     refine⟨m,fun x g=>?_⟩;have s:=List.mem_zipIdx g;have hi:x.2<n.kids.length:=om;have e:(n.kids.map a)[x.2]?=((jr k).map (fun v=>(v.toNat:Int)))[x.2]?:=by rw[h]
     simp only[List.getElem?_map,List.getElem?_eq_getElem hi,List.getElem?_eq_getElem (show x.2<(jr k).length by omega),Option.map_some,Option.some.injEq]at e;have t:x.1=n.kids[x.2]:=by simpa using s.2.2
     rw[t,e,d x.2 om];simp
   rw[<- r];cases (n.kids.length==(jr k).length)<;>cases gr n (iR k)<;>simp
def kO:(m:Nat)->T m->Bool->Int->Bool
 | 0,_,_,_=>false
 | m+1,t,act,d=>decide (d<=24) && iS (show Nd (T m) from t) act && ((Nd.kids t).zipIdx.all fun x=>kO m x.1 (im (Nd.sort t).toNat x.2) (d+1))
theorem FN:∀(m:Nat)(t:T m)(a:Bool)(d:Int),kO m t a d=(gp m t d && (a==decide (36<=nj m t))):=by
 intro m;induction m with
 | zero=>intro t a d;rfl
 | succ m o=>
  intro t a d;obtain⟨n,j⟩:∃n:Nd (T m),n=t:=⟨t,rfl⟩;have p:kO (m+1) t a d=(decide (d<=24) && iS n a && (n.kids.zipIdx.all fun x=>kO m x.1 (im n.sort.toNat x.2) (d+1))):=by rw[j];rfl
  have q:gp (m+1) t d=(decide (d<=24) && gZ (jM m) n && n.kids.all (fun k=>gp m k (d+1))):=by rw[j];rfl
  have r:nj (m+1) t=n.sort:=by rw[j];rfl
  rw[p,q,r];have v:=AD (jM m) n a;have g:(n.kids.zipIdx.all fun x=>kO m x.1 (im n.sort.toNat x.2) (d+1))=(n.kids.all (fun k=>gp m k (d+1)) && (n.kids.zipIdx.all fun x=>im n.sort.toNat x.2==decide (36<=nj m x.1))):=by
   rw[Bool.eq_iff_iff,Zq,ZC,ZC,ZC];constructor
   ·intro h;refine⟨fun k g=>?_,fun x b=>?_⟩;·obtain⟨i,hi,rfl⟩:=List.getElem_of_mem g;have:=h (n.kids[i],i) (by rw[List.mem_zipIdx_iff_getElem?];simp[hi]);rw[o,Zq]at this;exact this.1
    ·have:=h x b;rw[o,Zq]at this;exact this.2
   ·rintro ⟨s,u⟩ x b;rw[o,Zq];have:=List.mem_zipIdx b;exact⟨s x.1 (by rw[this.2.2];exact Zg _),u x b⟩
  have y:(n.kids.all (fun k=>gp m k (d+1)) && (n.kids.zipIdx.all fun x=>im n.sort.toNat x.2==decide (36<=nj m x.1)))=(n.kids.all (fun k=>gp m k (d+1)) && (n.kids.zipIdx.all fun x=>jM m x.1==(if im n.sort.toNat x.2=true then 65 else 86))):=by
   cases hg:n.kids.all (fun k=>gp m k (d+1)) with
   | false=>rfl
   | true=>
    rw[Bool.true_and,Bool.true_and,Bool.eq_iff_iff,ZC,ZC];rw[ZC]at hg;have e:∀x,x∈n.kids.zipIdx->((im n.sort.toNat x.2==decide (36<=nj m x.1))=true↔(jM m x.1==(if im n.sort.toNat x.2=true then 65 else 86))=true):=by
     intro x b;have w:=List.mem_zipIdx b;have c:=hg x.1 (by rw[w.2.2];exact Zg _);have z:1<=nj m x.1/\nj m x.1<=43:=by
      cases m with
      | zero=>simp[gp]at c
      | succ m=>simp only[gp,Zq]at c;have:=c.1.2;unfold gZ at this;simp only[Zq,decide_eq_true_eq]at this;exact this.1
     have l:=Gp _ z;unfold jM;rw[l];cases im n.sort.toNat x.2<;>by_cases f:36<=nj m x.1<;>simp[f]
    exact⟨fun h x b=>(e x b).1 (h x b),fun h x b=>(e x b).2 (h x b)⟩
  rw[g,y];cases decide (d<=24) with
  | false=>rfl
  | true=>rw[Bool.true_and,Bool.true_and];rw[<- Bool.and_assoc,Bool.and_comm (iS n a),Bool.and_assoc,v];cases gZ (jM m) n<;>cases n.kids.all (fun k=>gp m k (d+1))<;>cases (a==decide (36<=n.sort))<;>rfl
end Go.Proofs.YtcfojmaccikgeaaGreatDoor
