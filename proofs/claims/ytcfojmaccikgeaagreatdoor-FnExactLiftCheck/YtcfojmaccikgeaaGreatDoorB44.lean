import Derived.Test.YtcfojmaccikgeaaGreatDoorB43
import Derived.Laws.EntriesVeiled
open Go.Value renaming slice→Zs,int→Zi,pointer→Zp,agg→Za
open Go.IntKind renaming i64→Zk
open Go.Obj renaming cells→Zc
open Option renaming none→Zn,some→Zo
open Go renaming World→Zw,Value→Zv
open List renaming length_cons→Zy
namespace Go.Proofs.YtcfojmaccikgeaaGreatDoor
open Go.RowKit Go.Proofs.Tryz
set_option maxRecDepth 100000
set_option maxHeartbeats 16000000
variable {k s q n:Nat} {mv v wv f g:Zv} {d d':Wd} {V:Zw} {x y:Operand} {ts:Array TypeId} {α:Type}
def lS(v:Zv):Prop:=∃c a b,v=.func c a b
def Jz(v:Zv):Prop:=∃x n c,v=Zs x n c
def JM(B:Nat)(d:Md)(v:Zv)(W:Zw):Prop:=lS v/\∀a,Bw W a->kG (pN B a) a (Zo d) v
def JW(B:Nat)(d:Wd)(v:Zv)(W:Zw):Prop:=lS v/\∀a,Bw W a->kI (pN B a) a d v
def JS(B:Nat)(ds:List Wd)(v:Zv)(W:Zw):Prop:=Jz v/\∀a,Bw W a->lx (pN B a) a (kI (pN B a) a) ds v
def CD(k:Nat)(mv:Zv):Prop:=match iT k with|Zo _=>lS mv|Zn=>mv=.nilFunc
theorem CD.or(h:CD k mv):lS mv∨mv=.nilFunc:=by
 unfold CD at h;split at h;·exact .inl h
 ·exact .inr h
def JR(B k:Nat)(v:Zv)(W:Zw):Prop:=∃b mv,v=Za #[b,mv]/\Jz b/\CD k mv/\∀a,Bw W a->kQ (pN B a) a k b mv
theorem gn{a b c:Zw}(d:Bw a b)(e:Bw b c):Bw a c:=d.trans (e.mono d.size)
theorem JM.on{B:Nat}{d:Md}{W:Zw}(h:JM B d v W)(c:Bw W V):JM B d v V:=⟨h.1,fun a b=>h.2 a (gn c b)⟩
theorem JW.on{B:Nat}{W:Zw}(h:JW B d v W)(c:Bw W V):JW B d v V:=⟨h.1,fun a b=>h.2 a (gn c b)⟩
theorem JS.on{B:Nat}{d:List Wd}{W:Zw}(h:JS B d v W)(c:Bw W V):JS B d v V:=⟨h.1,fun a b=>h.2 a (gn c b)⟩
theorem JR.on{B:Nat}{W:Zw}(h:JR B k v W)(g:Bw W V):JR B k v V:=by obtain⟨i,mv,b,c,d,e⟩:=h;exact⟨i,mv,b,c,d,fun a f=>e a (gn g f)⟩
def kP(o:Oper)(a:Act)(W:Zw)(J:Zv->Zw->Prop)(c:Act)(b:Zw):Prop:=∃v,c=a.put o.dst v/\Bw W b/\J v b
section
variable {o:Oper} {a:Act} {W:Zw} {Q:Exit->Act->Zw->Prop} {J:Zv->Zw->Prop}
theorem k9(c:o.op=.move (.tmp s))(d:a.tmps.getD s undef=v)(b:J v W):Oper.wp prog o a W (kP o a W J) Q:=by
 unfold Oper.wp;have:a.eval (.tmp s)=v:=by simpa [Act.eval] using d
 simp[execOp,c,this];exact⟨v,rfl,Below.refl _ _,b⟩
theorem Ah(a:Jz wv)(b:lS mv∨mv=.nilFunc):prog.built 136 [(0,wv),(1,mv)]=Zo #[wv,mv]:=by
 obtain⟨x,n,c,rfl⟩:=a;rcases b with ⟨d,p,q,rfl⟩|rfl;·kernel_rfl
 ·kernel_rfl
theorem nU{B:Nat}(h:o.op=.build 136 #[(0,x),(1,y)])(j:a.eval x=wv)(hy:a.eval y=mv)(c:Jz wv)(d:CD k mv)(g:∀b,Bw W b->kQ (pN B b) b k wv mv):Oper.wp prog o a W (kP o a W (JR B k)) Q:=by
 have f:=Ah c d.or;have e:(Array.map (fun p:Nat×Operand=>match p with|(i,x)=>(i,a.eval x)) #[(0,x),(1,y)]).toList=[(0,wv),(1,mv)]:=by simp[j,hy]
 refine wp_build 136 #[(0,x),(1,y)] h ?_ ?_;·rw[e,f];rfl
 ·rw[e,f];exact⟨_,rfl,Below.refl _ _,wv,mv,rfl,c,d,g⟩
theorem Ku(a:lS f)(w:Zw):(Instr.buildSlice 132 1 #[(0,f)]).run prog w=.ok (Zs (Zo ⟨w.heap.size,0,Zn⟩) 1 1) (w.alloc (Zc #[f] 184)):=by obtain⟨b,p,q,rfl⟩:=a;kernel_rfl
theorem Kv(a:lS f)(b:lS g)(w:Zw):(Instr.buildSlice 132 2 #[(0,f),(1,g)]).run prog w=.ok (Zs (Zo ⟨w.heap.size,0,Zn⟩) 2 2) (w.alloc (Zc #[f,g] 184)):=by obtain⟨c,p,q,rfl⟩:=a;obtain⟨d,e,h,rfl⟩:=b;kernel_rfl
theorem Kw{h:Zv}(a:lS f)(b:lS g)(c:lS h)(w:Zw):(Instr.buildSlice 132 3 #[(0,f),(1,g),(2,h)]).run prog w=.ok (Zs (Zo ⟨w.heap.size,0,Zn⟩) 3 3) (w.alloc (Zc #[f,g,h] 184)):=by obtain⟨i,p,q,rfl⟩:=a;obtain⟨j,d,e,rfl⟩:=b;obtain⟨k,d,e,rfl⟩:=c;kernel_rfl
theorem Jr{B:Nat}{W a:Zw}{cs:Array Zv}{ds:List Wd}(e:B<=W.heap.size)(b:Below (W.alloc (Zc cs 184)).heap.size (W.alloc (Zc cs 184)) a)(l:ds.length<=1000)(j:∀i (h:i<ds.length),∃f,cs[i]?=Zo f/\kI (pN B a) a ds[i] f):lx (pN B a) a (kI (pN B a) a) ds (Zs (Zo ⟨W.heap.size,0,Zn⟩) ds.length ds.length):=by have k:=b.size;simp at k;have g:(W.alloc (Zc cs 184)).heap[W.heap.size]?=Zo (Zc cs 184 (0,0)):=heap_alloc_new _ _;refine⟨_,_,rfl,by unfold maxLen;omega,fun _=>⟨W.heap.size,0,rfl,⟨e,om⟩,fun i h=>?_⟩⟩;obtain⟨f,c,d⟩:=j i h;exact⟨f,kC b (mN g _ _ (by simpa using c)) zS,d⟩
theorem vy{B:Nat}(j:o.op=.buildSlice 132 1 #[(0,x)])(l:a.eval x=f)(c:JW B d f W)(g:B<=W.heap.size):Oper.wp prog o a W (kP o a W (JS B [d])) Q:=by
 unfold Oper.wp;have k:=Ku c.1 W;simp[execOp,j,l,k,Result.andThen];refine⟨_,rfl,gx _ _,⟨_,_,_,rfl⟩,fun e b=>?_⟩;exact Jr (ds:=[d]) g b zS fun i h=>by
  rcases i with _|i;·exact⟨f,rfl,c.2 e (gn (gx _ _) b)⟩
  ·simp at h
theorem qI{B:Nat}(m:o.op=.buildSlice 132 2 #[(0,x),(1,y)])(p:a.eval x=f)(hy:a.eval y=g)(j:JW B d f W)(k:JW B d' g W)(l:B<=W.heap.size):Oper.wp prog o a W (kP o a W (JS B [d,d'])) Q:=by
 unfold Oper.wp;have n:=Kv j.1 k.1 W;simp[execOp,m,p,hy,n,Result.andThen];refine⟨_,rfl,gx _ _,⟨_,_,_,rfl⟩,fun b c=>?_⟩;have e:=gn ((Below.refl W.heap.size W).alloc (Nat.le_refl _) _) c;exact Jr (ds:=[d,d']) l c zS fun i h=>by
  rcases i with _|_|i;·exact⟨f,rfl,j.2 b e⟩
  ·exact⟨g,rfl,k.2 b e⟩
  ·exfalso;simp only[Zy,List.length_nil]at h;omega
theorem vz{B:Nat}{z:Operand}{q:Zv}{b:Wd}(p:o.op=.buildSlice 132 3 #[(0,x),(1,y),(2,z)])(s:a.eval x=f)(hy:a.eval y=g)(t:a.eval z=q)(k:JW B d f W)(l:JW B d' g W)(m:JW B b q W)(n:B<=W.heap.size):Oper.wp prog o a W (kP o a W (JS B [d,d',b])) Q:=by
 unfold Oper.wp;have r:=Kw k.1 l.1 m.1 W;simp[execOp,p,s,hy,t,r,Result.andThen];refine⟨_,rfl,gx _ _,⟨_,_,_,rfl⟩,fun c j=>?_⟩;have e:=gn ((Below.refl W.heap.size W).alloc (Nat.le_refl _) _) j;exact Jr (ds:=[d,d',b]) n j zS fun i h=>by
  rcases i with _|_|_|i;·exact⟨f,rfl,k.2 c e⟩
  ·exact⟨g,rfl,l.2 c e⟩
  ·exact⟨q,rfl,m.2 c e⟩
  ·exfalso;simp only[Zy,List.length_nil]at h;omega
theorem pS{f:Nat}{xs:Array Operand}{args:Array Zv} (j:o.op=.call { callee:=.value (.func f),args:=xs,argTypes:=ts }) (k:xs.map a.eval=args) (i:(callFunc f args).run prog W=.ok (.enter f args) W) (h:Calls prog f args W fun e c=>∃v,e=.returned v/\Bw W c/\J v c):Oper.wp prog o a W (kP o a W J) Q:=by unfold Oper.wp;have b:(xs.map fun x=>a.eval x)=args:=k;simp[execOp,j,resolve,invoke,Act.eval,b,i,Deferred.ofValue];refine h.mono ?_;rintro e c ⟨v,rfl,g,d⟩;exact⟨v,rfl,g,d⟩
theorem BZ{b:Nat}{B:Nat}(j:o.op=.load 136 (.tmp s))(m:a.tmps.getD s undef=Zp (Zo ⟨b,0,Zn⟩))(t:W.cell? ⟨b,0,Zn⟩=Zo wv)(u:W.cell? ⟨b,1,Zn⟩=Zo mv)(r:Jz wv)(i:lS mv)(h:CD k mv)(g:∀d,Bw W d->kQ (pN B d) d k wv mv):Oper.wp prog o a W (kP o a W (JR B k)) Q:=by
 have e:a.eval (.tmp s)=Zp (Zo ⟨b,0,Zn⟩):=by simpa [Act.eval] using m
 obtain⟨x,n,c,rfl⟩:=r;obtain⟨f,p,q,rfl⟩:=i;have l:(execOp a.eval o).run prog W=.ok (.value (Za #[Zs x n c,.func f p q])) W:=by simp[execOp,j,e];go_simp
 unfold Oper.wp;rw[l];exact⟨_,rfl,Below.refl _ _,_,_,rfl,⟨_,_,_,rfl⟩,h,g⟩
def JI(B:Nat)(v:Zv)(W:Zw):Prop:=∃b,v=Zs (Zo ⟨b,0,Zn⟩) 2 2/\B<=b/\b<W.heap.size/\W.cell? ⟨b,0,Zn⟩=Zo (Zi Zk 1)/\W.cell? ⟨b,1,Zn⟩=Zo (Zi Zk 2)
theorem JI.on{B:Nat}{W:Zw}(h:JI B v W)(c:Bw W V):JI B v V:=by obtain⟨b,d,e,a,f,g⟩:=h;exact⟨b,d,e,Nat.lt_of_lt_of_le a c.size,kC c f a,kC c g a⟩
theorem Hm{B:Nat}(c:o.op=.buildSlice 223 2 #[(0,.const (Zi Zk 1)),(1,.const (Zi Zk 2))])(b:B<=W.heap.size):Oper.wp prog o a W (kP o a W (JI B)) Q:=by have d:(Instr.buildSlice 223 2 #[(0,Zi Zk 1),(1,Zi Zk 2)]).run prog W=.ok (Zs (Zo ⟨W.heap.size,0,Zn⟩) 2 2) (W.alloc (Zc #[Zi Zk 1,Zi Zk 2] 3)):=zK;unfold Oper.wp;simp[execOp,c,Act.eval,d,Result.andThen];exact⟨_,rfl,gx _ _,_,rfl,b,zS,by simp[go_sem],by simp[go_sem]⟩
theorem BX{B:Nat} (g:o.op=.call { callee:=.value (.func 121),args:=#[.const (Zi Zk (q:Int))],argTypes:=ts }) (f:B<=W.heap.size):Oper.wp prog o a W (kP o a W (JW B (.like q))) Q:=
 pS g (args:=#[Zi Zk (q:Int)]) (by simp[Act.eval]) (Tryz.call121 _ _) ((DI B q W f).mono fun e h ⟨p,b,c,d⟩=>⟨_,b,c,⟨_,_,_,rfl⟩,d.out⟩)
theorem FL{B:Nat} (g:o.op=.call { callee:=.value (.func 123),args:=#[.const (Zi Zk (q:Int))],argTypes:=ts }) (f:B<=W.heap.size):Oper.wp prog o a W (kP o a W (JM B (.kid q))) Q:=
 pS g (args:=#[Zi Zk (q:Int)]) (by simp[Act.eval]) (Tryz.call123 _ _) ((wL B q W f).mono fun e h ⟨p,b,c,d⟩=>⟨_,b,c,⟨_,_,_,rfl⟩,d.out⟩)
theorem Hn{B:Nat}{s:Int} (h:o.op=.call { callee:=.value (.func 119),args:=#[.const (Zi Zk s)],argTypes:=ts }) (g:B<=W.heap.size) (f:s≠5):Oper.wp prog o a W (kP o a W (JM B (.said s))) Q:=
 pS h (args:=#[Zi Zk s]) (by simp[Act.eval]) (Tryz.call119 _ _) ((D4 B s W g f).mono fun e i ⟨p,b,c,d⟩=>⟨_,b,c,⟨_,_,_,rfl⟩,d.out⟩)
theorem B0{B:Nat}{s:Int} (h:o.op=.call { callee:=.value (.func 120),args:=#[.const (Zi Zk s),.const (Zi Zk (q:Int))],argTypes:=ts }) (g:B<=W.heap.size) (f:s≠5):Oper.wp prog o a W (kP o a W (JM B (.wrap s q))) Q:=
 pS h (args:=#[Zi Zk s,Zi Zk (q:Int)]) (by simp[Act.eval]) (Tryz.call120 _ _) ((xL B s q W g f).mono fun e j ⟨p,i,b,c,d⟩=>⟨_,b,c,⟨_,_,_,rfl⟩,d.out⟩)
theorem Ho{B:Nat} (r:o.op=.call { callee:=.value (.func 116),args:=#[.tmp s],argTypes:=ts }) (t:JI B (a.tmps.getD s undef) W) (n:B<=W.heap.size):Oper.wp prog o a W (kP o a W (JW B (.sorts [1,2]))) Q:=by
 obtain⟨b,g,j,k,l,m⟩:=t;have q:a.eval (.tmp s)=Zs (Zo ⟨b,0,Zn⟩) 2 2:=by simpa [Act.eval] using g
 refine pS r (args:=#[Zs (Zo ⟨b,0,Zn⟩) 2 2]) (by simp[q]) (Tryz.call116 _ _) ((jL B [1,2] b 2 W j n zC k fun i h=>?_).mono fun e u ⟨p,c,d,f⟩=>⟨_,c,d,⟨_,_,_,rfl⟩,f.out⟩);rcases i with _|_|i;·simpa using l
 ·simpa using m
 ·exfalso;simp only[Zy,List.length_nil]at h;omega
end
theorem D1{B:Nat}{W:Zw}:lx (pN B W) W (kI (pN B W) W) [] (Zs Zn 0 0):=⟨Zn,0,rfl,by show (0:Nat)<=maxLen;unfold maxLen;omega,fun h=>absurd rfl h⟩
def JB(B:Nat)(v:Zv)(W:Zw):Prop:=∃cs:Array Zv,v=Za cs/\cs.size=88/\cs.all (·.oneCell')=true/\(∀o,Array.foldl (fun (cs:Array Zv) (x:Zv×Nat)=>cs.setIfInBounds (1+x.snd) x.fst) (Tryz.zeroCells141.setIfInBounds 0 (.map o)) (Array.zipIdx cs) 0 88=(#[Value.map o]++cs).push (Zi Zk 0))/\∀k,1<=k->k<44->∃b mv,cs[k*2]?=Zo b/\cs[k*2+1]?=Zo mv/\∀a,Bw W a->kQ (pN B a) a k b mv
theorem JB.on{B:Nat}{W:Zw}(h:JB B v W)(l:Bw W V):JB B v V:=by obtain⟨cs,d,e,f,i,g⟩:=h;refine⟨cs,d,e,f,i,fun k a b=>?_⟩;obtain⟨m,mv,x,y,z⟩:=g k a b;exact⟨m,mv,x,y,fun c j=>z c (gn l j)⟩
abbrev Jd:=Md ⊕ Wd ⊕ List Wd ⊕ Nat
abbrev Jd.M(d:Md):Jd:=.inl d
abbrev Jd.W(d:Wd):Jd:=.inr (.inl d)
abbrev Jd.S(d:List Wd):Jd:=.inr (.inr (.inl d))
abbrev Jd.I:Jd:=.inr (.inr (.inr 0))
abbrev Jd.B:Jd:=.inr (.inr (.inr 1))
abbrev Jd.R(k:Nat):Jd:=.inr (.inr (.inr (k+2)))
def Kg(X:Nat):Jd->Zv->Zw->Prop
 | .inl d=>JM X d
 | .inr (.inl d)=>JW X d
 | .inr (.inr (.inl d))=>JS X d
 | .inr (.inr (.inr 0))=>JI X
 | .inr (.inr (.inr 1))=>JB X
 | .inr (.inr (.inr (k+2)))=>JR X k
theorem Ja{X:Nat}{j:Jd}{W:Zw}(h:Kg X j v W)(a:Bw W V):Kg X j v V:=by
 rcases j with d|d|d|_|_|k;·exact JM.on h a
 ·exact JW.on h a
 ·exact JS.on h a
 ·exact JI.on h a
 ·exact JB.on h a
 ·exact JR.on h a
def Js:List Jd:=[.M (.leaf 1),.R 1,.M (.leaf 2),.R 2,.M (.leaf 3),.R 3,.R 4,.M (.said 6),.R 5,.M (.said 4),.R 6,.M (.wrap 6 0),.R 7,.M (.wrap 4 0),.R 8,.R 9,.R 10,.R 11,.R 12,.R 13,.I,.W (.sorts [1,2]),.W (.like 0),.S [.sorts [1,2],.like 0],.M (.leaf 3),.R 14,.W (.like 0),.S [.any,.like 0],.M (.leaf 3),.R 15,.R 16,.R 17,.W (.sorts [3]),.S [.sorts [3]],.M (.leaf 3),.R 18,.W (.sorts [3]),.W (.like 1),.S [.sorts [3],.any,.like 1],.M (.kid 1),.R 19,.M (.kid 1),.R 20,.W (.sorts [5]),.S [.sorts [5]],.R 21,.W (.sorts [5]),.S [.sorts [5]],.R 22,.W (.sorts [5]),.S [.sorts [5]],.R 23,.R 24,.W (.sorts [4]),.W (.sorts [1]),.S [.sorts [4],.sorts [1]],.R 25,.W (.sorts [4,2]),.S [.sorts [4,2]],.M (.leaf 1),.R 26,.W (.sorts [4,2]),.W (.like 0),.S [.sorts [4,2],.like 0],.M (.kid 0),.R 27,.W (.sorts [4,2]),.W (.sorts [1]),.W (.sorts [1]),.S [.sorts [4,2],.sorts [1],.sorts [1]],.M (.kid 0),.R 28,.W (.sorts [1]),.S [.sorts [1]],.M (.leaf 2),.R 29,.W (.sorts [2]),.S [.sorts [2]],.R 30,.W (.sorts [6]),.S [.sorts [6],.within],.M (.kid 1),.R 31,.W (.sorts [6]),.W (.like 1),.S [.sorts [6],.any,.like 1],.M (.kid 1),.R 32,.W (.sorts [4]),.S [.sorts [4]],.M (.wrap 4 1),.R 33,.W (.sorts [4]),.W (.sorts [3]),.S [.sorts [4],.sorts [3]],.M (.kid 0),.R 34,.W (.sorts [4]),.W (.like 1),.S [.sorts [4],.any,.like 1],.M (.kid 1),.R 35,.S [.sink],.R 38,.S [.sink],.R 39,.W (.sorts [3]),.S [.sorts [3]],.R 41,.W (.sorts [4]),.S [.sorts [4]],.R 43,.B]
def GU(p:ZP):ZP
 | 0=>True
 | n+1=>GU p n/\p n
theorem GU.get{p:ZP}:∀ {n:Nat},GU p n->∀i,i<n->p i:=by
 intro n;induction n with
 | zero=>intro _ i h;omega
 | succ n a=>
  intro h i hi;by_cases e:i=n;·subst e;exact h.2
  ·exact a h.1 i om
theorem GK{a:Array Oper}{R:Nat->Oper->Prop}(h:GU (fun i=>∀o,a[i]?=Zo o->R i o) n):∀i o,i<n->a[i]?=Zo o->R i o:=fun i o hi b=>h.get i hi o b
theorem BN{x:Option α}{o a:α}(c:x=Zo o)(b:x=Zo a):o=a:=Option.some.inj (c.symm.trans b)
theorem me{l:Array α}{e:α}(i:Nat)(h:l[i]?=Zo e):e∈l:=Array.mem_of_getElem? h
theorem nf(h:k<40):∀i,i<n->40+i≠k:=fun i _=>by omega
theorem xn(w:Zw):Calls prog 82 #[] w fun e w'=>∃cs:Array Zv,e=.returned (Za cs)/\Bw w w' /\ cs.size=88/\(∀o,Array.foldl (fun (cs:Array Zv) (x:Zv×Nat)=>cs.setIfInBounds (1+x.snd) x.fst) (Tryz.zeroCells141.setIfInBounds 0 (.map o)) (Array.zipIdx cs) 0 88=(#[Value.map o]++cs).push (Zi Zk 0))/\∀k,1<=k->k<44->∃wv mv,cs[k*2]?=Zo wv/\cs[k*2+1]?=Zo mv/\kQ (pN w.heap.size w') w' k wv mv:=by
 go_in;go_wp2_with fail;refine (jL (w.heap.size+1) [1] _ _ _ (by simp<;>omega) (by simp<;>omega) zC zS (fun i h=>by rcases i with _|_|i<;>first|(simp[go_sem];done)|(exfalso;simp only[Zy,List.length_nil]at h;omega))).mono ?_;rintro e w1 ⟨A,rfl,g,de⟩;have c1:Bw w w1:=gn (((Below.refl _ _).alloc (by simp<;>omega) _).alloc (by simp<;>omega) _) g;have z1:w.heap.size+1<=w1.heap.size:=by have u:=g.size;(try simp at u);omega
 have HZ:Hid (∃cz,w1.heap[w.heap.size]?=Zo (Zc cz 138 (0,0))/\cz.size=88):=⟨_,(g.block w.heap.size (by simp<;>omega)).trans ((Below.heap_alloc _ _ _ zS).trans (heap_alloc_new _ _)),zK⟩;clear g;go_wp2_with fail;refine (jL (w.heap.size+1) [2] _ _ _ (by have:=z1;simp<;>omega) (by have:=z1;simp<;>omega) zC zS (fun i h=>by rcases i with _|_|i<;>first|(simp[go_sem];done)|(exfalso;simp only[Zy,List.length_nil]at h;omega))).mono ?_;rintro e w2 ⟨ej,rfl,g,df⟩;have c2:Bw w1 w2:=gn ((Below.refl _ _).alloc (by simp<;>omega) _) g;have z2:w.heap.size+1<=w2.heap.size:=by have u:=g.size;(try simp at u);have:=z1;omega
 clear g;go_wp2_with fail;refine (jL (w.heap.size+1) [3] _ _ _ (by have:=z2;simp<;>omega) (by have:=z2;simp<;>omega) zC zS (fun i h=>by rcases i with _|_|i<;>first|(simp[go_sem];done)|(exfalso;simp only[Zy,List.length_nil]at h;omega))).mono ?_;rintro e w3 ⟨z,rfl,g,cZ⟩;have c3:Bw w2 w3:=gn ((Below.refl _ _).alloc (by simp<;>omega) _) g;have z3:w.heap.size+1<=w3.heap.size:=by have u:=g.size;(try simp at u);have:=z2;omega
 clear g;go_wp2_with fail;refine (jL (w.heap.size+1) [4] _ _ _ (by have:=z3;simp<;>omega) (by have:=z3;simp<;>omega) zC zS (fun i h=>by rcases i with _|_|i<;>first|(simp[go_sem];done)|(exfalso;simp only[Zy,List.length_nil]at h;omega))).mono ?_;rintro e w4 ⟨eh,rfl,g,dc⟩;have c4:Bw w3 w4:=gn ((Below.refl _ _).alloc (by simp<;>omega) _) g;have z4:w.heap.size+1<=w4.heap.size:=by have u:=g.size;(try simp at u);have:=z3;omega
 clear g;go_wp2_with fail;refine (jL (w.heap.size+1) [5] _ _ _ (by have:=z4;simp<;>omega) (by have:=z4;simp<;>omega) zC zS (fun i h=>by rcases i with _|_|i<;>first|(simp[go_sem];done)|(exfalso;simp only[Zy,List.length_nil]at h;omega))).mono ?_;rintro e w5 ⟨ef,rfl,g,da⟩;have c5:Bw w4 w5:=gn ((Below.refl _ _).alloc (by simp<;>omega) _) g;have z5:w.heap.size+1<=w5.heap.size:=by have u:=g.size;(try simp at u);have:=z4;omega
 clear g;go_wp2_with fail;refine (jL (w.heap.size+1) [6] _ _ _ (by have:=z5;simp<;>omega) (by have:=z5;simp<;>omega) zC zS (fun i h=>by rcases i with _|_|i<;>first|(simp[go_sem];done)|(exfalso;simp only[Zy,List.length_nil]at h;omega))).mono ?_;rintro e w6 ⟨ei,rfl,g,dd⟩;have c6:Bw w5 w6:=gn ((Below.refl _ _).alloc (by simp<;>omega) _) g;have z6:w.heap.size+1<=w6.heap.size:=by have u:=g.size;(try simp at u);have:=z5;omega
 clear g;go_wp2_with fail;refine (jL (w.heap.size+1) [4,2] _ _ _ (by have:=z6;simp<;>omega) (by have:=z6;simp<;>omega) zC zS (fun i h=>by rcases i with _|_|i<;>first|(simp[go_sem];done)|(exfalso;simp only[Zy,List.length_nil]at h;omega))).mono ?_;rintro e w7 ⟨eg,rfl,g,db⟩;have c7:Bw w6 w7:=gn ((Below.refl _ _).alloc (by simp<;>omega) _) g;have z7:w.heap.size+1<=w7.heap.size:=by have u:=g.size;(try simp at u);have:=z6;omega
 clear g;go_wp2_with fail;refine (qN (w.heap.size+1) 1 _ (by have:=z7;simp<;>omega) zC).mono ?_;rintro e w8 ⟨cY,rfl,g,dP⟩;have c8:Bw w7 w8:=gn (Below.refl _ _) g;have z8:w.heap.size+1<=w8.heap.size:=by have u:=g.size;(try simp at u);have:=z7;omega
 clear g;go_wp2_with fail;refine (qN (w.heap.size+1) 2 _ (by have:=z8;simp<;>omega) zC).mono ?_;rintro e w9 ⟨fa,rfl,g,dQ⟩;have c9:Bw w8 w9:=gn (Below.refl _ _) g;have z9:w.heap.size+1<=w9.heap.size:=by have u:=g.size;(try simp at u);have:=z8;omega
 clear g;go_wp2_with fail;refine (qN (w.heap.size+1) 3 _ (by have:=z9;simp<;>omega) zC).mono ?_;rintro e f ⟨cX,rfl,g,dO⟩;have y:Bw w9 f:=gn (Below.refl _ _) g;have fH:w.heap.size+1<=f.heap.size:=by have u:=g.size;(try simp at u);have:=z9;omega
 clear g;have dh:Bw f f:=Below.refl _ _;have e9:Bw w9 f:=gn y dh;have e8:Bw w8 f:=gn c9 e9;have e7:Bw w7 f:=gn c8 e8;have e6:Bw w6 f:=gn c7 e7;have e5:Bw w5 f:=gn c6 e6;have e4:Bw w4 f:=gn c5 e5;have e3:Bw w3 f:=gn c4 e4;have e2:Bw w2 f:=gn c3 e3;have e1:Bw w1 f:=gn c2 e2;obtain⟨V,D⟩:=ii (((((f.alloc (Zc #[.func (.func 152) #[] #[Zp (Zo ⟨A,0,Zn⟩)],.func (.func 152) #[] #[Zp (Zo ⟨A,0,Zn⟩)]] 184)).alloc (Zc #[Zs (Zo ⟨f.heap.size,0,Zn⟩) 2 2,.func (.func 154) #[] #[Zp (Zo ⟨cY,0,Zn⟩)]] 136)).alloc (Zc #[.func (.func 152) #[] #[Zp (Zo ⟨z,0,Zn⟩)],.func (.func 152) #[] #[Zp (Zo ⟨z,0,Zn⟩)]] 184)).alloc (Zc #[Zs (Zo ⟨f.heap.size+1+1,0,Zn⟩) 2 2,.func (.func 154) #[] #[Zp (Zo ⟨cX,0,Zn⟩)]] 136)).drew);have t:Bw f V:=by rw[D];exact ((((gx _ _).alloc zS _).alloc zE _).alloc zE _).drew
 have fG:f.heap.size+4<=V.heap.size:=by rw[D];show _<=(World.alloc _ _).heap.size;simp
 obtain⟨Nr,dM⟩:∃n,n=f.heap.size+1:=⟨_,rfl⟩;obtain⟨Nd,dL⟩:∃n,n=f.heap.size+1+1+1:=⟨_,rfl⟩;have ea:V.cell? ⟨Nr,0,Zn⟩=Zo (Zs (Zo ⟨f.heap.size,0,Zn⟩) 2 2):=by rw[D,dM];show (World.alloc _ _).cell? _=_;simp[go_sem]
 have eb:V.cell? ⟨Nr,1,Zn⟩=Zo (.func (.func 154) #[] #[Zp (Zo ⟨cY,0,Zn⟩)]):=by rw[D,dM];show (World.alloc _ _).cell? _=_;simp[go_sem]
 have dY:V.cell? ⟨Nd,0,Zn⟩=Zo (Zs (Zo ⟨f.heap.size+1+1,0,Zn⟩) 2 2):=by rw[D,dL];show (World.alloc _ _).cell? _=_;simp[go_sem]
 have dZ:V.cell? ⟨Nd,1,Zn⟩=Zo (.func (.func 154) #[] #[Zp (Zo ⟨cX,0,Zn⟩)]):=by rw[D,dL];show (World.alloc _ _).cell? _=_;simp[go_sem]
 have en:V.cell? ⟨f.heap.size,0+0,Zn⟩=Zo (.func (.func 152) #[] #[Zp (Zo ⟨A,0,Zn⟩)]):=by rw[D];show (World.alloc _ _).cell? _=_;simp[go_sem]
 have eo:V.cell? ⟨f.heap.size,0+1,Zn⟩=Zo (.func (.func 152) #[] #[Zp (Zo ⟨A,0,Zn⟩)]):=by rw[D];show (World.alloc _ _).cell? _=_;simp[go_sem]
 have ek:V.cell? ⟨f.heap.size+1+1,0+0,Zn⟩=Zo (.func (.func 152) #[] #[Zp (Zo ⟨z,0,Zn⟩)]):=by rw[D];show (World.alloc _ _).cell? _=_;simp[go_sem]
 have em:V.cell? ⟨f.heap.size+1+1,0+1,Zn⟩=Zo (.func (.func 152) #[] #[Zp (Zo ⟨z,0,Zn⟩)]):=by rw[D];show (World.alloc _ _).cell? _=_;simp[go_sem]
 have F:Hid (JW (w.heap.size+1) (.sorts [1]) (.func (.func 152) #[] #[Zp (Zo ⟨A,0,Zn⟩)]) V):=⟨⟨_,_,_,rfl⟩,fun l r=>de.out l (gn e1 (gn t r))⟩;have dX:Hid (JW (w.heap.size+1) (.sorts [2]) (.func (.func 152) #[] #[Zp (Zo ⟨ej,0,Zn⟩)]) V):=⟨⟨_,_,_,rfl⟩,fun l r=>df.out l (gn e2 (gn t r))⟩;have E:Hid (JW (w.heap.size+1) (.sorts [3]) (.func (.func 152) #[] #[Zp (Zo ⟨z,0,Zn⟩)]) V):=⟨⟨_,_,_,rfl⟩,fun l r=>cZ.out l (gn e3 (gn t r))⟩;have dV:Hid (JW (w.heap.size+1) (.sorts [4]) (.func (.func 152) #[] #[Zp (Zo ⟨eh,0,Zn⟩)]) V):=⟨⟨_,_,_,rfl⟩,fun l r=>dc.out l (gn e4 (gn t r))⟩;have dT:Hid (JW (w.heap.size+1) (.sorts [5]) (.func (.func 152) #[] #[Zp (Zo ⟨ef,0,Zn⟩)]) V):=⟨⟨_,_,_,rfl⟩,fun l r=>da.out l (gn e5 (gn t r))⟩;have dW:Hid (JW (w.heap.size+1) (.sorts [6]) (.func (.func 152) #[] #[Zp (Zo ⟨ei,0,Zn⟩)]) V):=⟨⟨_,_,_,rfl⟩,fun l r=>dd.out l (gn e6 (gn t r))⟩;have dU:Hid (JW (w.heap.size+1) (.sorts [4,2]) (.func (.func 152) #[] #[Zp (Zo ⟨eg,0,Zn⟩)]) V):=⟨⟨_,_,_,rfl⟩,fun l r=>db.out l (gn e7 (gn t r))⟩;have dS:Hid (JM (w.heap.size+1) (.leaf 1) (.func (.func 154) #[] #[Zp (Zo ⟨cY,0,Zn⟩)]) V):=⟨⟨_,_,_,rfl⟩,fun l r=>dP.out l (gn e8 (gn t r))⟩;have er:Hid (JM (w.heap.size+1) (.leaf 2) (.func (.func 154) #[] #[Zp (Zo ⟨fa,0,Zn⟩)]) V):=⟨⟨_,_,_,rfl⟩,fun l r=>dQ.out l (gn e9 (gn t r))⟩;have dR:Hid (JM (w.heap.size+1) (.leaf 3) (.func (.func 154) #[] #[Zp (Zo ⟨cX,0,Zn⟩)]) V):=⟨⟨_,_,_,rfl⟩,fun l r=>dO.out l (gn dh (gn t r))⟩;have Kr:Hid (∀ l,Bw V l->kQ (pN (w.heap.size+1) l) l 9 (Zs (Zo ⟨f.heap.size,0,Zn⟩) 2 2) (.func (.func 154) #[] #[Zp (Zo ⟨cY,0,Zn⟩)])):=fun l r=>⟨⟨_,_,rfl,by show (2:Nat)<=maxLen;unfold maxLen;omega,fun _=>⟨f.heap.size,0,rfl,⟨om,by have:=r.size;omega⟩,fun i h=>by
   rcases i with _|_|i
   ·exact⟨_,kC r en om,F.out.2 l r⟩
   ·exact⟨_,kC r eo om,F.out.2 l r⟩
   ·exfalso;have h:i+1+1<2:=h;omega⟩⟩,dS.out.2 l r⟩
 have Kd:Hid (∀ l,Bw V l->kQ (pN (w.heap.size+1) l) l 16 (Zs (Zo ⟨f.heap.size+1+1,0,Zn⟩) 2 2) (.func (.func 154) #[] #[Zp (Zo ⟨cX,0,Zn⟩)])):=fun l r=>⟨⟨_,_,rfl,by show (2:Nat)<=maxLen;unfold maxLen;omega,fun _=>⟨f.heap.size+1+1,0,rfl,⟨om,by have:=r.size;omega⟩,fun i h=>by
   rcases i with _|_|i
   ·exact⟨_,kC r ek om,E.out.2 l r⟩
   ·exact⟨_,kC r em om,E.out.2 l r⟩
   ·exfalso;have h:i+1+1<2:=h;omega⟩⟩,dR.out.2 l r⟩
 have eq:Hid (∃cz,V.heap[w.heap.size]?=Zo (Zc cz 138 (0,0))/\cz.size=88):=by obtain⟨cz,h1,h2⟩:=HZ.out;have hl:=(Array.getElem?_eq_some_iff.1 h1).1;exact⟨cz,((gn e1 t).block _ hl).trans h1,h2⟩
 have ep:Hid (Bw w V):=gn c1 (gn e1 t);clear HZ en eo ek em c1 c2 c3 c4 c5 c6 c7 c8 c9 y e1 e2 e3 e4 e5 e6 e7 e8 e9 dh de df cZ dc da dd db dP dQ dO;go_upto_region 7 with fail;refine wp_region_held_drew (S:=fun _=>True) zK trivial (fun hHeld=>?_);clear hHeld;rw[<- D];clear D;subst dM;subst dL;refine Ff 113 V _ (fun i=>Kg (w.heap.size+1) (Js.getD i .B)) (fun i=>40+i) _ zK rfl rfl (Hz zK) (IP zK) (Jo zK) (fun i j _ _ h=>by have h:40+i=40+j:=h;omega) (fun i hi=>by show 40+i<153;omega) (fun j v W l h g=>Ja h g) ?step ?fin 113 _ _ _ V zK zC zK zK (Below.refl _ _) ⟨rfl,rfl⟩ (fun _ _=>rfl) (fun j hj h=>absurd h (by rw[Jq (Nat.lt_of_lt_of_le hj (Nat.le_of_ble_eq_true zK))];simp));case fin=>
  rename_i K hK;intro a W c dN m hj;have ee:=fun (k:Nat) (hk:k<40)=>m k (fun i hi h=>absurd (show (40+i:Nat)=k from h) om);clear m;obtain⟨cs,ev,hz,es,et,hr⟩:=hj 112 zC;obtain⟨cz,ed,fF⟩:=eq.out;have hl:=(Array.getElem?_eq_some_iff.1 ed).1;have hg:W.heap[w.heap.size]?=Zo (Zc cz 138 (0,0)):=(c.block _ hl).trans ed;refine wp_store_row 138 (.tmp 0) (.tmp 152) rfl w.heap.size cs (ee 0 om) ev 138 cz hg (by rw[hz];kernel_rfl) om es ?_;have ew:(W.setRow w.heap.size cs).heap[w.heap.size]?=Zo (Zc cs 138 (0,0)):=by simp[World.setRow,Array.getElem?_modify,hg]
  have ex:=run_loadVar_row (P:=prog) _ _ 138 138 cs (0,0) _ ew underlying138 rfl (by rw[hz];kernel_rfl);have dg:∀b,b≠w.heap.size->(W.setRow w.heap.size cs).heap[b]?=W.heap[b]?:=fun b g=>by show (W.heap.modify _ _)[b]?=_;rw[Array.getElem?_modify,if_neg (fun h=>g h.symm)]
  have eu:Bw w (W.setRow w.heap.size cs):=by have g:=gn ep.out c;exact⟨g.os,g.tape,g.output,by simpa [World.setRow] using g.size,fun k hk=>(dg k om).trans (g.block k hk)⟩
  have ey:(W.setRow w.heap.size cs).heap.size=W.heap.size:=by simp[World.setRow]
  have HF:Hid (∃C:Array Zv,Ending.returned (Za cs)=.returned (Za C)/\Bw w (W.setRow w.heap.size cs)/\C.size=88/\(∀o,Array.foldl (fun (cs:Array Zv) (x:Zv×Nat)=>cs.setIfInBounds (1+x.snd) x.fst) (Tryz.zeroCells141.setIfInBounds 0 (.map o)) (Array.zipIdx C) 0 88=(#[Value.map o]++C).push (Zi Zk 0))/\∀k,1<=k->k<44->∃wv mv,C[k*2]?=Zo wv/\C[k*2+1]?=Zo mv/\kQ (pN w.heap.size (W.setRow w.heap.size cs)) (W.setRow w.heap.size cs) k wv mv):=by refine⟨cs,rfl,eu,hz,et,fun k h1 h2=>?_⟩;obtain⟨wv,mv,h3,h4,h5⟩:=hr k h1 h2;exact⟨wv,mv,h3,h4,(h5 W (Below.refl _ _)).keep (fun b g=>dg b (by have:=g.1;omega)) fun b g=>⟨by have:=g.1;omega,by rw[ey];exact g.2⟩⟩
  refine hK _ _ ?_;change Code.wp prog Code.ret _ a (W.setRow w.heap.size cs);refine wp_ret ?_;refine bodyPost_ret (pg results82 _ _ ⟨w.heap.size,0,Zn⟩ _ (ee 0 om) ex) dN.2 ?_;exact HF.out
 case step=>
  have s:∀W,Bw V W->w.heap.size+1<=W.heap.size:=fun W h=>by have:=h.size;omega
  refine GK ?_;refine And.intro ?_ ?_;rotate_left
  ·intro o ho;cases BN ho rfl;intro a W c dN m d
   obtain⟨_,_,g1,⟨x1,n1,c1,rfl⟩,m1,r1⟩:=(d ⟨1,.data⟩ (me 0 rfl) rfl);obtain⟨f1,u1,v1,rfl⟩:lS _:=m1;obtain⟨_,_,g2,⟨x2,n2,c2,rfl⟩,m2,r2⟩:=(d ⟨3,.data⟩ (me 1 rfl) rfl);obtain⟨f2,u2,v2,rfl⟩:lS _:=m2;obtain⟨_,_,g3,⟨x3,n3,c3,rfl⟩,m3,r3⟩:=(d ⟨5,.data⟩ (me 2 rfl) rfl);obtain⟨f3,u3,v3,rfl⟩:lS _:=m3;obtain⟨_,_,g4,⟨x4,n4,c4,rfl⟩,m4,r4⟩:=(d ⟨6,.data⟩ (me 3 rfl) rfl);obtain⟨f4,u4,v4,rfl⟩:lS _:=m4;obtain⟨_,_,g5,⟨x5,n5,c5,rfl⟩,m5,r5⟩:=(d ⟨8,.data⟩ (me 4 rfl) rfl);obtain⟨f5,u5,v5,rfl⟩:lS _:=m5;obtain⟨_,_,g6,⟨x6,n6,c6,rfl⟩,m6,r6⟩:=(d ⟨10,.data⟩ (me 5 rfl) rfl);obtain⟨f6,u6,v6,rfl⟩:lS _:=m6;obtain⟨_,_,g7,⟨x7,n7,c7,rfl⟩,m7,r7⟩:=(d ⟨12,.data⟩ (me 6 rfl) rfl);obtain⟨f7,u7,v7,rfl⟩:lS _:=m7;obtain⟨_,_,g8,⟨x8,n8,c8,rfl⟩,m8,r8⟩:=(d ⟨14,.data⟩ (me 7 rfl) rfl);obtain⟨f8,u8,v8,rfl⟩:lS _:=m8;obtain⟨_,_,g9,⟨x9,n9,c9,rfl⟩,m9,r9⟩:=(d ⟨15,.data⟩ (me 8 rfl) rfl);obtain⟨f9,u9,v9,rfl⟩:lS _:=m9;obtain⟨_,_,di,⟨cr,aN,y,rfl⟩,ez,fb⟩:=(d ⟨16,.data⟩ (me 9 rfl) rfl);obtain⟨ao,br,bT,rfl⟩:lS _:=ez;obtain⟨_,_,dj,⟨ct,aO,G,rfl⟩,eA,fc⟩:=(d ⟨17,.data⟩ (me 10 rfl) rfl);obtain⟨ap,bt,bU,rfl⟩:lS _:=eA;obtain⟨_,_,dk,⟨cu,aP,H,rfl⟩,eB,fd⟩:=(d ⟨18,.data⟩ (me 11 rfl) rfl);obtain⟨aq,bu,bV,rfl⟩:lS _:=eB;obtain⟨_,_,dl,⟨cv,aQ,I,rfl⟩,eC,fe⟩:=(d ⟨19,.data⟩ (me 12 rfl) rfl);obtain⟨ar,bv,bW,rfl⟩:lS _:=eC;obtain⟨_,_,dm,⟨cw,aR,J,rfl⟩,eD,ff⟩:=(d ⟨25,.data⟩ (me 13 rfl) rfl);obtain⟨au,bw,bX,rfl⟩:lS _:=eD;obtain⟨_,_,dp,⟨cx,aS,L,rfl⟩,eE,fg⟩:=(d ⟨29,.data⟩ (me 14 rfl) rfl);obtain⟨av,bx,bY,rfl⟩:lS _:=eE;obtain⟨_,_,dq,⟨cy,aT,M,rfl⟩,eF,fh⟩:=(d ⟨30,.data⟩ (me 15 rfl) rfl);obtain⟨aw,bz,bZ,rfl⟩:lS _:=eF;obtain⟨_,_,g17,⟨cA,aU,N,rfl⟩,m17,fi⟩:=(d ⟨31,.data⟩ (me 16 rfl) rfl);obtain⟨ax,bA,ca,rfl⟩:lS _:=m17;obtain⟨_,_,g18,⟨cB,aV,O,rfl⟩,m18,fj⟩:=(d ⟨35,.data⟩ (me 17 rfl) rfl);obtain⟨ay,bB,cb,rfl⟩:lS _:=m18;obtain⟨_,_,g19,⟨cC,aW,Q,rfl⟩,m19,fk⟩:=(d ⟨40,.data⟩ (me 18 rfl) rfl);obtain⟨az,bC,cc,rfl⟩:lS _:=m19;obtain⟨_,_,dr,⟨cD,aX,R,rfl⟩,eG,fl⟩:=(d ⟨42,.data⟩ (me 19 rfl) rfl);obtain⟨aA,bD,v20,rfl⟩:lS _:=eG;obtain⟨_,_,ds,⟨cE,aY,T,rfl⟩,eH,fm⟩:=(d ⟨45,.data⟩ (me 20 rfl) rfl);obtain⟨aB,bE,cd,rfl⟩:lS _:=eH;obtain⟨_,_,dt,⟨cF,aZ,U,rfl⟩,eI,fn⟩:=(d ⟨48,.data⟩ (me 21 rfl) rfl);obtain⟨aC,bF,v22,rfl⟩:lS _:=eI;obtain⟨_,_,du,⟨cG,ba,X,rfl⟩,eJ,fo⟩:=(d ⟨51,.data⟩ (me 22 rfl) rfl);obtain⟨aD,bG,ce,rfl⟩:lS _:=eJ;obtain⟨_,_,dv,⟨cH,bb,Y,rfl⟩,eK,fp⟩:=(d ⟨52,.data⟩ (me 23 rfl) rfl);obtain⟨aE,bH,v24,rfl⟩:lS _:=eK;obtain⟨_,_,dw,⟨cI,bc,Z,rfl⟩,eL,fq⟩:=(d ⟨56,.data⟩ (me 24 rfl) rfl);obtain⟨aF,bI,cf,rfl⟩:lS _:=eL;obtain⟨_,_,dx,⟨cJ,bd,aa,rfl⟩,eM,fr⟩:=(d ⟨60,.data⟩ (me 25 rfl) rfl);obtain⟨f26,bJ,cg,rfl⟩:lS _:=eM;obtain⟨_,_,dy,⟨cK,be,ab,rfl⟩,eN,fs⟩:=(d ⟨65,.data⟩ (me 26 rfl) rfl);obtain⟨aG,bK,ch,rfl⟩:lS _:=eN;obtain⟨_,_,dz,⟨cL,bf,ac,rfl⟩,eO,ft⟩:=(d ⟨71,.data⟩ (me 27 rfl) rfl);obtain⟨aH,bL,ci,rfl⟩:lS _:=eO;obtain⟨_,_,dA,⟨cM,bg,ad,rfl⟩,eP,fu⟩:=(d ⟨75,.data⟩ (me 28 rfl) rfl);obtain⟨aI,bM,cj,rfl⟩:lS _:=eP;obtain⟨_,_,dB,⟨cN,bh,ae,rfl⟩,eQ,fv⟩:=(d ⟨78,.data⟩ (me 29 rfl) rfl);obtain⟨aJ,bN,ck,rfl⟩:lS _:=eQ;obtain⟨_,_,dC,⟨cO,bi,af,rfl⟩,eR,fw⟩:=(d ⟨82,.data⟩ (me 30 rfl) rfl);obtain⟨aK,bO,cl,rfl⟩:lS _:=eR;obtain⟨_,_,dD,⟨cP,bj,ag,rfl⟩,eS,fx⟩:=(d ⟨87,.data⟩ (me 31 rfl) rfl);obtain⟨aL,bP,cm,rfl⟩:lS _:=eS;obtain⟨_,_,dE,⟨cQ,bk,ah,rfl⟩,eT,fy⟩:=(d ⟨91,.data⟩ (me 32 rfl) rfl);obtain⟨f33,bQ,cn,rfl⟩:lS _:=eT;obtain⟨_,_,dF,⟨cR,bl,ai,rfl⟩,eU,fz⟩:=(d ⟨96,.data⟩ (me 33 rfl) rfl);obtain⟨f34,bR,co,rfl⟩:lS _:=eU;obtain⟨_,_,dG,⟨cS,bm,aj,rfl⟩,eV,fA⟩:=(d ⟨101,.data⟩ (me 34 rfl) rfl);obtain⟨aM,bS,cq,rfl⟩:lS _:=eV;obtain⟨_,_,dH,⟨cT,bn,ak,rfl⟩,eW,fB⟩:=(d ⟨103,.data⟩ (me 35 rfl) rfl);obtain rfl:_=Value.nilFunc:=eW;obtain⟨_,_,dI,⟨cU,bo,al,rfl⟩,eX,fC⟩:=(d ⟨105,.data⟩ (me 36 rfl) rfl);obtain rfl:_=Value.nilFunc:=eX;obtain⟨_,_,dJ,⟨cV,bp,am,rfl⟩,eY,fD⟩:=(d ⟨108,.data⟩ (me 37 rfl) rfl);obtain rfl:_=Value.nilFunc:=eY;obtain⟨_,_,dK,⟨cW,bq,an,rfl⟩,eZ,fE⟩:=(d ⟨111,.data⟩ (me 38 rfl) rfl);obtain rfl:_=Value.nilFunc:=eZ;have g1:a.eval (.tmp 41)=Za #[Zs x1 n1 c1,.func f1 u1 v1]:=g1;have g2:a.eval (.tmp 43)=Za #[Zs x2 n2 c2,.func f2 u2 v2]:=g2;have g3:a.eval (.tmp 45)=Za #[Zs x3 n3 c3,.func f3 u3 v3]:=g3;have g4:a.eval (.tmp 46)=Za #[Zs x4 n4 c4,.func f4 u4 v4]:=g4;have g5:a.eval (.tmp 48)=Za #[Zs x5 n5 c5,.func f5 u5 v5]:=g5;have g6:a.eval (.tmp 50)=Za #[Zs x6 n6 c6,.func f6 u6 v6]:=g6;have g7:a.eval (.tmp 52)=Za #[Zs x7 n7 c7,.func f7 u7 v7]:=g7;have g8:a.eval (.tmp 54)=Za #[Zs x8 n8 c8,.func f8 u8 v8]:=g8;have g9:a.eval (.tmp 55)=Za #[Zs x9 n9 c9,.func f9 u9 v9]:=g9;have di:a.eval (.tmp 56)=Za #[Zs cr aN y,.func ao br bT]:=di;have dj:a.eval (.tmp 57)=Za #[Zs ct aO G,.func ap bt bU]:=dj;have dk:a.eval (.tmp 58)=Za #[Zs cu aP H,.func aq bu bV]:=dk;have dl:a.eval (.tmp 59)=Za #[Zs cv aQ I,.func ar bv bW]:=dl;have dm:a.eval (.tmp 65)=Za #[Zs cw aR J,.func au bw bX]:=dm;have dp:a.eval (.tmp 69)=Za #[Zs cx aS L,.func av bx bY]:=dp;have dq:a.eval (.tmp 70)=Za #[Zs cy aT M,.func aw bz bZ]:=dq;have g17:a.eval (.tmp 71)=Za #[Zs cA aU N,.func ax bA ca]:=g17;have g18:a.eval (.tmp 75)=Za #[Zs cB aV O,.func ay bB cb]:=g18;have g19:a.eval (.tmp 80)=Za #[Zs cC aW Q,.func az bC cc]:=g19;have dr:a.eval (.tmp 82)=Za #[Zs cD aX R,.func aA bD v20]:=dr;have ds:a.eval (.tmp 85)=Za #[Zs cE aY T,.func aB bE cd]:=ds;have dt:a.eval (.tmp 88)=Za #[Zs cF aZ U,.func aC bF v22]:=dt;have du:a.eval (.tmp 91)=Za #[Zs cG ba X,.func aD bG ce]:=du;have dv:a.eval (.tmp 92)=Za #[Zs cH bb Y,.func aE bH v24]:=dv;have dw:a.eval (.tmp 96)=Za #[Zs cI bc Z,.func aF bI cf]:=dw;have dx:a.eval (.tmp 100)=Za #[Zs cJ bd aa,.func f26 bJ cg]:=dx;have dy:a.eval (.tmp 105)=Za #[Zs cK be ab,.func aG bK ch]:=dy;have dz:a.eval (.tmp 111)=Za #[Zs cL bf ac,.func aH bL ci]:=dz;have dA:a.eval (.tmp 115)=Za #[Zs cM bg ad,.func aI bM cj]:=dA;have dB:a.eval (.tmp 118)=Za #[Zs cN bh ae,.func aJ bN ck]:=dB;have dC:a.eval (.tmp 122)=Za #[Zs cO bi af,.func aK bO cl]:=dC;have dD:a.eval (.tmp 127)=Za #[Zs cP bj ag,.func aL bP cm]:=dD;have dE:a.eval (.tmp 131)=Za #[Zs cQ bk ah,.func f33 bQ cn]:=dE;have dF:a.eval (.tmp 136)=Za #[Zs cR bl ai,.func f34 bR co]:=dF;have dG:a.eval (.tmp 141)=Za #[Zs cS bm aj,.func aM bS cq]:=dG;have dH:a.eval (.tmp 143)=Za #[Zs cT bn ak,.nilFunc]:=dH;have dI:a.eval (.tmp 145)=Za #[Zs cU bo al,.nilFunc]:=dI;have dJ:a.eval (.tmp 148)=Za #[Zs cV bp am,.nilFunc]:=dJ;have dK:a.eval (.tmp 151)=Za #[Zs cW bq an,.nilFunc]:=dK;have ec:prog.built 138 [(1,Za #[Zs x1 n1 c1,.func f1 u1 v1]),(2,Za #[Zs x2 n2 c2,.func f2 u2 v2]),(3,Za #[Zs x3 n3 c3,.func f3 u3 v3]),(4,Za #[Zs x4 n4 c4,.func f4 u4 v4]),(5,Za #[Zs x5 n5 c5,.func f5 u5 v5]),(6,Za #[Zs x6 n6 c6,.func f6 u6 v6]),(7,Za #[Zs x7 n7 c7,.func f7 u7 v7]),(8,Za #[Zs x8 n8 c8,.func f8 u8 v8]),(9,Za #[Zs x9 n9 c9,.func f9 u9 v9]),(10,Za #[Zs cr aN y,.func ao br bT]),(11,Za #[Zs ct aO G,.func ap bt bU]),(12,Za #[Zs cu aP H,.func aq bu bV]),(13,Za #[Zs cv aQ I,.func ar bv bW]),(14,Za #[Zs cw aR J,.func au bw bX]),(15,Za #[Zs cx aS L,.func av bx bY]),(16,Za #[Zs cy aT M,.func aw bz bZ]),(17,Za #[Zs cA aU N,.func ax bA ca]),(18,Za #[Zs cB aV O,.func ay bB cb]),(19,Za #[Zs cC aW Q,.func az bC cc]),(20,Za #[Zs cD aX R,.func aA bD v20]),(21,Za #[Zs cE aY T,.func aB bE cd]),(22,Za #[Zs cF aZ U,.func aC bF v22]),(23,Za #[Zs cG ba X,.func aD bG ce]),(24,Za #[Zs cH bb Y,.func aE bH v24]),(25,Za #[Zs cI bc Z,.func aF bI cf]),(26,Za #[Zs cJ bd aa,.func f26 bJ cg]),(27,Za #[Zs cK be ab,.func aG bK ch]),(28,Za #[Zs cL bf ac,.func aH bL ci]),(29,Za #[Zs cM bg ad,.func aI bM cj]),(30,Za #[Zs cN bh ae,.func aJ bN ck]),(31,Za #[Zs cO bi af,.func aK bO cl]),(32,Za #[Zs cP bj ag,.func aL bP cm]),(33,Za #[Zs cQ bk ah,.func f33 bQ cn]),(34,Za #[Zs cR bl ai,.func f34 bR co]),(35,Za #[Zs cS bm aj,.func aM bS cq]),(38,Za #[Zs cT bn ak,.nilFunc]),(39,Za #[Zs cU bo al,.nilFunc]),(41,Za #[Zs cV bp am,.nilFunc]),(43,Za #[Zs cW bq an,.nilFunc])]=Zo #[Zs Zn 0 0,.nilFunc,Zs x1 n1 c1,.func f1 u1 v1,Zs x2 n2 c2,.func f2 u2 v2,Zs x3 n3 c3,.func f3 u3 v3,Zs x4 n4 c4,.func f4 u4 v4,Zs x5 n5 c5,.func f5 u5 v5,Zs x6 n6 c6,.func f6 u6 v6,Zs x7 n7 c7,.func f7 u7 v7,Zs x8 n8 c8,.func f8 u8 v8,Zs x9 n9 c9,.func f9 u9 v9,Zs cr aN y,.func ao br bT,Zs ct aO G,.func ap bt bU,Zs cu aP H,.func aq bu bV,Zs cv aQ I,.func ar bv bW,Zs cw aR J,.func au bw bX,Zs cx aS L,.func av bx bY,Zs cy aT M,.func aw bz bZ,Zs cA aU N,.func ax bA ca,Zs cB aV O,.func ay bB cb,Zs cC aW Q,.func az bC cc,Zs cD aX R,.func aA bD v20,Zs cE aY T,.func aB bE cd,Zs cF aZ U,.func aC bF v22,Zs cG ba X,.func aD bG ce,Zs cH bb Y,.func aE bH v24,Zs cI bc Z,.func aF bI cf,Zs cJ bd aa,.func f26 bJ cg,Zs cK be ab,.func aG bK ch,Zs cL bf ac,.func aH bL ci,Zs cM bg ad,.func aI bM cj,Zs cN bh ae,.func aJ bN ck,Zs cO bi af,.func aK bO cl,Zs cP bj ag,.func aL bP cm,Zs cQ bk ah,.func f33 bQ cn,Zs cR bl ai,.func f34 bR co,Zs cS bm aj,.func aM bS cq,Zs Zn 0 0,.nilFunc,Zs Zn 0 0,.nilFunc,Zs cT bn ak,.nilFunc,Zs cU bo al,.nilFunc,Zs Zn 0 0,.nilFunc,Zs cV bp am,.nilFunc,Zs Zn 0 0,.nilFunc,Zs cW bq an,.nilFunc]:=zK;have el:(Array.map (fun p:Nat×Operand=>match p with|(i,x)=>(i,a.eval x)) #[(1,.tmp 41),(2,.tmp 43),(3,.tmp 45),(4,.tmp 46),(5,.tmp 48),(6,.tmp 50),(7,.tmp 52),(8,.tmp 54),(9,.tmp 55),(10,.tmp 56),(11,.tmp 57),(12,.tmp 58),(13,.tmp 59),(14,.tmp 65),(15,.tmp 69),(16,.tmp 70),(17,.tmp 71),(18,.tmp 75),(19,.tmp 80),(20,.tmp 82),(21,.tmp 85),(22,.tmp 88),(23,.tmp 91),(24,.tmp 92),(25,.tmp 96),(26,.tmp 100),(27,.tmp 105),(28,.tmp 111),(29,.tmp 115),(30,.tmp 118),(31,.tmp 122),(32,.tmp 127),(33,.tmp 131),(34,.tmp 136),(35,.tmp 141),(38,.tmp 143),(39,.tmp 145),(41,.tmp 148),(43,.tmp 151)]).toList=[(1,Za #[Zs x1 n1 c1,.func f1 u1 v1]),(2,Za #[Zs x2 n2 c2,.func f2 u2 v2]),(3,Za #[Zs x3 n3 c3,.func f3 u3 v3]),(4,Za #[Zs x4 n4 c4,.func f4 u4 v4]),(5,Za #[Zs x5 n5 c5,.func f5 u5 v5]),(6,Za #[Zs x6 n6 c6,.func f6 u6 v6]),(7,Za #[Zs x7 n7 c7,.func f7 u7 v7]),(8,Za #[Zs x8 n8 c8,.func f8 u8 v8]),(9,Za #[Zs x9 n9 c9,.func f9 u9 v9]),(10,Za #[Zs cr aN y,.func ao br bT]),(11,Za #[Zs ct aO G,.func ap bt bU]),(12,Za #[Zs cu aP H,.func aq bu bV]),(13,Za #[Zs cv aQ I,.func ar bv bW]),(14,Za #[Zs cw aR J,.func au bw bX]),(15,Za #[Zs cx aS L,.func av bx bY]),(16,Za #[Zs cy aT M,.func aw bz bZ]),(17,Za #[Zs cA aU N,.func ax bA ca]),(18,Za #[Zs cB aV O,.func ay bB cb]),(19,Za #[Zs cC aW Q,.func az bC cc]),(20,Za #[Zs cD aX R,.func aA bD v20]),(21,Za #[Zs cE aY T,.func aB bE cd]),(22,Za #[Zs cF aZ U,.func aC bF v22]),(23,Za #[Zs cG ba X,.func aD bG ce]),(24,Za #[Zs cH bb Y,.func aE bH v24]),(25,Za #[Zs cI bc Z,.func aF bI cf]),(26,Za #[Zs cJ bd aa,.func f26 bJ cg]),(27,Za #[Zs cK be ab,.func aG bK ch]),(28,Za #[Zs cL bf ac,.func aH bL ci]),(29,Za #[Zs cM bg ad,.func aI bM cj]),(30,Za #[Zs cN bh ae,.func aJ bN ck]),(31,Za #[Zs cO bi af,.func aK bO cl]),(32,Za #[Zs cP bj ag,.func aL bP cm]),(33,Za #[Zs cQ bk ah,.func f33 bQ cn]),(34,Za #[Zs cR bl ai,.func f34 bR co]),(35,Za #[Zs cS bm aj,.func aM bS cq]),(38,Za #[Zs cT bn ak,.nilFunc]),(39,Za #[Zs cU bo al,.nilFunc]),(41,Za #[Zs cV bp am,.nilFunc]),(43,Za #[Zs cW bq an,.nilFunc])]:=by simp only[List.map_toArray,List.map_cons,List.map_nil,g1,g2,g3,g4,g5,g6,g7,g8,g9,di,dj,dk,dl,dm,dp,dq,g17,g18,g19,dr,ds,dt,du,dv,dw,dx,dy,dz,dA,dB,dC,dD,dE,dF,dG,dH,dI,dJ,dK]
   refine wp_build 138 #[(1,.tmp 41),(2,.tmp 43),(3,.tmp 45),(4,.tmp 46),(5,.tmp 48),(6,.tmp 50),(7,.tmp 52),(8,.tmp 54),(9,.tmp 55),(10,.tmp 56),(11,.tmp 57),(12,.tmp 58),(13,.tmp 59),(14,.tmp 65),(15,.tmp 69),(16,.tmp 70),(17,.tmp 71),(18,.tmp 75),(19,.tmp 80),(20,.tmp 82),(21,.tmp 85),(22,.tmp 88),(23,.tmp 91),(24,.tmp 92),(25,.tmp 96),(26,.tmp 100),(27,.tmp 105),(28,.tmp 111),(29,.tmp 115),(30,.tmp 118),(31,.tmp 122),(32,.tmp 127),(33,.tmp 131),(34,.tmp 136),(35,.tmp 141),(38,.tmp 143),(39,.tmp 145),(41,.tmp 148),(43,.tmp 151)] rfl ?_ ?_;·rw[el,ec];rfl
   ·rw[el,ec];refine⟨_,rfl,Below.refl _ _,#[Zs Zn 0 0,.nilFunc,Zs x1 n1 c1,.func f1 u1 v1,Zs x2 n2 c2,.func f2 u2 v2,Zs x3 n3 c3,.func f3 u3 v3,Zs x4 n4 c4,.func f4 u4 v4,Zs x5 n5 c5,.func f5 u5 v5,Zs x6 n6 c6,.func f6 u6 v6,Zs x7 n7 c7,.func f7 u7 v7,Zs x8 n8 c8,.func f8 u8 v8,Zs x9 n9 c9,.func f9 u9 v9,Zs cr aN y,.func ao br bT,Zs ct aO G,.func ap bt bU,Zs cu aP H,.func aq bu bV,Zs cv aQ I,.func ar bv bW,Zs cw aR J,.func au bw bX,Zs cx aS L,.func av bx bY,Zs cy aT M,.func aw bz bZ,Zs cA aU N,.func ax bA ca,Zs cB aV O,.func ay bB cb,Zs cC aW Q,.func az bC cc,Zs cD aX R,.func aA bD v20,Zs cE aY T,.func aB bE cd,Zs cF aZ U,.func aC bF v22,Zs cG ba X,.func aD bG ce,Zs cH bb Y,.func aE bH v24,Zs cI bc Z,.func aF bI cf,Zs cJ bd aa,.func f26 bJ cg,Zs cK be ab,.func aG bK ch,Zs cL bf ac,.func aH bL ci,Zs cM bg ad,.func aI bM cj,Zs cN bh ae,.func aJ bN ck,Zs cO bi af,.func aK bO cl,Zs cP bj ag,.func aL bP cm,Zs cQ bk ah,.func f33 bQ cn,Zs cR bl ai,.func f34 bR co,Zs cS bm aj,.func aM bS cq,Zs Zn 0 0,.nilFunc,Zs Zn 0 0,.nilFunc,Zs cT bn ak,.nilFunc,Zs cU bo al,.nilFunc,Zs Zn 0 0,.nilFunc,Zs cV bp am,.nilFunc,Zs Zn 0 0,.nilFunc,Zs cW bq an,.nilFunc],rfl,zK,zK,(fun o=>zK),fun k h1 h2=>?_⟩;obtain h|h|h|h|h|h|h|h|h|h|h|h|h|h|h|h|h|h|h|h|h|h|h|h|h|h|h|h|h|h|h|h|h|h|h|h|h|h|h|h|h|h|h:k=1∨k=2∨k=3∨k=4∨k=5∨k=6∨k=7∨k=8∨k=9∨k=10∨k=11∨k=12∨k=13∨k=14∨k=15∨k=16∨k=17∨k=18∨k=19∨k=20∨k=21∨k=22∨k=23∨k=24∨k=25∨k=26∨k=27∨k=28∨k=29∨k=30∨k=31∨k=32∨k=33∨k=34∨k=35∨k=36∨k=37∨k=38∨k=39∨k=40∨k=41∨k=42∨k=43:=by omega
    ·subst h;exact⟨_,_,rfl,rfl,r1⟩
    ·subst h;exact⟨_,_,rfl,rfl,r2⟩
    ·subst h;exact⟨_,_,rfl,rfl,r3⟩
    ·subst h;exact⟨_,_,rfl,rfl,r4⟩
    ·subst h;exact⟨_,_,rfl,rfl,r5⟩
    ·subst h;exact⟨_,_,rfl,rfl,r6⟩
    ·subst h;exact⟨_,_,rfl,rfl,r7⟩
    ·subst h;exact⟨_,_,rfl,rfl,r8⟩
    ·subst h;exact⟨_,_,rfl,rfl,r9⟩
    ·subst h;exact⟨_,_,rfl,rfl,fb⟩
    ·subst h;exact⟨_,_,rfl,rfl,fc⟩
    ·subst h;exact⟨_,_,rfl,rfl,fd⟩
    ·subst h;exact⟨_,_,rfl,rfl,fe⟩
    ·subst h;exact⟨_,_,rfl,rfl,ff⟩
    ·subst h;exact⟨_,_,rfl,rfl,fg⟩
    ·subst h;exact⟨_,_,rfl,rfl,fh⟩
    ·subst h;exact⟨_,_,rfl,rfl,fi⟩
    ·subst h;exact⟨_,_,rfl,rfl,fj⟩
    ·subst h;exact⟨_,_,rfl,rfl,fk⟩
    ·subst h;exact⟨_,_,rfl,rfl,fl⟩
    ·subst h;exact⟨_,_,rfl,rfl,fm⟩
    ·subst h;exact⟨_,_,rfl,rfl,fn⟩
    ·subst h;exact⟨_,_,rfl,rfl,fo⟩
    ·subst h;exact⟨_,_,rfl,rfl,fp⟩
    ·subst h;exact⟨_,_,rfl,rfl,fq⟩
    ·subst h;exact⟨_,_,rfl,rfl,fr⟩
    ·subst h;exact⟨_,_,rfl,rfl,fs⟩
    ·subst h;exact⟨_,_,rfl,rfl,ft⟩
    ·subst h;exact⟨_,_,rfl,rfl,fu⟩
    ·subst h;exact⟨_,_,rfl,rfl,fv⟩
    ·subst h;exact⟨_,_,rfl,rfl,fw⟩
    ·subst h;exact⟨_,_,rfl,rfl,fx⟩
    ·subst h;exact⟨_,_,rfl,rfl,fy⟩
    ·subst h;exact⟨_,_,rfl,rfl,fz⟩
    ·subst h;exact⟨_,_,rfl,rfl,fA⟩
    ·subst h;exact⟨_,_,rfl,rfl,fun _ _=>⟨D1,rfl⟩⟩
    ·subst h;exact⟨_,_,rfl,rfl,fun _ _=>⟨D1,rfl⟩⟩
    ·subst h;exact⟨_,_,rfl,rfl,fB⟩
    ·subst h;exact⟨_,_,rfl,rfl,fC⟩
    ·subst h;exact⟨_,_,rfl,rfl,fun _ _=>⟨D1,rfl⟩⟩
    ·subst h;exact⟨_,_,rfl,rfl,fD⟩
    ·subst h;exact⟨_,_,rfl,rfl,fun _ _=>⟨D1,rfl⟩⟩
    ·subst h;exact⟨_,_,rfl,rfl,fE⟩
  iterate 112 refine And.intro ?_ ?_
  ·exact trivial
  all_goals (intro o ho;cases BN ho rfl;intro a W c dN m d)
  all_goals first
   | exact k9 rfl ((m _ (nf om))) ((dS.out).on c)
   | exact nU rfl rfl rfl ⟨Zn,0,0,rfl⟩ ((d _ (me 0 rfl) rfl)).1 fun l r=>⟨D1,((d _ (me 0 rfl) rfl)).2 l r⟩
   | exact k9 rfl ((m _ (nf om))) ((er.out).on c)
   | exact k9 rfl ((m _ (nf om))) ((dR.out).on c)
   | exact nU rfl rfl rfl ⟨Zn,0,0,rfl⟩ ⟨_,_,_,rfl⟩ fun l r=>⟨D1,rfl⟩
   | exact Hn rfl (s W c) zC
   | exact B0 (q:=0) rfl (s W c) zC
   | exact BZ rfl ((m _ (nf om))) (kC c ea (d8 ea)) (kC c eb (d8 eb)) ⟨_,_,_,rfl⟩ ⟨_,_,_,rfl⟩ ⟨_,_,_,rfl⟩ fun l r=>⟨(Kr.out l (gn c r)).1,(Kr.out l (gn c r)).2⟩
   | exact Hm rfl (s W c)
   | exact Ho rfl (d _ (me 0 rfl) rfl) (s W c)
   | exact BX (q:=0) rfl (s W c)
   | exact qI rfl rfl rfl (d _ (me 0 rfl) rfl) (d _ (me 1 rfl) rfl) (s W c)
   | exact nU rfl rfl rfl ((d _ (me 0 rfl) rfl)).1 ((d _ (me 1 rfl) rfl)).1 fun l r=>⟨((d _ (me 0 rfl) rfl)).2 l r,((d _ (me 1 rfl) rfl)).2 l r⟩
   | exact qI rfl rfl rfl ⟨⟨_,_,_,rfl⟩,fun _ _=>rfl⟩ (d _ (me 0 rfl) rfl) (s W c)
   | exact BZ rfl ((m _ (nf om))) (kC c dY (d8 dY)) (kC c dZ (d8 dZ)) ⟨_,_,_,rfl⟩ ⟨_,_,_,rfl⟩ ⟨_,_,_,rfl⟩ fun l r=>⟨(Kd.out l (gn c r)).1,(Kd.out l (gn c r)).2⟩
   | exact k9 rfl ((m _ (nf om))) ((E.out).on c)
   | exact vy rfl rfl (d _ (me 0 rfl) rfl) (s W c)
   | exact BX (q:=1) rfl (s W c)
   | exact vz rfl rfl rfl rfl (d _ (me 0 rfl) rfl) ⟨⟨_,_,_,rfl⟩,fun _ _=>rfl⟩ (d _ (me 1 rfl) rfl) (s W c)
   | exact FL (q:=1) rfl (s W c)
   | exact k9 rfl ((m _ (nf om))) ((dT.out).on c)
   | exact nU rfl rfl rfl ((d _ (me 0 rfl) rfl)).1 ⟨_,_,_,rfl⟩ fun l r=>⟨((d _ (me 0 rfl) rfl)).2 l r,rfl⟩
   | exact k9 rfl ((m _ (nf om))) ((dV.out).on c)
   | exact k9 rfl ((m _ (nf om))) ((F.out).on c)
   | exact k9 rfl ((m _ (nf om))) ((dU.out).on c)
   | exact FL (q:=0) rfl (s W c)
   | exact vz rfl rfl rfl rfl (d _ (me 0 rfl) rfl) (d _ (me 1 rfl) rfl) (d _ (me 2 rfl) rfl) (s W c)
   | exact k9 rfl ((m _ (nf om))) ((dX.out).on c)
   | exact k9 rfl ((m _ (nf om))) ((dW.out).on c)
   | exact qI rfl rfl rfl (d _ (me 0 rfl) rfl) ⟨⟨_,_,_,rfl⟩,fun _ _=>rfl⟩ (s W c)
   | exact B0 (q:=1) rfl (s W c) zC
   | exact vy rfl rfl ⟨⟨_,_,_,rfl⟩,fun _ _=>rfl⟩ (s W c)
   | exact nU rfl rfl rfl ((d _ (me 0 rfl) rfl)).1 rfl fun l r=>⟨((d _ (me 0 rfl) rfl)).2 l r,rfl⟩
theorem tG(o:Option Nat)(w:Zw):Calls prog 40 #[.map o] w fun e l=>∃d cs,e=.returned (Zp (Zo ⟨d,0,Zn⟩))/\Bw w l/\w.heap.size<=d/\l.heap[d]?=Zo (lB cs 0)/\nE (fun b=>w.heap.size<=b/\b<l.heap.size/\b≠d) l cs/\cs[0]?=Zo (.map o):=by
 have m:Hid (Calls prog 82 #[] w _):=xn w;go_in;go_wp2_with fail;refine m.out.mono ?_;rintro e w1 ⟨cs,rfl,g,t,i,p⟩;have j:=g.size;have s:=i o;have n:Hid (∃d f,(Ending.returned (Zp (Zo ⟨w1.heap.size,0,Zn⟩)))=.returned (Zp (Zo ⟨d,0,Zn⟩))/\Bw w (w1.alloc (lB (#[Value.map o]++cs) 0))/\w.heap.size<=d/\(w1.alloc (lB (#[Value.map o]++cs) 0)).heap[d]?=Zo (lB f 0)/\nE (fun b=>w.heap.size<=b/\b<(w1.alloc (lB (#[Value.map o]++cs) 0)).heap.size/\b≠d) (w1.alloc (lB (#[Value.map o]++cs) 0)) f/\f[0]?=Zo (.map o)):=by
  refine⟨w1.heap.size,#[Value.map o]++cs,rfl,g.alloc j _,j,heap_alloc_new _ _,⟨by simp[t],fun k q r=>?_⟩,by rw[Array.getElem?_append_left (show 0<1 by omega)];rfl⟩;obtain⟨u,mv,a,b,c⟩:=p k q r;refine⟨u,mv,?_,?_,c.keep (fun b h=>Below.heap_alloc _ _ _ h.2) fun b h=>⟨h.1,by have:=h.2;simp;omega,by have:=h.2;omega⟩⟩
  ·have e:1+k*2-(#[Value.map o]:Array Zv).size=k*2:=by show 1+k*2-1=_;omega
   rw[Array.getElem?_append_right (by show 1<=_;omega),e];exact a
  ·have e:1+k*2+1-(#[Value.map o]:Array Zv).size=k*2+1:=by show 1+k*2+1-1=_;omega
   rw[Array.getElem?_append_right (by show 1<=_;omega),e];exact b
 clear m i p g;go_wp2_with fail;rw[show (#[Value.map o]++cs.push (Zi Zk 0))=(#[Value.map o]++cs).push (Zi Zk 0) by simp];unfold lB at n;go_ret;exact n.out
end Go.Proofs.YtcfojmaccikgeaaGreatDoor
