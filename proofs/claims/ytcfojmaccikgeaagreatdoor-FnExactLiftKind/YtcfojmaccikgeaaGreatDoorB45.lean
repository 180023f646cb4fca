import Derived.Test.YtcfojmaccikgeaaGreatDoorB35
import Derived.Test.YtcfojmaccikgeaaGreatDoorB44
import Derived.Laws.EntriesVeiled
import Derived.Deep.Cut
open Go.Value renaming slice→Zs,int→Zi,pointer→Zp,agg→Za
open Go.IntKind renaming i64→Zk
open Go.Obj renaming cells→Zc
open Option renaming none→Zn,some→Zo
open Go renaming World→Zw,Value→Zv
open List renaming length_cons→Zy
namespace Go.Proofs.YtcfojmaccikgeaaGreatDoor
open Go.RowKit Go.Proofs.Tryz
set_option maxRecDepth 100000
set_option maxHeartbeats 16000000
variable {k s q n:Nat} {mv v wv f g:Zv} {d d':Wd} {V:Zw} {x y:Operand} {ts:Array TypeId} {α:Type}
def mh(v:Zv):Prop:=∃c a b,v=.func c a b
def I9(v:Zv):Prop:=∃x n c,v=Zs x n c
def JM(B:Nat)(d:Md)(v:Zv)(W:Zw):Prop:=mh v/\∀a,Bw W a->kB (pY B a) a (Zo d) v
def JW(B:Nat)(d:Wd)(v:Zv)(W:Zw):Prop:=mh v/\∀a,Bw W a->kH (pY B a) a d v
def JS(B:Nat)(ds:List Wd)(v:Zv)(W:Zw):Prop:=I9 v/\∀a,Bw W a->lx (pY B a) a (kH (pY B a) a) ds v
def DI(k:Nat)(mv:Zv):Prop:=match je k with|Zo _=>mh mv|Zn=>mv=.nilFunc
theorem DI.or(h:DI k mv):mh mv∨mv=.nilFunc:=by
 unfold DI at h;split at h;·exact .inl h
 ·exact .inr h
def JR(B k:Nat)(v:Zv)(W:Zw):Prop:=∃a mv,v=Za #[a,mv]/\I9 a/\DI k mv/\∀b,Bw W b->kT (pY B b) b k a mv
theorem gm{a b c:Zw}(d:Bw a b)(e:Bw b c):Bw a c:=d.trans (e.mono d.size)
theorem JM.on{B:Nat}{d:Md}{W:Zw}(h:JM B d v W)(b:Bw W V):JM B d v V:=⟨h.1,fun c a=>h.2 c (gm b a)⟩
theorem JW.on{B:Nat}{W:Zw}(h:JW B d v W)(b:Bw W V):JW B d v V:=⟨h.1,fun c a=>h.2 c (gm b a)⟩
theorem JS.on{B:Nat}{d:List Wd}{W:Zw}(h:JS B d v W)(b:Bw W V):JS B d v V:=⟨h.1,fun c a=>h.2 c (gm b a)⟩
theorem JR.on{B:Nat}{W:Zw}(h:JR B k v W)(g:Bw W V):JR B k v V:=by obtain⟨f,mv,b,a,c,e⟩:=h;exact⟨f,mv,b,a,c,fun i d=>e i (gm g d)⟩
def k5(o:Oper)(a:Act)(W:Zw)(J:Zv->Zw->Prop)(c:Act)(b:Zw):Prop:=∃v,c=a.put o.dst v/\Bw W b/\J v b
section
variable {o:Oper} {a:Act} {W:Zw} {Q:Exit->Act->Zw->Prop} {J:Zv->Zw->Prop}
theorem lc(d:o.op=.move (.tmp s))(c:a.tmps.getD s undef=v)(b:J v W):Oper.wp prog o a W (k5 o a W J) Q:=by
 unfold Oper.wp;have:a.eval (.tmp s)=v:=by simpa [Act.eval] using c
 simp[execOp,d,this];exact⟨v,rfl,Below.refl _ _,b⟩
theorem Bg(b:I9 wv)(a:mh mv∨mv=.nilFunc):prog.built 136 [(0,wv),(1,mv)]=Zo #[wv,mv]:=by
 obtain⟨x,n,c,rfl⟩:=b;rcases a with ⟨d,p,q,rfl⟩|rfl;·kernel_rfl
 ·kernel_rfl
theorem nZ{B:Nat}(g:o.op=.build 136 #[(0,x),(1,y)])(h:a.eval x=wv)(hy:a.eval y=mv)(d:I9 wv)(c:DI k mv)(j:∀b,Bw W b->kT (pY B b) b k wv mv):Oper.wp prog o a W (k5 o a W (JR B k)) Q:=by
 have f:=Bg d c.or;have e:(Array.map (fun p:Nat×Operand=>match p with|(i,x)=>(i,a.eval x)) #[(0,x),(1,y)]).toList=[(0,wv),(1,mv)]:=by simp[h,hy]
 refine wp_build 136 #[(0,x),(1,y)] g ?_ ?_;·rw[e,f];rfl
 ·rw[e,f];exact⟨_,rfl,Below.refl _ _,wv,mv,rfl,d,c,j⟩
theorem JO(a:mh f)(w:Zw):(Instr.buildSlice 132 1 #[(0,f)]).run prog w=.ok (Zs (Zo ⟨w.heap.size,0,Zn⟩) 1 1) (w.alloc (Zc #[f] 184)):=by obtain⟨b,p,q,rfl⟩:=a;kernel_rfl
theorem JQ(a:mh f)(b:mh g)(w:Zw):(Instr.buildSlice 132 2 #[(0,f),(1,g)]).run prog w=.ok (Zs (Zo ⟨w.heap.size,0,Zn⟩) 2 2) (w.alloc (Zc #[f,g] 184)):=by obtain⟨h,p,q,rfl⟩:=a;obtain⟨c,d,e,rfl⟩:=b;kernel_rfl
theorem JL{h:Zv}(b:mh f)(d:mh g)(a:mh h)(w:Zw):(Instr.buildSlice 132 3 #[(0,f),(1,g),(2,h)]).run prog w=.ok (Zs (Zo ⟨w.heap.size,0,Zn⟩) 3 3) (w.alloc (Zc #[f,g,h] 184)):=by obtain⟨k,p,q,rfl⟩:=b;obtain⟨i,c,e,rfl⟩:=d;obtain⟨j,c,e,rfl⟩:=a;kernel_rfl
theorem IP{B:Nat}{W a:Zw}{cs:Array Zv}{ds:List Wd}(j:B<=W.heap.size)(b:Below (W.alloc (Zc cs 184)).heap.size (W.alloc (Zc cs 184)) a)(l:ds.length<=1000)(g:∀i (h:i<ds.length),∃f,cs[i]?=Zo f/\kH (pY B a) a ds[i] f):lx (pY B a) a (kH (pY B a) a) ds (Zs (Zo ⟨W.heap.size,0,Zn⟩) ds.length ds.length):=by have e:=b.size;simp at e;have k:(W.alloc (Zc cs 184)).heap[W.heap.size]?=Zo (Zc cs 184 (0,0)):=heap_alloc_new _ _;refine⟨_,_,rfl,by unfold maxLen;omega,fun _=>⟨W.heap.size,0,rfl,⟨j,om⟩,fun i h=>?_⟩⟩;obtain⟨f,d,c⟩:=g i h;exact⟨f,kC b (pW k _ _ (by simpa using d)) zS,c⟩
theorem uU{B:Nat}(g:o.op=.buildSlice 132 1 #[(0,x)])(j:a.eval x=f)(b:JW B d f W)(k:B<=W.heap.size):Oper.wp prog o a W (k5 o a W (JS B [d])) Q:=by
 unfold Oper.wp;have e:=JO b.1 W;simp[execOp,g,j,e,Result.andThen];refine⟨_,rfl,gF _ _,⟨_,_,_,rfl⟩,fun l c=>?_⟩;exact IP (ds:=[d]) k c zS fun i h=>by
  rcases i with _|i;·exact⟨f,rfl,b.2 l (gm (gF _ _) c)⟩
  ·simp at h
theorem qD{B:Nat}(m:o.op=.buildSlice 132 2 #[(0,x),(1,y)])(n:a.eval x=f)(hy:a.eval y=g)(b:JW B d f W)(e:JW B d' g W)(p:B<=W.heap.size):Oper.wp prog o a W (k5 o a W (JS B [d,d'])) Q:=by
 unfold Oper.wp;have l:=JQ b.1 e.1 W;simp[execOp,m,n,hy,l,Result.andThen];refine⟨_,rfl,gF _ _,⟨_,_,_,rfl⟩,fun k c=>?_⟩;have j:=gm ((Below.refl W.heap.size W).alloc (Nat.le_refl _) _) c;exact IP (ds:=[d,d']) p c zS fun i h=>by
  rcases i with _|_|i;·exact⟨f,rfl,b.2 k j⟩
  ·exact⟨g,rfl,e.2 k j⟩
  ·exfalso;simp only[Zy,List.length_nil]at h;omega
theorem vs{B:Nat}{z:Operand}{q:Zv}{b:Wd}(p:o.op=.buildSlice 132 3 #[(0,x),(1,y),(2,z)])(s:a.eval x=f)(hy:a.eval y=g)(n:a.eval z=q)(j:JW B d f W)(l:JW B d' g W)(m:JW B b q W)(t:B<=W.heap.size):Oper.wp prog o a W (k5 o a W (JS B [d,d',b])) Q:=by
 unfold Oper.wp;have r:=JL j.1 l.1 m.1 W;simp[execOp,p,s,hy,n,r,Result.andThen];refine⟨_,rfl,gF _ _,⟨_,_,_,rfl⟩,fun e k=>?_⟩;have c:=gm ((Below.refl W.heap.size W).alloc (Nat.le_refl _) _) k;exact IP (ds:=[d,d',b]) t k zS fun i h=>by
  rcases i with _|_|_|i;·exact⟨f,rfl,j.2 e c⟩
  ·exact⟨g,rfl,l.2 e c⟩
  ·exact⟨q,rfl,m.2 e c⟩
  ·exfalso;simp only[Zy,List.length_nil]at h;omega
theorem qm{f:Nat}{xs:Array Operand}{args:Array Zv} (g:o.op=.call { callee:=.value (.func f),args:=xs,argTypes:=ts }) (i:xs.map a.eval=args) (d:(callFunc f args).run prog W=.ok (.enter f args) W) (h:Calls prog f args W fun e b=>∃v,e=.returned v/\Bw W b/\J v b):Oper.wp prog o a W (k5 o a W J) Q:=by unfold Oper.wp;have c:(xs.map fun x=>a.eval x)=args:=i;simp[execOp,g,resolve,invoke,Act.eval,c,d,Deferred.ofValue];refine h.mono ?_;rintro e b ⟨v,rfl,k,j⟩;exact⟨v,rfl,k,j⟩
theorem BZ{b:Nat}{B:Nat}(h:o.op=.load 136 (.tmp s))(l:a.tmps.getD s undef=Zp (Zo ⟨b,0,Zn⟩))(u:W.cell? ⟨b,0,Zn⟩=Zo wv)(t:W.cell? ⟨b,1,Zn⟩=Zo mv)(i:I9 wv)(f:mh mv)(m:DI k mv)(j:∀e,Bw W e->kT (pY B e) e k wv mv):Oper.wp prog o a W (k5 o a W (JR B k)) Q:=by
 have d:a.eval (.tmp s)=Zp (Zo ⟨b,0,Zn⟩):=by simpa [Act.eval] using l
 obtain⟨x,n,c,rfl⟩:=i;obtain⟨r,p,q,rfl⟩:=f;have g:(execOp a.eval o).run prog W=.ok (.value (Za #[Zs x n c,.func r p q])) W:=by simp[execOp,h,d];go_simp
 unfold Oper.wp;rw[g];exact⟨_,rfl,Below.refl _ _,_,_,rfl,⟨_,_,_,rfl⟩,m,j⟩
def JI(B:Nat)(v:Zv)(W:Zw):Prop:=∃b,v=Zs (Zo ⟨b,0,Zn⟩) 2 2/\B<=b/\b<W.heap.size/\W.cell? ⟨b,0,Zn⟩=Zo (Zi Zk 1)/\W.cell? ⟨b,1,Zn⟩=Zo (Zi Zk 2)
theorem JI.on{B:Nat}{W:Zw}(h:JI B v W)(c:Bw W V):JI B v V:=by obtain⟨b,f,d,a,g,e⟩:=h;exact⟨b,f,d,Nat.lt_of_lt_of_le a c.size,kC c g a,kC c e a⟩
theorem GY{B:Nat}(d:o.op=.buildSlice 223 2 #[(0,.const (Zi Zk 1)),(1,.const (Zi Zk 2))])(b:B<=W.heap.size):Oper.wp prog o a W (k5 o a W (JI B)) Q:=by have c:(Instr.buildSlice 223 2 #[(0,Zi Zk 1),(1,Zi Zk 2)]).run prog W=.ok (Zs (Zo ⟨W.heap.size,0,Zn⟩) 2 2) (W.alloc (Zc #[Zi Zk 1,Zi Zk 2] 3)):=zK;unfold Oper.wp;simp[execOp,d,Act.eval,c,Result.andThen];exact⟨_,rfl,gF _ _,_,rfl,b,zS,by simp[go_sem],by simp[go_sem]⟩
theorem BI{B:Nat} (d:o.op=.call { callee:=.value (.func 121),args:=#[.const (Zi Zk (q:Int))],argTypes:=ts }) (g:B<=W.heap.size):Oper.wp prog o a W (k5 o a W (JW B (.like q))) Q:=
 qm d (args:=#[Zi Zk (q:Int)]) (by simp[Act.eval]) (Tryz.call121 _ _) ((Ef B q W g).mono fun e h ⟨p,c,b,f⟩=>⟨_,c,b,⟨_,_,_,rfl⟩,f.out⟩)
theorem Fl{B:Nat} (d:o.op=.call { callee:=.value (.func 123),args:=#[.const (Zi Zk (q:Int))],argTypes:=ts }) (g:B<=W.heap.size):Oper.wp prog o a W (k5 o a W (JM B (.kid q))) Q:=
 qm d (args:=#[Zi Zk (q:Int)]) (by simp[Act.eval]) (Tryz.call123 _ _) ((wA B q W g).mono fun e h ⟨p,c,b,f⟩=>⟨_,c,b,⟨_,_,_,rfl⟩,f.out⟩)
theorem G1{B:Nat}{s:Int} (f:o.op=.call { callee:=.value (.func 119),args:=#[.const (Zi Zk s)],argTypes:=ts }) (h:B<=W.heap.size) (c:s≠5):Oper.wp prog o a W (k5 o a W (JM B (.said s))) Q:=
 qm f (args:=#[Zi Zk s]) (by simp[Act.eval]) (Tryz.call119 _ _) ((CL B s W h c).mono fun e i ⟨p,d,b,g⟩=>⟨_,d,b,⟨_,_,_,rfl⟩,g.out⟩)
theorem Ce{B:Nat}{s:Int} (f:o.op=.call { callee:=.value (.func 120),args:=#[.const (Zi Zk s),.const (Zi Zk (q:Int))],argTypes:=ts }) (h:B<=W.heap.size) (c:s≠5):Oper.wp prog o a W (k5 o a W (JM B (.wrap s q))) Q:=
 qm f (args:=#[Zi Zk s,Zi Zk (q:Int)]) (by simp[Act.eval]) (Tryz.call120 _ _) ((vG B s q W h c).mono fun e i ⟨p,j,d,b,g⟩=>⟨_,d,b,⟨_,_,_,rfl⟩,g.out⟩)
theorem G6{B:Nat} (m:o.op=.call { callee:=.value (.func 116),args:=#[.tmp s],argTypes:=ts }) (f:JI B (a.tmps.getD s undef) W) (r:B<=W.heap.size):Oper.wp prog o a W (k5 o a W (JW B (.sorts [1,2]))) Q:=by
 obtain⟨b,d,c,n,q,j⟩:=f;have g:a.eval (.tmp s)=Zs (Zo ⟨b,0,Zn⟩) 2 2:=by simpa [Act.eval] using d
 refine qm m (args:=#[Zs (Zo ⟨b,0,Zn⟩) 2 2]) (by simp[g]) (Tryz.call116 _ _) ((jE B [1,2] b 2 W c r zC n fun i h=>?_).mono fun e u ⟨p,k,t,l⟩=>⟨_,k,t,⟨_,_,_,rfl⟩,l.out⟩);rcases i with _|_|i;·simpa using q
 ·simpa using j
 ·exfalso;simp only[Zy,List.length_nil]at h;omega
end
theorem Dv{B:Nat}{W:Zw}:lx (pY B W) W (kH (pY B W) W) [] (Zs Zn 0 0):=⟨Zn,0,rfl,by show (0:Nat)<=maxLen;unfold maxLen;omega,fun h=>absurd rfl h⟩
def JB(B:Nat)(v:Zv)(W:Zw):Prop:=∃cs:Array Zv,v=Za cs/\cs.size=88/\cs.all (·.oneCell')=true/\(∀o,Array.foldl (fun (cs:Array Zv) (x:Zv×Nat)=>cs.setIfInBounds (1+x.snd) x.fst) (Tryz.zeroCells141.setIfInBounds 0 (.map o)) (Array.zipIdx cs) 0 88=(#[Value.map o]++cs).push (Zi Zk 0))/\∀k,1<=k->k<44->∃b mv,cs[k*2]?=Zo b/\cs[k*2+1]?=Zo mv/\∀a,Bw W a->kT (pY B a) a k b mv
theorem JB.on{B:Nat}{W:Zw}(h:JB B v W)(l:Bw W V):JB B v V:=by obtain⟨cs,d,c,g,f,j⟩:=h;refine⟨cs,d,c,g,f,fun k a b=>?_⟩;obtain⟨e,mv,x,y,z⟩:=j k a b;exact⟨e,mv,x,y,fun m i=>z m (gm l i)⟩
abbrev Jd:=Md ⊕ Wd ⊕ List Wd ⊕ Nat
abbrev Jd.M(d:Md):Jd:=.inl d
abbrev Jd.W(d:Wd):Jd:=.inr (.inl d)
abbrev Jd.S(d:List Wd):Jd:=.inr (.inr (.inl d))
abbrev Jd.I:Jd:=.inr (.inr (.inr 0))
abbrev Jd.B:Jd:=.inr (.inr (.inr 1))
abbrev Jd.R(k:Nat):Jd:=.inr (.inr (.inr (k+2)))
def Ju(X:Nat):Jd->Zv->Zw->Prop
 | .inl d=>JM X d
 | .inr (.inl d)=>JW X d
 | .inr (.inr (.inl d))=>JS X d
 | .inr (.inr (.inr 0))=>JI X
 | .inr (.inr (.inr 1))=>JB X
 | .inr (.inr (.inr (k+2)))=>JR X k
theorem IA{X:Nat}{j:Jd}{W:Zw}(h:Ju X j v W)(a:Bw W V):Ju X j v V:=by
 rcases j with d|d|d|_|_|k;·exact JM.on h a
 ·exact JW.on h a
 ·exact JS.on h a
 ·exact JI.on h a
 ·exact JB.on h a
 ·exact JR.on h a
def IV:List Jd:=[.M (.leaf 1),.R 1,.M (.leaf 2),.R 2,.M (.leaf 3),.R 3,.R 4,.M (.said 6),.R 5,.M (.said 4),.R 6,.M (.wrap 6 0),.R 7,.M (.wrap 4 0),.R 8,.R 9,.R 10,.R 11,.R 12,.R 13,.I,.W (.sorts [1,2]),.W (.like 0),.S [.sorts [1,2],.like 0],.M (.leaf 3),.R 14,.W (.like 0),.S [.any,.like 0],.M (.leaf 3),.R 15,.R 16,.R 17,.W (.sorts [3]),.S [.sorts [3]],.M (.leaf 3),.R 18,.W (.sorts [3]),.W (.like 1),.S [.sorts [3],.any,.like 1],.M (.kid 1),.R 19,.M (.kid 1),.R 20,.W (.sorts [5]),.S [.sorts [5]],.R 21,.W (.sorts [5]),.S [.sorts [5]],.R 22,.W (.sorts [5]),.S [.sorts [5]],.R 23,.R 24,.W (.sorts [4]),.W (.sorts [1]),.S [.sorts [4],.sorts [1]],.R 25,.W (.sorts [4,2]),.S [.sorts [4,2]],.M (.leaf 1),.R 26,.W (.sorts [4,2]),.W (.like 0),.S [.sorts [4,2],.like 0],.M (.kid 0),.R 27,.W (.sorts [4,2]),.W (.sorts [1]),.W (.sorts [1]),.S [.sorts [4,2],.sorts [1],.sorts [1]],.M (.kid 0),.R 28,.W (.sorts [1]),.S [.sorts [1]],.M (.leaf 2),.R 29,.W (.sorts [2]),.S [.sorts [2]],.R 30,.W (.sorts [6]),.S [.sorts [6],.within],.M (.kid 1),.R 31,.W (.sorts [6]),.W (.like 1),.S [.sorts [6],.any,.like 1],.M (.kid 1),.R 32,.W (.sorts [4]),.S [.sorts [4]],.M (.wrap 4 1),.R 33,.W (.sorts [4]),.W (.sorts [3]),.S [.sorts [4],.sorts [3]],.M (.kid 0),.R 34,.W (.sorts [4]),.W (.like 1),.S [.sorts [4],.any,.like 1],.M (.kid 1),.R 35,.S [.sink],.R 38,.S [.sink],.R 39,.W (.sorts [3]),.S [.sorts [3]],.R 41,.W (.sorts [4]),.S [.sorts [4]],.R 43,.B]
def Hm(p:Nat->Prop):Nat->Prop
 | 0=>True
 | n+1=>Hm p n/\p n
theorem Hm.get{p:Nat->Prop}:∀ {n:Nat},Hm p n->∀i,i<n->p i:=by
 intro n;induction n with
 | zero=>intro _ i h;omega
 | succ n a=>
  intro h i hi;by_cases e:i=n;·subst e;exact h.2
  ·exact a h.1 i om
theorem EW{a:Array Oper}{R:Nat->Oper->Prop}(h:Hm (fun i=>∀o,a[i]?=Zo o->R i o) n):∀i o,i<n->a[i]?=Zo o->R i o:=fun i o hi b=>h.get i hi o b
theorem BS{x:Option α}{o a:α}(b:x=Zo o)(c:x=Zo a):o=a:=Option.some.inj (b.symm.trans c)
theorem me{l:Array α}{e:α}(i:Nat)(h:l[i]?=Zo e):e∈l:=Array.mem_of_getElem? h
theorem nf(h:k<40):∀i,i<n->40+i≠k:=fun i _=>by omega
theorem wu(w:Zw):Calls prog 82 #[] w fun e w'=>∃cs:Array Zv,e=.returned (Za cs)/\Bw w w' /\ cs.size=88/\(∀o,Array.foldl (fun (cs:Array Zv) (x:Zv×Nat)=>cs.setIfInBounds (1+x.snd) x.fst) (Tryz.zeroCells141.setIfInBounds 0 (.map o)) (Array.zipIdx cs) 0 88=(#[Value.map o]++cs).push (Zi Zk 0))/\∀k,1<=k->k<44->∃wv mv,cs[k*2]?=Zo wv/\cs[k*2+1]?=Zo mv/\kT (pY w.heap.size w') w' k wv mv:=by
 go_in;go_wp2_with fail;refine (jE (w.heap.size+1) [1] _ _ _ (by simp<;>omega) (by simp<;>omega) zC zS (fun i h=>by rcases i with _|_|i<;>first|(simp[go_sem];done)|(exfalso;simp only[Zy,List.length_nil]at h;omega))).mono ?_;rintro e w1 ⟨A,rfl,g,df⟩;have c1:Bw w w1:=gm (((Below.refl _ _).alloc (by simp<;>omega) _).alloc (by simp<;>omega) _) g;have z1:w.heap.size+1<=w1.heap.size:=by have y:=g.size;(try simp at y);omega
 have HZ:Hid (∃cz,w1.heap[w.heap.size]?=Zo (Zc cz 138 (0,0))/\cz.size=88):=⟨_,(g.block w.heap.size (by simp<;>omega)).trans ((Below.heap_alloc _ _ _ zS).trans (heap_alloc_new _ _)),zK⟩;clear g;go_wp2_with fail;refine (jE (w.heap.size+1) [2] _ _ _ (by have:=z1;simp<;>omega) (by have:=z1;simp<;>omega) zC zS (fun i h=>by rcases i with _|_|i<;>first|(simp[go_sem];done)|(exfalso;simp only[Zy,List.length_nil]at h;omega))).mono ?_;rintro e w2 ⟨dT,rfl,g,db⟩;have c2:Bw w1 w2:=gm ((Below.refl _ _).alloc (by simp<;>omega) _) g;have z2:w.heap.size+1<=w2.heap.size:=by have y:=g.size;(try simp at y);have:=z1;omega
 clear g;go_wp2_with fail;refine (jE (w.heap.size+1) [3] _ _ _ (by have:=z2;simp<;>omega) (by have:=z2;simp<;>omega) zC zS (fun i h=>by rcases i with _|_|i<;>first|(simp[go_sem];done)|(exfalso;simp only[Zy,List.length_nil]at h;omega))).mono ?_;rintro e w3 ⟨z,rfl,g,dd⟩;have c3:Bw w2 w3:=gm ((Below.refl _ _).alloc (by simp<;>omega) _) g;have z3:w.heap.size+1<=w3.heap.size:=by have y:=g.size;(try simp at y);have:=z2;omega
 clear g;go_wp2_with fail;refine (jE (w.heap.size+1) [4] _ _ _ (by have:=z3;simp<;>omega) (by have:=z3;simp<;>omega) zC zS (fun i h=>by rcases i with _|_|i<;>first|(simp[go_sem];done)|(exfalso;simp only[Zy,List.length_nil]at h;omega))).mono ?_;rintro e w4 ⟨dP,rfl,g,da⟩;have c4:Bw w3 w4:=gm ((Below.refl _ _).alloc (by simp<;>omega) _) g;have z4:w.heap.size+1<=w4.heap.size:=by have y:=g.size;(try simp at y);have:=z3;omega
 clear g;go_wp2_with fail;refine (jE (w.heap.size+1) [5] _ _ _ (by have:=z4;simp<;>omega) (by have:=z4;simp<;>omega) zC zS (fun i h=>by rcases i with _|_|i<;>first|(simp[go_sem];done)|(exfalso;simp only[Zy,List.length_nil]at h;omega))).mono ?_;rintro e w5 ⟨eg,rfl,g,dc⟩;have c5:Bw w4 w5:=gm ((Below.refl _ _).alloc (by simp<;>omega) _) g;have z5:w.heap.size+1<=w5.heap.size:=by have y:=g.size;(try simp at y);have:=z4;omega
 clear g;go_wp2_with fail;refine (jE (w.heap.size+1) [6] _ _ _ (by have:=z5;simp<;>omega) (by have:=z5;simp<;>omega) zC zS (fun i h=>by rcases i with _|_|i<;>first|(simp[go_sem];done)|(exfalso;simp only[Zy,List.length_nil]at h;omega))).mono ?_;rintro e w6 ⟨dR,rfl,g,dg⟩;have c6:Bw w5 w6:=gm ((Below.refl _ _).alloc (by simp<;>omega) _) g;have z6:w.heap.size+1<=w6.heap.size:=by have y:=g.size;(try simp at y);have:=z5;omega
 clear g;go_wp2_with fail;refine (jE (w.heap.size+1) [4,2] _ _ _ (by have:=z6;simp<;>omega) (by have:=z6;simp<;>omega) zC zS (fun i h=>by rcases i with _|_|i<;>first|(simp[go_sem];done)|(exfalso;simp only[Zy,List.length_nil]at h;omega))).mono ?_;rintro e w7 ⟨dU,rfl,g,de⟩;have c7:Bw w6 w7:=gm ((Below.refl _ _).alloc (by simp<;>omega) _) g;have z7:w.heap.size+1<=w7.heap.size:=by have y:=g.size;(try simp at y);have:=z6;omega
 clear g;go_wp2_with fail;refine (qB (w.heap.size+1) 1 _ (by have:=z7;simp<;>omega) zC).mono ?_;rintro e w8 ⟨cZ,rfl,g,ee⟩;have c8:Bw w7 w8:=gm (Below.refl _ _) g;have z8:w.heap.size+1<=w8.heap.size:=by have y:=g.size;(try simp at y);have:=z7;omega
 clear g;go_wp2_with fail;refine (qB (w.heap.size+1) 2 _ (by have:=z8;simp<;>omega) zC).mono ?_;rintro e w9 ⟨fy,rfl,g,eb⟩;have c9:Bw w8 w9:=gm (Below.refl _ _) g;have z9:w.heap.size+1<=w9.heap.size:=by have y:=g.size;(try simp at y);have:=z8;omega
 clear g;go_wp2_with fail;refine (qB (w.heap.size+1) 3 _ (by have:=z9;simp<;>omega) zC).mono ?_;rintro e d ⟨cY,rfl,g,dV⟩;have C:Bw w9 d:=gm (Below.refl _ _) g;have fG:w.heap.size+1<=d.heap.size:=by have y:=g.size;(try simp at y);have:=z9;omega
 clear g;have dm:Bw d d:=Below.refl _ _;have e9:Bw w9 d:=gm C dm;have e8:Bw w8 d:=gm c9 e9;have e7:Bw w7 d:=gm c8 e8;have e6:Bw w6 d:=gm c7 e7;have e5:Bw w5 d:=gm c6 e6;have e4:Bw w4 d:=gm c5 e5;have e3:Bw w3 d:=gm c4 e4;have e2:Bw w2 d:=gm c3 e3;have e1:Bw w1 d:=gm c2 e2;obtain⟨V,E⟩:=iw (((((d.alloc (Zc #[.func (.func 152) #[] #[Zp (Zo ⟨A,0,Zn⟩)],.func (.func 152) #[] #[Zp (Zo ⟨A,0,Zn⟩)]] 184)).alloc (Zc #[Zs (Zo ⟨d.heap.size,0,Zn⟩) 2 2,.func (.func 154) #[] #[Zp (Zo ⟨cZ,0,Zn⟩)]] 136)).alloc (Zc #[.func (.func 152) #[] #[Zp (Zo ⟨z,0,Zn⟩)],.func (.func 152) #[] #[Zp (Zo ⟨z,0,Zn⟩)]] 184)).alloc (Zc #[Zs (Zo ⟨d.heap.size+1+1,0,Zn⟩) 2 2,.func (.func 154) #[] #[Zp (Zo ⟨cY,0,Zn⟩)]] 136)).drew);have u:Bw d V:=by rw[E];exact ((((gF _ _).alloc zS _).alloc zE _).alloc zE _).drew
 have fH:d.heap.size+4<=V.heap.size:=by rw[E];show _<=(World.alloc _ _).heap.size;simp
 obtain⟨Nr,dE⟩:∃n,n=d.heap.size+1:=⟨_,rfl⟩;obtain⟨Nd,dk⟩:∃n,n=d.heap.size+1+1+1:=⟨_,rfl⟩;have ej:V.cell? ⟨Nr,0,Zn⟩=Zo (Zs (Zo ⟨d.heap.size,0,Zn⟩) 2 2):=by rw[E,dE];show (World.alloc _ _).cell? _=_;simp[go_sem]
 have eh:V.cell? ⟨Nr,1,Zn⟩=Zo (.func (.func 154) #[] #[Zp (Zo ⟨cZ,0,Zn⟩)]):=by rw[E,dE];show (World.alloc _ _).cell? _=_;simp[go_sem]
 have dZ:V.cell? ⟨Nd,0,Zn⟩=Zo (Zs (Zo ⟨d.heap.size+1+1,0,Zn⟩) 2 2):=by rw[E,dk];show (World.alloc _ _).cell? _=_;simp[go_sem]
 have dQ:V.cell? ⟨Nd,1,Zn⟩=Zo (.func (.func 154) #[] #[Zp (Zo ⟨cY,0,Zn⟩)]):=by rw[E,dk];show (World.alloc _ _).cell? _=_;simp[go_sem]
 have dX:V.cell? ⟨d.heap.size,0+0,Zn⟩=Zo (.func (.func 152) #[] #[Zp (Zo ⟨A,0,Zn⟩)]):=by rw[E];show (World.alloc _ _).cell? _=_;simp[go_sem]
 have ei:V.cell? ⟨d.heap.size,0+1,Zn⟩=Zo (.func (.func 152) #[] #[Zp (Zo ⟨A,0,Zn⟩)]):=by rw[E];show (World.alloc _ _).cell? _=_;simp[go_sem]
 have em:V.cell? ⟨d.heap.size+1+1,0+0,Zn⟩=Zo (.func (.func 152) #[] #[Zp (Zo ⟨z,0,Zn⟩)]):=by rw[E];show (World.alloc _ _).cell? _=_;simp[go_sem]
 have en:V.cell? ⟨d.heap.size+1+1,0+1,Zn⟩=Zo (.func (.func 152) #[] #[Zp (Zo ⟨z,0,Zn⟩)]):=by rw[E];show (World.alloc _ _).cell? _=_;simp[go_sem]
 have aH:Hid (JW (w.heap.size+1) (.sorts [1]) (.func (.func 152) #[] #[Zp (Zo ⟨A,0,Zn⟩)]) V):=⟨⟨_,_,_,rfl⟩,fun l r=>df.out l (gm e1 (gm u r))⟩;have dW:Hid (JW (w.heap.size+1) (.sorts [2]) (.func (.func 152) #[] #[Zp (Zo ⟨dT,0,Zn⟩)]) V):=⟨⟨_,_,_,rfl⟩,fun l r=>db.out l (gm e2 (gm u r))⟩;have bd:Hid (JW (w.heap.size+1) (.sorts [3]) (.func (.func 152) #[] #[Zp (Zo ⟨z,0,Zn⟩)]) V):=⟨⟨_,_,_,rfl⟩,fun l r=>dd.out l (gm e3 (gm u r))⟩;have dS:Hid (JW (w.heap.size+1) (.sorts [4]) (.func (.func 152) #[] #[Zp (Zo ⟨dP,0,Zn⟩)]) V):=⟨⟨_,_,_,rfl⟩,fun l r=>da.out l (gm e4 (gm u r))⟩;have ea:Hid (JW (w.heap.size+1) (.sorts [5]) (.func (.func 152) #[] #[Zp (Zo ⟨eg,0,Zn⟩)]) V):=⟨⟨_,_,_,rfl⟩,fun l r=>dc.out l (gm e5 (gm u r))⟩;have ek:Hid (JW (w.heap.size+1) (.sorts [6]) (.func (.func 152) #[] #[Zp (Zo ⟨dR,0,Zn⟩)]) V):=⟨⟨_,_,_,rfl⟩,fun l r=>dg.out l (gm e6 (gm u r))⟩;have ef:Hid (JW (w.heap.size+1) (.sorts [4,2]) (.func (.func 152) #[] #[Zp (Zo ⟨dU,0,Zn⟩)]) V):=⟨⟨_,_,_,rfl⟩,fun l r=>de.out l (gm e7 (gm u r))⟩;have ed:Hid (JM (w.heap.size+1) (.leaf 1) (.func (.func 154) #[] #[Zp (Zo ⟨cZ,0,Zn⟩)]) V):=⟨⟨_,_,_,rfl⟩,fun l r=>ee.out l (gm e8 (gm u r))⟩;have ft:Hid (JM (w.heap.size+1) (.leaf 2) (.func (.func 154) #[] #[Zp (Zo ⟨fy,0,Zn⟩)]) V):=⟨⟨_,_,_,rfl⟩,fun l r=>eb.out l (gm e9 (gm u r))⟩;have dY:Hid (JM (w.heap.size+1) (.leaf 3) (.func (.func 154) #[] #[Zp (Zo ⟨cY,0,Zn⟩)]) V):=⟨⟨_,_,_,rfl⟩,fun l r=>dV.out l (gm dm (gm u r))⟩;have Kr:Hid (∀ l,Bw V l->kT (pY (w.heap.size+1) l) l 9 (Zs (Zo ⟨d.heap.size,0,Zn⟩) 2 2) (.func (.func 154) #[] #[Zp (Zo ⟨cZ,0,Zn⟩)])):=fun l r=>⟨⟨_,_,rfl,by show (2:Nat)<=maxLen;unfold maxLen;omega,fun _=>⟨d.heap.size,0,rfl,⟨om,by have:=r.size;omega⟩,fun i h=>by
   rcases i with _|_|i
   ·exact⟨_,kC r dX om,aH.out.2 l r⟩
   ·exact⟨_,kC r ei om,aH.out.2 l r⟩
   ·exfalso;have h:i+1+1<2:=h;omega⟩⟩,ed.out.2 l r⟩
 have Kd:Hid (∀ l,Bw V l->kT (pY (w.heap.size+1) l) l 16 (Zs (Zo ⟨d.heap.size+1+1,0,Zn⟩) 2 2) (.func (.func 154) #[] #[Zp (Zo ⟨cY,0,Zn⟩)])):=fun l r=>⟨⟨_,_,rfl,by show (2:Nat)<=maxLen;unfold maxLen;omega,fun _=>⟨d.heap.size+1+1,0,rfl,⟨om,by have:=r.size;omega⟩,fun i h=>by
   rcases i with _|_|i
   ·exact⟨_,kC r em om,bd.out.2 l r⟩
   ·exact⟨_,kC r en om,bd.out.2 l r⟩
   ·exfalso;have h:i+1+1<2:=h;omega⟩⟩,dY.out.2 l r⟩
 have eP:Hid (∃cz,V.heap[w.heap.size]?=Zo (Zc cz 138 (0,0))/\cz.size=88):=by obtain⟨cz,h1,h2⟩:=HZ.out;have hl:=(Array.getElem?_eq_some_iff.1 h1).1;exact⟨cz,((gm e1 u).block _ hl).trans h1,h2⟩
 have fo:Hid (Bw w V):=gm c1 (gm e1 u);clear HZ dX ei em en c1 c2 c3 c4 c5 c6 c7 c8 c9 C e1 e2 e3 e4 e5 e6 e7 e8 e9 dm df db dd da dc dg de ee eb dV;go_upto_region 7 with fail;refine wp_region_held_drew (S:=fun _=>True) zK trivial (fun hHeld=>?_);clear hHeld;rw[<- E];clear E;subst dE;subst dk;refine F1 113 V _ (fun i=>Ju (w.heap.size+1) (IV.getD i .B)) (fun i=>40+i) _ zK rfl rfl (G5 zK) (Ix zK) (IB zK) (fun i j _ _ h=>by have h:40+i=40+j:=h;omega) (fun i hi=>by show 40+i<153;omega) (fun j v W l h g=>IA h g) ?step ?fin 113 _ _ _ V zK zC zK zK (Below.refl _ _) ⟨rfl,rfl⟩ (fun _ _=>rfl) (fun j hj h=>absurd h (by rw[I1 (Nat.lt_of_lt_of_le hj (Nat.le_of_ble_eq_true zK))];simp));case fin=>
  rename_i K hK;intro a W c dA m hj;have ep:=fun (k:Nat) (hk:k<40)=>m k (fun i hi h=>absurd (show (40+i:Nat)=k from h) om);clear m;obtain⟨cs,eW,hz,fB,eU,hr⟩:=hj 112 zC;obtain⟨cz,eo,fI⟩:=eP.out;have hl:=(Array.getElem?_eq_some_iff.1 eo).1;have hg:W.heap[w.heap.size]?=Zo (Zc cz 138 (0,0)):=(c.block _ hl).trans eo;refine wp_store_row 138 (.tmp 0) (.tmp 152) rfl w.heap.size cs (ep 0 om) eW 138 cz hg (by rw[hz];kernel_rfl) om fB ?_;have fA:(W.setRow w.heap.size cs).heap[w.heap.size]?=Zo (Zc cs 138 (0,0)):=by simp[World.setRow,Array.getElem?_modify,hg]
  have eB:=run_loadVar_row (P:=prog) _ _ 138 138 cs (0,0) _ fA underlying138 rfl (by rw[hz];kernel_rfl);have dh:∀b,b≠w.heap.size->(W.setRow w.heap.size cs).heap[b]?=W.heap[b]?:=fun b g=>by show (W.heap.modify _ _)[b]?=_;rw[Array.getElem?_modify,if_neg (fun h=>g h.symm)]
  have fm:Bw w (W.setRow w.heap.size cs):=by have g:=gm fo.out c;exact⟨g.os,g.tape,g.output,by simpa [World.setRow] using g.size,fun k hk=>(dh k om).trans (g.block k hk)⟩
  have eE:(W.setRow w.heap.size cs).heap.size=W.heap.size:=by simp[World.setRow]
  have HF:Hid (∃D:Array Zv,Ending.returned (Za cs)=.returned (Za D)/\Bw w (W.setRow w.heap.size cs)/\D.size=88/\(∀o,Array.foldl (fun (cs:Array Zv) (x:Zv×Nat)=>cs.setIfInBounds (1+x.snd) x.fst) (Tryz.zeroCells141.setIfInBounds 0 (.map o)) (Array.zipIdx D) 0 88=(#[Value.map o]++D).push (Zi Zk 0))/\∀k,1<=k->k<44->∃wv mv,D[k*2]?=Zo wv/\D[k*2+1]?=Zo mv/\kT (pY w.heap.size (W.setRow w.heap.size cs)) (W.setRow w.heap.size cs) k wv mv):=by refine⟨cs,rfl,fm,hz,eU,fun k h1 h2=>?_⟩;obtain⟨wv,mv,h3,h4,h5⟩:=hr k h1 h2;exact⟨wv,mv,h3,h4,(h5 W (Below.refl _ _)).keep (fun b g=>dh b (by have:=g.1;omega)) fun b g=>⟨by have:=g.1;omega,by rw[eE];exact g.2⟩⟩
  refine hK _ _ ?_;change Code.wp prog Code.ret _ a (W.setRow w.heap.size cs);refine wp_ret ?_;refine bodyPost_ret (o8 results82 _ _ ⟨w.heap.size,0,Zn⟩ _ (ep 0 om) eB) dA.2 ?_;exact HF.out
 case step=>
  have s:∀W,Bw V W->w.heap.size+1<=W.heap.size:=fun W h=>by have:=h.size;omega
  refine EW ?_;refine And.intro ?_ ?_;rotate_left
  ·intro o ho;cases BS ho rfl;intro a W c dA m f
   obtain⟨_,_,g1,⟨x1,n1,c1,rfl⟩,m1,r1⟩:=(f ⟨1,.data⟩ (me 0 rfl) rfl);obtain⟨f1,u1,v1,rfl⟩:mh _:=m1;obtain⟨_,_,g2,⟨x2,n2,c2,rfl⟩,m2,r2⟩:=(f ⟨3,.data⟩ (me 1 rfl) rfl);obtain⟨f2,u2,v2,rfl⟩:mh _:=m2;obtain⟨_,_,g3,⟨x3,n3,c3,rfl⟩,m3,r3⟩:=(f ⟨5,.data⟩ (me 2 rfl) rfl);obtain⟨f3,u3,v3,rfl⟩:mh _:=m3;obtain⟨_,_,g4,⟨x4,n4,c4,rfl⟩,m4,r4⟩:=(f ⟨6,.data⟩ (me 3 rfl) rfl);obtain⟨f4,u4,v4,rfl⟩:mh _:=m4;obtain⟨_,_,g5,⟨x5,n5,c5,rfl⟩,m5,r5⟩:=(f ⟨8,.data⟩ (me 4 rfl) rfl);obtain⟨f5,u5,v5,rfl⟩:mh _:=m5;obtain⟨_,_,g6,⟨x6,n6,c6,rfl⟩,m6,r6⟩:=(f ⟨10,.data⟩ (me 5 rfl) rfl);obtain⟨f6,u6,v6,rfl⟩:mh _:=m6;obtain⟨_,_,g7,⟨x7,n7,c7,rfl⟩,m7,r7⟩:=(f ⟨12,.data⟩ (me 6 rfl) rfl);obtain⟨f7,u7,v7,rfl⟩:mh _:=m7;obtain⟨_,_,g8,⟨x8,n8,c8,rfl⟩,m8,r8⟩:=(f ⟨14,.data⟩ (me 7 rfl) rfl);obtain⟨f8,u8,v8,rfl⟩:mh _:=m8;obtain⟨_,_,g9,⟨x9,n9,c9,rfl⟩,m9,r9⟩:=(f ⟨15,.data⟩ (me 8 rfl) rfl);obtain⟨f9,u9,v9,rfl⟩:mh _:=m9;obtain⟨_,_,dv,⟨aL,aq,C,rfl⟩,fw,fc⟩:=(f ⟨16,.data⟩ (me 9 rfl) rfl);obtain⟨cC,bM,bm,rfl⟩:mh _:=fw;obtain⟨_,_,dD,⟨cA,cB,bp,rfl⟩,fh,eH⟩:=(f ⟨17,.data⟩ (me 10 rfl) rfl);obtain⟨cd,av,bv,rfl⟩:mh _:=fh;obtain⟨_,_,dp,⟨cS,ab,ah,rfl⟩,eQ,eA⟩:=(f ⟨18,.data⟩ (me 11 rfl) rfl);obtain⟨ce,ax,bF,rfl⟩:mh _:=eQ;obtain⟨_,_,dG,⟨aY,br,aM,rfl⟩,fz,ez⟩:=(f ⟨19,.data⟩ (me 12 rfl) rfl);obtain⟨bN,cc,N,rfl⟩:mh _:=fz;obtain⟨_,_,dJ,⟨bu,aK,cw,rfl⟩,eT,fu⟩:=(f ⟨25,.data⟩ (me 13 rfl) rfl);obtain⟨L,cM,H,rfl⟩:mh _:=eT;obtain⟨_,_,dq,⟨af,aC,bV,rfl⟩,fn,eN⟩:=(f ⟨29,.data⟩ (me 14 rfl) rfl);obtain⟨ad,I,bj,rfl⟩:mh _:=fn;obtain⟨_,_,dC,⟨cy,aV,aa,rfl⟩,ey,ev⟩:=(f ⟨30,.data⟩ (me 15 rfl) rfl);obtain⟨bb,aW,J,rfl⟩:mh _:=ey;obtain⟨_,_,g17,⟨bo,cV,ae,rfl⟩,m17,es⟩:=(f ⟨31,.data⟩ (me 16 rfl) rfl);obtain⟨az,cG,cf,rfl⟩:mh _:=m17;obtain⟨_,_,g18,⟨cT,bi,cn,rfl⟩,m18,et⟩:=(f ⟨35,.data⟩ (me 17 rfl) rfl);obtain⟨aR,aF,cX,rfl⟩:mh _:=m18;obtain⟨_,_,g19,⟨aT,aG,bl,rfl⟩,m19,eL⟩:=(f ⟨40,.data⟩ (me 18 rfl) rfl);obtain⟨bU,cq,bz,rfl⟩:mh _:=m19;obtain⟨_,_,dw,⟨ag,cb,bH,rfl⟩,eR,fC⟩:=(f ⟨42,.data⟩ (me 19 rfl) rfl);obtain⟨ac,bL,v20,rfl⟩:mh _:=eR;obtain⟨_,_,dl,⟨bn,Q,bW,rfl⟩,eI,fv⟩:=(f ⟨45,.data⟩ (me 20 rfl) rfl);obtain⟨bq,aj,bt,rfl⟩:mh _:=eI;obtain⟨_,_,dy,⟨au,aD,M,rfl⟩,eK,fp⟩:=(f ⟨48,.data⟩ (me 21 rfl) rfl);obtain⟨ca,bG,v22,rfl⟩:mh _:=eK;obtain⟨_,_,dB,⟨aO,ao,aA,rfl⟩,eu,fa⟩:=(f ⟨51,.data⟩ (me 22 rfl) rfl);obtain⟨ar,cR,cO,rfl⟩:mh _:=eu;obtain⟨_,_,dF,⟨cE,aJ,X,rfl⟩,fe,fd⟩:=(f ⟨52,.data⟩ (me 23 rfl) rfl);obtain⟨bc,co,v24,rfl⟩:mh _:=fe;obtain⟨_,_,dM,⟨cP,bP,aN,rfl⟩,eY,fx⟩:=(f ⟨56,.data⟩ (me 24 rfl) rfl);obtain⟨bK,Y,bZ,rfl⟩:mh _:=eY;obtain⟨_,_,dr,⟨ba,Z,am,rfl⟩,fF,fr⟩:=(f ⟨60,.data⟩ (me 25 rfl) rfl);obtain⟨f26,ck,bQ,rfl⟩:mh _:=fF;obtain⟨_,_,dj,⟨bg,bR,bO,rfl⟩,eJ,fs⟩:=(f ⟨65,.data⟩ (me 26 rfl) rfl);obtain⟨bD,T,aI,rfl⟩:mh _:=eJ;obtain⟨_,_,dN,⟨cI,bJ,an,rfl⟩,eq,eX⟩:=(f ⟨71,.data⟩ (me 27 rfl) rfl);obtain⟨G,cr,bw,rfl⟩:mh _:=eq;obtain⟨_,_,dI,⟨bx,bX,cx,rfl⟩,eF,ew⟩:=(f ⟨75,.data⟩ (me 28 rfl) rfl);obtain⟨bI,bB,cm,rfl⟩:mh _:=eF;obtain⟨_,_,dO,⟨cF,U,aU,rfl⟩,ex,eD⟩:=(f ⟨78,.data⟩ (me 29 rfl) rfl);obtain⟨bf,ct,cW,rfl⟩:mh _:=ex;obtain⟨_,_,dx,⟨bY,cQ,ch,rfl⟩,eS,fE⟩:=(f ⟨82,.data⟩ (me 30 rfl) rfl);obtain⟨cN,ai,bS,rfl⟩:mh _:=eS;obtain⟨_,_,ds,⟨F,aB,cU,rfl⟩,eC,fD⟩:=(f ⟨87,.data⟩ (me 31 rfl) rfl);obtain⟨bE,ap,cH,rfl⟩:mh _:=eC;obtain⟨_,_,du,⟨be,aX,cg,rfl⟩,fj,ff⟩:=(f ⟨91,.data⟩ (me 32 rfl) rfl);obtain⟨f33,bk,aE,rfl⟩:mh _:=fj;obtain⟨_,_,dK,⟨cu,cj,R,rfl⟩,fi,eV⟩:=(f ⟨96,.data⟩ (me 33 rfl) rfl);obtain⟨f34,bh,cJ,rfl⟩:mh _:=fi;obtain⟨_,_,dH,⟨cL,al,aZ,rfl⟩,eO,eG⟩:=(f ⟨101,.data⟩ (me 34 rfl) rfl);obtain⟨ci,cD,aw,rfl⟩:mh _:=eO;obtain⟨_,_,dt,⟨O,aQ,bC,rfl⟩,eZ,fg⟩:=(f ⟨103,.data⟩ (me 35 rfl) rfl);obtain rfl:_=Value.nilFunc:=eZ;obtain⟨_,_,dL,⟨cK,bA,ak,rfl⟩,fb,eM⟩:=(f ⟨105,.data⟩ (me 36 rfl) rfl);obtain rfl:_=Value.nilFunc:=fb;obtain⟨_,_,dz,⟨bT,aS,ay,rfl⟩,er,fk⟩:=(f ⟨108,.data⟩ (me 37 rfl) rfl);obtain rfl:_=Value.nilFunc:=er;obtain⟨_,_,di,⟨cv,aP,cl,rfl⟩,fq,fl⟩:=(f ⟨111,.data⟩ (me 38 rfl) rfl);obtain rfl:_=Value.nilFunc:=fq;have g1:a.eval (.tmp 41)=Za #[Zs x1 n1 c1,.func f1 u1 v1]:=g1;have g2:a.eval (.tmp 43)=Za #[Zs x2 n2 c2,.func f2 u2 v2]:=g2;have g3:a.eval (.tmp 45)=Za #[Zs x3 n3 c3,.func f3 u3 v3]:=g3;have g4:a.eval (.tmp 46)=Za #[Zs x4 n4 c4,.func f4 u4 v4]:=g4;have g5:a.eval (.tmp 48)=Za #[Zs x5 n5 c5,.func f5 u5 v5]:=g5;have g6:a.eval (.tmp 50)=Za #[Zs x6 n6 c6,.func f6 u6 v6]:=g6;have g7:a.eval (.tmp 52)=Za #[Zs x7 n7 c7,.func f7 u7 v7]:=g7;have g8:a.eval (.tmp 54)=Za #[Zs x8 n8 c8,.func f8 u8 v8]:=g8;have g9:a.eval (.tmp 55)=Za #[Zs x9 n9 c9,.func f9 u9 v9]:=g9;have dv:a.eval (.tmp 56)=Za #[Zs aL aq C,.func cC bM bm]:=dv;have dD:a.eval (.tmp 57)=Za #[Zs cA cB bp,.func cd av bv]:=dD;have dp:a.eval (.tmp 58)=Za #[Zs cS ab ah,.func ce ax bF]:=dp;have dG:a.eval (.tmp 59)=Za #[Zs aY br aM,.func bN cc N]:=dG;have dJ:a.eval (.tmp 65)=Za #[Zs bu aK cw,.func L cM H]:=dJ;have dq:a.eval (.tmp 69)=Za #[Zs af aC bV,.func ad I bj]:=dq;have dC:a.eval (.tmp 70)=Za #[Zs cy aV aa,.func bb aW J]:=dC;have g17:a.eval (.tmp 71)=Za #[Zs bo cV ae,.func az cG cf]:=g17;have g18:a.eval (.tmp 75)=Za #[Zs cT bi cn,.func aR aF cX]:=g18;have g19:a.eval (.tmp 80)=Za #[Zs aT aG bl,.func bU cq bz]:=g19;have dw:a.eval (.tmp 82)=Za #[Zs ag cb bH,.func ac bL v20]:=dw;have dl:a.eval (.tmp 85)=Za #[Zs bn Q bW,.func bq aj bt]:=dl;have dy:a.eval (.tmp 88)=Za #[Zs au aD M,.func ca bG v22]:=dy;have dB:a.eval (.tmp 91)=Za #[Zs aO ao aA,.func ar cR cO]:=dB;have dF:a.eval (.tmp 92)=Za #[Zs cE aJ X,.func bc co v24]:=dF;have dM:a.eval (.tmp 96)=Za #[Zs cP bP aN,.func bK Y bZ]:=dM;have dr:a.eval (.tmp 100)=Za #[Zs ba Z am,.func f26 ck bQ]:=dr;have dj:a.eval (.tmp 105)=Za #[Zs bg bR bO,.func bD T aI]:=dj;have dN:a.eval (.tmp 111)=Za #[Zs cI bJ an,.func G cr bw]:=dN;have dI:a.eval (.tmp 115)=Za #[Zs bx bX cx,.func bI bB cm]:=dI;have dO:a.eval (.tmp 118)=Za #[Zs cF U aU,.func bf ct cW]:=dO;have dx:a.eval (.tmp 122)=Za #[Zs bY cQ ch,.func cN ai bS]:=dx;have ds:a.eval (.tmp 127)=Za #[Zs F aB cU,.func bE ap cH]:=ds;have du:a.eval (.tmp 131)=Za #[Zs be aX cg,.func f33 bk aE]:=du;have dK:a.eval (.tmp 136)=Za #[Zs cu cj R,.func f34 bh cJ]:=dK;have dH:a.eval (.tmp 141)=Za #[Zs cL al aZ,.func ci cD aw]:=dH;have dt:a.eval (.tmp 143)=Za #[Zs O aQ bC,.nilFunc]:=dt;have dL:a.eval (.tmp 145)=Za #[Zs cK bA ak,.nilFunc]:=dL;have dz:a.eval (.tmp 148)=Za #[Zs bT aS ay,.nilFunc]:=dz;have di:a.eval (.tmp 151)=Za #[Zs cv aP cl,.nilFunc]:=di;have ec:prog.built 138 [(1,Za #[Zs x1 n1 c1,.func f1 u1 v1]),(2,Za #[Zs x2 n2 c2,.func f2 u2 v2]),(3,Za #[Zs x3 n3 c3,.func f3 u3 v3]),(4,Za #[Zs x4 n4 c4,.func f4 u4 v4]),(5,Za #[Zs x5 n5 c5,.func f5 u5 v5]),(6,Za #[Zs x6 n6 c6,.func f6 u6 v6]),(7,Za #[Zs x7 n7 c7,.func f7 u7 v7]),(8,Za #[Zs x8 n8 c8,.func f8 u8 v8]),(9,Za #[Zs x9 n9 c9,.func f9 u9 v9]),(10,Za #[Zs aL aq C,.func cC bM bm]),(11,Za #[Zs cA cB bp,.func cd av bv]),(12,Za #[Zs cS ab ah,.func ce ax bF]),(13,Za #[Zs aY br aM,.func bN cc N]),(14,Za #[Zs bu aK cw,.func L cM H]),(15,Za #[Zs af aC bV,.func ad I bj]),(16,Za #[Zs cy aV aa,.func bb aW J]),(17,Za #[Zs bo cV ae,.func az cG cf]),(18,Za #[Zs cT bi cn,.func aR aF cX]),(19,Za #[Zs aT aG bl,.func bU cq bz]),(20,Za #[Zs ag cb bH,.func ac bL v20]),(21,Za #[Zs bn Q bW,.func bq aj bt]),(22,Za #[Zs au aD M,.func ca bG v22]),(23,Za #[Zs aO ao aA,.func ar cR cO]),(24,Za #[Zs cE aJ X,.func bc co v24]),(25,Za #[Zs cP bP aN,.func bK Y bZ]),(26,Za #[Zs ba Z am,.func f26 ck bQ]),(27,Za #[Zs bg bR bO,.func bD T aI]),(28,Za #[Zs cI bJ an,.func G cr bw]),(29,Za #[Zs bx bX cx,.func bI bB cm]),(30,Za #[Zs cF U aU,.func bf ct cW]),(31,Za #[Zs bY cQ ch,.func cN ai bS]),(32,Za #[Zs F aB cU,.func bE ap cH]),(33,Za #[Zs be aX cg,.func f33 bk aE]),(34,Za #[Zs cu cj R,.func f34 bh cJ]),(35,Za #[Zs cL al aZ,.func ci cD aw]),(38,Za #[Zs O aQ bC,.nilFunc]),(39,Za #[Zs cK bA ak,.nilFunc]),(41,Za #[Zs bT aS ay,.nilFunc]),(43,Za #[Zs cv aP cl,.nilFunc])]=Zo #[Zs Zn 0 0,.nilFunc,Zs x1 n1 c1,.func f1 u1 v1,Zs x2 n2 c2,.func f2 u2 v2,Zs x3 n3 c3,.func f3 u3 v3,Zs x4 n4 c4,.func f4 u4 v4,Zs x5 n5 c5,.func f5 u5 v5,Zs x6 n6 c6,.func f6 u6 v6,Zs x7 n7 c7,.func f7 u7 v7,Zs x8 n8 c8,.func f8 u8 v8,Zs x9 n9 c9,.func f9 u9 v9,Zs aL aq C,.func cC bM bm,Zs cA cB bp,.func cd av bv,Zs cS ab ah,.func ce ax bF,Zs aY br aM,.func bN cc N,Zs bu aK cw,.func L cM H,Zs af aC bV,.func ad I bj,Zs cy aV aa,.func bb aW J,Zs bo cV ae,.func az cG cf,Zs cT bi cn,.func aR aF cX,Zs aT aG bl,.func bU cq bz,Zs ag cb bH,.func ac bL v20,Zs bn Q bW,.func bq aj bt,Zs au aD M,.func ca bG v22,Zs aO ao aA,.func ar cR cO,Zs cE aJ X,.func bc co v24,Zs cP bP aN,.func bK Y bZ,Zs ba Z am,.func f26 ck bQ,Zs bg bR bO,.func bD T aI,Zs cI bJ an,.func G cr bw,Zs bx bX cx,.func bI bB cm,Zs cF U aU,.func bf ct cW,Zs bY cQ ch,.func cN ai bS,Zs F aB cU,.func bE ap cH,Zs be aX cg,.func f33 bk aE,Zs cu cj R,.func f34 bh cJ,Zs cL al aZ,.func ci cD aw,Zs Zn 0 0,.nilFunc,Zs Zn 0 0,.nilFunc,Zs O aQ bC,.nilFunc,Zs cK bA ak,.nilFunc,Zs Zn 0 0,.nilFunc,Zs bT aS ay,.nilFunc,Zs Zn 0 0,.nilFunc,Zs cv aP cl,.nilFunc]:=zK;have el:(Array.map (fun p:Nat×Operand=>match p with|(i,x)=>(i,a.eval x)) #[(1,.tmp 41),(2,.tmp 43),(3,.tmp 45),(4,.tmp 46),(5,.tmp 48),(6,.tmp 50),(7,.tmp 52),(8,.tmp 54),(9,.tmp 55),(10,.tmp 56),(11,.tmp 57),(12,.tmp 58),(13,.tmp 59),(14,.tmp 65),(15,.tmp 69),(16,.tmp 70),(17,.tmp 71),(18,.tmp 75),(19,.tmp 80),(20,.tmp 82),(21,.tmp 85),(22,.tmp 88),(23,.tmp 91),(24,.tmp 92),(25,.tmp 96),(26,.tmp 100),(27,.tmp 105),(28,.tmp 111),(29,.tmp 115),(30,.tmp 118),(31,.tmp 122),(32,.tmp 127),(33,.tmp 131),(34,.tmp 136),(35,.tmp 141),(38,.tmp 143),(39,.tmp 145),(41,.tmp 148),(43,.tmp 151)]).toList=[(1,Za #[Zs x1 n1 c1,.func f1 u1 v1]),(2,Za #[Zs x2 n2 c2,.func f2 u2 v2]),(3,Za #[Zs x3 n3 c3,.func f3 u3 v3]),(4,Za #[Zs x4 n4 c4,.func f4 u4 v4]),(5,Za #[Zs x5 n5 c5,.func f5 u5 v5]),(6,Za #[Zs x6 n6 c6,.func f6 u6 v6]),(7,Za #[Zs x7 n7 c7,.func f7 u7 v7]),(8,Za #[Zs x8 n8 c8,.func f8 u8 v8]),(9,Za #[Zs x9 n9 c9,.func f9 u9 v9]),(10,Za #[Zs aL aq C,.func cC bM bm]),(11,Za #[Zs cA cB bp,.func cd av bv]),(12,Za #[Zs cS ab ah,.func ce ax bF]),(13,Za #[Zs aY br aM,.func bN cc N]),(14,Za #[Zs bu aK cw,.func L cM H]),(15,Za #[Zs af aC bV,.func ad I bj]),(16,Za #[Zs cy aV aa,.func bb aW J]),(17,Za #[Zs bo cV ae,.func az cG cf]),(18,Za #[Zs cT bi cn,.func aR aF cX]),(19,Za #[Zs aT aG bl,.func bU cq bz]),(20,Za #[Zs ag cb bH,.func ac bL v20]),(21,Za #[Zs bn Q bW,.func bq aj bt]),(22,Za #[Zs au aD M,.func ca bG v22]),(23,Za #[Zs aO ao aA,.func ar cR cO]),(24,Za #[Zs cE aJ X,.func bc co v24]),(25,Za #[Zs cP bP aN,.func bK Y bZ]),(26,Za #[Zs ba Z am,.func f26 ck bQ]),(27,Za #[Zs bg bR bO,.func bD T aI]),(28,Za #[Zs cI bJ an,.func G cr bw]),(29,Za #[Zs bx bX cx,.func bI bB cm]),(30,Za #[Zs cF U aU,.func bf ct cW]),(31,Za #[Zs bY cQ ch,.func cN ai bS]),(32,Za #[Zs F aB cU,.func bE ap cH]),(33,Za #[Zs be aX cg,.func f33 bk aE]),(34,Za #[Zs cu cj R,.func f34 bh cJ]),(35,Za #[Zs cL al aZ,.func ci cD aw]),(38,Za #[Zs O aQ bC,.nilFunc]),(39,Za #[Zs cK bA ak,.nilFunc]),(41,Za #[Zs bT aS ay,.nilFunc]),(43,Za #[Zs cv aP cl,.nilFunc])]:=by simp only[List.map_toArray,List.map_cons,List.map_nil,g1,g2,g3,g4,g5,g6,g7,g8,g9,dv,dD,dp,dG,dJ,dq,dC,g17,g18,g19,dw,dl,dy,dB,dF,dM,dr,dj,dN,dI,dO,dx,ds,du,dK,dH,dt,dL,dz,di]
   refine wp_build 138 #[(1,.tmp 41),(2,.tmp 43),(3,.tmp 45),(4,.tmp 46),(5,.tmp 48),(6,.tmp 50),(7,.tmp 52),(8,.tmp 54),(9,.tmp 55),(10,.tmp 56),(11,.tmp 57),(12,.tmp 58),(13,.tmp 59),(14,.tmp 65),(15,.tmp 69),(16,.tmp 70),(17,.tmp 71),(18,.tmp 75),(19,.tmp 80),(20,.tmp 82),(21,.tmp 85),(22,.tmp 88),(23,.tmp 91),(24,.tmp 92),(25,.tmp 96),(26,.tmp 100),(27,.tmp 105),(28,.tmp 111),(29,.tmp 115),(30,.tmp 118),(31,.tmp 122),(32,.tmp 127),(33,.tmp 131),(34,.tmp 136),(35,.tmp 141),(38,.tmp 143),(39,.tmp 145),(41,.tmp 148),(43,.tmp 151)] rfl ?_ ?_;·rw[el,ec];rfl
   ·rw[el,ec];refine⟨_,rfl,Below.refl _ _,#[Zs Zn 0 0,.nilFunc,Zs x1 n1 c1,.func f1 u1 v1,Zs x2 n2 c2,.func f2 u2 v2,Zs x3 n3 c3,.func f3 u3 v3,Zs x4 n4 c4,.func f4 u4 v4,Zs x5 n5 c5,.func f5 u5 v5,Zs x6 n6 c6,.func f6 u6 v6,Zs x7 n7 c7,.func f7 u7 v7,Zs x8 n8 c8,.func f8 u8 v8,Zs x9 n9 c9,.func f9 u9 v9,Zs aL aq C,.func cC bM bm,Zs cA cB bp,.func cd av bv,Zs cS ab ah,.func ce ax bF,Zs aY br aM,.func bN cc N,Zs bu aK cw,.func L cM H,Zs af aC bV,.func ad I bj,Zs cy aV aa,.func bb aW J,Zs bo cV ae,.func az cG cf,Zs cT bi cn,.func aR aF cX,Zs aT aG bl,.func bU cq bz,Zs ag cb bH,.func ac bL v20,Zs bn Q bW,.func bq aj bt,Zs au aD M,.func ca bG v22,Zs aO ao aA,.func ar cR cO,Zs cE aJ X,.func bc co v24,Zs cP bP aN,.func bK Y bZ,Zs ba Z am,.func f26 ck bQ,Zs bg bR bO,.func bD T aI,Zs cI bJ an,.func G cr bw,Zs bx bX cx,.func bI bB cm,Zs cF U aU,.func bf ct cW,Zs bY cQ ch,.func cN ai bS,Zs F aB cU,.func bE ap cH,Zs be aX cg,.func f33 bk aE,Zs cu cj R,.func f34 bh cJ,Zs cL al aZ,.func ci cD aw,Zs Zn 0 0,.nilFunc,Zs Zn 0 0,.nilFunc,Zs O aQ bC,.nilFunc,Zs cK bA ak,.nilFunc,Zs Zn 0 0,.nilFunc,Zs bT aS ay,.nilFunc,Zs Zn 0 0,.nilFunc,Zs cv aP cl,.nilFunc],rfl,zK,zK,(fun o=>zK),fun k h1 h2=>?_⟩;obtain h|h|h|h|h|h|h|h|h|h|h|h|h|h|h|h|h|h|h|h|h|h|h|h|h|h|h|h|h|h|h|h|h|h|h|h|h|h|h|h|h|h|h:k=1∨k=2∨k=3∨k=4∨k=5∨k=6∨k=7∨k=8∨k=9∨k=10∨k=11∨k=12∨k=13∨k=14∨k=15∨k=16∨k=17∨k=18∨k=19∨k=20∨k=21∨k=22∨k=23∨k=24∨k=25∨k=26∨k=27∨k=28∨k=29∨k=30∨k=31∨k=32∨k=33∨k=34∨k=35∨k=36∨k=37∨k=38∨k=39∨k=40∨k=41∨k=42∨k=43:=by omega
    ·subst h;exact⟨_,_,rfl,rfl,r1⟩
    ·subst h;exact⟨_,_,rfl,rfl,r2⟩
    ·subst h;exact⟨_,_,rfl,rfl,r3⟩
    ·subst h;exact⟨_,_,rfl,rfl,r4⟩
    ·subst h;exact⟨_,_,rfl,rfl,r5⟩
    ·subst h;exact⟨_,_,rfl,rfl,r6⟩
    ·subst h;exact⟨_,_,rfl,rfl,r7⟩
    ·subst h;exact⟨_,_,rfl,rfl,r8⟩
    ·subst h;exact⟨_,_,rfl,rfl,r9⟩
    ·subst h;exact⟨_,_,rfl,rfl,fc⟩
    ·subst h;exact⟨_,_,rfl,rfl,eH⟩
    ·subst h;exact⟨_,_,rfl,rfl,eA⟩
    ·subst h;exact⟨_,_,rfl,rfl,ez⟩
    ·subst h;exact⟨_,_,rfl,rfl,fu⟩
    ·subst h;exact⟨_,_,rfl,rfl,eN⟩
    ·subst h;exact⟨_,_,rfl,rfl,ev⟩
    ·subst h;exact⟨_,_,rfl,rfl,es⟩
    ·subst h;exact⟨_,_,rfl,rfl,et⟩
    ·subst h;exact⟨_,_,rfl,rfl,eL⟩
    ·subst h;exact⟨_,_,rfl,rfl,fC⟩
    ·subst h;exact⟨_,_,rfl,rfl,fv⟩
    ·subst h;exact⟨_,_,rfl,rfl,fp⟩
    ·subst h;exact⟨_,_,rfl,rfl,fa⟩
    ·subst h;exact⟨_,_,rfl,rfl,fd⟩
    ·subst h;exact⟨_,_,rfl,rfl,fx⟩
    ·subst h;exact⟨_,_,rfl,rfl,fr⟩
    ·subst h;exact⟨_,_,rfl,rfl,fs⟩
    ·subst h;exact⟨_,_,rfl,rfl,eX⟩
    ·subst h;exact⟨_,_,rfl,rfl,ew⟩
    ·subst h;exact⟨_,_,rfl,rfl,eD⟩
    ·subst h;exact⟨_,_,rfl,rfl,fE⟩
    ·subst h;exact⟨_,_,rfl,rfl,fD⟩
    ·subst h;exact⟨_,_,rfl,rfl,ff⟩
    ·subst h;exact⟨_,_,rfl,rfl,eV⟩
    ·subst h;exact⟨_,_,rfl,rfl,eG⟩
    ·subst h;exact⟨_,_,rfl,rfl,fun _ _=>⟨Dv,rfl⟩⟩
    ·subst h;exact⟨_,_,rfl,rfl,fun _ _=>⟨Dv,rfl⟩⟩
    ·subst h;exact⟨_,_,rfl,rfl,fg⟩
    ·subst h;exact⟨_,_,rfl,rfl,eM⟩
    ·subst h;exact⟨_,_,rfl,rfl,fun _ _=>⟨Dv,rfl⟩⟩
    ·subst h;exact⟨_,_,rfl,rfl,fk⟩
    ·subst h;exact⟨_,_,rfl,rfl,fun _ _=>⟨Dv,rfl⟩⟩
    ·subst h;exact⟨_,_,rfl,rfl,fl⟩
  iterate 112 refine And.intro ?_ ?_
  ·exact trivial
  all_goals (intro o ho;cases BS ho rfl;intro a W c dA m f)
  all_goals first
   | exact lc rfl ((m _ (nf om))) ((ed.out).on c)
   | exact nZ rfl rfl rfl ⟨Zn,0,0,rfl⟩ ((f _ (me 0 rfl) rfl)).1 fun l r=>⟨Dv,((f _ (me 0 rfl) rfl)).2 l r⟩
   | exact lc rfl ((m _ (nf om))) ((ft.out).on c)
   | exact lc rfl ((m _ (nf om))) ((dY.out).on c)
   | exact nZ rfl rfl rfl ⟨Zn,0,0,rfl⟩ ⟨_,_,_,rfl⟩ fun l r=>⟨Dv,rfl⟩
   | exact G1 rfl (s W c) zC
   | exact Ce (q:=0) rfl (s W c) zC
   | exact BZ rfl ((m _ (nf om))) (kC c ej (b8 ej)) (kC c eh (b8 eh)) ⟨_,_,_,rfl⟩ ⟨_,_,_,rfl⟩ ⟨_,_,_,rfl⟩ fun l r=>⟨(Kr.out l (gm c r)).1,(Kr.out l (gm c r)).2⟩
   | exact GY rfl (s W c)
   | exact G6 rfl (f _ (me 0 rfl) rfl) (s W c)
   | exact BI (q:=0) rfl (s W c)
   | exact qD rfl rfl rfl (f _ (me 0 rfl) rfl) (f _ (me 1 rfl) rfl) (s W c)
   | exact nZ rfl rfl rfl ((f _ (me 0 rfl) rfl)).1 ((f _ (me 1 rfl) rfl)).1 fun l r=>⟨((f _ (me 0 rfl) rfl)).2 l r,((f _ (me 1 rfl) rfl)).2 l r⟩
   | exact qD rfl rfl rfl ⟨⟨_,_,_,rfl⟩,fun _ _=>rfl⟩ (f _ (me 0 rfl) rfl) (s W c)
   | exact BZ rfl ((m _ (nf om))) (kC c dZ (b8 dZ)) (kC c dQ (b8 dQ)) ⟨_,_,_,rfl⟩ ⟨_,_,_,rfl⟩ ⟨_,_,_,rfl⟩ fun l r=>⟨(Kd.out l (gm c r)).1,(Kd.out l (gm c r)).2⟩
   | exact lc rfl ((m _ (nf om))) ((bd.out).on c)
   | exact uU rfl rfl (f _ (me 0 rfl) rfl) (s W c)
   | exact BI (q:=1) rfl (s W c)
   | exact vs rfl rfl rfl rfl (f _ (me 0 rfl) rfl) ⟨⟨_,_,_,rfl⟩,fun _ _=>rfl⟩ (f _ (me 1 rfl) rfl) (s W c)
   | exact Fl (q:=1) rfl (s W c)
   | exact lc rfl ((m _ (nf om))) ((ea.out).on c)
   | exact nZ rfl rfl rfl ((f _ (me 0 rfl) rfl)).1 ⟨_,_,_,rfl⟩ fun l r=>⟨((f _ (me 0 rfl) rfl)).2 l r,rfl⟩
   | exact lc rfl ((m _ (nf om))) ((dS.out).on c)
   | exact lc rfl ((m _ (nf om))) ((aH.out).on c)
   | exact lc rfl ((m _ (nf om))) ((ef.out).on c)
   | exact Fl (q:=0) rfl (s W c)
   | exact vs rfl rfl rfl rfl (f _ (me 0 rfl) rfl) (f _ (me 1 rfl) rfl) (f _ (me 2 rfl) rfl) (s W c)
   | exact lc rfl ((m _ (nf om))) ((dW.out).on c)
   | exact lc rfl ((m _ (nf om))) ((ek.out).on c)
   | exact qD rfl rfl rfl (f _ (me 0 rfl) rfl) ⟨⟨_,_,_,rfl⟩,fun _ _=>rfl⟩ (s W c)
   | exact Ce (q:=1) rfl (s W c) zC
   | exact uU rfl rfl ⟨⟨_,_,_,rfl⟩,fun _ _=>rfl⟩ (s W c)
   | exact nZ rfl rfl rfl ((f _ (me 0 rfl) rfl)).1 rfl fun l r=>⟨((f _ (me 0 rfl) rfl)).2 l r,rfl⟩
theorem tO(o:Option Nat)(w:Zw):Calls prog 40 #[.map o] w fun e l=>∃d cs,e=.returned (Zp (Zo ⟨d,0,Zn⟩))/\Bw w l/\w.heap.size<=d/\l.heap[d]?=Zo (mH cs 0)/\nJ (fun b=>w.heap.size<=b/\b<l.heap.size/\b≠d) l cs:=by
 have m:Hid (Calls prog 82 #[] w _):=wu w;go_in;go_wp2_with fail;refine m.out.mono ?_;rintro e w1 ⟨cs,rfl,f,s,i,n⟩;have g:=f.size;have u:=i o;have p:Hid (∃d h,(Ending.returned (Zp (Zo ⟨w1.heap.size,0,Zn⟩)))=.returned (Zp (Zo ⟨d,0,Zn⟩))/\Bw w (w1.alloc (mH (#[Value.map o]++cs) 0))/\w.heap.size<=d/\(w1.alloc (mH (#[Value.map o]++cs) 0)).heap[d]?=Zo (mH h 0)/\nJ (fun b=>w.heap.size<=b/\b<(w1.alloc (mH (#[Value.map o]++cs) 0)).heap.size/\b≠d) (w1.alloc (mH (#[Value.map o]++cs) 0)) h):=by
  refine⟨w1.heap.size,#[Value.map o]++cs,rfl,f.alloc g _,g,heap_alloc_new _ _,by simp[s],fun k r q=>?_⟩;obtain⟨t,mv,a,b,c⟩:=n k r q;refine⟨t,mv,?_,?_,c.keep (fun b j=>Below.heap_alloc _ _ _ j.2) fun b j=>⟨j.1,by have:=j.2;simp;omega,by have:=j.2;omega⟩⟩
  ·have e:1+k*2-(#[Value.map o]:Array Zv).size=k*2:=by show 1+k*2-1=_;omega
   rw[Array.getElem?_append_right (by show 1<=_;omega),e];exact a
  ·have e:1+k*2+1-(#[Value.map o]:Array Zv).size=k*2+1:=by show 1+k*2+1-1=_;omega
   rw[Array.getElem?_append_right (by show 1<=_;omega),e];exact b
 clear m i n f;go_wp2_with fail;rw[show (#[Value.map o]++cs.push (Zi Zk 0))=(#[Value.map o]++cs).push (Zi Zk 0) by simp];unfold mH at p;go_ret;exact p.out
end Go.Proofs.YtcfojmaccikgeaaGreatDoor
