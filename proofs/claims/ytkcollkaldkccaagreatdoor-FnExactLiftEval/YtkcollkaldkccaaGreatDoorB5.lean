import Derived.Test.YtkcollkaldkccaaGreatDoorB3
set_option linter.all false
open List renaming length -> J
open Go.Calls renaming mono -> H
open Go.Value renaming slice->A,int->I,string->Zt,pointer->Zp
open Go.IntKind renaming i64->U
open Go.Ending renaming returned->Zr
open Go.Obj renaming cells->Zc
open Option renaming some->Z
namespace Go.Proofs.YtkcollkaldkccaaGreatDoor
open Go.RowKit Go.Proofs.Tryz
set_option maxRecDepth 100000
set_option maxHeartbeats 16000000
variable {α:Type} {m bk:Nat} {S:ZN} {w:World} {c0 c1 c2 c3 c4:Value}
def AR(w:World):Calls prog 58 #[] w λe d=>∃b,e=Zr (Zp (b5 b 0))/\w.heap.size<=b/\b<d.heap.size/\lh d b/\Bw w d:=by
 have g:BX.size=176:=zK;have h:Array.foldl (λcs (x:Value×Nat)=>cs.setIfInBounds x.snd x.fst) Tryz.zeroCells151 BX.zipIdx 0 176=BX:=zK;go_in;go_wp2_with fail;refine H (AY w) ?_;rintro e w1 ⟨rfl,a⟩;have c:=a.alloc a.size (Zc BX 151);have f:Hid (∃b,Ending.returned (Zp (b5 w1.heap.size 0))=Zr (Zp (b5 b 0))/\w.heap.size<=b/\b<(w1.alloc (Zc BX 151)).heap.size/\lh (w1.alloc (Zc BX 151)) b/\Bw w (w1.alloc (Zc BX 151))):=
  ⟨w1.heap.size,D,a.size,zS,lh.of (Xq w1 _),c⟩
 clear a c;go_wp2;go_ret;exact f
def hasF(n:Nat)(k:K n)(m:Nat)(t:T m):Bool:=tI n k && dB m t && Y9 n k m t
def LW:∀m,Nl m:=by
 intro m;induction m with
 | zero=>intro B x p w v l t c0 c1 c2 c3 c4 d h a;exact a.elim
 | succ m u=>
  intro B x p w v l t c0 c1 c2 c3 c4 d h a c b g r q;obtain⟨rfl,rfl,rfl,s,j,k,n,o,⟨na,K,nc,rfl,e⟩,⟨y,C,z,rfl,f⟩⟩:=a;obtain⟨_,_,i,-⟩:=id n;cases i
  obtain⟨_,_,i,-⟩:=id o;cases i
  simp only[c7,Qc]at g;exact LX u h j k s n e o f c b g.1.2 g.2 r q
def OV{n:F α}{k:Nat}(i:5<=k)(h:dM n (fO k)=true)(g:k<44)(f:k≠24):gV n.q+(if n.a.size=0 then 0 else n.a.size+1)<=850:=by
 have nm:∀a,c8 a=true->a.size<=8:=λa c=>by simp only[c8,Qc,Qk]at c;exact E
 have d:∀a,eM a=true->a.size<=8:=λa c=>nm a (by
  simp only[eM,Qc]at c;exact c.1.1.1.1)
 rcases (og k g).resolve_left f with e|e|e|e|e|e|e|e;·rw[e]at h;simp only[dM,Qc,QP]at h;have hn:n.q=[]:=Qj E;rw[Qm (dO _ h.1.2),hn];simp[gV]
 .exact absurd e (E6 k g i)
 .rw[e]at h;simp only[dM,Qc,QP]at h;have hn:n.q=[]:=Qj E;have l:n.a.size<=800:=by have:=h.1.2;unfold lu at this;have⟨q,j⟩:=Option.isSome_iff_exists.1 this;exact (rI j).1
  rw[hn];simp only[gV];split<;>omega
 .rw[e]at h;simp only[dM,Qc,QP]at h;have hn:n.q=[]:=Qj E;rw[Qm (dO _ h.1.2),hn];simp[gV]
 .rw[e]at h;simp only[dM,Qc]at h;rw[Qm (dO _ h.1.2)];match hn:n.q,h.2 with
  | [a],h2=>have:=d a h2;simp only[gV];omega
 .exact TI
 .rw[e]at h;simp only[dM,Qc]at h;rw[Qm (dO _ h.1.2)];match hn:n.q,h.2 with
  | [a,b],h2=>simp only[Qc]at h2;have:=d a h2.1.1;have:=d b h2.1.2;simp only[gV];omega
 .exact TI
def GG{po:α->Int}{n:F α}(h:fD po n=true):gV n.q<=9*J n.o:=by
 unfold fD at h;simp only[Qc,QP]at h;have b:=h.2;rw[<- h.1];unfold fI at b;rw[Qo]at b;have e:∀(l:List ZB),(∀s,s∈l->s.size<=8)->gV l<=9*J l:=by
  intro l;induction l with
  | nil=>intro _;simp[gV]
  | cons a r j=>intro c;have k:=c a zS;have b:=j (λs d=>c s (Qt _ d));simp only[gV,Qs];omega
 refine e _ λs c=>?_;obtain⟨i,f,rfl⟩:=QT c;have:=b i (Q7.2 f);simp only[Qc,kr,gn]at this;have g:=this.1.1.1;simp only[c8,Qc,Qk,Qw,Qp f,Xm]at g;exact E
def On{s m:Int}{x:ZB}(h:cM s m x [] 0=true):J (kw s m x)<=800:=by
 have b:cS 1 (lN s m x) 1=true:=by show (decide ((1:Int)<=6) && cM s m x [] 0 && List.all ([]:List (T 0)) _)=_;rw[h];rfl
 have:=mw 1 (lN s m x) 1 b;have a:cJ 1 (lN s m x)=1:=D;rw[a]at this;unfold kw;omega
def Oa:∀n:Int,0<=n->n<=99->J (Lib.itoa n)<=20:=by
 intro n b c;unfold Lib.itoa;rw[Qd E];have a:n.toNat<100:=E;generalize n.toNat=k at a;rw[Lib.decDigits];split;·exact dS
 .rw[Lib.decDigits];split;·exact dS
  .omega
def Jg:∀(m:Nat)(t:T m)(d:Int),c7 m t d=true->dC m t+100<=1000*cJ m t:=by
 intro m;induction m with
 | zero=>intro t d h;simp[c7]at h
 | succ m N=>
  intro t d h;simp only[c7,Qc,Qo]at h;obtain⟨⟨-,z⟩,B⟩:=h;obtain⟨n,hn⟩:∃n:F (T m),n=t:=⟨t,D⟩;have y:cJ (m+1) t=1+cG (λk=>cJ m k) n.o:=Cu;have C:dC (m+1) t=kP (dC m) n:=Cu;have p:∀x,x∈n.o->c7 m x (d+1)=true:=by rw[hn];exact B
  have b:eQ (iQ m) n=true:=by rw[hn];exact z
  rw[y,C];have w:cG (λx=>dC m x+100) n.o<=1000*cG (λx=>cJ m x) n.o:=by rw[<- yN];exact DC (λx s=>N x (d+1) (p x s))
  have K:cG (λx=>dC m x+1) n.o+9*J n.o<=cG (λx=>dC m x+100) n.o:=by
   have:∀l:List (T m),cG (λx=>dC m x+1) l+9*J l<=cG (λx=>dC m x+100) l:=by
    intro l;induction l with
    | nil=>simp[cG]
    | cons a r O=>simp only[cG,Qs];omega
   exact this _
  obtain⟨k,q⟩:∃k:Nat,n.k=(k:Int):=⟨n.k.toNat,by
   have h:=b
   unfold eQ at h;simp only[Qc,Qk]at h;omega⟩
  have j:1<=n.k/\n.k<=43:=by have h:=b;unfold eQ at h;simp only[Qc,Qk]at h;exact h.1
  have⟨e,i,g,hasF⟩:=sw k q b;have f:n.k.toNat=k:=E;have L:=Ah k e;unfold kP;by_cases u:n.k<=3;·rw[Qm u];have:=On (i (by rcases (by omega:k=1∨k=2∨k=3) with rfl|rfl|rfl<;>decide));omega
  rw[Qd u];by_cases v:n.k=4
  .rw[Qm v];rw[mL (iQ m) j.1 j.2 E,f,show k=4 by omega,yA.1]at b;simp only[dM,Qc]at b;match hnn:n.q,b.1.2 with
   | [a],h2=>
    have:a.size<=8:=by simp only[eM,c8,Qc,Qk]at h2;exact E
    simp only[XA];omega
  rw[Qd v,f];have M:=(L.2 E).2;by_cases c:n.k=24;·rw[l5 (iQ m) c]at b;simp only[Qc]at b;have s:=dO _ b.2.2;have P:=GG b.1;rw[Qm s,Qd E,Qm c];omega
  .rw[mL (iQ m) j.1 j.2 c,f]at b;simp only[Qc]at b;have hp:=OV E b.1 e E;have Q:(if n.k=37∨n.k=39 then J (Lib.itoa n.n)+1 else 0)<=21:=by
    split
    .have o:35∈ia k:=by have:k=37∨k=39:=E;rcases this with rfl|rfl<;>decide
     have:=g o;have:=Oa n.n this.1 E;omega
    .omega
   rw[Qd c];omega
def It {t:T m} {d:Int} (f:b8 S w m t c0 c1 c2 c3 c4) (M:Bd S w) (c:lh w bk) (N:c7 m t d=true) (qc:cJ m t<=200) (q6:mW w) :
  Calls prog 95 #[Zp (b5 bk 0),.agg #[c0,c1,c2,c3,c4]] w λe j0=>Bw w j0/\∃s,e=Zr (Zt s)/\s.size=dC m t:=by
 obtain⟨r,u,v,x,z,y,B,K,C,rfl,rfl,rfl,rfl,rfl⟩:=f.shape;have q8:=Jg m t d N;have⟨W,hW⟩:=fk ((w.alloc (UB r u v x z y B K C)).alloc (Zc #[Zp (b5 bk 0),A none 0 0] 187));have b:Bw w W:=FF;have q7:W.heap.size=w.heap.size+2:=pR;have l:W.heap[w.heap.size+1]?=Z (Zc #[Zp (b5 bk 0),A none 0 0] 187 (0,0)):=by have:=Xq (w.alloc (UB r u v x z y B K C)) (Zc #[Zp (b5 bk 0),A none 0 0] 187);rw[show (w.alloc (UB r u v x z y B K C)).heap.size=w.heap.size+1 by simp]at this;rw[hW];exact this
 have n:lJ w.heap.size (w.heap.size+1) bk W W (A none 0 0) []:=⟨QV _ _ _ _,Qg _ _,E,Zm _ _ _,l,E⟩;have i:uO w.heap.size W:=λqa X=>q6 qa (b.trans X);have L:=a8 (LW m w.heap.size (w.heap.size+1) bk W _ [] t _ _ _ _ _ d n (f.keep (b6 b M) M) (c.keep (b.block bk c.lt)) c.lt N (by simp only[Q0,wk,XX];omega) i);have p:=a8 b;clear f c n i b l;subst hW;go_in;go_wp2_with fail;refine H L ?_;rintro e w1 ⟨rfl,ql,o,a,j⟩;obtain⟨-,R,-⟩:=a.cells;obtain⟨qq,q5,O,rfl⟩:=a.buf.shape;have h:J o=dC m t:=by rw[j];rfl
 have HP:=a8 (p.trans a.below);have F:=a8 h;have q9:(convert 130 9 (A qq q5 O)).run prog w1=.ok (Zt (bs o)) w1:=by
  by_cases k:o=[]
  .subst k;rcases a.own.2 with ⟨q,-⟩|⟨g,cap,V,q,-⟩;·cases q;exact run_convert_bytes_nil w1 130 5 underlying130 underlying5 0 0 9 underlying9
   .cases q
    exact Zx (P:=prog) w1 130 9 5 ⟨g,0,none⟩ O [] underlying130 underlying5 underlying9 zS
  .exact rn a.buf k
 have Q:Hid ((bs o).size=dC m t):=by show _=_;rw[dG];exact h
 clear a L j h;go_wp2;go_ret;exact⟨HP,_,D,Q⟩
def Gr {t:T m} (j:b8 S w m t c0 c1 c2 c3 c4) (hB:Bd S w) (i:lh w bk) (Q:gY m t<=1048576) (j0:mW w) :
  Calls prog 59 #[Zp (b5 bk 0),.agg #[c0,c1,c2,c3,c4]] w λe q6=>e=Zr (.bool (M6 m t))/\Bw w q6:=by
 have qc:∀(qq:Fn)(first cap:Array Value)(w:World),(Instr.makeFunc qq first cap).run prog w=.ok (.func qq first cap) w:=λ_ _ _ _=>D;obtain⟨q,u,v,x,z,y,B,K,C,rfl,rfl,rfl,rfl,rfl⟩:=j.shape;have⟨W,hW⟩:=fk (((w.alloc (Zc #[Zp (b5 bk 0)] 98)).alloc (UB q u v x z y B K C)).alloc (Zc #[I U 0] 3));have f:Bw w W:=by rw[hW];exact ((eC _ _).alloc zS _).alloc zE _
 have F:W.heap.size=w.heap.size+3:=pR;have k:=i.lt;have n:k6 W (w.heap.size+1+1) 0:=by have:=k6.new ((w.alloc (Zc #[Zp (b5 bk 0)] 98)).alloc (UB q u v x z y B K C)) 0;rw[show ((w.alloc (Zc #[Zp (b5 bk 0)] 98)).alloc (UB q u v x z y B K C)).heap.size=w.heap.size+1+1 by simp]at this;rw[hW];exact this
 have o:a7 W w.heap.size 0=Z (Zp (b5 bk 0)):=by rw[hW];simp[go_sem]
 have c:(a7 W (w.heap.size+1) 0=Z (I U q)/\a7 W (w.heap.size+1) 1=Z (I U u)/\a7 W (w.heap.size+1) 2=Z (Zt v))/\a7 W (w.heap.size+1) 3=Z (A x z y)/\a7 W (w.heap.size+1) 4=Z (A B K C):=by rw[hW];refine⟨⟨?_,?_,?_⟩,?_,?_⟩<;>simp[go_sem]
 have l:=j.keep (b6 f hB) zI;have R:=a8 (MD m S t _ _ _ _ _ 1 0 (w.heap.size+1+1) w.heap.size bk W l (λb hb=>pf) ⟨n,o,i.keep (f.block bk k),E,E⟩ Q E E E E);unfold clN at R;have V:Hid (∀ w1,cH (w.heap.size+1+1) W w1->c7 m t 1=true->cJ m t<=200->(Calls prog 95 #[Zp (b5 bk 0),.agg (Uz q u v x z y B K C)] w1 λe q6=>Bw w1 q6/\∃ s,e=Zr (Zt s)/\s.size=dC m t) /\
   (a7 w1 w.heap.size 0=Z (Zp (b5 bk 0))/\a7 w1 (w.heap.size+1) 0=Z (I U q)/\a7 w1 (w.heap.size+1) 1=Z (I U u)/\a7 w1 (w.heap.size+1) 2=Z (Zt v)/\a7 w1 (w.heap.size+1) 3=Z (A x z y)/\a7 w1 (w.heap.size+1) 4=Z (A B K C))):=by
  intro w1 d P X
  have a:=f.trans (d.below E E)
  refine⟨It (j.keep (b6 a hB) zI) (λb hb=>Qn (hB b hb) a.size) (i.keep (a.block bk k)) P X (j0.step a),d.cell o E,d.cell c.1.1 E,d.cell c.1.2.1 E,d.cell c.1.2.2 E,d.cell c.2.1 E,d.cell c.2.2 E⟩
 have q9:=a8 f;have HZ:=a8 F;clear j l n o c f F i j0 Q;subst hW;go_in;go_wp2_with fail;refine H R ?_;rintro e w1 ⟨d,r,rfl,g,p⟩;have a:=q9.trans (d.below E q9.size);cases r with
 | false=>
  have HF:Hid (M6 m t=false/\Bw w w1):=by refine⟨?_,a⟩;rw[XL];intro h;simp only[M6,Qc,Qk]at h;exact p D ⟨h.1.1,E⟩
  clear g p d a R V;go_wp2;go_ret;exact⟨cY HF.1.symm,HF.2⟩
 | true=>
  obtain⟨P,X,-⟩:=g D;have⟨O,z0,ql,z2,z3,z4,z5⟩:=V.out w1 d P E;have M:=a8 O;have q8:Hid (M6 m t=decide ((dC m t:Int)<=3000)):=by
   show _=_;unfold M6;rw[P,QK (show cJ m t<=200 by omega)];by_cases q5:dC m t<=3000;·rw[QK q5,QK E];rfl
   .rw[QU q5,QU E];rfl
  have L:=a8 a;clear g p d a R V O P X;go_wp2_with fail;refine H M ?_;rintro e q7 ⟨N,s,rfl,qa⟩;have HF:Hid (M6 m t=decide ((s.size:Int)<=3000)/\Bw w q7):=⟨by rw[q8.out,qa],L.trans (N.mono L.size)⟩;clear N qa M q8 z0 ql z2 z3 z4 z5;go_wp2;go_ret;exact⟨cY HF.1.symm,HF.2⟩
def C1 {t:T m} (g:b8 S w m t c0 c1 c2 c3 c4) (C:Bd S w) (y:gY m t<=1048576) (K:mW w) :
  Calls prog 30 #[.agg #[c0,c1,c2,c3,c4]] w λe a=>e=Zr (.bool (M6 m t))/\Bw w a:=by
 obtain⟨j,k,l,n,p,o,q,s,r,rfl,rfl,rfl,rfl,rfl⟩:=g.shape;have x:=(Qg w.heap.size w).alloc E (UB j k l n p o q s r);have z:Hid (∀w1 u,Bw w w1->lh w1 u->Calls prog 59 #[Zp (b5 u 0),.agg (Uz j k l n p o q s r)] w1 λe a=>e=Zr (.bool (M6 m t))/\Bw w1 a):=by intro w1 u v d;exact Gr (g.keep (b6 v C) zI) (λb f=>Qn (C b f) v.size) d y (K.step v)
 have B:Hid (Calls prog 58 #[] (w.alloc (UB j k l n p o q s r)).drew λe a=>∃ b,e=Zr (Zp (b5 b 0))/\lh a b/\Bw w a /\
   a7 a w.heap.size 0=Z (I U j)/\a7 a w.heap.size 1=Z (I U k)/\a7 a w.heap.size 2=Z (Zt l)/\a7 a w.heap.size 3=Z (A n p o)/\a7 a w.heap.size 4=Z (A q s r)):=by
  refine H (AR _) ?_
  rintro e a ⟨b,rfl,-,-,d,h⟩
  have c:=(x.drew).trans (h.mono (by show w.heap.size<=(w.heap.push _).size;simp))
  have i:=(h.block w.heap.size (by show w.heap.size<(w.heap.push _).size;simp)).trans (Xq w _)
  exact⟨b,D,d,c,cP i⟩
 clear g K;go_in;go_wp2_with fail;go_region_with (first
  | (go_at_call 58;refine H B ?_;rintro e w1 ⟨b,rfl,d,c,z0,L,M,z3,z4⟩)
  | (go_at_call 59;refine H (z _ _ (by with_reducible assumption) (by with_reducible assumption)) ?_;rintro e N ⟨rfl,f⟩))
 all_goals
  have HP:=a8 (c.trans (f.mono c.size))
  clear d c f z B z0 L M z3 z4
  go_wp2
  go_ret
  exact⟨D,HP⟩
