import Derived.Test.YtcfojmaccikgeaaGreatDoorB4
import Derived.Deep.RegionLaw
open Go.Value renaming slice→Zs,int→Zi,string→Zt,agg→Za
open Bool renaming and_eq_true→Zq
open List renaming getElem_mem→Zg,mem_cons_self→Zj,mem_cons_of_mem→ZB,all_eq_true→ZC
namespace Go.Proofs.YtcfojmaccikgeaaGreatDoor
open Go.RowKit Go.Proofs.Tryz
variable {α β:Type} {S:ZP} {w:World} {L n:Nat} {d:Int}
theorem Cs(a b:ZN):(a.toList==b.toList)=decide (a=b):=by
 rw[ByteArray.toList_eq,ByteArray.toList_eq];by_cases h:a=b;·subst h;simp
 ·rw[decide_eq_false h,beq_eq_false_iff_ne];intro e;exact h (WideShapes.bytes_inj e)
def kR{α:Type}:List ZN->List α->ZN->Option α
 | s :: r,k :: ks,x=>if s=x then some k else kR r ks x
 | _,_,_=>none
theorem oJ:∀(l:List ZN)(a:List α)(x:ZN),x ∉ l->kR l a x=none:=by
 intro l;induction l with
 | nil=>intro a x _;cases a<;>rfl
 | cons s r c=>
  intro a x h;cases a with
  | nil=>rfl
  | cons k a=>rw[kR,if_neg (fun e=>h (by rw[e];exact Zj ..))];exact c a x (fun b=>h (ZB _ b))
theorem mZ:∀(l:List ZN)(a:List α)(i:Nat)(c:i<l.length)(d:i<a.length),uv l->kR l a l[i]=some a[i]:=by
 intro l;induction l with
 | nil=>intro a i c;exact absurd c (Nat.not_lt_zero _)
 | cons s r f=>
  intro a i c d e;cases a with
  | nil=>exact absurd d (Nat.not_lt_zero _)
  | cons k a=>
   have b:=List.pairwise_cons.1 e;cases i with
   | zero=>simp[kR]
   | succ i=>
    have hi:i<r.length:=by simpa using c
    simp only[List.getElem_cons_succ];rw[kR,if_neg (vF (b.1 _ (Zg hi)))];exact f a i hi (by simpa using d) b.2
def fO:(L n:Nat)->K n->K (L+1)
 | _,0,k=>Empty.elim (show Empty from k)
 | 0,_+1,k=>(⟨Kd.sort k,Kd.names k,[]⟩:Kd (K 0))
 | L+1,n+1,k=>(⟨Kd.sort k,Kd.names k,(Kd.kids k).map (fO L n)⟩:Kd (K (L+1)))
theorem a8.cp:∀ {n:Nat} {L:Nat} {t:K n} {c0 c1 c2:Value},n<=L+1->a8 S w n t c0 c1 c2->a8 S w (L+1) (fO L n t) c0 c1 c2:=by
 intro n;induction n with
 | zero=>intro L t;exact Empty.elim (show Empty from t)
 | succ n B=>
  intro L t c0 c1 c2 C h;obtain⟨j,d,k,g,cap,rfl,z,y⟩:=h;cases L with
  | zero=>
   have A:n=0:=om;subst A;have f:Kd.kids t=[]:=by
    cases f:Kd.kids t with
    | nil=>rfl
    | cons x r=>exact Empty.elim (show Empty from x)
   refine⟨j,d,k,g,cap,by rw[f];rfl,by show ([]:List (K 0)).length<=maxLen;simp,fun c=>absurd rfl c⟩
  | succ L=>have e:(Kd.kids (fO (L+1) (n+1) t)).length=(Kd.kids t).length:=List.length_map ..;refine⟨j,d,k,g,cap,by rw[e],by rw[e];exact z,fun c=>?_⟩;obtain⟨b,off,u,v,a⟩:=y (fun h=>c (by show (Kd.kids t).map (fO L n)=[];rw[h];rfl));refine⟨b,off,u,v,fun i hi=>?_⟩;obtain⟨l,m,o,p,q,s,f⟩:=a i (by rw[<- e];exact hi);refine⟨l,m,o,p,q,s,?_⟩;have:(Kd.kids (fO (L+1) (n+1) t))[i]=fO L n ((Kd.kids t)[i]'(by rw[<- e];exact hi)):=List.getElem_map ..;rw[this];exact B om f
theorem pR(k:K (n+1)):fO (L+1) (n+1) k=(⟨Kd.sort k,Kd.names k,(Kd.kids k).map (fO L n)⟩:Kd (K (L+1))):=rfl
theorem vA(f:α->β)(g:β->List UInt8)(l:List α):jb g (l.map f)=jb (fun x=>g (f x)) l:=by cases l<;>rfl
theorem rq(f g:α->List UInt8)(l:List α)(h:∀x,x∈l->f x=g x):jb f l=jb g l:=by
 cases l with
 | nil=>rfl
 | cons x r=>exact h x (Zj ..)
def Ei{α:Type}(f:α->List UInt8)(t:Kd α):List UInt8:=
 if t.sort=1 then [110,117,109]
 else if t.sort=2 then [116,101,120,116]
 else if t.sort=3 then [102,108,97,103]
 else if t.sort=4 then 91 :: jb f t.kids++[93]
 else if t.sort=6 then 63 :: jb f t.kids
 else 123 :: fP (go t.names (t.kids.map f))++[125]
theorem vR(f:α->β)(g:β->Nat)(h:α->Nat):∀l:List α,(∀x,x∈l->g (f x)=h x)->b4 g (l.map f)=b4 h l:=by
 intro l;induction l with
 | nil=>intro _;rfl
 | cons x r c=>intro a;show g (f x)+b4 g (r.map f)=h x+b4 h r;rw[a x (Zj ..),c fun y b=>a y (ZB _ b)]
theorem ic{k:K (n+1)}(h:fM (n+1) k d=true):d<=6/\lA (show Kd (K n) from k)=true/\∀x,x∈Kd.kids k->fM n x (d+1)=true:=by simp only[fM,Zq,decide_eq_true_eq,ZC]at h;exact⟨h.1.1,h.1.2,h.2⟩
theorem pT{k:K (n+1)}(a:d<=6)(b:lA (show Kd (K n) from k)=true)(c:∀x,x∈Kd.kids k->fM n x (d+1)=true):fM (n+1) k d=true:=by simp only[fM,Zq,decide_eq_true_eq,ZC];exact⟨⟨a,b⟩,c⟩
theorem Ax:∀(n:Nat)(k:K n)(d e:Int),fM n k d=true->e<=d->fM n k e=true:=by
 intro n;induction n with
 | zero=>intro k;exact Empty.elim (show Empty from k)
 | succ n f=>intro k d e h i;obtain⟨g,a,b⟩:=ic h;exact pT om a fun x c=>f x _ _ (b x c) om
theorem Dc:∀ (L n:Nat) (k:K n) (d:Int),fM n k d=true->6 - d<=(L:Int) ->
  fM (L+1) (fO L n k) d=true/\fR (L+1) (fO L n k)=fR n k/\fI (L+1) (fO L n k)=fI n k:=by
 intro L n;induction n generalizing L with
 | zero=>intro k;exact Empty.elim (show Empty from k)
 | succ n m=>
  intro k d h o;obtain⟨f,b,g⟩:=ic h;cases L with
  | zero=>
   have c:Kd.kids k=[]:=by
    cases c:Kd.kids k with
    | nil=>rfl
    | cons x r=>
     have a:=g x (by rw[c];exact Zj ..);cases n with
     | zero=>exact Empty.elim (show Empty from x)
     | succ n=>have:=(ic a).1;omega
   refine⟨pT f ?_ fun x a=>Empty.elim (show Empty from x),?_,?_⟩;·unfold lA at b ⊢;rw[c]at b;exact b
   ·show 1+b4 (fun x=>fR 0 x) []=1+b4 (fun x=>fR n x) (Kd.kids k);rw[c];rfl
   ·show fI 1 (⟨Kd.sort k,Kd.names k,[]⟩:Kd (K 0))=fI (n+1) k;simp only[fI,c,jb,List.map_nil]
  | succ L=>
   have a:∀x,x∈Kd.kids k->fM (L+1) (fO L n x) (d+1)=true/\fR (L+1) (fO L n x)=fR n x/\fI (L+1) (fO L n x)=fI n x:=fun x a=>m L x (d+1) (g x a) om;refine⟨pT f ?_ ?_,?_,?_⟩;·unfold lA at b ⊢;rw[pR];show fX (Kd.sort k) (Kd.names k) ((Kd.kids k).map (fO L n)).length=true;rw[List.length_map];exact b
   ·rw[pR];intro x e;obtain⟨y,l,rfl⟩:=List.mem_map.1 e;exact (a y l).1
   ·rw[pR];show 1+b4 (fun x=>fR (L+1) x) ((Kd.kids k).map (fO L n))=1+b4 (fun x=>fR n x) (Kd.kids k);rw[vR _ _ (fun x=>fR n x) _ fun x h=>(a x h).2.1]
   ·rw[pR];have j:((Kd.kids k).map (fO L n)).map (fI (L+1))=(Kd.kids k).map (fI n):=by rw[List.map_map];exact List.map_congr_left fun x h=>(a x h).2.2
    have i:jb (fI (L+1)) ((Kd.kids k).map (fO L n))=jb (fI n) (Kd.kids k):=by rw[vA];exact rq _ _ _ fun x h=>(a x h).2.2
    show Ei (fI (L+1)) (⟨Kd.sort k,Kd.names k,(Kd.kids k).map (fO L n)⟩:Kd (K (L+1)))=Ei (fI n) (show Kd (K n) from k);unfold Ei;show (if Kd.sort k=1 then _ else _)=_;rw[j,i]
theorem ni{k:K n}(f:5<=L)(h:gF n k=true):gF (L+1) (fO L n k)=true/\fR (L+1) (fO L n k)=fR n k/\fI (L+1) (fO L n k)=fI n k:=by obtain⟨d,e⟩:=iw h;obtain⟨b,a,c⟩:=Dc L n k 1 d om;refine⟨?_,a,c⟩;unfold gF;rw[b,a];simpa using e
theorem ss:∀(n:Nat)(k:K n),(∀ {d:Int},fM (n+1) (fO n n k) d=fM n k d)/\fR (n+1) (fO n n k)=fR n k/\fI (n+1) (fO n n k)=fI n k:=by
 intro n;induction n with
 | zero=>intro k;exact Empty.elim (show Empty from k)
 | succ n a=>
  intro k;have c:((Kd.kids k).map (fO n n)).map (fI (n+1))=(Kd.kids k).map (fI n):=by rw[List.map_map];exact List.map_congr_left fun x _=>(a x).2.2
  have b:jb (fI (n+1)) ((Kd.kids k).map (fO n n))=jb (fI n) (Kd.kids k):=by rw[vA];exact rq _ _ _ fun x _=>(a x).2.2
  refine⟨fun {d}=>?_,?_,?_⟩;·show (decide (d<=6) && fX (Kd.sort k) (Kd.names k) ((Kd.kids k).map (fO n n)).length && ((Kd.kids k).map (fO n n)).all (fun x=>fM (n+1) x (d+1)))=(decide (d<=6) && fX (Kd.sort k) (Kd.names k) (Kd.kids k).length && (Kd.kids k).all (fun x=>fM n x (d+1)));rw[List.length_map,List.all_map];congr 2;funext x;exact (a x).1
  ·show 1+b4 (fun x=>fR (n+1) x) ((Kd.kids k).map (fO n n))=1+b4 (fun x=>fR n x) (Kd.kids k);rw[vR _ _ (fun x=>fR n x) _ fun x _=>(a x).2.1]
  ·show Ei (fI (n+1)) (⟨Kd.sort k,Kd.names k,(Kd.kids k).map (fO n n)⟩:Kd (K (n+1)))=Ei (fI n) (show Kd (K n) from k);unfold Ei;show (if Kd.sort k=1 then _ else _)=_;rw[c,b]
theorem pD{k:K (n+1)}(h:gF (n+1) k=true)(x:K n)(a:x∈Kd.kids k):gF n x=true:=by obtain⟨b,d⟩:=iw h;have g:=(ic b).2.2 x a;have c:fR n x<=b4 (fun k=>fR n k) (Kd.kids k):=gK _ _ _ a;have e:fR (n+1) k=1+b4 (fun k=>fR n k) (Kd.kids k):=rfl;unfold gF;rw[Ax n x _ 1 g om];simp only[Bool.true_and,decide_eq_true_eq];omega
theorem a8.dn:∀ {n:Nat} {L:Nat} {t:K n} {d:Int} {c0 c1 c2:Value},fM n t d=true->6-d<=(L:Int)->a8 S w n t c0 c1 c2->a8 S w (L+1) (fO L n t) c0 c1 c2:=by
 intro n;induction n with
 | zero=>intro L t;exact Empty.elim (show Empty from t)
 | succ n E=>
  intro L t d c0 c1 c2 B H h;obtain⟨F,G,k⟩:=ic B;obtain⟨l,g,m,j,cap,rfl,C,A⟩:=h;cases L with
  | zero=>
   have f:Kd.kids t=[]:=by
    cases f:Kd.kids t with
    | nil=>rfl
    | cons x r=>
     have D:=k x (by rw[f];exact Zj ..);cases n with
     | zero=>exact Empty.elim (show Empty from x)
     | succ n=>have:=(ic D).1;omega
   refine⟨l,g,m,j,cap,by rw[f];rfl,by show ([]:List (K 0)).length<=maxLen;simp,fun c=>absurd rfl c⟩
  | succ L=>have e:(Kd.kids (fO (L+1) (n+1) t)).length=(Kd.kids t).length:=List.length_map ..;refine⟨l,g,m,j,cap,by rw[e],by rw[e];exact C,fun c=>?_⟩;obtain⟨b,off,y,z,a⟩:=A (fun h=>c (by show (Kd.kids t).map (fO L n)=[];rw[h];rfl));refine⟨b,off,y,z,fun i hi=>?_⟩;obtain⟨o,p,q,s,u,v,f⟩:=a i (by rw[<- e];exact hi);refine⟨o,p,q,s,u,v,?_⟩;have:(Kd.kids (fO (L+1) (n+1) t))[i]=fO L n ((Kd.kids t)[i]'(by rw[<- e];exact hi)):=List.getElem_map ..;rw[this];exact E (k _ (Zg _)) om f
theorem a8.okd{t:K n}{c0 c1 c2:Value}(h:gF n t=true)(b:5<=L)(a:a8 S w n t c0 c1 c2):a8 S w (L+1) (fO L n t) c0 c1 c2:=
 a.dn (iw h).1 om
theorem IV:∀x y:List UInt8,Op.bytesLess x y=false->Op.bytesLess y x=false->x=y:=by
 intro x;induction x with
 | nil=>
  intro y c d;cases y with
  | nil=>rfl
  | cons b r=>simp[Op.bytesLess]at c
 | cons a r h=>
  intro y c d;cases y with
  | nil=>simp[Op.bytesLess]at d
  | cons b q=>
   simp only[Op.bytesLess,Bool.or_eq_false_iff,Bool.and_eq_false_iff,decide_eq_false_iff_not]at c d;have e:=UInt8.le_antisymm (UInt8.not_lt.1 d.1) (UInt8.not_lt.1 c.1);subst e;have f:Op.bytesLess r q=false:=by simpa using c.2
   have g:Op.bytesLess q r=false:=by simpa using d.2
   rw[h q f g]
theorem H2{s t:ZN}(b:¬kN s t=true)(c:¬kN t s=true):s=t:=by
 have h:=IV s.toList t.toList (by simpa [kN] using b) (by simpa [kN] using c);have a:s.data.toList=t.data.toList:=by rw[ByteArray.toList_eq,ByteArray.toList_eq]at h;exact h
 cases s;cases t
 simp only[ByteArray.mk.injEq];exact Array.toList_inj.1 a
set_option maxRecDepth 100000
set_option maxHeartbeats 16000000
def mJ(n:Nat):Prop:=∀(S:ZP)(t:K n)(c0 c1 c2:Value)(d:Int)(w:World),a8 S w n t c0 c1 c2->(Bd S w)->fM n t d=true->fR n t<=40 ->
 Calls prog 139 #[Za #[c0,c1,c2]] w fun e a=>e=.returned (Zt (bs (fI n t)))/\Bw w a
theorem pH (s:Int) (x:List UInt8) (na ka:ZO) (c b kl kc:Nat) (w:World) (a:(s=1/\x=[110,117,109])∨(s=2/\x=[116,101,120,116])∨(s=3/\x=[102,108,97,103])) :
  Calls prog 139 #[Za #[Zi .i64 s,Zs na c b,Zs ka kl kc]] w fun e d=>e=.returned (Zt (bs x))/\Bw w d:=by
 rcases a with ⟨rfl,rfl⟩|⟨rfl,rfl⟩|⟨rfl,rfl⟩;all_goals
  go_in
  go_wp2
  go_ret
  exact⟨rfl,gx _ _⟩
theorem vS (n:Nat) (D:mJ n) (S:ZP) (s:Int) (o:List (K n)) (na:ZO) (G F:Nat) (E:Value) (d:Int) (w:World) (Q:s=4∨s=6) (P:gO S w (a8 S w n) o E) (z:Bd S w)
  (B:o.length=1) (r:o.all (fun x=>fM n x d)=true) (N:1+b4 (fun x=>fR n x) o<=40) :
  Calls prog 139 #[Za #[Zi .i64 s,Zs na G F,E]] w fun e U=>e=.returned (Zt (bs (if s=4 then 91 :: jb (fI n) o++[93] else 63 :: jb (fI n) o)))/\Bw w U:=by
 obtain⟨V,cap,rfl,C,f⟩:=P;match o,B with
 | [k],_=>
  obtain⟨b,off,rfl,A,p⟩:=f zS;obtain⟨H,I,J,u,v,y,l⟩:=p 0 zS;simp only[Nat.zero_mul,Nat.add_zero,List.getElem_cons_zero]at u v y l;have a:=(Below.refl w.heap.size w).alloc (Nat.le_refl _) (.cells #[Zi .i64 s,Zs na G F,Zs (some ⟨b,off,none⟩) 1 cap] 31);have j:=z b A;have f0:=kC a u j;have f1:=kC a v j;have f2:=kC a y j;have g:=l.keep (a6 a z) (fun _ h=>h);simp only[List.all_cons,Zq]at r;simp only[b4]at N;have m:=oA n k d r.1;have O:(bs (fI n k)).size<=960:=by rw[gq];omega
  have q:Hid (Calls prog 139 #[Za #[H,I,J]] _ _):=D S k H I J d _ g (fun b M=>by have:=z b M;simp;omega) r.1 om;have L:Hid (bs [91]++bs (fI n k)++bs [93]=bs (91 :: jb (fI n) [k]++[93])):=by show _=_;rw[gA,gA];rfl
  have t:Hid (bs [63]++bs (fI n k)=bs (63 :: jb (fI n) [k])):=by show _=_;rw[gA];rfl
  have R:(bs [91]).size=1:=by rw[gq];rfl
  have T:(bs [91]++bs (fI n k)).size<=961:=by rw[ByteArray.size_append];omega
  clear f p u v y l g r m D;rw[List.length_singleton];rcases Q with rfl|rfl;·rw[if_pos rfl];go_in;go_wp2_with fail;refine q.out.mono ?_;rintro e w1 ⟨rfl,c⟩;have i:=b5 a zS c;clear a c f0 f1 f2 q;go_wp2;go_ret;exact⟨tZ L.out,i⟩
  ·rw[if_neg zC];go_in;go_wp2_with fail;refine q.out.mono ?_;rintro e w1 ⟨rfl,c⟩;have i:=b5 a zS c;clear a c f0 f1 f2 q;go_wp2;go_ret;exact⟨tZ t.out,i⟩
theorem Bo (n:Nat) (hn:mJ n) (S:ZP) (c:List (K n)) (l:List ZN) (na:ZO) (F:Nat) (kv:Value) (d:Int) (w:World) (hl:fL S w l (Zs na l.length F)) (N:l.length=c.length) (ac:∀ s,s∈l->s.size<=8) (hr:gO S w (a8 S w n) c kv) (G:Bd S w)
  (hg:c.all (fun x=>fM n x d)=true) (hc:1+b4 (fun x=>fR n x) c<=40) (am:(fP (go l (c.map (fI n)))).length<=960) :
  Calls prog 139 #[Za #[Zi .i64 5,Zs na l.length F,kv]] w fun e z=>e=.returned (Zt (bs (123 :: fP (go l (c.map (fI n)))++[125])))/\Bw w z:=by
 obtain⟨V,cap,rfl,M,o⟩:=hr;obtain⟨no,al,ad,-,Q,g⟩:=hl;cases ad
 unfold maxLen at M;have H:=(Below.refl w.heap.size w).alloc (Nat.le_refl _) (.cells #[Zi .i64 5,Zs na l.length F,Zs V c.length cap] 31);have aj:=j8.new w (Zi .i64 5) (Zs na l.length F) (Zs V c.length cap) 31;have av:(w.alloc (.cells #[Zi .i64 5,Zs na l.length F,Zs V c.length cap] 31)).heap.size=w.heap.size+1:=zS;have Z:Hid (∀k,(jY (go l (c.map (fI n))) k).size<=960):=fun k=>by have:=jh (go l (c.map (fI n))) k;unfold jY;rw[gq];omega
 have HG:Hid (∀k (h:k<c.length),fM n c[k] d=true/\fR n c[k]<=40):=fun k h=>by refine⟨ZC.1 hg _ (Zg h),?_⟩;have:=gK (fun x=>fR n x) c _ (Zg h);omega
 have C:Hid (l.length=c.length):=N;clear hg N;go_in;go_wp2_with fail;generalize hW:w.alloc (.cells #[Zi .i64 5,Zs na l.length F,Zs V c.length cap] 31)=W at *;clear hW;go_loopw [3,4] (fun a i wr=>∃k:Nat,k<=c.length/\i=Zi .i64 k/\a=Zt (jY (go l (c.map (fI n))) k)/\Bw W wr) (fun _ i _=>c.length-(intOf i).toNat);case atStart=>exact⟨0,Nat.zero_le _,rfl,rfl,Below.refl _ _⟩
 case round=>
  obtain⟨k,hk,rfl,rfl,f⟩:=hrel;have ah:=Z.out k;obtain⟨i0,i1,i2⟩:=aj.keep f;have T:=f.size;by_cases p:k<c.length
  ·obtain⟨b,off,rfl,ab,I⟩:=o (by intro h;rw[h]at p;simp at p);obtain⟨y0,y1,y2,e0,e1,e2,J⟩:=I k p;have D:=G b ab;have j:Bw w wr:=b5 H om f;have f0:=kC j e0 D;have f1:=kC j e1 D;have f2:=kC j e2 D;have A:=J.keep (w':=wr.drew) (a6 j.drew G) (fun _ h=>h);have v:=HG.out k p;have E:=oA n c[k] d v.1;have aq:(bs (fI n c[k])).size<=960:=by rw[gq];omega
   have t:k<l.length:=by rw[C.out];exact p
   obtain⟨nb,B,rfl,O,P⟩:=g (by intro h;rw[h]at t;simp at t);have q0:=kC j (P k t) (G nb O);have ak:=ac l[k] (Zg t);have ar:=G nb O;have r:k<(go l (c.map (fI n))).length:=by rw[iz _ _ (by simpa using C.out)];simpa using p
   have y:bs (go l (c.map (fI n)))[k]=l[k]++bs [58]++bs (fI n c[k]):=by rw[qr l (c.map (fI n)) k t (by simpa using p) r,List.getElem_map,<- rk l[k],gA,gA,jy];simp
   have X:Hid (Calls prog 139 #[Za #[y0,y1,y2]] wr.drew fun e z=>e=.returned (Zt (bs (fI n c[k])))/\Bw wr z/\z.cell? ⟨w.heap.size,1,none⟩=some (Zs (some ⟨nb,B,none⟩) l.length F)/\z.cell? ⟨w.heap.size,2,none⟩=some (Zs (some ⟨b,off,none⟩) c.length cap)/\z.cell? ⟨nb,B+k,none⟩=some (Zt l[k])):=by refine (hn S c[k] y0 y1 y2 d wr.drew A (fun b hb=>by have:=G b hb;simp;omega) v.1 v.2).mono ?_;rintro e z ⟨rfl,hb⟩;have u:Bw wr z:=((Below.refl _ _).drew).trans hb;exact⟨rfl,u,kC u i1 om,kC u i2 om,kC u q0 om⟩
   clear o I e0 e1 e2 J A v E j g P Q;rcases Nat.eq_zero_or_pos k with rfl|ap
   ·have Y:Hid (jY (go l (c.map (fI n))) (0+1)=bs []++(l[0]++bs [58]++bs (fI n c[0]))):=by show _=_;rw[xD _ r,y]
    have U:Hid (jY (go l (c.map (fI n))) 0=bs []):=rfl;clear r y;rw[Nat.zero_mul,Nat.add_zero]at f0;rw[Nat.zero_mul,Nat.add_zero]at f1 f2;rw[U.out];rw[U.out]at ah;generalize aa:bs []=acc at *;generalize bs (fI n c[0])=tk at *;generalize l[0]=nm at *;rw[Nat.add_zero]at q0;rw[Nat.add_zero]at X;have ai:(acc++nm).size<=968:=by rw[ByteArray.size_append];omega
    have R:(acc++nm++bs [58]).size<=969:=by rw[ByteArray.size_append,gq];show _+1<=969;omega
    clear aa;have ae:(9223372036854775807<acc.size+nm.size)=False:=eq_false om;have af:(9223372036854775807<acc.size+nm.size+1)=False:=eq_false om;have ag:(9223372036854775807<acc.size+nm.size+1+tk.size)=False:=eq_false om;go_wp2_with fail;go_region_law (go_simp;go_at_call 139;refine X.out.mono ?_;rintro e w1 ⟨rfl,q,j1,j2,p0⟩);all_goals
     have m:=b5 f T q
     clear q f0 f1 f2
     go_wp2
     go_roundw
     case rel=>exact⟨0+1,om,by go_num,by rw[Y.out];exact congrArg Value.string (by rw[<- ByteArray.append_assoc,<- ByteArray.append_assoc];rfl),m⟩
     case measure=>simp[intOf];omega
   ·have Y:Hid (jY (go l (c.map (fI n))) (k+1)=jY (go l (c.map (fI n))) k++bs [44]++(l[k]++bs [58]++bs (fI n c[k]))):=by show _=_;rw[zs _ _ r om,y]
    have an:decide ((0:Int)<(k:Int))=true:=decide_eq_true om;clear r y;generalize jY (go l (c.map (fI n))) k=acc at *;generalize bs (fI n c[k])=tk at *;generalize l[k]=nm at *;have au:(acc++bs [44]).size<=961:=by rw[ByteArray.size_append,gq];simp;omega
    have ai:(acc++bs [44]++nm).size<=969:=by rw[ByteArray.size_append];omega
    have R:(acc++bs [44]++nm++bs [58]).size<=970:=by rw[ByteArray.size_append,gq];show _+1<=970;omega
    have ae:(9223372036854775807<acc.size+1+nm.size)=False:=eq_false om;have af:(9223372036854775807<acc.size+1+nm.size+1)=False:=eq_false om;have ag:(9223372036854775807<acc.size+1+nm.size+1+tk.size)=False:=eq_false om;go_wp2_with fail;go_region_law (go_simp;go_at_call 139;refine X.out.mono ?_;rintro e w1 ⟨rfl,q,j1,j2,p0⟩);all_goals
     have m:=b5 f T q
     clear q f0 f1 f2
     go_wp2
     go_roundw
     case rel=>exact⟨k+1,om,by go_num,by rw[Y.out];exact congrArg Value.string (by rw[<- ByteArray.append_assoc,<- ByteArray.append_assoc];rfl),m⟩
     case measure=>simp[intOf];omega
  ·have L:k=c.length:=by omega
   have U:Hid (bs [123]++jY (go l (c.map (fI n))) k++bs [125]=bs (123 :: fP (go l (c.map (fI n)))++[125])):=by
    show _=_;unfold jY;have e:c.length=(go l (c.map (fI n))).length:=by rw[iz _ _ (by simpa using C.out)];simp
    rw[L,e,List.take_length,gA,gA];rfl
   have j:Bw w wr:=b5 H om f;clear L o g Q;generalize jY (go l (c.map (fI n))) k=acc at *;go_wp2;go_ret;exact⟨tZ U.out,j⟩
theorem Bp(n:Nat)(p:mJ n):mJ (n+1):=by
 intro S t c0 c1 c2 d w u o h s;have a:=oA (n+1) t d h;obtain⟨rfl,-,q,j⟩:=u;obtain⟨na,r,rfl,-,-,-⟩:=id q;obtain⟨v,y,g,-,-⟩:=id j;simp only[fM,Zq]at h;have b:fX (Kd.sort t) (Kd.names t) (Kd.kids t).length=true:=h.1.2;have f:1+b4 (fun x=>fR n x) (Kd.kids t)<=40:=by simpa only[fR] using s
 unfold fX at b;simp only[fI]at a ⊢;by_cases k:Kd.sort t=1;·rw[if_pos k,g];exact pH _ _ _ _ _ _ _ _ w (.inl ⟨k,rfl⟩)
 rw[if_neg k]at b a ⊢;by_cases l:Kd.sort t=2;·rw[if_pos l,g];exact pH _ _ _ _ _ _ _ _ w (.inr (.inl ⟨l,rfl⟩))
 rw[if_neg l]at b a ⊢;by_cases e:Kd.sort t=3;·rw[if_pos e,g];exact pH _ _ _ _ _ _ _ _ w (.inr (.inr ⟨e,rfl⟩))
 rw[if_neg e]at b a ⊢;by_cases c:Kd.sort t=4;·rw[if_pos c]at b ⊢;simp only[Zq,beq_iff_eq]at b;have:=vS n p S (Kd.sort t) (Kd.kids t) na (Kd.names t).length r c2 (d+1) w (.inl c) j o om h.2 f;rw[if_pos c]at this;exact this
 rw[if_neg c]at b a ⊢;by_cases i:Kd.sort t=6;·rw[if_neg om,if_pos i]at b;rw[if_pos i];simp only[Zq,beq_iff_eq]at b;have:=vS n p S (Kd.sort t) (Kd.kids t) na (Kd.names t).length r c2 (d+1) w (.inr i) j o om h.2 f;rw[if_neg c]at this;exact this
 rw[if_neg i]at a ⊢;by_cases m:Kd.sort t=5;·rw[if_pos m]at b;rw[m];simp only[Zq,beq_iff_eq]at b;simp only[List.length_append,List.length_cons,List.length_nil]at a;exact Bo n p S (Kd.kids t) (Kd.names t) _ _ _ (d+1) w q om (jO _ b.2) j o h.2 f om
 ·rw[if_neg m,if_neg i]at b;cases b
theorem pA:∀n,mJ n:=by
 intro n;induction n with
 | zero=>intro S t c0 c1 c2 d w a;exact a.elim
 | succ n b=>exact Bp n b
end Go.Proofs.YtcfojmaccikgeaaGreatDoor
