import Derived.Test.YtcfojmaccikgeaaGreatDoorB2
import Derived.Test.YtcfojmaccikgeaaGreatDoorB5
import Derived.Deep.RegionLaw
import Derived.Deep.QuietTactic
import Derived.BigQuiet
open Go.Value renaming slice→Zs,int→Zi,string→Zt,agg→Za
open Bool renaming and_eq_true→Zq
open List renaming getElem_mem→Zg,eq_nil_of_length_eq_zero→Zz,mem_cons_self→Zj,mem_cons_of_mem→ZB,all_eq_true→ZC
namespace Go.Proofs.YtcfojmaccikgeaaGreatDoor
open Go.RowKit Go.Proofs.Tryz
variable {n L:Nat} {d:Int} {α β:Type} {S:Nat->Prop} {w:World}
theorem tV {k:K (n+1)} (h:fK (n+1) k d=true) :
  ((Kd.sort k=1∨Kd.sort k=2∨Kd.sort k=3)/\Kd.names k=[]/\Kd.kids k=[])∨((Kd.sort k=4∨Kd.sort k=6)/\Kd.names k=[]/\∃x,Kd.kids k=[x])∨(Kd.sort k=5/\(Kd.names k).length=(Kd.kids k).length/\gW (Kd.names k)=true):=by
 simp only[fK,Zq]at h;have a:fW (Kd.sort k) (Kd.names k) (Kd.kids k).length=true:=h.1.2;unfold fW at a;by_cases e:Kd.sort k=1;·rw[if_pos e]at a;simp at a;exact .inl ⟨.inl e,a.1,a.2⟩
 rw[if_neg e]at a;by_cases b:Kd.sort k=2;·rw[if_pos b]at a;simp at a;exact .inl ⟨.inr (.inl b),a.1,a.2⟩
 rw[if_neg b]at a;by_cases f:Kd.sort k=3;·rw[if_pos f]at a;simp at a;exact .inl ⟨.inr (.inr f),a.1,a.2⟩
 rw[if_neg f]at a;have one:∀l:List (K n),(l.length:Int)=1->∃x,l=[x]:=by
  intro l j;match l,j with
  | [x],_=>exact⟨x,rfl⟩
  | x :: y :: r,j=>simp at j;omega
 by_cases g:Kd.sort k=4;·rw[if_pos g]at a;simp only[Zq,beq_iff_eq]at a;exact .inr (.inl ⟨.inl g,Zz om,one _ a.2⟩)
 rw[if_neg g]at a;by_cases c:Kd.sort k=5;·rw[if_pos c]at a;simp only[Zq,beq_iff_eq]at a;exact .inr (.inr ⟨c,om,a.2⟩)
 rw[if_neg c]at a;by_cases i:Kd.sort k=6;·rw[if_pos i]at a;simp only[Zq,beq_iff_eq]at a;exact .inr (.inl ⟨.inr i,Zz om,one _ a.2⟩)
 ·rw[if_neg i]at a;cases a
def kU{α:Type}:List ByteArray->List α->ByteArray->Option α
 | s :: r,k :: ks,x=>if s=x then some k else kU r ks x
 | _,_,_=>none
theorem oO:∀(l:List ByteArray)(a:List α)(x:ByteArray),x ∉ l->kU l a x=none:=by
 intro l;induction l with
 | nil=>intro a x _;cases a<;>rfl
 | cons s r c=>
  intro a x h;cases a with
  | nil=>rfl
  | cons k a=>rw[kU,if_neg (fun e=>h (by rw[e];exact Zj ..))];exact c a x (fun b=>h (ZB _ b))
theorem nA:∀(l:List ByteArray)(a:List α)(i:Nat)(c:i<l.length)(d:i<a.length),uk l->kU l a l[i]=some a[i]:=by
 intro l;induction l with
 | nil=>intro a i c;exact absurd c (Nat.not_lt_zero _)
 | cons s r e=>
  intro a i c d f;cases a with
  | nil=>exact absurd d (Nat.not_lt_zero _)
  | cons k a=>
   have b:=List.pairwise_cons.1 f;cases i with
   | zero=>simp[kU]
   | succ i=>
    have hi:i<r.length:=by simpa using c
    simp only[List.getElem_cons_succ];rw[kU,if_neg (vt (b.1 _ (Zg hi)))];exact e a i hi (by simpa using d) b.2
def fQ:(L n:Nat)->K n->K (L+1)
 | _,0,k=>Empty.elim (show Empty from k)
 | 0,_+1,k=>(⟨Kd.sort k,Kd.names k,[]⟩:Kd (K 0))
 | L+1,n+1,k=>(⟨Kd.sort k,Kd.names k,(Kd.kids k).map (fQ L n)⟩:Kd (K (L+1)))
theorem a8.cp:∀ {n:Nat} {L:Nat} {t:K n} {c0 c1 c2:Value},n<=L+1->a8 S w n t c0 c1 c2->a8 S w (L+1) (fQ L n t) c0 c1 c2:=by
 intro n;induction n with
 | zero=>intro L t;exact Empty.elim (show Empty from t)
 | succ n s=>
  intro L t c0 c1 c2 C h;obtain⟨g,d,j,k,cap,rfl,y,m⟩:=h;cases L with
  | zero=>
   have z:n=0:=om;subst z;have f:Kd.kids t=[]:=by
    cases f:Kd.kids t with
    | nil=>rfl
    | cons x r=>exact Empty.elim (show Empty from x)
   refine⟨g,d,j,k,cap,by rw[f];rfl,by show ([]:List (K 0)).length<=maxLen;simp,fun a=>absurd rfl a⟩
  | succ L=>have e:(Kd.kids (fQ (L+1) (n+1) t)).length=(Kd.kids t).length:=List.length_map ..;refine⟨g,d,j,k,cap,by rw[e],by rw[e];exact y,fun a=>?_⟩;obtain⟨b,off,o,A,c⟩:=m (fun h=>a (by show (Kd.kids t).map (fQ L n)=[];rw[h];rfl));refine⟨b,off,o,A,fun i hi=>?_⟩;obtain⟨v,p,l,q,B,u,f⟩:=c i (by rw[<- e];exact hi);refine⟨v,p,l,q,B,u,?_⟩;have:(Kd.kids (fQ (L+1) (n+1) t))[i]=fQ L n ((Kd.kids t)[i]'(by rw[<- e];exact hi)):=List.getElem_map ..;rw[this];exact s om f
theorem qi(k:K (n+1)):fQ (L+1) (n+1) k=(⟨Kd.sort k,Kd.names k,(Kd.kids k).map (fQ L n)⟩:Kd (K (L+1))):=rfl
theorem vz(f:α->β)(g:β->List UInt8)(l:List α):i8 g (l.map f)=i8 (fun x=>g (f x)) l:=by cases l<;>rfl
theorem rn(f g:α->List UInt8)(l:List α)(h:∀x,x∈l->f x=g x):i8 f l=i8 g l:=by
 cases l with
 | nil=>rfl
 | cons x r=>exact h x (Zj ..)
def CN{α:Type}(f:α->List UInt8)(t:Kd α):List UInt8:=
 if t.sort=1 then [110,117,109]
 else if t.sort=2 then [116,101,120,116]
 else if t.sort=3 then [102,108,97,103]
 else if t.sort=4 then 91 :: i8 f t.kids++[93]
 else if t.sort=6 then 63 :: i8 f t.kids
 else 123 :: fS (gq t.names (t.kids.map f))++[125]
theorem uZ(f:α->β)(g:β->Nat)(h:α->Nat):∀l:List α,(∀x,x∈l->g (f x)=h x)->b5 g (l.map f)=b5 h l:=by
 intro l;induction l with
 | nil=>intro _;rfl
 | cons x r c=>intro a;show g (f x)+b5 g (r.map f)=h x+b5 h r;rw[a x (Zj ..),c fun y b=>a y (ZB _ b)]
theorem ic{k:K (n+1)}(h:fK (n+1) k d=true):d<=6/\lq (show Kd (K n) from k)=true/\∀x,x∈Kd.kids k->fK n x (d+1)=true:=by simp only[fK,Zq,decide_eq_true_eq,ZC]at h;exact⟨h.1.1,h.1.2,h.2⟩
theorem pQ{k:K (n+1)}(c:d<=6)(a:lq (show Kd (K n) from k)=true)(b:∀x,x∈Kd.kids k->fK n x (d+1)=true):fK (n+1) k d=true:=by simp only[fK,Zq,decide_eq_true_eq,ZC];exact⟨⟨c,a⟩,b⟩
theorem AJ:∀(n:Nat)(k:K n)(d e:Int),fK n k d=true->e<=d->fK n k e=true:=by
 intro n;induction n with
 | zero=>intro k;exact Empty.elim (show Empty from k)
 | succ n f=>intro k d e h i;obtain⟨g,a,b⟩:=ic h;exact pQ om a fun x c=>f x _ _ (b x c) om
theorem Dx:∀ (L n:Nat) (k:K n) (d:Int),fK n k d=true->6 - d<=(L:Int) ->
  fK (L+1) (fQ L n k) d=true/\fP (L+1) (fQ L n k)=fP n k/\d9 (L+1) (fQ L n k)=d9 n k:=by
 intro L n;induction n generalizing L with
 | zero=>intro k;exact Empty.elim (show Empty from k)
 | succ n m=>
  intro k d h o;obtain⟨f,b,g⟩:=ic h;cases L with
  | zero=>
   have c:Kd.kids k=[]:=by
    cases c:Kd.kids k with
    | nil=>rfl
    | cons x r=>
     have a:=g x (by rw[c];exact Zj ..);cases n with
     | zero=>exact Empty.elim (show Empty from x)
     | succ n=>have:=(ic a).1;omega
   refine⟨pQ f ?_ fun x a=>Empty.elim (show Empty from x),?_,?_⟩;·unfold lq at b ⊢;rw[c]at b;exact b
   ·show 1+b5 (fun x=>fP 0 x) []=1+b5 (fun x=>fP n x) (Kd.kids k);rw[c];rfl
   ·show d9 1 (⟨Kd.sort k,Kd.names k,[]⟩:Kd (K 0))=d9 (n+1) k;simp only[d9,c,i8,List.map_nil]
  | succ L=>
   have a:∀x,x∈Kd.kids k->fK (L+1) (fQ L n x) (d+1)=true/\fP (L+1) (fQ L n x)=fP n x/\d9 (L+1) (fQ L n x)=d9 n x:=fun x a=>m L x (d+1) (g x a) om;refine⟨pQ f ?_ ?_,?_,?_⟩;·unfold lq at b ⊢;rw[qi];show fW (Kd.sort k) (Kd.names k) ((Kd.kids k).map (fQ L n)).length=true;rw[List.length_map];exact b
   ·rw[qi];intro x e;obtain⟨y,j,rfl⟩:=List.mem_map.1 e;exact (a y j).1
   ·rw[qi];show 1+b5 (fun x=>fP (L+1) x) ((Kd.kids k).map (fQ L n))=1+b5 (fun x=>fP n x) (Kd.kids k);rw[uZ _ _ (fun x=>fP n x) _ fun x h=>(a x h).2.1]
   ·rw[qi];have l:((Kd.kids k).map (fQ L n)).map (d9 (L+1))=(Kd.kids k).map (d9 n):=by rw[List.map_map];exact List.map_congr_left fun x h=>(a x h).2.2
    have i:i8 (d9 (L+1)) ((Kd.kids k).map (fQ L n))=i8 (d9 n) (Kd.kids k):=by rw[vz];exact rn _ _ _ fun x h=>(a x h).2.2
    show CN (d9 (L+1)) (⟨Kd.sort k,Kd.names k,(Kd.kids k).map (fQ L n)⟩:Kd (K (L+1)))=CN (d9 n) (show Kd (K n) from k);unfold CN;show (if Kd.sort k=1 then _ else _)=_;rw[l,i]
theorem rR{k:K n}(f:5<=L)(h:gV n k=true):gV (L+1) (fQ L n k)=true/\fP (L+1) (fQ L n k)=fP n k/\d9 (L+1) (fQ L n k)=d9 n k:=by obtain⟨c,b⟩:=ie h;obtain⟨e,a,d⟩:=Dx L n k 1 c om;refine⟨?_,a,d⟩;unfold gV;rw[e,a];simpa using b
theorem pF:∀(n:Nat)(k:K n),(∀ {d:Int},fK (n+1) (fQ n n k) d=fK n k d)/\fP (n+1) (fQ n n k)=fP n k/\d9 (n+1) (fQ n n k)=d9 n k:=by
 intro n;induction n with
 | zero=>intro k;exact Empty.elim (show Empty from k)
 | succ n a=>
  intro k;have b:((Kd.kids k).map (fQ n n)).map (d9 (n+1))=(Kd.kids k).map (d9 n):=by rw[List.map_map];exact List.map_congr_left fun x _=>(a x).2.2
  have c:i8 (d9 (n+1)) ((Kd.kids k).map (fQ n n))=i8 (d9 n) (Kd.kids k):=by rw[vz];exact rn _ _ _ fun x _=>(a x).2.2
  refine⟨fun {d}=>?_,?_,?_⟩;·show (decide (d<=6) && fW (Kd.sort k) (Kd.names k) ((Kd.kids k).map (fQ n n)).length && ((Kd.kids k).map (fQ n n)).all (fun x=>fK (n+1) x (d+1)))=(decide (d<=6) && fW (Kd.sort k) (Kd.names k) (Kd.kids k).length && (Kd.kids k).all (fun x=>fK n x (d+1)));rw[List.length_map,List.all_map];congr 2;funext x;exact (a x).1
  ·show 1+b5 (fun x=>fP (n+1) x) ((Kd.kids k).map (fQ n n))=1+b5 (fun x=>fP n x) (Kd.kids k);rw[uZ _ _ (fun x=>fP n x) _ fun x _=>(a x).2.1]
  ·show CN (d9 (n+1)) (⟨Kd.sort k,Kd.names k,(Kd.kids k).map (fQ n n)⟩:Kd (K (n+1)))=CN (d9 n) (show Kd (K n) from k);unfold CN;show (if Kd.sort k=1 then _ else _)=_;rw[b,c]
theorem pn{k:K (n+1)}(h:gV (n+1) k=true)(x:K n)(a:x∈Kd.kids k):gV n x=true:=by obtain⟨b,d⟩:=ie h;have g:=(ic b).2.2 x a;have c:fP n x<=b5 (fun k=>fP n k) (Kd.kids k):=gX _ _ _ a;have e:fP (n+1) k=1+b5 (fun k=>fP n k) (Kd.kids k):=rfl;unfold gV;rw[AJ n x _ 1 g om];simp only[Bool.true_and,decide_eq_true_eq];omega
theorem a8.dn:∀ {n:Nat} {L:Nat} {t:K n} {d:Int} {c0 c1 c2:Value},fK n t d=true->6-d<=(L:Int)->a8 S w n t c0 c1 c2->a8 S w (L+1) (fQ L n t) c0 c1 c2:=by
 intro n;induction n with
 | zero=>intro L t;exact Empty.elim (show Empty from t)
 | succ n z=>
  intro L t d c0 c1 c2 p H h;obtain⟨F,G,m⟩:=ic p;obtain⟨j,f,k,l,cap,rfl,C,q⟩:=h;cases L with
  | zero=>
   have g:Kd.kids t=[]:=by
    cases g:Kd.kids t with
    | nil=>rfl
    | cons x r=>
     have v:=m x (by rw[g];exact Zj ..);cases n with
     | zero=>exact Empty.elim (show Empty from x)
     | succ n=>have:=(ic v).1;omega
   refine⟨j,f,k,l,cap,by rw[g];rfl,by show ([]:List (K 0)).length<=maxLen;simp,fun a=>absurd rfl a⟩
  | succ L=>have e:(Kd.kids (fQ (L+1) (n+1) t)).length=(Kd.kids t).length:=List.length_map ..;refine⟨j,f,k,l,cap,by rw[e],by rw[e];exact C,fun a=>?_⟩;obtain⟨b,off,s,D,c⟩:=q (fun h=>a (by show (Kd.kids t).map (fQ L n)=[];rw[h];rfl));refine⟨b,off,s,D,fun i hi=>?_⟩;obtain⟨B,u,o,y,E,A,g⟩:=c i (by rw[<- e];exact hi);refine⟨B,u,o,y,E,A,?_⟩;have:(Kd.kids (fQ (L+1) (n+1) t))[i]=fQ L n ((Kd.kids t)[i]'(by rw[<- e];exact hi)):=List.getElem_map ..;rw[this];exact z (m _ (Zg _)) om g
theorem a8.okd{t:K n}{c0 c1 c2:Value}(h:gV n t=true)(b:5<=L)(a:a8 S w n t c0 c1 c2):a8 S w (L+1) (fQ L n t) c0 c1 c2:=
 a.dn (ie h).1 om
set_option maxRecDepth 100000
set_option maxHeartbeats 16000000
def mR(n:Nat):Prop:=∀(S:Nat->Prop)(t:K n)(c0 c1 c2:Value)(d:Int)(w:World),a8 S w n t c0 c1 c2->(Bd S w)->fK n t d=true->fP n t<=40 ->
 Calls prog 139 #[Za #[c0,c1,c2]] w fun e a=>e=.returned (Zt (bs (d9 n t)))/\Bw w a
theorem pB (s:Int) (x:List UInt8) (na a:Option Addr) (g c h f:Nat) (w:World) (d:(s=1/\x=[110,117,109])∨(s=2/\x=[116,101,120,116])∨(s=3/\x=[102,108,97,103])) :
  Calls prog 139 #[Za #[Zi .i64 s,Zs na g c,Zs a h f]] w fun e b=>e=.returned (Zt (bs x))/\Bw w b:=by
 rcases d with ⟨rfl,rfl⟩|⟨rfl,rfl⟩|⟨rfl,rfl⟩;all_goals
  go_in
  go_wp2
  go_ret
  exact⟨rfl,gF _ _⟩
theorem uV (n:Nat) (J:mR n) (S:Nat->Prop) (s:Int) (o:List (K n)) (na:Option Addr) (G E:Nat) (I:Value) (d:Int) (w:World) (T:s=4∨s=6) (P:gU S w (a8 S w n) o I) (v:Bd S w)
  (z:o.length=1) (r:o.all (fun x=>fK n x d)=true) (L:1+b5 (fun x=>fP n x) o<=40) :
  Calls prog 139 #[Za #[Zi .i64 s,Zs na G E,I]] w fun e R=>e=.returned (Zt (bs (if s=4 then 91 :: i8 (d9 n) o++[93] else 63 :: i8 (d9 n) o)))/\Bw w R:=by
 obtain⟨V,cap,rfl,F,f⟩:=P;match o,z with
 | [k],_=>
  obtain⟨b,off,rfl,A,p⟩:=f zS;obtain⟨C,H,D,u,B,y,m⟩:=p 0 zS;simp only[Nat.zero_mul,Nat.add_zero,List.getElem_cons_zero]at u B y m;have a:=(Below.refl w.heap.size w).alloc (Nat.le_refl _) (.cells #[Zi .i64 s,Zs na G E,Zs (some ⟨b,off,none⟩) 1 cap] 31);have i:=v b A;have f0:=kC a u i;have f1:=kC a B i;have f2:=kC a y i;have g:=m.keep (a6 a v) (fun _ h=>h);simp only[List.all_cons,Zq]at r;simp only[b5]at L;have l:=nM n k d r.1;have Q:(bs (d9 n k)).size<=960:=by rw[go];omega
  have q:Hid (Calls prog 139 #[Za #[C,H,D]] _ _):=J S k C H D d _ g (fun b U=>by have:=v b U;simp;omega) r.1 om;have O:Hid (bs [91]++bs (d9 n k)++bs [93]=bs (91 :: i8 (d9 n) [k]++[93])):=by show _=_;rw[gB,gB];rfl
  have t:Hid (bs [63]++bs (d9 n k)=bs (63 :: i8 (d9 n) [k])):=by show _=_;rw[gB];rfl
  have M:(bs [91]).size=1:=by rw[go];rfl
  have N:(bs [91]++bs (d9 n k)).size<=961:=by rw[ByteArray.size_append];omega
  clear f p u B y m g r l J;rw[List.length_singleton];rcases T with rfl|rfl;·rw[if_pos rfl];go_in;go_wp2_with fail;refine q.out.mono ?_;rintro e w1 ⟨rfl,c⟩;have j:=b4 a zS c;clear a c f0 f1 f2 q;go_wp2;go_ret;exact⟨tG O.out,j⟩
  ·rw[if_neg zC];go_in;go_wp2_with fail;refine q.out.mono ?_;rintro e w1 ⟨rfl,c⟩;have j:=b4 a zS c;clear a c f0 f1 f2 q;go_wp2;go_ret;exact⟨tG t.out,j⟩
theorem Ao (n:Nat) (hn:mR n) (S:Nat->Prop) (c:List (K n)) (l:List ByteArray) (na:Option Addr) (E:Nat) (kv:Value) (d:Int) (w:World) (hl:fL S w l (Zs na l.length E)) (R:l.length=c.length) (ag:∀ s,s∈l->s.size<=8) (hr:gU S w (a8 S w n) c kv) (I:Bd S w)
  (hg:c.all (fun x=>fK n x d)=true) (hc:1+b5 (fun x=>fP n x) c<=40) (am:(fS (gq l (c.map (d9 n)))).length<=960) :
  Calls prog 139 #[Za #[Zi .i64 5,Zs na l.length E,kv]] w fun e z=>e=.returned (Zt (bs (123 :: fS (gq l (c.map (d9 n)))++[125])))/\Bw w z:=by
 obtain⟨V,cap,rfl,P,p⟩:=hr;obtain⟨no,al,aa,-,M,g⟩:=hl;cases aa
 unfold maxLen at P;have J:=(Below.refl w.heap.size w).alloc (Nat.le_refl _) (.cells #[Zi .i64 5,Zs na l.length E,Zs V c.length cap] 31);have ah:=jX.new w (Zi .i64 5) (Zs na l.length E) (Zs V c.length cap) 31;have an:(w.alloc (.cells #[Zi .i64 5,Zs na l.length E,Zs V c.length cap] 31)).heap.size=w.heap.size+1:=zS;have Y:Hid (∀k,(jO (gq l (c.map (d9 n))) k).size<=960):=fun k=>by have:=jj (gq l (c.map (d9 n))) k;unfold jO;rw[go];omega
 have HG:Hid (∀k (h:k<c.length),fK n c[k] d=true/\fP n c[k]<=40):=fun k h=>by refine⟨ZC.1 hg _ (Zg h),?_⟩;have:=gX (fun x=>fP n x) c _ (Zg h);omega
 have F:Hid (l.length=c.length):=R;clear hg R;go_in;go_wp2_with fail;generalize hW:w.alloc (.cells #[Zi .i64 5,Zs na l.length E,Zs V c.length cap] 31)=W at *;clear hW;go_loopw [3,4] (fun a i wr=>∃k:Nat,k<=c.length/\i=Zi .i64 k/\a=Zt (jO (gq l (c.map (d9 n))) k)/\Bw W wr) (fun _ i _=>c.length-(intOf i).toNat);case atStart=>exact⟨0,Nat.zero_le _,rfl,rfl,Below.refl _ _⟩
 case round=>
  obtain⟨k,hk,rfl,rfl,f⟩:=hrel;have ae:=Y.out k;obtain⟨i0,i1,i2⟩:=ah.keep f;have T:=f.size;by_cases o:k<c.length
  ·obtain⟨b,off,rfl,ac,L⟩:=p (by intro h;rw[h]at o;simp at o);obtain⟨y0,y1,y2,e0,e1,e2,O⟩:=L k o;have C:=I b ac;have j:Bw w wr:=b4 J om f;have f0:=kC j e0 C;have f1:=kC j e1 C;have f2:=kC j e2 C;have B:=O.keep (w':=wr.drew) (a6 j.drew I) (fun _ h=>h);have y:=HG.out k o;have D:=nM n c[k] d y.1;have av:(bs (d9 n c[k])).size<=960:=by rw[go];omega
   have r:k<l.length:=by rw[F.out];exact o
   obtain⟨nb,A,rfl,G,Q⟩:=g (by intro h;rw[h]at r;simp at r);have q0:=kC j (Q k r) (I nb G);have ak:=ag l[k] (Zg r);have au:=I nb G;have q:k<(gq l (c.map (d9 n))).length:=by rw[ix _ _ (by simpa using F.out)];simpa using o
   have v:bs (gq l (c.map (d9 n)))[k]=l[k]++bs [58]++bs (d9 n c[k]):=by rw[pC l (c.map (d9 n)) k r (by simpa using o) q,List.getElem_map,<- ru l[k],gB,gB,jv];simp
   have X:Hid (Calls prog 139 #[Za #[y0,y1,y2]] wr.drew fun e z=>e=.returned (Zt (bs (d9 n c[k])))/\Bw wr z/\z.cell? ⟨w.heap.size,1,none⟩=some (Zs (some ⟨nb,A,none⟩) l.length E)/\z.cell? ⟨w.heap.size,2,none⟩=some (Zs (some ⟨b,off,none⟩) c.length cap)/\z.cell? ⟨nb,A+k,none⟩=some (Zt l[k])):=by refine (hn S c[k] y0 y1 y2 d wr.drew B (fun b hb=>by have:=I b hb;simp;omega) y.1 y.2).mono ?_;rintro e z ⟨rfl,hb⟩;have u:Bw wr z:=((Below.refl _ _).drew).trans hb;exact⟨rfl,u,kC u i1 om,kC u i2 om,kC u q0 om⟩
   clear p L e0 e1 e2 O B y D j g Q M;rcases Nat.eq_zero_or_pos k with rfl|aq
   ·have Z:Hid (jO (gq l (c.map (d9 n))) (0+1)=bs []++(l[0]++bs [58]++bs (d9 n c[0]))):=by show _=_;rw[vS _ q,v]
    have U:Hid (jO (gq l (c.map (d9 n))) 0=bs []):=rfl;clear q v;rw[Nat.zero_mul,Nat.add_zero]at f0;rw[Nat.zero_mul,Nat.add_zero]at f1 f2;rw[U.out];rw[U.out]at ae;generalize aj:bs []=acc at *;generalize bs (d9 n c[0])=tk at *;generalize l[0]=nm at *;rw[Nat.add_zero]at q0;rw[Nat.add_zero]at X;have af:(acc++nm).size<=968:=by rw[ByteArray.size_append];omega
    have H:(acc++nm++bs [58]).size<=969:=by rw[ByteArray.size_append,go];show _+1<=969;omega
    clear aj;have ai:(9223372036854775807<acc.size+nm.size)=False:=eq_false om;have ab:(9223372036854775807<acc.size+nm.size+1)=False:=eq_false om;have ad:(9223372036854775807<acc.size+nm.size+1+tk.size)=False:=eq_false om;go_wp2_with fail;go_region_law (go_simp;go_at_call 139;refine X.out.mono ?_;rintro e w1 ⟨rfl,t,j1,j2,p0⟩);all_goals
     have m:=b4 f T t
     clear t f0 f1 f2
     go_wp2
     go_roundw
     case rel=>exact⟨0+1,om,by go_num,by rw[Z.out];exact congrArg Value.string (by rw[<- ByteArray.append_assoc,<- ByteArray.append_assoc];rfl),m⟩
     case measure=>simp[intOf];omega
   ·have Z:Hid (jO (gq l (c.map (d9 n))) (k+1)=jO (gq l (c.map (d9 n))) k++bs [44]++(l[k]++bs [58]++bs (d9 n c[k]))):=by show _=_;rw[yf _ _ q om,v]
    have ap:decide ((0:Int)<(k:Int))=true:=decide_eq_true om;clear q v;generalize jO (gq l (c.map (d9 n))) k=acc at *;generalize bs (d9 n c[k])=tk at *;generalize l[k]=nm at *;have ar:(acc++bs [44]).size<=961:=by rw[ByteArray.size_append,go];simp;omega
    have af:(acc++bs [44]++nm).size<=969:=by rw[ByteArray.size_append];omega
    have H:(acc++bs [44]++nm++bs [58]).size<=970:=by rw[ByteArray.size_append,go];show _+1<=970;omega
    have ai:(9223372036854775807<acc.size+1+nm.size)=False:=eq_false om;have ab:(9223372036854775807<acc.size+1+nm.size+1)=False:=eq_false om;have ad:(9223372036854775807<acc.size+1+nm.size+1+tk.size)=False:=eq_false om;go_wp2_with fail;go_region_law (go_simp;go_at_call 139;refine X.out.mono ?_;rintro e w1 ⟨rfl,t,j1,j2,p0⟩);all_goals
     have m:=b4 f T t
     clear t f0 f1 f2
     go_wp2
     go_roundw
     case rel=>exact⟨k+1,om,by go_num,by rw[Z.out];exact congrArg Value.string (by rw[<- ByteArray.append_assoc,<- ByteArray.append_assoc];rfl),m⟩
     case measure=>simp[intOf];omega
  ·have N:k=c.length:=by omega
   have U:Hid (bs [123]++jO (gq l (c.map (d9 n))) k++bs [125]=bs (123 :: fS (gq l (c.map (d9 n)))++[125])):=by
    show _=_;unfold jO;have e:c.length=(gq l (c.map (d9 n))).length:=by rw[ix _ _ (by simpa using F.out)];simp
    rw[N,e,List.take_length,gB,gB];rfl
   have j:Bw w wr:=b4 J om f;clear N p g M;generalize jO (gq l (c.map (d9 n))) k=acc at *;go_wp2;go_ret;exact⟨tG U.out,j⟩
theorem zN(n:Nat)(o:mR n):mR (n+1):=by
 intro S t c0 c1 c2 d w u p h s;have a:=nM (n+1) t d h;obtain⟨rfl,-,q,j⟩:=u;obtain⟨na,r,rfl,-,-,-⟩:=id q;obtain⟨v,y,g,-,-⟩:=id j;simp only[fK,Zq]at h;have b:fW (Kd.sort t) (Kd.names t) (Kd.kids t).length=true:=h.1.2;have f:1+b5 (fun x=>fP n x) (Kd.kids t)<=40:=by simpa only[fP] using s
 unfold fW at b;simp only[d9]at a ⊢;by_cases l:Kd.sort t=1;·rw[if_pos l,g];exact pB _ _ _ _ _ _ _ _ w (.inl ⟨l,rfl⟩)
 rw[if_neg l]at b a ⊢;by_cases k:Kd.sort t=2;·rw[if_pos k,g];exact pB _ _ _ _ _ _ _ _ w (.inr (.inl ⟨k,rfl⟩))
 rw[if_neg k]at b a ⊢;by_cases e:Kd.sort t=3;·rw[if_pos e,g];exact pB _ _ _ _ _ _ _ _ w (.inr (.inr ⟨e,rfl⟩))
 rw[if_neg e]at b a ⊢;by_cases c:Kd.sort t=4;·rw[if_pos c]at b ⊢;simp only[Zq,beq_iff_eq]at b;have:=uV n o S (Kd.sort t) (Kd.kids t) na (Kd.names t).length r c2 (d+1) w (.inl c) j p om h.2 f;rw[if_pos c]at this;exact this
 rw[if_neg c]at b a ⊢;by_cases i:Kd.sort t=6;·rw[if_neg om,if_pos i]at b;rw[if_pos i];simp only[Zq,beq_iff_eq]at b;have:=uV n o S (Kd.sort t) (Kd.kids t) na (Kd.names t).length r c2 (d+1) w (.inr i) j p om h.2 f;rw[if_neg c]at this;exact this
 rw[if_neg i]at a ⊢;by_cases m:Kd.sort t=5;·rw[if_pos m]at b;rw[m];simp only[Zq,beq_iff_eq]at b;simp only[List.length_append,List.length_cons,List.length_nil]at a;exact Ao n o S (Kd.kids t) (Kd.names t) _ _ _ (d+1) w q om (jD _ b.2) j p h.2 f om
 ·rw[if_neg m,if_neg i]at b;cases b
theorem py:∀n,mR n:=by
 intro n;induction n with
 | zero=>intro S t c0 c1 c2 d w a;exact a.elim
 | succ n b=>exact zN n b
theorem I3:∀x y:List UInt8,Op.bytesLess x y=false->Op.bytesLess y x=false->x=y:=by
 intro x;induction x with
 | nil=>
  intro y d c;cases y with
  | nil=>rfl
  | cons b r=>simp[Op.bytesLess]at d
 | cons a r h=>
  intro y d c;cases y with
  | nil=>simp[Op.bytesLess]at c
  | cons b q=>
   simp only[Op.bytesLess,Bool.or_eq_false_iff,Bool.and_eq_false_iff,decide_eq_false_iff_not]at d c;have e:a=b:=UInt8.le_antisymm (UInt8.not_lt.1 c.1) (UInt8.not_lt.1 d.1);subst e;have f:Op.bytesLess r q=false:=by simpa using d.2
   have g:Op.bytesLess q r=false:=by simpa using c.2
   rw[h q f g]
theorem Gv{s t:ByteArray}(b:¬kJ s t=true)(a:¬kJ t s=true):s=t:=by
 have h:=I3 s.toList t.toList (by simpa [kJ] using b) (by simpa [kJ] using a);have c:s.data.toList=t.data.toList:=by rw[ByteArray.toList_eq,ByteArray.toList_eq]at h;exact h
 cases s;cases t
 simp only[ByteArray.mk.injEq];exact Array.toList_inj.1 c
end Go.Proofs.YtcfojmaccikgeaaGreatDoor
