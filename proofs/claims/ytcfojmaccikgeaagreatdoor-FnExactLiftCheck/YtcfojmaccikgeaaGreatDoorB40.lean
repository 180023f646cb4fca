import Derived.Test.YtcfojmaccikgeaaGreatDoorB39
open Option renaming some→Zo
open Bool renaming and_eq_true→Zq
open List renaming getElem_mem→Zg,mem_cons_self→Zj,mem_cons_of_mem→ZB,all_eq_true→ZC
namespace Go.Proofs.YtcfojmaccikgeaaGreatDoor
open Go.RowKit
set_option maxRecDepth 100000
set_option maxHeartbeats 16000000
variable {M n:Nat} {d:Md} {α:Type}
structure wd{M:Nat}(d:Option Md)(names:List ZN)(text:ZN)(ks:List (K (M+1))):Prop where
 ok:∀x,x∈ks->gF (M+1) x=true
 few:ks.length<=1000
 name:d=Zo .bound∨d=Zo .field∨d=Zo .put∨d=Zo .cut->1<=names.length/\(names.getD 0 ByteArray.empty).size<=8
 said:∀s,d=Zo (.said s)->jV text=true
 wrap:∀s p,d=Zo (.wrap s p)->p<ks.length
 kid:∀p,d=Zo (.kid p)->p<ks.length
 form:d=Zo .field∨d=Zo .put∨d=Zo .cut->1<=ks.length/\Kd.sort (ks.getD 0 zU)=5
 put:d=Zo .put->2<=ks.length
 lst:d=Zo .within->1<=ks.length/\Kd.sort (ks.getD 0 zU)=4
theorem ByteArray.le_max{s:ZN}(h:s.size<=8):s.size<=maxLen:=by unfold maxLen;omega
theorem DM {S:ZP} {w:World} {m y:Nat} (hM:5<=M) {t:T (m+1)} {U:Nat} {env:jE M} {sk:K (M+1)} {j:List (K (M+1))} (hl:my S w M m y t U env sk j) (D:Bd S w) {f:Value} (B:kG S w (Zo d) f) (a:wd (Zo d) (Nd.names t) (Nd.text t) j) :
  EL f #[.pointer (Zo ⟨y,0,none⟩)] w (gV S M (lW (Zo d) (Nd.names t) (Nd.text t) env j).1 (lW (Zo d) (Nd.names t) (Nd.text t) env j).2 w):=by
 have e:∀p,p<j.length->∃g o cap k,w.cell? ⟨y,8,none⟩=Zo (.slice (Zo ⟨g,o,none⟩) j.length cap)/\(∀q (h:q<j.length),∃c,w.cell? ⟨g,o+q,none⟩=Zo c/\rd S w M j[q] c)/\w.cell? ⟨g,o+p,none⟩=Zo (.pointer (Zo ⟨k,0,none⟩))/\b9 S w (M+1) (j.getD p zU) (.pointer (Zo ⟨k,0,none⟩))/\gF (M+1) (j.getD p zU)=true:=fun p z=>by obtain⟨n,c0,c1,c2,c3,c4,sv,ad,kv,X,-,-,-,ao,cap,rfl,-,Y⟩:=hl.box;obtain⟨g,o,rfl,-,Q⟩:=Y (fun h0=>by rw[h0]at z;simp at z);obtain⟨c,P,F⟩:=Q p z;have G:=F.ok (a.ok _ (Zg z));obtain⟨k,rfl,-⟩:=id G.ptr;rw[gm z];exact⟨g,o,cap,k,(h9 X).2.2.2.2.2.2.2.2,Q,P,G,a.ok _ (Zg z)⟩
 obtain⟨n,c0,c1,c2,c3,c4,sv,ad,kv,X,N,ac,ae,H⟩:=hl.box;obtain⟨-,-,Z,-,-,-,L,-⟩:=id N;obtain⟨q0,q1,q2,q3,q4,q5,q6,q7,q8⟩:=h9 X;have i:1<=(Nd.names t).length->∃nb no E C,w.cell? ⟨y,3,none⟩=Zo (.slice (Zo ⟨nb,no,none⟩) (E+1) C)/\w.cell? ⟨nb,no,none⟩=Zo (.string ((Nd.names t).getD 0 ByteArray.empty)):=fun h=>by obtain⟨p,q,cap,rfl,-,ab⟩:=ki L D om;refine⟨p,q,(Nd.names t).length-1,cap,by rw[Nat.sub_add_cancel h];exact q3,?_⟩;rw[gm om];simpa using (ab 0 om).1
 cases d using Md.cs with
 | leaf s=>obtain⟨R,rfl,P,F,G⟩:=B;exact⟨_,_,rfl,Tryz.call154,fun args b=>by subst b;exact DG S M _ R s w F G⟩
 | bound=>
  cases B
  obtain⟨r,u⟩:=a.name (.inl rfl);obtain⟨nb,no,E,C,A,I⟩:=i r;exact⟨_,_,rfl,Tryz.call118,fun args b=>by subst b;exact uC S M n env y sv nb no E C _ w ac (ByteArray.le_max u) q6 A I _ rfl⟩
 | said s=>obtain⟨R,rfl,P,F,G⟩:=B;exact⟨_,_,rfl,Tryz.call156,fun args b=>by subst b;exact D2 S M hM _ s y R w D G (by rw[q2,Z]) F (a.said s rfl)⟩
 | wrap s p=>obtain⟨R,pb,rfl,P,F,G,h4,h5⟩:=B;have z:=a.wrap s p rfl;obtain⟨g,o,cap,k,A,-,V,W,e5⟩:=e p z;exact⟨_,_,rfl,Tryz.call159,fun args b=>by subst b;exact xK S M _ s y g o j.length cap p k R pb w D h5 G A h4 V z a.few W⟩
 | kid p=>obtain⟨pb,rfl,P,F⟩:=B;have z:=a.kid p rfl;obtain⟨g,o,cap,k,A,-,V,W,e5⟩:=e p z;exact⟨_,_,rfl,Tryz.call162,fun args b=>by subst b;exact wK S M _ y g o j.length cap p k pb w D A F V z a.few W⟩
 | field=>
  cases B
  obtain⟨r,u⟩:=a.name (.inr (.inl rfl));obtain⟨v,l⟩:=a.form (.inl rfl);obtain⟨nb,no,E,C,A,I⟩:=i r;obtain⟨g,o,cap,k,f1,-,f3,f4,J⟩:=e 0 om;exact⟨_,_,rfl,Tryz.call124,fun args b=>by subst b;exact uJ S M _ y g o (j.length-1) cap k nb no E C _ w (by rw[Nat.sub_add_cancel v];exact f1) (by simpa using f3) A I (ByteArray.le_max u) f4 J l _ rfl⟩
 | put=>
  cases B
  obtain⟨r,u⟩:=a.name (.inr (.inr (.inl rfl)));obtain⟨v,l⟩:=a.form (.inr (.inl rfl));have aa:=a.put rfl;obtain⟨nb,no,E,C,A,I⟩:=i r;obtain⟨g,o,cap,k,f1,fa,f3,f4,J⟩:=e 0 om;obtain⟨c,g1,g2⟩:=fa 1 om;have g3:=g2.ok (a.ok _ (Zg _));obtain⟨xb,rfl,-⟩:=id g3.ptr;have g4:b9 S w (M+1) (j.getD 1 zU) (.pointer (Zo ⟨xb,0,none⟩)):=by rw[gm om];exact g3
  exact⟨_,_,rfl,Tryz.call125,fun args b=>by subst b;exact zk S M _ _ y g o (j.length-2) cap k xb nb no E C _ w D (by rw[Nat.sub_add_cancel aa];exact f1) (by simpa using f3) g1 A I u f4 J l g4⟩
 | cut=>
  cases B
  obtain⟨r,u⟩:=a.name (.inr (.inr (.inr rfl)));obtain⟨v,l⟩:=a.form (.inr (.inr rfl));obtain⟨nb,no,E,C,A,I⟩:=i r;obtain⟨g,o,cap,k,f1,-,f3,f4,J⟩:=e 0 om;exact⟨_,_,rfl,Tryz.call126,fun args b=>by subst b;exact yh S M _ y g o (j.length-1) cap k nb no E C _ w D (by rw[Nat.sub_add_cancel v];exact f1) (by simpa using f3) A I (ByteArray.le_max u) f4 J l _ rfl⟩
 | form=>
  cases B
  obtain⟨na,C,rfl,-⟩:=id L;have O:lx S w (b9 S w (M+1)) j kv:=H.keep (fun _ _=>rfl) (fun _ h=>h) fun x c hx Y=>Y.ok (a.ok x hx);obtain⟨ka,kc,rfl,-⟩:=id H;exact⟨_,_,rfl,Tryz.call127,fun args b=>by subst b;exact wE S M (Nd.names t) j y na ka C kc w D q3 q8 L O⟩
 | within=>
  cases B
  obtain⟨v,l⟩:=a.lst rfl;obtain⟨g,o,cap,k,f1,-,f3,f4,J⟩:=e 0 om;exact⟨_,_,rfl,Tryz.call128,fun args b=>by subst b;exact um S M _ y g o (j.length-1) cap k w D (by rw[Nat.sub_add_cancel v];exact f1) (by simpa using f3) (by have:=a.few;omega) f4 J l⟩
 | num=>
  cases B
  exact⟨_,_,rfl,Tryz.call129,fun args b=>by subst b;exact xi S M _ w D⟩
theorem Cm{l:List ZN}(c:∀a,a∈l->gj a=true)(d:uv l):gX l=true:=by
 unfold gX iP;rw[ZC];intro i hi;have hi:i<l.length:=List.mem_range.1 hi;unfold i8;rw[gm hi,c _ (Zg hi),Bool.true_and,Bool.or_eq_true];by_cases b:i=0;·left;simpa using b
 ·right;rw[gm om];exact List.pairwise_iff_getElem.1 d (i-1) i om hi om
theorem tQ{l:List ZN}(h:gX l=true):∀a,a∈l->gj a=true:=by intro a b;obtain⟨i,hi,e⟩:=List.getElem_of_mem b;unfold gX iP at h;rw[ZC]at h;have:=h i (List.mem_range.2 hi);unfold i8 at this;rw[gm hi,e,Zq]at this;exact this.1
theorem Io(s:ZN)(x:α):∀(c:List ZN)(d:List α),c.length=d.length->(ix s x c d).1.length=(ix s x c d).2.length/\(∀a,a∈(ix s x c d).1->a∈c∨a=s)/\(∀y,y∈(ix s x c d).2->y∈d∨y=x)/\(uv c->uv (ix s x c d).1):=by
 intro c;induction c with
 | nil=>
  intro d h;cases d with
  | nil=>exact⟨rfl,fun a h=>.inr (List.mem_singleton.1 h),fun y h=>.inr (List.mem_singleton.1 h),fun _=>List.pairwise_singleton _ _⟩
  | cons k r=>cases h
 | cons n c p=>
  intro d h;cases d with
  | nil=>cases h
  | cons k r=>
   have l:c.length=r.length:=by simpa using h
   obtain⟨o,i2,i3,i4⟩:=p r l;unfold ix;split
   ·next hlt=>
    refine⟨by simp[o],fun a e=>?_,fun y g=>?_,fun i=>?_⟩
    ·rcases List.mem_cons.1 e with rfl|e;·exact .inl (Zj ..)
     ·exact (i2 a e).imp (ZB _) id
    ·rcases List.mem_cons.1 g with rfl|g;·exact .inl (Zj ..)
     ·exact (i3 y g).imp (ZB _) id
    ·obtain⟨m,a2⟩:=List.pairwise_cons.1 i;refine List.pairwise_cons.2 ⟨fun b f=>?_,i4 a2⟩;rcases i2 b f with f|rfl;·exact m b f
     ·exact hlt
   ·next hlt=>
    split
    ·next he=>
     subst he;exact⟨by simpa using l,fun a e=>.inl e,fun y g=>(List.mem_cons.1 g).elim .inr fun h=>.inl (ZB _ h),fun i=>i⟩
    ·next hne=>
     refine⟨by simpa using l,fun a e=>(List.mem_cons.1 e).elim .inr .inl,fun y g=>(List.mem_cons.1 g).elim .inr .inl,fun i=>?_⟩;have j:kN s n=true:=by
      cases hs:kN s n with
      | true=>rfl
      | false=>exact absurd (H2 hlt (by rw[hs];simp)) hne
     refine List.pairwise_cons.2 ⟨fun b f=>?_,i⟩;rcases List.mem_cons.1 f with rfl|f;·exact j
     ·exact F8 j ((List.pairwise_cons.1 i).1 b f)
theorem He(s:ZN):∀(c:List ZN)(d:List α),c.length=d.length->(iK s c d).1.length=(iK s c d).2.length/\(∀a,a∈(iK s c d).1->a∈c)/\(∀y,y∈(iK s c d).2->y∈d)/\(uv c->uv (iK s c d).1):=by
 intro c;induction c with
 | nil=>
  intro d h;cases d with
  | nil=>exact⟨rfl,fun a h=>h,fun y h=>h,fun h=>h⟩
  | cons k r=>cases h
 | cons n c o=>
  intro d h;cases d with
  | nil=>cases h
  | cons k r=>
   have m:c.length=r.length:=by simpa using h
   obtain⟨i,i2,i3,i4⟩:=o r m;unfold iK;split;·exact⟨i,fun a e=>ZB _ (i2 a e),fun y f=>ZB _ (i3 y f),fun g=>i4 (List.pairwise_cons.1 g).2⟩
   ·refine⟨by simp[i],fun a e=>?_,fun y f=>?_,fun g=>?_⟩
    ·rcases List.mem_cons.1 e with rfl|e;·exact Zj ..
     ·exact ZB _ (i2 a e)
    ·rcases List.mem_cons.1 f with rfl|f;·exact Zj ..
     ·exact ZB _ (i3 y f)
    ·obtain⟨j,a2⟩:=List.pairwise_cons.1 g;exact List.pairwise_cons.2 ⟨fun b l=>j b (i2 b l),i4 a2⟩
theorem rD{k:K n}(h:gF n k=true):gF (n+1) (fO n n k)=true:=by have a:=ss n k;unfold gF at h ⊢;rw[a.1,a.2.1];exact h
theorem qT{k:K n}(h:gF n k=true):nJ n k=true:=D6 (iw h).1
theorem tT{names:List ZN}{a:List (K n)}(b:names.length=a.length)(c:gX names=true)(d:∀x,x∈a->gF n x=true):nJ (n+1) (⟨5,names,a⟩:Kd (K n))=true:=by simp only[nJ,Zq,ZC];refine⟨?_,fun x e=>qT (d x e)⟩;show fX 5 names a.length=true;simp[fX,b,c]
theorem xA{k:K n}{s:Int}(a:s=4∨s=6)(h:gF n k=true):nJ (n+1) (⟨s,[],[k]⟩:Kd (K n))=true:=by simp only[nJ,Zq,ZC];refine⟨?_,fun x b=>by rw[List.mem_singleton.1 b];exact qT h⟩;show fX s [] 1=true;rcases a with rfl|rfl<;>decide
structure EZ{M:Nat}(d:Option Md)(names:List ZN)(env:jE M)(ks:List (K (M+1))):Prop where
 leaf:∀s,d=Zo (.leaf s)->s=1∨s=2∨s=3
 said:∀s,d=Zo (.said s)->s=4∨s=6
 wrap:∀s p,d=Zo (.wrap s p)->s=4∨s=6
 env:∀p,p∈env->gF (M+1) p.2=true
 put:d=Zo .put->gj (names.getD 0 ByteArray.empty)=true
 form:d=Zo .form->names.length=ks.length/\gX names=true
theorem I3{s:ZN}{k:K (M+1)}:∀ {env:jE M},(∀p,p∈env->gF (M+1) p.2=true)->iX env s=Zo k->gF (M+1) k=true:=by
 intro env;induction env with
 | nil=>intro _ h;cases h
 | cons p r c=>
  intro h a;obtain⟨x,y⟩:=p;unfold iX at a;split at a;·cases a;exact h (x,k) (Zj ..)
  ·exact c (fun p b=>h p (ZB _ b)) a
theorem xV:∀(b:List ZN)(a:List α)(s:ZN)(x:α),kR b a s=Zo x->x∈a:=by
 intro b;induction b with
 | nil=>intro a s x h;cases a<;>cases h
 | cons n b c=>
  intro a s x h;cases a with
  | nil=>cases h
  | cons k r=>
   unfold kR at h;split at h;·cases h;exact Zj ..
   ·exact ZB _ (c r s x h)
theorem I7{k x:K (M+1)}{s:ZN}(ok:gF (M+1) k=true)(h:mP k s=Zo x):gF (M+1) x=true:=by unfold mP at h;obtain⟨y,a,rfl⟩:=Option.map_eq_some_iff.1 h;exact rD (pD ok y (xV _ _ _ _ a))
theorem Ga(F:5<=M){names:List ZN}{text:ZN}{env:jE M}{b:List (K (M+1))}(h:wd (Zo d) names text b)(l:EZ (Zo d) names env b)(i:(lW (Zo d) names text env b).2=0):nJ (M+2) (lW (Zo d) names text env b).1=true:=by
 have f:∀p,p<b.length->gF (M+1) (b.getD p zU)=true:=fun p E=>by rw[gm E];exact h.ok _ (Zg E)
 have q:gF (M+1) (b.getD 0 zU)=true->Kd.sort (b.getD 0 zU)=5->∀y,y∈(Kd.kids (b.getD 0 zU)).map (fO M M)->gF (M+1) y=true:=fun ok _ y j=>by obtain⟨z,G,rfl⟩:=List.mem_map.1 j;exact rD (pD ok z G)
 cases d using Md.cs with
 | leaf s=>have:=l.leaf s rfl;show nJ (M+2) (iA s)=true;simp only[nJ,Zq,ZC];refine⟨?_,fun x m=>absurd m (by show ¬x∈([]:List _);simp)⟩;show fX s [] 0=true;rcases this with rfl|rfl|rfl<;>decide
 | bound=>
  simp only[lW]at i ⊢;cases he:iX env (names.getD 0 ByteArray.empty) with
  | none=>rw[he]at i;cases i
  | some k=>exact qT (rD (I3 l.env he))
 | said s=>
  have u:=h.said s rfl;obtain⟨k,D⟩:∃k,iZ (text.size+8) text=Zo k:=Option.isSome_iff_exists.1 u;obtain⟨-,r,-⟩:=kr D;have v:qd M text=fO M (text.size+8) k:=by unfold qd;rw[D]
  exact xA (l.said s rfl) (by rw[v];exact (ni F r).1)
 | wrap s p=>exact xA (l.wrap s p rfl) (f p (h.wrap s p rfl))
 | kid p=>exact qT (rD (f p (h.kid p rfl)))
 | field=>
  simp only[lW]at i ⊢;obtain⟨n,g⟩:=h.form (.inl rfl);cases he:mP (b.getD 0 zU) (names.getD 0 ByteArray.empty) with
  | none=>rw[he]at i;cases i
  | some k=>exact qT (rD (I7 (f 0 om) he))
 | put=>
  obtain⟨n,g⟩:=h.form (.inr (.inl rfl));have c:=f 0 om;obtain⟨f1,f2,f3,f4,t⟩:=ms c g;obtain⟨w,A,B,C⟩:=Io (names.getD 0 ByteArray.empty) (b.getD 1 zU) (Kd.names (b.getD 0 zU)) ((Kd.kids (b.getD 0 zU)).map (fO M M)) (by rw[List.length_map];exact f1);refine tT w (Cm (fun a o=>?_) (C f4)) fun y j=>?_
  ·rcases A a o with o|rfl;·exact tQ t a o
   ·exact l.put rfl
  ·rcases B y j with j|rfl;·exact q c g y j
   ·exact f 1 (by have:=h.put rfl;omega)
 | cut=>
  obtain⟨n,g⟩:=h.form (.inr (.inr rfl));have c:=f 0 om;obtain⟨f1,f2,f3,f4,t⟩:=ms c g;obtain⟨w,A,B,C⟩:=He (names.getD 0 ByteArray.empty) (Kd.names (b.getD 0 zU)) ((Kd.kids (b.getD 0 zU)).map (fO M M)) (by rw[List.length_map];exact f1);simp only[lW]at i ⊢;cases he:mP (b.getD 0 zU) (names.getD 0 ByteArray.empty) with
  | none=>rw[he]at i;cases i
  | some k=>exact tT w (Cm (fun a o=>tQ t a (A a o)) (C f4)) fun y j=>q c g y (B y j)
 | form=>obtain⟨n,g⟩:=l.form rfl;exact tT n g h.ok
 | within=>
  obtain⟨n,g⟩:=h.lst rfl;have c:=f 0 om;obtain⟨x,m⟩:=xq c (.inl g);have e:mQ (b.getD 0 zU)=fO M M x:=by unfold mQ;rw[m]
  refine qT (rD ?_);rw[e];exact rD (pD c x (by rw[m];simp))
 | num => exact xA (.inr rfl) (by
   unfold gF
   simp only[Zq,decide_eq_true_eq]
   refine⟨pT om (by show fX 1 [] 0=true;decide) fun x m=>absurd m (by show ¬x∈([]:List _);simp),?_⟩
   show 1+b4 _ []<=40
   simp[b4])
end Go.Proofs.YtcfojmaccikgeaaGreatDoor
