import Derived.Test.YtcfojmaccikgeaaGreatDoorB38
import Derived.Test.YtcfojmaccikgeaaGreatDoorB39
import Derived.Test.YtcfojmaccikgeaaGreatDoorB24
import Derived.Test.YtcfojmaccikgeaaGreatDoorB23
import Derived.Test.YtcfojmaccikgeaaGreatDoorB7
open Option renaming some→Zo
open Bool renaming and_eq_true→Zq
open List renaming getElem_mem→Zg,mem_cons_self→Zj,mem_cons_of_mem→ZB,all_eq_true→ZC
namespace Go.Proofs.YtcfojmaccikgeaaGreatDoor
open Go.RowKit
set_option maxRecDepth 100000
set_option maxHeartbeats 16000000
variable {M n:Nat} {d:Md} {α:Type}
structure wd{M:Nat}(d:Option Md)(names:List ByteArray)(text:ByteArray)(ks:List (K (M+1))):Prop where
 ok:∀x,x∈ks->gG (M+1) x=true
 few:ks.length<=1000
 name:d=Zo .bound∨d=Zo .field∨d=Zo .put∨d=Zo .cut->1<=names.length/\(names.getD 0 ByteArray.empty).size<=8
 said:∀s,d=Zo (.said s)->jW text=true
 wrap:∀s p,d=Zo (.wrap s p)->p<ks.length
 kid:∀p,d=Zo (.kid p)->p<ks.length
 form:d=Zo .field∨d=Zo .put∨d=Zo .cut->1<=ks.length/\Kd.sort (ks.getD 0 zU)=5
 put:d=Zo .put->2<=ks.length
 lst:d=Zo .within->1<=ks.length/\Kd.sort (ks.getD 0 zU)=4
theorem ByteArray.le_max{s:ByteArray}(h:s.size<=8):s.size<=maxLen:=by unfold maxLen;omega
theorem DI {S:Nat->Prop} {w:World} {m y:Nat} (hM:5<=M) {t:T (m+1)} {U:Nat} {env:jF M} {sk:K (M+1)} {j:List (K (M+1))} (hl:my S w M m y t U env sk j) (D:Bd S w) {f:Value} (B:kH S w (Zo d) f) (a:wd (Zo d) (Nd.names t) (Nd.text t) j) :
  EF f #[.pointer (Zo ⟨y,0,none⟩)] w (gX S M (lW (Zo d) (Nd.names t) (Nd.text t) env j).1 (lW (Zo d) (Nd.names t) (Nd.text t) env j).2 w):=by
 have e:∀p,p<j.length->∃g o cap k,w.cell? ⟨y,8,none⟩=Zo (.slice (Zo ⟨g,o,none⟩) j.length cap)/\(∀q (h:q<j.length),∃c,w.cell? ⟨g,o+q,none⟩=Zo c/\rf S w M j[q] c)/\w.cell? ⟨g,o+p,none⟩=Zo (.pointer (Zo ⟨k,0,none⟩))/\b9 S w (M+1) (j.getD p zU) (.pointer (Zo ⟨k,0,none⟩))/\gG (M+1) (j.getD p zU)=true:=fun p z=>by obtain⟨n,c0,c1,c2,c3,c4,sv,ad,kv,X,-,-,-,ao,cap,rfl,-,Y⟩:=hl.box;obtain⟨g,o,rfl,-,Q⟩:=Y (fun h0=>by rw[h0]at z;simp at z);obtain⟨c,P,F⟩:=Q p z;have G:=F.ok (a.ok _ (Zg z));obtain⟨k,rfl,-⟩:=id G.ptr;rw[gn z];exact⟨g,o,cap,k,(ia X).2.2.2.2.2.2.2.2,Q,P,G,a.ok _ (Zg z)⟩
 obtain⟨n,c0,c1,c2,c3,c4,sv,ad,kv,X,N,ac,ae,H⟩:=hl.box;obtain⟨-,-,Z,-,-,-,L,-⟩:=id N;obtain⟨q0,q1,q2,q3,q4,q5,q6,q7,q8⟩:=ia X;have i:1<=(Nd.names t).length->∃nb no E C,w.cell? ⟨y,3,none⟩=Zo (.slice (Zo ⟨nb,no,none⟩) (E+1) C)/\w.cell? ⟨nb,no,none⟩=Zo (.string ((Nd.names t).getD 0 ByteArray.empty)):=fun h=>by obtain⟨p,q,cap,rfl,-,ab⟩:=kj L D om;refine⟨p,q,(Nd.names t).length-1,cap,by rw[Nat.sub_add_cancel h];exact q3,?_⟩;rw[gn om];simpa using (ab 0 om).1
 cases d using Md.cs with
 | leaf s=>obtain⟨R,rfl,P,F,G⟩:=B;exact⟨_,_,rfl,Tryz.call154,fun args b=>by subst b;exact DC S M _ R s w F G⟩
 | bound=>
  cases B
  obtain⟨r,u⟩:=a.name (.inl rfl);obtain⟨nb,no,E,C,A,I⟩:=i r;exact⟨_,_,rfl,Tryz.call118,fun args b=>by subst b;exact uB S M n env y sv nb no E C _ w ac (ByteArray.le_max u) q6 A I _ rfl⟩
 | said s=>obtain⟨R,rfl,P,F,G⟩:=B;exact⟨_,_,rfl,Tryz.call156,fun args b=>by subst b;exact DY S M hM _ s y R w D G (by rw[q2,Z]) F (a.said s rfl)⟩
 | wrap s p=>obtain⟨R,pb,rfl,P,F,G,h4,h5⟩:=B;have z:=a.wrap s p rfl;obtain⟨g,o,cap,k,A,-,V,W,e5⟩:=e p z;exact⟨_,_,rfl,Tryz.call159,fun args b=>by subst b;exact xK S M _ s y g o j.length cap p k R pb w D h5 G A h4 V z a.few W⟩
 | kid p=>obtain⟨pb,rfl,P,F⟩:=B;have z:=a.kid p rfl;obtain⟨g,o,cap,k,A,-,V,W,e5⟩:=e p z;exact⟨_,_,rfl,Tryz.call162,fun args b=>by subst b;exact wK S M _ y g o j.length cap p k pb w D A F V z a.few W⟩
 | field=>
  cases B
  obtain⟨r,u⟩:=a.name (.inr (.inl rfl));obtain⟨v,l⟩:=a.form (.inl rfl);obtain⟨nb,no,E,C,A,I⟩:=i r;obtain⟨g,o,cap,k,f1,-,f3,f4,J⟩:=e 0 om;exact⟨_,_,rfl,Tryz.call124,fun args b=>by subst b;exact uI S M _ y g o (j.length-1) cap k nb no E C _ w (by rw[Nat.sub_add_cancel v];exact f1) (by simpa using f3) A I (ByteArray.le_max u) f4 J l _ rfl⟩
 | put=>
  cases B
  obtain⟨r,u⟩:=a.name (.inr (.inr (.inl rfl)));obtain⟨v,l⟩:=a.form (.inr (.inl rfl));have aa:=a.put rfl;obtain⟨nb,no,E,C,A,I⟩:=i r;obtain⟨g,o,cap,k,f1,fa,f3,f4,J⟩:=e 0 om;obtain⟨c,g1,g2⟩:=fa 1 om;have g3:=g2.ok (a.ok _ (Zg _));obtain⟨xb,rfl,-⟩:=id g3.ptr;have g4:b9 S w (M+1) (j.getD 1 zU) (.pointer (Zo ⟨xb,0,none⟩)):=by rw[gn om];exact g3
  exact⟨_,_,rfl,Tryz.call125,fun args b=>by subst b;exact zi S M _ _ y g o (j.length-2) cap k xb nb no E C _ w D (by rw[Nat.sub_add_cancel aa];exact f1) (by simpa using f3) g1 A I u f4 J l g4⟩
 | cut=>
  cases B
  obtain⟨r,u⟩:=a.name (.inr (.inr (.inr rfl)));obtain⟨v,l⟩:=a.form (.inr (.inr rfl));obtain⟨nb,no,E,C,A,I⟩:=i r;obtain⟨g,o,cap,k,f1,-,f3,f4,J⟩:=e 0 om;exact⟨_,_,rfl,Tryz.call126,fun args b=>by subst b;exact yh S M _ y g o (j.length-1) cap k nb no E C _ w D (by rw[Nat.sub_add_cancel v];exact f1) (by simpa using f3) A I (ByteArray.le_max u) f4 J l _ rfl⟩
 | form=>
  cases B
  obtain⟨na,C,rfl,-⟩:=id L;have O:lx S w (b9 S w (M+1)) j kv:=H.keep (fun _ _=>rfl) (fun _ h=>h) fun x c hx Y=>Y.ok (a.ok x hx);obtain⟨ka,kc,rfl,-⟩:=id H;exact⟨_,_,rfl,Tryz.call127,fun args b=>by subst b;exact wE S M (Nd.names t) j y na ka C kc w D q3 q8 L O⟩
 | within=>
  cases B
  obtain⟨v,l⟩:=a.lst rfl;obtain⟨g,o,cap,k,f1,-,f3,f4,J⟩:=e 0 om;exact⟨_,_,rfl,Tryz.call128,fun args b=>by subst b;exact uk S M _ y g o (j.length-1) cap k w D (by rw[Nat.sub_add_cancel v];exact f1) (by simpa using f3) (by have:=a.few;omega) f4 J l⟩
 | num=>
  cases B
  exact⟨_,_,rfl,Tryz.call129,fun args b=>by subst b;exact xi S M _ w D⟩
theorem Cj{l:List ByteArray}(c:∀a,a∈l->gm a=true)(d:uu l):gZ l=true:=by
 unfold gZ iQ;rw[ZC];intro i hi;have hi:i<l.length:=List.mem_range.1 hi;unfold i8;rw[gn hi,c _ (Zg hi),Bool.true_and,Bool.or_eq_true];by_cases b:i=0;·left;simpa using b
 ·right;rw[gn om];exact List.pairwise_iff_getElem.1 d (i-1) i om hi om
theorem tP{l:List ByteArray}(h:gZ l=true):∀a,a∈l->gm a=true:=by intro a b;obtain⟨i,hi,e⟩:=List.getElem_of_mem b;unfold gZ iQ at h;rw[ZC]at h;have:=h i (List.mem_range.2 hi);unfold i8 at this;rw[gn hi,e,Zq]at this;exact this.1
theorem Ig(s:ByteArray)(x:α):∀(c:List ByteArray)(d:List α),c.length=d.length->(iy s x c d).1.length=(iy s x c d).2.length/\(∀a,a∈(iy s x c d).1->a∈c∨a=s)/\(∀y,y∈(iy s x c d).2->y∈d∨y=x)/\(uu c->uu (iy s x c d).1):=by
 intro c;induction c with
 | nil=>
  intro d h;cases d with
  | nil=>exact⟨rfl,fun a h=>.inr (List.mem_singleton.1 h),fun y h=>.inr (List.mem_singleton.1 h),fun _=>List.pairwise_singleton _ _⟩
  | cons k r=>cases h
 | cons n c p=>
  intro d h;cases d with
  | nil=>cases h
  | cons k r=>
   have l:c.length=r.length:=by simpa using h
   obtain⟨o,i2,i3,i4⟩:=p r l;unfold iy;split
   ·next hlt=>
    refine⟨by simp[o],fun a e=>?_,fun y g=>?_,fun i=>?_⟩
    ·rcases List.mem_cons.1 e with rfl|e;·exact .inl (Zj ..)
     ·exact (i2 a e).imp (ZB _) id
    ·rcases List.mem_cons.1 g with rfl|g;·exact .inl (Zj ..)
     ·exact (i3 y g).imp (ZB _) id
    ·obtain⟨m,a2⟩:=List.pairwise_cons.1 i;refine List.pairwise_cons.2 ⟨fun b f=>?_,i4 a2⟩;rcases i2 b f with f|rfl;·exact m b f
     ·exact hlt
   ·next hlt=>
    split
    ·next he=>
     subst he;exact⟨by simpa using l,fun a e=>.inl e,fun y g=>(List.mem_cons.1 g).elim .inr fun h=>.inl (ZB _ h),fun i=>i⟩
    ·next hne=>
     refine⟨by simpa using l,fun a e=>(List.mem_cons.1 e).elim .inr .inl,fun y g=>(List.mem_cons.1 g).elim .inr .inl,fun i=>?_⟩;have j:kP s n=true:=by
      cases hs:kP s n with
      | true=>rfl
      | false=>exact absurd (Hv hlt (by rw[hs];simp)) hne
     refine List.pairwise_cons.2 ⟨fun b f=>?_,i⟩;rcases List.mem_cons.1 f with rfl|f;·exact j
     ·exact F1 j ((List.pairwise_cons.1 i).1 b f)
theorem G7(s:ByteArray):∀(c:List ByteArray)(d:List α),c.length=d.length->(iL s c d).1.length=(iL s c d).2.length/\(∀a,a∈(iL s c d).1->a∈c)/\(∀y,y∈(iL s c d).2->y∈d)/\(uu c->uu (iL s c d).1):=by
 intro c;induction c with
 | nil=>
  intro d h;cases d with
  | nil=>exact⟨rfl,fun a h=>h,fun y h=>h,fun h=>h⟩
  | cons k r=>cases h
 | cons n c o=>
  intro d h;cases d with
  | nil=>cases h
  | cons k r=>
   have m:c.length=r.length:=by simpa using h
   obtain⟨i,i2,i3,i4⟩:=o r m;unfold iL;split;·exact⟨i,fun a e=>ZB _ (i2 a e),fun y f=>ZB _ (i3 y f),fun g=>i4 (List.pairwise_cons.1 g).2⟩
   ·refine⟨by simp[i],fun a e=>?_,fun y f=>?_,fun g=>?_⟩
    ·rcases List.mem_cons.1 e with rfl|e;·exact Zj ..
     ·exact ZB _ (i2 a e)
    ·rcases List.mem_cons.1 f with rfl|f;·exact Zj ..
     ·exact ZB _ (i3 y f)
    ·obtain⟨j,a2⟩:=List.pairwise_cons.1 g;exact List.pairwise_cons.2 ⟨fun b l=>j b (i2 b l),i4 a2⟩
theorem rE{k:K n}(h:gG n k=true):gG (n+1) (fO n n k)=true:=by have a:=ss n k;unfold gG at h ⊢;rw[a.1,a.2.1];exact h
theorem qT{k:K n}(h:gG n k=true):nI n k=true:=D0 (ix h).1
theorem tR{names:List ByteArray}{a:List (K n)}(b:names.length=a.length)(c:gZ names=true)(d:∀x,x∈a->gG n x=true):nI (n+1) (⟨5,names,a⟩:Kd (K n))=true:=by simp only[nI,Zq,ZC];refine⟨?_,fun x e=>qT (d x e)⟩;show fX 5 names a.length=true;simp[fX,b,c]
theorem xA{k:K n}{s:Int}(a:s=4∨s=6)(h:gG n k=true):nI (n+1) (⟨s,[],[k]⟩:Kd (K n))=true:=by simp only[nI,Zq,ZC];refine⟨?_,fun x b=>by rw[List.mem_singleton.1 b];exact qT h⟩;show fX s [] 1=true;rcases a with rfl|rfl<;>decide
structure ET{M:Nat}(d:Option Md)(names:List ByteArray)(env:jF M)(ks:List (K (M+1))):Prop where
 leaf:∀s,d=Zo (.leaf s)->s=1∨s=2∨s=3
 said:∀s,d=Zo (.said s)->s=4∨s=6
 wrap:∀s p,d=Zo (.wrap s p)->s=4∨s=6
 env:∀p,p∈env->gG (M+1) p.2=true
 put:d=Zo .put->gm (names.getD 0 ByteArray.empty)=true
 form:d=Zo .form->names.length=ks.length/\gZ names=true
theorem IX{s:ByteArray}{k:K (M+1)}:∀ {env:jF M},(∀p,p∈env->gG (M+1) p.2=true)->iY env s=Zo k->gG (M+1) k=true:=by
 intro env;induction env with
 | nil=>intro _ h;cases h
 | cons p r c=>
  intro h a;obtain⟨x,y⟩:=p;unfold iY at a;split at a;·cases a;exact h (x,k) (Zj ..)
  ·exact c (fun p b=>h p (ZB _ b)) a
theorem xV:∀(b:List ByteArray)(a:List α)(s:ByteArray)(x:α),kT b a s=Zo x->x∈a:=by
 intro b;induction b with
 | nil=>intro a s x h;cases a<;>cases h
 | cons n b c=>
  intro a s x h;cases a with
  | nil=>cases h
  | cons k r=>
   unfold kT at h;split at h;·cases h;exact Zj ..
   ·exact ZB _ (c r s x h)
theorem I1{k x:K (M+1)}{s:ByteArray}(ok:gG (M+1) k=true)(h:mO k s=Zo x):gG (M+1) x=true:=by unfold mO at h;obtain⟨y,a,rfl⟩:=Option.map_eq_some_iff.1 h;exact rE (pD ok y (xV _ _ _ _ a))
theorem F3(F:5<=M){names:List ByteArray}{text:ByteArray}{env:jF M}{b:List (K (M+1))}(h:wd (Zo d) names text b)(l:ET (Zo d) names env b)(i:(lW (Zo d) names text env b).2=0):nI (M+2) (lW (Zo d) names text env b).1=true:=by
 have f:∀p,p<b.length->gG (M+1) (b.getD p zU)=true:=fun p E=>by rw[gn E];exact h.ok _ (Zg E)
 have q:gG (M+1) (b.getD 0 zU)=true->Kd.sort (b.getD 0 zU)=5->∀y,y∈(Kd.kids (b.getD 0 zU)).map (fO M M)->gG (M+1) y=true:=fun ok _ y j=>by obtain⟨z,G,rfl⟩:=List.mem_map.1 j;exact rE (pD ok z G)
 cases d using Md.cs with
 | leaf s=>have:=l.leaf s rfl;show nI (M+2) (iB s)=true;simp only[nI,Zq,ZC];refine⟨?_,fun x m=>absurd m (by show ¬x∈([]:List _);simp)⟩;show fX s [] 0=true;rcases this with rfl|rfl|rfl<;>decide
 | bound=>
  simp only[lW]at i ⊢;cases he:iY env (names.getD 0 ByteArray.empty) with
  | none=>rw[he]at i;cases i
  | some k=>exact qT (rE (IX l.env he))
 | said s=>
  have u:=h.said s rfl;obtain⟨k,D⟩:∃k,i6 (text.size+8) text=Zo k:=Option.isSome_iff_exists.1 u;obtain⟨-,r,-⟩:=kt D;have v:qd M text=fO M (text.size+8) k:=by unfold qd;rw[D]
  exact xA (l.said s rfl) (by rw[v];exact (nh F r).1)
 | wrap s p=>exact xA (l.wrap s p rfl) (f p (h.wrap s p rfl))
 | kid p=>exact qT (rE (f p (h.kid p rfl)))
 | field=>
  simp only[lW]at i ⊢;obtain⟨n,g⟩:=h.form (.inl rfl);cases he:mO (b.getD 0 zU) (names.getD 0 ByteArray.empty) with
  | none=>rw[he]at i;cases i
  | some k=>exact qT (rE (I1 (f 0 om) he))
 | put=>
  obtain⟨n,g⟩:=h.form (.inr (.inl rfl));have c:=f 0 om;obtain⟨f1,f2,f3,f4,t⟩:=ms c g;obtain⟨w,A,B,C⟩:=Ig (names.getD 0 ByteArray.empty) (b.getD 1 zU) (Kd.names (b.getD 0 zU)) ((Kd.kids (b.getD 0 zU)).map (fO M M)) (by rw[List.length_map];exact f1);refine tR w (Cj (fun a o=>?_) (C f4)) fun y j=>?_
  ·rcases A a o with o|rfl;·exact tP t a o
   ·exact l.put rfl
  ·rcases B y j with j|rfl;·exact q c g y j
   ·exact f 1 (by have:=h.put rfl;omega)
 | cut=>
  obtain⟨n,g⟩:=h.form (.inr (.inr rfl));have c:=f 0 om;obtain⟨f1,f2,f3,f4,t⟩:=ms c g;obtain⟨w,A,B,C⟩:=G7 (names.getD 0 ByteArray.empty) (Kd.names (b.getD 0 zU)) ((Kd.kids (b.getD 0 zU)).map (fO M M)) (by rw[List.length_map];exact f1);simp only[lW]at i ⊢;cases he:mO (b.getD 0 zU) (names.getD 0 ByteArray.empty) with
  | none=>rw[he]at i;cases i
  | some k=>exact tR w (Cj (fun a o=>tP t a (A a o)) (C f4)) fun y j=>q c g y (B y j)
 | form=>obtain⟨n,g⟩:=l.form rfl;exact tR n g h.ok
 | within=>
  obtain⟨n,g⟩:=h.lst rfl;have c:=f 0 om;obtain⟨x,m⟩:=xq c (.inl g);have e:mP (b.getD 0 zU)=fO M M x:=by unfold mP;rw[m]
  refine qT (rE ?_);rw[e];exact rE (pD c x (by rw[m];simp))
 | num => exact xA (.inr rfl) (by
   unfold gG
   simp only[Zq,decide_eq_true_eq]
   refine⟨pT om (by show fX 1 [] 0=true;decide) fun x m=>absurd m (by show ¬x∈([]:List _);simp),?_⟩
   show 1+b4 _ []<=40
   simp[b4])
end Go.Proofs.YtcfojmaccikgeaaGreatDoor
