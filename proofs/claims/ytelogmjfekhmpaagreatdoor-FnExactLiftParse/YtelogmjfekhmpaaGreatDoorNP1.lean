import Derived.Test.YtelogmjfekhmpaaGreatDoorNP0
namespace Go.Proofs.YtelogmjfekhmpaaGreatDoor
open Go.RowKit
structure KidsGood {α:Type} (ws:List ByteArray) (rk:Bool->Nat->Nat->Rd3 α) (po:α->Int) (good:α->Bool) (cnt:α->Nat):Prop where
 all:∀ b a c r,rk b a c=.ok r->good r.1=true/\po r.1=(if b=true then 65 else 86)/\r.2.2=c+cnt r.1/\r.2.2<=200/\a<r.2.1/\r.2.1<=ws.length
theorem qpK {v:UInt8} (h:v=86∨v=65):(if (v==65)=true then (65:Int) else 86)=(v.toNat:Int):=by
 rcases h with rfl|rfl <;> decide
theorem qxQ {α:Type} (f:α->Nat) (l:List α) (x:α):sumL f (l++[x])=sumL f l+f x:=by
 rw[qcQ];simp[sumL]
theorem quH {α:Type} (M:Nat) (ws:List ByteArray) (rk:Bool->Nat->Nat->Rd3 α) (po:α->Int) (good:α->Bool) (cnt:α->Nat) (HK:KidsGood ws rk po good cnt) :
  ∀ (vs:List UInt8),(∀ v,v∈vs->v=86∨v=65)->∀ (n:Nd α) (a c:Nat) (r:Nd α × Nat × Nat),qcP M rk ws vs n a c=.ok r ->
   ∃ ks:List α,r.1=⟨n.sort,n.num,n.text,n.names,n.kids++ks⟩/\ks.map po=vs.map (fun v=>(v.toNat:Int))/\(∀ k,k∈ks->good k=true)/\r.2.2=c+sumL cnt ks/\(c<=200->r.2.2<=200)/\a<=r.2.1/\(a<=ws.length->r.2.1<=ws.length):=by
 intro vs
 induction vs with
 | nil=>
  intro _ n a c r h
  simp only[qcP,Except.ok.injEq]at h
  subst h
  exact⟨[],by simp,rfl,fun _ h=>(by cases h),by simp[sumL],fun h=>h,Nat.le_refl _,fun h=>h⟩
 | cons v vs ih=>
  intro hv n a c r h
  have h1:=hv v (List.mem_cons_self ..)
  simp only[qcP,stepR,if_pos h1]at h
  cases hk:rk (v==65) a c with
  | error e=>rw[hk]at h;cases h
  | ok q=>
   rw[hk]at h
   dsimp only at h
   obtain⟨g1,g2,g3,g4,g5,g6⟩:=HK.all _ _ _ _ hk
   obtain⟨ks,e1,e2,e3,e4,e5,e6,e7⟩:=ih (fun x hx=>hv x (List.mem_cons_of_mem _ hx)) _ _ _ _ h
   refine⟨q.1 :: ks,by rw[e1];simp,?_,?_,?_,fun _=>e5 g4,by omega,fun _=>e7 g6⟩
   ·rw[List.map_cons,List.map_cons,e2,g2,qpK h1]
   ·intro k aA
    rcases List.mem_cons.1 aA with rfl|aA
    ·exact g1
    ·exact e3 k aA
   ·rw[e4,g3];simp only[sumL];omega
theorem qlY {β:Type} (l:List β) (s d:β) (i:Nat) (h:i<l.length):(l++[s]).getD i d=l.getD i d:=by
 simp[List.getD_eq_getElem?_getD,List.getElem?_append_left h]
theorem quI (l:List ByteArray) (s:ByteArray) (i:Nat) (h:i<l.length):qcO (l++[s]) i=qcO l i:=by
 unfold qcO qdT
 rw[qlY l s _ i h,qlY l s _ (i - 1) (by omega)]
theorem qpL {α:Type} (po:α->Int) (n:Nd α) (s:ByteArray) (k:α) (hl:n.names.length=n.kids.length) (h:qdG po n n.names.length=true) (hf:qcO (n.names++[s]) n.names.length=true) (hk:po k=86) :
  qdG po ⟨n.sort,n.num,n.text,n.names++[s],n.kids++[k]⟩ (n.names.length+1)=true:=by
 rw[qpH]
 dsimp only
 rw[hf]
 have e:(List.map po (n.kids++[k])).getD n.names.length 0=86:=by
  rw[List.map_append,List.map_singleton,List.getD_eq_getElem?_getD,List.getElem?_append_right (by simp[hl])]
  simp[hl,hk]
 rw[e]
 simp only[beq_self_eq_true,Bool.and_true]
 unfold qdG at h ⊢
 rw[List.all_eq_true]at h ⊢
 intro i hi
 have aA:=List.mem_range.1 hi
 have:=h i hi
 dsimp only at this ⊢
 rw[quI _ _ _ aA,List.map_append,List.map_singleton,qlY _ _ _ _ (by simp;omega)]
 exact this
theorem qrR {α:Type} (ws:List ByteArray) (rk:Bool->Nat->Nat->Rd3 α) (po:α->Int) (good:α->Bool) (cnt:α->Nat) (HK:KidsGood ws rk po good cnt) :
  ∀ (f:Nat) (n:Nd α) (a c:Nat) (r:Nd α × Nat × Nat),qaT (rk false) ws f n a c=.ok r->n.names.length=n.kids.length->qdG po n n.names.length=true->(∀ k,k∈n.kids->good k=true)->c<=200 ->
   r.1.sort=n.sort/\r.1.num=n.num/\r.1.text=n.text/\qeN po r.1=true/\(∀ k,k∈r.1.kids->good k=true)/\r.2.2+sumL cnt n.kids=c+sumL cnt r.1.kids/\r.2.2<=200/\a<r.2.1/\r.2.1<=ws.length:=by
 intro f
 induction f with
 | zero=>intro n a c r h;simp[qaT]at h
 | succ f ih=>
  intro n a c r h hl hf hg hc
  simp only[qaT]at h
  cases hw:ws[a]? with
  | none=>rw[hw]at h;cases h
  | some s=>
   have ha:a<ws.length:=by
    rcases Nat.lt_or_ge a ws.length with h1|h1
    ·exact h1
    ·rw[List.getElem?_eq_none h1]at hw;cases hw
   rw[hw]at h
   dsimp only at h
   split at h
   ·cases h
    exact⟨rfl,rfl,rfl,by unfold qeN;simp[hl] ;rw[<- hl];exact hf,hg,rfl,hc,by show a<a+1;omega,by show a+1<=_;omega⟩
   split at h
   ·rename_i hfb
    cases hk:rk false (a+1) c with
    | error e=>rw[hk]at h;cases h
    | ok q=>
     rw[hk]at h
     dsimp only at h
     obtain⟨g1,g2,g3,g4,g5,g6⟩:=HK.all _ _ _ _ hk
     have aA:po q.1=86:=by simpa using g2
     obtain⟨e1,e2,e3,e4,e5,e6,e7,e8,e9⟩:=ih _ _ _ _ h (by simp[hl]) (by
      have:=qpL po n s q.1 hl hf hfb aA
      simpa using this) (fun k hk2=>by
       rcases List.mem_append.1 hk2 with h2|h2
       ·exact hg k h2
       ·rw[List.mem_singleton]at h2;subst h2;exact g1) g4
     rw[qxQ]at e6
     exact⟨e1,e2,e3,e4,e5,by omega,e7,by omega,e9⟩
   ·cases h
theorem qeJ {β:Type} {l:List β} {i:Nat} {x:β} (h:l[i]?=some x):i<l.length:=by
 rcases Nat.lt_or_ge i l.length with h1|h1
 ·exact h1
 ·rw[List.getElem?_eq_none h1]at h;cases h
theorem qxR {α:Type} (M:Nat) (ws:List ByteArray) (rk:Bool->Nat->Nat->Rd3 α) (po:α->Int) (good:α->Bool) (cnt:α->Nat) (HK:KidsGood ws rk po good cnt)
  (act:Bool) (d:Int) (a c:Nat) (r:Nd α × Nat × Nat) (h:bodyR M rk ws act d a c=.ok r) :
  d<=24/\justB po r.1=true/\poF r.1.sort=(if act=true then 65 else 86)/\(∀ k,k∈r.1.kids->good k=true)/\r.2.2=c+1+sumL cnt r.1.kids/\r.2.2<=200/\a<r.2.1/\r.2.1<=ws.length:=by
 unfold bodyR at h
 split at h
 ·cases h
 rename_i hd
 split at h
 ·cases h
 rename_i hc
 cases hw:ws[a]? with
 | none=>rw[hw]at h;cases h
 | some s=>
  have ha:a<ws.length:=by
   rcases Nat.lt_or_ge a ws.length with h1|h1
   ·exact h1
   ·rw[List.getElem?_eq_none h1]at hw;cases hw
  rw[hw]at h
  dsimp only at h
  have aA:=xhX M s
  have aC:∀ l,leafW M s=some l->opW s=0->opA M s=l.1.toNat:=fun l hl h0=>by unfold opA;rw[if_pos h0,hl]
  have aD:opA M s<=3->1<=opA M s->∃ l,leafW M s=some l/\opA M s=l.1.toNat:=fun h3 h1=>by
   by_cases h0:opW s=0
   ·cases hl:leafW M s with
    | some l=>exact⟨l,rfl,aC l hl h0⟩
    | none=>
     exfalso
     unfold opA at h3 h1
     rw[if_pos h0,hl]at h3 h1
     dsimp only at h3 h1
     by_cases hf:freeB s=true
     ·rw[if_pos hf]at h3;omega
     ·rw[if_neg hf]at h1;omega
   ·exfalso
    have:∀ n k,5<=k->opF s k n=0∨5<=opF s k n:=by
     intro n
     induction n with
     | zero=>intro k _;simp[opF]
     | succ n ih => intro k hk; simp only [opF]; split
                    ·exact .inr hk
                    ·exact ih (k+1) (by omega)
    have h5:=this 39 5 (Nat.le_refl _)
    have e:opA M s=opW s:=by unfold opA;rw[if_neg h0]
    unfold opW at e h0
    omega
  generalize hop:opA M s=k at h aA aD
  by_cases hpo:poF (k:Int)=(if act=true then 65 else 86)
  case neg=>rw[if_neg hpo]at h;cases h
  rw[if_pos hpo]at h
  have hr:1<=k/\k<=43:=by
   have h2:=hpo
   unfold poF at h2
   by_cases h3:(k:Int)<1∨43<(k:Int)
   ·rw[if_pos h3]at h2;cases act <;> simp at h2
   ·omega
  refine⟨by omega,?_⟩
  by_cases h24:k=24
  ·subst h24
   rw[show prt 24=[70] by decide]at h
   simp only[qcP,stepR,show ¬ ((70:UInt8)=86∨(70:UInt8)=65) by decide,if_false,if_true,show ¬ (24<=4) by omega]at h
   cases hf:qaT (rk false) ws (ws.length+1) ⟨((24:Nat):Int),0,ByteArray.empty,[],[]⟩ (a+1) (c+1) with
   | error e=>rw[hf]at h;cases h
   | ok q=>
    rw[hf]at h
    dsimp only at h
    obtain rfl:=Except.ok.inj h
    obtain⟨e1,e2,e3,e4,e5,e6,e7,e8,e9⟩:=qrR ws rk po good cnt HK _ _ _ _ _ hf rfl (by simp[qdG]) (fun _ h=>(by cases h)) (by omega)
    dsimp only at e1 e2 e3 e6 ⊢
    refine⟨?_,by rw[e1];exact hpo,e5,by simp only[sumL]at e6;omega,e7,by omega,e9⟩
    rw[qdW po q.1 e1,e4,e2,e3,emp_E];rfl
  ·rw[qiK k aA]at h
   have aH:=qiL k
   have fin:∀ (n:Nd α) (a1:Nat),n.sort=(k:Int)->n.kids=[]->preC n (preL k)=true->a<a1->a1<=ws.length->qcP M rk ws (kdV k) n a1 (c+1)=.ok r ->
     justB po r.1=true/\poF r.1.sort=(if act=true then 65 else 86)/\(∀ k,k∈r.1.kids->good k=true)/\r.2.2=c+1+sumL cnt r.1.kids/\r.2.2<=200/\a<r.2.1/\r.2.1<=ws.length:=by
    intro n a1 hs aM hp h1 h2 hq
    obtain⟨ks,e1,e2,e3,e4,e5,e6,e7⟩:=quH M ws rk po good cnt HK _ aH _ _ _ _ hq
    rw[aM,List.nil_append]at e1
    have aI:r.1.sort=(k:Int):=by rw[e1];exact hs
    have aF:r.1.kids=ks:=by rw[e1]
    have aJ:r.1.sort.toNat=k:=by omega
    have aK:preC r.1 (preL k)=preC n (preL k):=by
     rw[e1]
     rcases (qeD k aA).resolve_left h24 with q|q|q|q|q|q|q|q <;> rw[q] <;> simp[preC]
    refine⟨?_,by rw[aI];exact hpo,by rw[aF];exact e3,by rw[aF];exact e4,e5 (by omega),by omega,e7 h2⟩
    rw[qfC po r.1 (by omega) (by omega) (by omega),aJ,aK,hp,aF,e2];simp
   have emp:ByteArray.empty.toList.isEmpty=true:=emp_E
   rcases (qeD k aA).resolve_left h24 with q|q|q|q|q|q|q|q
   ·rw[q,List.nil_append]at h
    have h5:¬ k<=4:=by
     intro h4
     have:k=1∨k=2∨k=3∨k=4:=by omega
     rcases this with rfl|rfl|rfl|rfl <;> exact absurd q (by decide)
    rw[if_neg h5]at h
    try dsimp only at h
    refine fin _ _ rfl rfl ?_ (by omega) (by omega) h
    rw[q];simp[preC]
   ·rw[q]at h
    have h3:k<=3:=by
     rcases Nat.lt_or_ge 3 k with h3|h3
     ·exfalso
      have:∀ k,k<44->3<k->preL k≠[84]:=by decide
      exact this k aA h3 q
     ·exact h3
    obtain⟨l,hl,aO⟩:=aD h3 hr.1
    have aL:=qcW hl
    rw[if_pos (by omega)]at h
    simp only[List.cons_append,List.nil_append,qcP,stepR,show ¬ ((84:UInt8)=86∨(84:UInt8)=65) by decide,show ¬ ((84:UInt8)=70) by decide,if_false,if_true,hw,hl]at h
    try dsimp only at h
    refine fin _ _ rfl rfl ?_ (by omega) (by omega) h
    rw[q]
    simp only[preC,List.length_nil]
    have e:(k:Int)=l.1:=by omega
    rw[e,aL.2.2];rfl
   ·rw[q]at h
    have h5:¬ k<=4:=by
     intro h4
     have:k=1∨k=2∨k=3∨k=4:=by omega
     rcases this with rfl|rfl|rfl|rfl <;> exact absurd q (by decide)
    rw[if_neg h5]at h
    simp only[List.cons_append,List.nil_append,qcP,stepR,show ¬ ((75:UInt8)=86∨(75:UInt8)=65) by decide,show ¬ ((75:UInt8)=70) by decide,show ¬ ((75:UInt8)=84) by decide,show ¬ ((75:UInt8)=35) by decide,if_false,if_true]at h
    cases hw2:ws[a+1]? with
    | none=>rw[hw2]at h;cases h
    | some x=>
     have aE:=qeJ hw2
     rw[hw2]at h
     dsimp only at h
     by_cases hx:kindB x=true
     ·rw[if_pos hx]at h
      try dsimp only at h
      refine fin _ _ rfl rfl ?_ (by omega) (by omega) h
      rw[q];simp[preC,hx]
     ·rw[if_neg hx]at h;cases h
   ·rw[q]at h
    have h5:¬ k<=4:=by
     intro h4
     have:k=1∨k=2∨k=3∨k=4:=by omega
     rcases this with rfl|rfl|rfl|rfl <;> exact absurd q (by decide)
    rw[if_neg h5]at h
    simp only[List.cons_append,List.nil_append,qcP,stepR,show ¬ ((35:UInt8)=86∨(35:UInt8)=65) by decide,show ¬ ((35:UInt8)=70) by decide,show ¬ ((35:UInt8)=84) by decide,if_false,if_true]at h
    cases hw2:ws[a+1]? with
    | none=>rw[hw2]at h;cases h
    | some x=>
     have aE:=qeJ hw2
     rw[hw2]at h
     dsimp only at h
     cases hv:numOf x.data.toList with
     | none=>rw[hv]at h;cases h
     | some v=>
      rw[hv]at h
      dsimp only at h
      by_cases hx:lst ((k:Int)).toNat<=v/\v<=mst ((k:Int)).toNat
      ·rw[if_pos hx]at h
       try dsimp only at h
       refine fin _ _ rfl rfl ?_ (by omega) (by omega) h
       rw[q];simp only[preC,decide_eq_true hx,emp];rfl
      ·rw[if_neg hx]at h;cases h
   ·rw[q]at h
    simp only[List.cons_append,List.nil_append,qcP,stepR,show ¬ ((88:UInt8)=86∨(88:UInt8)=65) by decide,show ¬ ((88:UInt8)=70) by decide,show ¬ ((88:UInt8)=84) by decide,show ¬ ((88:UInt8)=35) by decide,show ¬ ((88:UInt8)=75) by decide,if_false]at h
    obtain⟨a0,aN,aP⟩:∃ a0,a0=(if k<=4 then a else a+1)/\a<=a0:=⟨_,rfl,by split <;> omega⟩
    rw[<- aN]at h
    cases hw2:ws[a0]? with
    | none=>rw[hw2]at h;cases h
    | some x=>
     have aE:=qeJ hw2
     rw[hw2]at h
     dsimp only at h
     by_cases hx:qbA 88 x []=true
     ·rw[if_pos hx]at h
      try dsimp only at h
      refine fin _ _ rfl rfl ?_ (by omega) (by omega) h
      rw[q]
      have aB:freeB x=true:=by simpa [qbA] using hx
      simp[preC,aB]
     ·rw[if_neg hx]at h;cases h
   ·rw[q]at h
    have h5:¬ k<=4:=by
     intro h4
     have:k=1∨k=2∨k=3∨k=4:=by omega
     rcases this with rfl|rfl|rfl|rfl <;> exact absurd q (by decide)
    rw[if_neg h5]at h
    simp only[List.cons_append,List.nil_append,qcP,stepR,show ¬ ((78:UInt8)=86∨(78:UInt8)=65) by decide,show ¬ ((78:UInt8)=70) by decide,show ¬ ((78:UInt8)=84) by decide,show ¬ ((78:UInt8)=35) by decide,show ¬ ((78:UInt8)=75) by decide,if_false]at h
    cases hw2:ws[a+1]? with
    | none=>rw[hw2]at h;cases h
    | some x=>
     have aE:=qeJ hw2
     rw[hw2]at h
     dsimp only at h
     by_cases hx:qbA 78 x []=true
     ·rw[if_pos hx]at h
      try dsimp only at h
      refine fin _ _ rfl rfl ?_ (by omega) (by omega) h
      rw[q]
      have aB:nameB x=true:=by simpa [qbA] using hx
      simp[preC,aB]
     ·rw[if_neg hx]at h;cases h
   ·rw[q]at h
    have h5:¬ k<=4:=by
     intro h4
     have:k=1∨k=2∨k=3∨k=4:=by omega
     rcases this with rfl|rfl|rfl|rfl <;> exact absurd q (by decide)
    rw[if_neg h5]at h
    simp only[List.cons_append,List.nil_append,qcP,stepR,show ¬ ((88:UInt8)=86∨(88:UInt8)=65) by decide,show ¬ ((88:UInt8)=70) by decide,show ¬ ((88:UInt8)=84) by decide,show ¬ ((88:UInt8)=35) by decide,show ¬ ((88:UInt8)=75) by decide,if_false]at h
    cases hw2:ws[a+1]? with
    | none=>rw[hw2]at h;cases h
    | some x=>
     rw[hw2]at h
     dsimp only at h
     by_cases hx:qbA 88 x []=true
     ·rw[if_pos hx]at h
      dsimp only[List.nil_append]at h
      cases hw3:ws[a+1+1]? with
      | none=>rw[hw3]at h;cases h
      | some y=>
       have aE:=qeJ hw3
       rw[hw3]at h
       dsimp only at h
       by_cases hy:qbA 88 y [x]=true
       ·rw[if_pos hy]at h
        try dsimp only at h
        refine fin _ _ rfl rfl ?_ (by omega) (by omega) h
        rw[q]
        have aB:freeB x=true:=by simpa [qbA] using hx
        have aG:freeB y=true/\(y==x)=false:=by simpa [qbA] using hy
        simp[preC,aB,aG.1,aG.2]
       ·rw[if_neg hy]at h;cases h
     ·rw[if_neg hx]at h;cases h
   ·rw[q]at h
    have h5:¬ k<=4:=by
     intro h4
     have:k=1∨k=2∨k=3∨k=4:=by omega
     rcases this with rfl|rfl|rfl|rfl <;> exact absurd q (by decide)
    rw[if_neg h5]at h
    simp only[List.cons_append,List.nil_append,qcP,stepR,show ¬ ((78:UInt8)=86∨(78:UInt8)=65) by decide,show ¬ ((78:UInt8)=70) by decide,show ¬ ((78:UInt8)=84) by decide,show ¬ ((78:UInt8)=35) by decide,show ¬ ((78:UInt8)=75) by decide,show ¬ ((35:UInt8)=86∨(35:UInt8)=65) by decide,show ¬ ((35:UInt8)=70) by decide,show ¬ ((35:UInt8)=84) by decide,if_false,if_true]at h
    cases hw2:ws[a+1]? with
    | none=>rw[hw2]at h;cases h
    | some x=>
     rw[hw2]at h
     dsimp only at h
     by_cases hx:qbA 78 x []=true
     ·rw[if_pos hx]at h
      dsimp only[List.nil_append]at h
      cases hw3:ws[a+1+1]? with
      | none=>rw[hw3]at h;cases h
      | some y=>
       have aE:=qeJ hw3
       rw[hw3]at h
       dsimp only at h
       cases hv:numOf y.data.toList with
       | none=>rw[hv]at h;cases h
       | some v=>
        rw[hv]at h
        dsimp only at h
        by_cases hy:lst ((k:Int)).toNat<=v/\v<=mst ((k:Int)).toNat
        ·rw[if_pos hy]at h
         try dsimp only at h
         refine fin _ _ rfl rfl ?_ (by omega) (by omega) h
         rw[q]
         have aB:nameB x=true:=by simpa [qbA] using hx
         simp only[preC,decide_eq_true hy,emp,aB];rfl
        ·rw[if_neg hy]at h;cases h
     ·rw[if_neg hx]at h;cases h
theorem qbU (M:Nat) (ws:List ByteArray):∀ (m:Nat) (act:Bool) (d:Int) (a c:Nat) (r:T m × Nat × Nat),qaI M ws m act d a c=.ok r ->
  goodN m r.1 d=true/\poT m r.1=(if act=true then 65 else 86)/\r.2.2=c+cntT m r.1/\r.2.2<=200/\a<r.2.1/\r.2.1<=ws.length:=by
 intro m
 induction m with
 | zero=>intro act d a c r h;cases h
 | succ m ih=>
  intro act d a c r h
  have HK:KidsGood ws (fun b=>qaI M ws m b (d+1)) (poT m) (fun t=>goodN m t (d+1)) (cntT m):=⟨fun b a c r h=>ih b (d+1) a c r h⟩
  obtain⟨g1,g2,g3,g4,g5,g6,g7,g8⟩:=qxR M ws _ _ _ _ HK act d a c r h
  refine⟨?_,g3,?_,g6,g7,g8⟩
  ·simp only[goodN,Bool.and_eq_true,List.all_eq_true,decide_eq_true_eq]
   exact⟨⟨g1,g2⟩,g4⟩
  ·rw[g5]
   show c+1+sumL (cntT m) (Nd.kids r.1)=c+(1+sumL (cntT m) (Nd.kids r.1))
   omega
end Go.Proofs.YtelogmjfekhmpaaGreatDoor
