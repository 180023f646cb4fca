import Derived.Test.YtelogmjfekhmpaaGreatDoorNL1
namespace Go.Proofs.YtelogmjfekhmpaaGreatDoor
open Go.RowKit
def opT:(m:Nat)->T m->Int
 | 0,_=>0
 | _+1,t=>Nd.sort t
def poT (m:Nat) (t:T m):Int:=poF (opT m t)
def goodN:(m:Nat)->T m->Int->Bool
 | 0,_,_=>false
 | m+1,t,d=>decide (d<=24) && justB (poT m) (show Nd (T m) from t) && (Nd.kids t).all (fun k=>goodN m k (d+1))
def leafT (s m:Int) (x:ByteArray):T 1:=(⟨s,m,x,[],[]⟩:Nd (T 0))
def leafL (s m:Int) (x:ByteArray):List UInt8:=txtL 1 (leafT s m x)
def lenF {α:Type} (lk:α->Nat) (n:Nd α):Nat:=
 if n.sort<=3 then (leafL n.sort n.num n.text).length
 else if n.sort=4 then (n.names.headD ByteArray.empty).size
 else (wrd n.sort.toNat).size+szN n.names+(if n.text.size=0 then 0 else n.text.size+1)+(if n.sort=37∨n.sort=39 then (Lib.itoa n.num).length+1 else 0)+sumL (fun k=>lk k+1) n.kids+(if n.sort=24 then 4 else 0)
def lenN:(m:Nat)->T m->Nat
 | 0,_=>0
 | m+1,t=>lenF (lenN m) (show Nd (T m) from t)
def wk (k x:Nat):Nat:=if k=0 then x else k+1+x
theorem qeQ {k:Nat} (h:1<=k) (x:Nat):wk k x=k+1+x:=by unfold wk;rw[if_neg (by omega)]
def lenFs {α:Type} (lk:α->Nat):List ByteArray->List α->Nat->Nat
 | a :: ns,x :: ks,k=>lenFs lk ns ks (wk (wk k a.size) (lk x))
 | _,_,k=>k
def lenP {α:Type} (lk:α->Nat) (n:Nd α):List UInt8->List ByteArray->List α->Nat->Nat
 | [],_,_,k=>k
 | p :: ps,ns,ks,k=>
  if p=84 then lenP lk n ps ns ks (wk k (leafL n.sort n.num n.text).length)
  else if p=35 then lenP lk n ps ns ks (wk k (Lib.itoa n.num).length)
  else if p=75 then lenP lk n ps ns ks (wk k n.text.size)
  else if p=70 then lenP lk n ps ns ks (wk (lenFs lk n.names n.kids k) 3)
  else if p=78∨p=88 then
   match ns with
   | []=>k
   | a :: q=>lenP lk n ps q ks (wk k a.size)
  else
   match ks with
   | []=>k
   | x :: q=>lenP lk n ps ns q (wk k (lk x))
def fitP {α:Type} (po:α->Int):List UInt8->List ByteArray->List α->Prop
 | [],_,_=>True
 | p :: ps,ns,ks=>
  if p=78∨p=88 then
   match ns with
   | []=>False
   | _ :: q=>fitP po ps q ks
  else if p=86∨p=65 then
   match ks with
   | []=>False
   | x :: q=>po x=(p.toNat:Int)/\fitP po ps ns q
  else fitP po ps ns ks
theorem xfM {α:Type} (lk:α->Nat):∀ (ns:List ByteArray) (ks:List α) (k:Nat),ns.length=ks.length->1<=k->lenFs lk ns ks k=k+szN ns+sumL (fun x=>lk x+1) ks:=by
 intro ns
 induction ns with
 | nil=>intro ks k h hk;cases ks with
  | nil=>simp[lenFs,szN,sumL]
  | cons x r=>simp at h
 | cons a ns ih=>intro ks k h hk;cases ks with
  | nil=>simp at h
  | cons x r=>
   simp only[List.length_cons]at h
   rw[lenFs,ih r _ (by omega) (by rw[qeQ hk,qeQ (by omega)];omega),qeQ hk,qeQ (by omega)]
   simp only[szN,sumL];omega
theorem qhH {v:UInt8} (h:v=86∨v=65):¬ v=84/\¬ v=35/\¬ v=75/\¬ v=70/\¬ (v=78∨v=88):=by rcases h with rfl|rfl <;> decide
theorem qfD {α:Type} (lk:α->Nat) (n:Nd α):∀ (vs:List UInt8),(∀ v,v∈vs->v=86∨v=65)->∀ (ns:List ByteArray) (ks:List α) (k:Nat),ks.length=vs.length->1<=k->lenP lk n vs ns ks k=k+sumL (fun x=>lk x+1) ks:=by
 intro vs
 induction vs with
 | nil=>intro _ ns ks k h _;have:ks=[]:=List.eq_nil_of_length_eq_zero h;subst this;simp[lenP,sumL]
 | cons v vs ih=>
  intro hv ns ks k h hk
  cases ks with
  | nil=>simp at h
  | cons x r=>
   obtain⟨h1,h2,h3,h4,h5⟩:=qhH (hv v (List.mem_cons_self ..))
   simp only[lenP,if_neg h1,if_neg h2,if_neg h3,if_neg h4,if_neg h5]
   rw[ih (fun x hx=>hv x (List.mem_cons_of_mem _ hx)) ns r _ (by simpa using h) (by rw[qeQ hk];omega),qeQ hk]
   simp only[sumL];omega
theorem xfN {α:Type} (po:α->Int):∀ (vs:List UInt8),(∀ v,v∈vs->v=86∨v=65)->∀ (ns:List ByteArray) (ks:List α),ks.map po=vs.map (fun v=>(v.toNat:Int))->fitP po vs ns ks:=by
 intro vs
 induction vs with
 | nil=>intro _ ns ks h;simp[fitP]
 | cons v vs ih=>
  intro hv ns ks h
  cases ks with
  | nil=>simp at h
  | cons x r=>
   obtain⟨h1,h2,h3,h4,h5⟩:=qhH (hv v (List.mem_cons_self ..))
   simp only[List.map_cons,List.cons.injEq]at h
   simp only[fitP,if_neg h5,if_pos (hv v (List.mem_cons_self ..))]
   exact⟨h.1,ih (fun x hx=>hv x (List.mem_cons_of_mem _ hx)) ns r h.2⟩
def wk0 (op k:Nat):Nat:=if (wrd op).size=0 then k else wk k (wrd op).size
theorem qlC:∀ k,k<44->((k<5->(wrd k).size=0)/\(5<=k->1<=(wrd k).size/\(wrd k).size<=6)):=by decide
theorem qvX:∀ k,k<4->1<=k->preL k=[84]/\kdV k=[]:=by decide
theorem pre_name:preL 4=[88]/\kdV 4=[]:=by decide
theorem qvY:∀ k,k<44->5<=k->preL k≠[84]:=by decide
theorem xiE:∀ k,k<44->(k=37∨k=39)->(preL k=[35]∨preL k=[78,35]):=by decide
theorem xfO:∀ k,k<44->(preL k=[35]∨preL k=[78,35])->(k=37∨k=39):=by decide
theorem lp_T {α:Type} (lk:α->Nat) (n:Nd α) (ps:List UInt8) (ns:List ByteArray) (ks:List α) (k:Nat):lenP lk n (84 :: ps) ns ks k=lenP lk n ps ns ks (wk k (leafL n.sort n.num n.text).length):=by
 rw[lenP.eq_def];exact if_pos rfl
theorem lp_n {α:Type} (lk:α->Nat) (n:Nd α) (ps:List UInt8) (ns:List ByteArray) (ks:List α) (k:Nat):lenP lk n (35 :: ps) ns ks k=lenP lk n ps ns ks (wk k (Lib.itoa n.num).length):=by
 rw[lenP.eq_def];exact (if_neg (by decide)).trans (if_pos rfl)
theorem lp_K {α:Type} (lk:α->Nat) (n:Nd α) (ps:List UInt8) (ns:List ByteArray) (ks:List α) (k:Nat):lenP lk n (75 :: ps) ns ks k=lenP lk n ps ns ks (wk k n.text.size):=by
 rw[lenP.eq_def];exact (if_neg (by decide)).trans ((if_neg (by decide)).trans (if_pos rfl))
theorem lp_F {α:Type} (lk:α->Nat) (n:Nd α) (ps:List UInt8) (ns:List ByteArray) (ks:List α) (k:Nat):lenP lk n (70 :: ps) ns ks k=lenP lk n ps ns ks (wk (lenFs lk n.names n.kids k) 3):=by
 rw[lenP.eq_def];exact (if_neg (by decide)).trans ((if_neg (by decide)).trans ((if_neg (by decide)).trans (if_pos rfl)))
theorem lp_N {α:Type} (lk:α->Nat) (n:Nd α) {p:UInt8} (hp:p=78∨p=88) (ps:List UInt8) (a:ByteArray) (ns:List ByteArray) (ks:List α) (k:Nat):lenP lk n (p :: ps) (a :: ns) ks k=lenP lk n ps ns ks (wk k a.size):=by
 rw[lenP.eq_def];dsimp only;rw[if_neg (by rcases hp with rfl|rfl <;> decide),if_neg (by rcases hp with rfl|rfl <;> decide),if_neg (by rcases hp with rfl|rfl <;> decide),if_neg (by rcases hp with rfl|rfl <;> decide),if_pos hp]
theorem lp_V {α:Type} (lk:α->Nat) (n:Nd α) {p:UInt8} (hp:p=86∨p=65) (ps:List UInt8) (ns:List ByteArray) (x:α) (ks:List α) (k:Nat):lenP lk n (p :: ps) ns (x :: ks) k=lenP lk n ps ns ks (wk k (lk x)):=by
 obtain⟨h1,h2,h3,h4,h5⟩:=qhH hp
 rw[lenP.eq_def];dsimp only;rw[if_neg h1,if_neg h2,if_neg h3,if_neg h4,if_neg h5]
theorem fp_N {α:Type} (po:α->Int) {p:UInt8} (hp:p=78∨p=88) (ps:List UInt8) (ns:List ByteArray) (ks:List α) (h:fitP po (p :: ps) ns ks):∃ a q,ns=a :: q/\fitP po ps q ks:=by
 cases ns with
 | nil=>rw[fitP.eq_def]at h;dsimp only at h;rw[if_pos hp]at h;exact h.elim
 | cons a q=>rw[fitP.eq_def]at h;dsimp only at h;rw[if_pos hp]at h;exact⟨a,q,rfl,h⟩
theorem fp_V {α:Type} (po:α->Int) {p:UInt8} (hp:p=86∨p=65) (ps:List UInt8) (ns:List ByteArray) (ks:List α) (h:fitP po (p :: ps) ns ks):∃ x q,ks=x :: q/\po x=(p.toNat:Int)/\fitP po ps ns q:=by
 obtain⟨h1,h2,h3,h4,h5⟩:=qhH hp
 cases ks with
 | nil=>rw[fitP.eq_def]at h;dsimp only at h;rw[if_neg h5,if_pos hp]at h;exact h.elim
 | cons x q=>rw[fitP.eq_def]at h;dsimp only at h;rw[if_neg h5,if_pos hp]at h;exact⟨x,q,rfl,h⟩
theorem fp_O {α:Type} (po:α->Int) {p:UInt8} (hp:p=84∨p=35∨p=75∨p=70) (ps:List UInt8) (ns:List ByteArray) (ks:List α):fitP po (p :: ps) ns ks↔fitP po ps ns ks:=by
 rw[fitP.eq_def];dsimp only;rw[if_neg (by rcases hp with rfl|rfl|rfl|rfl <;> decide),if_neg (by rcases hp with rfl|rfl|rfl|rfl <;> decide)]
theorem fp_N' {α:Type} (po:α->Int) {p:UInt8} (hp:p=78∨p=88) (ps:List UInt8) (a:ByteArray) (q:List ByteArray) (ks:List α) (h:fitP po ps q ks):fitP po (p :: ps) (a :: q) ks:=by
 rw[fitP.eq_def];dsimp only;rw[if_pos hp];exact h
theorem qaG (x:ByteArray) (h:x.toList.isEmpty=true):x.size=0:=by
 have h1:=List.isEmpty_iff.1 h
 have e:=ByteArray.toList_eq x
 rw[e]at h1
 show x.data.size=0
 rw[<- Array.length_toList,h1];rfl
theorem xaL (m:Nat) (k:K (m+1)):¬ txtK (m+1) k=[]:=by
 intro h
 rw[txtK]at h
 split at h
 ·cases h
 split at h
 ·cases h
 split at h
 ·cases h
 split at h
 ·cases h
 split at h
 ·cases h
 ·cases h
theorem xaM (x:ByteArray) (h:kindB x=true):¬ x.size=0:=by
 intro h0
 unfold kindB at h
 obtain⟨k,hk⟩:=Option.isSome_iff_exists.1 h
 have h1:=(qhG hk).2.2
 have h2:x.data.toList=[]:=List.eq_nil_of_length_eq_zero (by simpa using h0)
 rw[h2]at h1
 exact xaL _ _ h1
theorem xfP {α:Type} (po:α->Int) (lk:α->Nat) (n:Nd α) (hj:justB po n=true) (k:Nat) :
  lenP lk n (prt n.sort.toNat) n.names n.kids (wk0 n.sort.toNat k)=wk k (lenF lk n)/\fitP po (prt n.sort.toNat) n.names n.kids:=by
 have hr:1<=n.sort/\n.sort<=43:=by
  unfold justB at hj;simp only[Bool.and_eq_true,decide_eq_true_eq]at hj;exact hj.1
 by_cases h24:n.sort=24
 ·rw[qdW po n h24]at hj
  simp only[Bool.and_eq_true]at hj
  have e:prt 24=[70]:=by decide
  have hx:=qaG _ hj.2.2
  have hl:n.names.length=n.kids.length:=by
   have:=hj.1;unfold qeN at this;simp only[Bool.and_eq_true,beq_iff_eq]at this;exact this.1
  have hw:(wrd 24).size=4:=by decide
  rw[h24,show (24:Int).toNat=24 from rfl,e]
  refine⟨?_,by simp[fitP]⟩
  have hk:1<=wk0 24 k:=by unfold wk0 wk;rw[hw];simp;split <;> omega
  rw[lp_F,lenP,xfM lk _ _ _ hl hk,qeQ (by omega)]
  unfold lenF
  rw[h24,if_neg (by omega),if_neg (by omega),show (24:Int).toNat=24 from rfl,hw,if_pos hx,if_neg (by omega),if_pos rfl]
  unfold wk0 wk
  rw[hw]
  by_cases h0:k=0
  ·simp[h0]
  ·simp[h0];omega
 ·have aA:n.sort.toNat<44:=by omega
  rw[qfC po n hr.1 hr.2 h24]at hj
  simp only[Bool.and_eq_true,decide_eq_true_eq]at hj
  obtain⟨hp,hk⟩:=hj
  have hl:n.kids.length=(kdV n.sort.toNat).length:=by simpa using congrArg List.length hk
  have p3:=qvY _ aA
  obtain⟨w1,w2⟩:=qlC _ aA
  rw[qiK _ aA]
  have aB:=qiL n.sort.toNat
  have aC:=xfN po _ aB
  rcases Nat.lt_or_ge n.sort.toNat 5 with h5|h5
  ·have e0:wk0 n.sort.toNat k=k:=by unfold wk0;rw[if_pos (w1 h5)]
   rw[e0]
   by_cases h4:n.sort.toNat=4
   ·obtain⟨e1,e2⟩:=pre_name
    rw[<- h4]at e1 e2
    rw[e1]at hp ⊢
    rw[e2]at hl ⊢
    simp only[preC]at hp
    cases hn:n.names with
    | nil=>rw[hn]at hp;simp at hp
    | cons a q=>
     refine⟨?_,by simp[fitP]⟩
     rw[List.append_nil,lp_N lk n (.inr rfl),lenP]
     unfold lenF
     rw[if_neg (by omega),if_pos (by omega),hn]
     rfl
   ·obtain⟨e1,e2⟩:=qvX n.sort.toNat (by omega) (by omega)
    rw[e1,e2]
    refine⟨?_,by simp[fitP]⟩
    rw[List.append_nil,lp_T,lenP]
    unfold lenF
    rw[if_pos (by omega)]
  ·obtain⟨w3,w4⟩:=w2 h5
   have e0:wk0 n.sort.toNat k=wk k (wrd n.sort.toNat).size:=by unfold wk0;rw[if_neg (by omega)]
   have aD:1<=wk k (wrd n.sort.toNat).size:=by unfold wk;split <;> omega
   have hN:∀ (b x:Nat),(wk k b)+x=wk k (b+x):=by intro b x;unfold wk;split <;> omega
   have aF:lenF lk n=(wrd n.sort.toNat).size+szN n.names+(if n.text.size=0 then 0 else n.text.size+1)+(if n.sort=37∨n.sort=39 then (Lib.itoa n.num).length+1 else 0)+sumL (fun k=>lk k+1) n.kids:=by
    unfold lenF;rw[if_neg (by omega),if_neg (by omega),if_neg h24];omega
   rw[e0,aF]
   have aE:(n.sort=37∨n.sort=39)↔(preL n.sort.toNat=[35]∨preL n.sort.toNat=[78,35]):=⟨fun h=>xiE _ aA (by omega),fun h=>by have:=xfO _ aA h;omega⟩
   rcases (qeD _ aA).resolve_left (by omega) with h|h|h|h|h|h|h|h
   ·rw[h]at hp ⊢
    simp only[preC,Bool.and_eq_true,beq_iff_eq]at hp
    have hx:=qaG _ hp.1.2
    have hn:n.names=[]:=List.eq_nil_of_length_eq_zero (by omega)
    rw[if_pos hx,if_neg (by rw[aE,h];decide),hn]
    refine⟨?_,aC _ _ hk⟩
    rw[List.nil_append,qfD lk n _ aB _ _ _ hl aD]
    rw[hN]
    simp[szN]
   ·exact absurd h (p3 h5)
   ·rw[h]at hp ⊢
    simp only[preC,Bool.and_eq_true,beq_iff_eq]at hp
    have hx:=xaM _ hp.1.2
    have hn:n.names=[]:=List.eq_nil_of_length_eq_zero (by omega)
    rw[if_neg hx,if_neg (by rw[aE,h];decide),hn]
    refine⟨?_,(fp_O po (.inr (.inr (.inl rfl))) _ _ _).2 (aC _ _ hk)⟩
    rw[show [75]++kdV n.sort.toNat=75 :: kdV n.sort.toNat from rfl,lp_K,qeQ aD,qfD lk n _ aB _ _ _ hl (by omega)]
    rw[show wk k (wrd n.sort.toNat).size+1+n.text.size+sumL (fun x=>lk x+1) n.kids=wk k (wrd n.sort.toNat).size+(1+n.text.size+sumL (fun x=>lk x+1) n.kids) by omega,hN]
    congr 1;simp only[szN];omega
   ·rw[h]at hp ⊢
    simp only[preC,Bool.and_eq_true,beq_iff_eq]at hp
    have hx:=qaG _ hp.1.2
    have hn:n.names=[]:=List.eq_nil_of_length_eq_zero (by omega)
    rw[if_pos hx,if_pos (by rw[aE,h];simp),hn]
    refine⟨?_,(fp_O po (.inr (.inl rfl)) _ _ _).2 (aC _ _ hk)⟩
    rw[show [35]++kdV n.sort.toNat=35 :: kdV n.sort.toNat from rfl,lp_n,qeQ aD,qfD lk n _ aB _ _ _ hl (by omega)]
    rw[show wk k (wrd n.sort.toNat).size+1+(Lib.itoa n.num).length+sumL (fun x=>lk x+1) n.kids=wk k (wrd n.sort.toNat).size+(1+(Lib.itoa n.num).length+sumL (fun x=>lk x+1) n.kids) by omega,hN]
    congr 1;simp only[szN];omega
   ·rw[h]at hp ⊢
    simp only[preC,Bool.and_eq_true,beq_iff_eq]at hp
    have hx:=qaG _ hp.1.2
    rw[if_pos hx,if_neg (by rw[aE,h];decide)]
    match hn:n.names,hp.2 with
    | [a],_=>
     refine⟨?_,fp_N' po (.inr rfl) _ _ _ _ (aC _ _ hk)⟩
     rw[show [88]++kdV n.sort.toNat=88 :: kdV n.sort.toNat from rfl,lp_N lk n (.inr rfl),qeQ aD,qfD lk n _ aB _ _ _ hl (by omega)]
     rw[show wk k (wrd n.sort.toNat).size+1+a.size+sumL (fun x=>lk x+1) n.kids=wk k (wrd n.sort.toNat).size+(1+a.size+sumL (fun x=>lk x+1) n.kids) by omega,hN]
     congr 1;simp only[szN];omega
   ·rw[h]at hp ⊢
    simp only[preC,Bool.and_eq_true,beq_iff_eq]at hp
    have hx:=qaG _ hp.1.2
    rw[if_pos hx,if_neg (by rw[aE,h];decide)]
    match hn:n.names,hp.2 with
    | [a],_=>
     refine⟨?_,fp_N' po (.inl rfl) _ _ _ _ (aC _ _ hk)⟩
     rw[show [78]++kdV n.sort.toNat=78 :: kdV n.sort.toNat from rfl,lp_N lk n (.inl rfl),qeQ aD,qfD lk n _ aB _ _ _ hl (by omega)]
     rw[show wk k (wrd n.sort.toNat).size+1+a.size+sumL (fun x=>lk x+1) n.kids=wk k (wrd n.sort.toNat).size+(1+a.size+sumL (fun x=>lk x+1) n.kids) by omega,hN]
     congr 1;simp only[szN];omega
   ·rw[h]at hp ⊢
    simp only[preC,Bool.and_eq_true,beq_iff_eq]at hp
    have hx:=qaG _ hp.1.2
    rw[if_pos hx,if_neg (by rw[aE,h];decide)]
    match hn:n.names,hp.2 with
    | [a,b],_=>
     refine⟨?_,fp_N' po (.inr rfl) _ _ _ _ (fp_N' po (.inr rfl) _ _ _ _ (aC _ _ hk))⟩
     rw[show [88,88]++kdV n.sort.toNat=88 :: 88 :: kdV n.sort.toNat from rfl,lp_N lk n (.inr rfl),lp_N lk n (.inr rfl),qeQ aD,qeQ (by omega),qfD lk n _ aB _ _ _ hl (by omega)]
     rw[show wk k (wrd n.sort.toNat).size+1+a.size+1+b.size+sumL (fun x=>lk x+1) n.kids=wk k (wrd n.sort.toNat).size+(1+a.size+1+b.size+sumL (fun x=>lk x+1) n.kids) by omega,hN]
     congr 1;simp only[szN];omega
   ·rw[h]at hp ⊢
    simp only[preC,Bool.and_eq_true]at hp
    have hx:=qaG _ hp.1.2
    rw[if_pos hx,if_pos (by rw[aE,h];simp)]
    match hn:n.names,hp.2 with
    | [a],_=>
     refine⟨?_,fp_N' po (.inl rfl) _ _ _ _ ((fp_O po (.inr (.inl rfl)) _ _ _).2 (aC _ _ hk))⟩
     rw[show [78,35]++kdV n.sort.toNat=78 :: 35 :: kdV n.sort.toNat from rfl,lp_N lk n (.inl rfl),lp_n,qeQ aD,qeQ (by omega),qfD lk n _ aB _ _ _ hl (by omega)]
     rw[show wk k (wrd n.sort.toNat).size+1+a.size+1+(Lib.itoa n.num).length+sumL (fun x=>lk x+1) n.kids=wk k (wrd n.sort.toNat).size+(1+a.size+1+(Lib.itoa n.num).length+sumL (fun x=>lk x+1) n.kids) by omega,hN]
     congr 1;simp only[szN];omega
end Go.Proofs.YtelogmjfekhmpaaGreatDoor
