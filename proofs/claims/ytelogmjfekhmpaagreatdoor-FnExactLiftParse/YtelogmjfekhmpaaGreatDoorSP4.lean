import Derived.Test.YtelogmjfekhmpaaGreatDoorSP0
import Derived.Test.YtelogmjfekhmpaaGreatDoorSL3
namespace Go.Proofs.YtelogmjfekhmpaaGreatDoor
open Go.RowKit
def ftC (fc code:Int):Int:=if fc=0 then code else fc
def ftA (fc fa a:Int):Int:=if fc=0 then a else fa
def qeB (free:Bool) (unlike s:ByteArray):Bool:=nameB s && (!free || freeB s) && !(s==unlike)
def Got {α:Type} (r:Rd3 α) (t:α) (a c:Nat) (fc fa:Int):Prop:=
 match r with
 | .ok q=>t=q.1/\a=q.2.1/\c=q.2.2/\fc=0/\fa=0
 | .error e=>fc=e.1/\fa=(e.2:Int)/\fc≠0
theorem Got.zero {α:Type} {r:Rd3 α} {t:α} {a c:Nat} {fa:Int} (h:Got r t a c 0 fa):r=.ok (t,a,c)/\fa=0:=by
 cases r with
 | ok q=>obtain⟨rfl,rfl,rfl,-,h⟩:=h;exact⟨rfl,h⟩
 | error e=>exact absurd rfl h.2.2
theorem Got.bad {α:Type} {r:Rd3 α} {t:α} {a c:Nat} {fc fa:Int} (h:Got r t a c fc fa) (hf:fc≠0):∃ e:Er,r=.error e/\fc=e.1/\fa=(e.2:Int):=by
 cases r with
 | ok q=>exact absurd h.2.2.2.1 hf
 | error e=>exact⟨e,rfl,h.1,h.2.1⟩
theorem Got.okk {α:Type} (t:α) (a c:Nat):Got (.ok (t,a,c):Rd3 α) t a c 0 0:=⟨rfl,rfl,rfl,rfl,rfl⟩
def bnd (d:Int) (c:Nat):Int:=if 24<d then 3 else if 200<=c then 4 else 0
def bndA (d:Int) (a c:Nat):Int:=if bnd d c=0 then 0 else (a:Int)
theorem qwJ {d:Int} {c:Nat} (h:bnd d c=0):d<=24/\c<200:=by
 unfold bnd at h
 split at h
 ·cases h
 ·split at h
  ·cases h
  ·omega
def stE {α:Type} (k:Int) (d:Int) (a c:Nat):Rd3 (Nd α):=if bnd d c=0 then .ok (⟨k,0,ByteArray.empty,[],[]⟩,a+1,c+1) else .error (bnd d c,a)
theorem xbI {α:Type} (k:Int) (d:Int) (a c:Nat):Got (stE (α:=α) k d a c) ⟨k,0,ByteArray.empty,[],[]⟩ (a+1) (c+1) (bnd d c) (bndA d a c):=by
 unfold stE bndA
 by_cases h:bnd d c=0
 ·rw[if_pos h,if_pos h,h];exact Got.okk _ _ _
 ·rw[if_neg h,if_neg h];exact⟨rfl,rfl,h⟩
def stepE {α:Type} (M:Nat) (rk:Bool->Nat->Nat->Rd3 α) (ws:List ByteArray) (r:Rd3 (Nd α)) (p:UInt8):Rd3 (Nd α):=
 match r with
 | .error e=>.error e
 | .ok q=>stepR M rk ws p q.1 q.2.1 q.2.2
def foldE {α:Type} (M:Nat) (rk:Bool->Nat->Nat->Rd3 α) (ws:List ByteArray):List UInt8->Rd3 (Nd α)->Rd3 (Nd α)
 | [],r=>r
 | p :: ps,r=>foldE M rk ws ps (stepE M rk ws r p)
theorem qiV {α:Type} (M:Nat) (rk:Bool->Nat->Nat->Rd3 α) (ws:List ByteArray) (e:Er):∀ ps,foldE M rk ws ps (.error e)=.error e:=by
 intro ps
 induction ps with
 | nil=>rfl
 | cons p ps ih=>exact ih
theorem qiW {α:Type} (M:Nat) (rk:Bool->Nat->Nat->Rd3 α) (ws:List ByteArray):∀ (ps qs:List UInt8) (r:Rd3 (Nd α)),foldE M rk ws (ps++qs) r=foldE M rk ws qs (foldE M rk ws ps r):=by
 intro ps
 induction ps with
 | nil=>intro qs r;rfl
 | cons p ps ih=>intro qs r;exact ih qs _
theorem quK {α:Type} (M:Nat) (rk:Bool->Nat->Nat->Rd3 α) (ws:List ByteArray):∀ (ps:List UInt8) (n:Nd α) (a c:Nat),qcP M rk ws ps n a c=foldE M rk ws ps (.ok (n,a,c)):=by
 intro ps
 induction ps with
 | nil=>intro n a c;rfl
 | cons p ps ih=>
  intro n a c
  rw[qcP,foldE]
  show _=foldE M rk ws ps (stepR M rk ws p n a c)
  cases h:stepR M rk ws p n a c with
  | error e=>rw[qiV]
  | ok q=>exact ih _ _ _
theorem po_op (k:Nat) (h1:1<=k) (h2:k<44) (act:Bool):(poF (k:Int)=(if act=true then 65 else 86))↔act=decide ((36:Int)<=(k:Int)):=by
 rw[xbH (k:Int) ⟨by omega,by omega⟩]
 by_cases h:(36:Int)<=(k:Int)
 ·rw[if_pos h,decide_eq_true h];cases act <;> simp
 ·rw[if_neg h,decide_eq_false h];cases act <;> simp
theorem xbJ {α:Type} (M:Nat) (rk:Bool->Nat->Nat->Rd3 α) (ws:List ByteArray) (act:Bool) (d:Int) (a c k:Nat) (hk:opW (wordD ws a)=k) (h0:k≠0) (ha:act=decide ((36:Int)<=(k:Int))) :
  bodyR M rk ws act d a c=foldE M rk ws (prt k) (stE (k:Int) d a c):=by
 have aA:=qwH (wordD ws a)
 rw[hk]at aA
 have h5:=(qpP (s:=wordD ws a) (by omega)).2.1
 unfold bodyR stE bnd
 by_cases hd:24<d
 ·simp only[if_pos hd];rw[if_neg (by decide),qiV]
 by_cases hc:200<=c
 ·simp only[if_neg hd,if_pos hc];rw[if_neg (by decide),qiV]
 simp only[if_neg hd,if_neg hc,if_true]
 cases hw:ws[a]? with
 | none=>rw[qbO hw,qpQ]at hk;exact absurd hk.symm h0
 | some s=>
  dsimp only
  rw[qdI hw]at hk h5
  have ho:opA M s=k:=by unfold opA;rw[if_neg (by omega),hk]
  rw[ho,if_pos ((po_op k (by omega) aA act).2 ha),if_neg (by omega)]
  exact quK _ _ _ _ _ _ _
theorem xbK {α:Type} (M:Nat) (rk:Bool->Nat->Nat->Rd3 α) (ws:List ByteArray) (d:Int) (a c:Nat) (l:Int × Int × ByteArray) (hl:leafW M (wordD ws a)=some l) :
  Got (bodyR M rk ws false d a c) ⟨l.1,l.2.1,l.2.2,[],[]⟩ (a+1) (c+1) (bnd d c) (bndA d a c):=by
 have h0:=qwI hl
 have aA:=qcW hl
 unfold bodyR bndA bnd
 by_cases hd:24<d
 ·simp only[if_pos hd];rw[if_neg (by decide)];exact⟨rfl,rfl,by decide⟩
 by_cases hc:200<=c
 ·simp only[if_neg hd,if_pos hc];rw[if_neg (by decide)];exact⟨rfl,rfl,by decide⟩
 simp only[if_neg hd,if_neg hc,if_true]
 cases hw:ws[a]? with
 | none=>rw[qbO hw,qxU]at hl;cases hl
 | some s=>
  dsimp only
  rw[qdI hw]at hl h0
  obtain⟨k,hk⟩:∃ k:Nat,l.1=(k:Int):=⟨l.1.toNat,by omega⟩
  have ho:opA M s=k:=by unfold opA;rw[if_pos h0,hl];dsimp only;omega
  have hp:prt k=[84]:=by
   have:k=1∨k=2∨k=3:=by omega
   rcases this with rfl|rfl|rfl <;> decide
  rw[ho,if_pos ((po_op k (by omega) (by omega) false).2 (by simp;omega)),hp,if_pos (by omega)]
  simp only[qcP,stepR,show ¬ ((84:UInt8)=86∨(84:UInt8)=65) by decide,show ¬ ((84:UInt8)=70) by decide,if_false,if_true,hw,hl]
  exact⟨by rw[hk],rfl,rfl,rfl,rfl⟩
theorem xbL {s:ByteArray} (h:freeB s=true):opW s=0:=by
 simp only[freeB,Bool.and_eq_true,beq_iff_eq]at h
 exact h.1.1.1.2
theorem xbM {α:Type} (M:Nat) (rk:Bool->Nat->Nat->Rd3 α) (ws:List ByteArray) (d:Int) (a c:Nat) (hl:leafW M (wordD ws a)=none) (hf:freeB (wordD ws a)=true) :
  Got (bodyR M rk ws false d a c) ⟨4,0,ByteArray.empty,[wordD ws a],[]⟩ (a+1) (c+1) (bnd d c) (bndA d a c):=by
 have h0:=xbL hf
 unfold bodyR bndA bnd
 by_cases hd:24<d
 ·simp only[if_pos hd];rw[if_neg (by decide)];exact⟨rfl,rfl,by decide⟩
 by_cases hc:200<=c
 ·simp only[if_neg hd,if_pos hc];rw[if_neg (by decide)];exact⟨rfl,rfl,by decide⟩
 simp only[if_neg hd,if_neg hc,if_true]
 cases hw:ws[a]? with
 | none=>rw[qbO hw,xbD]at hf;cases hf
 | some s=>
  dsimp only
  rw[qdI hw]at hl h0 hf ⊢
  have ho:opA M s=4:=by unfold opA;rw[if_pos h0,hl];dsimp only;rw[if_pos hf]
  rw[ho,if_pos (by decide),show prt 4=[88] by decide,if_pos (by decide)]
  have hn:qbA 88 s []=true:=by simp[qbA,hf]
  simp only[qcP,stepR,show ¬ ((88:UInt8)=86∨(88:UInt8)=65) by decide,show ¬ ((88:UInt8)=70) by decide,show ¬ ((88:UInt8)=84) by decide,show ¬ ((88:UInt8)=35) by decide,show ¬ ((88:UInt8)=75) by decide,if_false,if_true,hw,hn]
  exact⟨rfl,rfl,rfl,rfl,rfl⟩
theorem xfY {α:Type} (M:Nat) (rk:Bool->Nat->Nat->Rd3 α) (ws:List ByteArray) (act:Bool) (d:Int) (a c:Nat) (t:Nd α) (hv:act=false->leafW M (wordD ws a)=none/\freeB (wordD ws a)=false)
  (ho:opW (wordD ws a)=0∨act≠decide ((36:Int)<=(opW (wordD ws a):Int))):Got (bodyR M rk ws act d a c) t a (c+1) (ftC (bnd d c) 2) (ftA (bnd d c) (bndA d a c) a):=by
 unfold bodyR bndA bnd ftC ftA
 by_cases hd:24<d
 ·simp only[if_pos hd];rw[if_neg (by decide),if_neg (by decide),if_neg (by decide)];exact⟨rfl,rfl,by decide⟩
 by_cases hc:200<=c
 ·simp only[if_neg hd,if_pos hc];rw[if_neg (by decide),if_neg (by decide),if_neg (by decide)];exact⟨rfl,rfl,by decide⟩
 simp only[if_neg hd,if_neg hc,if_true]
 cases hw:ws[a]? with
 | none=>exact⟨rfl,rfl,by decide⟩
 | some s=>
  dsimp only
  rw[qdI hw]at hv ho
  have aA:¬ poF (opA M s:Int)=(if act=true then 65 else 86):=by
   unfold opA
   by_cases h0:opW s=0
   ·rw[if_pos h0]
    cases hl:leafW M s with
    | some l=>
     have aC:=qcW hl
     dsimp only
     cases act with
     | false=>rw[(hv rfl).1]at hl;cases hl
     | true=>
      intro h
      have:=(po_op l.1.toNat (by omega) (by omega) true).1 h
      simp at this;omega
    | none=>
     dsimp only
     cases act with
     | false=>rw[(hv rfl).2];decide
     | true=>
      by_cases hf:freeB s=true
      ·rw[if_pos hf];decide
      ·rw[if_neg hf];decide
   ·rw[if_neg h0]
    have aB:=qwH s
    intro h
    exact (ho.resolve_left h0) ((po_op (opW s) (by omega) aB act).1 h)
  rw[if_neg aA]
  exact⟨rfl,rfl,by decide⟩
theorem xfZ {α:Type} (M:Nat) (rk:Bool->Nat->Nat->Rd3 α) (ws:List ByteArray) {r:Rd3 (Nd α)} {n:Nd α} {a c:Nat} {fc fa:Int} (h:Got r n a c fc fa) (p:UInt8) (free:Bool) (hp:(p=78/\free=false)∨(p=88/\free=true)) (unlike:ByteArray)
  (hu:fc=0->(n.names=[]/\unlike=⟨#[]⟩)∨(n.names=[unlike]/\p=88)) (x:ByteArray) :
  (qeB free unlike (wordD ws a)=true->Got (stepE M rk ws r p) ⟨n.sort,n.num,n.text,n.names++[wordD ws a],n.kids⟩ (a+1) c fc fa) /\
  (qeB free unlike (wordD ws a)=false->Got (stepE M rk ws r p) ⟨n.sort,n.num,n.text,n.names++[x],n.kids⟩ a c (ftC fc 2) (ftA fc fa a)):=by
 by_cases hf:fc=0
 case neg=>
  obtain⟨e,rfl,h1,h2⟩:=h.bad hf
  unfold ftC ftA
  rw[if_neg hf,if_neg hf]
  exact⟨fun _=>⟨h1,h2,hf⟩,fun _=>⟨h1,h2,hf⟩⟩
 subst hf
 obtain⟨rfl,rfl⟩:=h.zero
 have aC:¬ (p=86∨p=65):=by rcases hp with ⟨rfl,-⟩|⟨rfl,-⟩ <;> decide
 have aD:¬ p=70:=by rcases hp with ⟨rfl,-⟩|⟨rfl,-⟩ <;> decide
 have aE:¬ p=84:=by rcases hp with ⟨rfl,-⟩|⟨rfl,-⟩ <;> decide
 have aF:¬ p=35:=by rcases hp with ⟨rfl,-⟩|⟨rfl,-⟩ <;> decide
 have aG:¬ p=75:=by rcases hp with ⟨rfl,-⟩|⟨rfl,-⟩ <;> decide
 have e1:ftC 0 2=2:=rfl
 have e2:ftA 0 0 (a:Int)=a:=rfl
 simp only[stepE,stepR,if_neg aC,if_neg aD,if_neg aE,if_neg aF,if_neg aG,e1,e2]
 cases hw:ws[a]? with
 | none=>
  rw[qbO hw]
  refine⟨fun hg=>?_,fun _=>⟨rfl,rfl,by decide⟩⟩
  simp[qeB,qiU]at hg
 | some s=>
  rw[qdI hw]
  dsimp only
  have aA:qbA p s n.names=qeB free unlike s:=by
   have aB:nameB s=true->(s==(⟨#[]⟩:ByteArray))=false:=fun hn=>by
    cases hq:(s==(⟨#[]⟩:ByteArray)) with
    | false=>rfl
    | true=>rw[ba_eq hq,qiU]at hn;cases hn
   rcases hp with ⟨rfl,rfl⟩|⟨rfl,rfl⟩
   ·rcases hu rfl with ⟨-,rfl⟩|⟨-,h⟩
    ·unfold qbA qeB
     rw[if_pos rfl]
     cases hn:nameB s with
     | false=>rfl
     | true=>rw[aB hn];rfl
    ·exact absurd h (by decide)
   ·unfold qbA qeB
    rw[if_neg (by decide)]
    cases hfr:freeB s with
    | false=>simp
    | true=>
     have hn:=qrS s hfr
     rcases hu rfl with ⟨h1,rfl⟩|⟨h1,-⟩
     ·rw[h1,hn,aB hn];rfl
     ·rw[h1,hn];simp
  rw[aA]
  refine⟨fun hg=>?_,fun hg=>?_⟩
  ·rw[if_pos hg];exact Got.okk _ _ _
  ·rw[if_neg (by rw[hg];decide)];exact⟨rfl,rfl,by decide⟩
theorem qrT:kindB ⟨#[]⟩=false:=by
 have hp:(qaM 8 []).isSome=false:=by decide
 unfold kindB
 cases h:readK ((⟨#[]⟩:ByteArray).size+8) ⟨#[]⟩ with
 | none=>rfl
 | some q=>
  exfalso
  unfold readK at h
  split at h
  ·split at h
   ·rename_i k hk
    have h2:qaM 8 []=some (k,[]):=hk
    rw[h2]at hp
    cases hp
   ·cases h
  ·cases h
theorem xgA {α:Type} (M:Nat) (rk:Bool->Nat->Nat->Rd3 α) (ws:List ByteArray) {r:Rd3 (Nd α)} {n:Nd α} {a c:Nat} {fc fa:Int} (h:Got r n a c fc fa) (x:ByteArray) :
  (kindB (wordD ws a)=true->Got (stepE M rk ws r 75) ⟨n.sort,n.num,wordD ws a,n.names,n.kids⟩ (a+1) c fc fa) /\
  (kindB (wordD ws a)=false->Got (stepE M rk ws r 75) ⟨n.sort,n.num,x,n.names,n.kids⟩ (a+1) c (ftC fc 2) (ftA fc fa a)):=by
 by_cases hf:fc=0
 case neg=>
  obtain⟨e,rfl,h1,h2⟩:=h.bad hf
  unfold ftC ftA
  rw[if_neg hf,if_neg hf]
  exact⟨fun _=>⟨h1,h2,hf⟩,fun _=>⟨h1,h2,hf⟩⟩
 subst hf
 obtain⟨rfl,rfl⟩:=h.zero
 have e1:ftC 0 2=2:=rfl
 have e2:ftA 0 0 (a:Int)=a:=rfl
 simp only[stepE,stepR,show ¬ ((75:UInt8)=86∨(75:UInt8)=65) by decide,show ¬ ((75:UInt8)=70) by decide,show ¬ ((75:UInt8)=84) by decide,show ¬ ((75:UInt8)=35) by decide,if_false,if_true,e1,e2]
 cases hw:ws[a]? with
 | none=>
  rw[qbO hw,qrT]
  exact⟨fun hg=>(by cases hg),fun _=>⟨rfl,rfl,by decide⟩⟩
 | some s=>
  rw[qdI hw]
  dsimp only
  refine⟨fun hg=>?_,fun hg=>?_⟩
  ·rw[if_pos hg];exact Got.okk _ _ _
  ·rw[if_neg (by rw[hg];decide)];exact⟨rfl,rfl,by decide⟩
theorem qwK (M:Nat) (s:ByteArray) (hs:s.size<=3000):(∃ t:T (M+1),readT (M+1) s=some t/\Nd.sort t=1/\numOf s.data.toList=some (Nd.num t))∨((∀ t:T (M+1),readT (M+1) s=some t->Nd.sort t≠1)/\numOf s.data.toList=none):=by
 cases hn:numOf s.data.toList with
 | some v=>
  obtain⟨hv,hi⟩:=qdP hn
  refine .inl ⟨(⟨1,v,ByteArray.empty,[],[]⟩:Nd (T M)),?_,rfl,rfl⟩
  refine qwG (by omega) ?_ ?_
  ·have hg:goodT (M+1) (⟨1,v,ByteArray.empty,[],[]⟩:Nd (T M)) 1=true:=by
    show (decide ((1:Int)<=6) && qaQ 1 v ByteArray.empty [] 0 && List.all ([]:List (T M)) _)=_
    simp[qaQ,hv]
   have hc:cntT (M+1) (⟨1,v,ByteArray.empty,[],[]⟩:Nd (T M))=1:=rfl
   simp only[okT,hg,hc];rfl
  ·show (if (1:Int)=1 then Lib.itoa v else _)=_
   rw[if_pos rfl];exact hi
 | none=>
  refine .inr ⟨fun t ht h1=>?_,rfl⟩
  obtain⟨-,aC,aA⟩:=qeX ht
  have aB:=qcW (M:=M) (s:=s) (l:=(Nd.sort t,Nd.num t,Nd.text t)) (by unfold leafW;rw[ht];dsimp only;rw[if_pos (by omega)])
  have ha:=aB.2.2
  dsimp only at ha
  rw[h1]at ha
  simp only[qaQ,if_true,Bool.and_eq_true,decide_eq_true_eq]at ha
  rw[txtL,if_pos h1]at aA
  have:=qjZ (Nd.num t) ha.1.1.1
  rw[aA,hn]at this
  cases this
theorem xiM {α:Type} (M:Nat) (rk:Bool->Nat->Nat->Rd3 α) (ws:List ByteArray) {r:Rd3 (Nd α)} {n:Nd α} {a c:Nat} {fc fa:Int} (h:Got r n a c fc fa) (low high:Int) (hlo:lst n.sort.toNat=low) (hhi:mst n.sort.toNat=high) (x:Int) :
  (∀ v,numOf (wordD ws a).data.toList=some v->low<=v/\v<=high->Got (stepE M rk ws r 35) ⟨n.sort,v,n.text,n.names,n.kids⟩ (a+1) c fc fa) /\
  ((∀ v,numOf (wordD ws a).data.toList=some v->¬ (low<=v/\v<=high))->Got (stepE M rk ws r 35) ⟨n.sort,x,n.text,n.names,n.kids⟩ a c (ftC fc 2) (ftA fc fa a)):=by
 by_cases hf:fc=0
 case neg=>
  obtain⟨e,rfl,h1,h2⟩:=h.bad hf
  unfold ftC ftA
  rw[if_neg hf,if_neg hf]
  exact⟨fun _ _ _=>⟨h1,h2,hf⟩,fun _=>⟨h1,h2,hf⟩⟩
 subst hf
 obtain⟨rfl,rfl⟩:=h.zero
 have e1:ftC 0 2=2:=rfl
 have e2:ftA 0 0 (a:Int)=a:=rfl
 simp only[stepE,stepR,show ¬ ((35:UInt8)=86∨(35:UInt8)=65) by decide,show ¬ ((35:UInt8)=70) by decide,show ¬ ((35:UInt8)=84) by decide,if_false,if_true,e1,e2,hlo,hhi]
 cases hw:ws[a]? with
 | none=>
  rw[qbO hw]
  refine⟨fun v hv _=>?_,fun _=>⟨rfl,rfl,by decide⟩⟩
  have h2:=(qdP hv).2
  have:=qdH (s:=⟨#[]⟩) (i:=0) (k:=v) (post:=[]) (by rw[h2];rfl)
  exact absurd this (by decide)
 | some s=>
  rw[qdI hw]
  dsimp only
  cases hn:numOf s.data.toList with
  | none=>exact⟨fun v hv=>(by cases hv),fun _=>⟨rfl,rfl,by decide⟩⟩
  | some v=>
   dsimp only
   refine⟨fun v' hv hr=>?_,fun hr=>?_⟩
   ·obtain rfl:=Option.some.inj hv
    rw[if_pos hr];exact Got.okk _ _ _
   ·rw[if_neg (hr v rfl)];exact⟨rfl,rfl,by decide⟩
theorem xiN {α:Type} (M:Nat) (rk:Bool->Nat->Nat->Rd3 α) (ws:List ByteArray) {r:Rd3 (Nd α)} {n:Nd α} {a c:Nat} {fa:Int} (h:Got r n a c 0 fa) (p:UInt8) (hp:p=86∨p=65) {t:α} {a' c':Nat} {fc' fa':Int} (hk:Got (rk (p==65) a c) t a' c' fc' fa') :
  Got (stepE M rk ws r p) ⟨n.sort,n.num,n.text,n.names,n.kids++[t]⟩ a' c' fc' fa':=by
 obtain⟨rfl,-⟩:=h.zero
 simp only[stepE,stepR,if_pos hp]
 cases hr:rk (p==65) a c with
 | error e=>rw[hr]at hk;exact hk
 | ok q=>
  rw[hr]at hk
  obtain⟨rfl,rfl,rfl,rfl,rfl⟩:=hk
  exact Got.okk _ _ _
theorem xgB {α:Type} (M:Nat) (rk:Bool->Nat->Nat->Rd3 α) (ws:List ByteArray) {r:Rd3 (Nd α)} {n n':Nd α} {a c a' c':Nat} {fc fa:Int} (h:Got r n a c fc fa) (hf:fc≠0) (ps:List UInt8):Got (foldE M rk ws ps r) n' a' c' fc fa:=by
 obtain⟨e,rfl,h1,h2⟩:=h.bad hf
 rw[qiV]
 exact⟨h1,h2,hf⟩
end Go.Proofs.YtelogmjfekhmpaaGreatDoor
