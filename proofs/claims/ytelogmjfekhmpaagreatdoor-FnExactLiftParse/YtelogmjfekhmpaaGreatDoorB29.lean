import Derived.Test.YtelogmjfekhmpaaGreatDoorB12
import Derived.Test.YtelogmjfekhmpaaGreatDoorB16
import Derived.Test.YtelogmjfekhmpaaGreatDoorB11
import Derived.Deep.RegionLaw
import Derived.Laws.IdiomStrings
import Derived.BigQuiet
import Derived.Lib.Hide
import Derived.Test.YtelogmjfekhmpaaGreatDoorB18
import Derived.Deep.WholeRow
import Derived.Deep.Cut
import Derived.Deep.CutRange
import Derived.LoopTactic
import Derived.Test.YtelogmjfekhmpaaGreatDoorTI4
import Derived.Test.YtelogmjfekhmpaaGreatDoorB27
import Derived.Test.YtelogmjfekhmpaaGreatDoorB20
import Derived.Test.YtelogmjfekhmpaaGreatDoorB1
import Derived.Test.YtelogmjfekhmpaaGreatDoorCopyN
import Derived.Test.YtelogmjfekhmpaaGreatDoorB28
import Derived.Test.YtelogmjfekhmpaaGreatDoorSL2
namespace Go.Proofs.YtelogmjfekhmpaaGreatDoor
open Go.RowKit Go.Proofs.Tryz
theorem ba_eq{a b:ByteArray}(h:(a==b)=true):a=b:=by
 rw[<- qcL]at h
 have c:a.toList=b.toList:=by simpa using h
 apply ByteArray.ext
 apply Array.toList_inj.1
 rw[<- ByteArray.toList_eq,<- ByteArray.toList_eq]
 exact c
theorem xiM(s:ByteArray):∀(n k:Nat),opF s k n≠0->(wrd (opF s k n)==s)=true/\k<=opF s k n/\opF s k n<k+n:=by
 intro n
 induction n with
 | zero=>intro k h;exact absurd rfl h
 | succ n ih=>
  intro k h
  rw[opF]at h ⊢
  by_cases e:(wrd k==s)=true
  ·rw[if_pos e];exact⟨e,Nat.le_refl _,by omega⟩
  ·rw[if_neg e]at h ⊢
   obtain⟨a,b,c⟩:=ih (k+1) h
   exact⟨a,by omega,by omega⟩
theorem qpP{s:ByteArray}(h:opW s≠0):s=wrd (opW s)/\5<=opW s/\opW s<44:=by
 obtain⟨a,b,c⟩:=xiM s 39 5 h
 exact⟨(ba_eq a).symm,b,c⟩
theorem qwH(s:ByteArray):opW s<44:=by
 by_cases h:opW s=0
 ·omega
 ·exact (qpP h).2.2
theorem xfY:∀k,k<44->5<=k->¬(digC ((wrdL.getD k []).headD 0)=true∨(wrdL.getD k []).headD 0=45∨(wrdL.getD k []).headD 0=34∨wrdL.getD k []=[121,101,115]∨wrdL.getD k []=[110,111]∨wrdL.getD k []=[]):=by decide
theorem qwI{M:Nat}{s:ByteArray}{l:Int×Int×ByteArray}(h:leafW M s=some l):opW s=0:=by
 rcases Nat.eq_zero_or_pos (opW s) with f|f
 ·exact f
 exfalso
 obtain⟨o,p,u⟩:=qpP (s:=s) (by omega)
 have b:=xfY (opW s) u p
 have g:s.data.toList=wrdL.getD (opW s) []:=by
  have j:=congrArg (fun x:ByteArray=>x.data.toList) o
  exact j.trans (by simp[wrd,bs])
 rw[<- g]at b
 have m:=qcU h
 unfold leafW at h
 cases hr:readT (M+1) s with
 | none=>rw[hr]at h;cases h
 | some t=>
  rw[hr]at h
  dsimp only at h
  split at h
  ·cases h
   dsimp only at m
   have a:=(qeV hr).2.2
   have n:Nd.sort t=1∨Nd.sort t=2∨Nd.sort t=3:=by omega
   rw[txtL]at a
   rcases n with e|e|e
   ·rw[if_pos e]at a
    have:=qdE (s:=s) (i:=0) (k:=Nd.num t) (post:=[]) (by simp[a])
    have d:lookB s 0=s.data.toList.headD 0:=by
     cases hq:s.data.toList with
     | nil=>exact absurd hq (fun e=>b (by simp[e]))
     | cons c r=>exact lookT (s:=s) (i:=0) (r:=r) (by simp[hq])
    rw[d]at this
    rcases this with q|q
    ·exact b (.inl q)
    ·exact b (.inr (.inl q))
   ·rw[if_neg (by omega),if_pos e]at a
    exact b (.inr (.inr (.inl (by rw[<- a];rfl))))
   ·rw[if_neg (by omega),if_neg (by omega),if_pos e]at a
    split at a
    ·exact b (.inr (.inr (.inr (.inl a.symm))))
    ·exact b (.inr (.inr (.inr (.inr (.inl a.symm)))))
  ·cases h
theorem qxU(M:Nat):leafW M ⟨#[]⟩=none:=by
 cases h:leafW M ⟨#[]⟩ with
 | none=>rfl
 | some l=>
  exfalso
  have b:=qcU h
  unfold leafW at h
  cases hr:readT (M+1) ⟨#[]⟩ with
  | none=>rw[hr]at h;cases h
  | some t=>
   rw[hr]at h
   dsimp only at h
   split at h
   ·cases h
    dsimp only at b
    have a:=(qeV hr).2.2
    have c:Nd.sort t=1∨Nd.sort t=2∨Nd.sort t=3:=by omega
    rw[txtL]at a
    rcases c with e|e|e
    ·rw[if_pos e]at a
     have:=qdE (s:=⟨#[]⟩) (i:=0) (k:=Nd.num t) (post:=[]) (by simp[a])
     exact absurd this (by decide)
    ·rw[if_neg (by omega),if_pos e]at a
     cases a
    ·rw[if_neg (by omega),if_neg (by omega),if_pos e]at a
     split at a<;>cases a
   ·cases h
theorem qiQ:nameB ⟨#[]⟩=false:=by decide
theorem xbD:freeB ⟨#[]⟩=false:=by unfold freeB;rw[qiQ];rfl
theorem qpQ:opW ⟨#[]⟩=0:=by decide
def wordD(ws:List ByteArray)(a:Nat):ByteArray:=ws.getD a ⟨#[]⟩
theorem qdF{ws:List ByteArray}{a:Nat}{s:ByteArray}(h:ws[a]?=some s):wordD ws a=s:=by
 unfold wordD;rw[List.getD_eq_getElem?_getD,h];rfl
theorem qbM{ws:List ByteArray}{a:Nat}(h:ws[a]?=none):wordD ws a=⟨#[]⟩:=by
 unfold wordD;rw[List.getD_eq_getElem?_getD,h];rfl
theorem qdO{ws:List ByteArray}(h:∀s,s∈ws->s.size<=3000)(a:Nat):(wordD ws a).size<=3000:=by
 cases e:ws[a]? with
 | none=>rw[qbM e];decide
 | some s=>rw[qdF e];exact h s (List.mem_of_getElem? e)
def ftC(fc code:Int):Int:=if fc=0 then code else fc
def ftA(fc fa a:Int):Int:=if fc=0 then a else fa
def qdY(free:Bool)(unlike s:ByteArray):Bool:=nameB s && (!free || freeB s) && !(s==unlike)
def Got{α:Type}(r:Rd3 α)(t:α)(a c:Nat)(fc fa:Int):Prop:=
 match r with
 | .ok q=>t=q.1/\a=q.2.1/\c=q.2.2/\fc=0/\fa=0
 | .error e=>fc=e.1/\fa=(e.2:Int)/\fc≠0
theorem Got.zero{α:Type}{r:Rd3 α}{t:α}{a c:Nat}{fa:Int}(h:Got r t a c 0 fa):r=.ok (t,a,c)/\fa=0:=by
 cases r with
 | ok q=>obtain⟨rfl,rfl,rfl,-,h⟩:=h;exact⟨rfl,h⟩
 | error e=>exact absurd rfl h.2.2
theorem Got.bad{α:Type}{r:Rd3 α}{t:α}{a c:Nat}{fc fa:Int}(h:Got r t a c fc fa)(hf:fc≠0):∃e:Er,r=.error e/\fc=e.1/\fa=(e.2:Int):=by
 cases r with
 | ok q=>exact absurd h.2.2.2.1 hf
 | error e=>exact⟨e,rfl,h.1,h.2.1⟩
theorem Got.okk{α:Type}(t:α)(a c:Nat):Got (.ok (t,a,c):Rd3 α) t a c 0 0:=⟨rfl,rfl,rfl,rfl,rfl⟩
def bnd(d:Int)(c:Nat):Int:=if 24<d then 3 else if 200<=c then 4 else 0
def bndA(d:Int)(a c:Nat):Int:=if bnd d c=0 then 0 else (a:Int)
theorem qwJ{d:Int}{c:Nat}(h:bnd d c=0):d<=24/\c<200:=by
 unfold bnd at h
 split at h
 ·cases h
 ·split at h
  ·cases h
  ·omega
def stE{α:Type}(k:Int)(d:Int)(a c:Nat):Rd3 (Nd α):=if bnd d c=0 then .ok (⟨k,0,ByteArray.empty,[],[]⟩,a+1,c+1) else .error (bnd d c,a)
theorem xbI{α:Type}(k:Int)(d:Int)(a c:Nat):Got (stE (α:=α) k d a c) ⟨k,0,ByteArray.empty,[],[]⟩ (a+1) (c+1) (bnd d c) (bndA d a c):=by
 unfold stE bndA
 by_cases h:bnd d c=0
 ·rw[if_pos h,if_pos h,h];exact Got.okk _ _ _
 ·rw[if_neg h,if_neg h];exact⟨rfl,rfl,h⟩
def stepE{α:Type}(M:Nat)(rk:Bool->Nat->Nat->Rd3 α)(ws:List ByteArray)(r:Rd3 (Nd α))(p:UInt8):Rd3 (Nd α):=
 match r with
 | .error e=>.error e
 | .ok q=>stepR M rk ws p q.1 q.2.1 q.2.2
def foldE{α:Type}(M:Nat)(rk:Bool->Nat->Nat->Rd3 α)(ws:List ByteArray):List UInt8->Rd3 (Nd α)->Rd3 (Nd α)
 | [],r=>r
 | p :: ps,r=>foldE M rk ws ps (stepE M rk ws r p)
theorem qiR{α:Type}(M:Nat)(rk:Bool->Nat->Nat->Rd3 α)(ws:List ByteArray)(e:Er):∀ps,foldE M rk ws ps (.error e)=.error e:=by
 intro ps
 induction ps with
 | nil=>rfl
 | cons p ps ih=>exact ih
theorem qiS{α:Type}(M:Nat)(rk:Bool->Nat->Nat->Rd3 α)(ws:List ByteArray):∀(ps qs:List UInt8)(r:Rd3 (Nd α)),foldE M rk ws (ps++qs) r=foldE M rk ws qs (foldE M rk ws ps r):=by
 intro ps
 induction ps with
 | nil=>intro qs r;rfl
 | cons p ps ih=>intro qs r;exact ih qs _
theorem quK{α:Type}(M:Nat)(rk:Bool->Nat->Nat->Rd3 α)(ws:List ByteArray):∀(ps:List UInt8)(n:Nd α)(a c:Nat),qcN M rk ws ps n a c=foldE M rk ws ps (.ok (n,a,c)):=by
 intro ps
 induction ps with
 | nil=>intro n a c;rfl
 | cons p ps ih=>
  intro n a c
  rw[qcN,foldE]
  show _=foldE M rk ws ps (stepR M rk ws p n a c)
  cases h:stepR M rk ws p n a c with
  | error e=>rw[qiR]
  | ok q=>exact ih _ _ _
theorem po_op(k:Nat)(h1:1<=k)(h2:k<44)(act:Bool):(poF (k:Int)=(if act=true then 65 else 86))↔act=decide ((36:Int)<=(k:Int)):=by
 rw[xbH (k:Int) ⟨by omega,by omega⟩]
 by_cases h:(36:Int)<=(k:Int)
 ·rw[if_pos h,decide_eq_true h];cases act<;>simp
 ·rw[if_neg h,decide_eq_false h];cases act<;>simp
theorem xbJ {α:Type} (M:Nat) (rk:Bool->Nat->Nat->Rd3 α) (ws:List ByteArray) (act:Bool) (d:Int) (a c k:Nat) (hk:opW (wordD ws a)=k) (h0:k≠0) (ha:act=decide ((36:Int)<=(k:Int))) :
  bodyR M rk ws act d a c=foldE M rk ws (prt k) (stE (k:Int) d a c):=by
 have b:=qwH (wordD ws a)
 rw[hk]at b
 have e:=(qpP (s:=wordD ws a) (by omega)).2.1
 unfold bodyR stE bnd
 by_cases hd:24<d
 ·simp only[if_pos hd];rw[if_neg (by decide),qiR]
 by_cases hc:200<=c
 ·simp only[if_neg hd,if_pos hc];rw[if_neg (by decide),qiR]
 simp only[if_neg hd,if_neg hc,if_true]
 cases hw:ws[a]? with
 | none=>rw[qbM hw,qpQ]at hk;exact absurd hk.symm h0
 | some s=>
  dsimp only
  rw[qdF hw]at hk e
  have f:opA M s=k:=by unfold opA;rw[if_neg (by omega),hk]
  rw[f,if_pos ((po_op k (by omega) b act).2 ha),if_neg (by omega)]
  exact quK _ _ _ _ _ _ _
theorem xbK {α:Type} (M:Nat) (rk:Bool->Nat->Nat->Rd3 α) (ws:List ByteArray) (d:Int) (a c:Nat) (l:Int × Int × ByteArray) (hl:leafW M (wordD ws a)=some l) :
  Got (bodyR M rk ws false d a c) ⟨l.1,l.2.1,l.2.2,[],[]⟩ (a+1) (c+1) (bnd d c) (bndA d a c):=by
 have b:=qwI hl
 have e:=qcU hl
 unfold bodyR bndA bnd
 by_cases hd:24<d
 ·simp only[if_pos hd];rw[if_neg (by decide)];exact⟨rfl,rfl,by decide⟩
 by_cases hc:200<=c
 ·simp only[if_neg hd,if_pos hc];rw[if_neg (by decide)];exact⟨rfl,rfl,by decide⟩
 simp only[if_neg hd,if_neg hc,if_true]
 cases hw:ws[a]? with
 | none=>rw[qbM hw,qxU]at hl;cases hl
 | some s=>
  dsimp only
  rw[qdF hw]at hl b
  obtain⟨k,h⟩:∃k:Nat,l.1=(k:Int):=⟨l.1.toNat,by omega⟩
  have f:opA M s=k:=by unfold opA;rw[if_pos b,hl];dsimp only;omega
  have g:prt k=[84]:=by
   have:k=1∨k=2∨k=3:=by omega
   rcases this with rfl|rfl|rfl<;>decide
  rw[f,if_pos ((po_op k (by omega) (by omega) false).2 (by simp;omega)),g,if_pos (by omega)]
  simp only[qcN,stepR,show ¬((84:UInt8)=86∨(84:UInt8)=65) by decide,show ¬((84:UInt8)=70) by decide,if_false,if_true,hw,hl]
  exact⟨by rw[h],rfl,rfl,rfl,rfl⟩
theorem xbL{s:ByteArray}(h:freeB s=true):opW s=0:=by
 simp only[freeB,Bool.and_eq_true,beq_iff_eq]at h
 exact h.1.1.1.2
theorem xbM {α:Type} (M:Nat) (rk:Bool->Nat->Nat->Rd3 α) (ws:List ByteArray) (d:Int) (a c:Nat) (hl:leafW M (wordD ws a)=none) (hf:freeB (wordD ws a)=true) :
  Got (bodyR M rk ws false d a c) ⟨4,0,ByteArray.empty,[wordD ws a],[]⟩ (a+1) (c+1) (bnd d c) (bndA d a c):=by
 have b:=xbL hf
 unfold bodyR bndA bnd
 by_cases hd:24<d
 ·simp only[if_pos hd];rw[if_neg (by decide)];exact⟨rfl,rfl,by decide⟩
 by_cases hc:200<=c
 ·simp only[if_neg hd,if_pos hc];rw[if_neg (by decide)];exact⟨rfl,rfl,by decide⟩
 simp only[if_neg hd,if_neg hc,if_true]
 cases hw:ws[a]? with
 | none=>rw[qbM hw,xbD]at hf;cases hf
 | some s=>
  dsimp only
  rw[qdF hw]at hl b hf ⊢
  have e:opA M s=4:=by unfold opA;rw[if_pos b,hl];dsimp only;rw[if_pos hf]
  rw[e,if_pos (by decide),show prt 4=[88] by decide,if_pos (by decide)]
  have f:qaY 88 s []=true:=by simp[qaY,hf]
  simp only[qcN,stepR,show ¬((88:UInt8)=86∨(88:UInt8)=65) by decide,show ¬((88:UInt8)=70) by decide,show ¬((88:UInt8)=84) by decide,show ¬((88:UInt8)=35) by decide,show ¬((88:UInt8)=75) by decide,if_false,if_true,hw,f]
  exact⟨rfl,rfl,rfl,rfl,rfl⟩
theorem xfZ {α:Type} (M:Nat) (rk:Bool->Nat->Nat->Rd3 α) (ws:List ByteArray) (act:Bool) (d:Int) (a c:Nat) (t:Nd α) (hv:act=false->leafW M (wordD ws a)=none/\freeB (wordD ws a)=false)
  (ho:opW (wordD ws a)=0∨act≠decide ((36:Int)<=(opW (wordD ws a):Int))):Got (bodyR M rk ws act d a c) t a (c+1) (ftC (bnd d c) 2) (ftA (bnd d c) (bndA d a c) a):=by
 unfold bodyR bndA bnd ftC ftA
 by_cases hd:24<d
 ·simp only[if_pos hd];rw[if_neg (by decide),if_neg (by decide),if_neg (by decide)];exact⟨rfl,rfl,by decide⟩
 by_cases hc:200<=c
 ·simp only[if_neg hd,if_pos hc];rw[if_neg (by decide),if_neg (by decide),if_neg (by decide)];exact⟨rfl,rfl,by decide⟩
 simp only[if_neg hd,if_neg hc,if_true]
 cases hw:ws[a]? with
 | none=>exact⟨rfl,rfl,by decide⟩
 | some s=>
  dsimp only
  rw[qdF hw]at hv ho
  have b:¬poF (opA M s:Int)=(if act=true then 65 else 86):=by
   unfold opA
   by_cases h0:opW s=0
   ·rw[if_pos h0]
    cases hl:leafW M s with
    | some l=>
     have f:=qcU hl
     dsimp only
     cases act with
     | false=>rw[(hv rfl).1]at hl;cases hl
     | true=>
      intro h
      have:=(po_op l.1.toNat (by omega) (by omega) true).1 h
      simp at this;omega
    | none=>
     dsimp only
     cases act with
     | false=>rw[(hv rfl).2];decide
     | true=>
      by_cases hf:freeB s=true
      ·rw[if_pos hf];decide
      ·rw[if_neg hf];decide
   ·rw[if_neg h0]
    have e:=qwH s
    intro h
    exact (ho.resolve_left h0) ((po_op (opW s) (by omega) e act).1 h)
  rw[if_neg b]
  exact⟨rfl,rfl,by decide⟩
theorem xgA {α:Type} (M:Nat) (rk:Bool->Nat->Nat->Rd3 α) (ws:List ByteArray) {r:Rd3 (Nd α)} {n:Nd α} {a c:Nat} {fc fa:Int} (h:Got r n a c fc fa) (p:UInt8) (free:Bool) (hp:(p=78/\free=false)∨(p=88/\free=true)) (unlike:ByteArray)
  (hu:fc=0->(n.names=[]/\unlike=⟨#[]⟩)∨(n.names=[unlike]/\p=88)) (x:ByteArray) :
  (qdY free unlike (wordD ws a)=true->Got (stepE M rk ws r p) ⟨n.sort,n.num,n.text,n.names++[wordD ws a],n.kids⟩ (a+1) c fc fa) /\
  (qdY free unlike (wordD ws a)=false->Got (stepE M rk ws r p) ⟨n.sort,n.num,n.text,n.names++[x],n.kids⟩ a c (ftC fc 2) (ftA fc fa a)):=by
 by_cases hf:fc=0
 case neg=>
  obtain⟨e,rfl,f,o⟩:=h.bad hf
  unfold ftC ftA
  rw[if_neg hf,if_neg hf]
  exact⟨fun _=>⟨f,o,hf⟩,fun _=>⟨f,o,hf⟩⟩
 subst hf
 obtain⟨rfl,rfl⟩:=h.zero
 have i:¬(p=86∨p=65):=by rcases hp with ⟨rfl,-⟩|⟨rfl,-⟩<;>decide
 have j:¬p=70:=by rcases hp with ⟨rfl,-⟩|⟨rfl,-⟩<;>decide
 have k:¬p=84:=by rcases hp with ⟨rfl,-⟩|⟨rfl,-⟩<;>decide
 have l:¬p=35:=by rcases hp with ⟨rfl,-⟩|⟨rfl,-⟩<;>decide
 have m:¬p=75:=by rcases hp with ⟨rfl,-⟩|⟨rfl,-⟩<;>decide
 have q:ftC 0 2=2:=rfl
 have t:ftA 0 0 (a:Int)=a:=rfl
 simp only[stepE,stepR,if_neg i,if_neg j,if_neg k,if_neg l,if_neg m,q,t]
 cases hw:ws[a]? with
 | none=>
  rw[qbM hw]
  refine⟨fun hg=>?_,fun _=>⟨rfl,rfl,by decide⟩⟩
  simp[qdY,qiQ]at hg
 | some s=>
  rw[qdF hw]
  dsimp only
  have d:qaY p s n.names=qdY free unlike s:=by
   have g:nameB s=true->(s==(⟨#[]⟩:ByteArray))=false:=fun b=>by
    cases hq:(s==(⟨#[]⟩:ByteArray)) with
    | false=>rfl
    | true=>rw[ba_eq hq,qiQ]at b;cases b
   rcases hp with ⟨rfl,rfl⟩|⟨rfl,rfl⟩
   ·rcases hu rfl with ⟨-,rfl⟩|⟨-,h⟩
    ·unfold qaY qdY
     rw[if_pos rfl]
     cases b:nameB s with
     | false=>rfl
     | true=>rw[g b];rfl
    ·exact absurd h (by decide)
   ·unfold qaY qdY
    rw[if_neg (by decide)]
    cases hfr:freeB s with
    | false=>simp
    | true=>
     have b:=qrS s hfr
     rcases hu rfl with ⟨f,rfl⟩|⟨f,-⟩
     ·rw[f,b,g b];rfl
     ·rw[f,b];simp
  rw[d]
  refine⟨fun hg=>?_,fun hg=>?_⟩
  ·rw[if_pos hg];exact Got.okk _ _ _
  ·rw[if_neg (by rw[hg];decide)];exact⟨rfl,rfl,by decide⟩
theorem qrT:kindB ⟨#[]⟩=false:=by
 have a:(qaM 8 []).isSome=false:=by decide
 unfold kindB
 cases h:readK ((⟨#[]⟩:ByteArray).size+8) ⟨#[]⟩ with
 | none=>rfl
 | some q=>
  exfalso
  unfold readK at h
  split at h
  ·split at h
   ·rename_i k hk
    have b:qaM 8 []=some (k,[]):=hk
    rw[b]at a
    cases a
   ·cases h
  ·cases h
theorem xgB {α:Type} (M:Nat) (rk:Bool->Nat->Nat->Rd3 α) (ws:List ByteArray) {r:Rd3 (Nd α)} {n:Nd α} {a c:Nat} {fc fa:Int} (h:Got r n a c fc fa) (x:ByteArray) :
  (kindB (wordD ws a)=true->Got (stepE M rk ws r 75) ⟨n.sort,n.num,wordD ws a,n.names,n.kids⟩ (a+1) c fc fa) /\
  (kindB (wordD ws a)=false->Got (stepE M rk ws r 75) ⟨n.sort,n.num,x,n.names,n.kids⟩ (a+1) c (ftC fc 2) (ftA fc fa a)):=by
 by_cases hf:fc=0
 case neg=>
  obtain⟨e,rfl,b,d⟩:=h.bad hf
  unfold ftC ftA
  rw[if_neg hf,if_neg hf]
  exact⟨fun _=>⟨b,d,hf⟩,fun _=>⟨b,d,hf⟩⟩
 subst hf
 obtain⟨rfl,rfl⟩:=h.zero
 have f:ftC 0 2=2:=rfl
 have g:ftA 0 0 (a:Int)=a:=rfl
 simp only[stepE,stepR,show ¬((75:UInt8)=86∨(75:UInt8)=65) by decide,show ¬((75:UInt8)=70) by decide,show ¬((75:UInt8)=84) by decide,show ¬((75:UInt8)=35) by decide,if_false,if_true,f,g]
 cases hw:ws[a]? with
 | none=>
  rw[qbM hw,qrT]
  exact⟨fun hg=>(by cases hg),fun _=>⟨rfl,rfl,by decide⟩⟩
 | some s=>
  rw[qdF hw]
  dsimp only
  refine⟨fun hg=>?_,fun hg=>?_⟩
  ·rw[if_pos hg];exact Got.okk _ _ _
  ·rw[if_neg (by rw[hg];decide)];exact⟨rfl,rfl,by decide⟩
theorem qwK(M:Nat)(s:ByteArray)(hs:s.size<=3000):(∃t:T (M+1),readT (M+1) s=some t/\Nd.sort t=1/\numOf s.data.toList=some (Nd.num t))∨((∀t:T (M+1),readT (M+1) s=some t->Nd.sort t≠1)/\numOf s.data.toList=none):=by
 cases hn:numOf s.data.toList with
 | some v=>
  obtain⟨g,h⟩:=qdN hn
  refine .inl ⟨(⟨1,v,ByteArray.empty,[],[]⟩:Nd (T M)),?_,rfl,rfl⟩
  refine qwG (by omega) ?_ ?_
  ·have e:goodT (M+1) (⟨1,v,ByteArray.empty,[],[]⟩:Nd (T M)) 1=true:=by
    show (decide ((1:Int)<=6) && qaO 1 v ByteArray.empty [] 0 && List.all ([]:List (T M)) _)=_
    simp[qaO,g]
   have f:cntT (M+1) (⟨1,v,ByteArray.empty,[],[]⟩:Nd (T M))=1:=rfl
   simp only[okT,e,f];rfl
  ·show (if (1:Int)=1 then Lib.itoa v else _)=_
   rw[if_pos rfl];exact h
 | none=>
  refine .inr ⟨fun t ht h1=>?_,rfl⟩
  obtain⟨-,i,b⟩:=qeV ht
  have d:=qcU (M:=M) (s:=s) (l:=(Nd.sort t,Nd.num t,Nd.text t)) (by unfold leafW;rw[ht];dsimp only;rw[if_pos (by omega)])
  have c:=d.2.2
  dsimp only at c
  rw[h1]at c
  simp only[qaO,if_true,Bool.and_eq_true,decide_eq_true_eq]at c
  rw[txtL,if_pos h1]at b
  have:=qjU (Nd.num t) c.1.1.1
  rw[b,hn]at this
  cases this
theorem xiN {α:Type} (M:Nat) (rk:Bool->Nat->Nat->Rd3 α) (ws:List ByteArray) {r:Rd3 (Nd α)} {n:Nd α} {a c:Nat} {fc fa:Int} (h:Got r n a c fc fa) (low high:Int) (hlo:lst n.sort.toNat=low) (hhi:mst n.sort.toNat=high) (x:Int) :
  (∀v,numOf (wordD ws a).data.toList=some v->low<=v/\v<=high->Got (stepE M rk ws r 35) ⟨n.sort,v,n.text,n.names,n.kids⟩ (a+1) c fc fa) /\
  ((∀v,numOf (wordD ws a).data.toList=some v->¬(low<=v/\v<=high))->Got (stepE M rk ws r 35) ⟨n.sort,x,n.text,n.names,n.kids⟩ a c (ftC fc 2) (ftA fc fa a)):=by
 by_cases hf:fc=0
 case neg=>
  obtain⟨e,rfl,d,b⟩:=h.bad hf
  unfold ftC ftA
  rw[if_neg hf,if_neg hf]
  exact⟨fun _ _ _=>⟨d,b,hf⟩,fun _=>⟨d,b,hf⟩⟩
 subst hf
 obtain⟨rfl,rfl⟩:=h.zero
 have f:ftC 0 2=2:=rfl
 have g:ftA 0 0 (a:Int)=a:=rfl
 simp only[stepE,stepR,show ¬((35:UInt8)=86∨(35:UInt8)=65) by decide,show ¬((35:UInt8)=70) by decide,show ¬((35:UInt8)=84) by decide,if_false,if_true,f,g,hlo,hhi]
 cases hw:ws[a]? with
 | none=>
  rw[qbM hw]
  refine⟨fun v hv _=>?_,fun _=>⟨rfl,rfl,by decide⟩⟩
  have b:=(qdN hv).2
  have:=qdE (s:=⟨#[]⟩) (i:=0) (k:=v) (post:=[]) (by rw[b];rfl)
  exact absurd this (by decide)
 | some s=>
  rw[qdF hw]
  dsimp only
  cases hn:numOf s.data.toList with
  | none=>exact⟨fun v hv=>(by cases hv),fun _=>⟨rfl,rfl,by decide⟩⟩
  | some v=>
   dsimp only
   refine⟨fun v' hv hr=>?_,fun hr=>?_⟩
   ·obtain rfl:=Option.some.inj hv
    rw[if_pos hr];exact Got.okk _ _ _
   ·rw[if_neg (hr v rfl)];exact⟨rfl,rfl,by decide⟩
theorem xiO {α:Type} (M:Nat) (rk:Bool->Nat->Nat->Rd3 α) (ws:List ByteArray) {r:Rd3 (Nd α)} {n:Nd α} {a c:Nat} {fa:Int} (h:Got r n a c 0 fa) (p:UInt8) (hp:p=86∨p=65) {t:α} {a' c':Nat} {fc' fa':Int} (hk:Got (rk (p==65) a c) t a' c' fc' fa') :
  Got (stepE M rk ws r p) ⟨n.sort,n.num,n.text,n.names,n.kids++[t]⟩ a' c' fc' fa':=by
 obtain⟨rfl,-⟩:=h.zero
 simp only[stepE,stepR,if_pos hp]
 cases hr:rk (p==65) a c with
 | error e=>rw[hr]at hk;exact hk
 | ok q=>
  rw[hr]at hk
  obtain⟨rfl,rfl,rfl,rfl,rfl⟩:=hk
  exact Got.okk _ _ _
theorem xgC{α:Type}(M:Nat)(rk:Bool->Nat->Nat->Rd3 α)(ws:List ByteArray){r:Rd3 (Nd α)}{n n':Nd α}{a c a' c':Nat}{fc fa:Int}(h:Got r n a c fc fa)(hf:fc≠0)(ps:List UInt8):Got (foldE M rk ws ps r) n' a' c' fc fa:=by
 obtain⟨e,rfl,b,d⟩:=h.bad hf
 rw[qiR]
 exact⟨b,d,hf⟩
set_option maxRecDepth 100000
set_option maxHeartbeats 16000000
structure Prs(w:World)(P:Nat)(wv:Value)(ws:List ByteArray)(a c:Nat)(fc fa:Int):Prop where
 box:w.heap[P]?=some (.cells #[wv,.int .i64 (a:Int),.int .i64 (c:Int),.int .i64 fc,.int .i64 fa] 37 (0,0))
 words:StrsIn (fun b=>b<w.heap.size/\b≠P) w ws wv
 short:∀s,s∈ws->s.size<=3000
 few:ws.length<=3000
theorem Prs.lt{w:World}{P:Nat}{wv:Value}{ws:List ByteArray}{a c:Nat}{fc fa:Int}(h:Prs w P wv ws a c fc fa):P<w.heap.size:=(Array.getElem?_eq_some_iff.1 h.box).1
theorem Prs.keep {w w':World} {P:Nat} {wv:Value} {ws:List ByteArray} {a c a' c':Nat} {fc fa fc' fa':Int} (h:Prs w P wv ws a c fc fa) (hn:Near P w w')
  (hb:w'.heap[P]?=some (.cells #[wv,.int .i64 (a':Int),.int .i64 (c':Int),.int .i64 fc',.int .i64 fa'] 37 (0,0))):Prs w' P wv ws a' c' fc' fa':=
 ⟨hb,h.words.keep (fun b hb=>hn.block b hb.1 hb.2) (fun _ hb=>⟨Nat.lt_of_lt_of_le hb.1 hn.size,hb.2⟩),h.short,h.few⟩
theorem Prs.same{w w':World}{P:Nat}{wv:Value}{ws:List ByteArray}{a c:Nat}{fc fa:Int}(h:Prs w P wv ws a c fc fa)(hb:Below w.heap.size w w'):Prs w' P wv ws a c fc fa:=h.keep (Near.of_below hb) ((hb.block P h.lt).trans h.box)
theorem Prs.drewN{w:World}{P:Nat}{wv:Value}{ws:List ByteArray}{a c:Nat}{fc fa:Int}(h:Prs w P wv ws a c fc fa)(n:Nat):Prs (w.drewN n) P wv ws a c fc fa:=⟨h.box,h.words,h.short,h.few⟩
theorem Prs.cells {w:World} {P:Nat} {wv:Value} {ws:List ByteArray} {a c:Nat} {fc fa:Int} (h:Prs w P wv ws a c fc fa) :
  (w.cell? ⟨P,0,none⟩=some wv/\w.cell? ⟨P,1,none⟩=some (.int .i64 (a:Int))/\w.cell? ⟨P,2,none⟩=some (.int .i64 (c:Int))/\w.cell? ⟨P,3,none⟩=some (.int .i64 fc)/\w.cell? ⟨P,4,none⟩=some (.int .i64 fa))/\∀o,w.frozen? ⟨P,o,none⟩=false:=by
 have b:=h.box
 refine⟨⟨?_,?_,?_,?_,?_⟩,fun o=>?_⟩<;>simp[World.cell?,World.frozen?,b]
theorem Prs.setAt{w:World}{P:Nat}{wv:Value}{ws:List ByteArray}{a c:Nat}{fc fa:Int}(h:Prs w P wv ws a c fc fa)(j:Nat):Prs (w.setCell ⟨P,1,none⟩ (.int .i64 (j:Int))) P wv ws j c fc fa:=
 h.keep (Near.set P 1 w _) (by simp[World.setCell,Array.getElem?_modify,h.box])
theorem Prs.setNo{w:World}{P:Nat}{wv:Value}{ws:List ByteArray}{a c:Nat}{fc fa:Int}(h:Prs w P wv ws a c fc fa)(j:Nat):Prs (w.setCell ⟨P,2,none⟩ (.int .i64 (j:Int))) P wv ws a j fc fa:=
 h.keep (Near.set P 2 w _) (by simp[World.setCell,Array.getElem?_modify,h.box])
theorem Prs.setFt{w:World}{P:Nat}{wv:Value}{ws:List ByteArray}{a c:Nat}{fc fa:Int}(h:Prs w P wv ws a c fc fa)(x y:Int):Prs ((w.setCell ⟨P,3,none⟩ (.int .i64 x)).setCell ⟨P,4,none⟩ (.int .i64 y)) P wv ws a c x y:=
 h.keep ((Near.set P 3 w _).trans (Near.set P 4 _ _)) (by simp[World.setCell,Array.getElem?_modify,h.box])
theorem qbG{P:Nat}{w w':World}(h:Near P w w')(n:Nat):Near P w (w'.drewN n):=⟨h.os,h.tape,h.output,h.size,h.block⟩
def PPost(P:Nat)(wv:Value)(ws:List ByteArray)(a c:Nat)(fc fa:Int)(w w':World):Prop:=Near P w w' /\ Prs w' P wv ws a c fc fa
theorem qdB {w:World} {P:Nat} {wv:Value} {ws:List ByteArray} {a c:Nat} {fc fa:Int} (h:Prs w P wv ws a c fc fa) (code:Int) :
  Calls prog 12 #[.pointer (some ⟨P,0,none⟩),.int .i64 code] w fun e w'=>e=.returned (.tuple #[])/\PPost P wv ws a c (ftC fc code) (ftA fc fa a) w w':=by
 obtain⟨⟨c0,c1,c2,c3,c4⟩,b⟩:=h.cells
 have g:=b 3
 have i:=b 4
 by_cases h0:fc=0
 ·subst h0
  have d:Hid (PPost P wv ws a c (ftC 0 code) (ftA 0 fa a) w ((w.setCell ⟨P,3,none⟩ (.int .i64 code)).setCell ⟨P,4,none⟩ (.int .i64 (a:Int)))):=⟨(Near.set P 3 w _).trans (Near.set P 4 _ _),h.setFt code a⟩
  clear h b
  go_enter func12,ntmps12
  go_wp2_with fail
  go_end0
  exact⟨rfl,d.out⟩
 ·have f:(fc==0)=false:=by simp[h0]
  have d:Hid (PPost P wv ws a c (ftC fc code) (ftA fc fa a) w w):=⟨Near.refl P w,by unfold ftC ftA;rw[if_neg h0,if_neg h0];exact h⟩
  clear h b
  go_enter func12,ntmps12
  go_wp2_with fail
  go_end0
  exact⟨rfl,d.out⟩
theorem qfC {w:World} {P:Nat} {wv:Value} {ws:List ByteArray} {a c:Nat} {fc fa:Int} (h:Prs w P wv ws a c fc fa) :
  Calls prog 21 #[.pointer (some ⟨P,0,none⟩)] w fun e w'=>e=.returned (.string (wordD ws a))/\∃n,w'=w.drewN n:=by
 obtain⟨⟨c0,c1,c2,c3,c4⟩,-⟩:=h.cells
 obtain⟨r,cap,rfl,j,-,m⟩:=h.words
 have g:=h.few
 by_cases hlt:a<ws.length
 ·obtain⟨b,q,rfl,-,o⟩:=m (by intro e;rw[e]at hlt;simp at hlt)
  have p:=o a hlt
  have k:Hid (wordD ws a=ws[a]):=qdF (List.getElem?_eq_getElem hlt)
  generalize ws[a]=s at *
  obtain⟨f,d⟩:∃f,ws.length=f:=⟨_,rfl⟩
  rw[d]at hlt c0 g
  have l:(a:Int)<(f:Int):=by omega
  have i:decide ((a:Int)<(f:Int))=true:=decide_eq_true (by omega)
  rw[k.out]
  clear h d o m j
  go_enter func21,ntmps21
  go_wp2_with fail
  go_quiet (fail)
  go_wp2_with fail
  go_quiet (fail)
  go_wp2_with fail
  go_ret
  exact⟨rfl,_,World.drewN_drewN ..⟩
 ·have k:Hid (wordD ws a=⟨#[]⟩):=qbM (List.getElem?_eq_none (by omega))
  obtain⟨f,d⟩:∃f,ws.length=f:=⟨_,rfl⟩
  rw[d]at hlt c0 g
  have l:¬(a:Int)<(f:Int):=by omega
  have i:decide ((a:Int)<(f:Int))=false:=decide_eq_false (by omega)
  rw[k.out]
  clear h d m j
  go_enter func21,ntmps21
  go_wp2_with fail
  go_quiet (fail)
  go_wp2_with fail
  go_ret
  exact⟨rfl,_,rfl⟩
theorem Tryz.zeroReader:Tryz.zeroCells165.toList=Value.string ⟨#[]⟩ :: Value.int .i64 0 :: List.replicate 256 Value.nilFunc:=by kernel_rfl
def newF(s:ByteArray)(j:Nat):Value:=if j=0 then .string s else if j=1 then .int .i64 0 else .nilFunc
theorem xjG(s:ByteArray)(w:World):(w.alloc (.cells ((Tryz.zeroCells165.setIfInBounds 0 (.string s)).setIfInBounds 1 (.int .i64 0)) 165)).rowIs w.heap.size 165 258 (newF s):=by
 have b:=Tryz.zeroCells165_size
 have d:=Tryz.zeroReader
 generalize Tryz.zeroCells165=z at *
 have a:((z.setIfInBounds 0 (.string s)).setIfInBounds 1 (.int .i64 0)).size=258:=by simp[b]
 have:=World.rowIs_alloc w ((z.setIfInBounds 0 (.string s)).setIfInBounds 1 (.int .i64 0)) 165 (newF s) (fun i hi=>by
  rw[a]at hi
  unfold newF
  by_cases h0:i=0
  ·subst h0;simp[b]
  by_cases h1:i=1
  ·subst h1;simp[b]
  rw[if_neg h0,if_neg h1]
  have c:z[i]?=some .nilFunc:=by
   rw[<- Array.getElem?_toList,d]
   obtain⟨k,rfl⟩:∃k,i=k+2:=⟨i-2,by omega⟩
   simp only[List.getElem?_cons_succ]
   rw[List.getElem?_replicate,if_pos (by omega)]
  rw[Array.getElem?_setIfInBounds_ne (by omega),Array.getElem?_setIfInBounds_ne (by omega)]
  exact c)
 rw[a]at this
 exact this
def methN(R n:Nat):Value:=
 if (48<=n/\n<=57)∨n=45 then .func (.func 127) #[.pointer (some ⟨R,0,none⟩)] #[]
 else if n=34 then .func (.func 130) #[.pointer (some ⟨R,0,none⟩)] #[]
 else if n=121∨n=110 then .func (.func 128) #[.pointer (some ⟨R,0,none⟩)] #[]
 else if n=91 then .func (.func 131) #[.pointer (some ⟨R,0,none⟩)] #[]
 else if n=123 then .func (.func 132) #[.pointer (some ⟨R,0,none⟩)] #[]
 else if n=126∨n=63 then .func (.func 129) #[.pointer (some ⟨R,0,none⟩)] #[]
 else .nilFunc
theorem xdQ(R:Nat)(c:UInt8):methV R c=methN R c.toNat:=by
 have e:∀k:UInt8,(c=k)=(c.toNat=k.toNat):=fun k=>propext UInt8.toNat_inj.symm
 have d:(digC c=true)=(48<=c.toNat/\c.toNat<=57):=by
  unfold digC
  rw[decide_eq_true_eq]
  exact propext ⟨fun h=>⟨by omega,by omega⟩,fun h=>⟨by omega,by omega⟩⟩
 unfold methV methN
 simp only[e,d]
 rfl
theorem quV{w:World}{R:Nat}{t:TypeId}{F:Nat->Value}(h:w.rowIs R t 258 F)(hF:∀n,n<256->F (2+n)=methN R n):Meth w R:=fun c=>by
 have hc:=c.toNat_lt
 rw[h.cell (by omega),hF _ (by omega),xdQ]
def digF(s:ByteArray)(R k:Nat)(j:Nat):Value:=if 50<=j/\j<2+k then .func (.func 127) #[.pointer (some ⟨R,0,none⟩)] #[] else newF s j
def finW(wr:World)(R:Nat)(vn vq vf vl vo vm:Value):World:=((((((((wr.setCell ⟨R,47,none⟩ vn).setCell ⟨R,36,none⟩ vq).setCell ⟨R,123,none⟩ vf).setCell ⟨R,112,none⟩ vf).setCell ⟨R,93,none⟩ vl).setCell ⟨R,125,none⟩ vo).setCell ⟨R,128,none⟩ vm).setCell ⟨R,65,none⟩ vm)
theorem xjH{wr:World}{R:Nat}{t:TypeId}{F:Nat->Value}(h:wr.rowIs R t 258 F)(vn vq vf vl vo vm:Value):(finW wr R vn vq vf vl vo vm).rowIs R t 258 (fun j=>if j=65 then vm else if j=128 then vm else if j=125 then vo else if j=93 then vl else if j=112 then vf else if j=123 then vf else if j=36 then vq else if j=47 then vn else F j):=((((((((h.set 47 vn).set 36 vq).set 123 vf).set 112 vf).set 93 vl).set 125 vo).set 128 vm).set 65 vm)
theorem xdR{w wr:World}(hb:Below w.heap.size w wr)(vn vq vf vl vo vm:Value):Below w.heap.size w (finW wr w.heap.size vn vq vf vl vo vm):=by
 have R:Nat:=w.heap.size
 exact ((((((((hb.setCell (Nat.le_refl _) _).setCell (Nat.le_refl _) _).setCell (Nat.le_refl _) _).setCell (Nat.le_refl _) _).setCell (Nat.le_refl _) _).setCell (Nat.le_refl _) _).setCell (Nat.le_refl _) _).setCell (Nat.le_refl _) _)
theorem fin_eq(n:Nat)(vn vq vf vl vo vm z:Value):(if 2+n=65 then vm else if 2+n=128 then vm else if 2+n=125 then vo else if 2+n=93 then vl else if 2+n=112 then vf else if 2+n=123 then vf else if 2+n=36 then vq else if 2+n=47 then vn else if 50<=2+n/\2+n<2+58 then vn else z)=(if (48<=n/\n<=57)∨n=45 then vn else if n=34 then vq else if n=121∨n=110 then vf else if n=91 then vl else if n=123 then vo else if n=126∨n=63 then vm else z):=by
 by_cases h1:n=63
 ·subst h1;rfl
 by_cases h2:n=126
 ·subst h2;rfl
 by_cases h3:n=123
 ·subst h3;rfl
 by_cases h4:n=91
 ·subst h4;rfl
 by_cases h5:n=110
 ·subst h5;rfl
 by_cases h6:n=121
 ·subst h6;rfl
 by_cases h7:n=34
 ·subst h7;rfl
 by_cases h8:n=45
 ·subst h8;rfl
 rw[if_neg (by omega),if_neg (by omega),if_neg (by omega),if_neg (by omega),if_neg (by omega),if_neg (by omega),if_neg (by omega),if_neg (by omega)]
 by_cases h9:48<=n/\n<=57
 ·rw[if_pos (by omega),if_pos (.inl h9)]
 ·rw[if_neg (by omega),if_neg (by omega),if_neg h7,if_neg (by omega),if_neg h4,if_neg h3,if_neg (by omega)]
theorem fin_ok {s:ByteArray} {w wr:World} {R:Nat} (hR:R=w.heap.size) (hb:Below w.heap.size w wr) (hr:wr.rowIs R 165 258 (digF s R 58)) :
  (fun W=>Below w.heap.size w W/\Sc W R s 0/\Meth W R) (finW wr R (.func (.func 127) #[.pointer (some ⟨R,0,none⟩)] #[]) (.func (.func 130) #[.pointer (some ⟨R,0,none⟩)] #[]) (.func (.func 128) #[.pointer (some ⟨R,0,none⟩)] #[])
   (.func (.func 131) #[.pointer (some ⟨R,0,none⟩)] #[]) (.func (.func 132) #[.pointer (some ⟨R,0,none⟩)] #[]) (.func (.func 129) #[.pointer (some ⟨R,0,none⟩)] #[])):=by
 have a:=xjH hr (.func (.func 127) #[.pointer (some ⟨R,0,none⟩)] #[]) (.func (.func 130) #[.pointer (some ⟨R,0,none⟩)] #[]) (.func (.func 128) #[.pointer (some ⟨R,0,none⟩)] #[])
   (.func (.func 131) #[.pointer (some ⟨R,0,none⟩)] #[]) (.func (.func 132) #[.pointer (some ⟨R,0,none⟩)] #[]) (.func (.func 129) #[.pointer (some ⟨R,0,none⟩)] #[])
 refine⟨?_,⟨?_,?_,a.frozen 1⟩,quV a fun n hn=>?_⟩
 ·subst hR
  exact xdR hb _ _ _ _ _ _
 ·have:=a.cell (i:=0) (by omega)
  rw[this];rfl
 ·have:=a.cell (i:=1) (by omega)
  rw[this];rfl
 ·have b:newF s (2+n)=.nilFunc:=by unfold newF;rw[if_neg (by omega),if_neg (by omega)]
  show (if 2+n=65 then (.func (.func 129) #[.pointer (some ⟨R,0,none⟩)] #[]:Value) else if 2+n=128 then (.func (.func 129) #[.pointer (some ⟨R,0,none⟩)] #[]:Value) else if 2+n=125 then (.func (.func 132) #[.pointer (some ⟨R,0,none⟩)] #[]:Value) else if 2+n=93 then (.func (.func 131) #[.pointer (some ⟨R,0,none⟩)] #[]:Value) else if 2+n=112 then (.func (.func 128) #[.pointer (some ⟨R,0,none⟩)] #[]:Value) else if 2+n=123 then (.func (.func 128) #[.pointer (some ⟨R,0,none⟩)] #[]:Value) else if 2+n=36 then (.func (.func 130) #[.pointer (some ⟨R,0,none⟩)] #[]:Value) else if 2+n=47 then (.func (.func 127) #[.pointer (some ⟨R,0,none⟩)] #[]:Value) else if 50<=2+n/\2+n<2+58 then (.func (.func 127) #[.pointer (some ⟨R,0,none⟩)] #[]:Value) else newF s (2+n))=_
  rw[b]
  exact fin_eq n _ _ _ _ _ _ _
theorem xgV{B R:Nat}{w W:World}{s:ByteArray}(h:Below B w W/\Sc W R s 0/\Meth W R):Below B w W.drew.drew/\Sc W.drew.drew R s 0/\Meth W.drew.drew R:=
 ⟨h.1.drew.drew,⟨h.2.1.c0,h.2.1.c1,h.2.1.f1⟩,fun c=>h.2.2 c⟩
theorem qkA (s:ByteArray) (w:World) :
  Calls prog 102 #[.string s] w fun e w'=>e=.returned (.pointer (some ⟨w.heap.size,0,none⟩))/\Below w.heap.size w w' /\ Sc w' w.heap.size s 0/\Meth w' w.heap.size:=by
 have t:∀(fn:Fn)(first cap:Array Value)(w:World),(Instr.makeFunc fn first cap).run prog w=.ok (.func fn first cap) w:=fun _ _ _ _=>rfl
 have u:∀(a:Addr)(md:Mode)(fn:Fn)(first cap:Array Value)(w:World),(store a (.func fn first cap) md).run prog w=stored prog w a (.func fn first cap) md:=fun a md _ _ _ w=>run_store _ w a _ md rfl
 have g:Hid (World.rowIs _ w.heap.size 165 258 (newF s)):=xjG s w
 have h:Hid (Below w.heap.size w (w.alloc (.cells ((Tryz.zeroCells165.setIfInBounds 0 (.string s)).setIfInBounds 1 (.int .i64 0)) 165))):=(Below.refl _ _).alloc (Nat.le_refl _) _
 go_enter func102,ntmps102
 go_upto_region 4 with fail
 generalize (w.alloc (.cells ((Tryz.zeroCells165.setIfInBounds 0 (.string s)).setIfInBounds 1 (.int .i64 0)) 165))=W at *
 go_loopw [7] (fun d wr=>∃k:Nat,48<=k/\k<=58/\d=.int .i32 (k:Int)/\Below w.heap.size w wr/\wr.rowIs w.heap.size 165 258 (digF s w.heap.size k)) (fun d _=>58-(intOf d).toNat)
 case atStart=>exact⟨48,by omega,by omega,rfl,h.out,g.out.congr (fun j _=>by unfold digF;rw[if_neg (by omega)])⟩
 case round=>
  obtain⟨k,y,z,rfl,q,f⟩:=hrel
  have m:Hid (wr.rowIs w.heap.size 165 258 (digF s w.heap.size k)):=f
  have n:Hid (Below w.heap.size w wr):=q
  clear g h
  by_cases hlt:k<=57
  ·have p:(k:Int)<=57:=by omega
   have A:IntKind.i32.wrap ((k:Int)+1)=(k:Int)+1:=by rw[IntKind.wrap_i32];omega
   have b:=f.cell (i:=2+k) (by omega)
   have c:=f.frozen (2+k)
   clear f q
   go_wp2_with fail
   go_roundw
   case rel=>
    refine⟨k+1,by omega,by omega,by go_num,n.out.setCell (Nat.le_refl _) _,(m.out.set (2+k) _).congr (fun j _=>?_)⟩
    unfold digF
    by_cases hj:j=2+k
    ·rw[if_pos hj,if_pos (by omega)]
    ·rw[if_neg hj]
     by_cases hj2:50<=j/\j<2+k
     ·rw[if_pos hj2,if_pos (by omega)]
     ·rw[if_neg hj2,if_neg (by omega)]
   case measure=>simp[intOf];omega
  ·have x:k=58:=by omega
   subst x
   have p:¬(58:Int)<=57:=by omega
   have b:∀o,o<258->∃v,wr.cell? ⟨w.heap.size,o,none⟩=some v:=fun o ho=>⟨_,f.cell ho⟩
   have c:=f.frozen
   obtain⟨J,K⟩:=b 47 (by omega)
   obtain⟨v2,a2⟩:=b 36 (by omega)
   obtain⟨v3,a3⟩:=b 123 (by omega)
   obtain⟨v4,a4⟩:=b 112 (by omega)
   obtain⟨v5,a5⟩:=b 93 (by omega)
   obtain⟨L,M⟩:=b 125 (by omega)
   obtain⟨N,O⟩:=b 128 (by omega)
   obtain⟨P,Q⟩:=b 65 (by omega)
   have B:=c 47
   have C:=c 36
   have D:=c 123
   have E:=c 112
   have F:=c 93
   have G:=c 125
   have H:=c 128
   have I:=c 65
   have l:Hid (Below w.heap.size w ((((((((wr.setCell ⟨w.heap.size,47,none⟩ (.func (.func 127) #[.pointer (some ⟨w.heap.size,0,none⟩)] #[])).setCell ⟨w.heap.size,36,none⟩ (.func (.func 130) #[.pointer (some ⟨w.heap.size,0,none⟩)] #[])).setCell ⟨w.heap.size,123,none⟩ (.func (.func 128) #[.pointer (some ⟨w.heap.size,0,none⟩)] #[])).setCell ⟨w.heap.size,112,none⟩ (.func (.func 128) #[.pointer (some ⟨w.heap.size,0,none⟩)] #[])).setCell ⟨w.heap.size,93,none⟩ (.func (.func 131) #[.pointer (some ⟨w.heap.size,0,none⟩)] #[])).setCell ⟨w.heap.size,125,none⟩ (.func (.func 132) #[.pointer (some ⟨w.heap.size,0,none⟩)] #[])).setCell ⟨w.heap.size,128,none⟩ (.func (.func 129) #[.pointer (some ⟨w.heap.size,0,none⟩)] #[])).setCell ⟨w.heap.size,65,none⟩ (.func (.func 129) #[.pointer (some ⟨w.heap.size,0,none⟩)] #[]))/\Sc ((((((((wr.setCell ⟨w.heap.size,47,none⟩ (.func (.func 127) #[.pointer (some ⟨w.heap.size,0,none⟩)] #[])).setCell ⟨w.heap.size,36,none⟩ (.func (.func 130) #[.pointer (some ⟨w.heap.size,0,none⟩)] #[])).setCell ⟨w.heap.size,123,none⟩ (.func (.func 128) #[.pointer (some ⟨w.heap.size,0,none⟩)] #[])).setCell ⟨w.heap.size,112,none⟩ (.func (.func 128) #[.pointer (some ⟨w.heap.size,0,none⟩)] #[])).setCell ⟨w.heap.size,93,none⟩ (.func (.func 131) #[.pointer (some ⟨w.heap.size,0,none⟩)] #[])).setCell ⟨w.heap.size,125,none⟩ (.func (.func 132) #[.pointer (some ⟨w.heap.size,0,none⟩)] #[])).setCell ⟨w.heap.size,128,none⟩ (.func (.func 129) #[.pointer (some ⟨w.heap.size,0,none⟩)] #[])).setCell ⟨w.heap.size,65,none⟩ (.func (.func 129) #[.pointer (some ⟨w.heap.size,0,none⟩)] #[])) w.heap.size s 0/\Meth ((((((((wr.setCell ⟨w.heap.size,47,none⟩ (.func (.func 127) #[.pointer (some ⟨w.heap.size,0,none⟩)] #[])).setCell ⟨w.heap.size,36,none⟩ (.func (.func 130) #[.pointer (some ⟨w.heap.size,0,none⟩)] #[])).setCell ⟨w.heap.size,123,none⟩ (.func (.func 128) #[.pointer (some ⟨w.heap.size,0,none⟩)] #[])).setCell ⟨w.heap.size,112,none⟩ (.func (.func 128) #[.pointer (some ⟨w.heap.size,0,none⟩)] #[])).setCell ⟨w.heap.size,93,none⟩ (.func (.func 131) #[.pointer (some ⟨w.heap.size,0,none⟩)] #[])).setCell ⟨w.heap.size,125,none⟩ (.func (.func 132) #[.pointer (some ⟨w.heap.size,0,none⟩)] #[])).setCell ⟨w.heap.size,128,none⟩ (.func (.func 129) #[.pointer (some ⟨w.heap.size,0,none⟩)] #[])).setCell ⟨w.heap.size,65,none⟩ (.func (.func 129) #[.pointer (some ⟨w.heap.size,0,none⟩)] #[])) w.heap.size):=by
    have r:=fin_ok (s:=s) (w:=w) (wr:=wr) (R:=w.heap.size) rfl n.out m.out
    unfold finW at r
    exact r
   clear b c f q n m
   go_wp2_with fail
   go_region
   all_goals go_wp2_with fail
   all_goals go_region
   all_goals go_wp2_with fail
   all_goals
    go_ret
    exact⟨rfl,xgV l.out⟩
def qfI(m:Nat)(t:T m)(ok:Bool)(w:World)(e:Ending)(w':World):Prop:=
 Below w.heap.size w w' /\ ∃c0 c1 c2 c3 c4 L3 L4,e=.returned (.tuple #[.agg #[c0,c1,c2,c3,c4],.bool ok])/\TreeIn (fun b=>w.heap.size<=b/\b<w'.heap.size) w' m t c0 c1 c2 c3 c4 /\
  SpN w' c3 L3/\SpR w' (m-1) c4 L4/\Own (fun b=>w.heap.size<=b/\b<w'.heap.size) (L3++L4)/\(L3++L4).length<=1000
theorem qiA{m:Nat}{s:ByteArray}{w w':World}(h:readT (m+1) s=none)(hb:Below w.heap.size w w'):qfI (m+1) (ansU m s) (okU m s) w (.returned (.tuple #[.agg #[.int .i64 0,.int .i64 0,.string ⟨#[]⟩,.slice none 0 0,.slice none 0 0],.bool false])) w':=by
 obtain⟨a,b⟩:=qlV h
 rw[a,b]
 exact⟨hb,_,_,_,_,_,[],[],rfl,qdV _ _ m 0 0 _ rfl rfl (by decide),SpN.no _,SpR.no _ _,Own.nil _,by simp⟩
theorem qjG (s:ByteArray) (m B:Nat) (hm:s.size<=m) (hs:s.size<=1048576) (w:World) (hL:LaidU B w) (hB:B<=w.heap.size) :
  Calls prog 83 #[.string s] w (qfI (m+1) (ansU m s) (okU m s) w):=by
 obtain⟨W1,C⟩:∃W1,W1=w.alloc (.cells #[.int .i64 0,.int .i64 0,.string ⟨#[]⟩,.slice none 0 0,.slice none 0 0] 67):=⟨_,rfl⟩
 have Z:W1.heap.size=w.heap.size+1:=by rw[C];simp
 have G:Below w.heap.size w W1:=by rw[C];exact (Below.refl _ _).alloc (Nat.le_refl _) _
 have i:W1.heap[w.heap.size]?=some (.cells #[.int .i64 0,.int .i64 0,.string ⟨#[]⟩,.slice none 0 0,.slice none 0 0] 67 (0,0)):=by rw[C];exact heap_alloc_new _ _
 have f:Hid (∀W:World,Below w.heap.size w W->Below w.heap.size w (put5 W w.heap.size 0 (.int .i64 0) (.int .i64 0) (.string ⟨#[]⟩) (.slice none 0 0) (.slice none 0 0))):=fun W h=>qaX h (Nat.le_refl _)
 by_cases h8:s.size<=10000
 case neg=>
  have O:Hid (readT (m+1) s=none):=qoG h8
  have aI:(10000:Int)<(s.size:Int):=by omega
  have T:Hid (∀o,qfI (m+1) (ansU m s) (okU m s) w (.returned (.tuple #[.agg #[.int .i64 0,.int .i64 0,.string ⟨#[]⟩,.slice none 0 0,.slice none 0 0],.bool false])) (w.alloc o)):=fun o=>qiA O.out ((Below.refl _ _).alloc (Nat.le_refl _) _)
  clear G i Z O h8 hL
  go_enter func83,ntmps83
  go_wp2_with fail
  refine bodyPost_ret (v:=.tuple #[.agg #[.int .i64 0,.int .i64 0,.string ⟨#[]⟩,.slice none 0 0,.slice none 0 0],.bool false]) (by simp[results,results83,go_sem]) rfl ?_
  exact T.out _
 have aJ:¬(10000:Int)<(s.size:Int):=by omega
 have aK:∀(fn:Fn)(first cap:Array Value)(w:World),(Instr.makeFunc fn first cap).run prog w=.ok (.func fn first cap) w:=fun _ _ _ _=>rfl
 have aA:Hid (Calls prog 102 #[.string s] W1 fun e w'=>e=.returned (.pointer (some ⟨W1.heap.size,0,none⟩))/\Below W1.heap.size W1 w' /\ Sc w' W1.heap.size s 0/\Meth w' W1.heap.size):=qkA s W1
 have aB:Hid (LaidU B w):=hL
 clear hL
 go_enter func83,ntmps83
 go_wp2_with fail
 rw[<- C]
 clear C
 refine aA.out.mono ?_
 rintro e W2 ⟨rfl,D,U,aD⟩
 have aL:W1.heap.size<W2.heap.size:=U.lt
 have r:=qaA G G.size D
 have l:=(D.block w.heap.size (by omega)).trans i
 have aC:Hid (Calls prog 101 #[.func (.func 103) #[.pointer (some ⟨w.heap.size+1,0,none⟩)] #[]] W2 (qqE (w.heap.size+1) s (m+1) W2)):=by
  rw[<- Z]
  exact quU (m+1) B W1.heap.size s W2 (aB.out.step (r.mono hB)) (by omega) U aD (by omega) (by omega)
 clear U aD i G D aA aB
 go_wp2_with fail
 refine aC.out.mono ?_
 rintro e w3 ⟨j,aH⟩
 have aM:=j.size
 have y:Below w.heap.size w w3:=⟨j.os.trans r.os,j.tape.trans r.tape,j.output.trans r.output,by omega,fun b hb=>(j.block b (by omega) (by omega)).trans (r.block b hb)⟩
 have a:w3.heap[w.heap.size]?=some (.cells #[.int .i64 0,.int .i64 0,.string ⟨#[]⟩,.slice none 0 0,.slice none 0 0] 67 (0,0)):=(j.block _ (by omega) (by omega)).trans l
 clear aC r l j
 rcases aH with ⟨t,v,Y,rfl,y4⟩|⟨Y,rfl⟩
 case inr=>
  have O:Hid (readT (m+1) s=none):=xfW Y
  obtain⟨⟨r0,r1,r2,r3,r4⟩,f0,f1,f2,f3,f4⟩:=qbH a
  have T:Hid (qfI (m+1) (ansU m s) (okU m s) w _ _):=qiA O.out (f.out _ y)
  clear Y O y a f
  go_wp2_with fail
  refine bodyPost_ret (v:=.tuple #[.agg #[.int .i64 0,.int .i64 0,.string ⟨#[]⟩,.slice none 0 0,.slice none 0 0],.bool false]) (by simp[results,results83,go_sem,r0,r1,r2,r3,r4]) rfl ?_
  exact T.out
 obtain⟨zt,zx,rfl⟩:=id y4.iface
 have HY:Hid (qaH (m+1) s.data.toList=some (t,[])):=Y
 have HO:Hid (Calls prog 104 #[.iface zt zx] w3 (qcZ (m+1) t w3)):=qqH (m+1) _ t _ w3 y4 (fun b hb=>hb.2) (qsQ (m+1) s.data.toList t [] (by simpa using h8) Y)
 clear Y y4
 go_wp2_with fail
 refine HO.out.mono ?_
 rintro e P ⟨V,g0,g1,g2,g3,g4,L3,L4,rfl,E,aE,aF,ho,hl⟩
 obtain⟨Q,R,S,I,J,K,L,M,N,rfl,rfl,rfl,rfl,rfl⟩:=E.shape
 have aG:=V.size
 obtain⟨x,u⟩:∃x,x=P.alloc (.cells #[.int .i64 Q,.int .i64 R,.string S,.slice I J K,.slice L M N] 67):=⟨_,rfl⟩
 have aN:x.heap.size=P.heap.size+1:=by rw[u];simp
 have g:Below P.heap.size P x:=by rw[u];exact (Below.refl _ _).alloc (Nat.le_refl _) _
 have H:Box5 x P.heap.size (.int .i64 Q) (.int .i64 R) (.string S) (.slice I J K) (.slice L M N):=by rw[u];exact Box5.new _ _ _ _ _ _ _
 have z:=qaA V aG g
 have n:=qaA y y.size z
 have c:=(z.block w.heap.size (by omega)).trans a
 obtain⟨F,X⟩:=E.step (fun b hb=>hb.2) g
 have HC:Hid (Calls prog 105 _ x _):=qoM (m+1) _ t _ _ _ _ _ x F X
 have A:Hid (TreeIn (fun b=>w3.heap.size<=b/\b<P.heap.size) x (m+1) t (.int .i64 Q) (.int .i64 R) (.string S) (.slice I J K) (.slice L M N)/\SpN x (.slice I J K) L3/\SpR x (m+1-1) (.slice L M N) L4/\Own (fun b=>w3.heap.size<=b/\b<P.heap.size) (L3++L4)/\(L3++L4).length=spL (m+1) t):=
  ⟨F,aE.below g,aF.below g,ho,hl⟩
 obtain⟨k0,k1,k2,k3,k4⟩:=id H
 rw[u]at k0 k1 k2 k3 k4
 clear HO E F aE aF ho hl V z g y a
 go_wp2_with fail
 rw[<- u]
 clear u k0 k1 k2 k3 k4
 refine HC.out.mono ?_
 rintro e w6 ⟨rfl,k⟩
 have aO:=k.size
 have p:=qaA n n.size k
 have d:=(k.block w.heap.size (by omega)).trans c
 obtain⟨⟨r0,r1,r2,r3,r4⟩,f0,f1,f2,f3,f4⟩:=qbH d
 obtain⟨k0,k1,k2,k3,k4⟩:=H.keep k
 cases hok:okT (m+1) t with
 | false=>
  have O:Hid (readT (m+1) s=none):=xaY HY.out hok
  have T:Hid (qfI (m+1) (ansU m s) (okU m s) w _ _):=qiA O.out (f.out _ p)
  clear O HC HY hok k n p c d f X H A
  go_wp2_with fail
  refine bodyPost_ret (v:=.tuple #[.agg #[.int .i64 0,.int .i64 0,.string ⟨#[]⟩,.slice none 0 0,.slice none 0 0],.bool false]) (by simp[results,results83,go_sem,r0,r1,r2,r3,r4]) rfl ?_
  exact T.out
 | true=>
  have T:Hid (qfI (m+1) (ansU m s) (okU m s) w (.returned (.tuple #[.agg #[.int .i64 Q,.int .i64 R,.string S,.slice I J K,.slice L M N],.bool true])) (put5 w6 w.heap.size 0 (.int .i64 Q) (.int .i64 R) (.string S) (.slice I J K) (.slice L M N))):=by
   obtain⟨q1,q2⟩:=qiO (xaZ h8 HY.out hok)
   rw[q1,q2]
   obtain⟨a1,a2,a3,a4,a5⟩:=A.out
   have aP:=spL_le (m+1) t 1 (qiN hok).1
   have aQ:=(qiN hok).2
   have q:∀b,w3.heap.size<=b->b<x.heap.size->(put5 w6 w.heap.size 0 (.int .i64 Q) (.int .i64 R) (.string S) (.slice I J K) (.slice L M N)).heap[b]?=x.heap[b]?:=fun b h h'=>by rw[qaQ (by omega)];exact k.block b h'
   have hS:∀b,(w3.heap.size<=b/\b<P.heap.size)->w.heap.size<=b/\b<(put5 w6 w.heap.size 0 (.int .i64 Q) (.int .i64 R) (.string S) (.slice I J K) (.slice L M N)).heap.size:=fun b h=>by rw[qbO];omega
   exact⟨qaX p (Nat.le_refl _),_,_,_,_,_,L3,L4,rfl,a1.keep (fun b h=>q b h.1 (by omega)) hS,a2.same (fun s h=>q _ (a4.1 s (List.mem_append_left _ h)).1 (by have:=(a4.1 s (List.mem_append_left _ h)).2;omega)),
    a3.same (fun s h=>q _ (a4.1 s (List.mem_append_right _ h)).1 (by have:=(a4.1 s (List.mem_append_right _ h)).2;omega)),a4.mono hS,by rw[a5];omega⟩
  clear HC HY hok k n p c d f X H A
  go_wp2_with fail
  refine bodyPost_ret (v:=.tuple #[.agg #[.int .i64 Q,.int .i64 R,.string S,.slice I J K,.slice L M N],.bool true]) (by simp[results,results83,go_sem,r0,r1,r2,r3,r4]) rfl ?_
  exact T.out
theorem qfJ {w:World} {R bk:Nat} {wv:Value} {ws:List ByteArray} {a c:Nat} (h:Rdr w R bk wv ws a c) (ha:a<ws.length) :
  Calls prog 68 #[.pointer (some ⟨R,0,none⟩)] w fun e w'=>e=.returned (.string ws[a])/\Near R w w' /\ Rdr w' R bk wv ws (a+1) c:=by
 have f:=h.few
 have g:=Lib.hid (qgC h ha)
 have i:Hid (∀n,Calls prog 85 #[.string ws[a]] (w.drewN n) fun e w'=>e=.returned (.string ws[a])/\Near R w w' /\ Rdr w' R bk wv ws a c):=fun n=>by
  refine (qeL ws[a] (w.drewN n) (by have:=h.short _ (List.getElem_mem ha);omega)).mono ?_
  rintro e w' ⟨rfl,j⟩
  exact⟨rfl,(qaJ (Near.refl R w) n).trans (Near.of_below j),(h.drewN n).same j⟩
 generalize ws[a]=s at *
 clear h
 go_enter func68,ntmps68
 go_wp2_with fail
 refine g.out.mono ?_
 rintro e m ⟨rfl,n,rfl⟩
 go_wp2_with fail
 refine (i.out n).mono ?_
 rintro e w2 ⟨rfl,d,b⟩
 obtain⟨⟨c0,c1,c2,c3⟩,o,p⟩:=b.cells
 have l:IntKind.i64.wrap ((a:Int)+1)=(a:Int)+1:=by rw[IntKind.wrap_i64];omega
 have k:Hid (Near R w (w2.setCell ⟨R,2,none⟩ (.int .i64 ((a:Int)+1)))/\Rdr (w2.setCell ⟨R,2,none⟩ (.int .i64 ((a:Int)+1))) R bk wv ws (a+1) c):=⟨d.trans (Near.set R 2 _ _),b.setAt (a+1)⟩
 clear d b i g
 go_wp2_with fail
 go_ret
 exact⟨rfl,k.out⟩
theorem qjH(M:Nat)(s:ByteArray):(∃t:T (M+1),readT (M+1) s=some t/\okU M s=true/\ansU M s=t/\((Nd.sort t<=3/\leafW M s=some (Nd.sort t,Nd.num t,Nd.text t))∨(¬Nd.sort t<=3/\leafW M s=none)))∨(readT (M+1) s=none/\okU M s=false/\leafW M s=none):=by
 cases hr:readT (M+1) s with
 | none=>exact .inr ⟨rfl,(qlV hr).2,by unfold leafW;rw[hr]⟩
 | some t=>
  refine .inl ⟨t,rfl,(qiO hr).2,(qiO hr).1,?_⟩
  by_cases h3:Nd.sort t<=3
  ·exact .inl ⟨h3,by unfold leafW;rw[hr];dsimp only;rw[if_pos h3]⟩
  ·exact .inr ⟨h3,by unfold leafW;rw[hr];dsimp only;rw[if_neg h3]⟩
theorem qwT{M:Nat}{s:ByteArray}{t:T (M+1)}(hr:readT (M+1) s=some t):1<=Nd.sort t:=by
 by_cases h3:Nd.sort t<=3
 ·have:=qcU (M:=M) (s:=s) (l:=(Nd.sort t,Nd.num t,Nd.text t)) (by unfold leafW;rw[hr];dsimp only;rw[if_pos h3])
  exact this.1
 ·omega
theorem quY (M B bk:Nat) (s:ByteArray) (w:World) (hbk:Book w bk) (hs:s.size<=3000) (hM:3000<=M) (hL:LaidU B w) (hB:B<=w.heap.size) :
  Calls prog 65 #[.pointer (some ⟨bk,0,none⟩),.string s] w fun e w'=>e=.returned (.int .i64 (opA M s:Nat))/\Below w.heap.size w w':=by
 have A:=hbk.lt
 have i:=Lib.hid (qkL bk s w hbk)
 have j:Hid (Calls prog 83 #[.string s] w (qfI (M+1) (ansU M s) (okU M s) w)):=qjG s M B (by omega) (by omega) w hL hB
 have h:Hid (∀w',Below w.heap.size w w'->Calls prog 84 #[.pointer (some ⟨bk,0,none⟩),.string s] w' fun e w''=>e=.returned (.bool (freeB s))/\w''=w'):=fun w' hb=>qgQ bk s w' (by unfold maxLen;omega) (hbk.keep (hb.block bk A))
 have d:Hid (opA M s=if opW s=0 then (match leafW M s with|some l=>l.1.toNat|none=>if freeB s=true then 4 else 0) else opW s):=rfl
 clear hbk hL
 by_cases h0:opW s=0
 case neg=>
  rw[if_neg h0]at d
  have L:((opW s:Int) != 0)=true:=by simp;omega
  generalize opW s=k at *
  clear h0
  go_enter func65,ntmps65
  go_wp2_with fail
  refine i.out.mono ?_
  rintro e C ⟨rfl,rfl⟩
  go_wp2_with fail
  go_ret
  exact⟨qaN (by rw[d.out]),Below.refl _ _⟩
 rw[h0]at d i
 rw[if_pos rfl]at d
 clear h0
 rcases qjH M s with ⟨t,E,n,D,c⟩|⟨E,n,c⟩
 ·have N:=qwT E
  rw[n,D]at j
  clear n D E
  rcases c with ⟨O,c⟩|⟨O,c⟩
  ·rw[c]at d
   have K:Hid ((opA M s:Int)=Nd.sort t):=by show _=_;rw[d.out];exact Int.toNat_of_nonneg (by omega)
   clear d c
   go_enter func65,ntmps65
   go_wp2_with fail
   refine i.out.mono ?_
   rintro e C ⟨rfl,rfl⟩
   go_wp2_with fail
   refine j.out.mono ?_
   rintro e w2 ⟨a,F,G,H,I,J,L3,L4,rfl,f,-⟩
   obtain⟨o,p,q,r,u,v,x,y,z,rfl,rfl,rfl,rfl,rfl⟩:=f.shape
   have m:o=Nd.sort t:=(Value.int.inj f.1).2
   subst m
   have b:=hidF (a.alloc a.size (.cells #[.int .i64 (Nd.sort t),.int .i64 p,.string q,.slice r u v,.slice x y z] 67))
   clear a f j i h
   go_wp2_with fail
   go_ret
   exact⟨qaN K.out.symm,b.out⟩
  ·rw[c]at d
   clear c
   cases hf:freeB s with
   | true=>
    rw[hf]at d h
    clear hf
    go_enter func65,ntmps65
    go_wp2_with fail
    refine i.out.mono ?_
    rintro e C ⟨rfl,rfl⟩
    go_wp2_with fail
    refine j.out.mono ?_
    rintro e w2 ⟨a,F,G,H,I,J,L3,L4,rfl,f,-⟩
    obtain⟨o,p,q,r,u,v,x,y,z,rfl,rfl,rfl,rfl,rfl⟩:=f.shape
    have m:o=Nd.sort t:=(Value.int.inj f.1).2
    subst m
    have b:=hidF (a.alloc a.size (.cells #[.int .i64 (Nd.sort t),.int .i64 p,.string q,.slice r u v,.slice x y z] 67))
    have g:=Lib.hid (h.out _ b.out)
    clear a f j i h
    go_wp2_with fail
    refine g.out.mono ?_
    rintro e w3 ⟨rfl,rfl⟩
    go_wp2_with fail
    go_ret
    exact⟨qaN (by rw[d.out];rfl),b.out⟩
   | false=>
    rw[hf]at d h
    clear hf
    go_enter func65,ntmps65
    go_wp2_with fail
    refine i.out.mono ?_
    rintro e C ⟨rfl,rfl⟩
    go_wp2_with fail
    refine j.out.mono ?_
    rintro e w2 ⟨a,F,G,H,I,J,L3,L4,rfl,f,-⟩
    obtain⟨o,p,q,r,u,v,x,y,z,rfl,rfl,rfl,rfl,rfl⟩:=f.shape
    have m:o=Nd.sort t:=(Value.int.inj f.1).2
    subst m
    have b:=hidF (a.alloc a.size (.cells #[.int .i64 (Nd.sort t),.int .i64 p,.string q,.slice r u v,.slice x y z] 67))
    have g:=Lib.hid (h.out _ b.out)
    clear a f j i h
    go_wp2_with fail
    refine g.out.mono ?_
    rintro e w3 ⟨rfl,rfl⟩
    go_wp2_with fail
    go_ret
    exact⟨qaN (by rw[d.out];rfl),b.out⟩
 ·rw[n]at j
  rw[c]at d
  clear n E c
  generalize ansU M s=t at *
  cases hf:freeB s with
  | true=>
   rw[hf]at d h
   clear hf
   go_enter func65,ntmps65
   go_wp2_with fail
   refine i.out.mono ?_
   rintro e C ⟨rfl,rfl⟩
   go_wp2_with fail
   refine j.out.mono ?_
   rintro e w2 ⟨a,F,G,H,I,J,L3,L4,rfl,f,-⟩
   obtain⟨o,p,q,r,u,v,x,y,z,rfl,rfl,rfl,rfl,rfl⟩:=f.shape
   have b:=hidF (a.alloc a.size (.cells #[.int .i64 o,.int .i64 p,.string q,.slice r u v,.slice x y z] 67))
   have g:=Lib.hid (h.out _ b.out)
   clear a f j i h
   go_wp2_with fail
   refine g.out.mono ?_
   rintro e w3 ⟨rfl,rfl⟩
   go_wp2_with fail
   go_ret
   exact⟨qaN (by rw[d.out];rfl),b.out⟩
  | false=>
   rw[hf]at d h
   clear hf
   go_enter func65,ntmps65
   go_wp2_with fail
   refine i.out.mono ?_
   rintro e C ⟨rfl,rfl⟩
   go_wp2_with fail
   refine j.out.mono ?_
   rintro e w2 ⟨a,F,G,H,I,J,L3,L4,rfl,f,-⟩
   obtain⟨o,p,q,r,u,v,x,y,z,rfl,rfl,rfl,rfl,rfl⟩:=f.shape
   have b:=hidF (a.alloc a.size (.cells #[.int .i64 o,.int .i64 p,.string q,.slice r u v,.slice x y z] 67))
   have g:=Lib.hid (h.out _ b.out)
   clear a f j i h
   go_wp2_with fail
   refine g.out.mono ?_
   rintro e w3 ⟨rfl,rfl⟩
   go_wp2_with fail
   go_ret
   exact⟨qaN (by rw[d.out];rfl),b.out⟩
theorem xdV {w:World} {P:Nat} {wv:Value} {ws:List ByteArray} {a c:Nat} {fc fa:Int} (h:Prs w P wv ws a c fc fa) (ha:a<=10000) (free:Bool) (unlike:ByteArray) :
  Calls prog 26 #[.pointer (some ⟨P,0,none⟩),.bool free,.string unlike] w fun e w'=>
   (qdY free unlike (wordD ws a)=true/\e=.returned (.string (wordD ws a))/\PPost P wv ws (a+1) c fc fa w w') ∨
   (qdY free unlike (wordD ws a)=false/\e=.returned (.string ⟨#[]⟩)/\PPost P wv ws a c (ftC fc 2) (ftA fc fa a) w w'):=by
 have A:=qdO h.short a
 have m:=Lib.hid (qfC h)
 generalize hs:wordD ws a=s at *
 have k:Hid (∀w',Calls prog 40 #[.string s] w' fun e l=>e=.returned (.bool (nameB s))/\l=w'):=fun w'=>qdP s w' (by unfold maxLen;omega)
 have p:Hid (∀w',Calls prog 38 #[.string s] w' fun e l=>e=.returned (.bool (freeB s))/\Below w'.heap.size w' l):=fun w'=>qfF s w' (by unfold maxLen;omega)
 have u:Hid (∀w',Near P w w'->Prs w' P wv ws a c fc fa->Calls prog 12 #[.pointer (some ⟨P,0,none⟩),.int .i64 2] w' fun e l=>e=.returned (.tuple #[])/\PPost P wv ws a c (ftC fc 2) (ftA fc fa a) w l):=fun w' hn hp=>by
  refine (qdB hp 2).mono ?_
  rintro e l ⟨rfl,B,C⟩
  exact⟨rfl,hn.trans B,C⟩
 have o:Hid (qdY free unlike s=(nameB s && (!free || freeB s) && !(s==unlike))):=rfl
 have y:=Lib.hid (qcL s unlike)
 have f:Hid (∀n w',Below (w.drewN n).heap.size (w.drewN n) w'->Near P w w' /\ Prs w' P wv ws a c fc fa):=fun n w' hb=>⟨(qbG (Near.refl P w) n).trans (Near.of_below hb),(h.drewN n).same hb⟩
 clear h hs
 cases j:nameB s with
 | false=>
  rw[j]at k
  obtain j:nameB s=false:=j
  have g:Hid (qdY free unlike s=false):=by show _=_;rw[o.out];simp[j]
  clear o
  go_enter func26,ntmps26
  go_wp2_with fail
  refine m.out.mono ?_
  rintro e x ⟨rfl,n,rfl⟩
  go_wp2_with fail
  refine (k.out _).mono ?_
  rintro e w2 ⟨rfl,rfl⟩
  obtain⟨d,b⟩:=f.out n _ (Below.refl _ _)
  have i:=Lib.hid (u.out _ d b)
  clear f u d b k p m
  go_wp2_with fail
  refine i.out.mono ?_
  rintro e z ⟨rfl,b⟩
  have q:=Lib.hid b
  clear i b
  go_wp2_with fail
  go_ret
  exact .inr ⟨g.out,rfl,q.out⟩
 | true=>
  rw[j]at k
  cases free with
  | false=>
   cases hu:(s==unlike) with
   | true=>
    have v:=y.out.trans hu
    have g:Hid (qdY false unlike s=false):=by show _=_;rw[o.out];simp[j,hu]
    clear o
    go_enter func26,ntmps26
    go_wp2_with fail
    refine m.out.mono ?_
    rintro e x ⟨rfl,n,rfl⟩
    go_wp2_with fail
    refine (k.out _).mono ?_
    rintro e w2 ⟨rfl,rfl⟩
    obtain⟨d,b⟩:=f.out n _ (Below.refl _ _)
    have i:=Lib.hid (u.out _ d b)
    clear f u d b k p m
    go_wp2_with fail
    refine i.out.mono ?_
    rintro e z ⟨rfl,b⟩
    have q:=Lib.hid b
    clear i b
    go_wp2_with fail
    go_ret
    exact .inr ⟨g.out,rfl,q.out⟩
   | false=>
    have v:=y.out.trans hu
    have g:Hid (qdY false unlike s=true):=by show _=_;rw[o.out];simp[j,hu]
    clear o
    go_enter func26,ntmps26
    go_wp2_with fail
    refine m.out.mono ?_
    rintro e x ⟨rfl,n,rfl⟩
    go_wp2_with fail
    refine (k.out _).mono ?_
    rintro e w2 ⟨rfl,rfl⟩
    obtain⟨d,b⟩:=f.out n _ (Below.refl _ _)
    obtain⟨⟨c0,c1,c2,c3,c4⟩,r⟩:=b.cells
    have f1:=r 1
    have q:Hid (PPost P wv ws (a+1) c fc fa w _):=⟨d.trans (Near.set P 1 _ (.int .i64 ((a+1:Nat):Int))),b.setAt (a+1)⟩
    clear f u d b k p m r
    go_wp2_with fail
    go_ret
    exact .inl ⟨g.out,rfl,q.out⟩
  | true=>
   cases hfr:freeB s with
   | false=>
    rw[hfr]at p
    have g:Hid (qdY true unlike s=false):=by show _=_;rw[o.out];simp[j,hfr]
    clear o
    go_enter func26,ntmps26
    go_wp2_with fail
    refine m.out.mono ?_
    rintro e x ⟨rfl,n,rfl⟩
    go_wp2_with fail
    refine (k.out _).mono ?_
    rintro e w2 ⟨rfl,rfl⟩
    go_wp2_with fail
    refine (p.out _).mono ?_
    rintro e w3 ⟨rfl,t⟩
    obtain⟨d,b⟩:=f.out n _ t
    have i:=Lib.hid (u.out _ d b)
    clear f u d b k p m
    go_wp2_with fail
    refine i.out.mono ?_
    rintro e z ⟨rfl,b⟩
    have q:=Lib.hid b
    clear i b
    go_wp2_with fail
    go_ret
    exact .inr ⟨g.out,rfl,q.out⟩
   | true=>
    rw[hfr]at p
    cases hu:(s==unlike) with
    | true=>
     have v:=y.out.trans hu
     have g:Hid (qdY true unlike s=false):=by show _=_;rw[o.out];simp[j,hfr,hu]
     clear o
     go_enter func26,ntmps26
     go_wp2_with fail
     refine m.out.mono ?_
     rintro e x ⟨rfl,n,rfl⟩
     go_wp2_with fail
     refine (k.out _).mono ?_
     rintro e w2 ⟨rfl,rfl⟩
     go_wp2_with fail
     refine (p.out _).mono ?_
     rintro e w3 ⟨rfl,t⟩
     obtain⟨d,b⟩:=f.out n _ t
     have i:=Lib.hid (u.out _ d b)
     clear f u d b k p m
     go_wp2_with fail
     refine i.out.mono ?_
     rintro e z ⟨rfl,b⟩
     have q:=Lib.hid b
     clear i b
     go_wp2_with fail
     go_ret
     exact .inr ⟨g.out,rfl,q.out⟩
    | false=>
     have v:=y.out.trans hu
     have g:Hid (qdY true unlike s=true):=by show _=_;rw[o.out];simp[j,hfr,hu]
     clear o
     go_enter func26,ntmps26
     go_wp2_with fail
     refine m.out.mono ?_
     rintro e x ⟨rfl,n,rfl⟩
     go_wp2_with fail
     refine (k.out _).mono ?_
     rintro e w2 ⟨rfl,rfl⟩
     go_wp2_with fail
     refine (p.out _).mono ?_
     rintro e w3 ⟨rfl,t⟩
     obtain⟨d,b⟩:=f.out n _ t
     obtain⟨⟨c0,c1,c2,c3,c4⟩,r⟩:=b.cells
     have f1:=r 1
     have q:Hid (PPost P wv ws (a+1) c fc fa w _):=⟨d.trans (Near.set P 1 _ (.int .i64 ((a+1:Nat):Int))),b.setAt (a+1)⟩
     clear f u d b k p m r
     go_wp2_with fail
     go_ret
     exact .inl ⟨g.out,rfl,q.out⟩
theorem qyW (s:ByteArray) (hs:s.size<=3000) (w:World) :
  Calls prog 44 #[.string s] w fun e w'=>Below w.heap.size w w' /\ ((∃v,numOf s.data.toList=some v/\e=.returned (.tuple #[.int .i64 v,.bool true]))∨(numOf s.data.toList=none/\∃v,e=.returned (.tuple #[.int .i64 v,.bool false]))):=by
 have k:Hid (Calls prog 37 #[.string s] w (qfE (3000+1) (ansU 3000 s) (okU 3000 s) w)):=qiU s 3000 (by omega) (by omega) w
 rcases qjH 3000 s with ⟨t,l,i,z,-⟩|⟨l,i,-⟩
 ·rw[i,z]at k
  have A:=qwK 3000 s hs
  clear i z
  by_cases h1:Nd.sort t=1
  ·have y:Hid (numOf s.data.toList=some (Nd.num t)):=by
    rcases A with ⟨F,b,-,h⟩|⟨h,-⟩
    ·rw[l]at b;cases b;exact h
    ·exact absurd h1 (h t l)
   clear A l
   have B:=Lib.hid h1
   clear h1
   go_enter func44,ntmps44
   go_wp2_with fail
   refine k.out.mono ?_
   rintro e w2 ⟨a,G,H,I,J,K,rfl,j⟩
   obtain⟨f,d,m,o,p,q,r,u,x,rfl,rfl,rfl,rfl,rfl⟩:=j.shape
   have L:(f==1)=true:=by rw[(Value.int.inj j.1).2];simpa using B.out
   have C:Hid (d=Nd.num t):=(Value.int.inj j.2.1).2
   obtain⟨W,c⟩:∃W,W=w2.alloc (.cells #[.int .i64 f,.int .i64 d,.string m,.slice o p q,.slice r u x] 67):=⟨_,rfl⟩
   have g:Hid (∀n,Below w.heap.size w (W.drewN n)):=fun n=>by
    rw[c]
    have:=a.alloc a.size (.cells #[.int .i64 f,.int .i64 d,.string m,.slice o p q,.slice r u x] 67)
    exact⟨this.os,this.tape,this.output,this.size,this.block⟩
   have D:W.cell? ⟨w2.heap.size,0,none⟩=some (.int .i64 f):=by rw[c];exact (Box5.new w2 _ _ _ _ _ _).c0
   have E:W.cell? ⟨w2.heap.size,1,none⟩=some (.int .i64 d):=by rw[c];exact (Box5.new w2 _ _ _ _ _ _).c1
   clear a j k
   go_wp2_with fail
   rw[<- c]
   clear c
   go_quiet (fail)
   go_wp2_with fail
   refine bodyPost_ret (v:=.tuple #[.int .i64 d,.bool true]) (by simp[results,results44,go_sem]) rfl ?_
   exact⟨g.out _,.inl ⟨d,by rw[C.out];exact y.out,rfl⟩⟩
  ·have y:Hid (numOf s.data.toList=none):=by
    rcases A with ⟨F,b,M,-⟩|⟨-,h⟩
    ·rw[l]at b;cases b;exact absurd M h1
    ·exact h
   have B:=Lib.hid h1
   clear A l h1
   go_enter func44,ntmps44
   go_wp2_with fail
   refine k.out.mono ?_
   rintro e w2 ⟨a,G,H,I,J,K,rfl,j⟩
   obtain⟨f,d,m,o,p,q,r,u,x,rfl,rfl,rfl,rfl,rfl⟩:=j.shape
   have L:(f==1)=false:=by rw[(Value.int.inj j.1).2];simpa using B.out
   obtain⟨W,c⟩:∃W,W=w2.alloc (.cells #[.int .i64 f,.int .i64 d,.string m,.slice o p q,.slice r u x] 67):=⟨_,rfl⟩
   have g:Hid (∀n,Below w.heap.size w (W.drewN n)):=fun n=>by
    rw[c]
    have:=a.alloc a.size (.cells #[.int .i64 f,.int .i64 d,.string m,.slice o p q,.slice r u x] 67)
    exact⟨this.os,this.tape,this.output,this.size,this.block⟩
   have D:W.cell? ⟨w2.heap.size,0,none⟩=some (.int .i64 f):=by rw[c];exact (Box5.new w2 _ _ _ _ _ _).c0
   have E:W.cell? ⟨w2.heap.size,1,none⟩=some (.int .i64 d):=by rw[c];exact (Box5.new w2 _ _ _ _ _ _).c1
   clear a j k
   go_wp2_with fail
   rw[<- c]
   clear c
   go_quiet (fail)
   go_wp2_with fail
   refine bodyPost_ret (v:=.tuple #[.int .i64 d,.bool false]) (by simp[results,results44,go_sem]) rfl ?_
   exact⟨g.out _,.inr ⟨y.out,_,rfl⟩⟩
 ·rw[i]at k
  have y:Hid (numOf s.data.toList=none):=by
   rcases qwK 3000 s hs with ⟨F,b,-,-⟩|⟨-,h⟩
   ·rw[l]at b;cases b
   ·exact h
  clear i l
  generalize ansU 3000 s=t at *
  go_enter func44,ntmps44
  go_wp2_with fail
  refine k.out.mono ?_
  rintro e w2 ⟨a,G,H,I,J,K,rfl,j⟩
  obtain⟨f,d,m,o,p,q,r,u,x,rfl,rfl,rfl,rfl,rfl⟩:=j.shape
  obtain⟨W,c⟩:∃W,W=w2.alloc (.cells #[.int .i64 f,.int .i64 d,.string m,.slice o p q,.slice r u x] 67):=⟨_,rfl⟩
  have g:Hid (∀n,Below w.heap.size w (W.drewN n)):=fun n=>by
   rw[c]
   have:=a.alloc a.size (.cells #[.int .i64 f,.int .i64 d,.string m,.slice o p q,.slice r u x] 67)
   exact⟨this.os,this.tape,this.output,this.size,this.block⟩
  have D:W.cell? ⟨w2.heap.size,0,none⟩=some (.int .i64 f):=by rw[c];exact (Box5.new w2 _ _ _ _ _ _).c0
  have E:W.cell? ⟨w2.heap.size,1,none⟩=some (.int .i64 d):=by rw[c];exact (Box5.new w2 _ _ _ _ _ _).c1
  clear a j k
  go_wp2_with fail
  rw[<- c]
  clear c
  go_quiet (fail)
  go_wp2_with fail
  refine bodyPost_ret (v:=.tuple #[.int .i64 d,.bool false]) (by simp[results,results44,go_sem]) rfl ?_
  exact⟨g.out _,.inr ⟨y.out,_,rfl⟩⟩
theorem xgX {w:World} {P:Nat} {wv:Value} {ws:List ByteArray} {a c:Nat} {fc fa:Int} (h:Prs w P wv ws a c fc fa) (ha:a<=10000) (low high:Int) :
  Calls prog 29 #[.pointer (some ⟨P,0,none⟩),.int .i64 low,.int .i64 high] w fun e w'=>
   (∃v,numOf (wordD ws a).data.toList=some v/\(low<=v/\v<=high)/\e=.returned (.int .i64 v)/\PPost P wv ws (a+1) c fc fa w w') ∨
   ((∀v,numOf (wordD ws a).data.toList=some v->¬(low<=v/\v<=high))/\e=.returned (.int .i64 0)/\PPost P wv ws a c (ftC fc 2) (ftA fc fa a) w w'):=by
 have x:=qdO h.short a
 have t:=Lib.hid (qfC h)
 generalize hs:wordD ws a=s at *
 have y:Hid (∀w',Calls prog 44 #[.string s] w' fun e g=>Below w'.heap.size w' g/\((∃v,numOf s.data.toList=some v/\e=.returned (.tuple #[.int .i64 v,.bool true]))∨(numOf s.data.toList=none/\∃v,e=.returned (.tuple #[.int .i64 v,.bool false])))):=fun w'=>qyW s x w'
 have m:Hid (∀v w',Calls prog 45 #[.int .i64 v,.int .i64 low,.int .i64 high] w' fun e g=>e=.returned (.bool (decide (low<=v/\v<=high)))/\g=w'):=fun v w'=>qcJ v low high w'
 have o:Hid (∀w',Near P w w'->Prs w' P wv ws a c fc fa->Calls prog 12 #[.pointer (some ⟨P,0,none⟩),.int .i64 2] w' fun e g=>e=.returned (.tuple #[])/\PPost P wv ws a c (ftC fc 2) (ftA fc fa a) w g):=fun w' hn hp=>by
  refine (qdB hp 2).mono ?_
  rintro e g ⟨rfl,A,B⟩
  exact⟨rfl,hn.trans A,B⟩
 have f:Hid (∀n w',Below (w.drewN n).heap.size (w.drewN n) w'->Near P w w' /\ Prs w' P wv ws a c fc fa):=fun n w' hb=>⟨(qbG (Near.refl P w) n).trans (Near.of_below hb),(h.drewN n).same hb⟩
 clear h hs
 go_enter func29,ntmps29
 go_wp2_with fail
 refine t.out.mono ?_
 rintro e D ⟨rfl,n,rfl⟩
 go_wp2_with fail
 refine (y.out _).mono ?_
 rintro e w2 ⟨l,⟨v,q,rfl⟩|⟨q,v,rfl⟩⟩
 ·have u:=Lib.hid q
  have k:=Lib.hid l
  clear q l y
  by_cases hr:low<=v/\v<=high
  ·have i:=Lib.hid (m.out v w2)
   rw[decide_eq_true hr]at i
   have z:=Lib.hid hr
   obtain⟨d,b⟩:=f.out n _ k.out
   obtain⟨⟨c0,c1,c2,c3,c4⟩,r⟩:=b.cells
   have f1:=r 1
   have p:Hid (PPost P wv ws (a+1) c fc fa w _):=⟨d.trans (Near.set P 1 _ (.int .i64 ((a+1:Nat):Int))),b.setAt (a+1)⟩
   clear f o d b t r m hr k
   go_wp2_with fail
   refine i.out.mono ?_
   rintro e w3 ⟨rfl,rfl⟩
   go_wp2_with fail
   go_ret
   exact .inl ⟨v,u.out,z.out,rfl,p.out⟩
  ·have i:=Lib.hid (m.out v w2)
   rw[decide_eq_false hr]at i
   have z:=Lib.hid hr
   obtain⟨d,b⟩:=f.out n _ k.out
   have j:=Lib.hid (o.out _ d b)
   clear f o d b t m hr k
   go_wp2_with fail
   refine i.out.mono ?_
   rintro e w3 ⟨rfl,rfl⟩
   go_wp2_with fail
   refine j.out.mono ?_
   rintro e C ⟨rfl,b⟩
   have p:=Lib.hid b
   clear j b
   go_wp2_with fail
   go_ret
   exact .inr ⟨fun v' hv'=>by rw[u.out]at hv';cases hv';exact z.out,rfl,p.out⟩
 ·have u:=Lib.hid q
  obtain⟨d,b⟩:=f.out n _ l
  have j:=Lib.hid (o.out _ d b)
  clear f o d b t m y l q
  go_wp2_with fail
  refine j.out.mono ?_
  rintro e C ⟨rfl,b⟩
  have p:=Lib.hid b
  clear j b
  go_wp2_with fail
  go_ret
  exact .inr ⟨fun v' hv'=>(by rw[u.out]at hv';cases hv'),rfl,p.out⟩
end Go.Proofs.YtelogmjfekhmpaaGreatDoor
