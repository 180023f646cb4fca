import Derived.Test.YtelogmjfekhmpaaGreatDoorSP9
import Derived.Test.YtelogmjfekhmpaaGreatDoorKRd4
import Derived.Test.YtelogmjfekhmpaaGreatDoorSL8
namespace Go.Proofs.YtelogmjfekhmpaaGreatDoor
open Go.RowKit
structure NRel (M m P X Z:Nat) (wv:Value) (ws:List ByteArray) (d:Int) (a c k:Nat) (W6 wr:World) (ps:List UInt8) (nm:Int) (tx:ByteArray) (ns:List ByteArray) (ks:List (T m)) (nl kl a1 c1:Nat) (fc1 fa1:Int) (na:Option Addr) (nc:Nat) (ka:Option Addr) (kc:Nat):Prop where
 nlE:ns.length=nl
 klE:ks.length=kl
 many:ManyN P X X m W6 wr (k:Int) nm tx ns ks (.slice na nl nc) (.slice ka kl kc)
 prs:Prs wr P wv ws a1 c1 fc1 fa1
 got:Got (foldE M (fun b=>qaI M ws m b (d+1)) ws ps (stE (k:Int) d a c)) (⟨(k:Int),nm,tx,ns,ks⟩:Nd (T m)) a1 c1 fc1 fa1
 zero:wr.heap[Z]?=some (.cells #[.int .i64 0,.int .i64 0,.string ⟨#[]⟩,.slice none 0 0,.slice none 0 0] 25 (0,0))
 al:(a1:Int)+d<=(ws.length:Int)+27
 cl:c1<=201
 ok:fc1=0->fa1=0/\a1<=ws.length/\c1<=200/\d<=24
 wf : -9999999999<=nm/\nm<=9999999999/\tx.size<=3000
theorem xeG:∀ k,k<44->∀ i,i<nmS k->(preL k)[i]?=some ((preL k).getD i 0)/\(((preL k).getD i 0=78/\bdS k=false)∨((preL k).getD i 0=88/\bdS k=true))/\(i=0∨(i=1/\(preL k).getD i 0=88)):=by decide
theorem qtG {l:List UInt8} {i:Nat} {p:UInt8} (h:l[i]?=some p):l.take (i+1)=l.take i++[p]:=by
 obtain⟨hl,rfl⟩:=List.getElem?_eq_some_iff.1 h
 exact List.take_succ_eq_append_getElem hl
def NmOut (free:Bool) (unlike:ByteArray) (ws:List ByteArray) (a:Nat) (fc fa:Int) (x:ByteArray) (a2:Nat) (fc2 fa2:Int):Prop:=
 (qeB free unlike (wordD ws a)=true/\x=wordD ws a/\a2=a+1/\fc2=fc/\fa2=fa)∨(qeB free unlike (wordD ws a)=false/\x=⟨#[]⟩/\a2=a/\fc2=ftC fc 2/\fa2=ftA fc fa a)
theorem xeH {w:World} {P:Nat} {wv:Value} {ws:List ByteArray} {a c:Nat} {fc fa:Int} (h:Prs w P wv ws a c fc fa) (ha:a<=10000) (free:Bool) (unlike:ByteArray) :
  Calls Tryz.prog 26 #[.pointer (some ⟨P,0,none⟩),.bool free,.string unlike] w fun e w'=>∃ x a2 fc2 fa2,e=.returned (.string x)/\x.size<=3000/\NmOut free unlike ws a fc fa x a2 fc2 fa2/\PPost P wv ws a2 c fc2 fa2 w w':=by
 refine (xdU h ha free unlike).mono ?_
 rintro e w' (⟨h1,rfl,h2⟩|⟨h1,rfl,h2⟩)
 ·exact⟨_,_,_,_,rfl,qdQ h.short a,.inl ⟨h1,rfl,rfl,rfl,rfl⟩,h2⟩
 ·exact⟨_,_,_,_,rfl,by decide,.inr ⟨h1,rfl,rfl,rfl,rfl⟩,h2⟩
theorem qxB {free:Bool} {unlike:ByteArray} {ws:List ByteArray} {a:Nat} {fc fa:Int} {x:ByteArray} {a2:Nat} {fc2 fa2:Int} (h:NmOut free unlike ws a fc fa x a2 fc2 fa2) (ha:a<=ws.length):a2<=ws.length:=by
 rcases h with ⟨h1,-,rfl,-⟩|⟨-,-,rfl,-⟩
 ·have:nameB (wordD ws a)=true:=by
   simp only[qeB,Bool.and_eq_true]at h1;exact h1.1.1
  exact qoV this
 ·exact ha
theorem qzK {free:Bool} {unlike:ByteArray} {ws:List ByteArray} {a:Nat} {fc fa:Int} {x:ByteArray} {a2:Nat} {fc2 fa2:Int} (h:NmOut free unlike ws a fc fa x a2 fc2 fa2) (h2:fc2=0):fc=0/\fa2=fa:=by
 rcases h with ⟨-,-,-,rfl,rfl⟩|⟨-,-,-,rfl,-⟩
 ·exact⟨h2,rfl⟩
 ·unfold ftC at h2
  split at h2
  ·cases h2
  ·contradiction
theorem xiB (fc:Int):ftC fc 2≠0:=by
 unfold ftC
 split
 ·decide
 ·assumption
theorem NRel.name {M m P X Z:Nat} {wv:Value} {ws:List ByteArray} {d:Int} {a c k:Nat} {W6 wr W2 Wa W3:World} {ns:List ByteArray} {i a1 c1:Nat} {fc1 fa1:Int} {na:Option Addr} {nc:Nat} {p:UInt8} {free:Bool} {unlike x:ByteArray} {a2:Nat} {fc2 fa2:Int} {one:Obj} {g cap:Nat}
  (h:NRel M m P X Z wv ws d a c k W6 wr ((preL k).take i) 0 ByteArray.empty ns [] i 0 a1 c1 fc1 fa1 na nc none 0) (ha1:a1<=ws.length) (hPX:P<X) (hXW:W6.heap.size<=X) (hZ:Z<X) (hZP:Z≠P) (hd:d<=25)
  (hp:(preL k)[i]?=some p) (hpf:(p=78/\free=false)∨(p=88/\free=true)) (hu:fc1=0->(ns=[]/\unlike=⟨#[]⟩)∨(ns=[unlike]/\p=88)) (ho:NmOut free unlike ws a1 fc1 fa1 x a2 fc2 fa2) (hx:x.size<=3000)
  (hn:Near P wr W2) (hp2:Prs W2 P wv ws a2 c1 fc2 fa2) (ha:Wa=W2.alloc one) (h0:Prs W6 P wv ws (a+1) (c+1) (bnd d c) (bndA d a c))
  (hown:W3.ownsRow (X+1) 9 1 (.slice (some ⟨g,0,none⟩) (i+1) cap) (i+1) (ns.map .string++[.string x])) (hgrow:Wa.grownBy W3 (Value.slice na i nc).ownBlock) (hat:(Value.slice na i nc).ownBlock=some g∨g=W2.heap.size+1) :
  NRel M m P X Z wv ws d a c k W6 (W3.setCell ⟨X,3,none⟩ (.slice (some ⟨g,0,none⟩) (i+1) cap)) ((preL k).take (i+1)) 0 ByteArray.empty (ns++[x]) [] (i+1) 0 a2 c1 fc2 fa2 (some ⟨g,0,none⟩) cap none 0:=by
 subst ha
 have aB:=h.many.keep hPX hn
 have aA:=h.nlE
 have aC:W2.ownsRow (X+1) 9 1 (.slice na i nc) i (ns.map .string):=by have:=aB.names;rw[aA]at this;exact this
 have hF:=ManyN.name (W:=W2) (Wa:=W2.alloc one) (one:=one) (x:=x) (g:=g) (cap:=cap) aB hXW rfl ⟨rfl,rfl,rfl⟩ (by omega) (by rw[aA];exact hown) hgrow hat
 rw[aA]at hF
 have aE:=aB.lt
 have aD:=qxB ho ha1
 refine⟨by simp[aA],h.klE,hF,qjN h0 hF.near hp2 aC hPX (Nat.le_refl X) hgrow,?_,?_,by omega,h.cl,fun q=>?_,h.wf⟩
 ·rw[qtG hp,qiW]
  have hg:=xfZ M (fun b=>qaI M ws m b (d+1)) ws h.got p free hpf unlike hu x
  rcases ho with ⟨q1,q2,q3,q4,q5⟩|⟨q1,q2,q3,q4,q5⟩
  ·have:=hg.1 q1
   rw[q2,q3,q4,q5];exact this
  ·have:=hg.2 q1
   rw[q3,q4,q5];exact this
 ·rw[Below.heap_setCell _ _ _ _ (by show Z≠X;omega),hgrow.block Z (by simp;omega) (fun e=>by have:=qaF aC Z e.symm;omega),Below.heap_alloc _ _ _ (by omega)]
  exact (hn.block Z (by have:=h.many.lt;omega) hZP).trans h.zero
 ·obtain⟨q1,q2⟩:=qzK ho q
  obtain⟨e1,e2,e3,e4⟩:=h.ok q1
  exact⟨by rw[q2];exact e1,aD,e3,e4⟩
theorem NRel.set {M m P X Z:Nat} {wv:Value} {ws:List ByteArray} {d:Int} {a c k:Nat} {W6 wr W2:World} {ps ps':List UInt8} {ns:List ByteArray} {ks:List (T m)} {nl kl a1 c1:Nat} {fc1 fa1:Int} {na:Option Addr} {nc:Nat} {ka:Option Addr} {kc:Nat} {nm nm':Int} {tx tx':ByteArray} {o:Nat} {v:Value} {a2:Nat} {fc2 fa2:Int}
  (h:NRel M m P X Z wv ws d a c k W6 wr ps nm tx ns ks nl kl a1 c1 fc1 fa1 na nc ka kc) (hPX:P<X) (hXW:W6.heap.size<=X) (hZ:Z<X) (hZP:Z≠P) (h0:Prs W6 P wv ws (a+1) (c+1) (bnd d c) (bndA d a c))
  (hn:Near P wr W2) (hp2:Prs W2 P wv ws a2 c1 fc2 fa2) (ho:(o=1/\v=.int .i64 nm' /\ tx'=tx)∨(o=2/\v=.string tx' /\ nm'=nm))
  (hg:Got (foldE M (fun b=>qaI M ws m b (d+1)) ws ps' (stE (k:Int) d a c)) (⟨(k:Int),nm',tx',ns,ks⟩:Nd (T m)) a2 c1 fc2 fa2) (hal:(a2:Int)+d<=(ws.length:Int)+27) (hok:fc2=0->fc1=0/\fa2=fa1/\a2<=ws.length) (hwf : -9999999999<=nm' /\ nm'<=9999999999/\tx'.size<=3000) :
  NRel M m P X Z wv ws d a c k W6 (W2.setCell ⟨X,o,none⟩ v) ps' nm' tx' ns ks nl kl a2 c1 fc2 fa2 na nc ka kc:=by
 have aA:=h.many.keep hPX hn
 have hF:=aA.put hXW ho
 have aB:=aA.lt
 refine⟨h.nlE,h.klE,hF,h0.keep hF.near ((Below.heap_setCell _ _ _ _ (by show P≠X;omega)).trans hp2.box),hg,?_,hal,h.cl,fun q=>?_,hwf⟩
 ·rw[Below.heap_setCell _ _ _ _ (by show Z≠X;omega)]
  exact (hn.block Z (by have:=h.many.lt;omega) hZP).trans h.zero
 ·obtain⟨q1,q2,q3⟩:=hok q
  obtain⟨e1,e2,e3,e4⟩:=h.ok q1
  exact⟨by rw[q2];exact e1,q3,e3,e4⟩
theorem NRel.set2 {M m P X Z:Nat} {wv:Value} {ws:List ByteArray} {d:Int} {a c k:Nat} {W6 wr W2:World} {ps ps':List UInt8} {ns:List ByteArray} {ks:List (T m)} {nl kl a1 c1:Nat} {fc1 fa1:Int} {na:Option Addr} {nc:Nat} {ka:Option Addr} {kc:Nat} {nm nm':Int} {tx tx':ByteArray} {o:Nat} {v:Value} {a2 a3:Nat} {fc2 fa2:Int}
  (h:NRel M m P X Z wv ws d a c k W6 wr ps nm tx ns ks nl kl a1 c1 fc1 fa1 na nc ka kc) (hPX:P<X) (hXW:W6.heap.size<=X) (hZ:Z<X) (hZP:Z≠P) (h0:Prs W6 P wv ws (a+1) (c+1) (bnd d c) (bndA d a c))
  (hn:Near P wr W2) (hp2:Prs W2 P wv ws a3 c1 fc2 fa2) (ho:(o=1/\v=.int .i64 nm' /\ tx'=tx)∨(o=2/\v=.string tx' /\ nm'=nm))
  (hg:Got (foldE M (fun b=>qaI M ws m b (d+1)) ws ps' (stE (k:Int) d a c)) (⟨(k:Int),nm',tx',ns,ks⟩:Nd (T m)) a2 c1 fc2 fa2) (hal:(a2:Int)+d<=(ws.length:Int)+27) (hok:fc2=0->fc1=0/\fa2=fa1/\a2<=ws.length) (hwf : -9999999999<=nm' /\ nm'<=9999999999/\tx'.size<=3000) :
  NRel M m P X Z wv ws d a c k W6 ((W2.setCell ⟨X,o,none⟩ v).setCell ⟨P,1,none⟩ (.int .i64 (a2:Int))) ps' nm' tx' ns ks nl kl a2 c1 fc2 fa2 na nc ka kc:=by
 have aA:=h.many.keep hPX hn
 have hF:=aA.put hXW ho
 have aC:=aA.lt
 have aB:Prs (W2.setCell ⟨X,o,none⟩ v) P wv ws a3 c1 fc2 fa2:=h0.keep hF.near ((Below.heap_setCell _ _ _ _ (by show P≠X;omega)).trans hp2.box)
 refine⟨h.nlE,h.klE,hF.keep hPX (Near.set P 1 _ _),aB.setAt a2,hg,?_,hal,h.cl,fun q=>?_,hwf⟩
 ·rw[Below.heap_setCell _ _ _ _ (by show Z≠P;omega),Below.heap_setCell _ _ _ _ (by show Z≠X;omega)]
  exact (hn.block Z (by have:=h.many.lt;omega) hZP).trans h.zero
 ·obtain⟨q1,q2,q3⟩:=hok q
  obtain⟨e1,e2,e3,e4⟩:=h.ok q1
  exact⟨by rw[q2];exact e1,q3,e3,e4⟩
theorem xhE (k:Nat) (h24:k≠24) (j:Nat) (hj:j<(bs (kdT k)).size) (hj2:j<(kdV k).length):((((bs (kdT k))[j]'hj).toNat:Int)==97)=((kdV k)[j]==65):=by
 have e:(bs (kdT k))[j]'hj=(kdS k)[j]'(by unfold kdS;rw[List.length_map];exact hj2):=by
  rw[qhT]
  unfold kdT
  simp only[if_neg h24]
 rw[e]
 unfold kdS
 rw[List.getElem_map]
 by_cases h:(kdV k)[j]=65
 ·rw[h];rfl
 ·rw[if_neg h]
  have:((kdV k)[j]==65)=false:=by simpa using h
  rw[this];rfl
theorem xhF:∀ k,k<44->(kdV k).length<=3:=by decide
theorem qvF (s:ByteArray) (hs:s.size<=3000) (w:World):Calls Tryz.prog 28 #[.string s] w fun e w'=>Below w.heap.size w w' /\ ∃ (s0:Int) (b1 b2:Option Addr) (l1 l2 k1 k2:Nat),e=.returned (.tuple #[.agg #[.int .i64 s0,.slice b1 l1 k1,.slice b2 l2 k2],.bool (kindB s)]):=by
 refine (qjO s (s.size+7) (by omega) (by omega) w).mono ?_
 rintro e w' ⟨hb,c0,c1,c2,rfl,aA⟩
 refine⟨hb,?_⟩
 obtain⟨s0,a1,l1,k1,a2,l2,k2,rfl,rfl,rfl⟩:=aA.shape
 exact⟨s0,a1,a2,l1,l2,k1,k2,rfl⟩
theorem xeI:∀ k,k<44->(k=5∨k=6)->nmS k=0/\preL k=[75]:=by decide
theorem xhG:∀ k,k<44->(k=37∨k=39)->preL k=(preL k).take (nmS k)++[35]/\lst k=(if k=37 then 0 else 1)/\mst k=(if k=37 then 99 else 12):=by decide
theorem xhH:∀ k,k<44->5<=k->k=24∨k=5∨k=6∨k=37∨k=39∨(preL k).take (nmS k)=preL k:=by decide
theorem NRel.kid {M m P X Z:Nat} {wv:Value} {ws:List ByteArray} {d:Int} {a c k:Nat} {W6 wr v2 v3:World} {ps:List UInt8} {ns:List ByteArray} {ks:List (T m)} {nl kl a1 c1:Nat} {fa1:Int} {na:Option Addr} {nc:Nat} {ka:Option Addr} {kc:Nat} {nm:Int} {tx:ByteArray} {xs:List Value} {t:T m} {c0 c1' c2 c3 c4:Value} {one:Obj} {g cap:Nat} {a2 c2':Nat} {fc2 fa2:Int} {p:UInt8}
  (h:NRel M m P X Z wv ws d a c k W6 wr ps nm tx ns ks nl kl a1 c1 0 fa1 na nc ka kc) (hPX:P<X) (hXW:W6.heap.size<=X) (hZ:Z<X) (hZP:Z≠P) (h0:Prs W6 P wv ws (a+1) (c+1) (bnd d c) (bndA d a c))
  (hp:p=86∨p=65) (hn:Near P (wr.drewN 1) v2) (ht:NodeIn (fun b=>(wr.drewN 1).heap.size<=b/\b<v2.heap.size) v2 m t c0 c1' c2 c3 c4) (hp2:Prs v2 P wv ws a2 c2' fc2 fa2) (hg:Got (qaI M ws m (p==65) (d+1) a1 c1) t a2 c2' fc2 fa2) (hal:(a2:Int)+(d+1)<=(ws.length:Int)+27) (hcl:c2'<=201)
  (hxs:wr.ownsRow (X+1) 25 5 (.slice ka kl kc) kl xs) (hk:∀ j (h:j<ks.length),∃ c0 c1 c2 c3 c4,(xs[j*5]?=some c0/\xs[j*5+1]?=some c1/\xs[j*5+2]?=some c2/\xs[j*5+3]?=some c3/\xs[j*5+4]?=some c4)/\NodeIn (Far (X+1) (.slice na nl nc) (.slice ka kl kc) wr.heap.size) wr m ks[j] c0 c1 c2 c3 c4)
  (hown:v3.ownsRow (X+1) 25 5 (.slice (some ⟨g,0,none⟩) (kl+1) cap) (kl+1) (xs++[c0,c1',c2,c3,c4])) (hgrow:(v2.alloc one).grownBy v3 (Value.slice ka kl kc).ownBlock) (hat:(Value.slice ka kl kc).ownBlock=some g∨g=v2.heap.size+1) :
  NRel M m P X Z wv ws d a c k W6 (v3.setCell ⟨X,4,none⟩ (.slice (some ⟨g,0,none⟩) (kl+1) cap)) (ps++[p]) nm tx ns (ks++[t]) nl (kl+1) a2 c2' fc2 fa2 na nc (some ⟨g,0,none⟩) cap:=by
 have aA:=h.klE
 have hF:=ManyN.kidD (g:=g) (cap:=cap) (xs:=xs) 1 h.many hPX hXW hn ht (by rw[aA];exact hxs) hk (by rw[aA];exact hown) hgrow hat
 rw[aA]at hF
 have aE:=h.many.lt
 have aB:=hn.size
 have aC:wr.heap.size<=v2.heap.size:=aB
 refine⟨h.nlE,by simp[aA],hF,qjN h0 hF.near hp2 hxs hPX (Nat.le_refl X) hgrow,?_,?_,by omega,hcl,fun q=>?_,h.wf⟩
 ·rw[qiW]
  exact xiN M (fun b=>qaI M ws m b (d+1)) ws h.got p hp hg
 ·rw[Below.heap_setCell _ _ _ _ (by show Z≠X;omega),hgrow.block Z (by simp;omega) (fun e=>by have:=qaF hxs Z e.symm;omega),Below.heap_alloc _ _ _ (by omega)]
  exact (hn.block Z (by show Z<wr.heap.size;omega) hZP).trans h.zero
 ·subst q
  obtain⟨aD,e1⟩:=hg.zero
  obtain⟨-,-,-,p4,p5,p6⟩:=qbU M ws m (p==65) (d+1) a1 c1 _ aD
  obtain⟨-,-,-,e4⟩:=h.ok rfl
  exact⟨e1,p6,p4,e4⟩
theorem NRel.start {M m P X Z:Nat} {wv:Value} {ws:List ByteArray} {d:Int} {a c k:Nat} {W6 W7:World} {fc fa:Int} (hX:X=W6.heap.size) (hW7:W7=W6.alloc (.cells #[.int .i64 (k:Int),.int .i64 0,.string ⟨#[]⟩,.slice none 0 0,.slice none 0 0] 25)) (hp:Prs W6 P wv ws (a+1) (c+1) fc fa) (hfc:bnd d c=fc) (hfa:bndA d a c=fa)
  (ha:a<ws.length) (hd:d<=25) (hc:c<=200) (hz:W6.heap[Z]?=some (.cells #[.int .i64 0,.int .i64 0,.string ⟨#[]⟩,.slice none 0 0,.slice none 0 0] 25 (0,0))) :
  NRel M m P X Z wv ws d a c k W6 W7 [] 0 ByteArray.empty [] [] 0 0 (a+1) (c+1) fc fa none 0 none 0:=by
 subst hX
 have hb:Below W6.heap.size W6 W7:=by rw[hW7];exact (Below.refl _ _).alloc (Nat.le_refl _) _
 have hg:=xbI (α:=T m) (k:Int) d a c
 rw[hfc,hfa]at hg
 refine⟨rfl,rfl,xdX (k:Int) 0 ByteArray.empty hW7,hp.same hb,hg,(hb.block Z (Array.getElem?_eq_some_iff.1 hz).1).trans hz,by omega,by omega,fun q=>?_,⟨by omega,by omega,by decide⟩⟩
 rw[<- hfc]at q
 have:=qwJ q
 refine⟨?_,by omega,by omega,by omega⟩
 rw[<- hfa];unfold bndA;rw[if_pos q]
theorem NRel.out {M m P X Z:Nat} {wv:Value} {ws:List ByteArray} {act:Bool} {d:Int} {a c k:Nat} {w W6 wr:World} {ps:List UInt8} {ns:List ByteArray} {ks:List (T m)} {nl kl a1 c1:Nat} {fc1 fa1:Int} {na:Option Addr} {nc:Nat} {ka:Option Addr} {kc:Nat} {nm:Int} {tx:ByteArray}
  (h:NRel M m P X Z wv ws d a c k W6 wr ps nm tx ns ks nl kl a1 c1 fc1 fa1 na nc ka kc) (hZ:Z=w.heap.size) (hX:w.heap.size<X) (h0:Prs w P wv ws a c 0 0) (hn:Near P w W6) (hk:k<44) (hnl:nl<=100) (hkl:kl<=100) (hr:qaI M ws (m+1) act d a c=foldE M (fun b=>qaI M ws m b (d+1)) ws (prt k) (stE (k:Int) d a c))
  (hps:ps=prt k∨(fc1≠0/\∃ qs,prt k=ps++qs)) :
  NPost M (m+1) P wv ws act d a c w (.returned (.agg #[.int .i64 (k:Int),.int .i64 nm,.string tx,.slice na nl nc,.slice ka kl kc])) (put5 wr Z 0 (.int .i64 (k:Int)) (.int .i64 nm) (.string tx) (.slice na nl nc) (.slice ka kl kc)):=by
 subst hZ
 have hw:=h.wf
 have e1:=h.nlE
 have e2:=h.klE
 refine qsX (m:=m+1) h0 (hn.trans h.many.near) h.prs (t:=(⟨(k:Int),nm,tx,ns,ks⟩:Nd (T m))) ?_ h.al h.cl ?_
 ·exact (qwU h.many (wfT _ (by omega) (by omega)) (wfT _ hw.1 hw.2.1) (by omega) (by omega) (by omega)).keep (fun _ _=>rfl) (fun b hb=>⟨by omega,hb.2⟩)
 ·rw[hr]
  rcases hps with rfl|⟨hf,qs,hq⟩
  ·exact h.got
  ·rw[hq,qiW]
   exact xgB M _ ws h.got hf qs
end Go.Proofs.YtelogmjfekhmpaaGreatDoor
