import Derived.Test.YtelogmjfekhmpaaGreatDoorB32
import Derived.Deep.AppendLies
import Derived.Deep.Cut
import Derived.Deep.CutRange
import Derived.OwnWalk
import Derived.Test.YtelogmjfekhmpaaGreatDoorB25
import Derived.Test.YtelogmjfekhmpaaGreatDoorB26
namespace Go.Proofs.YtelogmjfekhmpaaGreatDoor
open Go.RowKit Go.Proofs.Tryz
theorem Tryz.info_strF:(prog.info? 9).map (fun i=>(i.zero,i.size,i.bytes))=some (some (.string ⟨#[]⟩),1,16):=by kernel_rfl
theorem Tryz.info_nodeF:(prog.info? 25).map (fun i=>(i.zero,i.size,i.bytes))=some (some (.agg #[.int .i64 0,.int .i64 0,.string ⟨#[]⟩,.slice none 0 0,.slice none 0 0]),5,80):=by kernel_rfl
def atP(w:World)(P:Nat):Nat:=match w.cell? ⟨P,1,none⟩ with|some (.int _ x)=>x.toNat|_=>0
def ftP(w:World)(P:Nat):Int:=match w.cell? ⟨P,3,none⟩ with|some (.int _ x)=>x|_=>0
def leftP(w:World)(P H:Nat):Nat:=if ftP w P=0 then H+1-atP w P else 0
theorem Prs.left{w:World}{P:Nat}{wv:Value}{ws:List ByteArray}{a c:Nat}{fc fa:Int}(h:Prs w P wv ws a c fc fa)(H:Nat):leftP w P H=if fc=0 then H+1-a else 0:=by
 obtain⟨⟨-,c1,-,c3,-⟩,-⟩:=h.cells
 have b:atP w P=a:=by unfold atP;rw[c1];simp
 have d:ftP w P=fc:=by unfold ftP;rw[c3]
 unfold leftP
 rw[b,d]
def FInv(M m:Nat)(ws:List ByteArray)(d:Int)(a c:Nat)(fc fa:Int)(ns:List ByteArray)(ks:List (T m))(a1 c1:Nat)(fc1 fa1:Int):Prop:=
 (fc≠0->fc1=fc/\fa1=fa) /\
 (fc=0->(fc1=0->fa1=0/\a1<=ws.length/\c1<=200/\d<=24/\∃f,ws.length+1<=a1+f/\qaR (qaI M ws m false (d+1)) ws (ws.length+1) (⟨24,0,ByteArray.empty,[],[]⟩:Nd (T m)) a c=qaR (qaI M ws m false (d+1)) ws f (⟨24,0,ByteArray.empty,ns,ks⟩:Nd (T m)) a1 c1) /\
  (fc1≠0->∃e:Er,qaR (qaI M ws m false (d+1)) ws (ws.length+1) (⟨24,0,ByteArray.empty,[],[]⟩:Nd (T m)) a c=.error e/\fc1=e.1/\fa1=(e.2:Int))) /\
 (a1:Int)+d<=(ws.length:Int)+26/\c1<=201
theorem FInv.start{M m:Nat}{ws:List ByteArray}{d:Int}{a c:Nat}{fc fa:Int}(ha:a<=ws.length)(hd:d<=25)(hc:c<=201)(h0:fc=0->fa=0/\d<=24/\c<=200):FInv M m ws d a c fc fa [] [] a c fc fa:=
 ⟨fun _=>⟨rfl,rfl⟩,fun e=>⟨fun _=>⟨(h0 e).1,ha,(h0 e).2.2,(h0 e).2.1,ws.length+1,by omega,rfl⟩,fun h=>absurd e h⟩,by omega,hc⟩
theorem FInv.bad {M m:Nat} {ws:List ByteArray} {d:Int} {a c:Nat} {fc fa:Int} {ns:List ByteArray} {ks:List (T m)} {a1 c1:Nat} {fc1 fa1:Int} (h:FInv M m ws d a c fc fa ns ks a1 c1 fc1 fa1) (h1:fc1≠0) (t:Nd (T m)) (a2:Nat) :
  (fc=0->Got (qaR (qaI M ws m false (d+1)) ws (ws.length+1) (⟨24,0,ByteArray.empty,[],[]⟩:Nd (T m)) a c) t a2 c1 fc1 fa1)/\(fc≠0->fc1=fc/\fa1=fa):=by
 refine⟨fun h0=>?_,h.1⟩
 obtain⟨e,b,f,g⟩:=(h.2.1 h0).2 h1
 rw[b]
 exact⟨f,g,h1⟩
theorem FInv.ok{M m:Nat}{ws:List ByteArray}{d:Int}{a c:Nat}{fc fa:Int}{ns:List ByteArray}{ks:List (T m)}{a1 c1:Nat}{fa1:Int}(h:FInv M m ws d a c fc fa ns ks a1 c1 0 fa1):fc=0/\fa1=0/\a1<=ws.length/\c1<=200/\d<=24:=by
 have b:fc=0:=by
  rcases Int.lt_trichotomy fc 0 with q|q|q
  ·have:=(h.1 (by omega)).1;omega
  ·exact q
  ·have:=(h.1 (by omega)).1;omega
 obtain⟨e,f,g3,g4,-⟩:=(h.2.1 b).1 rfl
 exact⟨b,e,f,g3,g4⟩
theorem FInv.done {M m:Nat} {ws:List ByteArray} {d:Int} {a c:Nat} {fc fa:Int} {ns:List ByteArray} {ks:List (T m)} {a1 c1:Nat} {fa1:Int} (h:FInv M m ws d a c fc fa ns ks a1 c1 0 fa1) (he:(wordD ws a1==bs [101,110,100])=true) :
  (fc=0->Got (qaR (qaI M ws m false (d+1)) ws (ws.length+1) (⟨24,0,ByteArray.empty,[],[]⟩:Nd (T m)) a c) ⟨24,0,ByteArray.empty,ns,ks⟩ (a1+1) c1 0 fa1)/\(fc≠0->(0:Int)=fc/\fa1=fa):=by
 refine⟨fun h0=>?_,h.1⟩
 obtain⟨rfl,e,g3,g4,f,g,b⟩:=(h.2.1 h0).1 rfl
 obtain⟨f,rfl⟩:∃q,f=q+1:=⟨f-1,by omega⟩
 rw[b,qaR]
 cases hw:ws[a1]? with
 | none=>rw[qbM hw]at he;exact absurd he (by decide)
 | some s=>
  rw[qdF hw]at he
  dsimp only
  rw[if_pos he]
  exact Got.okk _ _ _
theorem FInv.no {M m:Nat} {ws:List ByteArray} {d:Int} {a c:Nat} {fc fa:Int} {ns:List ByteArray} {ks:List (T m)} {a1 c1:Nat} {fa1:Int} (h:FInv M m ws d a c fc fa ns ks a1 c1 0 fa1) (he:(wordD ws a1==bs [101,110,100])=false) (hn:qcM (ns++[wordD ws a1]) ns.length=false) (t:Nd (T m)) :
  (fc=0->Got (qaR (qaI M ws m false (d+1)) ws (ws.length+1) (⟨24,0,ByteArray.empty,[],[]⟩:Nd (T m)) a c) t a1 c1 (ftC 0 2) (ftA 0 fa1 a1))/\(fc≠0->ftC 0 2=fc/\ftA 0 fa1 a1=fa):=by
 refine⟨fun h0=>?_,fun h0=>absurd h.ok.1 h0⟩
 obtain⟨-,e,g3,g4,f,g,b⟩:=(h.2.1 h0).1 rfl
 obtain⟨f,rfl⟩:∃q,f=q+1:=⟨f-1,by omega⟩
 rw[b,qaR]
 cases hw:ws[a1]? with
 | none=>exact⟨rfl,rfl,by decide⟩
 | some s=>
  rw[qdF hw]at he hn
  dsimp only
  rw[if_neg (by rw[he];decide),if_neg (by rw[hn];decide)]
  exact⟨rfl,rfl,by decide⟩
theorem qoV{ws:List ByteArray}{a:Nat}(h:nameB (wordD ws a)=true):a<ws.length:=by
 rcases Nat.lt_or_ge a ws.length with b|b
 ·exact b
 ·rw[qbM (List.getElem?_eq_none b),qiQ]at h;cases h
theorem FInv.more {M m:Nat} {ws:List ByteArray} {d:Int} {a c:Nat} {fc fa:Int} {ns:List ByteArray} {ks:List (T m)} {a1 c1:Nat} {fa1:Int} (h:FInv M m ws d a c fc fa ns ks a1 c1 0 fa1) (he:(wordD ws a1==bs [101,110,100])=false) (hn:qcM (ns++[wordD ws a1]) ns.length=true) (hl:a1<ws.length)
  {t:T m} {a2 c2:Nat} {fc2 fa2:Int} (hg:Got (qaI M ws m false (d+1) (a1+1) c1) t a2 c2 fc2 fa2) (ha:(a2:Int)+(d+1)<=(ws.length:Int)+27) (hc:c2<=201):FInv M m ws d a c fc fa (ns++[wordD ws a1]) (ks++[t]) a2 c2 fc2 fa2:=by
 obtain⟨i,-,-,-,l⟩:=h.ok
 refine⟨fun q=>absurd i q,fun _=>?_,by omega,hc⟩
 obtain⟨-,u,g3,g4,f,v,n⟩:=(h.2.1 i).1 rfl
 obtain⟨f,rfl⟩:∃q,f=q+1:=⟨f-1,by omega⟩
 rw[n,qaR]
 cases hw:ws[a1]? with
 | none=>rw[List.getElem?_eq_getElem hl]at hw;cases hw
 | some s=>
  rw[qdF hw]at he hn ⊢
  dsimp only
  rw[if_neg (by rw[he];decide),if_pos hn]
  refine⟨fun q=>?_,fun q=>?_⟩
  ·subst q
   obtain⟨b,rfl⟩:=hg.zero
   obtain⟨-,-,-,j,o,k⟩:=qbS M ws m false (d+1) (a1+1) c1 _ b
   dsimp only at j o k
   rw[b]
   exact⟨rfl,k,j,l,f,by omega,rfl⟩
  ·obtain⟨e,g,p,r⟩:=hg.bad q
   rw[g]
   exact⟨e,rfl,p,r⟩
set_option maxRecDepth 100000
set_option maxHeartbeats 16000000
theorem qyY(ns:List ByteArray)(s:ByteArray):qcM (ns++[s]) ns.length=(nameB s && (ns.length==0 || ltB (ns.getD (ns.length-1) ByteArray.empty) s) && !(s==bs [101,110,100])):=by
 have b:(ns++[s]).getD ns.length ByteArray.empty=s:=by simp[List.getD]
 unfold qcM qdQ
 rw[b]
 rcases Nat.eq_zero_or_pos ns.length with a|a
 ·have:(ns.length==0)=true:=by simp[a]
  rw[this];simp
 ·have c:(ns++[s]).getD (ns.length - 1) ByteArray.empty=ns.getD (ns.length - 1) ByteArray.empty:=by
   simp only[List.getD_eq_getElem?_getD]
   rw[List.getElem?_append_left (by omega)]
  rw[c]
theorem qqJ{R Y k z:Nat}{e:TypeId}{v:Value}{xs:List Value}{W w2:World}(h:W.ownsRow (Y+1) e z v k xs)(hRX:R<Y)(hn:Near R W w2)(o:Obj):(w2.alloc o).ownsRow (Y+1) e z v k xs:=
 qhX (X:=Y) h hRX hn o
theorem qjI {P X Y k z q:Nat} {e:TypeId} {v u:Value} {xs:List Value} {w W w2 w3:World} {o:Obj} {wv:Value} {ws:List ByteArray} {a c a0 c0:Nat} {fc fa f0 g0:Int} (h0:Prs w P wv ws a0 c0 f0 g0) (hn:Near P w (w3.setCell ⟨X,q,none⟩ u)) (hr:Prs w2 P wv ws a c fc fa) (h:W.ownsRow (Y+1) e z v k xs) (hPX:P<X) (hXY:X<=Y) (hg:(w2.alloc o).grownBy w3 v.ownBlock) :
  Prs (w3.setCell ⟨X,q,none⟩ u) P wv ws a c fc fa:=by
 have b:=hr.lt
 refine h0.keep hn ?_
 rw[Below.heap_setCell _ _ _ _ (by show P≠X;omega),hg.block P (by simp;omega) (fun e=>by have:=qaF h P e.symm;omega),Below.heap_alloc _ _ _ b]
 exact hr.box
theorem qeB{R X Y k z:Nat}{e:TypeId}{v:Value}{xs:List Value}{W w2 w3:World}{o:Obj}(h:W.ownsRow (Y+1) e z v k xs)(hX:X<W.heap.size)(hRX:R<X)(hXY:X<=Y)(hn:Near R W w2)(hg:(w2.alloc o).grownBy w3 v.ownBlock):w3.heap[X]?=W.heap[X]?:=by
 have a:=hn.size
 rw[hg.block X (by simp;omega) (fun e=>by have:=qaF h X e.symm;omega),Below.heap_alloc _ _ _ (by omega)]
 exact hn.block X hX (by omega)
structure FRel(M m P X:Nat)(wv:Value)(ws:List ByteArray)(d:Int)(a c:Nat)(fc fa:Int)(w wr:World)(ns:List ByteArray)(ks:List (T m))(ln a1 c1:Nat)(fc1 fa1:Int)(na:Option Addr)(nc:Nat)(ka:Option Addr)(kc:Nat):Prop where
 nl:ns.length=ln
 kl:ks.length=ln
 few:ln<=3001
 few0:fc1=0->ln<=a1
 many:ManyN P X (X+1) m w wr 24 0 ByteArray.empty ns ks (.slice na ln nc) (.slice ka ln kc)
 prs:Prs wr P wv ws a1 c1 fc1 fa1
 inv:FInv M m ws d a c fc fa ns ks a1 c1 fc1 fa1
 zero:wr.heap[X+1]?=some (.cells #[.int .i64 0,.int .i64 0,.string ⟨#[]⟩,.slice none 0 0,.slice none 0 0] 25 (0,0))
theorem FRel.out {M m P X:Nat} {wv:Value} {ws:List ByteArray} {d:Int} {a c:Nat} {fc fa:Int} {w wr W:World} {ns:List ByteArray} {ks:List (T m)} {ln a1 c1:Nat} {fc1 fa1:Int} {na:Option Addr} {nc:Nat} {ka:Option Addr} {kc:Nat} (h:FRel M m P X wv ws d a c fc fa w wr ns ks ln a1 c1 fc1 fa1 na nc ka kc) (hX:X=w.heap.size) (h0:Prs w P wv ws a c fc fa)
  {a2:Nat} {fc2 fa2:Int} (hn:Near P wr W) (hp:Prs W P wv ws a2 c1 fc2 fa2) (ha:(a2:Int)+d<=(ws.length:Int)+27) (hg:fc=0->Got (qaR (qaI M ws m false (d+1)) ws (ws.length+1) (⟨24,0,ByteArray.empty,[],[]⟩:Nd (T m)) a c) ⟨24,0,ByteArray.empty,ns,ks⟩ a2 c1 fc2 fa2) (hb:fc≠0->fc2=fc/\fa2=fa) :
  FPost M m P wv ws d a c fc fa w (.returned (.agg #[.int .i64 24,.int .i64 0,.string ByteArray.empty,.slice na ln nc,.slice ka ln kc])) (put5 W (X+1) 0 (.int .i64 24) (.int .i64 0) (.string ByteArray.empty) (.slice na ln nc) (.slice ka ln kc)):=by
 have j:=h0.lt
 have e:=h.many.keep (by omega) hn
 have g:=h.nl
 have i:=h.kl
 have f:=h.few
 refine f_exit (X+1) (by omega) h0 e.near hp ?_ ha h.inv.2.2.2 hg hb
 exact (qwU e (wfT _ (by omega) (by omega)) (wfT _ (by omega) (by omega)) (by decide) (by omega) (by omega)).keep (fun _ _=>rfl) (fun b hb=>⟨by omega,hb.2⟩)
theorem qmO{w:World}{B q cap:Nat}{e:TypeId}{na:Option Addr}{xs:List Value}(h:w.ownsRow B e 1 (.slice na (q+1) cap) (q+1) xs):∃g,na=some ⟨g,0,none⟩:=by
 rcases h.2 with ⟨b,k⟩|⟨g,cap,c,b,d,l,f,i,j,a⟩
 ·omega
 ·cases b;exact⟨g,rfl⟩
theorem qmP{w:World}{B q cap g:Nat}{e:TypeId}{ns:List ByteArray}(h:w.ownsRow B e 1 (.slice (some ⟨g,0,none⟩) (q+1) cap) (q+1) (ns.map .string))(hl:ns.length=q+1):w.cell? ⟨g,q,none⟩=some (.string (ns.getD q ByteArray.empty)):=by
 have a:(ns.map Value.string)[q]?=some (.string (ns.getD q ByteArray.empty)):=by
  rw[List.getElem?_map,List.getD_eq_getElem?_getD,List.getElem?_eq_getElem (by omega)]
  rfl
 have:=h.cells (g:=g) rfl q _ a
 rwa [Addr.add_lit,Nat.zero_add]at this
theorem xdZ(M m:Nat)(hI:NSaid M m):FSaid M m:=by
 intro P wv ws d a c fc fa w eC cO cP hp ha hc h0
 have dW:=hp.lt
 obtain⟨X,hX⟩:∃X,X=w.heap.size:=⟨_,rfl⟩
 obtain⟨W1,Z⟩:∃W1,W1=(w.alloc (.cells #[.int .i64 24,.int .i64 0,.string ⟨#[]⟩,.slice none 0 0,.slice none 0 0] 25)).alloc (.cells #[.int .i64 0,.int .i64 0,.string ⟨#[]⟩,.slice none 0 0,.slice none 0 0] 25):=⟨_,rfl⟩
 have cV:W1.heap.size=X+2:=by rw[Z,hX];simp
 have aX:Below w.heap.size w W1:=by rw[Z];exact ((Below.refl _ _).alloc (Nat.le_refl _) _).alloc (by simp) _
 have bT:FRel M m P X wv ws d a c fc fa w W1 [] [] 0 a c fc fa none 0 none 0:=by
  refine⟨rfl,rfl,by omega,fun _=>Nat.zero_le _,⟨Near.of_below aX,?_,⟨rfl,.inl ⟨rfl,rfl⟩⟩,by simp,⟨[],⟨rfl,.inl ⟨rfl,rfl⟩⟩,fun j hj=>absurd hj (Nat.not_lt_zero _)⟩,fun b hb=>(by cases hb),⟨by omega,by omega⟩⟩,hp.same aX,FInv.start ha cO hc h0,?_⟩
  ·rw[Z,hX,Below.heap_alloc _ _ _ (by simp)];exact heap_alloc_new _ _
  ·have:=heap_alloc_new (w.alloc (.cells #[.int .i64 24,.int .i64 0,.string ⟨#[]⟩,.slice none 0 0,.slice none 0 0] 25)) (.cells #[.int .i64 0,.int .i64 0,.string ⟨#[]⟩,.slice none 0 0,.slice none 0 0] 25)
   rw[show (w.alloc (.cells #[.int .i64 24,.int .i64 0,.string ⟨#[]⟩,.slice none 0 0,.slice none 0 0] 25)).heap.size=X+1 by rw[hX];simp]at this
   rw[Z];exact this
 have HI:=Lib.hid hI
 have A:=Lib.hid hp
 have bU:=Lib.hid bT
 have HX:=Lib.hid hX
 have E:P<X:=by omega
 have dX:=hp.few
 have cW:=Lib.hid cP
 clear hI hp h0 aX bT ha hc cP hX
 go_enter func24,ntmps24
 go_wp2_with fail
 rw[<- Z]
 clear Z
 rw[<- HX.out]
 go_loopw [7] (fun _ wr=>∃(G:List ByteArray)(ks:List (T m))(h t c1:Nat)(aR cQ:Int)(na:Option Addr)(H:Nat)(C:Option Addr)(D:Nat),FRel M m P X wv ws d a c fc fa w wr G ks h t c1 aR cQ na H C D) (fun _ wr=>leftP wr P ws.length)
 case atStart=>exact⟨[],[],0,a,c,fc,fa,none,0,none,0,bU.out⟩
 case round=>
  clear bU cV
  obtain⟨G,ks,h,t,c1,aR,cQ,na,H,C,D,hrel⟩:=hrel
  have dP:=hrel.few
  have cX:=hrel.many.lt
  have cY:=hrel.many.xy.2
  have dY:=hrel.inv.2.2.1
  have f:=Lib.hid hrel
  clear hrel
  have dZ:IntKind.i64.wrap ((t:Int)+1)=(t:Int)+1:=by rw[IntKind.wrap_i64];omega
  have dQ:¬X=X+1:=by omega
  have dR:¬P=X+1:=by omega
  have dS:¬P=X:=by omega
  by_cases hf1:aR=0
  case neg=>
   have dT:(aR==0)=false:=by simp[hf1]
   have HP:Hid (FPost M m P wv ws d a c fc fa w _ _):=f.out.out HX.out A.out (W:=wr.setCell ⟨P,1,none⟩ (.int .i64 ((t+1:Nat):Int))) (Near.set P 1 wr _) (f.out.prs.setAt (t+1)) (by omega) (f.out.inv.bad hf1 _ _).1 (f.out.inv.bad hf1 ⟨24,0,ByteArray.empty,G,ks⟩ (t+1)).2
   obtain⟨⟨x0,x1,x2,x3,x4⟩,-⟩:=qaC f.out.many.box
   obtain⟨⟨z0,z1,z2,z3,z4⟩,r⟩:=qaC f.out.zero
   have aY:=r 0
   have aZ:=r 1
   have bA:=r 2
   have bB:=r 3
   have bC:=r 4
   obtain⟨⟨p0,p1,p2,p3,p4⟩,pf⟩:=f.out.prs.cells
   have aN:=pf 1
   clear r pf
   clear f HI A hf1
   go_wp2_with fail
   refine bodyPost_ret (v:=.agg #[.int .i64 24,.int .i64 0,.string ByteArray.empty,.slice na h H,.slice C h D]) (by simp[results,results24,go_sem,z0,z1,z2,z3,z4]) rfl ?_
   exact HP.out
  subst hf1
  obtain⟨h0,cR,eD,dK,dV⟩:=f.out.inv.ok
  have eA:=f.out.few0 rfl
  subst cR
  have HL:=Lib.hid (qfC f.out.prs)
  have Q:Hid (∀n,Calls prog 21 #[.pointer (some ⟨P,0,none⟩)] (wr.drewN n) fun e w'=>e=.returned (.string (wordD ws t))/\∃n,w'=wr.drewN n):=fun n=>by
   refine (qfC (f.out.prs.drewN n)).mono ?_
   rintro e w' ⟨rfl,q,rfl⟩
   exact⟨rfl,n+q,World.drewN_drewN ..⟩
  have F:=Lib.hid (qiP (wordD ws t) [101,110,100])
  have bD:=Lib.hid (qdO f.out.prs.short t)
  obtain⟨s,hs⟩:∃s,wordD ws t=s:=⟨_,rfl⟩
  rw[hs]at HL Q F bD
  cases he:(s==bs [101,110,100]) with
  | true=>
   have bV:=F.out.trans he
   have bE:=Lib.hid (f.out.inv.done (by rw[hs];exact he))
   have HP:Hid (∀n,FPost M m P wv ws d a c fc fa w _ _):=fun n=>f.out.out HX.out A.out (W:=(wr.drewN n).setCell ⟨P,1,none⟩ (.int .i64 ((t+1:Nat):Int))) ((qbG (Near.refl P wr) n).trans (Near.set P 1 _ _)) ((f.out.prs.drewN n).setAt (t+1)) (by omega) bE.out.1 bE.out.2
   obtain⟨⟨x0,x1,x2,x3,x4⟩,-⟩:=qaC f.out.many.box
   obtain⟨⟨z0,z1,z2,z3,z4⟩,r⟩:=qaC f.out.zero
   have aY:=r 0
   have aZ:=r 1
   have bA:=r 2
   have bB:=r 3
   have bC:=r 4
   obtain⟨⟨p0,p1,p2,p3,p4⟩,pf⟩:=f.out.prs.cells
   have aN:=pf 1
   clear r pf
   clear f HI A bE he hs Q F
   go_wp2_with fail
   refine HL.out.mono ?_
   rintro e w2 ⟨rfl,n,rfl⟩
   go_wp2_with fail
   refine bodyPost_ret (v:=.agg #[.int .i64 24,.int .i64 0,.string ByteArray.empty,.slice na h H,.slice C h D]) (by simp[results,results24,go_sem,z0,z1,z2,z3,z4]) rfl ?_
   exact HP.out n
  | false=>
   have bV:=F.out.trans he
   have HN:Hid (∀w',Calls prog 40 #[.string s] w' fun e w''=>e=.returned (.bool (nameB s))/\w''=w'):=fun w'=>qdP s w' (by have:=bD.out;unfold maxLen;omega)
   have K:=Lib.hid (qyY G s)
   rw[he,f.out.nl]at K
   have cZ:Hid (qcM (G++[s]) h=false->∀n,FPost M m P wv ws d a c fc fa w (.returned (.agg #[.int .i64 24,.int .i64 0,.string ByteArray.empty,.slice na h H,.slice C h D])) (put5 (wr.drewN n) (X+1) 0 (.int .i64 24) (.int .i64 0) (.string ByteArray.empty) (.slice na h H) (.slice C h D))->True):=fun _ _ _=>trivial
   clear cZ
   have p:Hid (qcM (G++[s]) h=false->∀n,Calls prog 12 #[.pointer (some ⟨P,0,none⟩),.int .i64 2] (wr.drewN n) fun e w'=>e=.returned (.tuple #[])/\FPost M m P wv ws d a c fc fa w (.returned (.agg #[.int .i64 24,.int .i64 0,.string ByteArray.empty,.slice na h H,.slice C h D])) (put5 w' (X+1) 0 (.int .i64 24) (.int .i64 0) (.string ByteArray.empty) (.slice na h H) (.slice C h D))/\w'.heap[X]?=some (.cells #[.int .i64 24,.int .i64 0,.string ByteArray.empty,.slice na h H,.slice C h D] 25 (0,0))/\w'.heap[X+1]?=some (.cells #[.int .i64 0,.int .i64 0,.string ⟨#[]⟩,.slice none 0 0,.slice none 0 0] 25 (0,0))):=fun hfb n=>by
    refine (qdB (f.out.prs.drewN n) 2).mono ?_
    rintro e w' ⟨rfl,hn,hp⟩
    have L:Near P wr w':=(qbG (Near.refl P wr) n).trans hn
    have bW:=f.out.inv.no (by rw[hs];exact he) (by rw[hs,f.out.nl];exact hfb) ⟨24,0,ByteArray.empty,G,ks⟩
    exact⟨rfl,f.out.out HX.out A.out L hp (by omega) bW.1 bW.2,(L.block X cX (by omega)).trans f.out.many.box,(L.block (X+1) cY (by omega)).trans f.out.zero⟩
   obtain⟨⟨p0,p1,p2,p3,p4⟩,pf⟩:=f.out.prs.cells
   have aN:=pf 1
   clear pf
   have x3:wr.cell? ⟨X,3,none⟩=some (.slice na h H):=(qaC f.out.many.box).1.2.2.2.1
   have x4:wr.cell? ⟨X,4,none⟩=some (.slice C h D):=(qaC f.out.many.box).1.2.2.2.2
   have HE:=Lib.hid he
   have HS:=Lib.hid hs
   clear he hs F
   cases hnm:nameB s with
   | false=>
    rw[hnm]at HN K
    have HF:=Lib.hid (p.out (by rw[K.out];rfl))
    clear p K f A HI HE HS hnm
    go_wp2_with fail
    refine HL.out.mono ?_
    rintro e w2 ⟨rfl,n,rfl⟩
    go_wp2_with fail
    refine (Q.out n).mono ?_
    rintro e w3 ⟨rfl,n,rfl⟩
    go_wp2_with fail
    refine (HN.out _).mono ?_
    rintro e w4 ⟨rfl,rfl⟩
    go_wp2_with fail
    refine (HF.out _).mono ?_
    rintro e w5 ⟨rfl,I,aG,aH⟩
    have HP:=Lib.hid I
    obtain⟨⟨x0,x1,x2,y3,y4⟩,-⟩:=qaC aG
    obtain⟨⟨z0,z1,z2,z3,z4⟩,r⟩:=qaC aH
    have aY:=r 0
    have aZ:=r 1
    have bA:=r 2
    have bB:=r 3
    have bC:=r 4
    clear r I aG aH HF
    go_wp2_with fail
    refine bodyPost_ret (v:=.agg #[.int .i64 24,.int .i64 0,.string ByteArray.empty,.slice na h H,.slice C h D]) (by simp[results,results24,go_sem,z0,z1,z2,z3,z4]) rfl ?_
    exact HP.out
   | true=>
    rw[hnm]at HN K
    have bX:=Lib.hid hnm
    clear hnm
    obtain⟨aS,k⟩:∃aS,(h==0 || ltB (G.getD (h-1) ByteArray.empty) s)=aS:=⟨_,rfl⟩
    have aA:Hid (qcM (G++[s]) h=aS):=by show _=_;rw[K.out,k];simp
    clear K
    cases aS with
    | false=>
     rw[Bool.or_eq_false_iff]at k
     obtain⟨q,rfl⟩:∃q,h=q+1:=⟨h-1,by have:=k.1;simp at this;omega⟩
     have aB:Op.bytesLess (G.getD q ByteArray.empty).toList s.toList=false:=k.2
     have HF:=Lib.hid (p.out aA.out)
     obtain⟨g,hg⟩:=(qmO (by have:=f.out.many.names;rw[f.out.nl]at this;exact this):∃g,na=some ⟨g,0,none⟩)
     subst hg
     have bY:wr.cell? ⟨g,q,none⟩=some (.string (G.getD q ByteArray.empty)):=qmP (by have:=f.out.many.names;rw[f.out.nl]at this;exact this) f.out.nl
     generalize G.getD q ByteArray.empty=z at *
     have dA:(0:Int)<((q+1:Nat):Int):=by omega
     have dB:(((q+1:Nat):Int)-1).toNat=q:=by omega
     have dC:((q+1:Nat):Int)-1=(q:Int):=by omega
     clear p aA f A HI HE HS k bX
     go_wp2_with fail
     refine HL.out.mono ?_
     rintro e w2 ⟨rfl,n,rfl⟩
     go_wp2_with fail
     refine (Q.out n).mono ?_
     rintro e w3 ⟨rfl,n,rfl⟩
     go_wp2_with fail
     refine (HN.out _).mono ?_
     rintro e w4 ⟨rfl,rfl⟩
     go_wp2_with fail
     refine (HF.out _).mono ?_
     rintro e w5 ⟨rfl,I,aG,aH⟩
     have HP:=Lib.hid I
     obtain⟨⟨x0,x1,x2,y3,y4⟩,-⟩:=qaC aG
     obtain⟨⟨z0,z1,z2,z3,z4⟩,r⟩:=qaC aH
     have aY:=r 0
     have aZ:=r 1
     have bA:=r 2
     have bB:=r 3
     have bC:=r 4
     clear r I aG aH HF
     go_wp2_with fail
     refine bodyPost_ret (v:=.agg #[.int .i64 24,.int .i64 0,.string ByteArray.empty,.slice (some ⟨g,0,none⟩) (q+1) H,.slice C (q+1) D]) (by simp[results,results24,go_sem,z0,z1,z2,z3,z4]) rfl ?_
     exact HP.out
    | true=>
     have aT:=Lib.hid f.out.inv
     have bZ:=Lib.hid aA.out
     have cA:t<ws.length:=qoV (by rw[HS.out];exact bX.out)
     have cB:=Lib.hid f.out
     have N:Hid (∀q,h=q+1->∃g z,na=some ⟨g,0,none⟩/\wr.cell? ⟨g,q,none⟩=some (.string z)/\Op.bytesLess z.toList s.toList=true):=fun q hq=>by
      have L:=f.out.many.names
      rw[f.out.nl]at L
      subst hq
      obtain⟨g,rfl⟩:=qmO L
      refine⟨g,G.getD q ByteArray.empty,rfl,qmP L f.out.nl,?_⟩
      have:((q+1==0)=false):=rfl
      rw[this,Bool.false_or]at k
      exact k
     go_upto_region 3 with (first|(go_at_call 21;first|(refine HL.out.mono ?_;clear HL;rintro e w2 ⟨rfl,n,rfl⟩)|(refine (Q.out n).mono ?_;clear Q;rintro e w3 ⟨rfl,n3,rfl⟩)))
     go_cut [7,41] from 8 to 67 (fun sv b wx=>sv=.string s/\b=.bool false/\∃q,wx=wr.drewN q)
     case first=>
      clear p aT cB HI A HE HS bZ f
      rcases Nat.eq_zero_or_pos h with bM|bM
      ·subst bM
       clear k
       go_wp2_with fail
       refine (HN.out _).mono ?_
       rintro e w4 ⟨rfl,rfl⟩
       go_wp2_with fail
       go_meet
       exact⟨rfl,rfl,_,rfl⟩
      ·obtain⟨q,rfl⟩:∃q,h=q+1:=⟨h-1,by omega⟩
       obtain⟨g,z,rfl,bY,aB⟩:=N.out q rfl
       have dA:(0:Int)<((q+1:Nat):Int):=by omega
       have dB:(((q+1:Nat):Int)-1).toNat=q:=by omega
       have dC:((q+1:Nat):Int)-1=(q:Int):=by omega
       clear k N bM
       go_wp2_with fail
       refine (HN.out _).mono ?_
       rintro e w4 ⟨rfl,rfl⟩
       go_wp2_with fail
       go_meet
       exact⟨rfl,rfl,_,rfl⟩
     case rest=>
      obtain⟨rfl,rfl,q,rfl⟩:=hcut
      clear N HN p k bV x3 x4
      have aO:=f.out.many.keep E (qbG (Near.refl P wr) q)
      have aP:=f.out.prs.drewN q
      have bF:(wr.drewN q).heap[X+1]?=_:=f.out.zero
      obtain⟨W3,bN⟩:∃W3,W3=wr.drewN q:=⟨_,rfl⟩
      rw[<- bN]at aO aP bF
      rw[<- bN]
      clear bN
      obtain⟨⟨p0,p1,p2,p3,p4⟩,pf⟩:=aP.cells
      have aN:=pf 1
      obtain⟨W4,bO⟩:∃W4,W4=W3.setCell ⟨P,1,none⟩ (.int .i64 ((t:Int)+1)):=⟨_,rfl⟩
      have S:=aO.keep E (Near.set P 1 W3 (.int .i64 ((t:Int)+1)))
      have bG:Prs (W3.setCell ⟨P,1,none⟩ (.int .i64 ((t:Int)+1))) P wv ws (t+1) c1 0 0:=aP.setAt (t+1)
      have bH:(W3.setCell ⟨P,1,none⟩ (.int .i64 ((t:Int)+1))).heap[X+1]?=_:=(Below.heap_setCell _ _ _ _ (by show X+1≠P;omega)).trans bF
      rw[<- bO]at S bG bH
      have U:Hid (W4.ownsRow (X+1+1) 9 1 (.slice na h H) h (G.map .string)):=by
       have:=S.names
       rw[f.out.nl]at this;exact this
      have dD:W3.cell? ⟨X,3,none⟩=some (.slice na h H):=(qaC aO.box).1.2.2.2.1
      have cC:=S.lt
      have cD:=S.xy.2
      have aC:=Lib.hid S
      have cE:=Lib.hid bG
      have cF:=Lib.hid bH
      obtain⟨dL,J,aI,aJ,aK⟩:=info_parts Tryz.info_strF
      have aD:Hid (_/\_/\_/\_):=⟨J,aI,aJ,aK⟩
      clear J aI aJ aK aO aP bF S bG bH pf
      go_upto_region 7 with fail
      rw[<- bO]
      clear bO p0 p1 p2 p3 p4 aN dD
      have x3:W4.cell? ⟨X,3,none⟩=some (.slice na h H):=(qaC aC.out.box).1.2.2.2.1
      go_wp2_with (at_builtin;refine wpList_append_lies _ rfl (.tmp 54) (.tmp 56) 22 rfl (X+1+1) 9 dL _ 1 16 underlying22 aD.out.1 aD.out.2.1 aD.out.2.2.1 aD.out.2.2.2 rfl (by decide) (.slice na h H) h (G.map .string) rfl (U.out.alloc _) ⟨W4.heap.size,0,none⟩ 1 1 [.string s] rfl rfl (World.news_of_block (heap_alloc_new W4 _)) (by simp[Value.oneCell']) (by decide) (by unfold maxLen;omega) (by omega) (by simp;omega) (W4.heap.size+1) (by simp) ?_;intro g cap w5 aL i aV cS;refine Hid.out ?_)
      refine Lib.hid ?_
      have B:=ManyN.name (W:=W4) (Wa:=W4.alloc (.cells #[.string s] 9)) (one:=.cells #[.string s] 9) (x:=s) (g:=g) (cap:=cap) aC.out (by have:=HX.out;omega) rfl ⟨rfl,rfl,rfl⟩ (by have:=bD.out;omega) (by rw[f.out.nl];exact aL) i aV
      rw[f.out.nl]at B
      have bI:=qjI (q:=3) (u:=.slice (some ⟨g,0,none⟩) (h+1) cap) A.out B.near cE.out U.out E (Nat.le_succ X) i
      have bJ:(w5.setCell ⟨X,3,none⟩ (.slice (some ⟨g,0,none⟩) (h+1) cap)).heap[X+1]?=_:=(Below.heap_setCell _ _ _ _ (by show X+1≠X;omega)).trans ((qeB (X:=X+1) (Y:=X+1) U.out cD (by omega) (Nat.le_refl _) (Near.refl P W4) i).trans cF.out)
      obtain⟨V,hV⟩:∃V,V=w5.setCell ⟨X,3,none⟩ (.slice (some ⟨g,0,none⟩) (h+1) cap):=⟨_,rfl⟩
      have y3:w5.cell? ⟨X,3,none⟩=some (.slice na h H):=(qaC ((qeB (X:=X) (Y:=X+1) U.out cC E (Nat.le_succ X) (Near.refl P W4) i).trans aC.out.box)).1.2.2.2.1
      have dE:w5.frozen? ⟨X,3,none⟩=false:=(qaC ((qeB (X:=X) (Y:=X+1) U.out cC E (Nat.le_succ X) (Near.refl P W4) i).trans aC.out.box)).2 3
      rw[<- hV]at B bI bJ
      have cG:=Lib.hid B
      have dF:=Lib.hid bI
      have dG:=Lib.hid bJ
      have cH:=B.lt
      have cI:=B.xy.2
      have x4:V.cell? ⟨X,4,none⟩=some (.slice C h D):=(qaC B.box).1.2.2.2.2
      obtain⟨xs,bP,cT⟩:=B.kids
      have dH:=hidF cT
      have aE:Hid (V.ownsRow (X+1+1) 25 5 (.slice C h D) h xs):=by
       rw[f.out.kl]at bP;exact bP
      have eB:IntKind.i64.wrap (d+1)=d+1:=by rw[IntKind.wrap_i64];omega
      have HK:=Lib.hid (HI.out P wv ws false (d+1) (t+1) c1 V.drew (by omega) (by omega) (by have:=cW.out;omega) (dF.out.drewN 1) (by omega) dK)
      obtain⟨dM,J,aI,aJ,aK⟩:=info_parts Tryz.info_nodeF
      have aQ:Hid (_/\_/\_/\_):=⟨J,aI,aJ,aK⟩
      clear J aI aJ aK bP cT B bI bJ aL i aV cS aC U cE cF x3 aD
      go_wp2_with fail
      rw[<- hV]
      clear hV y3 dE
      go_region_law (first
       | (refine step_append_lies _ (by rfl) (.tmp 60) (.tmp 65) 23 (by rfl) (X+1+1) 25 dM _ 5 80 underlying23 aQ.out.1 aQ.out.2.1 aQ.out.2.2.1 aQ.out.2.2.2 rfl (by decide) (.slice C h D) h xs (by rfl) (aU _) ⟨v2.heap.size,0,none⟩ 1 1 [.int .i64 t0,.int .i64 t1,.string t2,.slice ta tl tc,.slice ua ul uc] (by rfl) rfl (World.news_of_block (heap_alloc_new v2 _)) (by simp[Value.oneCell']) (by decide) (by unfold maxLen;omega) (by omega) (by simp;omega) (v2.heap.size+1) (by simp) ?_;intro g2 y v3 aM l aW aB;have bK:=(qeB (W:=V.drew) (X:=X) (Y:=X+1) aE.out cH E (Nat.le_succ X) O l).trans cG.out.box;have cJ:v3.cell? ⟨X,4,none⟩=some (.slice C h D):=(by simp[World.cell?,bK]);have cK:v3.frozen? ⟨X,4,none⟩=false:=(by simp[World.frozen?,bK]))
       | (go_simp;go_at_call 11;refine HK.out.mono ?_;rintro e v2 ⟨O,t5,f0,f1,f2,f3,f4,a5,c5,bQ,cU,rfl,bR,I,dN,dO,bS⟩;obtain⟨t0,t1,t2,ta,tl,tc,ua,ul,uc,rfl,rfl,rfl,rfl,rfl⟩:=bR.shape;have dU:V.heap.size<=v2.heap.size:=O.size;have aU:=fun o=>qqJ (R:=P) (Y:=X+1) (W:=V.drew) aE.out (by omega) O o;have cL:v2.cell? ⟨X,4,none⟩=some (.slice C h D):=(World.cell?_of_block (O.block X (by simpa using cH) (by omega))).trans x4;have dI:(v2.alloc (.cells #[.int .i64 t0,.int .i64 t1,.string t2,.slice ta tl tc,.slice ua ul uc] 25)).cell? ⟨X,4,none⟩=some (.slice C h D):=(World.cell?_of_block (Below.heap_alloc _ _ _ (by show X<_;omega))).trans cL))
      all_goals
       have hF:=ManyN.kidD (g:=g2) (cap:=y) (xs:=xs) 1 cG.out E (by have:=HX.out;omega) O bR (by rw[f.out.kl];exact aE.out) dH.out (by rw[f.out.kl];exact aM) l aW
       rw[f.out.kl]at hF
       have cM:=qjI (q:=4) (u:=.slice (some ⟨g2,0,none⟩) (h+1) y) A.out hF.near I aE.out E (Nat.le_succ X) l
       have cN:(v3.setCell ⟨X,4,none⟩ (.slice (some ⟨g2,0,none⟩) (h+1) y)).heap[X+1]?=_:=(Below.heap_setCell _ _ _ _ (by show X+1≠X;omega)).trans ((qeB (W:=V.drew) (X:=X+1) (Y:=X+1) aE.out cI (by omega) (Nat.le_refl _) O l).trans dG.out)
       have bL:=aT.out.more (by rw[HS.out];exact HE.out) (by rw[HS.out,f.out.nl];exact bZ.out) cA bS dN dO
       rw[HS.out]at bL
       have aF:bQ=0->t+1<a5:=fun q=>by
        subst q
        have:=qbS M ws m false (d+1) (t+1) c1 _ bS.zero.1
        exact this.2.2.2.2.1
       have HF:Hid (FRel M m P X wv ws d a c fc fa w (v3.setCell ⟨X,4,none⟩ (.slice (some ⟨g2,0,none⟩) (h+1) y)) (G++[s]) (ks++[t5]) (h+1) a5 c5 bQ cU (some ⟨g,0,none⟩) cap (some ⟨g2,0,none⟩) y):=
        ⟨by simp[f.out.nl],by simp[f.out.kl],by omega,fun q=>by have:=aF q;omega,hF,cM,bL,cN⟩
       have dJ:Hid (leftP (v3.setCell ⟨X,4,none⟩ (.slice (some ⟨g2,0,none⟩) (h+1) y)) P ws.length<leftP wr P ws.length):=by
        show _<_
        rw[HF.out.prs.left,f.out.prs.left,if_pos rfl]
        split
        ·rename_i q;have:=aF q;omega
        ·omega
       clear hF cM cN bL aF aM l aW aB bR I bS O aU cL dI cJ cK bK
       go_wp2_with fail
       go_roundw
       case rel=>exact⟨G++[s],ks++[t5],h+1,a5,c5,bQ,cU,some ⟨g,0,none⟩,cap,some ⟨g2,0,none⟩,y,HF.out⟩
       case measure=>exact dJ.out
theorem xjJ{M:Nat}{s:ByteArray}{l0 l1:Int}{l2:ByteArray}(h:leafW M s=some (l0,l1,l2))(hs:s.size<=3000):(Lit.int .i64 l0).wf=true/\(Lit.int .i64 l1).wf=true/\l2.size<=10000:=by
 have b:=qcU h
 dsimp only at b
 have a:=b.2.2
 have d:l0=1∨l0=2∨l0=3:=by omega
 refine⟨wfT _ (by omega) (by omega),?_,?_⟩
 ·rcases d with rfl|rfl|rfl
  ·simp only[qaO,if_true,Bool.and_eq_true,decide_eq_true_eq]at a;exact wfT _ (by omega) (by omega)
  ·rw[qaO,if_neg (by decide),if_pos rfl]at a
   simp only[Bool.and_eq_true,beq_iff_eq]at a
   exact wfT _ (by omega) (by omega)
  ·rw[qaO,if_neg (by decide),if_neg (by decide),if_pos rfl]at a
   simp only[Bool.and_eq_true,decide_eq_true_eq]at a
   exact wfT _ (by omega) (by omega)
 ·unfold leafW at h
  cases hr:readT (M+1) s with
  | none=>rw[hr]at h;cases h
  | some t=>
   rw[hr]at h
   dsimp only at h
   split at h
   ·cases h
    have c:=(qeV hr).2.2
    rw[txtL]at c
    rcases d with e|e|e
    ·rw[e]at a
     simp only[qaO,if_true,Bool.and_eq_true]at a
     have:=qaG _ a.1.1.2
     omega
    ·rw[if_neg (by omega),if_pos e]at c
     have:=congrArg List.length c
     simp at this
     have f:(Nd.text t).data.size=(Nd.text t).size:=rfl
     omega
    ·rw[e,qaO,if_neg (by decide),if_neg (by decide),if_pos rfl]at a
     simp only[Bool.and_eq_true]at a
     have:=qaG _ a.1.1.2
     omega
   ·cases h
theorem qiB (M m:Nat) (hM:3000<=M) (hI:NSaid M m) (P:Nat) (wv:Value) (ws:List ByteArray) (act:Bool) (d:Int) (a c:Nat) (w:World) (hcase:opW (wordD ws a)=0∨act≠decide ((36:Int)<=(opW (wordD ws a):Int))∨opW (wordD ws a)=24) :
  1<=d->d<=25->26<=d+((m+1:Nat):Int)->Prs w P wv ws a c 0 0->a<=ws.length->c<=200->Calls prog 11 #[.pointer (some ⟨P,0,none⟩),.bool act,.int .i64 d] w (NPost M (m+1) P wv ws act d a c w):=by
 intro cE bQ cN hp ha hc
 have cG:=hp.lt
 obtain⟨j,aB⟩:∃j,j=w.alloc (.cells #[.int .i64 0,.int .i64 0,.string ⟨#[]⟩,.slice none 0 0,.slice none 0 0] 25):=⟨_,rfl⟩
 have aJ:Below w.heap.size w j:=by rw[aB];exact (Below.refl _ _).alloc (Nat.le_refl _) _
 have cH:j.heap.size=w.heap.size+1:=by rw[aB];simp
 have bE:j.heap[w.heap.size]?=some (.cells #[.int .i64 0,.int .i64 0,.string ⟨#[]⟩,.slice none 0 0,.slice none 0 0] 25 (0,0)):=by rw[aB];exact heap_alloc_new _ _
 have aK:=hp.same aJ
 have A:=Lib.hid hp
 have K:=Lib.hid aK
 have B:Hid (Near P w j):=Near.of_below aJ
 have C:=Lib.hid bE
 have cI:=hp.few
 obtain⟨⟨q0,q1,q2,q3,q4⟩,-⟩:=aK.cells
 have V:=Lib.hid hp.short
 clear hp aJ bE aK q0 q1 q2 q4
 go_enter func11,ntmps11
 go_upto_region 1 with fail
 rw[<- aB]
 clear aB
 go_upto_if 26 with fail
 go_cut [] from 18 to 28 (fun wx=>Near P j wx/\Prs wx P wv ws a c (if 24<d then 3 else 0) (if 24<d then (a:Int) else 0))
 case first=>
  have D:=Lib.hid (qdB K.out 3)
  have HE:Hid (¬24<d->Near P j j/\Prs j P wv ws a c (if 24<d then 3 else 0) (if 24<d then (a:Int) else 0)):=fun h=>by rw[if_neg h,if_neg h];exact⟨Near.refl P j,K.out⟩
  by_cases hd:24<d
  ·clear HE
   go_wp2_with fail
   refine D.out.mono ?_
   rintro e w2 ⟨rfl,u,n⟩
   have X:Hid (Near P j w2/\Prs w2 P wv ws a c (if 24<d then 3 else 0) (if 24<d then (a:Int) else 0)):=by rw[if_pos hd,if_pos hd];exact⟨u,n⟩
   clear u n D
   go_wp2_with fail
   go_meet
   exact X.out
  ·have X:=Lib.hid (HE.out hd)
   clear D HE
   go_wp2_with fail
   go_meet
   exact X.out
 case rest=>
  obtain⟨bR,bA⟩:=hcut
  have aL:=Lib.hid bR
  have aM:=Lib.hid bA
  obtain⟨⟨q0,q1,q2,cF,q4⟩,-⟩:=bA.cells
  clear bR bA q0 q1 cF q4 q3
  go_upto_if 33 with fail
  go_cut [] from 18 to 35 (fun wx=>Near P j wx/\Prs wx P wv ws a c (bnd d c) (bndA d a c))
  case first=>
   have D:=Lib.hid (qdB aM.out 4)
   have HB:Hid ((200<=c->ftC (if 24<d then 3 else 0) 4=bnd d c/\ftA (if 24<d then 3 else 0) (if 24<d then (a:Int) else 0) a=bndA d a c)/\(¬200<=c->(if 24<d then 3 else 0)=bnd d c/\(if 24<d then (a:Int) else 0)=bndA d a c)):=by
    refine⟨fun h=>?_,fun h=>?_⟩
    ·unfold bnd bndA ftC ftA bnd
     by_cases hd:24<d
     ·simp only[if_pos hd];exact⟨by decide,by rw[if_neg (by decide),if_neg (by decide)]⟩
     ·simp only[if_neg hd,if_pos h];exact⟨by decide,by rw[if_pos (by decide),if_neg (by decide)]⟩
    ·unfold bnd bndA bnd
     by_cases hd:24<d
     ·simp only[if_pos hd];exact⟨trivial,by rw[if_neg (by decide)]⟩
     ·simp only[if_neg hd,if_neg h];exact⟨trivial,by rw[if_pos (by decide)]⟩
   by_cases hc2:200<=c
   ·have cJ:(c:Int) ≥ 200:=by omega
    have bZ:(200:Int)<=(c:Int):=by omega
    rw[(HB.out.1 hc2).1,(HB.out.1 hc2).2]at D
    clear HB
    go_wp2_with fail
    refine D.out.mono ?_
    rintro e w2 ⟨rfl,u,n⟩
    have X:Hid (Near P j w2/\Prs w2 P wv ws a c (bnd d c) (bndA d a c)):=⟨aL.out.trans u,n⟩
    clear u n D
    go_wp2_with fail
    go_meet
    exact X.out
   ·have bZ:¬(200:Int)<=(c:Int):=by omega
    have X:Hid (Near P j wc/\Prs wc P wv ws a c (bnd d c) (bndA d a c)):=⟨aL.out,by
     have:=aM.out
     rw[(HB.out.2 hc2).1,(HB.out.2 hc2).2]at this
     exact this⟩
    clear HB D
    go_wp2_with fail
    go_meet
    exact X.out
  case rest=>
   clear q2 aM aL
   obtain⟨u,n⟩:=hcut
   obtain⟨J,bB⟩:∃J,bnd d c=J:=⟨_,rfl⟩
   obtain⟨R,bC⟩:∃R,bndA d a c=R:=⟨_,rfl⟩
   rw[bB,bC]at n
   have E:=Lib.hid bB
   have F:=Lib.hid bC
   clear bB bC
   obtain⟨⟨q0,q1,q2,q3,q4⟩,qf⟩:=n.cells
   have cA:=qf 2
   have cK:IntKind.i64.wrap ((c:Int)+1)=(c:Int)+1:=by rw[IntKind.wrap_i64];omega
   obtain⟨W3,aG⟩:∃W3,W3=wc.setCell ⟨P,2,none⟩ (.int .i64 ((c:Int)+1)):=⟨_,rfl⟩
   have bF:Near P j W3:=by rw[aG];exact u.trans (Near.set P 2 _ _)
   have bG:Prs W3 P wv ws a (c+1) J R:=by rw[aG];exact n.setNo (c+1)
   have bH:=Lib.hid bF
   have aN:=Lib.hid bG
   clear u n bF bG qf q0 q1 q3 q4
   have HL:=Lib.hid (qfC aN.out)
   have L:=Lib.hid (qdO V.out a)
   obtain⟨s,hs⟩:∃s,wordD ws a=s:=⟨_,rfl⟩
   rw[hs]at HL L
   have N:=Lib.hid hs
   clear hs
   go_upto_region 8 with fail
   rw[<- aG]
   clear aG q2 cA
   go_upto_if 47 with (first|(go_at_call 21;refine HL.out.mono ?_;clear HL;rintro e w4 ⟨rfl,n4,rfl⟩))
   obtain⟨W4,aH⟩:∃W4,W4=W3.drewN n4:=⟨_,rfl⟩
   have aO:Near P j W4:=by rw[aH];exact qbG bH.out n4
   have bI:Prs W4 P wv ws a (c+1) J R:=by rw[aH];exact aN.out.drewN n4
   rw[<- aH]
   have y:=Lib.hid aO
   have z:=Lib.hid bI
   have cB:=aO.size
   clear aO bI aH bH aN
   go_cut [7] from 18 to 63 (fun sv wx=>sv=.string s/\Near P j wx/\Prs wx P wv ws a (c+1) J R/\(act=false->leafW M s=none/\freeB s=false))
   case first=>
    cases act with
    | true=>
     have X:Hid (Near P j W4/\Prs W4 P wv ws a (c+1) J R/\(true=false->leafW M s=none/\freeB s=false)):=⟨y.out,z.out,fun h=>(by cases h)⟩
     clear y z
     go_wp2_with fail
     go_meet
     exact⟨rfl,X.out⟩
    | false=>
     have HA:=Lib.hid (qsU M hM P s L.out W4)
     go_wp2_with fail
     refine HA.out.mono ?_
     rintro e x ⟨p,⟨l,hl,rfl⟩|⟨hl,hf,g,cO,bS,rfl⟩|⟨hl,hf,rfl⟩⟩
     ·obtain⟨l0,l1,l2⟩:=l
      dsimp only at hl ⊢
      have aP:=xjJ hl L.out
      obtain⟨q,r⟩:∃q,q=x.alloc (.cells #[.int .i64 l0,.int .i64 l1,.string l2,.slice none 0 0,.slice none 0 0] 25):=⟨_,rfl⟩
      have f:Below x.heap.size x q:=by rw[r];exact (Below.refl _ _).alloc (Nat.le_refl _) _
      have aQ:q.heap.size=x.heap.size+1:=by rw[r];simp
      have bJ:=p.size
      have G:Near P j q:=(y.out.trans (Near.of_below p)).trans (Near.of_below f)
      have o:Prs q P wv ws a (c+1) J R:=(z.out.same p).same f
      obtain⟨⟨q0,q1,q2,q3,q4⟩,qf⟩:=o.cells
      have aR:=qf 1
      have bK:IntKind.i64.wrap ((a:Int)+1)=(a:Int)+1:=by rw[IntKind.wrap_i64];omega
      have HP:Hid (NPost M (m+1) P wv ws false d a c w (.returned (.agg #[.int .i64 l0,.int .i64 l1,.string l2,.slice none 0 0,.slice none 0 0])) (put5 (q.setCell ⟨P,1,none⟩ (.int .i64 ((a+1:Nat):Int))) w.heap.size 0 (.int .i64 l0) (.int .i64 l1) (.string l2) (.slice none 0 0) (.slice none 0 0))):=by
       refine qsX (m:=m+1) A.out (B.out.trans (G.trans (Near.set P 1 q _))) (o.setAt (a+1)) (t:=(⟨l0,l1,l2,[],[]⟩:Nd (T m))) ?_ (by omega) (by omega) ?_
       ·exact qqI _ _ m l0 l1 l2 aP.1 aP.2.1 aP.2.2
       ·rw[<- E.out,<- F.out];exact xbK M _ ws d a c (l0,l1,l2) (by rw[N.out];exact hl)
      have b6:q.heap[x.heap.size]?=some (.cells #[.int .i64 l0,.int .i64 l1,.string l2,.slice none 0 0,.slice none 0 0] 25 (0,0)):=by rw[r];exact heap_alloc_new _ _
      obtain⟨⟨y0,y1,y2,y3,y4⟩,-⟩:=qaC b6
      have Y:q.heap[w.heap.size]?=_:=(G.block w.heap.size (by omega) (by omega)).trans C.out
      obtain⟨⟨z0,z1,z2,z3,z4⟩,i⟩:=qaC Y
      have aS:=i 0
      have aT:=i 1
      have aU:=i 2
      have aV:=i 3
      have aW:=i 4
      have e1:¬P=x.heap.size:=by omega
      have e2:¬P=w.heap.size:=by omega
      have e3:¬w.heap.size=x.heap.size:=by omega
      have e4:¬x.heap.size=P:=by omega
      have e5:¬w.heap.size=P:=by omega
      go_upto_region 12 with fail
      rw[<- r]
      clear r i qf b6 Y f G o p y z HA C B A K V q0 q2 q3 q4 aQ
      go_wp2_with fail
      refine bodyPost_ret (v:=.agg #[.int .i64 l0,.int .i64 l1,.string l2,.slice none 0 0,.slice none 0 0]) (by simp[results,results11,go_sem,z0,z1,z2,z3,z4]) rfl ?_
      exact HP.out
     ·have cC:g<x.heap.size:=(Array.getElem?_eq_some_iff.1 bS).1
      obtain⟨q,r⟩:∃q,q=x.alloc (.cells #[.int .i64 4,.int .i64 0,.string ⟨#[]⟩,.slice (some ⟨g,0,none⟩) 1 1,.slice none 0 0] 25):=⟨_,rfl⟩
      have f:Below x.heap.size x q:=by rw[r];exact (Below.refl _ _).alloc (Nat.le_refl _) _
      have aQ:q.heap.size=x.heap.size+1:=by rw[r];simp
      have bJ:=p.size
      have G:Near P j q:=(y.out.trans (Near.of_below p)).trans (Near.of_below f)
      have o:Prs q P wv ws a (c+1) J R:=(z.out.same p).same f
      obtain⟨⟨q0,q1,q2,q3,q4⟩,qf⟩:=o.cells
      have aR:=qf 1
      have bK:IntKind.i64.wrap ((a:Int)+1)=(a:Int)+1:=by rw[IntKind.wrap_i64];omega
      have HP:Hid (NPost M (m+1) P wv ws false d a c w (.returned (.agg #[.int .i64 4,.int .i64 0,.string ⟨#[]⟩,.slice (some ⟨g,0,none⟩) 1 1,.slice none 0 0])) (put5 (q.setCell ⟨P,1,none⟩ (.int .i64 ((a+1:Nat):Int))) w.heap.size 0 (.int .i64 4) (.int .i64 0) (.string ⟨#[]⟩) (.slice (some ⟨g,0,none⟩) 1 1) (.slice none 0 0))):=by
       refine qsX (m:=m+1) A.out (B.out.trans (G.trans (Near.set P 1 q _))) (o.setAt (a+1)) (t:=(⟨4,0,ByteArray.empty,[s],[]⟩:Nd (T m))) ?_ (by omega) (by omega) ?_
       ·exact xgY _ _ m g s L.out ⟨by omega,by rw[show (q.setCell ⟨P,1,none⟩ (.int .i64 ((a+1:Nat):Int))).heap.size=q.heap.size by simp];omega⟩ ((Below.heap_setCell _ _ _ _ (by show g≠P;omega)).trans ((f.block g cC).trans bS))
       ·rw[<- E.out,<- F.out]
        have:=xbM M (fun b=>qaI M ws m b (d+1)) ws d a c (by rw[N.out];exact hl) (by rw[N.out];exact hf)
        rw[N.out]at this
        exact this
      have b6:q.heap[x.heap.size]?=some (.cells #[.int .i64 4,.int .i64 0,.string ⟨#[]⟩,.slice (some ⟨g,0,none⟩) 1 1,.slice none 0 0] 25 (0,0)):=by rw[r];exact heap_alloc_new _ _
      obtain⟨⟨y0,y1,y2,y3,y4⟩,-⟩:=qaC b6
      have Y:q.heap[w.heap.size]?=_:=(G.block w.heap.size (by omega) (by omega)).trans C.out
      obtain⟨⟨z0,z1,z2,z3,z4⟩,i⟩:=qaC Y
      have aS:=i 0
      have aT:=i 1
      have aU:=i 2
      have aV:=i 3
      have aW:=i 4
      have e1:¬P=x.heap.size:=by omega
      have e2:¬P=w.heap.size:=by omega
      have e3:¬w.heap.size=x.heap.size:=by omega
      have e4:¬x.heap.size=P:=by omega
      have e5:¬w.heap.size=P:=by omega
      go_upto_region 12 with fail
      rw[<- r]
      clear r i qf b6 Y f G o p y z HA C B A K V q0 q2 q3 q4 aQ
      go_wp2_with fail
      refine bodyPost_ret (v:=.agg #[.int .i64 4,.int .i64 0,.string ⟨#[]⟩,.slice (some ⟨g,0,none⟩) 1 1,.slice none 0 0]) (by simp[results,results11,go_sem,z0,z1,z2,z3,z4]) rfl ?_
      exact HP.out
     ·have X:Hid (Near P j (x.alloc (.cells #[.int .i64 0,.int .i64 0,.string ⟨#[]⟩,.slice none 0 0,.slice none 0 0] 25))/\Prs (x.alloc (.cells #[.int .i64 0,.int .i64 0,.string ⟨#[]⟩,.slice none 0 0,.slice none 0 0] 25)) P wv ws a (c+1) J R/\(false=false->leafW M s=none/\freeB s=false)):=
       ⟨(y.out.trans (Near.of_below p)).trans (Near.alloc P x _),(z.out.same p).same ((Below.refl _ _).alloc (Nat.le_refl _) _),fun _=>⟨hl,hf⟩⟩
      clear y z HA p hl hf
      go_wp2_with fail
      go_meet
      exact⟨rfl,X.out⟩
   case rest=>
    obtain⟨rfl,bD,bT,bU⟩:=hcut
    have bJ:=bD.size
    have aD:=Lib.hid bD
    have aE:=Lib.hid bT
    have aX:=Lib.hid bU
    have O:=Lib.hid (qmB s wc)
    clear bD bT bU y z cB
    by_cases hop:opW s=0∨act≠decide ((36:Int)<=(opW s:Int))
    case pos=>
     have HG:Hid (∀U,Below wc.heap.size wc U->Calls prog 12 #[.pointer (some ⟨P,0,none⟩),.int .i64 2] U fun e w'=>e=.returned (.tuple #[])/\NPost M (m+1) P wv ws act d a c w (.returned (.agg #[.int .i64 0,.int .i64 0,.string ⟨#[]⟩,.slice none 0 0,.slice none 0 0])) (put5 w' w.heap.size 0 (.int .i64 0) (.int .i64 0) (.string ⟨#[]⟩) (.slice none 0 0) (.slice none 0 0))/\w'.heap[w.heap.size]?=some (.cells #[.int .i64 0,.int .i64 0,.string ⟨#[]⟩,.slice none 0 0,.slice none 0 0] 25 (0,0))):=fun U f=>by
      refine (qdB (aE.out.same f) 2).mono ?_
      rintro e w' ⟨rfl,hn,hp⟩
      have Z:Near P j w':=(aD.out.trans (Near.of_below f)).trans hn
      refine⟨rfl,qsX (m:=m+1) A.out (B.out.trans Z) hp (t:=(⟨0,0,ByteArray.empty,[],[]⟩:Nd (T m))) (qqI _ _ m 0 0 _ (by decide) (by decide) (by decide)) (by omega) (by omega) ?_,(Z.block w.heap.size (by omega) (by omega)).trans C.out⟩
      rw[<- E.out,<- F.out]
      exact xfZ M _ ws act d a c _ (fun h=>by rw[N.out];exact aX.out h) (by rw[N.out];exact hop)
     have bL:=qwH s
     obtain⟨k,hk⟩:∃k,opW s=k:=⟨_,rfl⟩
     rw[hk]at hop O bL
     clear hk
     have cD:((k:Int)==0)=true∨(((k:Int)==0)=false/\act=true/\decide ((36:Int)<=(k:Int))=false)∨(((k:Int)==0)=false/\act=false/\decide ((36:Int)<=(k:Int))=true):=by
      rcases hop with h|h
      ·left;simp[h]
      ·by_cases h0:k=0
       ·left;simp[h0]
       ·have hb:((k:Int)==0)=false:=by simp;omega
        by_cases h36:(36:Int)<=(k:Int)
        ·rw[decide_eq_true h36]at h
         exact .inr (.inr ⟨hb,by cases act<;>simp_all,decide_eq_true h36⟩)
        ·rw[decide_eq_false h36]at h
         exact .inr (.inl ⟨hb,by cases act<;>simp_all,decide_eq_false h36⟩)
     clear hop aX aD aE N L E F K V B A
     rcases cD with S|⟨S,rfl,h2⟩|⟨S,rfl,h2⟩
     case' inr.inl=>have h3:¬(36:Int)<=(k:Int):=of_decide_eq_false h2
     case' inr.inr=>have h3:(36:Int)<=(k:Int):=of_decide_eq_true h2
     all_goals
      go_wp2_with fail
      refine O.out.mono ?_
      rintro e U ⟨rfl,f⟩
      have HF:=Lib.hid (HG.out U f)
      clear f HG O
      go_wp2_with fail
      refine HF.out.mono ?_
      rintro e w7 ⟨rfl,aA,bV⟩
      have HP:=Lib.hid aA
      obtain⟨⟨z0,z1,z2,z3,z4⟩,i⟩:=qaC bV
      have aS:=i 0
      have aT:=i 1
      have aU:=i 2
      have aV:=i 3
      have aW:=i 4
      clear i
      clear aA bV HF C
      go_wp2_with fail
      refine bodyPost_ret (v:=.agg #[.int .i64 0,.int .i64 0,.string ⟨#[]⟩,.slice none 0 0,.slice none 0 0]) (by simp[results,results11,go_sem,z0,z1,z2,z3,z4]) rfl ?_
      exact HP.out
    case neg=>
     have aY:opW s≠0:=fun h=>hop (.inl h)
     have H:act=decide ((36:Int)<=(opW s:Int)):=by
      by_cases h:act=decide ((36:Int)<=(opW s:Int))
      ·exact h
      ·exact absurd (.inr h) hop
     have I:opW s=24:=by
      rcases hcase with h|h
      ·rw[N.out]at h;exact absurd (.inl h) hop
      ·rcases h with h|h
       ·rw[N.out]at h;exact absurd (.inr h) hop
       ·rw[N.out]at h;exact h
     have cL:a<ws.length:=by
      rcases Nat.lt_or_ge a ws.length with S|S
      ·exact S
      ·have:=N.out
       rw[qbM (List.getElem?_eq_none S)]at this
       rw[<- this,qpQ]at aY;exact absurd rfl aY
     have aI:Hid (qaI M ws (m+1) act d a c=stepE M (fun b=>qaI M ws m b (d+1)) ws (stE 24 d a c) 70):=xbJ M _ ws act d a c 24 (by rw[N.out];exact I) (by decide) (by rw[H,I];try rfl)
     rw[I]at O H
     have aZ:act=false:=by rw[H];rfl
     subst aZ
     have aF:=Lib.hid (xbI (α:=T m) 24 d a c)
     rw[E.out,F.out]at aF
     have bM:Hid (J=0->R=0/\d<=24/\c+1<=200):=fun h=>by
      have S:=E.out
      rw[h]at S
      have h2:=qwJ S
      refine⟨?_,by omega,by omega⟩
      rw[<- F.out];unfold bndA;rw[if_pos S]
     have bN:Hid (∀W,Near P j W->Prs W P wv ws (a+1) (c+1) J R->Calls prog 24 #[.pointer (some ⟨P,0,none⟩),.agg #[.int .i64 24,.int .i64 0,.string ⟨#[]⟩,.slice none 0 0,.slice none 0 0],.int .i64 d] W fun e w'=>∃(x0 x1:Int)(x2:ByteArray)(xa ya:Option Addr)(xl xc yl yc:Nat),e=.returned (.agg #[.int .i64 x0,.int .i64 x1,.string x2,.slice xa xl xc,.slice ya yl yc])/\NPost M (m+1) P wv ws false d a c w (.returned (.agg #[.int .i64 x0,.int .i64 x1,.string x2,.slice xa xl xc,.slice ya yl yc])) (put5 w' w.heap.size 0 (.int .i64 x0) (.int .i64 x1) (.string x2) (.slice xa xl xc) (.slice ya yl yc))/\w'.heap[w.heap.size]?=some (.cells #[.int .i64 0,.int .i64 0,.string ⟨#[]⟩,.slice none 0 0,.slice none 0 0] 25 (0,0))):=fun W hn hp=>by
      have cM:=hn.size
      refine (xdZ M m hI P wv ws d (a+1) (c+1) J R W cE bQ (by omega) hp (by omega) (by omega) bM.out).mono ?_
      rintro e w' ⟨u,t,c0,c1,c2,c3,c4,a',c',cP,cQ,rfl,bW,n,S,h2,h3,h4⟩
      have Z:Near P j w':=hn.trans u
      obtain⟨x0,x1,x2,xa,xl,xc,ya,yl,yc,rfl,rfl,rfl,rfl,rfl⟩:=bW.shape
      refine⟨x0,x1,x2,xa,ya,xl,xc,yl,yc,rfl,qsX (m:=m+1) A.out (B.out.trans Z) n (t:=t) (bW.keep (fun _ _=>rfl) (fun b hb=>⟨by omega,hb.2⟩)) S h2 ?_,(Z.block w.heap.size (by omega) (by omega)).trans C.out⟩
      rw[aI.out]
      by_cases hfz:J=0
      ·have Q:=aF.out
       rw[hfz]at Q
       obtain⟨Q,-⟩:=Q.zero
       rw[Q]
       have:=h3 hfz
       simp only[stepE,stepR,show ¬((70:UInt8)=86∨(70:UInt8)=65) by decide,if_false,if_true]
       exact this
      ·obtain⟨er,Q,e1,e2⟩:=aF.out.bad hfz
       rw[Q]
       obtain⟨g1,g2⟩:=h4 hfz
       rw[g1,g2]
       exact⟨e1,e2,hfz⟩
     clear hop hcase aY H aX aI aF bM I L N E F K V
     go_wp2_with fail
     refine O.out.mono ?_
     rintro e U ⟨rfl,f⟩
     have o:=aE.out.same f
     obtain⟨⟨q0,q1,q2,q3,q4⟩,qf⟩:=o.cells
     have aR:=qf 1
     have bK:IntKind.i64.wrap ((a:Int)+1)=(a:Int)+1:=by rw[IntKind.wrap_i64];omega
     obtain⟨W7,aC⟩:∃W7,W7=(U.setCell ⟨P,1,none⟩ (.int .i64 ((a:Int)+1))).alloc (.cells #[.int .i64 24,.int .i64 0,.string ⟨#[]⟩,.slice none 0 0,.slice none 0 0] 25):=⟨_,rfl⟩
     have aA:Prs W7 P wv ws (a+1) (c+1) J R:=by rw[aC];exact (o.setAt (a+1)).same ((Below.refl _ _).alloc (Nat.le_refl _) _)
     have bO:Near P j W7:=by rw[aC];exact ((aD.out.trans (Near.of_below f)).trans (Near.set P 1 U _)).trans (Near.alloc P _ _)
     have b7:W7.heap[U.heap.size]?=some (.cells #[.int .i64 24,.int .i64 0,.string ⟨#[]⟩,.slice none 0 0,.slice none 0 0] 25 (0,0)):=by
      have:=heap_alloc_new (U.setCell ⟨P,1,none⟩ (.int .i64 ((a:Int)+1))) (.cells #[.int .i64 24,.int .i64 0,.string ⟨#[]⟩,.slice none 0 0,.slice none 0 0] 25)
      rw[show (U.setCell ⟨P,1,none⟩ (.int .i64 ((a:Int)+1))).heap.size=U.heap.size by simp]at this
      rw[aC];exact this
     obtain⟨⟨y0,y1,y2,y3,y4⟩,-⟩:=qaC b7
     have bP:=Lib.hid (bN.out W7 bO aA)
     clear o qf aA bO b7 bN aD aE O f B A C hI
     go_upto_region 20 with fail
     rw[<- aC]
     clear aC q0 q1 q2 q3 q4 aR
     go_wp2_with fail
     refine bP.out.mono ?_
     rintro e w8 ⟨x0,x1,x2,xa,ya,xl,xc,yl,yc,rfl,bX,bY⟩
     have HP:=Lib.hid bX
     obtain⟨⟨z0,z1,z2,z3,z4⟩,i⟩:=qaC bY
     have aS:=i 0
     have aT:=i 1
     have aU:=i 2
     have aV:=i 3
     have aW:=i 4
     clear i
     clear bX bY bP y0 y1 y2 y3 y4
     go_wp2_with fail
     refine bodyPost_ret (v:=.agg #[.int .i64 x0,.int .i64 x1,.string x2,.slice xa xl xc,.slice ya yl yc]) (by simp[results,results11,go_sem,z0,z1,z2,z3,z4]) rfl ?_
     exact HP.out
structure NRel(M m P X Z:Nat)(wv:Value)(ws:List ByteArray)(d:Int)(a c k:Nat)(W6 wr:World)(ps:List UInt8)(nm:Int)(tx:ByteArray)(ns:List ByteArray)(ks:List (T m))(nl kl a1 c1:Nat)(fc1 fa1:Int)(na:Option Addr)(nc:Nat)(ka:Option Addr)(kc:Nat):Prop where
 nlE:ns.length=nl
 klE:ks.length=kl
 many:ManyN P X X m W6 wr (k:Int) nm tx ns ks (.slice na nl nc) (.slice ka kl kc)
 prs:Prs wr P wv ws a1 c1 fc1 fa1
 got:Got (foldE M (fun b=>qaI M ws m b (d+1)) ws ps (stE (k:Int) d a c)) (⟨(k:Int),nm,tx,ns,ks⟩:Nd (T m)) a1 c1 fc1 fa1
 zero:wr.heap[Z]?=some (.cells #[.int .i64 0,.int .i64 0,.string ⟨#[]⟩,.slice none 0 0,.slice none 0 0] 25 (0,0))
 al:(a1:Int)+d<=(ws.length:Int)+27
 cl:c1<=201
 ok:fc1=0->fa1=0/\a1<=ws.length/\c1<=200/\d<=24
 wf : -9999999999<=nm/\nm<=9999999999/\tx.size<=3000
theorem xeH:∀k,k<44->∀i,i<nmS k->(preL k)[i]?=some ((preL k).getD i 0)/\(((preL k).getD i 0=78/\bdS k=false)∨((preL k).getD i 0=88/\bdS k=true))/\(i=0∨(i=1/\(preL k).getD i 0=88)):=by decide
theorem qtG{l:List UInt8}{i:Nat}{p:UInt8}(h:l[i]?=some p):l.take (i+1)=l.take i++[p]:=by
 obtain⟨a,rfl⟩:=List.getElem?_eq_some_iff.1 h
 exact List.take_succ_eq_append_getElem a
def NmOut(free:Bool)(unlike:ByteArray)(ws:List ByteArray)(a:Nat)(fc fa:Int)(x:ByteArray)(a2:Nat)(fc2 fa2:Int):Prop:=
 (qdY free unlike (wordD ws a)=true/\x=wordD ws a/\a2=a+1/\fc2=fc/\fa2=fa)∨(qdY free unlike (wordD ws a)=false/\x=⟨#[]⟩/\a2=a/\fc2=ftC fc 2/\fa2=ftA fc fa a)
theorem xeI {w:World} {P:Nat} {wv:Value} {ws:List ByteArray} {a c:Nat} {fc fa:Int} (h:Prs w P wv ws a c fc fa) (ha:a<=10000) (free:Bool) (unlike:ByteArray) :
  Calls prog 26 #[.pointer (some ⟨P,0,none⟩),.bool free,.string unlike] w fun e w'=>∃x a2 fc2 fa2,e=.returned (.string x)/\x.size<=3000/\NmOut free unlike ws a fc fa x a2 fc2 fa2/\PPost P wv ws a2 c fc2 fa2 w w':=by
 refine (xdV h ha free unlike).mono ?_
 rintro e w' (⟨b,rfl,d⟩|⟨b,rfl,d⟩)
 ·exact⟨_,_,_,_,rfl,qdO h.short a,.inl ⟨b,rfl,rfl,rfl,rfl⟩,d⟩
 ·exact⟨_,_,_,_,rfl,by decide,.inr ⟨b,rfl,rfl,rfl,rfl⟩,d⟩
theorem qxB{free:Bool}{unlike:ByteArray}{ws:List ByteArray}{a:Nat}{fc fa:Int}{x:ByteArray}{a2:Nat}{fc2 fa2:Int}(h:NmOut free unlike ws a fc fa x a2 fc2 fa2)(ha:a<=ws.length):a2<=ws.length:=by
 rcases h with ⟨b,-,rfl,-⟩|⟨-,-,rfl,-⟩
 ·have:nameB (wordD ws a)=true:=by
   simp only[qdY,Bool.and_eq_true]at b;exact b.1.1
  exact qoV this
 ·exact ha
theorem qzK{free:Bool}{unlike:ByteArray}{ws:List ByteArray}{a:Nat}{fc fa:Int}{x:ByteArray}{a2:Nat}{fc2 fa2:Int}(h:NmOut free unlike ws a fc fa x a2 fc2 fa2)(h2:fc2=0):fc=0/\fa2=fa:=by
 rcases h with ⟨-,-,-,rfl,rfl⟩|⟨-,-,-,rfl,-⟩
 ·exact⟨h2,rfl⟩
 ·unfold ftC at h2
  split at h2
  ·cases h2
  ·contradiction
theorem xiC(fc:Int):ftC fc 2≠0:=by
 unfold ftC
 split
 ·decide
 ·assumption
theorem NRel.name {M m P X Z:Nat} {wv:Value} {ws:List ByteArray} {d:Int} {a c k:Nat} {W6 wr W2 Wa W3:World} {ns:List ByteArray} {i a1 c1:Nat} {fc1 fa1:Int} {na:Option Addr} {nc:Nat} {p:UInt8} {free:Bool} {unlike x:ByteArray} {a2:Nat} {fc2 fa2:Int} {one:Obj} {g cap:Nat}
  (h:NRel M m P X Z wv ws d a c k W6 wr ((preL k).take i) 0 ByteArray.empty ns [] i 0 a1 c1 fc1 fa1 na nc none 0) (ha1:a1<=ws.length) (hPX:P<X) (hXW:W6.heap.size<=X) (hZ:Z<X) (hZP:Z≠P) (hd:d<=25)
  (hp:(preL k)[i]?=some p) (hpf:(p=78/\free=false)∨(p=88/\free=true)) (hu:fc1=0->(ns=[]/\unlike=⟨#[]⟩)∨(ns=[unlike]/\p=88)) (ho:NmOut free unlike ws a1 fc1 fa1 x a2 fc2 fa2) (hx:x.size<=3000)
  (hn:Near P wr W2) (hp2:Prs W2 P wv ws a2 c1 fc2 fa2) (ha:Wa=W2.alloc one) (h0:Prs W6 P wv ws (a+1) (c+1) (bnd d c) (bndA d a c))
  (hown:W3.ownsRow (X+1) 9 1 (.slice (some ⟨g,0,none⟩) (i+1) cap) (i+1) (ns.map .string++[.string x])) (hgrow:Wa.grownBy W3 (Value.slice na i nc).ownBlock) (hat:(Value.slice na i nc).ownBlock=some g∨g=W2.heap.size+1) :
  NRel M m P X Z wv ws d a c k W6 (W3.setCell ⟨X,3,none⟩ (.slice (some ⟨g,0,none⟩) (i+1) cap)) ((preL k).take (i+1)) 0 ByteArray.empty (ns++[x]) [] (i+1) 0 a2 c1 fc2 fa2 (some ⟨g,0,none⟩) cap none 0:=by
 subst ha
 have j:=h.many.keep hPX hn
 have f:=h.nlE
 have l:W2.ownsRow (X+1) 9 1 (.slice na i nc) i (ns.map .string):=by have:=j.names;rw[f]at this;exact this
 have r:=ManyN.name (W:=W2) (Wa:=W2.alloc one) (one:=one) (x:=x) (g:=g) (cap:=cap) j hXW rfl ⟨rfl,rfl,rfl⟩ (by omega) (by rw[f];exact hown) hgrow hat
 rw[f]at r
 have y:=j.lt
 have s:=qxB ho ha1
 refine⟨by simp[f],h.klE,r,qjI h0 r.near hp2 l hPX (Nat.le_refl X) hgrow,?_,?_,by omega,h.cl,fun q=>?_,h.wf⟩
 ·rw[qtG hp,qiS]
  have w:=xgA M (fun b=>qaI M ws m b (d+1)) ws h.got p free hpf unlike hu x
  rcases ho with ⟨n,o,t,u,v⟩|⟨n,o,t,u,v⟩
  ·have:=w.1 n
   rw[o,t,u,v];exact this
  ·have:=w.2 n
   rw[t,u,v];exact this
 ·rw[Below.heap_setCell _ _ _ _ (by show Z≠X;omega),hgrow.block Z (by simp;omega) (fun e=>by have:=qaF l Z e.symm;omega),Below.heap_alloc _ _ _ (by omega)]
  exact (hn.block Z (by have:=h.many.lt;omega) hZP).trans h.zero
 ·obtain⟨n,o⟩:=qzK ho q
  obtain⟨z,D,B,C⟩:=h.ok n
  exact⟨by rw[o];exact z,s,B,C⟩
theorem NRel.set {M m P X Z:Nat} {wv:Value} {ws:List ByteArray} {d:Int} {a c k:Nat} {W6 wr W2:World} {ps ps':List UInt8} {ns:List ByteArray} {ks:List (T m)} {nl kl a1 c1:Nat} {fc1 fa1:Int} {na:Option Addr} {nc:Nat} {ka:Option Addr} {kc:Nat} {nm nm':Int} {tx tx':ByteArray} {o:Nat} {v:Value} {a2:Nat} {fc2 fa2:Int}
  (h:NRel M m P X Z wv ws d a c k W6 wr ps nm tx ns ks nl kl a1 c1 fc1 fa1 na nc ka kc) (hPX:P<X) (hXW:W6.heap.size<=X) (hZ:Z<X) (hZP:Z≠P) (h0:Prs W6 P wv ws (a+1) (c+1) (bnd d c) (bndA d a c))
  (hn:Near P wr W2) (hp2:Prs W2 P wv ws a2 c1 fc2 fa2) (ho:(o=1/\v=.int .i64 nm' /\ tx'=tx)∨(o=2/\v=.string tx' /\ nm'=nm))
  (hg:Got (foldE M (fun b=>qaI M ws m b (d+1)) ws ps' (stE (k:Int) d a c)) (⟨(k:Int),nm',tx',ns,ks⟩:Nd (T m)) a2 c1 fc2 fa2) (hal:(a2:Int)+d<=(ws.length:Int)+27) (hok:fc2=0->fc1=0/\fa2=fa1/\a2<=ws.length) (hwf : -9999999999<=nm' /\ nm'<=9999999999/\tx'.size<=3000) :
  NRel M m P X Z wv ws d a c k W6 (W2.setCell ⟨X,o,none⟩ v) ps' nm' tx' ns ks nl kl a2 c1 fc2 fa2 na nc ka kc:=by
 have e:=h.many.keep hPX hn
 have f:=e.put hXW ho
 have g:=e.lt
 refine⟨h.nlE,h.klE,f,h0.keep f.near ((Below.heap_setCell _ _ _ _ (by show P≠X;omega)).trans hp2.box),hg,?_,hal,h.cl,fun q=>?_,hwf⟩
 ·rw[Below.heap_setCell _ _ _ _ (by show Z≠X;omega)]
  exact (hn.block Z (by have:=h.many.lt;omega) hZP).trans h.zero
 ·obtain⟨i,j,l⟩:=hok q
  obtain⟨n,s,p,r⟩:=h.ok i
  exact⟨by rw[j];exact n,l,p,r⟩
theorem NRel.set2 {M m P X Z:Nat} {wv:Value} {ws:List ByteArray} {d:Int} {a c k:Nat} {W6 wr W2:World} {ps ps':List UInt8} {ns:List ByteArray} {ks:List (T m)} {nl kl a1 c1:Nat} {fc1 fa1:Int} {na:Option Addr} {nc:Nat} {ka:Option Addr} {kc:Nat} {nm nm':Int} {tx tx':ByteArray} {o:Nat} {v:Value} {a2 a3:Nat} {fc2 fa2:Int}
  (h:NRel M m P X Z wv ws d a c k W6 wr ps nm tx ns ks nl kl a1 c1 fc1 fa1 na nc ka kc) (hPX:P<X) (hXW:W6.heap.size<=X) (hZ:Z<X) (hZP:Z≠P) (h0:Prs W6 P wv ws (a+1) (c+1) (bnd d c) (bndA d a c))
  (hn:Near P wr W2) (hp2:Prs W2 P wv ws a3 c1 fc2 fa2) (ho:(o=1/\v=.int .i64 nm' /\ tx'=tx)∨(o=2/\v=.string tx' /\ nm'=nm))
  (hg:Got (foldE M (fun b=>qaI M ws m b (d+1)) ws ps' (stE (k:Int) d a c)) (⟨(k:Int),nm',tx',ns,ks⟩:Nd (T m)) a2 c1 fc2 fa2) (hal:(a2:Int)+d<=(ws.length:Int)+27) (hok:fc2=0->fc1=0/\fa2=fa1/\a2<=ws.length) (hwf : -9999999999<=nm' /\ nm'<=9999999999/\tx'.size<=3000) :
  NRel M m P X Z wv ws d a c k W6 ((W2.setCell ⟨X,o,none⟩ v).setCell ⟨P,1,none⟩ (.int .i64 (a2:Int))) ps' nm' tx' ns ks nl kl a2 c1 fc2 fa2 na nc ka kc:=by
 have e:=h.many.keep hPX hn
 have g:=e.put hXW ho
 have i:=e.lt
 have f:Prs (W2.setCell ⟨X,o,none⟩ v) P wv ws a3 c1 fc2 fa2:=h0.keep g.near ((Below.heap_setCell _ _ _ _ (by show P≠X;omega)).trans hp2.box)
 refine⟨h.nlE,h.klE,g.keep hPX (Near.set P 1 _ _),f.setAt a2,hg,?_,hal,h.cl,fun q=>?_,hwf⟩
 ·rw[Below.heap_setCell _ _ _ _ (by show Z≠P;omega),Below.heap_setCell _ _ _ _ (by show Z≠X;omega)]
  exact (hn.block Z (by have:=h.many.lt;omega) hZP).trans h.zero
 ·obtain⟨j,l,n⟩:=hok q
  obtain⟨p,t,r,s⟩:=h.ok j
  exact⟨by rw[l];exact p,n,r,s⟩
theorem xhF(k:Nat)(h24:k≠24)(j:Nat)(hj:j<(bs (kdT k)).size)(hj2:j<(kdV k).length):((((bs (kdT k))[j]'hj).toNat:Int)==97)=((kdV k)[j]==65):=by
 have e:(bs (kdT k))[j]'hj=(kdS k)[j]'(by unfold kdS;rw[List.length_map];exact hj2):=by
  rw[qkQ]
  unfold kdT
  simp only[if_neg h24]
 rw[e]
 unfold kdS
 rw[List.getElem_map]
 by_cases h:(kdV k)[j]=65
 ·rw[h];rfl
 ·rw[if_neg h]
  have:((kdV k)[j]==65)=false:=by simpa using h
  rw[this];rfl
theorem xhG:∀k,k<44->(kdV k).length<=3:=by decide
theorem qvE(s:ByteArray)(hs:s.size<=3000)(w:World):Calls prog 28 #[.string s] w fun e w'=>Below w.heap.size w w' /\ ∃(s0:Int)(b1 b2:Option Addr)(l1 l2 k1 k2:Nat),e=.returned (.tuple #[.agg #[.int .i64 s0,.slice b1 l1 k1,.slice b2 l2 k2],.bool (kindB s)]):=by
 refine (qjJ s (s.size+7) (by omega) (by omega) w).mono ?_
 rintro e w' ⟨b,c0,c1,c2,rfl,a⟩
 refine⟨b,?_⟩
 obtain⟨s0,c,l1,k1,a2,l2,k2,rfl,rfl,rfl⟩:=a.shape
 exact⟨s0,c,a2,l1,l2,k1,k2,rfl⟩
theorem xeJ:∀k,k<44->(k=5∨k=6)->nmS k=0/\preL k=[75]:=by decide
theorem xhH:∀k,k<44->(k=37∨k=39)->preL k=(preL k).take (nmS k)++[35]/\lst k=(if k=37 then 0 else 1)/\mst k=(if k=37 then 99 else 12):=by decide
theorem xhI:∀k,k<44->5<=k->k=24∨k=5∨k=6∨k=37∨k=39∨(preL k).take (nmS k)=preL k:=by decide
theorem NRel.kid {M m P X Z:Nat} {wv:Value} {ws:List ByteArray} {d:Int} {a c k:Nat} {W6 wr v2 v3:World} {ps:List UInt8} {ns:List ByteArray} {ks:List (T m)} {nl kl a1 c1:Nat} {fa1:Int} {na:Option Addr} {nc:Nat} {ka:Option Addr} {kc:Nat} {nm:Int} {tx:ByteArray} {xs:List Value} {t:T m} {c0 c1' c2 c3 c4:Value} {one:Obj} {g cap:Nat} {a2 c2':Nat} {fc2 fa2:Int} {p:UInt8}
  (h:NRel M m P X Z wv ws d a c k W6 wr ps nm tx ns ks nl kl a1 c1 0 fa1 na nc ka kc) (hPX:P<X) (hXW:W6.heap.size<=X) (hZ:Z<X) (hZP:Z≠P) (h0:Prs W6 P wv ws (a+1) (c+1) (bnd d c) (bndA d a c))
  (hp:p=86∨p=65) (hn:Near P (wr.drewN 1) v2) (ht:NodeIn (fun b=>(wr.drewN 1).heap.size<=b/\b<v2.heap.size) v2 m t c0 c1' c2 c3 c4) (hp2:Prs v2 P wv ws a2 c2' fc2 fa2) (hg:Got (qaI M ws m (p==65) (d+1) a1 c1) t a2 c2' fc2 fa2) (hal:(a2:Int)+(d+1)<=(ws.length:Int)+27) (hcl:c2'<=201)
  (hxs:wr.ownsRow (X+1) 25 5 (.slice ka kl kc) kl xs) (hk:∀j (h:j<ks.length),∃c0 c1 c2 c3 c4,(xs[j*5]?=some c0/\xs[j*5+1]?=some c1/\xs[j*5+2]?=some c2/\xs[j*5+3]?=some c3/\xs[j*5+4]?=some c4)/\NodeIn (Far (X+1) (.slice na nl nc) (.slice ka kl kc) wr.heap.size) wr m ks[j] c0 c1 c2 c3 c4)
  (hown:v3.ownsRow (X+1) 25 5 (.slice (some ⟨g,0,none⟩) (kl+1) cap) (kl+1) (xs++[c0,c1',c2,c3,c4])) (hgrow:(v2.alloc one).grownBy v3 (Value.slice ka kl kc).ownBlock) (hat:(Value.slice ka kl kc).ownBlock=some g∨g=v2.heap.size+1) :
  NRel M m P X Z wv ws d a c k W6 (v3.setCell ⟨X,4,none⟩ (.slice (some ⟨g,0,none⟩) (kl+1) cap)) (ps++[p]) nm tx ns (ks++[t]) nl (kl+1) a2 c2' fc2 fa2 na nc (some ⟨g,0,none⟩) cap:=by
 have f:=h.klE
 have i:=ManyN.kidD (g:=g) (cap:=cap) (xs:=xs) 1 h.many hPX hXW hn ht (by rw[f];exact hxs) hk (by rw[f];exact hown) hgrow hat
 rw[f]at i
 have r:=h.many.lt
 have l:=hn.size
 have o:wr.heap.size<=v2.heap.size:=l
 refine⟨h.nlE,by simp[f],i,qjI h0 i.near hp2 hxs hPX (Nat.le_refl X) hgrow,?_,?_,by omega,hcl,fun q=>?_,h.wf⟩
 ·rw[qiS]
  exact xiO M (fun b=>qaI M ws m b (d+1)) ws h.got p hp hg
 ·rw[Below.heap_setCell _ _ _ _ (by show Z≠X;omega),hgrow.block Z (by simp;omega) (fun e=>by have:=qaF hxs Z e.symm;omega),Below.heap_alloc _ _ _ (by omega)]
  exact (hn.block Z (by show Z<wr.heap.size;omega) hZP).trans h.zero
 ·subst q
  obtain⟨n,s⟩:=hg.zero
  obtain⟨-,-,-,u,x,v⟩:=qbS M ws m (p==65) (d+1) a1 c1 _ n
  obtain⟨-,-,-,w⟩:=h.ok rfl
  exact⟨s,v,u,w⟩
theorem NRel.start {M m P X Z:Nat} {wv:Value} {ws:List ByteArray} {d:Int} {a c k:Nat} {W6 W7:World} {fc fa:Int} (hX:X=W6.heap.size) (hW7:W7=W6.alloc (.cells #[.int .i64 (k:Int),.int .i64 0,.string ⟨#[]⟩,.slice none 0 0,.slice none 0 0] 25)) (hp:Prs W6 P wv ws (a+1) (c+1) fc fa) (hfc:bnd d c=fc) (hfa:bndA d a c=fa)
  (ha:a<ws.length) (hd:d<=25) (hc:c<=200) (hz:W6.heap[Z]?=some (.cells #[.int .i64 0,.int .i64 0,.string ⟨#[]⟩,.slice none 0 0,.slice none 0 0] 25 (0,0))) :
  NRel M m P X Z wv ws d a c k W6 W7 [] 0 ByteArray.empty [] [] 0 0 (a+1) (c+1) fc fa none 0 none 0:=by
 subst hX
 have b:Below W6.heap.size W6 W7:=by rw[hW7];exact (Below.refl _ _).alloc (Nat.le_refl _) _
 have e:=xbI (α:=T m) (k:Int) d a c
 rw[hfc,hfa]at e
 refine⟨rfl,rfl,xdY (k:Int) 0 ByteArray.empty hW7,hp.same b,e,(b.block Z (Array.getElem?_eq_some_iff.1 hz).1).trans hz,by omega,by omega,fun q=>?_,⟨by omega,by omega,by decide⟩⟩
 rw[<- hfc]at q
 have:=qwJ q
 refine⟨?_,by omega,by omega,by omega⟩
 rw[<- hfa];unfold bndA;rw[if_pos q]
theorem NRel.out {M m P X Z:Nat} {wv:Value} {ws:List ByteArray} {act:Bool} {d:Int} {a c k:Nat} {w W6 wr:World} {ps:List UInt8} {ns:List ByteArray} {ks:List (T m)} {nl kl a1 c1:Nat} {fc1 fa1:Int} {na:Option Addr} {nc:Nat} {ka:Option Addr} {kc:Nat} {nm:Int} {tx:ByteArray}
  (h:NRel M m P X Z wv ws d a c k W6 wr ps nm tx ns ks nl kl a1 c1 fc1 fa1 na nc ka kc) (hZ:Z=w.heap.size) (hX:w.heap.size<X) (h0:Prs w P wv ws a c 0 0) (hn:Near P w W6) (hk:k<44) (hnl:nl<=100) (hkl:kl<=100) (hr:qaI M ws (m+1) act d a c=foldE M (fun b=>qaI M ws m b (d+1)) ws (prt k) (stE (k:Int) d a c))
  (hps:ps=prt k∨(fc1≠0/\∃qs,prt k=ps++qs)) :
  NPost M (m+1) P wv ws act d a c w (.returned (.agg #[.int .i64 (k:Int),.int .i64 nm,.string tx,.slice na nl nc,.slice ka kl kc])) (put5 wr Z 0 (.int .i64 (k:Int)) (.int .i64 nm) (.string tx) (.slice na nl nc) (.slice ka kl kc)):=by
 subst hZ
 have e:=h.wf
 have i:=h.nlE
 have j:=h.klE
 refine qsX (m:=m+1) h0 (hn.trans h.many.near) h.prs (t:=(⟨(k:Int),nm,tx,ns,ks⟩:Nd (T m))) ?_ h.al h.cl ?_
 ·exact (qwU h.many (wfT _ (by omega) (by omega)) (wfT _ e.1 e.2.1) (by omega) (by omega) (by omega)).keep (fun _ _=>rfl) (fun b hb=>⟨by omega,hb.2⟩)
 ·rw[hr]
  rcases hps with rfl|⟨f,qs,g⟩
  ·exact h.got
  ·rw[g,qiS]
   exact xgC M _ ws h.got f qs
end Go.Proofs.YtelogmjfekhmpaaGreatDoor
