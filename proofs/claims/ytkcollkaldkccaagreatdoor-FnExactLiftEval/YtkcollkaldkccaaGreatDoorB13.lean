import Derived.Test.YtkcollkaldkccaaGreatDoorB6
import Derived.Handy
set_option linter.all false
open List renaming length -> J,length->Uh
open Go.Calls renaming mono -> H
open Go.Value renaming slice->A,int->I,string->Zt,pointer->Zp,agg->Za,tuple->Zu,bool->Zb,slice->Uc
open Go.IntKind renaming i64->U
open Go.Ending renaming returned->Zr
open Go.Obj renaming cells->Zc
open Option renaming none->Y,some->Z
open Go renaming World->Zw,Value->Zv,maxLen->WX,TypeId->W9,Calls->WU
open ByteArray renaming empty->WT
open Go.Lib renaming decDigits->WZ,itoa->W6
open Except renaming error->Ub,ok->Uo
open Go.World renaming cell?->WY
open Go.Proofs.Tryz renaming prog->WV
open Go.RowKit renaming Hid->G
namespace Go.Proofs.YtkcollkaldkccaaGreatDoor
open Go.RowKit Go.WideMaps Go.Maps
variable {a b w w' w1 w0 w2 wr W:Zw} {m B n c k Fzq g s ty pb mb ab sb i cap:Nat} {l:List UInt8} {v kv v':Zv} {S O O' C Q:ZN} {x x0:ZB} {p d:Int} {e:Ending} {r:List (ZB×Nat)} {cs:List Nat} {env:gk} {α:Type} {xs:List Zv}
def Jb(s:ZB):WideAt.IsKeyLit (.string s.data.toList):=trivial
def Oe{a b:ZB}(h:a≠b):(Lit.string a.data.toList)≠.string b.data.toList:=by intro e;apply h;exact ZE (by injection e)
def Jj{a b:Int}(h:(DataW.lit (Lit.int U a):DataW Unit)=.lit (.int U b)):a=b:=by cases h;rfl
open Go.RowKit Go.Proofs.Tryz
set_option maxRecDepth 100000
set_option maxHeartbeats 16000000
def u9:∀(b:List UInt8)(acc:Nat),(∀c,c∈b->fw c=true)->(acc+1)*10 ^ J b<=1000000000000000000->Lib.parseUint10 acc b=.ok (b.foldl (λa c=>a*10+(c.toNat-48)) acc):=by
 intro b;induction b with
 | nil=>intro acc _ _;rfl
 | cons c r k=>
  intro acc i j;have h:=mg (i c zS);rw[Qs,WP]at j;have hp:1<=10 ^ J r:=by have:=Wo (n:=10) zC (Q9 (J r));simpa using this
  have e:(acc+1)*10*10 ^ J r<=1000000000000000000:=by rw[Nat.mul_assoc,Nat.mul_comm 10];exact j
  have g:(acc+1)*10<=1000000000000000000:=Q1 (Nat.le_mul_of_pos_right _ hp) e;simp only[Lib.parseUint10,Wr];rw[Qm ⟨h.1,h.2⟩,Qd E,Qd E];refine k _ (λd f=>i d (Qt _ f)) (Q1 (Nat.mul_le_mul_right _ ?_) e);omega
def sL{u:Nat}(b:u<=999999999):Lib.parseMag (WZ u)=.ok u:=by
 unfold Lib.parseMag;rw[Qd (lU u),u9 _ 0 (fE u) ?_];·exact Xc _ (k9 u)
 .have a:J (WZ u)<=9:=by rw[ZP];exact rA 8 u E
  exact Q1 (Nat.mul_le_mul_left (0+1) (Wo zC a)) zC
def BA{m:Int}(h : -999999999<=m/\m<=999999999):Lib.atoiAll (W6 m)=.ok m:=by
 by_cases b:m<0
 .have a:W6 m=45 :: WZ m.natAbs:=by unfold W6;rw[Qm b]
  rw[a,Lib.atoiAll_minus,sL E];simp only[Lib.signed];rw[Qd E];congr 1;omega
 .have a:W6 m=WZ m.toNat:=by unfold W6;rw[Qd b]
  have⟨c,r,e,d⟩:=oM m.toNat;have f:=mg d;rw[a,e,Lib.atoiAll_plain c r E E,<- e,sL E];simp only[Lib.signless];rw[Qd E];congr 1;omega
def YQ(x:ZB)(w:Zw)(e:Ending)(w':Zw):Prop:=
 Below w.heap.size w w' /\ ((∃v,fy x.data.toList=Z v/\e=Zr (Zu #[I U v,Zb true]))∨(fy x.data.toList=Y/\e=Zr (Zu #[I U 0,Zb false])))
def AU(h:∀v,Lib.atoiAll l≠.ok v):fy l=Y:=by
 cases hn:fy l with
 | none=>rfl
 | some m=>have⟨a,b⟩:=ob hn;refine absurd ?_ (h m);rw[<- b];exact BA a
def yt{v:Int}(h:Lib.atoiAll l=.ok v)(c:¬((-999999999<=v/\v<=999999999)/\W6 v=l)):fy l=Y:=by
 cases hm:fy l with
 | none=>rfl
 | some m=>
  have⟨a,b⟩:=ob hm;rw[<- b,BA a]at h;cases h
  exact absurd ⟨a,b⟩ c
def E9 (x:ZB) (hL:gH B w) (r:B<=w.heap.size) (z:x.size<=10000) :
  WU WV 176 #[Zt x] w (YQ x w):=by
 cases ha:Lib.atoiAll x.data.toList with
 | «syntax» =>have⟨j,p,hv⟩:=hL.2.1;have HC:G (WU WV 216 #[Zt x] w _):=Tryz.strconv_Atoi_syntax_var x E ha j p w (hv w (Qg _ _));exact To
 | range=>have⟨j,p,hv⟩:=hL.2.2;have HC:G (WU WV 216 #[Zt x] w _):=Tryz.strconv_Atoi_range_var x E ha j p w (hv w (Qg _ _));exact To
 | ok v=>
  have s:=Lib.atoiAll_bounds ha;have HC:G (WU WV 216 #[Zt x] w _):=Tryz.strconv_Atoi_ok x E v ha w;have l:G (Lib.atoiAll x.data.toList=.ok v):=ha;have n:G (∀ w1,Below w.heap.size w w1->Lib.TabIs WV w1 "internal/strconv.uint64pow10" .u64 Lib.pow10Tab):=λw1 q=>hL.1 w1 (q.mono r);clear hL ha;by_cases hv : -999999999<=v/\v<=999999999;case neg=>
   have f:G (∀W,WU WV 197 #[I U v] W λe c=>e=Zr (Zb false)/\c=W):=λW=>by have:=mX v W;rw[QU hv]at this;exact this
   have HN:G (fy x.data.toList=Y):=yt l E;clear hv;go_enter func176,ntmps176;go_wp2_with fail;refine H HC ?_;rintro e w1 ⟨rfl,b⟩;have a:Below w.heap.size w w1:=by
    rcases b with rfl|⟨t,rfl⟩;·exact Qg _ _
    .exact Lib.bytesWorld_below _ _ _
   clear b HC;go_wp2_with (go_at_call 197;refine H (f _) ?_;rintro e c ⟨rfl,rfl⟩);go_ret2;exact⟨a,.inr ⟨HN,D⟩⟩
  case pos=>
   have f:G (∀W,WU WV 197 #[I U v] W λe c=>e=Zr (Zb true)/\c=W):=λW=>by have:=mX v W;rw[QK hv]at this;exact this
   have o:G (-999999999<=v/\v<=999999999):=hv;clear hv;go_enter func176,ntmps176;go_wp2_with fail;refine H HC ?_;rintro e w1 ⟨rfl,b⟩;have a:Below w.heap.size w w1:=by
    rcases b with rfl|⟨t,rfl⟩;·exact Qg _ _
    .exact Lib.bytesWorld_below _ _ _
   have m:G (WU WV 175 #[I U v] w1 λe c=>e=Zr (Zt (bs (W6 v)))/\Below w.heap.size w c):=by refine H (Tryz.strconv_Itoa v E E w1 (n w1 a)) ?_;rintro e c ⟨rfl,k,os,rfl⟩;exact⟨D,a.trans (Lib.below_grow _ _ a.size k os)⟩
   clear b HC n a;by_cases d:W6 v=x.data.toList
   .have i:((bs (W6 v)).toList==x.toList)=true:=by rw[d,nw];simp
    have HN:G (fy x.data.toList=Z v):=by show _=_;rw[<- d];exact rC o
    clear d;generalize bs (W6 v)=y at *;go_wp2_with (first|(go_at_call 197;refine H (f _) ?_;rintro e c ⟨rfl,rfl⟩)|(go_at_call 175;refine H m ?_;rintro e u ⟨rfl,g⟩));go_ret2;exact⟨nM,.inl ⟨v,HN,D⟩⟩
   .have i:((bs (W6 v)).toList==x.toList)=false:=by rw[Q6];intro e;apply d;rw[QI,QI,fG]at e;exact e
    have HN:G (fy x.data.toList=Y):=yt l (λh=>d h.2);clear d;generalize bs (W6 v)=y at *;go_wp2_with (first|(go_at_call 197;refine H (f _) ?_;rintro e c ⟨rfl,rfl⟩)|(go_at_call 175;refine H m ?_;rintro e u ⟨rfl,g⟩));go_ret2;exact⟨nM,.inr ⟨HN,D⟩⟩
def E1 (s:nV n) {t:T (n+1)} (hs:F.k t=6) (hr:fB S w (dL S w n) (F.o t) kv) (a:∀ b,S b->b<w.heap.size) (r:kj (n+1) t) :
  WU WV 36 #[.iface 129 kv] w (gJ (n+1) t w):=by
 obtain⟨-,-,-,-,-,c1,v,y,t0,-,-,d,c⟩:=r;have⟨e1,e2,e3⟩:=c1 hs;have f:=Tryz.no_num_maybe;have g:=Tryz.no_text_maybe;have h:=Tryz.no_flag_maybe;have i:=Tryz.no_list_maybe;have j:=Tryz.no_form_maybe;have k:=Tryz.yes_maybe;have qp:=(Qg w.heap.size w).alloc E d8;have hz:=Qh w d8;have HC:G (WU WV 69 _ _ _):=mo s (hr.keep (b6 qp a) zI (λ_ _ _ u=>u.keep (b6 qp a) zI)) (fP a) d c;have HP:G (∀ W v' L,Below w.heap.size w W->dn (λb=>w.heap.size+1<=b/\b<W.heap.size) W (cT (λb=>w.heap.size+1<=b/\b<W.heap.size) W n) (F.o t) v'->lI W n v' L->Own (λb=>w.heap.size+1<=b/\b<W.heap.size) L->J L=cG (λx=>3+B7 n x) (F.o t) ->
   gJ (n+1) t w (Zr (Za #[I U 6,I U 0,Zt ⟨#[]⟩,A Y 0 0,v'])) (eF W w.heap.size 0 (I U 6) (I U 0) (Zt ⟨#[]⟩) (A Y 0 0) v')):=λW v' L q l m o p=>by
  have:=wy (t:=t) (L3:=[]) (L4:=L) (c3:=A Y 0 0) (c4:=v') q Cv (iX _ v y) t0 (by rw[e3];exact⟨Y,0,D,gO,zS,zS⟩) l (lE.no _) m o (by simp only[B7,e3];simp[p])
  rw[hs,e1,e2]at this;exact this
 exact qdB
def Hy (qa:nV n) {t:T (n+1)} {nv:Zv} (hs:F.k t=5) (hN:cR S w (F.q t) nv) (X:fB S w (dL S w n) (F.o t) kv) (C:∀ b,S b->b<w.heap.size) (hc:kj (n+1) t) :
  WU WV 36 #[.iface 128 (Za #[nv,kv])] w (gJ (n+1) t w):=by
 obtain⟨-,-,-,-,c1,-,n0,n1,t0,nl,j2,V,N⟩:=hc;have⟨q5,q6⟩:=c1 hs;have qq:=Tryz.no_num_form;have qc:=Tryz.no_text_form;have q8:=Tryz.no_flag_form;have ql:=Tryz.no_list_form;have aa:=Tryz.yes_form;obtain⟨na,nc,rfl,-⟩:=id hN;obtain⟨u,v,rfl,-⟩:=id X;obtain⟨i,qR⟩:∃i,i=(w.alloc d8).alloc (Zc #[A na (J (F.q t)) nc,A u (J (F.o t)) v] 128):=⟨_,D⟩;have q7:i.heap.size=w.heap.size+2:=re;have M:Below w.heap.size w i:=by rw[qR];exact ((Qg _ _).alloc E _).alloc zS _
 have k:i.heap[w.heap.size]?=Z d8:=by rw[qR,Qf _ _ _ zS];exact Qh _ _
 have f:i.heap[w.heap.size+1]?=Z (Zc #[A na (J (F.q t)) nc,A u (J (F.o t)) v] 128 (0,0)):=by have:=Qh (w.alloc d8) (Zc #[A na (J (F.q t)) nc,A u (J (F.o t)) v] 128);rw[qR];simpa using this
 have z:G (WU WV 70 #[A na (J (F.q t)) nc] i.drew λe l=>∃ m p o,e=Zr (A m p o)/\Below i.heap.size i l/\a7 l (w.heap.size+1) 1=Z (A u (J (F.o t)) v) /\
   l.ownsRow (w.heap.size+2) 9 1 (A m p o) (J (F.q t)) ((F.q t).map Zt)):=by
  refine H (pW (hN.keep (b6 M.drew C) zI) (fP C) nl j2) ?_
  rintro e l ⟨v',rfl,d,s⟩
  have K:Below i.heap.size i l:=((Qg _ _).drew).trans s
  obtain⟨a,c,rfl⟩:=rF d
  refine⟨_,_,_,D,K,?_,?_⟩
  .have:=(K.block (w.heap.size+1) E).trans f
   simp[WY,this]
  .have h:=d
   simp only[World.size_drew,q7]at h
   exact h
 have B:G (∀ (W:Zw) (m:ZA) (p o:Nat),Below i.heap.size i W->W.ownsRow (w.heap.size+2) 9 1 (A m p o) (J (F.q t)) ((F.q t).map Zt)->WU WV 69 #[A u (J (F.o t)) v] W λe l=>∃ x P y,e=Zr (A x P y) /\
   l.heap[w.heap.size]?=Z d8 /\
   gJ (n+1) t w (Zr (Za #[I U 5,I U 0,Zt ⟨#[]⟩,A m p o,A x P y])) (eF l w.heap.size 0 (I U 5) (I U 0) (Zt ⟨#[]⟩) (A m p o) (A x P y))):=by
  intro W m p o Q d
  have q:Below w.heap.size w W:=M.trans (Q.mono E)
  have ab:=Q.size
  refine H (mo qa (X.keep (b6 q C) zI (λ_ _ _ hx=>hx.keep (b6 q C) zI)) (fP C) V N) ?_
  rintro e l ⟨s,v',L,rfl,q1,q2,q3,q4⟩
  obtain⟨x,y,rfl,-⟩:=id q1
  have ac:=s.size
  have j:l.ownsRow (w.heap.size+2) 9 1 (A m p o) (J (F.q t)) ((F.q t).map Zt):=eT d (λg hg=>s.block g (dT d g hg).2)
  have zZ:=dT d
  have⟨j0,p1,p2,p3⟩:=uC j E
  refine⟨_,_,_,D,(s.block _ E).trans ((Q.block _ E).trans k),?_⟩
  have:=wy (t:=t) (w:=w) (W:=l) (L3:=j0) (L4:=L) (c3:=A m p o) (c4:=A x (J (F.o t)) y) (q.trans (s.mono E)) Cv (iX _ n0 n1) t0
   (sP j E j2 JX) (q1.keepT ik q9) p1 q2
   (p3.app q3 JX q9 (λb h1 h2=>by have:=zZ b h1;omega)) (by rw[Qi,p2,q4];rfl)
  rw[hs,q5,q6]at this;exact this
 have x0:a7 i (w.heap.size+1) 0=Z (A na (J (F.q t)) nc):=by simp[WY,f]
 have x1:a7 i (w.heap.size+1) 1=Z (A u (J (F.o t)) v):=by simp[WY,f]
 clear c1 q5 q6 t0 hN X qa N j2 k f;go_enter func36,ntmps36;go_wp2_with fail;rw[<- qR];clear qR;go_region_with (first
  | (go_at_call 70;refine H z ?_;rintro e w2 ⟨m,p,o,rfl,R,ad,r⟩)
  | (go_at_call 69;refine H (B _ _ _ _ nM nM) ?_;rintro e w3 ⟨x,P,y,rfl,O,j3⟩;have⟨⟨r0,r1,r2,r3,r4⟩,f0,f1,f2,f3,f4⟩:=cI O))
 all_goals
  have HQ:G _:=j3
  clear j3 r R O z B
  exact nX
def H1(e:nV n):nV (n+1):=by
 intro S t i w h d b;rcases h with ⟨a,rfl⟩|⟨a,rfl⟩|⟨a,rfl⟩|⟨a,g,rfl,c⟩|⟨a,j,g,rfl,f,c⟩|⟨a,g,rfl,c⟩;·exact L8 w a b
 .exact H3 w a b
 .exact Hx w a b
 .exact Hz e a c d b
 .exact Hy e a f c d b
 .exact E1 e a c d b
def AX:∀n,nV n:=by
 intro n;induction n with
 | zero=>intro S t b w h;exact h.elim
 | succ n a=>exact H1 a
open Go.Shelf
def D4:Go.Shelf.Ren:=⟨fun|41=>208|n=>n,fun|23=>9|4=>4|22=>23|n=>n,fun|n=>n⟩
def IY:Go.Proofs.SlLaysE0.n41 WV D4:={
 mixed:=gZ
 f41:=⟨Tryz.f208.name,zC,func208.trans (Xc Z zK)⟩
 t4:=underlying4
 a4:=isAgg4
 z4:=sizeOf4
 v4:=zeroValue4
 t22:=underlying23
 a22:=isAgg23
 z22:=sizeOf23
 v22:=zeroValue23 }
def D3:Go.Shelf.Ren:=⟨fun|41=>209|n=>n,fun|23=>71|4=>4|22=>124|n=>n,fun|n=>n⟩
def IX:Go.Proofs.SlLaysE0.n41 WV D3:={
 mixed:=gZ
 f41:=⟨Tryz.f209.name,zC,func209.trans (Xc Z zK)⟩
 t4:=underlying4
 a4:=isAgg4
 z4:=sizeOf4
 v4:=zeroValue4
 t22:=underlying124
 a22:=isAgg124
 z22:=sizeOf124
 v22:=zeroValue124 }
def KC:Go.Shelf.Ren:=⟨fun|45=>212|n=>n,fun|0=>0|3=>3|4=>4|22=>23|23=>9|n=>n,fun|n=>n⟩
def qbZ:Go.Proofs.SlLaysE.n45 WV KC:={
 mixed:=gZ
 f45:=⟨Tryz.f212.name,zC,func212.trans (Xc Z zK)⟩
 t0:=underlying0
 a0:=isAgg0
 z0:=sizeOf0
 v0:=zeroValue0
 t3:=underlying3
 a3:=isAgg3
 z3:=sizeOf3
 v3:=zeroValue3
 t4:=underlying4
 a4:=isAgg4
 z4:=sizeOf4
 v4:=zeroValue4
 t22:=underlying23
 a22:=isAgg23
 z22:=sizeOf23
 v22:=zeroValue23
 a23:=isAgg9
 z23:=sizeOf9 }
def KB:Go.Shelf.Ren:=⟨fun|45=>213|n=>n,fun|0=>0|3=>3|4=>4|22=>124|23=>71|n=>n,fun|n=>n⟩
def qbY:Go.Proofs.SlLaysE.n45 WV KB:={
 mixed:=gZ
 f45:=⟨Tryz.f213.name,zC,func213.trans (Xc Z zK)⟩
 t0:=underlying0
 a0:=isAgg0
 z0:=sizeOf0
 v0:=zeroValue0
 t3:=underlying3
 a3:=isAgg3
 z3:=sizeOf3
 v3:=zeroValue3
 t4:=underlying4
 a4:=isAgg4
 z4:=sizeOf4
 v4:=zeroValue4
 t22:=underlying124
 a22:=isAgg124
 z22:=sizeOf124
 v22:=zeroValue124
 a23:=isAgg71
 z23:=sizeOf71 }
def Fd:Go.Shelf.Ren:=⟨fun|26=>207|33=>233|34=>234|38=>250|n=>n,fun|0=>0|3=>3|4=>4|9=>9|24=>23|40=>273|n=>n,fun|n=>n⟩
def JF:Go.Proofs.Lays2.n26 WV Fd:={
 mixed:=gZ
 f26:=func207.trans (Xc Z zK)
 f33:=func233.trans (Xc Z zK)
 f34:=func234.trans (Xc Z zK)
 f38:=func250.trans (Xc Z zK)
 t0:=underlying0
 a0:=isAgg0
 z0:=sizeOf0
 v0:=zeroValue0
 t3:=underlying3
 a3:=isAgg3
 z3:=sizeOf3
 v3:=zeroValue3
 t4:=underlying4
 a4:=isAgg4
 z4:=sizeOf4
 v4:=zeroValue4
 t9:=underlying9
 a9:=isAgg9
 z9:=sizeOf9
 v9:=zeroValue9
 t24:=underlying23
 a24:=isAgg23
 z24:=sizeOf23
 v24:=zeroValue23
 t40:=underlying273
 a40:=isAgg273
 z40:=sizeOf273
 v40:=zeroValue273 }
def dI(w:Zw)(b:Nat)(v:Zv):Prop:=w.heap[b]?=Z (Zc #[v] 107 (0,0))
def dI.cell{b:Nat}(h:dI w b v):a7 w b 0=Z v:=by unfold dI at h;simp[WY,h]
def dI.free{b:Nat}(h:dI w b v):w.frozen? ⟨b,0,Y⟩=false:=by unfold dI at h;simp[World.frozen?,h]
def dI.lt{b:Nat}(h:dI w b v):b<w.heap.size:=(Qe.1 h).1
def dI.set{b:Nat}(h:dI w b v)(u:Zv):dI (w.setCell ⟨b,0,Y⟩ u) b u:=by unfold dI at h ⊢;simp[World.setCell,QQ,h]
structure Kp(O:ZN)(w w':Zw):Prop where
 os:w'.os=w.os
 tape:w'.tape=w.tape
 output:w'.output=w.output
 size:w.heap.size<=w'.heap.size
 block:∀k,k<w.heap.size->¬O k->w'.heap[k]?=w.heap[k]?
 kind:∀k,O k->(∃v,dI w k v)->∃v,dI w' k v
def Kp.refl(O:ZN)(w:Zw):Kp O w w:=⟨D,D,D,E,zS,zS⟩
def Kp.trans{c:Zw}(h:Kp O a b)(k:Kp O b c):Kp O a c:=
 ⟨k.os.trans h.os,k.tape.trans h.tape,k.output.trans h.output,Q1 h.size k.size,λi d e=>(k.block i (Qn d h.size) e).trans (h.block i d e),λi d f=>k.kind i d (h.kind i d f)⟩
def Kp.of_below(h:Bw a b):Kp O a b:=⟨h.os,h.tape,h.output,h.size,λk d _=>h.block k d,λk _ ⟨v,c⟩=>⟨v,(h.block k c.lt).trans c⟩⟩
def Kp.cells(h:Kp O a b)(d:∃v,dI a k v):∃v,dI b k v:=by
 by_cases c:O k;·exact h.kind k c d
 .obtain⟨v,e⟩:=d;exact⟨v,(h.block k e.lt c).trans e⟩
def Kp.mono(h:Kp O a b)(c:∀k,O k->O' k):Kp O' a b:=⟨h.os,h.tape,h.output,h.size,λk e f=>h.block k e λg=>f (c k g),λ_ _ d=>h.cells d⟩
def Kp.set{b:Nat}(d:O b)(v:Zv):Kp O w (w.setCell ⟨b,0,Y⟩ v):=⟨D,D,D,zS,λk _ a=>Qr _ _ _ _ λe=>a (e ▸ d),λk _ f=>by
 obtain⟨u,c⟩:=f
 by_cases e:k=b
 .subst e;exact⟨v,c.set v⟩
 .exact⟨u,(Qr _ _ _ _ e).trans c⟩⟩
def Kp.drew(h:Kp O a b):Kp O a b.drew:=⟨h.os,h.tape,h.output,h.size,h.block,h.kind⟩
def Kp.same(h:Kp O a b)(c:∀k,S k->k<a.heap.size/\¬O k):gw S a b:=λk d=>h.block k (c k d).1 (c k d).2
def Kp.cell(h:Kp O a b){o:Nat}(c:a7 a k o=Z v)(d:¬O k):a7 b k o=Z v:=
 (Ql (w:=a) (w':=b) (a:=⟨k,o,Y⟩) (h.block k (dK c) d)).trans c
def dI.keep{b:Nat}(h:dI w b v)(c:Kp O w w')(a:¬O b):dI w' b v:=(c.block b h.lt a).trans h
def Sn(C:ZN)(w:Zw):ZN:=λb=>b<w.heap.size/\¬C b
def Sn.up(h:a.heap.size<=b.heap.size):∀k,Sn C a k->Sn C b k:=λ_ c=>⟨Qn c.1 h,c.2⟩
def Sn.same(h:Kp O a b)(d:∀k,O k->C k):gw (Sn C a) a b:=h.same λ_ c=>⟨c.1,λe=>c.2 (d _ e)⟩
def cN.run{t:T n}(h:cN (Sn C a) a n t v)(c:Kp O a b)(d:∀k,O k->C k):cN (Sn C b) b n t v:=h.keep (Sn.same c d) (Sn.up c.size)
def fp(C:ZN)(w:Zw):List (ZB×Nat)->gk->Prop
 | [],[]=>True
 | (s,b) :: r,(s',t) :: e=>s=s' /\ C b/\(∃v,dI w b v/\cN (Sn C w) w 6 t v)/\dB 6 t=true/\fp C w r e
 | _,_=>False
def fp.run(a:Kp O w w')(m:∀k,O k->C k):∀ {r:List (ZB×Nat)} {e:gk},fp C w r e->(∀p,p∈r->¬O p.2)->fp C w' r e:=by
 intro r;induction r with
 | nil=>intro e h _;cases e with|nil=>exact h|cons p q=>exact h.elim
 | cons p r n=>
  intro e h c;cases e with
  | nil=>exact h.elim
  | cons q e=>obtain⟨s,b⟩:=p;obtain⟨o,t⟩:=q;obtain⟨d,f,⟨v,g,i⟩,j,l⟩:=h;exact⟨d,f,⟨v,g.keep a (c (s,b) zS),i.run a m⟩,j,n l λp hp=>c p (Qt _ hp)⟩
def fp.ok:∀ {r:List (ZB×Nat)} {e:gk},fp C w r e->∀p,p∈e->dB 6 p.2=true:=by
 intro r;induction r with
 | nil=>intro e h p hp;cases e with|nil=>cases hp|cons p q=>exact h.elim
 | cons q r d=>
  intro e h p hp;cases e with
  | nil=>exact h.elim
  | cons f e=>
   obtain⟨s,b⟩:=q;obtain⟨k,t⟩:=f;obtain⟨g,i,j,a,c⟩:=h;rcases QW.1 hp with rfl|hp;·exact a
   .exact d c p hp
def fL(c:Int):List PanicEntry:=[{ v:=.iface 73 (Za #[I U c,I U 0]),recovered:=false }]
def cQ(C O:ZN)(w:Zw)(r:Except Int V6)(e:Ending)(w':Zw):Prop:=
 Kp O w w' /\ match r with
  | .ok t=>∃v,e=Zr v/\cN (Sn C w') w' 6 t v
  | .error c=>e=.panicked (fL c)
abbrev eN(g s:Nat):Zv:=.func (.func 67) #[] #[Zp (b5 g 0),Zp (b5 s 0)]
def lH(C O:ZN)(w:Zw)(r:Except Int V6)(g s:Nat):Prop:=
 WU WV 67 #[Zp (b5 g 0),Zp (b5 s 0)] w (cQ C O w r)
def eL(C O:ZN)(w:Zw)(r:Except Int V6)(k:Int)(a:Nat)(e:Ending)(w':Zw):Prop:=
 Kp O w w' /\ match r with
  | .ok t=>(F.k t=k/\∃v,e=Zr v/\cN (Sn C w') w' 6 t (.iface a v))∨(¬F.k t=k/\e=.panicked (fL 6))
  | .error c=>e=.panicked (fL c)
def nJ(c:Int)(w:Zw):WU WV 161 #[Zb true,I U c] w λe a=>e=Zr (Zu #[])/\a=w:=by go_in;go_wp2;go_end0;exact⟨D,D⟩
def pJ(c:Int)(w:Zw):WU WV 161 #[Zb false,I U c] w λe a=>e=.panicked (fL c)/\a=w:=by go_in;go_wp2;exact⟨D,D,D⟩
abbrev Kj(S T:W9)(z:Zv):Prop:=∀(x:Zv)(w:Zw),(Instr.typeAssert (.iface S x) 71 T true).run WV w=.ok (Zu #[bif S==T then x else z,Zb (S==T)]) w
def AsT(T:W9)(z:Zv):Prop:=T=120/\z=I U 0∨T=121/\z=Zt WT∨T=123/\z=Zb false∨T=125/\z=A Y 0 0∨T=128/\z=Za #[A Y 0 0,A Y 0 0]∨T=129/\z=A Y 0 0
def lK{T:TypeId}{z:Zv} (h:AsT T z:=by simp[AsT]):Kj 120 T z/\Kj 121 T z/\Kj 123 T z/\Kj 125 T z/\Kj 128 T z/\Kj 129 T z:=by rcases h with ⟨rfl,rfl⟩|⟨rfl,rfl⟩|⟨rfl,rfl⟩|⟨rfl,rfl⟩|⟨rfl,rfl⟩|⟨rfl,rfl⟩;all_goals exact⟨λ_ _=>zK,λ_ _=>zK,λ_ _=>zK,λ_ _=>zK,λ_ _=>zK,λ_ _=>zK⟩
def mx{k:Int}{T:TypeId}(C O:ZN)(w:Zw)(r:Except Int V6)(g s:Nat)(h:lH C O w r g s) (x:Fzq=165/\k=1/\T=120∨Fzq=166/\k=2/\T=121∨Fzq=118/\k=3/\T=123∨Fzq=172/\k=4/\T=125∨Fzq=177/\k=6/\T=129:=by simp):Calls prog Fzq #[eN g s] w (eL C O w r k T):=by
 have j:=a8 h;have m:=a8 λ(t:V6) w1 (o:Kp O w w1) (p:¬F.k t=k)=>(show eL C O w (.ok t) k T (.panicked (fL 6)) w1 from ⟨o,zE⟩);have n:=a8 λ(t:V6) w1 v (o:Kp O w w1) (p:F.k t=k) (u:cN (Sn C w1) w1 6 t (.iface T v))=>(show eL C O w (.ok t) k T (Zr v) w1 from ⟨o,.inl ⟨p,v,D,u⟩⟩);have b:=@lK T;rcases x with ⟨rfl,rfl,rfl⟩|⟨rfl,rfl,rfl⟩|⟨rfl,rfl,rfl⟩|⟨rfl,rfl,rfl⟩|⟨rfl,rfl,rfl⟩;all_goals
  have b:=b (z:=_) (by simp[AsT];rfl)
  simp[Kj]at b
  go_in
  go_wp2_with fail
  refine H j ?_
  rintro e w1 ⟨i,a⟩
  cases r with
  | error c=>
   have a:=a
   subst a
   exact⟨D,i,D⟩
  | ok t=>
   obtain⟨v,rfl,f⟩:=a
   have l:=a8 f
   rcases f with ⟨d,rfl⟩|⟨d,rfl⟩|⟨d,rfl⟩|⟨d,q,rfl,a⟩|⟨d,L,q,rfl,K,a⟩|⟨d,q,rfl,a⟩
   all_goals first
    | (have HP:=a8 (m t w1 i E);clear m n j l i;exact P5)
    | (have HP:=a8 (n t w1 _ i d l);(try obtain⟨y,B,rfl,-⟩:=id a);clear m n j l i;exact mh)
def kY{r:Except Int V6}(h:lH C O w r g s):WU WV 165 #[eN g s] w (eL C O w r 1 120):=mx C O w r g s h
def uJ{r:Except Int V6}(h:lH C O w r g s):WU WV 166 #[eN g s] w (eL C O w r 2 121):=mx C O w r g s h
def j7{r:Except Int V6}(h:lH C O w r g s):WU WV 118 #[eN g s] w (eL C O w r 3 123):=mx C O w r g s h
def lA{r:Except Int V6}(h:lH C O w r g s):WU WV 172 #[eN g s] w (eL C O w r 4 125):=mx C O w r g s h
def sU{r:Except Int V6}(h:lH C O w r g s):WU WV 177 #[eN g s] w (eL C O w r 6 129):=mx C O w r g s h
def Nh(C O:ZN)(w:Zw)(r:Except Int V6)(g s:Nat):Prop:=
 ∀(a:ZN)(W:Zw),(∀b,b<w.heap.size->(a b↔C b))->(∀b,a b->b<W.heap.size)->Bw w W->lH a O W r g s
def Nh.here{r:Except Int V6}(h:Nh C O w r g s)(a:∀b,C b->b<w.heap.size):lH C O w r g s:=h C w zS a (Qg _ _)
def ef{b:Nat}{x y:Zv}{a:W9}(h:w.heap[b]?=Z (Zc #[x,y] a (0,0))):(a7 w b 0=Z x/\a7 w b 1=Z y)/\w.frozen? ⟨b,0,Y⟩=false/\w.frozen? ⟨b,1,Y⟩=false:=by simp[WY,World.frozen?,h]
def Su{o:Obj}(h:Kp O (w.alloc o) w1):Kp O w w1:=(Kp.of_below (eC w o)).trans h
def o8{r:Except Int V6}(h:Nh C O w r g s)(P:∀b,C b->b<w.heap.size)(y:∀b,O b->C b):WU WV 168 #[eN g s] w (eL C O w r 5 128):=by
 have N:G (lH (λb=>C b∨b=w.heap.size) O (w.alloc (Zc #[A Y 0 0,A Y 0 0] 128)) r g s):=by
  refine h _ _ (λb L=>⟨λh=>h.elim id λe=>?_,.inl⟩) (λb L=>?_) (eC _ _);·omega
  .rcases L with L|rfl;·have:=P b L;simp;omega
   .exact dS
 have q8:=Qh w (Zc #[A Y 0 0,A Y 0 0] 128);have V:¬O w.heap.size:=λh=>by have:=P _ (y _ h);omega
 have Q:=y;clear h;have q5:=lK (T:=128) (z:=Za #[A Y 0 0,A Y 0 0]);simp[Kj]at q5;go_in;go_wp2_with fail;refine H N ?_;rintro e w1 ⟨i,m⟩;have a:=Su i;have n:w1.heap[w.heap.size]?=Z (Zc #[A Y 0 0,A Y 0 0] 128 (0,0)):=(i.block w.heap.size zS V).trans q8;cases r with
 | error c=>have m:e=.panicked (fL c):=m;subst m;exact⟨D,a,D⟩
 | ok t=>
  obtain⟨v,rfl,B⟩:=m;have HP:G (¬F.k t=5->∀W,Bw w1 W->eL C O w (.ok t) 5 128 (.panicked (fL 6)) W):=λx W u=>⟨a.trans (.of_below u),zE⟩;have j:=B;rcases B with ⟨x,l⟩|⟨x,l⟩|⟨x,l⟩|⟨x,qq,l,m⟩|⟨x,qc,qq,l,M,m⟩|⟨x,qq,l,m⟩;case inr.inr.inr.inr.inl=>
   subst l;obtain⟨p,q,rfl,-⟩:=id m;obtain⟨d,f,rfl,-⟩:=id M;have q7:G (cN (Sn (λb=>C b∨b=w.heap.size) w1) w1 6 t (.iface 128 (Za #[A d (J (F.q t)) f,A p (J (F.o t)) q]))):=j;have R:w.heap.size<w1.heap.size:=(Qe.1 n).1;have HF:G (∀o W,cH w.heap.size (w1.alloc o) W->eL C O w (.ok t) 5 128 (Zr (Za #[A d (J (F.q t)) f,A p (J (F.o t)) q])) W):=λo W u=>by
    have K:=eC w1 o;have X:∀k,k<w1.heap.size->k≠w.heap.size->W.heap[k]?=w1.heap[k]?:=λk i S=>(u.block k zE S).trans (K.block k i);have q6:=Q1 K.size u.size;refine⟨⟨(u.os.trans K.os).trans a.os,(u.tape.trans zS).trans a.tape,(u.output.trans K.output).trans a.output,E,λk i M=>(X k E E).trans (a.block k i M),λk y qa=>by
     have⟨v,l⟩:=a.kind k y qa
     have:=P _ (Q k y)
     exact⟨v,(X k l.lt E).trans l⟩⟩,.inl ⟨x,_,D,q7.keep (λk i=>X k i.1 λe=>i.2 E) (λk i=>⟨Qn i.1 q6,λh=>i.2 (.inl h)⟩)⟩⟩
   have z0:=(Qf w1 (Zc #[A d (J (F.q t)) f,A p (J (F.o t)) q] 128) _ R).trans n;have ql:=Qh w1 (Zc #[A d (J (F.q t)) f,A p (J (F.o t)) q] 128);have q9:=HF.out (Zc #[A d (J (F.q t)) f,A p (J (F.o t)) q] 128);clear j i N HP q8 q7 m M a n HF;go_upto_region 3 with fail;generalize w1.alloc (Zc #[A d (J (F.q t)) f,A p (J (F.o t)) q] 128)=W at *;have⟨⟨r0,r1⟩,f0,f1⟩:=ef z0;obtain⟨⟨r2,r3⟩,-,-⟩:=ef ql;go_wp2_with fail;refine XQ (v:=Za #[A d (J (F.q t)) f,A p (J (F.o t)) q]) (by simp[results,results168,go_sem,r0,r1]) D ?_;refine q9 _ ((cH.set _ _ _ _).trans (cH.set _ _ _ _))
  all_goals
   subst l
   have HQ:=HP.out E
   clear j i a N HP n q8
   go_wp2_with fail
   exact⟨D,HQ _ (eC _ _)⟩
def kW(s:Int)(x:ZB)(a:Nat):Bool:=if s=2 then decide (x.size<=60) else if s=4 then decide (a<=20) else true
def hH:(n:Nat)->T n->Int->Bool
 | 0,_,_=>false
 | n+1,t,d=>decide (d<=6) && kW (F.k t) (F.a t) (J (F.o t)) && (F.o t).all (λk=>hH n k (d+1))
def tW:(n:Nat)->T n->Prop
 | 0,_=>False
 | n+1,t=>(F.k t=1∨F.k t=2∨F.k t=3->F.o t=[])/\(F.a t).size<=1000/\∀k,k∈F.o t->tW n k
def l7(h:eW x=true):x.size<=60:=by unfold eW at h;simp only[Qc,Qk]at h;exact h.1
def wN{s m:Int}{l:List ZB}{a:Nat}(h:cM s m x l a=true):(s=1∨s=2∨s=3->a=0)/\x.size<=60/\kW s x a=true:=by
 have jI:=dO x;unfold cM at h;unfold kW;split at h
 .next hs=>
  exact S5
 .split at h
  .next hs=>
   subst hs;simp at h;have:=l7 h.1.1.2;exact⟨E,this,by simp[this]⟩
  .split at h
   .next hs=>
    exact S5
   .split at h
    .next hs=>
     subst hs;simp at h;exact⟨E,by have:=jI (by simpa using h.1.1.2);omega,gE⟩
    .split at h
     .next hs=>
      exact S5
     .split at h
      .next hs=>
       exact S5
      .exact eI
def GQ:∀(n:Nat)(t:T n)(d:Int),cS n t d=true->tW n t:=by
 intro n;induction n with
 | zero=>intro t;exact Empty.elim (show Empty from t)
 | succ n e=>intro t d h;have⟨i,a,b⟩:=dY h;obtain⟨f,g,-⟩:=wN a;exact⟨λj=>Qj E,E,λk c=>e k _ (b k c)⟩
def KO:∀(n:Nat)(t:T n)(d e:Int),cS n t d=true->hH n t e=true->cS n t e=true:=by
 intro n;induction n with
 | zero=>intro t;exact Empty.elim (show Empty from t)
 | succ n g=>intro t d e h a;have⟨i,c,f⟩:=dY h;simp only[hH,Qc,Qk,Qo]at a;exact iL a.1.1 c λx b=>g x _ _ (f x b) (a.2 x b)
def Mg:∀(n:Nat)(t:T n)(e:Int),cS n t e=true->hH n t e=true:=by
 intro n;induction n with
 | zero=>intro t;exact Empty.elim (show Empty from t)
 | succ n f=>intro t e h;have⟨a,b,c⟩:=dY h;simp only[hH,Qc,Qk,Qo];exact⟨⟨a,(wN b).2.2⟩,λx d=>f x _ (c x d)⟩
def En {t:T (n+1)} (h:dL S w (n+1) t v) (o:(F.a t).size<=1000) :
  WU WV 163 #[v] w λe i=>e=Zr (Zb (kW (F.k t) (F.a t) (J (F.o t))))/\i=w:=by
 have c:=lK (T:=121) (z:=Zt WT);have d:=lK (T:=125) (z:=A Y 0 0);simp[Kj]at c d;rcases h with ⟨hs,rfl⟩|⟨hs,rfl⟩|⟨hs,rfl⟩|⟨hs,b,rfl,a⟩|⟨hs,p,b,rfl,m,a⟩|⟨hs,b,rfl,a⟩;·exact qbE
 .rw[show kW (F.k t) (F.a t) (J (F.o t))=decide ((F.a t).size<=60) by rw[hs];simp[kW]];generalize F.a t=x at *;by_cases g:x.size<=60;iterate 2
   .go_in;go_wp2_with fail;go_ret;exact⟨zE,D⟩
 .exact qbE
 .rw[show kW (F.k t) (F.a t) (J (F.o t))=decide (J (F.o t)<=20) by rw[hs];simp[kW]];obtain⟨j,k,rfl,f,-⟩:=a;unfold WX at f;generalize J (F.o t)=l at *;by_cases g:l<=20;iterate 2
   .go_in;go_wp2_with fail;go_ret;exact⟨zE,D⟩
 iterate 2
  .exact qbE
def DX {t:T (n+1)} (d:Int) (h:dL S w (n+1) t v) (m:(F.a t).size<=1000) (j:∀ b,S b->b<w.heap.size/\b≠pb)
  (hp:M9 w pb mb ab p 120 163) (k:0<=p) (l:p<=120) :
  WU WV 201 #[v,I U d,Zp (b5 pb 0),Zp (b5 mb 0),Zp (b5 ab 0)] w
   λe f=>e=Zr (Zb (decide (p+1<=120) && decide (d<=6) && kW (F.k t) (F.a t) (J (F.o t))))/\k6 f pb (p+1)/\cH pb w f:=by
 have a:cH pb w (w.setCell ⟨pb,0,Y⟩ (I U (p+1))):=cH.set pb 0 _ (I U (p+1));have c:k6 (w.setCell ⟨pb,0,Y⟩ (I U (p+1))) pb (p+1):=hp.parts.set (p+1);have i:=h.keep (a.same j) zI;have g:G (WU WV 163 _ _ _):=En i m;have c0:=hp.parts.cell;have f0:=hp.parts.free;have s:=hp.max;have a0:=hp.acc;have nm:=hp.nm;have o:=hp.na;obtain⟨u,x,rfl⟩:=h.iface;clear h i hp j;generalize kW (F.k t) (F.a t) (J (F.o t))=z at *;by_cases q:p+1<=120
 .by_cases r:d<=6;·go_in;go_wp2_with fail;refine H g ?_;rintro e f ⟨rfl,rfl⟩;clear g;go_wp2;go_ret;exact⟨zE,c,a⟩
  .go_in;go_wp2;go_ret;exact⟨zE,c,a⟩
 .go_in;go_wp2;go_ret;exact⟨zE,c,a⟩
def iY(n:Nat)(t:T n)(d p:Int)(a:Nat)(w:Zw)(e:Ending)(w':Zw):Prop:=
 cH a w w' /\ ∃r,e=Zr (Zb r)/\(r=true->hH n t d=true/\p+(cJ n t:Int)<=120/\k6 w' a (p+cJ n t))/\(r=false->¬(hH n t d=true/\p+(cJ n t:Int)<=120))
def Y0(c b a:Nat):Zv:=.func (.func 201) #[] #[Zp (b5 c 0),Zp (b5 b 0),Zp (b5 a 0)]
def Bq(n:Nat):Prop:=∀(S:ZN)(t:T n)(v:Zv)(d p:Int)(a e c:Nat)(w:Zw),dL S w n t v->tW n t->(∀b,S b->b<w.heap.size/\b≠a)->M9 w a e c p 120 163->0<=p->p<=120->1<=d->d<=7 ->
 WU WV 200 #[v,I U d,Y0 a e c] w (iY n t d p a w)
def MI {n:Nat} {t:T (n+1)} {d p:Int} (k:Nat) (hk:k<J (F.o t))
  (h:¬(hH n (F.o t)[k] (d+1)=true/\p+1+(cG (λx=>cJ n x) ((F.o t).take k):Int)+(cJ n (F.o t)[k]:Int)<=120)):¬(hH (n+1) t d=true/\p+(cJ (n+1) t:Int)<=120):=by rintro ⟨h1,h2⟩;apply h;simp only[hH,Qc,Qo]at h1;exact TJ
def Fu{t:T (n+1)}(a:(decide (p+1<=120) && decide (d<=6) && kW (F.k t) (F.a t) (J (F.o t)))=false):¬(hH (n+1) t d=true/\p+(cJ (n+1) t:Int)<=120):=by
 rintro ⟨b,c⟩;simp only[hH,Qc,Qk]at b;have:p+1<=120:=by simp only[cJ]at c;omega
 rw[b.1.2,QK b.1.1,QK this]at a;cases a
def rQ {t:T (n+1)} (d:Int) (h:dL S w (n+1) t v) (m:tW (n+1) t) (u:∀ b,S b->b<w.heap.size/\b≠pb) (hp:M9 w pb mb ab p 120 163) (j:0<=p) (k:p<=120)
  (B:(∃x,v=.iface 120 (I U x))∨(∃x,v=.iface 121 (Zt x))∨(∃x,v=.iface 123 (Zb x))) (y:F.k t=1∨F.k t=2∨F.k t=3) :
  WU WV 200 #[v,I U d,Y0 pb mb ab] w (iY (n+1) t d p pb w):=by
 have o:=a8 (DX d h m.2.1 u hp j k);have i:=m.1 y;have r:G ((decide (p+1<=120) && decide (d<=6) && kW (F.k t) (F.a t) (J (F.o t)))=true->∀c,k6 c pb (p+1)->cH pb w c->iY (n+1) t d p pb w (Zr (Zb true)) c):=λa c s g=>by
  simp only[Qc,Qk]at a;have e:(cJ (n+1) t:Int)=1:=by simp[cJ,i,cG]
  refine⟨g,true,D,λ_=>⟨?_,?_,?_⟩,zS⟩;·rw[i]at a;simp[hH,i,a.1.2];simpa using a.2
  .rw[e];exact E
  .rw[e];exact s
 have q:G ((decide (p+1<=120) && decide (d<=6) && kW (F.k t) (F.a t) (J (F.o t)))=false->∀c,cH pb w c->iY (n+1) t d p pb w (Zr (Zb false)) c):=λa c g=>⟨g,false,D,zS,λ_=>Fu a⟩;unfold Y0;generalize (decide (p+1<=120) && decide (d<=6) && kW (F.k t) (F.a t) (J (F.o t)))=z at *;rcases B with ⟨x,rfl⟩|⟨x,rfl⟩|⟨x,rfl⟩;all_goals
  go_in
  go_wp2_with fail
  refine H o ?_
  rintro e c ⟨rfl,l,f⟩
  cases z with
  | false=>
   have HP:=q.out D c f
   exact mh
  | true=>
   have HP:=r.out D c l f
   go_wp2_with (first|(go_at_call 309;go_in)|(go_at_call 310;go_in)|(go_at_call 311;go_in))
   go_rounds 1
   go_ret
   exact HP
def G3(a:ZA)(l c:Nat)(w:Zw):WU WV 312 #[A a l c] w λe b=>e=Zr (A a l c)/\w=b:=by exact Fz
def Et(a:ZA)(l c:Nat)(w:Zw):WU WV 314 #[A a l c] w λe b=>e=Zr (A a l c)/\w=b:=by exact Fz
def G2(a b:ZA)(l c m d:Nat)(w:Zw):WU WV 313 #[Za #[A a l c,A b m d]] w λe f=>e=Zr (A b m d)/\f=w.alloc (Zc #[A a l c,A b m d] 128):=by exact Fz
def tO (hn:Bq n) {t:T (n+1)} (h:dL S w (n+1) t v) (qc:tW (n+1) t) (hr:fB S w (dL S w n) (F.o t) kv) (hB:∀ b,S b->b<w.heap.size/\b≠pb)
  (q:M9 w pb mb ab p 120 163) (q6:0<=p) (j2:p<=120) (aa:1<=d) (ac:d<=7)
  (hv:v=.iface 125 kv∨v=.iface 129 kv∨(∃a l c,v=.iface 128 (Za #[A a l c,kv]))) :
  WU WV 200 #[v,I U d,Y0 pb mb ab] w (iY (n+1) t d p pb w):=by
 have ql:=a8 (DX d h qc.2.1 hB q q6 j2);obtain⟨ao,cap,rfl,N,s⟩:=hr;unfold WX at N;have HF:G (∀k (h:k<J (F.o t)),tW n (F.o t)[k]):=λk h=>qc.2.2 _ zS;have V:G ((decide (p+1<=120) && decide (d<=6) && kW (F.k t) (F.a t) (J (F.o t)))=true->(p+1<=120/\d<=6)/\(decide (d<=6) && kW (F.k t) (F.a t) (J (F.o t)))=true):=λj=>by simp only[Qc,Qk]at j ⊢;exact⟨j.1,E,j.2⟩
 have HN:G ((decide (p+1<=120) && decide (d<=6) && kW (F.k t) (F.a t) (J (F.o t)))=false->∀y,cH pb w y->iY (n+1) t d p pb w (Zr (Zb false)) y):=λj y h2=>⟨h2,false,D,zS,λ_=>Fu j⟩;unfold Y0;generalize (decide (p+1<=120) && decide (d<=6) && kW (F.k t) (F.a t) (J (F.o t)))=z at *;rcases hv with rfl|rfl|⟨na,nl,nc,rfl⟩
 all_goals
  go_in
  go_wp2_with fail
  refine H ql ?_
  rintro e w1 ⟨rfl,Q,u⟩
  cases z with
  | false=>
   have HP:=HN.out D w1 u
   exact mh
  | true=>
  have⟨⟨P,ad⟩,W⟩:=V.out D
  have q8:=a8 W
  go_wp2_with (first|(go_at_call 312;refine H (G3 _ _ _ _) ?_;rintro e y ⟨rfl,rfl⟩)|(go_at_call 314;refine H (Et _ _ _ _) ?_;rintro e y ⟨rfl,rfl⟩)|(go_at_call 313;refine H (G2 _ _ _ _ _ _ _) ?_;rintro e y ⟨rfl,rfl⟩))
  go_loopw [17] (λi wr=>∃ k:Nat,k<=J (F.o t)/\i=I U k/\cH pb w wr/\k6 wr pb (p+1+(cG (λx=>cJ n x) ((F.o t).take k):Int)) /\
    p+1+(cG (λx=>cJ n x) ((F.o t).take k):Int)<=120/\((F.o t).take k).all (λx=>hH n x (d+1))=true) (λi _=>J (F.o t)-(intOf i).toNat)
  case atStart=>
   first
    | exact⟨0,E,D,u,by simpa [cG] using Q,by simpa [cG] using P,zS⟩
    | exact⟨0,E,D,u.trans (cH.alloc _ _ _),by simpa [cG] using Q.keep ((Qg _ _).alloc E _),by simpa [cG] using P,zS⟩
  case round=>
   obtain⟨k,hk,rfl,g,m,f,K⟩:=hrel
   have o:=a8 K
   have ae:=g.size
   by_cases qf:k<J (F.o t)
   .obtain⟨b,off,rfl,X,q7⟩:=s nS
    have⟨c,e0,L⟩:=q7 k qf
    obtain⟨ku,kx,rfl⟩:=L.iface
    have f0:=g.cell e0 (hB b X).2
    have M:=L.keep (g.same hB) zI
    have C:=a8 (hn S (F.o t)[k] (.iface ku kx) (d+1) _ pb mb ab wr M (HF k qf) (λb hb=>pf) (q.keep g m) E f E E)
    have B:=@MI n t d p k qf
    have xC:G (cG (λx=>cJ n x) ((F.o t).take (k+1))=cG (λx=>cJ n x) ((F.o t).take k)+cJ n (F.o t)[k]):=dw _ qf
    unfold Y0 at C
    go_wp2_with fail
    refine H C ?_
    rintro e qa ⟨q9,r,rfl,R,q5⟩
    have O:=g.trans q9
    cases r with
    | false=>
     have HP:G (iY (n+1) t d p pb w (Zr (Zb false)) qa):=⟨O,false,D,zS,λ_=>B (q5 D)⟩
     exact ow
    | true=>
     have⟨hg,hc,vp⟩:=R D
     have HR:G (cH pb w qa/\k6 qa pb (p+1+(cG (λx=>cJ n x) ((F.o t).take (k+1)):Int))/\p+1+(cG (λx=>cJ n x) ((F.o t).take (k+1)):Int)<=120/\((F.o t).take (k+1)).all (λx=>hH n x (d+1))=true):=by
      refine⟨O,?_,?_,pT qf o hg⟩
      .exact Tu
      .rw[xC.out];omega
     exact Yx
   .have j0:k=J (F.o t):=E
    have HP:G (iY (n+1) t d p pb w (Zr (Zb true)) wr):=by
     have qq:=o.out
     rw[j0,QG]at qq m f
     have e:p+1+(cG (λx=>cJ n x) (F.o t):Int)=p+(cJ (n+1) t:Int):=Cn
     rw[e]at m f
     exact⟨g,true,D,λ_=>⟨by have:=q8.out;simp only[hH,this,qq,ZV],f,m⟩,zS⟩
    exact ow
def MH:∀n,Bq n:=by
 intro n;induction n with
 | zero=>intro S t v d p u s r w h;exact h.elim
 | succ n o=>
  intro S t v d p u s r w h j i hp a b e f;have g:=h;rcases h with ⟨l,c⟩|⟨l,c⟩|⟨l,c⟩|⟨l,q,c,k⟩|⟨l,x,q,c,m,k⟩|⟨l,q,c,k⟩;·exact rQ d g j i hp a b (.inl ⟨_,c⟩) E
  .exact rQ d g j i hp a b (.inr (.inl ⟨_,c⟩)) E
  .exact rQ d g j i hp a b (.inr (.inr ⟨_,c⟩)) E
  .exact tO o g j k i hp a b e f (.inl c)
  .obtain⟨na,nc,rfl,-⟩:=id m;exact tO o g j k i hp a b e f (.inr (.inr ⟨_,_,_,c⟩))
  .exact tO o g j k i hp a b e f (.inr (.inl c))
def KY {t:T n} (h:dL S w n t v) (k:tW n t) (hB:Bd S w) (m:hH n t 1=true->cS n t 1=true) :
  WU WV 162 #[v,I U 120,.func (.func 163) #[] #[]] w λe o=>e=Zr (Zb (dB n t))/\Bw w o:=by
 obtain⟨s,u,rfl⟩:=h.iface;have hb:Bw w (((w.alloc (Zc #[I U 120] 3)).alloc (Zc #[.func (.func 163) #[] #[]] 194)).alloc (Zc #[I U 0] 3)):=
  ((eC _ _).alloc zS _).alloc zE _
 have i:=h.keep (b6 hb hB) (λ_ h=>h);have f:G (WU WV 200 _ _ _):=MH n S t _ 1 0 (w.heap.size+1+1) w.heap.size (w.heap.size+1) _ i k (λb hb=>y8)
  ⟨by rw[show w.heap.size+1+1=((w.alloc (Zc #[I U 120] 3)).alloc (Zc #[.func (.func 163) #[] #[]] 194)).heap.size by simp];exact k6.new _ 0,
   by simp[go_sem],ke,E,E⟩ E E E E
 have g:G (∀r:Bool,(r=true->hH n t 1=true/\(0:Int)+(cJ n t:Int)<=120)->(r=false->¬(hH n t 1=true/\(0:Int)+(cJ n t:Int)<=120))->r=dB n t):=λr a c=>by
  cases r with
  | true=>have⟨j,p⟩:=a D;unfold dB;rw[m j,QK E];rfl
  | false=>symm;rw[XL];intro h;simp only[dB,Qc,Qk]at h;exact c D ⟨Mg n t 1 h.1,E⟩
 unfold Y0 at f;go_in;go_wp2_with fail;refine H f ?_;rintro e w1 ⟨l,r,rfl,a,c⟩;have d:=hb.trans (l.below E zE);have q:=g.out r (λh=>⟨(a h).1,(a h).2.1⟩) c;go_wp2;go_ret;exact⟨D,d⟩
def CZ {t:T n} (h:dL S w n t v) (d:tW n t) (c:Bd S w) (f:hH n t 1=true->cS n t 1=true) :
  WU WV 105 #[v] w λe g=>Bw w g/\((dB n t=true/\e=Zr v)∨(dB n t=false/\e=.panicked (fL 4))):=by
 have b:=a8 (KY h d c f);obtain⟨j,k,rfl⟩:=h.iface;generalize dB n t=z at *;go_in;go_wp2_with fail;refine H b ?_;rintro e w1 ⟨rfl,a⟩;cases z with
 | true=>go_wp2_with fail;refine H (nJ _ _) ?_;rintro e i ⟨rfl,rfl⟩;go_wp2_with fail;go_ret;exact zE
 | false=>go_wp2_with fail;refine H (pJ _ _) ?_;rintro e i ⟨rfl,rfl⟩;exact⟨D,a,zS⟩
def Mf{t:T (n+1)}(h:hH (n+1) t d=true):kW (F.k t) (F.a t) (J (F.o t))=true/\∀x,x∈F.o t->hH n x (d+1)=true:=by simp only[hH,Qc,Qk,Qo]at h;exact⟨h.1.2,h.2⟩
def Lt{t:T 7}(a:cM (F.k t) (F.n t) (F.a t) (F.q t) (J (F.o t))=true∨kW (F.k t) (F.a t) (J (F.o t))=false)(d:∀k,k∈F.o t->dB 6 k=true):hH 7 t 1=true->cS 7 t 1=true:=by
 intro b;have b:=Mf (n:=6) b;rcases a with a|a;·exact iL (n:=6) zC a λx c=>KO 6 x 1 (1+1) (dr (d x c)).1 (b.2 x c)
 .rw[a]at b;cases b.1
def Lv {t:T 7} (d:Kp O w0 w) (h:cN (Sn C w) w 7 t v)
  (hp:Bw w w' /\ ((dB 7 t=true/\e=Zr v)∨(dB 7 t=false/\e=.panicked (fL 4)))):cQ C O w0 (eu t) e w':=by
 obtain⟨a,hp⟩:=hp;refine⟨d.trans (.of_below a),?_⟩;rcases hp with ⟨c,rfl⟩|⟨c,rfl⟩;·unfold eu;rw[Qm c];exact⟨v,D,(h.fit (L:=5) (dr c).1 zC).keep (b6 a λb a=>a.1) (Sn.up a.size)⟩
 .unfold eu;rw[c];exact D
def Kp.low(h:Kp O w w2)(d:B<=w.heap.size)(a:∀b,O b->B<=b):Below B w w2:=⟨h.os,h.tape,h.output,h.size,λk e=>h.block k E λc=>by have:=a k c;omega⟩
def iZ:List ZB->List Nat->List (ZB×Nat)->List (ZB×Nat)
 | s :: ns,b :: cs,r=>iZ ns cs ((s,b) :: r)
 | _,_,r=>r
def nW(op:Int):Nat:=if op=20∨op=32∨op=33∨op=34∨op=42∨op=43 then 1 else if op=35 then 2 else 100000
def ll(C Q:ZN)(w:Zw)(m:Nat)(k:T m)(r:List (ZB×Nat))(g s:Nat):Prop:=
 ∀(a:ZN)(W:Zw)(env:gk),(∀b,b<w.heap.size->a b->C b)->(∀b,Q b->a b)->(∀b,a b->b<W.heap.size)->Kp C w W->fp a W r env->lH a Q W (b7 m k env) g s
def ll.keep{C2:ZN}{k:T m}(h:ll C Q w m k r g s)(i:∀b,b<w.heap.size->C2 b->C b)(a:Kp C w w2):ll C2 Q w2 m k r g s:=by intro l W env o n f c p;have q:=a.size;exact h l W env (λb e d=>i b e (o b E d)) n f ⟨c.os.trans a.os,c.tape.trans a.tape,c.output.trans a.output,Q1 a.size c.size,λb e j=>(c.block b E λd=>j (i b e d)).trans (a.block b e j),λb _ d=>c.cells (a.cells d)⟩ p
def ll.wide{c:ZN}{k:T m}(h:ll C Q w m k r g s)(d:∀b,Q b->c b):ll C c w m k r g s:=λe W env i n a f l=>
 (h e W env i (λb j=>n b (d b j)) a f l).mono λ_ _ hp=>⟨hp.1.mono d,hp.2⟩
structure Rq(C Q:ZN)(w:Zw)(m:Nat)(t:T (m+1))(r:List (ZB×Nat))(cs:List Nat)(sb:Nat):Prop where
 nc:¬C sb
 node:∃c3 c4,a7 w sb 0=Z (I U (F.k t))/\a7 w sb 1=Z (I U (F.n t))/\a7 w sb 2=Z (Zt (F.a t))/\a7 w sb 3=Z c3/\a7 w sb 4=Z c4 /\
  cR (Sn C w) w (F.q t) c3/\(∃a l c,c4=A a l c)/\(F.a t).size<=WX
 cels:∃cv,a7 w sb 5=Z cv/\fB (Sn C w) w (λb v=>v=Zp (b5 b 0)) cs cv
 vals:∃va vc,a7 w sb 6=Z (A va (J (F.o t)) vc)/\(F.o t≠[]->∃vb vo,va=b5 vb vo/\Sn C w vb/\∀i (h:i<J (F.o t)),∃g s,a7 w vb (vo+i)=Z (eN g s) /\
  ll C Q w m (F.o t)[i] (if i=nW (F.k t) then iZ (F.q t) cs r else r) g s)
def Rq.keep{t:T (m+1)}(h:Rq C Q w m t r cs sb)(a:Kp C w w2):Rq C Q w2 m t r cs sb:=by have e:=Sn.same a zI;have d:∀b,Sn C w b->Sn C w2 b:=Sn.up a.size;have⟨c3,c4,q,u,v,x,y,z,B,K⟩:=h.node;have⟨k,l,n⟩:=h.cels;have⟨N,O,f0,f1⟩:=h.vals;refine⟨h.nc,⟨c3,c4,a.cell q h.nc,a.cell u h.nc,a.cell v h.nc,a.cell x h.nc,a.cell y h.nc,z.keep e d,B,K⟩,⟨k,a.cell l h.nc,n.keep e d zS⟩,⟨N,O,a.cell f0 h.nc,λc=>?_⟩⟩;obtain⟨j,P,rfl,f,L⟩:=f1 c;refine⟨j,P,D,d j f,λi M=>?_⟩;have⟨g,s,o,p⟩:=L i M;exact⟨g,s,a.cell o f.2,p.keep Cq a⟩
structure g9(C Q:ZN)(w:Zw)(m:Nat)(t:T (m+1))(r:List (ZB×Nat))(env:gk)(cs:List Nat)(sb:Nat):Prop where
 stp:Rq C Q w m t r cs sb
 env:fp C w r env
 lt:∀b,C b->b<w.heap.size
 own:∀b,Q b->C b
 away:∀p,p∈r->¬Q p.2/\p.2 ∉ cs
 cel:∀b,b∈cs->C b/\¬Q b/\∃v,dI w b v
 e:∃d,c7 (m+1) t d=true
 val:F.k t<=35
 laid:∃B,gH B w/\B<=w.heap.size/\∀b,C b->B<=b
 few:J (F.o t)<=200
 many:nW (F.k t)<3->J cs=J (F.q t)/\cs.Nodup
def de(Q:ZN)(cs:List Nat):ZN:=λb=>Q b∨b∈cs
def g9.keep{t:T (m+1)}(h:g9 C Q w m t r env cs sb)(c:Kp (de Q cs) w w2):g9 C Q w2 m t r env cs sb:=by
 have g:∀b,de Q cs b->C b:=λb a=>a.elim (h.own b) λa=>(h.cel b a).1;refine⟨h.stp.keep (c.mono g),h.env.run c g λp hp=>?_,λb a=>Qn (h.lt b a) c.size,h.own,h.away,λb a=>?_,h.e,h.val,?_,h.few,h.many⟩;·exact λi=>i.elim (h.away p hp).1 (h.away p hp).2
 .have⟨f,d,e⟩:=h.cel b a;exact⟨f,d,c.cells e⟩
 .have⟨B,f,d,e⟩:=h.laid;exact⟨B,f.step (c.low d λb a=>e b (g b a)),Q1 d c.size,e⟩
def g9.ok{t:T (m+1)}(h:g9 C Q w m t r env cs sb):eQ (iQ m) (show F (T m) from t)=true/\IP t:=by have⟨d,a⟩:=h.e;exact⟨(ed a).1,iW (ed a).1 h.val⟩
def g9.okE{t:T (m+1)}(h:g9 C Q w m t r env cs sb){k:T m}(f:(F.o t)[i]?=Z k)(e:gk)(a:∀p,p∈e->dB 6 p.2=true):lR (b7 m k e):=by obtain⟨c,rfl⟩:=QN.1 f;have⟨d,b⟩:=h.e;have hp:=kT (h.ok.2.kid i c);exact lC m _ (d+1) e ((ed b).2 _ zS) hp.1 hp.2 a
def g9.at {t:T (m+1)} (h:g9 C Q w m t r env cs sb) {k:T m} (l:(F.o t)[i]?=Z k) :
  ∃a b c g s,a7 w sb 6=Z (A (b5 a b) (J (F.o t)) c)/\a7 w a (b+i)=Z (eN g s)/\ll C Q w m k (if i=nW (F.k t) then iZ (F.q t) cs r else r) g s:=by obtain⟨hi,rfl⟩:=QN.1 l;have⟨o,c,f0,f1⟩:=h.stp.vals;obtain⟨a,b,rfl,n,j⟩:=f1 JU;have⟨g,s,d,f⟩:=j i hi;exact⟨a,b,c,g,s,f0,d,f⟩
def g9.plain {t:T (m+1)} (h:g9 C Q w m t r env cs sb) {k:T m} (O:(F.o t)[i]?=Z k) (a:i≠nW (F.k t)) :
  ∃n o z g s,a7 w sb 6=Z (A (b5 n o) (J (F.o t)) z)/\a7 w n (o+i)=Z (eN g s)/\Nh C Q w (b7 m k env) g s:=by
 have⟨n,o,z,g,s,u,f,c⟩:=h.at O;rw[Qd a]at c;have d:=h.lt;refine⟨n,o,z,g,s,u,f,λB W l x j=>c B W env (λb a=>(l b a).1) (λb a=>(l b (d b (h.own b a))).2 (h.own b a)) x (.of_below j) ?_⟩;have y:∀ {r:List (ZB×Nat)} {e:gk},fp C w r e->fp B W r e:=by
  intro r;induction r with
  | nil=>intro e h;cases e with|nil=>exact h|cons p q=>exact h.elim
  | cons p r P=>
   intro e h;cases e with
   | nil=>exact h.elim
   | cons q e=>obtain⟨s,b⟩:=p;obtain⟨R,t⟩:=q;obtain⟨u,f,⟨v,c,K⟩,L,M⟩:=h;refine⟨u,(l b (d b f)).2 f,⟨v,(j.block b c.lt).trans c,K.keep (b6 j λb a=>a.1) λb a=>⟨Qn a.1 j.size,λN=>a.2 ((l b a.1).1 N)⟩⟩,L,P M⟩
 exact y h.env
def eL.get {r:Except Int V6} {k:Int} (h:eL C O w r k ty e w') (m:lR r) (op:Int) (i:Nat) (b:Int) (j:∀ s,dV op i s b=(s==k)) :
  Kp O w w' /\ ((∃c,dD op i b r=.error c/\e=.panicked (fL c))∨(∃a v,dD op i b r=.ok a/\F.k a=k/\dB 6 a=true/\e=Zr v/\cN (Sn C w') w' 6 a (.iface ty v))):=by
 obtain⟨l,h⟩:=h;refine⟨l,?_⟩;cases r with
 | error c=>exact .inl ⟨c,D,h⟩
 | ok a=>
  rcases h with ⟨d,v,f,g⟩|⟨d,f⟩;·exact .inr ⟨a,v,by simp[dD,j,d],d,m,f,g⟩
  .exact .inl ⟨6,by simp[dD,j,d],f⟩
def cQ.get {r:Except Int V6} (h:cQ C O w r e w') (g:lR r) :
  Kp O w w' /\ ((∃c,r=.error c/\e=.panicked (fL c))∨(∃a v,r=.ok a/\dB 6 a=true/\e=Zr v/\cN (Sn C w') w' 6 a v)):=by
 obtain⟨f,h⟩:=h;refine⟨f,?_⟩;cases r with
 | error c=>exact zE
 | ok a=>obtain⟨v,d,b⟩:=h;exact .inr ⟨a,v,D,g,d,b⟩
def oe{a:T (n+1)}(h:cN S w (n+1) a (.iface 120 v)):v=I U (F.n a):=by exact PZ
def yz{a:T (n+1)}(h:cN S w (n+1) a (.iface 121 v)):v=Zt (F.a a):=by exact PZ
def nG{a:T (n+1)}(h:cN S w (n+1) a (.iface 123 v)):v=Zb (F.n a==1):=by exact PZ
def oW{a:T (n+1)}(h:cN S w (n+1) a (.iface 125 v)):rm S w (cN S w n) (F.o a) v:=by
 rcases h with ⟨_,h⟩|⟨_,h⟩|⟨_,h⟩|⟨_,b,h,c⟩|⟨_,d,b,h,_,_⟩|⟨_,b,h,_⟩<;>cases h
 exact c
def yy{a:T (n+1)}(h:cN S w (n+1) a (.iface 128 v)):∃c b,v=Za #[c,b]/\cR S w (F.q a) c/\fB S w (cN S w n) (F.o a) b:=by
 rcases h with ⟨_,h⟩|⟨_,h⟩|⟨_,h⟩|⟨_,b,h,f⟩|⟨_,c,b,h,d,e⟩|⟨_,b,h,_⟩<;>cases h
 exact⟨_,_,D,d,e⟩
def B2{a:T (n+1)}(h:cN S w (n+1) a (.iface 129 v)):fB S w (cN S w n) (F.o a) v:=by
 rcases h with ⟨_,h⟩|⟨_,h⟩|⟨_,h⟩|⟨_,c,h,b⟩|⟨_,d,c,h,_,_⟩|⟨_,c,h,b⟩<;>cases h
 exact b
def nY(S:ZN)(w:Zw)(b:Bool):cN S w 6 (lO b) (.iface 123 (Zb b)):=by refine .inr (.inr (.inl ⟨D,?_⟩));cases b<;>rfl
def BJ(S:ZN)(w:Zw)(n:Int):cN S w 6 (fR 1 n WT) (.iface 120 (I U n)):=.inl ⟨D,D⟩
def x9(S:ZN)(w:Zw)(x:ZB):cN S w 6 (fR 2 0 x) (.iface 121 (Zt x)):=.inr (.inl ⟨D,D⟩)
def mB{ev:α->gk->Except Int V6}{n:F α}(a:n.k≠4)(b:hZ n.k=false):gF ev n env=match iJ ev n.k env n.o [] with|.error c=>.error c|.ok ks=>e8 n.k n.n n.a n.q ks:=by unfold gF;rw[Qd a,b];exact cU
def rS{t:T (m+1)}(b:F.o t=[])(a:F.k t≠4)(c:hZ (F.k t)=false):b7 (m+1) t env=e8 (F.k t) (F.n t) (F.a t) (F.q t) []:=by show gF (b7 m) (show F (T m) from t) env=_;rw[mB a c,show (show F (T m) from t).o=[] from b];exact cU
def j8 {t:T (m+1)} {k0:T m} (d:F.o t=[k0]) (b:F.k t≠4) (e:hZ (F.k t)=false):b7 (m+1) t env =
  match dD (F.k t) 0 0 (b7 m k0 env) with|.error c=>.error c|.ok a=>e8 (F.k t) (F.n t) (F.a t) (F.q t) [a]:=by show gF (b7 m) (show F (T m) from t) env=_;rw[mB b e,show (show F (T m) from t).o=[k0] from d];show (match (match dD (F.k t) 0 0 (b7 m k0 env) with|Ub c=>Ub c|Uo t'=>iJ (b7 m) (F.k t) env [] ([]++[t'])) with|Ub c=>Ub c|Uo ks=>e8 (F.k t) (F.n t) (F.a t) (F.q t) ks)=_;cases dD (F.k t) 0 0 (b7 m k0 env)<;>rfl
theorem l8 {t:T (m+1)} {k0 d:T m} (f:F.o t=[k0,d]) (e:F.k t≠4) (g:hZ (F.k t)=false):b7 (m+1) t env =
  match dD (F.k t) 0 0 (b7 m k0 env) with
  | .error c=>.error c
  | .ok a=>match dD (F.k t) 1 (F.k a) (b7 m d env) with
   | .error c=>.error c
   | .ok b=>e8 (F.k t) (F.n t) (F.a t) (F.q t) [a,b]:=by
 show gF (b7 m) (show F (T m) from t) env=_;rw[mB e g,show (show F (T m) from t).o=[k0,d] from f];show (match (match dD (F.k t) 0 0 (b7 m k0 env) with|Ub c=>Ub c|Uo t'=>iJ (b7 m) (F.k t) env [d] ([]++[t'])) with|Ub c=>Ub c|Uo ks=>e8 (F.k t) (F.n t) (F.a t) (F.q t) ks)=_;cases dD (F.k t) 0 0 (b7 m k0 env) with
 | error c=>rfl
 | ok a=>show (match (match dD (F.k t) 1 (F.k a) (b7 m d env) with|Ub c=>Ub c|Uo t'=>iJ (b7 m) (F.k t) env [] ([a]++[t'])) with|Ub c=>Ub c|Uo ks=>e8 (F.k t) (F.n t) (F.a t) (F.q t) ks)=_;cases h:dD (F.k t) 1 (F.k a) (b7 m d env)<;>simp only[h]<;>rfl
theorem F4 {t:T (m+1)} {k0 e d:T m} (g:F.o t=[k0,e,d]) (f:F.k t≠4) (i:hZ (F.k t)=false):b7 (m+1) t env =
  match dD (F.k t) 0 0 (b7 m k0 env) with
  | .error c=>.error c
  | .ok a=>match dD (F.k t) 1 (F.k a) (b7 m e env) with
   | .error c=>.error c
   | .ok b=>match dD (F.k t) 2 (F.k a) (b7 m d env) with
    | .error c=>.error c
    | .ok c=>e8 (F.k t) (F.n t) (F.a t) (F.q t) [a,b,c]:=by
 show gF (b7 m) (show F (T m) from t) env=_;rw[mB f i,show (show F (T m) from t).o=[k0,e,d] from g];show (match (match dD (F.k t) 0 0 (b7 m k0 env) with|Ub c=>Ub c|Uo t'=>iJ (b7 m) (F.k t) env [e,d] ([]++[t'])) with|Ub c=>Ub c|Uo ks=>e8 (F.k t) (F.n t) (F.a t) (F.q t) ks)=_;cases dD (F.k t) 0 0 (b7 m k0 env) with
 | error c=>rfl
 | ok a=>
  show (match (match dD (F.k t) 1 (F.k a) (b7 m e env) with|Ub c=>Ub c|Uo t'=>iJ (b7 m) (F.k t) env [d] ([a]++[t'])) with|Ub c=>Ub c|Uo ks=>e8 (F.k t) (F.n t) (F.a t) (F.q t) ks)=_;cases h:dD (F.k t) 1 (F.k a) (b7 m e env) with
  | error c=>simp only[h]
  | ok b=>simp only[h];show (match (match dD (F.k t) 2 (F.k a) (b7 m d env) with|Ub c=>Ub c|Uo t'=>iJ (b7 m) (F.k t) env [] ([a,b]++[t'])) with|Ub c=>Ub c|Uo ks=>e8 (F.k t) (F.n t) (F.a t) (F.q t) ks)=_;cases dD (F.k t) 2 (F.k a) (b7 m d env)<;>rfl
def gP {t:T (m+1)} {k0:T m} (a:(F.o t)[0]?=Z k0) (b:F.k t≠4) (d:hZ (F.k t)=true):b7 (m+1) t env =
  match dD (F.k t) 0 0 (b7 m k0 env) with|.error c=>.error c|.ok f=>eo (b7 m) (F.k t) (F.q t) (F.o t) env f:=by
 show gF (b7 m) (show F (T m) from t) env=_;unfold gF;rw[Qd b,show hZ (show F (T m) from t).k=true from d,Qm D];have a:gi (b7 m) (show F (T m) from t).o 0 env=b7 m k0 env:=by unfold gi;rw[show (show F (T m) from t).o[0]?=Z k0 from a]
 rw[a];exact cU
def iR{kids:List (T m)}{k:T m}(h:kids[i]?=Z k):gi (b7 m) kids i env=b7 m k env:=by unfold gi;rw[h]
def g9.len{t:T (m+1)}(h:g9 C Q w m t r env cs sb){op:Nat}(a:F.k t=(op:Int))(b:op≠24):J (F.o t)=J (mD op):=by have:=h.ok.2.cnt E;rw[a]at this;exact iG
def eP{R:Except Int V6}{c:Int}(b:Kp O w w')(a:R=.error c):cQ C O w R (.panicked (fL c)) w':=by subst a;exact⟨b,D⟩
def iD{R:Except Int V6}{a:V6}(d:Kp O w w')(b:R=.ok a)(c:cN (Sn C w') w' 6 a v):cQ C O w R (Zr v) w':=by subst b;exact⟨d,v,D,c⟩
def OG {t:T (m+1)} (h:g9 C Q w m t r env cs sb) (qv:F.k t=18) :
  WU WV 117 #[Zp (b5 sb 0)] w (cQ C (de Q cs) w (b7 (m+1) t env)):=by
 have⟨j,b⟩:=ry (h.len (op:=18) qv zC);have i:(F.o t)[0]?=Z j:=by rw[b];rfl
 have⟨u,y,x,g,s,l,n,p⟩:=h.plain i gt;rw[b]at l;rw[QC]at n;have k:=a8 (j7 (p.here h.lt));have f:=h.okE i env h.env.ok;have Ezq:=a8 (j8 (env:=env) b gt gt);rw[qv]at Ezq;generalize b7 (m+1) t env=R at *;generalize b7 m j env=r0 at *;go_in;go_wp2_with fail;refine H k ?_;intro e w1 hp;obtain⟨qB,⟨c,e1,rfl⟩|⟨a,v,e1,q,o,rfl,d⟩⟩:=hp.get f 18 0 0 nO;·exact pO
 .obtain rfl:=nG d;have HP:G (cQ C (de Q cs) w R (Zr (.iface 123 (Zb (!(F.n a==1))))) w1):=by
   refine iD (qB.mono λ_=>.inl) (by rw[Ezq.out,e1];rfl) ?_;have:(!(F.n a==1))=(F.n a==0):=by rcases (mO o q).1 with h|h<;>rw[h]<;>rfl
   rw[this];exact nY _ _ _
  exact mh
def iU {t:T 7} (g:Kp O w0 w) (a:cN (Sn C w) w 7 t v) (d:F.k t=1∨F.k t=2∨F.k t=3->F.o t=[]) (h:(F.a t).size<=1000)
  (b:∀k,k∈F.o t->dB 6 k=true) (e:cM (F.k t) (F.n t) (F.a t) (F.q t) (J (F.o t))=true∨kW (F.k t) (F.a t) (J (F.o t))=false) :
  WU WV 105 #[v] w (cQ C O w0 (eu t)):=
 (CZ a.inner ⟨d,h,λk c=>GQ 6 k 1 (dr (b k c)).1⟩ (λ_ f=>f.1) (Lt e b)).mono λ_ _ hp=>Lv g a hp
def RO{R:Except Int V6}(h:cQ C O w R e w'):(∃u x,e=Zr (.iface u x))∨∃ch,e=.panicked ch:=by
 obtain⟨-,h⟩:=h;cases R with
 | error c=>exact .inr ⟨_,h⟩
 | ok a=>obtain⟨v,rfl,b⟩:=h;obtain⟨u,x,rfl⟩:=b.iface;exact zS
def Ee{P:Prop} (h:P:=by rcases RO hp with ⟨vu2,vx2,rfl⟩|⟨ch,rfl⟩;(have HP:=a8 hp;clear hp;go_wp2_with fail;go_ret;exact HP);exact⟨D,hp⟩):P:=h
def g9.kid {t:T (m+1)} (h:g9 C Q w m t r env cs sb) {l:List (T m)} (o:F.o t=l) (i:Nat) (k:T m) (d:l[i]?=Z k) (n:i≠nW (F.k t)) :
  ∃a b c g s,a7 w sb 6=Z (A (b5 a b) (J l) c)/\a7 w a (b+i)=Z (eN g s)/\Nh C Q w (b7 m k env) g s/\lR (b7 m k env):=by subst o;have⟨a,b,c,g,s,e,f,j⟩:=h.plain d n;exact⟨a,b,c,g,s,e,f,j,h.okE d env h.env.ok⟩
def JE {a:V6} (c:W9) (h:cN (Sn C w) w 6 a v) (d:∀ b,C b->b<w.heap.size) :
  rm (Sn C (w.alloc (Zc #[v] c))) (w.alloc (Zc #[v] c)) (cN (Sn C (w.alloc (Zc #[v] c))) (w.alloc (Zc #[v] c)) 6) [a] (A (b5 w.heap.size 0) 1 1):=by refine⟨_,_,D,gO,λ_=>⟨w.heap.size,0,D,⟨dS,λf=>by have:=d _ f;omega⟩,λi hi=>?_⟩,QD _⟩;have hi:i=0:=oC;subst hi;refine⟨v,ke,?_⟩;exact h.keep (b6 (eC _ _) λb e=>e.1) (Sn.up zS)
def O5(S:ZN)(w:Zw)(R:α->Zv->Prop):rm S w R [] (A Y 0 0):=⟨Y,0,D,gO,λh=>absurd D h,QD _⟩
def JD(S:ZN)(w:Zw)(R:α->Zv->Prop):fB S w R [] (A Y 0 0):=⟨Y,0,D,gO,zS⟩
def LN {t:T (m+1)} (h:g9 C Q w m t r env cs sb) (qv:F.k t=5) :
  WU WV 102 #[Zp (b5 sb 0)] w (cQ C (de Q cs) w (b7 (m+1) t env)):=by have a:=Qj (h.len (op:=5) qv zC);have Ezq:=a8 (rS (env:=env) a gt gt);rw[qv]at Ezq;have HP:G (cQ C (de Q cs) w (b7 (m+1) t env) (Zr (.iface 129 (A Y 0 0))) w):=iD (.refl _ _) P6 (.inr (.inr (.inr (.inr (.inr ⟨D,_,D,JD _ _ _⟩)))));go_in;exact mh
def Hm {t:T (m+1)} (h:g9 C Q w m t r env cs sb) (qv:F.k t=6) :
  WU WV 103 #[Zp (b5 sb 0)] w (cQ C (de Q cs) w (b7 (m+1) t env)):=by have a:=Qj (h.len (op:=6) qv zC);have Ezq:=a8 (rS (env:=env) a gt gt);rw[qv]at Ezq;have HP:G (cQ C (de Q cs) w (b7 (m+1) t env) (Zr (.iface 125 (A Y 0 0))) w):=iD (.refl _ _) P6 (.inr (.inr (.inr (.inl ⟨D,_,D,O5 _ _ _⟩))));go_in;exact mh
def LT {t:T (m+1)} (h:g9 C Q w m t r env cs sb) (qv:F.k t=7) :
  WU WV 104 #[Zp (b5 sb 0)] w (cQ C (de Q cs) w (b7 (m+1) t env)):=by
 have⟨o,n⟩:=ry (h.len (op:=7) qv zC);have Ezq:=a8 (j8 (env:=env) n gt gt);rw[qv]at Ezq;have⟨z,K,B,L,M,q,i,j,g⟩:=h.kid n 0 o D gt;rw[QC]at i;have f:=h.lt;have p:=a8 (j.here f);generalize b7 (m+1) t env=R at *;generalize b7 m o env=r0 at *;go_in;go_wp2_with fail;refine H p ?_;intro e w1 hp;obtain⟨qB,⟨c,rfl,rfl⟩|⟨a,v,rfl,s,rfl,d⟩⟩:=cQ.get hp g;·exact IE
 .have l:=qB.size;have HB:G (WU WV 105 #[.iface 129 (A (b5 w1.heap.size 0) 1 1)] (w1.alloc (Zc #[v] 71)) (cQ C (de Q cs) w R)):=by have y:R=eu (fd 6 0 WT [] [a]):=P6;rw[y];refine iU ((qB.mono λ_=>.inl).trans (.of_below (eC _ _))) (.inr (.inr (.inr (.inr (.inr ⟨D,_,D,(JE _ d λb u=>Qn (f b u) l).row⟩))))) (λh=>absurd h (by show ¬((6:Int)=1∨(6:Int)=2∨(6:Int)=3);decide)) Cl (λk x=>by rw[QR.1 x];exact s) (.inl ?_);show cM 6 0 WT [] 1=true;simp[cM]
  obtain⟨N,O,rfl⟩:=d.iface;exact MO
def OH {t:T (m+1)} (h:g9 C Q w m t r env cs sb) (qv:F.k t=8) :
  WU WV 106 #[Zp (b5 sb 0)] w (cQ C (de Q cs) w (b7 (m+1) t env)):=by
 have⟨o,n⟩:=ry (h.len (op:=8) qv zC);have Ezq:=a8 (j8 (env:=env) n gt gt);rw[qv]at Ezq;have⟨z,K,B,L,M,q,i,j,g⟩:=h.kid n 0 o D gt;rw[QC]at i;have f:=h.lt;have p:=a8 (j.here f);generalize b7 (m+1) t env=R at *;generalize b7 m o env=r0 at *;go_in;go_wp2_with fail;refine H p ?_;intro e w1 hp;obtain⟨qB,⟨c,rfl,rfl⟩|⟨a,v,rfl,s,rfl,d⟩⟩:=cQ.get hp g;·exact IE
 .have l:=qB.size;have HB:G (WU WV 105 #[.iface 125 (A (b5 w1.heap.size 0) 1 1)] (w1.alloc (Zc #[v] 71)) (cQ C (de Q cs) w R)):=by have y:R=eu (fd 4 0 WT [] [a]):=P6;rw[y];refine iU ((qB.mono λ_=>.inl).trans (.of_below (eC _ _))) (.inr (.inr (.inr (.inl ⟨D,_,D,JE _ d λb u=>Qn (f b u) l⟩)))) Pt Cl (λk x=>by rw[QR.1 x];exact s) (.inl ?_);show cM 4 0 WT [] 1=true;simp[cM]
  obtain⟨N,O,rfl⟩:=d.iface;exact MO
structure te(S:ZN)(M n:Nat)(ks:List (T n))(w1:Zw)(k:Nat)(v:Zv)(wr:Zw):Prop where
 below:Below M w1 wr
 row:∃xs:List Zv,wr.ownsRow M 71 1 v k xs/\∀j (h:j<J ks) (hx:j<J xs),cN (λb=>S b∨(M<=b/\b<wr.heap.size/\v.ownBlock≠Z b)) wr n ks[j] xs[j]
def He {M:Nat} {a:List (T n)} {w3:Zw} {box one:Obj} (h:te S M n a w1 k v wr) (d:k<J a) (hS:∀ b,S b->b<M) (c:M<=wr.heap.size)
  (qd:wr.ownsRow M 71 1 v k xs) (qw:∀j (h:j<J a) (hx:j<J xs),cN (λb=>S b∨(M<=b/\b<wr.heap.size/\v.ownBlock≠Z b)) wr n a[j] xs[j])
  (qi:Below (wr.alloc box).heap.size (wr.alloc box) w2) (qm:cN (λb=>S b∨((wr.alloc box).heap.size<=b/\b<w2.heap.size)) w2 n a[k] kv)
  (jg:w3.ownsRow M 71 1 (A (b5 g 0) (k+1) cap) (k+1) (xs++[kv])) (qg:(w2.alloc one).grownBy w3 v.ownBlock) (qy:v.ownBlock=Z g∨g=w2.heap.size+1) :
  te S M n a w1 (k+1) (A (b5 g 0) (k+1) cap) w3:=by have qu:=qi.size;exact Yk
def Bn(S:ZN)(n:Nat)(t:T n)(w:Zw)(e:Ending)(w':Zw):Prop:=
 Bw w w' /\ ∃v,e=Zr v/\cN (λb=>S b∨(w.heap.size<=b/\b<w'.heap.size)) w' n t v
def pq(n:Nat):Prop:=∀(S:ZN)(t:T n)(c0 c1 c2 c3 c4:Zv)(d:Int)(w:Zw),cT S w n t c0 c1 c2 c3 c4->(Bd S w)->cS n t d=true->cJ n t<=120 ->
 WU WV 98 #[Za #[c0,c1,c2,c3,c4]] w (Bn S n t w)
def Hg (n:Nat) (hn:pq n) (S:ZN) (ks:List (T n)) (v:Zv) (d:Int) (w:Zw) (X:dn S w (cT S w n) ks v) (t:Bd S w) (hg:ks.all (λx=>cS n x d)=true) (hc:1+cG (λx=>cJ n x) ks<=120) :
  WU WV 159 #[v] w λe K=>Bw w K/\∃qa,e=Zr qa/\rm (λb=>S b∨(w.heap.size<=b/\b<K.heap.size)) K (cN (λb=>S b∨(w.heap.size<=b/\b<K.heap.size)) K n) ks qa:=by
 obtain⟨ao,cap,rfl,qq,o⟩:=X;have aa:J ks<=120:=by have:=mR hg;omega
 have r:G (∀k (h:k<J ks),cS n ks[k] d=true/\cJ n ks[k]<=120):=by intro k h;exact MM
 have⟨i0,hi,z,B,C⟩:=QY Tryz.info_at;have L:G (_/\_/\_/\_):=⟨hi,z,B,C⟩;go_in;go_wp2;go_loopw [3,8] (λv i wr=>∃k:Nat,k<=J ks/\i=I U k/\te S w.heap.size n ks w k v wr) (λ_ i _=>J ks-(intOf i).toNat);case atStart=>exact⟨0,E,D,Qg _ _,[],QV _ _ _ _,zS⟩
 case round=>
  obtain⟨k,hk,rfl,Q⟩:=hrel;have⟨xs,j,q7⟩:=Q.row;obtain⟨F,qc,rfl⟩:=ep j;have a:=Q.below;have j0:=a.size;have ql:=a8 Q;have M:=a8 j;have HK:=a8 q7;by_cases qf:k<J ks
  .obtain⟨b,off,rfl,R,m⟩:=o nS;have⟨y0,y1,y2,y3,y4,e0,e1,e2,e3,e4,X⟩:=m k qf;have c:=t b R;have f0:=kC a e0 c;have f1:=kC a e1 c;have f2:=kC a e2 c;have f3:=kC a e3 c;have f4:=kC a e4 c;have q:=X.keep (b6 a t) zI;obtain⟨z0,z1,z2,za,zl,zc,ua,ul,uc,rfl,rfl,rfl,rfl,rfl⟩:=q.shape;have W:=(Qg wr.heap.size wr).alloc E (UA z0 z1 z2 za zl zc ua ul uc);have q5:=q.keep (b6 W (fP t)) zI;have q8:=a8 (hn S ks[k] _ _ _ _ _ d _ q5 (fP t) (r k qf).1 (r k qf).2);go_wp2_with fail;refine H q8 ?_;rintro e O ⟨l,kv,rfl,y⟩;obtain⟨ku,kx,rfl⟩:=y.iface;have j2:wr.heap.size+1<=O.heap.size:=by have:=l.size;simpa using this
   have P:=a8 (cV M (λq9 V=>by have:=cO M q9 V;exact (l.block q9 zE).trans (Qf _ _ _ E)));have s:G (_/\_):=⟨l,y⟩;go_wp2_with (at_builtin;refine Xb _ D (.tmp 12) (.tmp 15) 124 D w.heap.size 71 i0 .nilIface 1 16 underlying124 L.1 L.2.1 L.2.2.1 L.2.2.2 D zC (A F k qc) k xs D (P.alloc _) ⟨O.heap.size,0,Y⟩ 1 1 [.iface ku kx] D D (QB (Qh O _)) iz zC fA E zE (O.heap.size+1) zS ?_;intro g cap w3 p f u q6;refine XE ?_);refine QJ ?_;have HF:=a8 (He ql qf t j0 M HK s.1 s.2 p f u);go_wp2;exact FU
  .have qn:k=J ks:=E;have HP:G (Bw w wr/\rm (λb=>S b∨(w.heap.size<=b/\b<wr.heap.size)) wr (cN (λb=>S b∨(w.heap.size<=b/\b<wr.heap.size)) wr n) ks (A F k qc)):=by refine⟨a,?_⟩;have N:=M.out;rw[qn]at N ⊢;refine .of (gM N zL (λg hg=>.inr (cO N g hg)) (λi hi hx=>?_)) (JB N);exact YL
   go_wp2;go_ret;exact⟨HP.1,_,D,HP.2⟩
def Hf(T:pq n):pq (n+1):=by
 intro S t c0 c1 c2 c3 c4 d w Y hB M hc;obtain⟨rfl,rfl,rfl,ql,-,-,h3,h4⟩:=Y;obtain⟨na,nc,rfl,-,-,-⟩:=id h3;obtain⟨q,r,rfl,-,-⟩:=id h4;simp only[cS,Qc]at M;have ha:cM (F.k t) (F.n t) (F.a t) (F.q t) (J (F.o t))=true:=M.1.2;have L:1+cG (λx=>cJ n x) (F.o t)<=120:=J3;have m:F.k t=1∨F.k t=2∨F.k t=3∨F.k t=4∨F.k t=5∨F.k t=6:=by exact Ts
 generalize X:F.k t=s at *;have p:=a8 X;have f:=(Qg w.heap.size w).alloc E (UA s (F.n t) (F.a t) na (J (F.q t)) nc q (J (F.o t)) r);have O:=nT.new w (I U s) (I U (F.n t)) (Zt (F.a t)) (A na (J (F.q t)) nc) (A q (J (F.o t)) r) 31;have P:=h3.keep (b6 f hB) zI;have z:=h4.keepT (b6 f hB) zI;have o:G (∀ W,Below (w.alloc (UA s (F.n t) (F.a t) na (J (F.q t)) nc q (J (F.o t)) r)).heap.size (w.alloc (UA s (F.n t) (F.a t) na (J (F.q t)) nc q (J (F.o t)) r)) W ->
   W.heap.size=w.heap.size+1->WU WV 159 #[A q (J (F.o t)) r] W λe k=>∃i l j,e=Zr (A i l j)/\Bw w k/\a7 k w.heap.size 3=Z (A na (J (F.q t)) nc) /\
    cR (λb=>S b∨(w.heap.size<=b/\b<k.heap.size)) k (F.q t) (A na (J (F.q t)) nc)/\rm (λb=>S b∨(w.heap.size<=b/\b<k.heap.size)) k (cN (λb=>S b∨(w.heap.size<=b/\b<k.heap.size)) k n) (F.o t) (A i l j)):=by
  intro W K Q
  have C:∀b,S b->b<(w.alloc (UA s (F.n t) (F.a t) na (J (F.q t)) nc q (J (F.o t)) r)).heap.size:=λb hb=>y8
  have B:=z.keepT (b6 K C) zI
  refine H (Hg n T S (F.o t) _ (d+1) W B (fP hB) M.2 L) ?_
  rintro e k ⟨hb,qc,rfl,a⟩
  obtain⟨i,j,rfl,-⟩:=id a
  have u:=(b9 f zS K).trans (hb.mono E)
  refine⟨_,_,_,D,u,(O.keep (K.trans (hb.mono zE))).c3,?_,?_⟩
  .exact h3.keep (b6 u hB) FL
  .exact a.use λV=>V.keep ik IF (λ_ _ _ qa=>qa.keep ik IF)
 have c:G (∀v W,Bw w W->cN (λb=>S b∨(w.heap.size<=b/\b<W.heap.size)) W (n+1) t v->Bn S (n+1) t w (Zr v) W):=λv W hb qq=>⟨hb,v,D,qq⟩;rcases m with rfl|rfl|rfl|rfl|rfl|rfl;·clear o;go_in;go_wp2;go_ret;exact c _ _ f (.inl ⟨p,D⟩)
 .clear o;go_in;go_wp2;go_ret;exact c _ _ f (.inr (.inl ⟨p,D⟩))
 .clear o;go_in;go_wp2;go_ret;exact c _ _ f (.inr (.inr (.inl ⟨p,D⟩)))
 .go_in;go_wp2_with fail;refine H (o _ (Qg _ _) zS) ?_;rintro e y ⟨i,l,j,rfl,g,-,-,a⟩;have HP:=c.out (.iface 125 (A i l j)) y g (.inr (.inr (.inr (.inl ⟨p,_,D,a⟩))));have zq:G _:=HP;exact Cs
 .go_in;go_wp2_with fail;go_region_with (go_at_call 159;refine H (o _ ((Qg _ _).drew) zS) ?_;rintro e y ⟨i,l,j,rfl,g,R,N,a⟩);all_goals
   have HP:=c.out (.iface 128 (Za #[A na (J (F.q t)) nc,A i l j])) y g (.inr (.inr (.inr (.inr (.inl ⟨p,_,_,D,N,a.row⟩)))))
   have zq:G _:=HP
   exact Cs
 .go_in;go_wp2_with fail;refine H (o _ (Qg _ _) zS) ?_;rintro e y ⟨i,l,j,rfl,g,-,-,a⟩;have HP:=c.out (.iface 129 (A i l j)) y g (.inr (.inr (.inr (.inr (.inr ⟨p,_,D,a.row⟩)))));have zq:G _:=HP;exact Cs
def BQ:∀n,pq n:=by
 intro n;induction n with
 | zero=>intro S t c0 c1 c2 c3 c4 d w a;exact a.elim
 | succ n b=>exact Hf b
def Ng(S:ZN)(n:Nat)(t:T n)(w:Zw)(e:Ending)(w':Zw):Prop:=
 Bw w w' /\ ((dB n t=true/\∃v,e=Zr (Zu #[v,Zb true])/\cN (λb=>S b∨(w.heap.size<=b/\b<w'.heap.size)) w' n t v)∨(dB n t=false/\e=Zr (Zu #[.nilIface,Zb false])))
def GT (n:Nat) (S:ZN) (t:T n) (c0 c1 c2 c3 c4:Zv) (w:Zw) (o:cT S w n t c0 c1 c2 c3 c4) (K:Bd S w) :
  WU WV 61 #[Za #[c0,c1,c2,c3,c4]] w (Ng S n t w):=by
 obtain⟨p,q,r,s,x,u,y,B,z,rfl,rfl,rfl,rfl,rfl⟩:=o.shape;have d:=(Qg w.heap.size w).alloc E (UA p q r s x u y B z);have m:=nT.new w (I U p) (I U q) (Zt r) (A s x u) (A y B z) 31;have⟨g,c⟩:=o.step K d;go_in;go_wp2_with fail;refine H (rt n S t _ _ _ _ _ _ g c) ?_;rintro e w1 ⟨rfl,b⟩;have a:=b9 d zS b;have⟨l,j⟩:=g.step c b;have⟨P,Q,R,k3,k4⟩:=m.keep b;have L:=a.size;cases hok:dB n t with
 | false=>have HP:G (Ng S n t w (Zr (Zu #[.nilIface,Zb false])) w1):=⟨a,zE⟩;exact z7
 | true=>
  have i:=a8 hok;simp only[dB,Qc,Qk]at hok;have C:=a8 (BQ n S t _ _ _ _ _ 1 w1 l j hok.1 hok.2);go_wp2_with fail;refine H C ?_;rintro e O ⟨k,v,rfl,f⟩;obtain⟨M,N,rfl⟩:=id f.iface;have HP:G (Ng S n t w (Zr (Zu #[.iface M N,Zb true])) O):=
   ⟨b9 a a.size k,.inl ⟨i,_,D,f.keep ik IF⟩⟩
  exact z7
def Hb{S':ZN}{t:T (n+1)}(h:dL S w (n+1) t v)(a:F.k t=1∨F.k t=2∨F.k t=3):cN S' w' (n+1) t v:=by
 rcases h with h|h|h|h|h|h;·exact .inl h
 .exact .inr (.inl h)
 .exact .inr (.inr (.inl h))
 all_goals (have:=h.1;omega)
def uN(n:Int)(x:ZB)(l:List ZB)(a:V6):e8 30 n x l [a]=(match fy (F.a a).data.toList with|Z v=>.ok (⟨6,0,WT,[],[(⟨1,v,WT,[],[]⟩:F (T 4))]⟩:F (T 5))|Y=>.ok (fR 6 0 WT)):=rfl
def vx:List (ZB×Nat)->ZB->Option Nat
 | [],_=>Y
 | (s,b) :: r,x=>if s=x then Z b else vx r x
def fp.at:∀ {r:List (ZB×Nat)} {e:gk},fp C w r e->(vx r x=Y/\DK e x=Y)∨(∃b t v,vx r x=Z b/\DK e x=Z t/\dI w b v/\cN (Sn C w) w 6 t v):=by
 intro r;induction r with
 | nil=>intro e h;cases e with|nil=>exact .inl ⟨D,D⟩|cons p q=>exact h.elim
 | cons p r k=>
  intro e h;cases e with
  | nil=>exact h.elim
  | cons q e=>
   obtain⟨s,b⟩:=p;obtain⟨n,t⟩:=q;obtain⟨rfl,l,⟨v,g,i⟩,m,j⟩:=h;by_cases a:s=x;·exact .inr ⟨b,t,v,by simp[vx,a],by simp[DK,a],g,i⟩
   .rcases k j with ⟨c,d⟩|⟨b,t,v,c,d,f⟩;·exact .inl ⟨by simp[vx,a,c],by simp[DK,a,d]⟩
    .exact .inr ⟨b,t,v,by simp[vx,a,c],by simp[DK,a,d],f⟩
def Hl {f g i:Nat} (m:a7 w sb 5=Z (A (b5 f g) 1 i)) (a:a7 w f g=Z (Zp ((vx r x).map λb=>⟨b,0,Y⟩))) (k:fp C w r env) :
  WU WV 101 #[Zp (b5 sb 0)] w (cQ C (λ_=>False) w (match DK env x with|Z t=>.ok t|Y=>.error 6)):=by
 rcases k.at (x:=x) with ⟨c,d⟩|⟨b,t,v,c,d,j,h⟩;·rw[c]at a;have a:=a;rw[d];go_in;go_wp2_with fail;refine H (pJ _ _) ?_;rintro e l ⟨rfl,rfl⟩;exact⟨D,.refl _ _,D⟩
 .rw[c]at a;have a:=a;have n:=j.cell;rw[d];have HP:G (cQ C (λ_=>False) w (.ok t) (Zr v) w):=⟨.refl _ _,v,D,h⟩;obtain⟨o,p,rfl⟩:=h.iface;go_in;go_wp2_with fail;refine H (nJ _ _) ?_;rintro e l ⟨rfl,rfl⟩;exact mh
def yp {t:T (m+1)} (h:g9 C Q w m t r env cs sb) (d:F.k t=1∨F.k t=2∨F.k t=3) :
  WU WV 100 #[Zp (b5 sb 0)] w (cQ C (de Q cs) w (b7 (m+1) t env)):=by
 have q:=h.ok.1;have u:F.o t=[]:=Qj (by
  have:=h.ok.2.cnt E
  rcases d with e|e|e<;>(rw[e]at this;exact this))
 have k:1<=F.k t/\F.k t<=3:=E;have o:=Ot q k;have f:=a8 (rS (env:=env) u E (by rcases d with e|e|e<;>rw[e]<;>decide));obtain⟨c3,c4,O,P,S,V,X,x,⟨a4,L,N,rfl⟩,B⟩:=h.stp.node;obtain⟨a3,M,rfl,-⟩:=id x;have c:=kF o;have a:=lc c;have a : -999999999<=F.n t/\F.n t<=999999999:=a;have l:G (∀W,Bw w W->WU WV 98 #[Uy (F.k t) (F.n t) (F.a t) Y 0 0 Y 0 0] W (cQ C (de Q cs) w (b7 (m+1) t env))):=λW j=>by
  have y:b7 (m+1) t env=.ok (fR (F.k t) (F.n t) (F.a t)):=by rw[f.out];unfold e8 rR;rw[Qm k]
  rw[y];refine H (BQ 6 (λ_=>False) (fR (F.k t) (F.n t) (F.a t)) _ _ _ _ _ 1 W ⟨D,D,D,B,iX (F.k t) E E,iX (F.n t) E E,⟨Y,0,D,by simp[WX,fR],λs z=>(by cases z),λb=>absurd D b⟩,⟨Y,0,D,by simp[WX,fR],λb=>absurd D b⟩⟩ Ae (dr c).1 (dr c).2) ?_;rintro e I ⟨p,v,rfl,i⟩;have K:=j.size;exact⟨.of_below (j.trans (p.mono K)),v,D,Hb i.inner (by show F.k t=1∨F.k t=2∨F.k t=3;exact d)⟩
 have n:G (∀W,WU WV 160 _ W _):=λW=>mu (F.k t) (F.n t) (F.a t) a3 a4 (J (F.q t)) L M N W;generalize b7 (m+1) t env=R at *;go_in;go_wp2_with fail;refine H (n _) ?_;rintro e w1 ⟨rfl,g⟩;have HB:=l.out w1 g;exact MO
def LS {t:T (m+1)} (h:g9 C Q w m t r env cs sb) (qv:F.k t=26) :
  WU WV 126 #[Zp (b5 sb 0)] w (cQ C (de Q cs) w (b7 (m+1) t env)):=by
 have⟨u,q⟩:=ry (h.len (op:=26) qv zC);have Ezq:=a8 (j8 (env:=env) q gt gt);rw[qv]at Ezq;have⟨S,W,V,qq,q6,N,f,i,d⟩:=h.kid q 0 u D gt;rw[QC]at f;have M:=a8 (i.here h.lt);generalize b7 (m+1) t env=R at *;generalize b7 m u env=r0 at *;have K:=lK (T:=125) (z:=A Y 0 0);have L:=lK (T:=121) (z:=Zt WT);simp[Kj]at K L;go_in;go_wp2_with fail;refine H M ?_;intro e w1 hp;obtain⟨qB,⟨c,rfl,rfl⟩|⟨a,v,rfl,p,rfl,g⟩⟩:=cQ.get hp d;·exact IE
 .have HN:G (¬ (F.k a=4∨F.k a=2)->cQ C (de Q cs) w R (.panicked (fL 6)) w1):=λb=>eP (qB.mono λ_=>.inl) (by
   rw[Ezq.out]
   have:dV 26 0 (F.k a) 0=false:=zs
   simp[dD,this])
  have o:G (∀n:Int,(F.k a=4∨F.k a=2)->n=J (F.o a)+(F.a a).size -> -999999999<=n->n<=999999999->cQ C (de Q cs) w R (Zr (.iface 120 (I U n))) w1):=λn b s O P=>by refine iD (qB.mono λ_=>.inl) ?_ (BJ _ _ _);rw[Ezq.out];have:dV 26 0 (F.k a) 0=true:=zs;simp only[dD,this,XX];show kf (J (F.o a)+(F.a a).size)=_;rw[<- s];unfold kf;rw[Qm ⟨O,P⟩]
  rcases g with ⟨b,rfl⟩|⟨b,rfl⟩|⟨b,rfl⟩|⟨b,y,rfl,j⟩|⟨b,qc,y,rfl,s,j⟩|⟨b,y,rfl,j⟩;·exact Cw
  .obtain⟨-,k,X,B⟩:=ld p b;have qa:=l7 k;have HP:=o.out (F.a a).size E (by rw[B];simp) E E;generalize F.a a=x at *;exact mh
  .exact Cw
  .obtain⟨-,k,X,B⟩:=iP p b;have HP:=o.out (J (F.o a)) E (by rw[k];simp) E E;obtain⟨ql,q5,rfl,-⟩:=j;generalize J (F.o a)=l at *;exact mh
  iterate 2
   .exact Cw
def LR {t:T (m+1)} (h:g9 C Q w m t r env cs sb) (qv:F.k t=29) :
  WU WV 129 #[Zp (b5 sb 0)] w (cQ C (de Q cs) w (b7 (m+1) t env)):=by
 have⟨j,i⟩:=ry (h.len (op:=29) qv zC);have Ezq:=a8 (j8 (env:=env) i gt gt);rw[qv]at Ezq;have⟨x,z,y,K,N,q,d,g,b⟩:=h.kid i 0 j D gt;rw[QC]at d;have n:=a8 (kY (g.here h.lt));have p:G (∀W,Kp Q w W->∃B,gH B W/\B<=W.heap.size):=λW hW=>by exact PD
 generalize b7 (m+1) t env=R at *;generalize b7 m j env=r0 at *;go_in;go_wp2_with fail;refine H n ?_;intro e w1 hp;obtain⟨qB,⟨c,e1,rfl⟩|⟨a,v,e1,M,u,rfl,f⟩⟩:=hp.get b 29 0 0 nO;·exact pO
 .obtain rfl:=oe f;have L:=lc u;have⟨B,l1,l2⟩:=p.out w1 qB;have o:G (WU WV 175 #[I U (F.n a)] w1 λe l=>e=Zr (Zt (bs (W6 (F.n a))))/\cQ C (de Q cs) w R (Zr (.iface 121 (Zt (bs (W6 (F.n a)))))) l):=by refine H (Tryz.strconv_Itoa (F.n a) E E w1 (l1.1 w1 (Qg _ _))) ?_;rintro e l ⟨rfl,k,os,rfl⟩;exact⟨D,iD ((qB.mono λ_=>.inl).trans (.of_below (Lib.below_grow _ _ E k os))) (by rw[Ezq.out,e1];rfl) (x9 _ _ _)⟩
  go_wp2_with fail;refine H o ?_;rintro e O ⟨rfl,s⟩;have HP:=a8 s;exact mh
def LP {t:T (m+1)} (h:g9 C Q w m t r env cs sb) (qv:F.k t=30) :
  WU WV 130 #[Zp (b5 sb 0)] w (cQ C (de Q cs) w (b7 (m+1) t env)):=by
 have⟨s,q⟩:=ry (h.len (op:=30) qv zC);have Ezq:=a8 (j8 (env:=env) q gt gt);rw[qv]at Ezq;have⟨V,qc,X,qq,qa,M,g,k,d⟩:=h.kid q 0 s D gt;rw[QC]at g;have l:=h.lt;have x:=a8 (uJ (k.here h.lt));have y:G (∀W,Kp Q w W->∃B,gH B W/\B<=W.heap.size):=λW hW=>by exact PD
 generalize b7 (m+1) t env=R at *;generalize b7 m s env=r0 at *;go_in;go_wp2_with fail;refine H x ?_;intro e w1 hp;obtain⟨qB,⟨c,e1,rfl⟩|⟨a,v,e1,P,N,rfl,j⟩⟩:=hp.get d 30 0 0 nO;·exact pO
 .obtain rfl:=yz j;have ql:=l7 (ld N P).2.1;have⟨B,l1,l2⟩:=y.out w1 qB;have K:=a8 (E9 (F.a a) l1 l2 E);have S:=qB.size;have z:G (fy (F.a a).data.toList=Y->∀W,Bw w1 W->cQ C (de Q cs) w R (Zr (.iface 129 (A Y 0 0))) W):=λn W hW=>by refine iD (a:=fR 6 0 WT) ((qB.mono λ_=>.inl).trans (.of_below hW)) ?_ (.inr (.inr (.inr (.inr (.inr ⟨D,_,D,JD _ _ _⟩)))));rw[Ezq.out,e1];show e8 30 _ _ _ [a]=_;rw[uN,n]
  have L:G (∀v,fy (F.a a).data.toList=Z v->∀W,Bw w1 W->cQ C (de Q cs) w R (Zr (.iface 129 (A (b5 W.heap.size 0) 1 1))) (W.alloc (Zc #[.iface 120 (I U v)] 71))):=λv n W hW=>by
   have p:=hW.size;refine iD (a:=(⟨6,0,WT,[],[(⟨1,v,WT,[],[]⟩:F (T 4))]⟩:F (T 5))) ((qB.mono λ_=>.inl).trans (.of_below (hW.trans ((eC W (Zc #[.iface 120 (I U v)] 71)).mono p)))) ?_ (.inr (.inr (.inr (.inr (.inr ⟨D,_,D,?_⟩)))));·rw[Ezq.out,e1];show e8 30 _ _ _ [a]=_;rw[uN,n]
   .refine⟨_,_,D,(by show 1<=WX;simp[WX]),λ_=>⟨W.heap.size,0,D,⟨dS,λO=>by have:=l _ O;omega⟩,λi f=>?_⟩⟩;have f:i<1:=f;have f:i=0:=E;subst f;exact⟨.iface 120 (I U v),ke,.inl ⟨D,D⟩⟩
  go_wp2_with fail;refine H K ?_;rintro e u ⟨b,⟨v,o,rfl⟩|⟨o,rfl⟩⟩;·have HP:=a8 (L v o u b);exact mh
  .have HP:=a8 (z o u b);exact mh
def yE(op a b:Int):Except Int Int:=
 if op=9 then .ok (a+b) else if op=10 then .ok (a-b) else if op=11 then .ok (a*b)
 else if b=0 then .error 2 else if op=12 then .ok (a.tdiv b) else .ok (a.tmod b)
def M0(op a b:Int):mC op a b=(match yE op a b with|.error c=>.error c|.ok x=>kf x):=by
 unfold mC yE;split;·exact cU
 .split;·exact cU
  .split;·exact cU
   .split;·exact cU
    .split<;>rfl
def Gg(op:Int)(d:Nat):Prop:=(∀(args:Array Zv)(W:Zw),(callFunc d args).run WV W=.ok (.enter d args) W) /\
 ∀(a b:Int)(W:Zw),-999999999<=a->a<=999999999 -> -999999999<=b->b<=999999999->WU WV d #[I U a,I U b] W λe f=>f=W /\
  ((∃x,yE op a b=.ok x /\ -1000000000000000000<=x/\x<=1000000000000000000/\e=Zr (I U x))∨(∃c,yE op a b=.error c/\e=.panicked (fL c)))
def Sm{a b:Int}(d : -999999999<=a)(e:a<=999999999)(f : -999999999<=b)(g:b<=999999999): -1000000000000000000<=a*b/\a*b<=1000000000000000000:=by
 have c:(a*b).natAbs<=999999999*999999999:=by rw[Int.natAbs_mul];exact WA E E
 omega
def Pi{a b:Int}(c : -999999999<=a)(d:a<=999999999): -999999999<=a.tdiv b/\a.tdiv b<=999999999:=by
 have:(a.tdiv b).natAbs<=a.natAbs:=by rw[Int.natAbs_tdiv];exact Nat.div_le_self _ _
 omega
def Pn{a b:Int}(c : -999999999<=a)(d:a<=999999999): -999999999<=a.tmod b/\a.tmod b<=999999999:=by
 have:(a.tmod b).natAbs<=a.natAbs:=by rw[Int.natAbs_tmod];exact Nat.mod_le _ _
 omega
def SK:Gg 9 108:=by refine⟨Tryz.call108,λa b W d e f g=>?_⟩;have c : -1000000000000000000<=a+b/\a+b<=1000000000000000000:=E;go_in;go_wp2_with fail;go_ret;exact⟨D,.inl ⟨a+b,D,c.1,c.2,D⟩⟩
def SP:Gg 10 109:=by refine⟨Tryz.call109,λa b W d e f g=>?_⟩;have c : -1000000000000000000<=a-b/\a-b<=1000000000000000000:=E;go_in;go_wp2_with fail;go_ret;exact⟨D,.inl ⟨a-b,D,c.1,c.2,D⟩⟩
def SN:Gg 11 110:=by refine⟨Tryz.call110,λa b W d e f g=>?_⟩;have c:=Sm d e f g;go_in;go_wp2_with fail;go_ret;exact⟨D,.inl ⟨a*b,D,c.1,c.2,D⟩⟩
def SM:Gg 12 111:=by
 refine⟨Tryz.call111,λa b W d f g h=>?_⟩;have i : -999999999<=a.tdiv b/\a.tdiv b<=999999999:=Pi d f;by_cases hb:b=0;·exact TB
 .have c:G (yE 12 a b=.ok (a.tdiv b)):=by show yE _ _ _=_;unfold yE;rw[Qd zC,Qd zC,Qd zC,Qd hb];exact cU
  go_in;go_wp2_with fail;rw[show (b != 0)=true by simpa using hb];refine H (nJ _ _) ?_;rintro e w2 ⟨rfl,rfl⟩;go_wp2_with fail;go_ret;exact⟨D,.inl ⟨a.tdiv b,c,E,E,D⟩⟩
def SO:Gg 13 112:=by
 refine⟨Tryz.call112,λa b W d f g h=>?_⟩;have i : -999999999<=a.tmod b/\a.tmod b<=999999999:=Pn d f;by_cases hb:b=0;·exact TB
 .have c:G (yE 13 a b=.ok (a.tmod b)):=by show yE _ _ _=_;unfold yE;rw[Qd zC,Qd zC,Qd zC,Qd hb];exact cU
  go_in;go_wp2_with fail;rw[show (b != 0)=true by simpa using hb];refine H (nJ _ _) ?_;rintro e w2 ⟨rfl,rfl⟩;go_wp2_with fail;go_ret;exact⟨D,.inl ⟨a.tmod b,c,E,E,D⟩⟩
def OJ {t:T (m+1)} (h:g9 C Q w m t r env cs sb) {op:Nat} (l:F.k t=(op:Int)) (h9:9<=op) (ql:op<=13) {B:Nat} (hF:Gg op Fzq) (q7:a7 w B 0=Z (.func (.func Fzq) #[] #[])) (ae:¬ C B) :
  WU WV 164 #[Zp (b5 sb 0),Zp (b5 B 0)] w (cQ C (de Q cs) w (b7 (m+1) t env)):=by
 have ac:J (F.o t)=2:=by rw[h.len l E];have af:∀k,k<=13->9<=k->J (mD k)=2:=zC;exact af op ql h9
 have⟨k0,qa,hl⟩:=n8 ac;have O:∀i,i<2->i≠nW (F.k t):=λi hi=>by rw[l];unfold nW;rw[Qd E,Qd E];omega
 have Ezq:=a8 (l8 (env:=env) hl E (by rw[l];unfold hZ;exact zE));rw[l]at Ezq;have hw:∀i s b,dV (op:Int) i s b=(s==1):=λi s b=>by unfold dV;rw[Qm (.inl E)]
 have⟨aj,al,ak,g0,s0,ag,q8,ab,V⟩:=h.kid hl 0 k0 D (O 0 E);rw[QC]at q8;have HC:=a8 (kY (ab.here h.lt));have H2:G (∀W,Kp Q w W->∃f g n N q9,a7 W sb 6=Z (A (b5 f g) 2 n)/\a7 W f (g+1)=Z (eN N q9)/\a7 W B 0=Z (.func (.func Fzq) #[] #[])/\WU WV 165 #[eN N q9] W (eL C Q W (b7 m qa env) 1 120)/\∀qq,Kp Q W qq->a7 qq B 0=Z (.func (.func Fzq) #[] #[])):=λW hW=>by have h1:=h.keep (hW.mono λ_=>.inl);have u:¬Q B:=λhq=>ae (h.own _ hq);obtain⟨f,g,n,N,q9,p,q,qB,-⟩:=h1.kid hl 1 qa D (O 1 E);exact⟨f,g,n,N,q9,p,q,hW.cell q7 u,kY (qB.here h1.lt),λqq h'=>h'.cell (hW.cell q7 u) u⟩
 have X:=h.okE (i:=1) (k:=qa) fi env h.env.ok;obtain⟨eg,hF⟩:=hF;have HF:=a8 hF;generalize b7 (m+1) t env=R at *;generalize b7 m k0 env=r0 at *;generalize b7 m qa env=r1 at *;go_in;go_wp2_with fail;refine H HC ?_;intro e w1 hp;obtain⟨qB,⟨c,e1,rfl⟩|⟨a,v,e1,hs,ha,rfl,d⟩⟩:=hp.get V op 0 0 (λs=>hw _ _ _);·exact pO
 obtain rfl:=oe d;have⟨f,g,n,N,q9,p,q,qc,aa,ad⟩:=H2.out w1 qB;have K:=a8 aa;have M:=a8 ad;go_wp2_with fail;refine H K ?_;intro e w2 hp;obtain⟨j,⟨c,j2,rfl⟩|⟨b,v,j2,ai,hb,rfl,d⟩⟩:=hp.get X op 1 (F.k a) (λs=>hw _ _ _);·exact⟨D,eP ((qB.trans j).mono λ_=>.inl) (by rw[Ezq.out,e1];simp only[j2])⟩
 obtain rfl:=oe d;have ah:=M.out w2 j;have P:=lc ha;have S:=lc hb;have q5:G (R=(match yE op (F.n a) (F.n b) with|.error c=>.error c|.ok x=>kf x)):=by show R=_;rw[Ezq.out,e1];simp only[j2];rw[<- M0];show e8 _ _ _ _ [a,b]=_;unfold e8 rR;rw[Qd E,Qd E,Qd E,Qd E,Qd E,Qd E,Qm E];exact cU
 have o:=a8 (HF (F.n a) (F.n b) w2 P.1 P.2 S.1 S.2);have L:G (Kp (de Q cs) w w2):=(qB.trans j).mono λ_=>.inl;clear hp d K M Ezq e1 j2 HF qB j p q qc;generalize F.n a=x at *;generalize F.n b=y at *;go_wp2_with fail;refine H o ?_;rintro e w3 ⟨rfl,⟨z,j0,z1,z2,rfl⟩|⟨c,j0,rfl⟩⟩
 .have q6:G (R=kf z):=by show R=_;rw[q5.out,j0]
  by_cases d : -999999999<=z/\z<=999999999;·have HP:G (cQ C (de Q cs) w R (Zr (.iface 120 (I U z))) w3):=iD L (by rw[q6.out];unfold kf;rw[Qm d]) (BJ _ _ _);obtain⟨i1,i2⟩:=d;clear q5 q6 o j0 L;go_wp2_with fail;refine H (nJ _ _) ?_;rintro e w4 ⟨rfl,rfl⟩;exact mh
  .have HP:G (cQ C (de Q cs) w R (.panicked (fL 1)) w3):=eP L (by rw[q6.out];unfold kf;rw[Qd d]);clear q5 q6 o j0 L;by_cases i1 : -999999999<=z;·have i2:¬z<=999999999:=E;clear d;go_wp2_with fail;rw[show decide (z<=999999999)=false from QU E];refine H (pJ _ _) ?_;rintro e w4 ⟨rfl,rfl⟩;exact⟨D,HP⟩
   .clear d;go_wp2_with fail;refine H (pJ _ _) ?_;rintro e w4 ⟨rfl,rfl⟩;exact⟨D,HP⟩
 .exact⟨D,eP L (by rw[q5.out,j0])⟩
def nI(b:Bool)(c:Int)(w:Zw):WU WV 161 #[Zb b,I U c] w λe a=>a=w/\((b=true/\e=Zr (Zu #[]))∨(b=false/\e=.panicked (fL c))):=by
 cases b with
 | true=>exact (nJ c w).mono zS
 | false=>exact (pJ c w).mono zS
def OA {t:T (m+1)} (h:g9 C Q w m t r env cs sb) (qv:F.k t=16) :
  WU WV 115 #[Zp (b5 sb 0)] w (cQ C (de Q cs) w (b7 (m+1) t env)):=by
 have⟨B,k1,hl⟩:=n8 (h.len (op:=16) qv zC);have Ezq:=a8 (gP (env:=env) (k0:=B) fi gt gt);rw[qv]at Ezq;have⟨X,qq,q5,qa,E,n,j,q,u⟩:=h.kid hl 0 B D gt;rw[QC]at j;have M:=a8 (j7 (q.here h.lt));have K:G (∀W,Kp Q w W->∃N O ql g s,a7 W sb 6=Z (A (b5 N O) 2 ql)/\a7 W N (O+1)=Z (eN g s)/\WU WV 118 #[eN g s] W (eL C Q W (b7 m k1 env) 3 123)):=λW hW=>by exact YE
 have x:=h.okE (i:=1) (k:=k1) fi env h.env.ok;have o:gi (b7 m) (F.o t) 1 env=b7 m k1 env:=iR fi;have E2:G (∀f,eo (b7 m) 16 (F.q t) (F.o t) env f=if decide ((16:Int)=17)=decide (F.n f=1) then .ok f else dD 16 1 0 (b7 m k1 env)):=λf=>by unfold eo kZ;rw[Qm zC,o]
 generalize eo (b7 m) 16 (F.q t) (F.o t) env=L at *;generalize b7 (m+1) t env=R at *;generalize b7 m B env=r0 at *;generalize b7 m k1 env=r1 at *;clear h q o;go_in;go_wp2_with fail;refine H M ?_;intro e w1 hp;obtain⟨qB,⟨c,e1,rfl⟩|⟨a,v,e1,S,P,rfl,qm⟩⟩:=hp.get u 16 0 0 nO;·exact pO
 obtain rfl:=nG qm;have z:R=if decide ((16:Int)=17)=decide (F.n a=1) then .ok a else dD 16 1 0 r1:=y9
 have⟨qX,qY,qK,g1,s1,qZ,jb,l⟩:=K.out w1 qB;have qP:=a8 l;have q6:=(mO P S).1;have y:=a8 qm;have HK:G (Kp (de Q cs) w w1):=qB.mono λ_=>.inl;have d:(F.n a==1)=false∨(F.n a==1)=true:=by cases (F.n a==1)<;>simp
 rcases d with d|d
 .have p:R=.ok a:=by rw[z,Qm];simp at d;simp[d]
  rw[d]at y;rw[d];have HP:G (cQ C (de Q cs) w R (Zr (.iface 123 (Zb false))) w1):=iD HK p y;clear hp qm M K l n j Ezq E2 qP z p y HK e1 d;exact mh
 .have HR:G (R=dD 16 1 0 r1):=by show R=_;rw[z,Qd];simp at d;simp[d]
  rw[d];clear hp qm M K l n j Ezq E2 z y e1 d;go_wp2_with fail;refine H qP ?_;intro e w2 hp;obtain⟨qM,⟨c,e2,rfl⟩|⟨b,v,e2,V,qc,rfl,qm⟩⟩:=hp.get x 16 1 0 nO;·exact⟨D,eP (HK.trans (qM.mono λ_=>.inl)) (by rw[HR.out,e2])⟩
  exact Yj
def Sl {t:T (m+1)} (h:g9 C Q w m t r env cs sb) (qv:F.k t=17) :
  WU WV 116 #[Zp (b5 sb 0)] w (cQ C (de Q cs) w (b7 (m+1) t env)):=by
 have⟨B,k1,hl⟩:=n8 (h.len (op:=17) qv zC);have Ezq:=a8 (gP (env:=env) (k0:=B) fi gt gt);rw[qv]at Ezq;have⟨X,qq,q5,qa,E,n,j,q,u⟩:=h.kid hl 0 B D gt;rw[QC]at j;have M:=a8 (j7 (q.here h.lt));have K:G (∀W,Kp Q w W->∃N O ql g s,a7 W sb 6=Z (A (b5 N O) 2 ql)/\a7 W N (O+1)=Z (eN g s)/\WU WV 118 #[eN g s] W (eL C Q W (b7 m k1 env) 3 123)):=λW hW=>by exact YE
 have x:=h.okE (i:=1) (k:=k1) fi env h.env.ok;have o:gi (b7 m) (F.o t) 1 env=b7 m k1 env:=iR fi;have E2:G (∀f,eo (b7 m) 17 (F.q t) (F.o t) env f=if decide ((17:Int)=17)=decide (F.n f=1) then .ok f else dD 17 1 0 (b7 m k1 env)):=λf=>by unfold eo kZ;rw[Qm zC,o]
 generalize eo (b7 m) 17 (F.q t) (F.o t) env=L at *;generalize b7 (m+1) t env=R at *;generalize b7 m B env=r0 at *;generalize b7 m k1 env=r1 at *;clear h q o;go_in;go_wp2_with fail;refine H M ?_;intro e w1 hp;obtain⟨qB,⟨c,e1,rfl⟩|⟨a,v,e1,S,P,rfl,qm⟩⟩:=hp.get u 17 0 0 nO;·exact pO
 obtain rfl:=nG qm;have z:R=if decide ((17:Int)=17)=decide (F.n a=1) then .ok a else dD 17 1 0 r1:=y9
 have⟨qX,qY,qK,g1,s1,qZ,jb,l⟩:=K.out w1 qB;have qP:=a8 l;have q6:=(mO P S).1;have y:=a8 qm;have HK:G (Kp (de Q cs) w w1):=qB.mono λ_=>.inl;have d:(F.n a==1)=true∨(F.n a==1)=false:=by cases (F.n a==1)<;>simp
 rcases d with d|d
 .have p:R=.ok a:=by rw[z,Qm];simp at d;simp[d]
  rw[d]at y;rw[d];have HP:G (cQ C (de Q cs) w R (Zr (.iface 123 (Zb true))) w1):=iD HK p y;clear hp qm M K l n j Ezq E2 qP z p y HK e1 d;exact mh
 .have HR:G (R=dD 17 1 0 r1):=by show R=_;rw[z,Qd];simp at d;simp[d]
  rw[d];clear hp qm M K l n j Ezq E2 z y e1 d;go_wp2_with fail;refine H qP ?_;intro e w2 hp;obtain⟨qM,⟨c,e2,rfl⟩|⟨b,v,e2,V,qc,rfl,qm⟩⟩:=hp.get x 17 1 0 nO;·exact⟨D,eP (HK.trans (qM.mono λ_=>.inl)) (by rw[HR.out,e2])⟩
  exact Yj
def Sk {t:T (m+1)} (h:g9 C Q w m t r env cs sb) (qv:F.k t=19) :
  WU WV 119 #[Zp (b5 sb 0)] w (cQ C (de Q cs) w (b7 (m+1) t env)):=by
 have⟨z,k1,o,hl⟩:=Oo (h.len (op:=19) qv zC);have Ezq:=a8 (gP (env:=env) (k0:=z) fi gt gt);rw[qv]at Ezq;have⟨V,qc,X,qq,qa,p,j,N,q⟩:=h.kid hl 0 z D gt;rw[QC]at j;have M:=a8 (j7 (N.here h.lt));have B:G (∀W,Kp Q w W->∃u x O g s,a7 W sb 6=Z (A (b5 u x) 3 O)/\a7 W u (x+1)=Z (eN g s)/\lH C Q W (b7 m k1 env) g s):=λW hW=>by exact J7
 have P:=h.okE (i:=1) (k:=k1) fi env h.env.ok;have K:G (∀W,Kp Q w W->∃u x O g s,a7 W sb 6=Z (A (b5 u x) 3 O)/\a7 W u (x+2)=Z (eN g s)/\lH C Q W (b7 m o env) g s):=λW hW=>by have h1:=h.keep (hW.mono λ_=>.inl);obtain⟨qX,qY,qK,g1,s1,qZ,jb,qB,-⟩:=h1.kid hl 2 o D gt;exact Px
 have S:=h.okE (i:=2) (k:=o) fi env h.env.ok;have E2:G (∀f,eo (b7 m) 19 (F.q t) (F.o t) env f=if F.n f=1 then b7 m k1 env else b7 m o env):=λf=>by unfold eo kZ;rw[Qd zC,Qm zC,iR (k:=k1) fi,iR (k:=o) fi]
 generalize eo (b7 m) 19 (F.q t) (F.o t) env=L at *;generalize b7 (m+1) t env=R at *;generalize b7 m z env=r0 at *;generalize b7 m k1 env=r1 at *;generalize b7 m o env=r2 at *;go_in;go_wp2_with fail;refine H M ?_;intro e w1 hp;obtain⟨qB,⟨c,e1,rfl⟩|⟨a,v,e1,E,ql,rfl,n⟩⟩:=hp.get q 19 0 0 nO;·exact pO
 obtain rfl:=nG n;have y:R=if F.n a=1 then r1 else r2:=y9
 have HK:G (Kp (de Q cs) w w1):=qB.mono λ_=>.inl;have d:(F.n a==1)=true∨(F.n a==1)=false:=by cases (F.n a==1)<;>simp
 rcases d with d|d
 .have l:R=r1:=by rw[y,Qm (by simpa using d)]
  clear y;subst l;have⟨qX,qY,qK,g1,s1,qZ,jb,b⟩:=B.out w1 qB;have qP:=a8 b;rw[d];clear hp n M B K b p j Ezq E2 e1 d;exact qbC
 .have l:R=r2:=by rw[y,Qd (by simpa using d)]
  clear y;subst l;have⟨qX,qY,qK,g1,s1,qZ,jb,b⟩:=K.out w1 qB;have qP:=a8 b;rw[d];clear hp n M B K b p j Ezq E2 e1 d;exact qbC
def IV(x:List UInt8):(bs x).toList=x:=by rw[QI];rfl
def IR {a:V6} (j:cN S w 6 a v) (q:Bd S w) (s:dB 6 a=true) (p:gH B w) (o:B<=w.heap.size) :
  WU WV 167 #[A Y 0 0,v] w λe d=>Bw w d/\∃x n c,e=Zr (A x n c)/\∀W,(∀b,w.heap.size<=b->b<d.heap.size->W.heap[b]?=d.heap[b]?)->d.heap.size<=W.heap.size->(convert 130 9 (A x n c)).run WV W=.ok (Zt (bs (cK 6 a))) W:=by have⟨i,m⟩:=dr s;have l:=mw 6 a 1 i;have k:=JM 6 a 1 i;refine H (oG 6 w.heap.size w w (A Y 0 0) [] a v 1 (iK.nil E) (j.inner.keep ik q) i m zE (λd h=>p.1 d (h.mono o))) ?_;rintro e d ⟨y,rfl,f⟩;rw[XM]at f;obtain⟨x,n,c,rfl⟩:=f.shape;refine⟨f.below,x,n,c,D,λW r u=>rn (B:=w.heap.size) (w0:=W) (w:=W) ⟨cV f.own λg t=>?_,Qg _ _,Q1 f.le u,Zm _ _ _⟩ k⟩;have:=cO f.own g t;exact r g this.1 E
def LM {t:T (m+1)} (h:g9 C Q w m t r env cs sb) (qv:F.k t=14) :
  WU WV 113 #[Zp (b5 sb 0)] w (cQ C (de Q cs) w (b7 (m+1) t env)):=by
 have⟨X,k1,hl⟩:=n8 (h.len (op:=14) qv zC);have Ezq:=a8 (l8 (env:=env) hl gt gt);rw[qv]at Ezq;have⟨j0,ql,qa,qc,s0,q5,y,M,q⟩:=h.kid hl 0 X D gt;rw[QC]at y;have qq:=a8 (M.here h.lt);have p:G (∀W,Kp Q w W->∃u x O g s,a7 W sb 6=Z (A (b5 u x) 2 O)/\a7 W u (x+1)=Z (eN g s)/\WU WV 165 #[eN g s] W (eL C Q W (b7 m k1 env) 1 120)):=λW hW=>by exact YC
 have f:=h.okE (i:=1) (k:=k1) fi env h.env.ok;have l:G (∀W,Kp Q w W->∃u x O g s,a7 W sb 6=Z (A (b5 u x) 2 O)/\a7 W u (x+1)=Z (eN g s)/\WU WV 166 #[eN g s] W (eL C Q W (b7 m k1 env) 2 121)):=λW hW=>by exact YF
 have f:=h.okE (i:=1) (k:=k1) fi env h.env.ok;generalize b7 (m+1) t env=R at *;generalize b7 m X env=r0 at *;generalize b7 m k1 env=r1 at *;have q9:=lK (T:=120) (z:=I U 0);have q8:=lK (T:=121) (z:=Zt WT);simp[Kj]at q9 q8;go_in;go_wp2_with fail;refine H qq ?_;intro e w1 hp;obtain⟨qB,⟨c,rfl,rfl⟩|⟨a,v,rfl,S,rfl,L⟩⟩:=cQ.get hp q;·exact IE
 .rcases L with ⟨hs,rfl⟩|⟨hs,rfl⟩|⟨hs,rfl⟩|⟨hs,q6,rfl,V⟩|⟨hs,E,q6,rfl,q7,V⟩|⟨hs,q6,rfl,V⟩
  .have⟨qX,qY,qK,g1,s1,qZ,jb,n⟩:=p.out w1 qB;have j:=a8 n;have HA:G (dD 14 0 0 (.ok a)=.ok a):=by show _=_;simp[dD,dV,hs]
   go_wp2_with fail;refine H j ?_;intro e P hp;obtain⟨qM,⟨c,e2,rfl⟩|⟨b,v,e2,o,K,rfl,d⟩⟩:=hp.get f 14 1 (F.k a) JZ;·exact S9
   obtain rfl:=oe d;have B:R=.ok (lO (decide (F.n a<F.n b))):=by rw[Ezq.out,HA.out];simp only[e2];have N:=(Ds S hs).2.2.1;have t2:=(Ds K o).2.2.1;show Uo (lO (decide (F.n a<F.n b) || ij (F.a a) (F.a b)))=_;rw[N,t2,rz,Bool.or_false]
   have HP:G (cQ C (de Q cs) w R (Zr (.iface 123 (Zb (decide (F.n a<F.n b))))) P):=iD ((qB.trans qM).mono λ_=>.inl) B (nY _ _ _);unfold ij at HP;generalize F.n a=xa at *;generalize F.n b=xb at *;exact mh
  .have⟨qX,qY,qK,g1,s1,qZ,jb,n⟩:=l.out w1 qB;have j:=a8 n;have HA:G (dD 14 0 0 (.ok a)=.ok a):=by show _=_;simp[dD,dV,hs]
   go_wp2_with fail;refine H j ?_;intro e P hp;obtain⟨qM,⟨c,e2,rfl⟩|⟨b,v,e2,o,K,rfl,d⟩⟩:=hp.get f 14 1 (F.k a) JZ;·exact S9
   obtain rfl:=yz d;have B:R=.ok (lO (ij (F.a a) (F.a b))):=by rw[Ezq.out,HA.out];simp only[e2];have N:=(ld S hs).1;have t2:=(ld K o).1;show Uo (lO (decide (F.n a<F.n b) || ij (F.a a) (F.a b)))=_;rw[N,t2,show decide ((0:Int)<0)=false by decide,Bool.false_or]
   have HP:G (cQ C (de Q cs) w R (Zr (.iface 123 (Zb (ij (F.a a) (F.a b))))) P):=iD ((qB.trans qM).mono λ_=>.inl) B (nY _ _ _);unfold ij at HP;generalize F.a a=xa at *;generalize F.a b=xb at *;exact mh
  iterate 4
   .have HP:G (cQ C (de Q cs) w R (.panicked (fL 6)) w1):=eP (qB.mono λ_=>.inl) (by
     rw[Ezq.out]
     have:dV 14 0 (F.k a) 0=false:=zs
     simp[dD,this])
    exact P5
def LQ {t:T (m+1)} (h:g9 C Q w m t r env cs sb) (qv:F.k t=15) :
  WU WV 114 #[Zp (b5 sb 0)] w (cQ C (de Q cs) w (b7 (m+1) t env)):=by
 have⟨X,k1,hl⟩:=n8 (h.len (op:=15) qv zC);have Ezq:=a8 (l8 (env:=env) hl gt gt);rw[qv]at Ezq;have⟨ae,ag,af,g0,s0,qa,M,P,x⟩:=h.kid hl 0 X D gt;rw[QC]at M;have q5:=a8 (P.here h.lt);have q9:G (∀W,Kp Q w W->∃q7 j0 vc g s,a7 W sb 6=Z (A (b5 q7 j0) 2 vc)/\a7 W q7 (j0+1)=Z (eN g s)/\lH C Q W (b7 m k1 env) g s):=λW hW=>by exact J7
 have y:=h.okE (i:=1) (k:=k1) fi env h.env.ok;have u:=h.lt;have V:=h.own;have L:G (∀W,Kp Q w W->∃B,gH B W/\B<=W.heap.size):=λW hW=>by exact PD
 generalize b7 (m+1) t env=R at *;generalize b7 m X env=r0 at *;generalize b7 m k1 env=r1 at *;go_in;go_wp2_with fail;refine H q5 ?_;intro e w1 hp;obtain⟨qB,⟨c,rfl,rfl⟩|⟨a,v,rfl,qc,rfl,d⟩⟩:=cQ.get hp x;·exact IE
 have⟨B,l1,l2⟩:=L.out w1 qB;have z:=a8 (IR d (λ_ h=>h.1) qc l1 l2);obtain⟨ku,kx,rfl⟩:=d.iface;go_wp2_with fail;refine H z ?_;rintro e w2 ⟨p,xa,na,ca,rfl,O⟩;have n:=qB.trans (.of_below p);have⟨qX,qY,qK,g1,s1,qZ,jb,N⟩:=q9.out w2 n;have K:=a8 N;have o:=a8 O;go_wp2_with fail;refine H K ?_;intro e w3 hp;obtain⟨j,⟨c,rfl,rfl⟩|⟨b,v,rfl,q8,rfl,d⟩⟩:=cQ.get hp y;·exact⟨D,eP ((n.trans j).mono λ_=>.inl) (by rw[Ezq.out];simp[dD,dV])⟩
 have f:=n.trans j;have⟨B,l1,l2⟩:=L.out w3 f;have z:=a8 (IR d (λ_ h=>h.1) q8 l1 l2);obtain⟨ac,ad,rfl⟩:=d.iface;go_wp2_with fail;refine H z ?_;rintro e S ⟨l,xb,nb,cb,rfl,q⟩;have ql:=qB.size;have aa:=j.size;have ab:=l.size;have q1:=o.out S (λb h1 qq=>(l.block b E).trans (j.block b qq λh=>by have:=u b (V b h);omega)) E;have q2:=q S zS E;have HP:G (cQ C (de Q cs) w R (Zr (.iface 123 (Zb (cK 6 a==cK 6 b)))) S):=iD ((f.trans (.of_below l)).mono λ_=>.inl) (by rw[Ezq.out];simp only[dD,dV];rfl) (nY _ _ _);have q6:=IV (cK 6 a);have j2:=IV (cK 6 b);clear z o L Ezq qB n j f p l q u V;generalize cK 6 a=ta at *;generalize cK 6 b=tb at *;go_wp2_with fail;go_ret;first
  | exact HP
  | (rw[q6,j2];exact HP)
def NY{β:Type}(f:α->β){l:List α}(d:β)(h:i<J l):(l.map f).getD i d=f l[i]:=by rw[lW mZ,Xe]
def nB {a:V6} (h:dB 6 a=true) (l:fB S w (cN S w 5) (F.o a) v) (hi:i<J (F.o a)) :
  ∃b off cap,v=A (b5 b off) (J (F.o a)) cap/\S b/\∃c,a7 w b (off+i)=Z c/\cN S w 6 ((cL a).getD i dU) c:=by obtain⟨m,cap,rfl,o,k⟩:=l;obtain⟨b,off,rfl,j,d⟩:=k JU;have⟨c,f,g⟩:=d i hi;refine⟨b,off,cap,D,j,c,f,?_⟩;have e:(cL a).getD i dU=fl 5 5 ((F.o a)[i]):=NY (fl 5 5) dU hi;rw[e];exact g.fit (L:=5) (dr (pG (n:=5) h zS)).1 zC
def wA{l:List (T n)}(h:fB (Sn C a) a (cN (Sn C a) a n) l v)(c:Kp O a b)(d:∀k,O k->C k):fB (Sn C b) b (cN (Sn C b) b n) l v:=
 h.keep (Sn.same c d) (Sn.up c.size) λ_ _ _ e=>e.run c d
def Sj {t:T (m+1)} (h:g9 C Q w m t r env cs sb) (qv:F.k t=25) :
  WU WV 125 #[Zp (b5 sb 0)] w (cQ C (de Q cs) w (b7 (m+1) t env)):=by
 have⟨q9,k1,hl⟩:=n8 (h.len (op:=25) qv zC);have Ezq:=a8 (l8 (env:=env) hl gt gt);rw[qv]at Ezq;have⟨ad,af,ae,g0,s0,P,B,S,L⟩:=h.kid hl 0 q9 D gt;rw[QC]at B;have q7:=a8 (lA (S.here h.lt));have X:G (∀W,Kp Q w W->∃q5 q6 vc g s,a7 W sb 6=Z (A (b5 q5 q6) 2 vc)/\a7 W q5 (q6+1)=Z (eN g s)/\WU WV 165 #[eN g s] W (eL C Q W (b7 m k1 env) 1 120)):=λW hW=>by exact YC
 have M:=h.okE (i:=1) (k:=k1) fi env h.env.ok;have hq:=h.own;generalize b7 (m+1) t env=R at *;generalize b7 m q9 env=r0 at *;generalize b7 m k1 env=r1 at *;go_in;go_wp2_with fail;refine H q7 ?_;intro e w1 hp;obtain⟨qB,⟨c,e1,rfl⟩|⟨a,v,e1,hs,j0,rfl,d⟩⟩:=hp.get L 25 0 0 nO;·exact pO
 have z:=a8 (oW d).row;obtain⟨ao,cp,rfl,-⟩:=id z;have⟨qX,qY,qK,g1,s1,qZ,jb,K⟩:=X.out w1 qB;have n:=a8 K;clear hp d q7 X K P B;go_wp2_with fail;refine H n ?_;intro e N hp;obtain⟨j,⟨c,x,rfl⟩|⟨b,v,x,ab,ql,rfl,d⟩⟩:=hp.get M 25 1 (F.k a) nO;·exact⟨D,eP ((qB.trans j).mono λ_=>.inl) (by rw[Ezq.out,e1];simp only[x])⟩
 obtain rfl:=oe d;have y:R=if 0<=F.n b/\F.n b<J (F.o a) then .ok ((cL a).getD (F.n b).toNat dU) else .error 3:=by rw[Ezq.out,e1];simp only[x];exact cU
 have u:G (Kp (de Q cs) w N):=(qB.trans j).mono λ_=>.inl;have aa:=(iP j0 hs).2.2.2;have V:=lc ql;have f:=wA z j hq;by_cases O:0<=F.n b
 .by_cases h1:F.n b<J (F.o a)
  .have⟨qa,off,cap,hv,ac,qq,p,q⟩:=nB j0 f (i:=(F.n b).toNat) E;cases hv
   have HP:G (cQ C (de Q cs) w R (Zr qq) N):=iD u (by rw[y,Qm ⟨O,h1⟩]) q;obtain⟨qc,q8,rfl⟩:=q.iface;clear hp d n Ezq e1 x qB j z f q u y qZ jb;have⟨i,hi⟩:=X5 O;rw[hi]at O h1 p V ⊢;have p:a7 N qa (off+i)=Z (.iface qc q8):=by simpa using p
   have h1:i<J (F.o a):=E;generalize J (F.o a)=l at *;go_wp2_with fail;refine H (nI _ _ _) ?_;rintro e j2 ⟨rfl,⟨o,rfl⟩|⟨o,rfl⟩⟩;·clear o;exact mh
   .exfalso;simp at o<;>omega
  .have HP:G (cQ C (de Q cs) w R (.panicked (fL 3)) N):=eP u (by rw[y,Qd (λh=>h1 h.2)]);clear hp d n Ezq e1 x qB j z f u y qZ jb;generalize J (F.o a)=l at *;generalize F.n b=i at *;go_wp2_with fail;refine H (nI _ _ _) ?_;rintro e j2 ⟨rfl,⟨o,rfl⟩|⟨o,rfl⟩⟩;·exfalso;simp at o<;>omega
   .exact⟨D,HP⟩
 .have HP:G (cQ C (de Q cs) w R (.panicked (fL 3)) N):=eP u (by rw[y,Qd (λh=>O h.1)]);clear hp d n Ezq e1 x qB j z f u y qZ jb;generalize J (F.o a)=l at *;generalize F.n b=i at *;go_wp2_with fail;refine H (nI _ _ _) ?_;rintro e j2 ⟨rfl,⟨o,rfl⟩|⟨o,rfl⟩⟩;·exfalso;simp at o
  .exact⟨D,HP⟩
def LH {t:T (m+1)} (h:g9 C Q w m t r env cs sb) (qv:F.k t=31) :
  WU WV 131 #[Zp (b5 sb 0)] w (cQ C (de Q cs) w (b7 (m+1) t env)):=by
 have⟨B,k1,hl⟩:=n8 (h.len (op:=31) qv zC);have Ezq:=a8 (gP (env:=env) (k0:=B) fi gt gt);rw[qv]at Ezq;have⟨qa,q8,qc,g0,s0,n,d,q,y⟩:=h.kid hl 0 B D gt;rw[QC]at d;have M:=a8 (sU (q.here h.lt));have K:G (∀W,Kp Q w W->∃j0 q9 qq g s,a7 W sb 6=Z (A (b5 j0 q9) 2 qq)/\a7 W j0 (q9+1)=Z (eN g s)/\lH C Q W (b7 m k1 env) g s):=λW hW=>by exact J7
 have X:=h.okE (i:=1) (k:=k1) fi env h.env.ok;have E2:G (∀f,eo (b7 m) 31 (F.q t) (F.o t) env f=match cL f with|x :: _=>.ok x|[]=>b7 m k1 env):=λf=>by unfold eo kZ;rw[Qd zC,Qd zC,Qm zC,iR (k:=k1) fi];cases cL f<;>rfl
 generalize eo (b7 m) 31 (F.q t) (F.o t) env=L at *;generalize b7 (m+1) t env=R at *;generalize b7 m B env=r0 at *;generalize b7 m k1 env=r1 at *;clear h q;go_in;go_wp2_with fail;refine H M ?_;intro e w1 hp;obtain⟨qB,⟨c,e1,rfl⟩|⟨a,v,e1,q6,S,rfl,l⟩⟩:=hp.get y 31 0 0 nO;·exact pO
 have z:R=(match cL a with|x :: _=>.ok x|[]=>r1):=y9;have HK:G (Kp (de Q cs) w w1):=qB.mono λ_=>.inl;have b:=B2 l;have P:=(nF S q6).2.2.2;rcases Ww 0 (J (F.o a)) with o|o
 .obtain⟨bb,off,cap,rfl,j2,q5,O,j⟩:=nB S b o;have q7:cL a≠[]:=by intro h;have:=Xc Uh h;unfold cL at this;rw[Qv]at this;simp at this;rw[this]at o;simp at o
  have HP:G (cQ C (de Q cs) w R (Zr q5) w1):=iD HK (by
   rw[z]
   cases hq:cL a with
   | nil=>exact absurd hq q7
   | cons x r=>rfl) j
  obtain⟨cu,cx,rfl⟩:=j.iface;rw[QC]at O;have u:J (F.o a)=1:=E;clear hp l M Ezq E2 e1 qB b j HK z n d q7 K;rw[u];clear u o P;exact mh
 .have V:F.o a=[]:=Qj E;have N:R=r1:=by rw[z];unfold cL;rw[V];rfl
  clear z;subst N;obtain⟨ql,cp,rfl,-⟩:=id b;have⟨qX,qY,qK,g1,s1,qZ,jb,p⟩:=K.out w1 qB;have qP:=a8 p;clear hp l M K p n d Ezq E2 e1 b;rw[V];exact qbC
def mU(r1 r2:Except Int V6)(n:Int):Except Int (Int×Int):=
 match dD 28 1 0 r1 with
 | .error c=>.error c
 | .ok b=>match dD 28 2 0 r2 with
  | .error c=>.error c
  | .ok d=>if F.n b<0∨F.n d<F.n b∨n<F.n d then .error 3 else .ok (F.n b,F.n d)
def rU(Q:ZN)(w:Zw)(r:Except Int (Int×Int))(e:Ending)(w':Zw):Prop:=
 Kp Q w w' /\ match r with
  | .error c=>e=.panicked (fL c)
  | .ok p=>e=Zr (Zu #[I U p.1,I U p.2])
def NQ {t:T (m+1)} (h:g9 C Q w m t r env cs sb) (qv:F.k t=28) {k0 l j:T m} (hl:F.o t=[k0,l,j]) (n:Nat) :
  WU WV 174 #[Zp (b5 sb 0),I U n] w (rU Q w (mU (b7 m l env) (b7 m j env) n)):=by
 have⟨P,V,S,qc,q8,K,L,f,N⟩:=h.kid hl 1 l D gt;have HC:=a8 (kY (f.here h.lt));have H2:G (∀W,Kp Q w W->∃ql vo vc g s,a7 W sb 6=Z (A (b5 ql vo) 3 vc)/\a7 W ql (vo+2)=Z (eN g s)/\WU WV 165 #[eN g s] W (eL C Q W (b7 m j env) 1 120)):=λW hW=>by have o:=h.keep (hW.mono λ_=>.inl);obtain⟨P,V,S,qc,q8,K,L,f,-⟩:=o.kid hl 2 j D gt;exact⟨P,V,S,qc,q8,K,L,kY (f.here o.lt)⟩
 have O:=h.okE (i:=2) (k:=j) fi env h.env.ok;have z:G (∀b d,dD 28 1 0 (b7 m l env)=.ok b->dD 28 2 0 (b7 m j env)=.ok d->mU (b7 m l env) (b7 m j env) n=if F.n b<0∨F.n d<F.n b∨(n:Int)<F.n d then .error 3 else .ok (F.n b,F.n d)):=λb d o q5=>by unfold mU;rw[o];simp only[q5]
 have qa:G (∀c,dD 28 1 0 (b7 m l env)=.error c->mU (b7 m l env) (b7 m j env) n=.error c):=λc o=>by unfold mU;rw[o]
 have qq:G (∀b c,dD 28 1 0 (b7 m l env)=.ok b->dD 28 2 0 (b7 m j env)=.error c->mU (b7 m l env) (b7 m j env) n=.error c):=λb c o q5=>by unfold mU;rw[o];simp only[q5]
 generalize mU (b7 m l env) (b7 m j env) n=R at *;generalize b7 m l env=r1 at *;generalize b7 m j env=r2 at *;go_in;go_wp2_with fail;refine H HC ?_;intro e w1 hp;obtain⟨f,⟨c,M,rfl⟩|⟨a,v,M,hs,ha,rfl,q⟩⟩:=hp.get N 28 1 0 nO;·have p:=qa.out c M;subst p;exact⟨D,f,D⟩
 obtain rfl:=oe q;have⟨ac,ae,ad,g2,s2,j0,q9,q6⟩:=H2.out w1 f;have B:=a8 q6;go_wp2_with fail;refine H B ?_;intro e w2 hp;obtain⟨u,⟨c,X,rfl⟩|⟨b,v,X,ab,hb,rfl,q⟩⟩:=hp.get O 28 2 0 nO;·have p:=qq.out a c M X;subst p;exact⟨D,f.trans u,D⟩
 obtain rfl:=oe q;have p:=z.out a b M X;have q7:=a8 (f.trans u);have aa:=lc ha;have HN:G ((F.n a<0∨F.n b<F.n a∨(n:Int)<F.n b)->rU Q w R (.panicked (fL 3)) w2):=λj2=>by rw[Qm j2]at p;subst p;exact⟨q7,D⟩
 have HY:G (¬(F.n a<0∨F.n b<F.n a∨(n:Int)<F.n b)->rU Q w R (Zr (Zu #[I U (F.n a),I U (F.n b)])) w2):=λj2=>by rw[Qd j2]at p;subst p;exact⟨q7,D⟩
 clear hp q B z qa qq M X f u q7 p j0 q9;generalize F.n a=x at *;generalize F.n b=y at *;by_cases h0:0<=x
 .by_cases o:x<=y
  .go_wp2_with fail;refine H (nI _ _ _) ?_;rintro e w3 ⟨rfl,⟨hd,rfl⟩|⟨hd,rfl⟩⟩;·have HP:=HY.out (by simp at hd;omega);go_wp2_with fail;go_ret2;exact HP
   .exact⟨D,HN (by simp at hd;omega)⟩
  .exact Tx
 .exact Tx
def O7{R:α->Zv->Prop}{l:List α}{b off x y:Nat}(h:fB S w R l (A (b5 b off) n c))(t:x<=y)(B:y<=J l)(m:Nat):fB S w R ((l.drop x).take (y-x)) (A (b5 b (off+x)) (y-x) m):=by
 obtain⟨u,cap,j,z,r⟩:=h;cases j
 have a:J ((l.drop x).take (y-x))=y-x:=by rw[Xj,XZ];omega
 refine⟨_,_,by rw[a],E,λf=>?_⟩;have g:l≠[]:=by intro e;rw[e]at f;simp at f
 have⟨v,k,j,q,d⟩:=r g;cases j
 refine⟨_,_,D,q,λi s=>?_⟩;rw[a]at s;have⟨c,o,p⟩:=d (x+i) E;refine⟨c,by rw[ZX];exact o,?_⟩;rw[WH,WJ];exact p
def LO {t:T (m+1)} (h:g9 C Q w m t r env cs sb) (qv:F.k t=28) :
  WU WV 128 #[Zp (b5 sb 0)] w (cQ C (de Q cs) w (b7 (m+1) t env)):=by
 have⟨k0,k1,k2,qq⟩:=Oo (h.len (op:=28) qv zC);have Ezq:=a8 (F4 (env:=env) qq gt gt);rw[qv]at Ezq;have⟨af,ah,ag,g0,s0,ab,q9,qa,M⟩:=h.kid qq 0 k0 D gt;rw[QC]at q9;have HC:=a8 (qa.here h.lt);have hq:=h.own;have q8:G (∀(n:Nat) W,Kp Q w W->WU WV 174 #[Zp (b5 sb 0),I U n] W (rU Q W (mU (b7 m k1 env) (b7 m k2 env) n))):=λn W hW=>NQ (h.keep (hW.mono λ_=>.inl)) qv qq n;generalize b7 (m+1) t env=R at *;generalize b7 m k0 env=r0 at *;generalize b7 m k1 env=r1 at *;generalize b7 m k2 env=r2 at *;have A0:=lK (T:=125) (z:=A Y 0 0);have A1:=lK (T:=121) (z:=Zt WT);simp[Kj]at A0 A1;go_in;go_wp2_with fail;refine H HC ?_;intro e w1 hp;obtain⟨qB,⟨c,rfl,rfl⟩|⟨a,v,rfl,ha,rfl,j2⟩⟩:=cQ.get hp M;·exact IE
 .have HN:G (¬ (F.k a=4∨F.k a=2)->cQ C (de Q cs) w R (.panicked (fL 6)) w1):=λo=>eP (qB.mono λ_=>.inl) (by
   rw[Ezq.out]
   have:dV 28 0 (F.k a) 0=false:=zs
   simp[dD,this])
  have HY:G ((F.k a=4∨F.k a=2)->∀n:Nat,(n:Int)=(if F.k a=2 then ((F.a a).size:Int) else (J (F.o a):Int))->(∀c,mU r1 r2 n=.error c->R=.error c)/\(∀x y,mU r1 r2 n=.ok (x,y)->(0<=x/\x<=y/\y<=n)/\R=(if F.k a=2 then .ok (fR 2 0 ((F.a a).extract x.toNat y.toNat)) else .ok (⟨4,0,WT,[],((F.o a).drop x.toNat).take (y.toNat-x.toNat)⟩:F (T 5))))):=λo n hn=>by
   have P:dD 28 0 0 (.ok a)=.ok a:=by have:dV 28 0 (F.k a) 0=true:=zs;simp[dD,this]
   have k:=Ezq.out;rw[P]at k;have k:R=(match dD 28 1 0 r1 with|.error c=>.error c|.ok b=>match dD 28 2 0 r2 with|.error c=>.error c|.ok d=>mV a (F.n b) (F.n d)):=k;unfold mU;cases S:dD 28 1 0 r1 with
   | error c=>rw[S]at k;exact⟨zE,zS⟩
   | ok b=>
    rw[S]at k;cases V:dD 28 2 0 r2 with
    | error c=>simp only[V]at k ⊢;exact⟨zE,zS⟩
    | ok d=>
     simp only[V]at k ⊢;unfold mV at k;rw[<- hn]at k;by_cases hc:F.n b<0∨F.n d<F.n b∨(n:Int)<F.n d;·rw[Qm hc]at k ⊢;exact zE
     .rw[Qd hc]at k ⊢;refine⟨zS,λx y q5=>?_⟩;cases q5
      exact⟨E,k⟩
  rcases j2 with ⟨o,rfl⟩|⟨o,rfl⟩|⟨o,rfl⟩|⟨o,kv,rfl,X⟩|⟨o,nv,kv,rfl,hn,X⟩|⟨o,kv,rfl,X⟩;·exact Cw
  .have qc:=l7 (ld ha o).2.1;have⟨q7,j0⟩:=HY.out E (F.a a).size (by rw[Qm o]);have s:=a8 (q8 (F.a a).size w1 qB);generalize F.a a=x at *;generalize mU r1 r2 (x.size:Int)=Dzq at *;go_wp2_with fail;refine H s ?_;rintro e N ⟨f,g⟩;cases Dzq with
   | error c=>have g:=g;subst g;exact⟨D,eP ((qB.trans f).mono λ_=>.inl) (q7 c D)⟩
   | ok p=>have g:=g;subst g;obtain⟨p,q⟩:=p;have⟨⟨z0,K,O⟩,B⟩:=j0 p q D;rw[Qm o]at B;obtain⟨i,rfl⟩:=X5 z0;obtain⟨j,rfl⟩:=X5 (Int.le_trans z0 K);have K:i<=j:=E;have O:j<=x.size:=E;have HP:G (cQ C (de Q cs) w R (Zr (.iface 121 (Zt (x.extract i j)))) N):=iD ((qB.trans f).mono λ_=>.inl) B (x9 _ _ _);exact mh
  .exact Cw
  .have qc:=(iP ha o).2.2.2;have⟨q7,j0⟩:=HY.out E (J (F.o a)) (by rw[Qd E]);have s:=a8 (q8 (J (F.o a)) w1 qB);have ql:=a8 X;obtain⟨ao,cp,rfl,-,-,ad⟩:=id X;generalize ae:J (F.o a)=n at *;generalize mU r1 r2 (n:Int)=Dzq at *;go_wp2_with fail;refine H s ?_;rintro e N ⟨f,g⟩;cases Dzq with
   | error c=>have g:=g;subst g;exact⟨D,eP ((qB.trans f).mono λ_=>.inl) (q7 c D)⟩
   | ok p=>
    have g:=g;subst g;obtain⟨p,q⟩:=p;have⟨⟨z0,K,O⟩,B⟩:=j0 p q D;rw[Qd E]at B;obtain⟨i,rfl⟩:=X5 z0;obtain⟨j,rfl⟩:=X5 (Int.le_trans z0 K);have K:i<=j:=E;have O:j<=n:=E;have l:=ql.row.keep (Sn.same f hq) (Sn.up f.size) (R':=cN (Sn C N) N 5) λ_ _ _ qc=>qc.run f hq;have HP:G (∀u L,(j-i≠0->u=ao.map (λx=>x.add i))->j-i<=L->cQ C (de Q cs) w R (Zr (.iface 125 (A u (j-i) L))) N):=λu L S V=>by
     refine iD ((qB.trans f).mono λ_=>.inl) B (.inr (.inr (.inr (.inl ⟨D,_,D,.of ?_ V⟩))));show fB _ _ _ (((F.o a).drop i).take (j-i)) _;by_cases P:j-i=0;·rw[P];exact⟨u,L,D,gO,zS⟩
     .rw[S P];obtain⟨aa,ac,hv,-,q6⟩:=id l;cases hv
      obtain⟨bb,off,rfl,-,-⟩:=q6 (by intro e;have:=Xc Uh e;simp at this;rw[this]at O;simp at O;omega);have e:Option.map (λx:Addr=>x.add i) (b5 bb off)=b5 bb (off+i):=by rw[ZZ,XC]
      rw[e];exact O7 l K E L
    clear s q7 j0 B l ql qB f;go_wp2_with fail;all_goals
     go_ret
     exact HP _ _ (λh=>by first|rfl|omega) E
  iterate 2
   .exact Cw
def g9.spot {t:T (m+1)} (h:g9 C Q w m t r env cs sb) {l:List (T m)} (o:F.o t=l) (i:Nat) (k:T m) (n:l[i]?=Z k) :
  ∃a b c g s,a7 w sb 6=Z (A (b5 a b) (J l) c)/\a7 w a (b+i)=Z (eN g s)/\¬C a/\ll C Q w m k (if i=nW (F.k t) then iZ (F.q t) cs r else r) g s:=by subst o;obtain⟨hi,rfl⟩:=QN.1 n;have⟨q,c,f0,f1⟩:=h.stp.vals;obtain⟨a,b,rfl,p,j⟩:=f1 JU;have⟨g,s,d,f⟩:=j i hi;exact⟨a,b,c,g,s,f0,d,p.2,f⟩
def g9.cells {t:T (m+1)} (h:g9 C Q w m t r env (c :: cs) sb) :
  ∃d e f,a7 w sb 5=Z (A (b5 d e) (J (c :: cs)) f)/\¬C d/\∀i b,(c :: cs)[i]?=Z b->a7 w d (e+i)=Z (Zp (b5 b 0)):=by obtain⟨s,j,q,f,rfl,-,n⟩:=h.stp.cels;obtain⟨d,e,rfl,l,a⟩:=n zS;refine⟨d,e,f,j,l.2,λi b o=>?_⟩;obtain⟨p,rfl⟩:=QN.1 o;have⟨v,g,k⟩:=a i p;rw[k]at g;exact g
def fp.cons{b:Nat}{a:V6}(h:fp C w r env)(d:C b)(e:dI w b v)(f:cN (Sn C w) w 6 a v)(c:dB 6 a=true):fp C w ((x,b) :: r) ((x,a) :: env):=⟨D,d,⟨v,e,f⟩,c,h⟩
def g9.fill {t:T (m+1)} (h:g9 C Q w m t r env cs sb) (a:c∈cs) (v:Zv) :
  Kp (de Q cs) w (w.setCell ⟨c,0,Y⟩ v)/\dI (w.setCell ⟨c,0,Y⟩ v) c v:=by have⟨d,e,u,b⟩:=h.cel c a;exact⟨Kp.set (.inr a) v,b.set v⟩
def g9.ownC{t:T (m+1)}(h:g9 C Q w m t r env cs sb):∀b,de Q cs b->C b:=λb a=>a.elim (h.own b) λa=>(h.cel b a).1
def g9.bind1 {t:T (m+1)} (h:g9 C Q w m t r env [c] sb) (L:F.q t=[x0]) {l:List (T m)} (u:F.o t=l) (i:Nat) (k:T m) (q:l[i]?=Z k) (K:i=nW (F.k t))
  {a:V6} (j:cN (Sn C w) w 6 a v) (B:dB 6 a=true) :
  Kp (de Q [c]) w (w.setCell ⟨c,0,Y⟩ v)/\(∃d e n g s,a7 (w.setCell ⟨c,0,Y⟩ v) sb 6=Z (A (b5 d e) (J l) n)/\a7 (w.setCell ⟨c,0,Y⟩ v) d (e+i)=Z (eN g s) /\
   lH C Q (w.setCell ⟨c,0,Y⟩ v) (b7 m k ((x0,a) :: env)) g s)/\lR (b7 m k ((x0,a) :: env)):=by have⟨f,z⟩:=h.fill (c:=c) zS v;have b:=h.keep f;obtain⟨d,e,n,g,s,x,y,-,o⟩:=b.spot u i k q;rw[Qm K,L]at o;have p:fp C (w.setCell ⟨c,0,Y⟩ v) ((x0,c) :: r) ((x0,a) :: env):=b.env.cons (h.cel c zS).1 z (j.run f h.ownC) B;exact⟨f,⟨d,e,n,g,s,x,y,o C _ _ Cq b.own b.lt (.refl _ _) p⟩,h.okE (i:=i) (by rw[u];exact q) _ (fp.ok p)⟩
def g9.one{t:T (m+1)}(h:g9 C Q w m t r env cs sb)(a:F.k t=20∨F.k t=32∨F.k t=33∨F.k t=34):∃b c,F.q t=[b]/\cs=[c]:=by obtain⟨b,f,-⟩:=h.ok.2.free E;have d:=(h.many (by rcases a with e|e|e|e<;>rw[e]<;>decide)).1;rw[f]at d;have⟨c,g⟩:=ry d;exact⟨b,c,f,g⟩
def OD {t:T (m+1)} (h:g9 C Q w m t r env cs sb) (qv:F.k t=20) :
  WU WV 120 #[Zp (b5 sb 0)] w (cQ C (de Q cs) w (b7 (m+1) t env)):=by
 have⟨B,y,hl⟩:=n8 (h.len (op:=20) qv zC);obtain⟨q6,c,hn,rfl⟩:=h.one E;have Ezq:=a8 (gP (env:=env) (k0:=B) fi gt gt);rw[qv]at Ezq;have⟨j2,qa,cc,c5,aa,O⟩:=h.cells;have q:=O 0 c D;rw[QC]at q;have⟨j,l,q5,q8,s0,M,n,ad,x⟩:=h.spot hl 0 B D;rw[Qd gt]at x;rw[QC]at n;have j0:=h.stp.nc;have ab:=h.lt;have q9:=h.okE (i:=0) (k:=B) fi env h.env.ok;have z:=h.own;have ac:=h.ownC;have P:Kp Q w w.drew:=(Kp.refl _ _).drew;have HC:G (lH C Q w.drew (b7 m B env) q8 s0):=x C w.drew env Cq z ab (P.mono z) (h.env.run P z λp hp=>(h.away p hp).1);have HF:G (∀W,Kp C w W->(a7 W sb 5=Z (A (b5 j2 qa) 1 cc)/\a7 W j2 qa=Z (Zp (b5 c 0))/\a7 W sb 6=Z (A (b5 j l) 2 q5)/\a7 W j l=Z (eN q8 s0))/\∃u,dI W c u):=λW o=>⟨⟨o.cell c5 j0,o.cell q aa,o.cell M j0,o.cell n ad⟩,o.cells (h.cel c zS).2.2⟩;have HB:G (∀ W a v,Kp Q w W->cN (Sn C W) W 6 a v->dB 6 a=true->Kp (de Q [c]) W (W.setCell ⟨c,0,Y⟩ v)/\(∃ vb vo vc g s,a7 (W.setCell ⟨c,0,Y⟩ v) sb 6=Z (A (b5 vb vo) 2 vc)/\a7 (W.setCell ⟨c,0,Y⟩ v) vb (vo+1)=Z (eN g s) /\
   lH C Q (W.setCell ⟨c,0,Y⟩ v) (b7 m y ((q6,a) :: env)) g s)/\lR (b7 m y ((q6,a) :: env))):=λW a v o d ql=>(h.keep (o.mono λ_=>.inl)).bind1 hn hl 1 y D gt d ql
 have E2:G (∀f,eo (b7 m) 20 (F.q t) (F.o t) env f=b7 m y ((q6,f) :: env)):=λf=>by unfold eo kZ;rw[Qd zC,Qd zC,Qd zC,Qd zC,Qm zC,iR (k:=y) fi,hn];exact cU
 generalize eo (b7 m) 20 (F.q t) (F.o t) env=L at *;generalize b7 (m+1) t env=R at *;generalize b7 m B env=r0 at *;have X:=(HF _ (P.mono z)).1;clear h x O;go_in;go_upto_region 1 with fail;refine Qz (S:=λW=>a7 W sb 5=Z (A (b5 j2 qa) 1 cc)/\a7 W j2 qa=Z (Zp (b5 c 0))/\a7 W sb 6=Z (A (b5 j l) 2 q5)/\a7 W j l=Z (eN q8 s0)) zK X (λhHeld=>?_);generalize w.drew=V at *;clear c5 q M n X;refine t4 0 1 2 3 ?_;refine t4 4 5 6 7 ?_;refine t4 8 9 10 11 ?_;refine ic 12 λK hK=>?_;go_simp;go_at_call 67;refine H HC ?_;intro e w1 hp;obtain⟨q7,⟨c',rfl,rfl⟩|⟨a,v,rfl,ql,rfl,d⟩⟩:=cQ.get hp q9;·exact⟨D,eP ((P.trans q7).mono λ_=>.inl) P6⟩
 have b:=P.trans q7;have⟨f1,u,hu⟩:=HF.out w1 (b.mono z);have⟨qc,⟨ah,aj,ai,g1,s1,af,ag,N⟩,ae⟩:=HB.out w1 a v b d ql;obtain⟨ku,kx,rfl⟩:=d.iface;have hR:R=b7 m y ((q6,a) :: env):=by rw[Ezq.out];exact E2 a
 subst hR;have u0:=hu.cell;have u1:=hu.free;have qq:=a8 N;have f2:=(HF _ ((b.mono z).trans (qc.mono ac))).1;have HK:G (Kp (de Q [c]) w (w1.setCell ⟨c,0,Y⟩ (.iface ku kx))):=(b.mono λ_=>.inl).trans qc;refine hK.out _ _ f1 (λhHeld=>?_);clear hK K hp d Ezq E2 HC HF HB N qc hu f1;refine t2 13 14 ?_;refine qk 15 ?_ λhHeld=>?_;exact f2;clear u0 u1 f2;generalize w1.setCell ⟨c,0,Y⟩ (.iface ku kx)=W at *;refine Xi zK ?_ _;go_simp;go_wp2_with fail;refine H qq ?_;intro e w2 hp;have hp:cQ C (de Q [c]) w (b7 m y ((q6,a) :: env)) e w2:=⟨HK.trans (hp.1.mono λ_=>.inl),hp.2⟩;exact Ee
def LG {t:T (m+1)} (h:g9 C Q w m t r env cs sb) (qv:F.k t=32) :
  WU WV 132 #[Zp (b5 sb 0)] w (cQ C (de Q cs) w (b7 (m+1) t env)):=by
 have⟨k0,z,X,hl⟩:=Oo (h.len (op:=32) qv zC);obtain⟨q9,c,hn,rfl⟩:=h.one E;have Ezq:=a8 (gP (env:=env) (k0:=k0) fi gt gt);rw[qv]at Ezq;have⟨al,an,am,g0,s0,q5,K,q8,ab⟩:=h.kid hl 0 k0 D gt;rw[QC]at K;have HC:=a8 (sU (q8.here h.lt));have H2:G (∀W,Kp Q w W->∃vb vo vc g s,a7 W sb 6=Z (A (b5 vb vo) 3 vc)/\a7 W vb (vo+2)=Z (eN g s)/\lH C Q W (b7 m X env) g s):=λW N=>by have h1:=h.keep (N.mono λ_=>.inl);obtain⟨qX,qY,qK,g1,s1,qZ,jb,qB,-⟩:=h1.kid hl 2 X D gt;exact Px
 have ak:=h.okE (i:=2) (k:=X) fi env h.env.ok;have⟨cb,co,cc,c5,ad,qc⟩:=h.cells;have o:=qc 0 c D;rw[QC]at o;have ag:=h.stp.nc;have hq:=h.own;have aa:=h.ownC;have HF:G (∀W,Kp C w W->(a7 W sb 5=Z (A (b5 cb co) 1 cc)/\a7 W cb co=Z (Zp (b5 c 0)))/\∃u,dI W c u):=λW N=>⟨⟨N.cell c5 ag,N.cell o ad⟩,N.cells (h.cel c zS).2.2⟩;have HB:G (∀ W a v,Kp Q w W->cN (Sn C W) W 6 a v->dB 6 a=true->Kp (de Q [c]) W (W.setCell ⟨c,0,Y⟩ v)/\(∃ vb vo vc g s,a7 (W.setCell ⟨c,0,Y⟩ v) sb 6=Z (A (b5 vb vo) 3 vc)/\a7 (W.setCell ⟨c,0,Y⟩ v) vb (vo+1)=Z (eN g s) /\
   lH C Q (W.setCell ⟨c,0,Y⟩ v) (b7 m z ((q9,a) :: env)) g s)/\lR (b7 m z ((q9,a) :: env))):=λW a v N n qq=>(h.keep (N.mono λ_=>.inl)).bind1 hn hl 1 z D gt n qq
 have E2:G (∀f,eo (b7 m) 32 (F.q t) (F.o t) env f=match cL f with|x :: _=>b7 m z ((q9,x) :: env)|[]=>b7 m X env):=λf=>by
  unfold eo kZ;rw[Qd zC,Qd zC,Qd zC,Qm zC,iR (k:=X) fi,hn];cases cL f with
  | nil=>rfl
  | cons x q=>exact iR (k:=z) fi
 generalize eo (b7 m) 32 (F.q t) (F.o t) env=L at *;generalize b7 (m+1) t env=R at *;generalize b7 m k0 env=r0 at *;generalize b7 m X env=r2 at *;clear h q8 qc;go_in;go_wp2_with fail;refine H HC ?_;intro e w1 hp;obtain⟨qB,⟨c',e1,rfl⟩|⟨a,v,e1,hs,qq,rfl,n⟩⟩:=hp.get ab 32 0 0 nO;·exact pO
 have hR:R=(match cL a with|x :: _=>b7 m z ((q9,x) :: env)|[]=>r2):=y9;have HK:G (Kp (de Q [c]) w w1):=qB.mono λ_=>.inl;have j:=B2 n;have ae:=(nF qq hs).2.2.2;rcases Ww 0 (J (F.o a)) with h0|h0
 .have hd:Kp Q w1 w1.drew:=(Kp.refl _ _).drew;obtain⟨bb,off,cap,rfl,ah,cv,P,O⟩:=nB qq j h0;rw[QC]at P;have p:(cL a).getD 0 dU∈cL a:=by
   have af:0<J (cL a):=by unfold cL;rw[Qv];exact h0
   rw[lW af];exact zS
  have ai:=kE qq _ p;have M:R=b7 m z ((q9,(cL a).getD 0 dU) :: env):=by
   rw[hR];cases hq:cL a with
   | nil=>rw[hq]at p;cases p
   | cons x r=>rfl
  clear hR;subst M;generalize (cL a).getD 0 dU=b at *;obtain⟨q7,j0,rfl⟩:=O.iface;have d:=qB.trans hd;have y:=O.run hd hq;have f1:=(HF _ (d.mono hq));have⟨b1,⟨qX,qY,qK,g1,s1,qZ,jb,l⟩,aj⟩:=HB.out _ b _ d y ai;obtain⟨f1,u,hu⟩:=f1;have u0:=hu.cell;have u1:=hu.free;have fm:a7 w1.drew bb off=Z (.iface q7 j0):=P;have f2:=(HF _ ((d.mono hq).trans (b1.mono aa))).1;have q6:a7 (w1.drew.setCell ⟨c,0,Y⟩ (.iface q7 j0)) bb off=Z (.iface q7 j0):=(b1.mono aa).cell fm ah.2;have j2:=(show _/\_/\_ from ⟨f1.1,f1.2,fm⟩);have qa:=(show _/\_/\_ from ⟨f2.1,f2.2,q6⟩);have B:=a8 l;have ac:G (Kp (de Q [c]) w (w1.drew.setCell ⟨c,0,Y⟩ (.iface q7 j0))):=(d.mono λ_=>.inl).trans b1;have ql:J (F.o a)=1:=E;clear hp n HC Ezq E2 e1 j O y HK q5 K p HF HB H2 f1 f2 fm q6 l b1 hu P c5 o;rw[ql];clear ql h0 ae;go_upto_region 4 with fail;refine Qz (S:=λW=>a7 W sb 5=Z (A (b5 cb co) 1 cc)/\a7 W cb co=Z (Zp (b5 c 0))/\a7 W bb off=Z (.iface q7 j0)) zK j2 (λhHeld=>?_);generalize w1.drew=V at *;refine t4 0 1 2 3 ?_;refine t4 4 5 6 7 ?_;refine t2 8 9 ?_;refine tk 10 ?_;refine qk 11 ?_ λhHeld=>?_;exact qa;clear u0 u1 qa j2;generalize V.setCell ⟨c,0,Y⟩ (.iface q7 j0)=W at *;refine Xi zK ?_ _;go_simp;go_wp2_with fail;refine H B ?_;intro e w2 hp;have hp:cQ C (de Q [c]) w (b7 m z ((q9,b) :: env)) e w2:=⟨ac.trans (hp.1.mono λ_=>.inl),hp.2⟩;exact Ee
 .have hk:F.o a=[]:=Qj E;have M:R=r2:=by rw[hR];unfold cL;rw[hk];rfl
  clear hR;subst M;obtain⟨ao,cp,rfl,-⟩:=id j;have⟨qX,qY,qK,g1,s1,qZ,jb,l⟩:=H2.out w1 qB;have B:=a8 l;clear hp n HC H2 l q5 K Ezq E2 e1 j HF HB c5 o;rw[hk];go_wp2_with fail;refine H B ?_;intro e w2 hp;have hp:cQ C (de Q [c]) w R e w2:=⟨HK.trans (hp.1.mono λ_=>.inl),hp.2⟩;exact Ee
def Sg(C:ZN)(v:Zv)(w:Zw):ZN:=λb=>b<w.heap.size/\¬C b/\v.ownBlock≠Z b
structure lQ(C O:ZN)(w wr:Zw)(ks:List V6)(v:Zv):Prop where
 k:Kp O w wr
 row:∃xs,wr.ownsRow w.heap.size 71 1 v (J ks) xs/\∀j (h:j<J ks),∃c,xs[j]?=Z c/\cN (Sg C v wr) wr 6 ks[j] c
def lQ.start(C O:ZN)(w:Zw):lQ C O w w [] (A Y 0 0):=⟨.refl _ _,[],QV _ _ _ _,zS⟩
def lQ.far{d:List V6}(h:lQ C O w wr d v)(b:Nat)(a:v.ownBlock=Z b):w.heap.size<=b/\b<wr.heap.size:=by obtain⟨e,c,-⟩:=h.row;exact cO c b a
def lQ.keep{m:List V6}(h:lQ C O w wr m v)(d:Kp O' wr W)(e:∀b,O' b->O b)(k:∀b,O b->C b)(f:∀b,C b->b<w.heap.size):lQ C O w W m v:=by
 have⟨s,l,r⟩:=h.row;refine⟨h.k.trans (d.mono e),s,cV l λg p=>?_,λj q=>?_⟩;·have:=cO l g p;exact d.block g this.2 λi=>by have:=f g (k g (e g i));omega
 .have⟨c,n,o⟩:=r j q;exact⟨c,n,o.keep (d.same λb a=>⟨a.1,λi=>a.2.1 (k b (e b i))⟩) λb a=>⟨Qn a.1 d.size,a.2⟩⟩
def lQ.add {l:Zw} {f:List V6} {c:Zv} {t:V6} {one:Obj} (h:lQ C O w W f v) (P:cN (Sg C v W) W 6 t c)
  (p:W.ownsRow w.heap.size 71 1 v (J f) xs) (M:∀j (h:j<J f),∃c,xs[j]?=Z c/\cN (Sg C v W) W 6 f[j] c)
  (o:l.ownsRow w.heap.size 71 1 (A (b5 g 0) (J f+1) cap) (J f+1) (xs++[c])) (a:(W.alloc one).grownBy l v.ownBlock) (qy:v.ownBlock=Z g∨g=W.heap.size+1) :
  lQ C O w l (f++[t]) (A (b5 g 0) (J f+1) cap):=by
 have R:=a.size;simp at R;have Q:=h.k.size;have qn:=cO p;have q:∀b,b<W.heap.size->v.ownBlock≠Z b->l.heap[b]?=W.heap[b]?:=λb hb qh=>by rw[a.block b zE Bb,Qf _ _ _ hb]
 have z:J xs=J f:=by simpa using p.1
 have m:∀b,v.ownBlock≠Z b->b<W.heap.size->(Uc (b5 g 0) (J f+1) cap).ownBlock≠Z b:=by exact P2
 have i:∀ {u:V6} {d:Zv},cN (Sg C v W) W 6 u d->cN (Sg C (A (b5 g 0) (J f+1) cap) l) l 6 u d:=λr=>r.keep (λb hb=>q b hb.1 hb.2.2) λb hb=>⟨pe,hb.2.1,m b hb.2.2 hb.1⟩;have k:∀b,b<w.heap.size->v.ownBlock≠Z b:=λb hb e=>PM;refine⟨⟨?_,?_,?_,E,λb hb N=>(q b E (k b hb)).trans (h.k.block b hb N),λb hb K=>?_⟩,xs++[c],?_,λj hj=>?_⟩;·rw[a.os];exact h.k.os
 .rw[a.tape];exact h.k.tape
 .rw[a.output];exact h.k.output
 .obtain⟨u,r⟩:=K;have s:=r.lt;have⟨S,y⟩:=h.k.cells ⟨u,r⟩;exact⟨S,(q b E (k b s)).trans y⟩
 .rw[Qi,QM];exact o
 .by_cases n:j<J f;·have⟨d,B,L⟩:=M j n;refine⟨d,by rw[QA E];exact B,?_⟩;rw[QS n];exact i L
  .have x:j=J f:=Bi;subst x;refine⟨c,by rw[Qu E];simp[z],?_⟩;have:(f++[t])[J f]=t:=dS;rw[this];exact i P
def lQ.done{d:List V6}(h:lQ C O w wr d v)(e:∀b,C b->b<w.heap.size)(x:J d<=WX):rm (Sn C wr) wr (cN (Sn C wr) wr 6) d v:=by
 have⟨B,j,z⟩:=h.row;have a:fB (Sn C wr) wr (cN (Sn C wr) wr 6) d v:=by
  refine gM j x (λg n=>?_) λi u k=>?_;·have:=cO j g n;exact⟨E,λr=>by have:=e g r;omega⟩
  .have⟨c,l,p⟩:=z i u;have:B[i]=c:=by rw[Qp k]at l;exact XK l
   rw[this];exact p.keep ik λb m=>⟨m.1,m.2.1⟩
 rcases j.2 with ⟨rfl,K⟩|⟨g,cap,o,rfl,q,n,y,s,t,f⟩;·exact .of a E
 .exact .of a E
def fp.move{f:ZN}(i:∀b,b<w.heap.size->(f b↔C b))(d:∀b,C b->b<w.heap.size)(c:Kp O w W)(x:∀b,O b->C b):∀ {r:List (ZB×Nat)} {e:gk},fp C w r e->(∀p,p∈r->¬O p.2)->fp f W r e:=by
 intro r;induction r with
 | nil=>intro e h _;cases e with|nil=>exact h|cons p q=>exact h.elim
 | cons p r z=>
  intro e h j;cases e with
  | nil=>exact h.elim
  | cons q e=>obtain⟨s,b⟩:=p;obtain⟨B,t⟩:=q;obtain⟨l,g,⟨v,m,n⟩,o,u⟩:=h;exact⟨l,(i b (d b g)).2 g,⟨v,m.keep c (j (s,b) zS),n.keep (Sn.same c x) λk a=>⟨Qn a.1 c.size,λy=>a.2 ((i k a.1).1 y)⟩⟩,o,z u λp hp=>j p (Qt _ hp)⟩
def se(C Q:ZN)(v':Zv)(W:Zw)(R:Except Int V6)(e:Ending)(w2:Zw):Prop:=
 Kp Q W w2/\match R with
  | .ok b=>∃u,e=Zr u/\cN (Sg C v' w2) w2 6 b u
  | .error c=>e=.panicked (fL c)
def se.get {R:Except Int V6} (h:se C Q v' W R e w2) (g:lR R) :
  Kp Q W w2/\((∃c,R=.error c/\e=.panicked (fL c))∨(∃a u,R=.ok a/\dB 6 a=true/\e=Zr u/\cN (Sg C v' w2) w2 6 a u)):=by
 obtain⟨f,h⟩:=h;refine⟨f,?_⟩;cases R with
 | error c=>exact zE
 | ok a=>obtain⟨v,d,b⟩:=h;exact .inr ⟨a,v,D,g,d,b⟩
def g9.round {t:T (m+1)} (h:g9 C Q w m t r env [c] sb) {k:T m} (o:ll C Q w m k ((x0,c) :: r) g s)
  (q:Kp (de Q [c]) w wr) (x:∀b,v'.ownBlock=Z b->w.heap.size<=b/\b<wr.heap.size) {a:V6} (n:cN (Sn C w) w 6 a v) (z:dB 6 a=true) :
  Kp (de Q [c]) wr (wr.setCell ⟨c,0,Y⟩ v)/\WU WV 67 #[Zp (b5 g 0),Zp (b5 s 0)] (wr.setCell ⟨c,0,Y⟩ v) (se C Q v' (wr.setCell ⟨c,0,Y⟩ v) (b7 m k ((x0,a) :: env))):=by
 have y:=h.keep q;have⟨f1,f2⟩:=y.fill (c:=c) zS v;have d:=q.trans f1;have i:=h.ownC;have f:∀b,b<w.heap.size->((C b∨v'.ownBlock=Z b)↔C b):=λb hb=>⟨λh=>h.elim id λe=>by have:=x b e;omega,.inl⟩;have j:cN (Sn (λb=>C b∨v'.ownBlock=Z b) (wr.setCell ⟨c,0,Y⟩ v)) (wr.setCell ⟨c,0,Y⟩ v) 6 a v:=n.keep (Sn.same d i) λb hb=>⟨Qn hb.1 d.size,λhc=>hb.2 ((f b hb.1).1 hc)⟩;have l:=fp.move f h.lt d i h.env λp hp B=>B.elim (h.away p hp).1 (h.away p hp).2;have l:fp (λb=>C b∨v'.ownBlock=Z b) (wr.setCell ⟨c,0,Y⟩ v) ((x0,c) :: r) ((x0,a) :: env):=l.cons (.inl (h.cel c zS).1) f2 j z;refine⟨f1,(o _ _ _ (λb hb=>(f b hb).1) (λb hb=>.inl (h.own b hb)) (λb hb=>?_) (d.mono i) l).mono λe K hp=>⟨hp.1,?_⟩⟩
 .rcases hb with hb|hb;·exact Qn (h.lt b hb) d.size
  .exact Qn (x b hb).2 zS
 .have hp:=hp.2;cases hR:b7 m k ((x0,a) :: env) with
  | error c=>rw[hR]at hp;exact hp
  | ok b=>exact YB
def pC{l:List α}(h:k<J l):l.drop k=l[k] :: l.drop (k+1):=zS
def MZ{g:V6->Except Int V6}{x t:V6}{r acc:List V6}(h:g x=.ok t):e9 33 g (x :: r) acc=e9 33 g r (acc++[t]):=by rw[e9,h];exact dS
def nQ(a:V6):J (cL a)=J (F.o a):=Qv ..
def g9.loop1 {t:T (m+1)} (h:g9 C Q w m t r env [c] sb) (V:F.q t=[x0]) {k0 n:T m} (hl:F.o t=[k0,n]) (R:1=nW (F.k t)) :
  ∃k l x o q M g s,(∀W,Kp C w W->a7 W sb 5=Z (A (b5 k l) 1 x)/\a7 W k l=Z (Zp (b5 c 0))/\a7 W sb 6=Z (A (b5 o q) 2 M)/\a7 W o (q+1)=Z (eN g s)/\∃u,dI W c u) /\
   (∀wr L a v,Kp (de Q [c]) w wr->(∀b,L.ownBlock=Z b->w.heap.size<=b/\b<wr.heap.size)->cN (Sn C w) w 6 a v->dB 6 a=true ->
    Kp (de Q [c]) wr (wr.setCell ⟨c,0,Y⟩ v)/\WU WV 67 #[Zp (b5 g 0),Zp (b5 s 0)] (wr.setCell ⟨c,0,Y⟩ v) (se C Q L (wr.setCell ⟨c,0,Y⟩ v) (b7 m n ((x0,a) :: env)))/\lR (b7 m n ((x0,a) :: env))):=by
 have⟨k,l,x,c5,y,z⟩:=h.cells;have e:=z 0 c D;rw[QC]at e;have⟨o,q,M,g,s,O,P,K,f⟩:=h.spot hl 1 n D;rw[Qm R,V]at f;have j:=h.stp.nc;refine⟨k,l,x,o,q,M,g,s,λW d=>⟨d.cell c5 j,d.cell e y,d.cell O j,d.cell P K,d.cells (h.cel c zS).2.2⟩,λwr L a v S X B N=>?_⟩;have⟨E,qa⟩:=h.round f S X B N;refine⟨E,qa,h.okE (i:=1) fi _ λp hp=>?_⟩;rcases QW.1 hp with rfl|hp;·exact N
 .exact h.env.ok p hp
def Tryz.info_lt:(prog.info? 71).map (λi=>(i.zero,i.size,i.bytes))=Z (Z .nilIface,1,16):=gZ
def OE {t:T (m+1)} (h:g9 C Q w m t r env cs sb) (qv:F.k t=33) :
  WU WV 133 #[Zp (b5 sb 0)] w (cQ C (de Q cs) w (b7 (m+1) t env)):=by
 have⟨k0,z,hl⟩:=n8 (h.len (op:=33) qv zC);obtain⟨K,c,hn,rfl⟩:=h.one E;have Ezq:=a8 (gP (env:=env) (k0:=k0) fi gt gt);rw[qv]at Ezq;have⟨aK,aM,aL,g0,s0,au,ab,aA,ag⟩:=h.kid hl 0 k0 D gt;rw[QC]at ab;have HC:=a8 (lA (aA.here h.lt));have ql:G (∀W,Kp Q w W->g9 C Q W m t r env [c] sb):=λW hW=>h.keep (hW.mono λ_=>.inl);have an:G (1=nW (F.k t)):=by show _=_;rw[qv];exact mz
 have E2:G (∀f,eo (b7 m) 33 (F.q t) (F.o t) env f=match e9 33 (λx=>b7 m z ((K,x) :: env)) (cL f) [] with|.error c=>.error c|.ok l=>eu (fd 4 0 WT [] l)):=λf=>by
  unfold eo kZ;rw[Qd zC,Qd zC,Qd zC,Qd zC,Qd zC,Qd zC,hn];have hx:(λx=>gi (b7 m) (F.o t) 1 ((([K]:List ZB).headD WT,x) :: env))=λx=>b7 m z ((K,x) :: env):=by funext x;exact iR (k:=z) fi
  rw[hx];cases e9 33 (λx=>b7 m z ((K,x) :: env)) (cL f) []<;>rfl
 generalize eo (b7 m) 33 (F.q t) (F.o t) env=L at *;generalize b7 (m+1) t env=R at *;generalize b7 m k0 env=r0 at *;have⟨i0,hi,ak,al,am⟩:=QY Tryz.info_lt;have HI:G (_/\_/\_/\_):=⟨hi,ak,al,am⟩;go_in;go_wp2_with fail;refine H HC ?_;intro e w1 hp;obtain⟨qB,⟨c',e1,rfl⟩|⟨a,v,e1,hs,ha,rfl,ae⟩⟩:=hp.get ag 33 0 0 nO;·exact pO
 have hR:R=(match e9 33 (λx=>b7 m z ((K,x) :: env)) (cL a) [] with|.error c=>.error c|.ok l=>eu (fd 4 0 WT [] l)):=y9;have HR:=a8 hR;have HK:G (Kp (de Q [c]) w w1):=qB.mono λ_=>.inl;have qq:=ql.out w1 qB;have qf:=qq.lt;have xT:=qq.ownC;have⟨cb,co,cc,vb,vo,vc,g,s,hF,hG⟩:=qq.loop1 hn hl an;have HF:=a8 hF;have HG:=a8 hG;have qx:=(oW ae).row;have aG:=(iP ha hs).2.2.2;have HE:G (∀i,i<J (F.o a)->∃b off cap,v=A (b5 b off) (J (F.o a)) cap/\¬C b/\∃d,a7 w1 b (off+i)=Z d/\cN (Sn C w1) w1 6 ((cL a).getD i dU) d/\dB 6 ((cL a).getD i dU)=true):=λi hi=>by exact qbD
 have ai:=kE ha;have ar:G (∀x,x∈cL a->lR (b7 m z ((K,x) :: env))):=λx hx=>qq.okE (i:=1) fi _ λp hp=>by
  rcases QW.1 hp with rfl|hp;·exact ai _ hx
  .exact qq.env.ok p hp
 have aH:=nQ a;obtain⟨ao,cp,rfl,-⟩:=id qx;clear hp ae HC Ezq E2 e1 qx ql au ab hF hG qq hR;generalize J (F.o a)=n at *;generalize cL a=X at *;go_wp2_with fail;go_loopw [3,14] (λv i wr=>∃k:Nat,k<=n/\i=I U k/\∃ks:List V6,lQ C (de Q [c]) w1 wr ks v/\J ks=k/\e9 33 (λx=>b7 m z ((K,x) :: env)) X []=e9 33 (λx=>b7 m z ((K,x) :: env)) (X.drop k) ks) (λ_ i _=>n-(intOf i).toNat);case atStart=>exact⟨0,E,D,[],lQ.start _ _ _,dS,D⟩
 case round=>
  obtain⟨k,hk,rfl,ks,q9,af,ac⟩:=hrel;have aJ:=q9.k.size;have o:=a8 q9;have M:=a8 ac;have xN:=a8 af;have⟨xs,S,aj⟩:=id q9.row;obtain⟨va,xG,rfl⟩:=ep S;have HX:=a8 S;have vi:=a8 aj;clear q9 ac S aj af;by_cases aD:k<n
  .have⟨b,off,cap,hv,hb,d,hd,N,ad⟩:=HE.out k aD;cases hv
   obtain⟨du,dx,rfl⟩:=N.iface;rw[rT X k E]at N ad;have HD:G (cN (Sn C w1) w1 6 (X[k]'E) (.iface du dx)):=N;have az:=(o.k.mono xT).cell hd hb;have⟨f5,fc,f6,fv,u,hu⟩:=HF.out wr (o.k.mono xT);have u0:=hu.cell;have u1:=hu.free;have⟨q1,q2,ah⟩:=HG.out wr (A va (J ks) xG) (X[k]'E) _ o.k o.far N ad;have q8:=a8 q2;have vP:=a8 q1;obtain⟨av,ax,aw,ay,-⟩:=HF.out _ ((o.k.trans q1).mono xT);have q6:G (X.drop k=X[k]'E :: X.drop (k+1)):=pC E;clear hd N q1 q2 hu;go_upto_region 6 with fail;generalize wr.setCell ⟨c,0,Y⟩ (.iface du dx)=V at *;clear f5 fc f6 fv u0 u1 az;go_wp2_with fail;refine H q8 ?_;intro e w2 hp;obtain⟨qM,⟨c',er,rfl⟩|⟨y,vy,er,hy,rfl,qa⟩⟩:=hp.get ah;·refine⟨D,eP ((HK.trans o.k).trans (vP.trans (qM.mono λ_=>.inl))) ?_⟩;rw[HR.out,M.out,q6.out,e9];simp only[er]
   have j2:=(o.keep vP zI xT qf).keep qM (λ_=>.inl) xT qf;obtain⟨yu,yx,rfl⟩:=qa.iface;have aI:w1.heap.size<=w2.heap.size:=j2.k.size;have j0:G (w2.ownsRow w1.heap.size 71 1 (A va (J ks) xG) (J ks) xs/\∀j (h:j<J ks),∃c,xs[j]?=Z c/\cN (Sg C (A va (J ks) xG) w2) w2 6 ks[j] c):=by exact qcW
   have qc:=a8 j2;have HY:=a8 qa;have aq:G (e9 33 (λx=>b7 m z ((K,x) :: env)) X []=e9 33 (λx=>b7 m z ((K,x) :: env)) (X.drop (k+1)) (ks++[y])):=by show _=_;rw[M.out,q6.out];exact MZ er
   clear hp qa j2 er qM q8 q6 av ax aw ay;have aE:J ks<=20:=J4;go_wp2_with (at_builtin;refine Xb _ D (.tmp 27) (.tmp 35) 125 D w1.heap.size 71 i0 .nilIface 1 16 underlying125 HI.1 HI.2.1 HI.2.2.1 HI.2.2.2 D zC (A va (J ks) xG) (J ks) xs D (j0.1.alloc _) ⟨w2.heap.size,0,Y⟩ 1 1 [.iface yu yx] D D (QB (Qh w2 _)) iz zC fA E gE (w2.heap.size+1) zS ?_;intro gg aa w3 q7 q q5 aF;refine XE ?_);refine QJ ?_;have ap:G (lQ C (de Q [c]) w1 w3 (ks++[y]) (A (b5 gg 0) (J ks+1) aa)):=qc.add HY j0.1 j0.2 q7 q q5;clear q7 q q5 j0 HX vi qc HY o M;go_wp2_with fail;go_roundw;case rel=>exact⟨k+1,E,ew,ks++[y],ap,by have:=xN.out;simp;omega,aq⟩
   case measure=>exact eb
  .have aB:k=n:=E;have P:e9 33 (λx=>b7 m z ((K,x) :: env)) X []=.ok ks:=by rw[M.out,Xw E];exact cU
   have HB:G (WU WV 105 #[.iface 125 (A va (J ks) xG)] wr (cQ C (de Q [c]) w R)):=by
    have hr:R=eu (fd 4 0 WT [] ks):=by rw[HR.out,P]
    rw[hr];have aC:∀x,x∈ks->dB 6 x=true:=by have h5:=F7 (op:=33) (g:=λx=>b7 m z ((K,x) :: env)) (l:=X) (acc:=[]) (λx hx=>ar x hx) ai zS;rw[P]at h5;exact h5
    refine iU (HK.trans o.k) (.inr (.inr (.inr (.inl ⟨D,_,D,o.done qf (by have:=xN.out;unfold WX;omega)⟩)))) Pt Cl aC (.inl ?_);show cM 4 0 WT [] (J ks)=true;have:=xN.out;simp[cM];omega
   clear o M HX vi HE HF HG HR P aB;exact MO
def eL.got {r:Except Int V6} {k:Int} (h:eL C O w r k ty e w') (i:lR r) :
  Kp O w w' /\ ((∃c,r=.error c/\e=.panicked (fL c))∨(∃a v,r=.ok a/\F.k a=k/\dB 6 a=true/\e=Zr v/\cN (Sn C w') w' 6 a (.iface ty v))∨(∃a,r=.ok a/\¬F.k a=k/\e=.panicked (fL 6))):=by
 obtain⟨g,h⟩:=h;refine⟨g,?_⟩;cases r with
 | error c=>exact zE
 | ok a=>
  rcases h with ⟨f,v,b,d⟩|⟨f,b⟩;·exact .inr (.inl ⟨a,v,D,f,i,b,d⟩)
  .exact .inr (.inr ⟨a,D,f,b⟩)
def qaV{a:V6}(h:dB 6 a=true)(l:F.k a=4){b:List V6}(d:b.Sublist (cL a)):dB 7 (fd 4 0 WT [] b)=true/\J b<=20:=by
 have⟨i,j⟩:=dr h;obtain⟨-,-,g⟩:=dY (n:=5) i;have r:=(iP h l).2.2.2;have f:J b<=20:=by have:=d.length_le;have e:J (cL a)=J (F.o a):=Qv ..;omega
 refine⟨tJ (iL (n:=6) zC ?_ λx c=>?_) ?_,f⟩;·show cM 4 0 WT [] (J b)=true;simp[cM];omega
 .have c:x∈b:=c;obtain⟨y,m,rfl⟩:=Xo.1 (d.subset c);exact (x8 5 5 y (1+1) (g y m) zC).1
 .have o:=Fm (λk=>cJ 6 k) d;have p:cG (λk=>cJ 6 k) (cL a)=cG (λk=>cJ 5 k) (F.o a):=Cb (fl 5 5) (λk=>cJ 6 k) (λk=>cJ 5 k) (F.o a) λx c=>(x8 5 5 x (1+1) (g x c) zC).2.1;have q:1+cG (λk=>cJ 5 k) (F.o a)<=120:=j;show 1+cG (λk=>cJ 6 k) b<=120;omega
def IK{g:V6->Except Int V6}{x t:V6}{r acc:List V6}(h:g x=.ok t)(a:F.k t=3):e9 34 g (x :: r) acc=e9 34 g r (if F.n t=1 then acc++[x] else acc):=by rw[e9,h];simp[a]
def MX{g:V6->Except Int V6}{x t:V6}{r acc:List V6}(h:g x=.ok t)(a:¬F.k t=3):e9 34 g (x :: r) acc=.error 6:=by rw[e9,h];simp[a]
def MY{op:Int}{g:V6->Except Int V6}{x:V6}{c:Int}{r acc:List V6}(h:g x=.error c):e9 op g (x :: r) acc=.error c:=by rw[e9,h]
def LL {t:T (m+1)} (h:g9 C Q w m t r env cs sb) (qv:F.k t=34) :
  WU WV 134 #[Zp (b5 sb 0)] w (cQ C (de Q cs) w (b7 (m+1) t env)):=by
 have⟨k0,M,hl⟩:=n8 (h.len (op:=34) qv zC);obtain⟨N,c,hn,rfl⟩:=h.one E;have Ezq:=a8 (gP (env:=env) (k0:=k0) fi gt gt);rw[qv]at Ezq;have⟨aM,aQ,aO,g0,s0,aB,an,av,ax⟩:=h.kid hl 0 k0 D gt;rw[QC]at an;have HC:=a8 (lA (av.here h.lt));have ai:G (∀W,Kp Q w W->g9 C Q W m t r env [c] sb):=λW hW=>h.keep (hW.mono λ_=>.inl);have ah:G (1=nW (F.k t)):=by show _=_;rw[qv];exact mz
 have E2:G (∀f,eo (b7 m) 34 (F.q t) (F.o t) env f=match e9 34 (λx=>b7 m M ((N,x) :: env)) (cL f) [] with|.error c=>.error c|.ok l=>eu (fd 4 0 WT [] l)):=λf=>by
  unfold eo kZ;rw[Qd zC,Qd zC,Qd zC,Qd zC,Qd zC,Qd zC,hn];have hx:(λx=>gi (b7 m) (F.o t) 1 ((([N]:List ZB).headD WT,x) :: env))=λx=>b7 m M ((N,x) :: env):=by funext x;exact iR (k:=M) fi
  rw[hx];cases e9 34 (λx=>b7 m M ((N,x) :: env)) (cL f) []<;>rfl
 generalize eo (b7 m) 34 (F.q t) (F.o t) env=L at *;generalize b7 (m+1) t env=R at *;generalize b7 m k0 env=r0 at *;have⟨i0,hi,aa,ab,ac⟩:=QY Tryz.info_lt;have HI:G (_/\_/\_/\_):=⟨hi,aa,ab,ac⟩;clear hi aa ab ac h av;go_in;go_wp2_with fail;refine H HC ?_;intro e w1 hp;obtain⟨qB,⟨c',e1,rfl⟩|⟨a,v,e1,hs,ha,rfl,qa⟩⟩:=hp.get ax 34 0 0 nO;·exact pO
 have hR:R=(match e9 34 (λx=>b7 m M ((N,x) :: env)) (cL a) [] with|.error c=>.error c|.ok l=>eu (fd 4 0 WT [] l)):=y9;have HR:=a8 hR;have HK:G (Kp (de Q [c]) w w1):=qB.mono λ_=>.inl;have h1:=ai.out w1 qB;have qf:=h1.lt;have xT:=h1.ownC;have⟨cb,co,cc,vb,vo,vc,g,s,hF,hG⟩:=h1.loop1 hn hl ah;have HF:=a8 hF;have ag:G (∀ wr,Kp (de Q [c]) w1 wr->∀ a v,cN (Sn C wr) wr 6 a v->dB 6 a=true->Kp (de Q [c]) wr (wr.setCell ⟨c,0,Y⟩ v)/\(∃ vb vo vc g s,a7 (wr.setCell ⟨c,0,Y⟩ v) sb 6=Z (A (b5 vb vo) 2 vc)/\a7 (wr.setCell ⟨c,0,Y⟩ v) vb (vo+1)=Z (eN g s) /\
   lH C Q (wr.setCell ⟨c,0,Y⟩ v) (b7 m M ((N,a) :: env)) g s)/\lR (b7 m M ((N,a) :: env))):=λwr hk a v qa ha=>(h1.keep hk).bind1 hn hl 1 M D ah qa ha
 have HG:=a8 hG;have qx:=(oW qa).row;have aI:=(iP ha hs).2.2.2;have HE:G (∀i,i<J (F.o a)->∃b off cap,v=A (b5 b off) (J (F.o a)) cap/\¬C b/\∃d,a7 w1 b (off+i)=Z d/\cN (Sn C w1) w1 6 ((cL a).getD i dU) d/\dB 6 ((cL a).getD i dU)=true):=λi hi=>by exact qbD
 have aK:=kE ha;have qc:G (∀ks,ks.Sublist (cL a)->dB 7 (fd 4 0 WT [] ks)=true/\J ks<=20):=λks hk=>qaV ha hs hk;have aJ:=nQ a;obtain⟨ao,cp,rfl,-⟩:=id qx;clear hp qa HC Ezq E2 e1 qx ai aB an hF hG h1 hR;generalize J (F.o a)=n at *;generalize cL a=X at *;go_wp2_with fail;go_loopw [3,14] (λv i wr=>∃k:Nat,k<=n/\i=I U k/\∃ks:List V6,lQ C (de Q [c]) w1 wr ks v/\J ks<=k/\e9 34 (λx=>b7 m M ((N,x) :: env)) X []=e9 34 (λx=>b7 m M ((N,x) :: env)) (X.drop k) ks/\ks.Sublist (X.take k)) (λ_ i _=>n-(intOf i).toNat);case atStart=>exact⟨0,E,D,[],lQ.start _ _ _,dS,D,zS⟩
 case round=>
  obtain⟨k,hk,rfl,ks,j2,aw,aq,p⟩:=hrel;have aL:=j2.k.size;have o:=a8 j2;have q:=a8 aq;have xN:=a8 aw;have⟨xs,q7,az⟩:=id j2.row;obtain⟨va,xG,rfl⟩:=ep q7;have HX:=a8 q7;have vi:=a8 az;clear j2 aq q7 az aw;by_cases aE:k<n
  .have⟨b,off,cap,hv,hb,d,hd,S,au⟩:=HE.out k aE;cases hv
   obtain⟨du,dx,rfl⟩:=S.iface;rw[rT X k E]at S au;have HD:G (cN (Sn C w1) w1 6 (X[k]'E) (.iface du dx)):=S;have aC:=(o.k.mono xT).cell hd hb;have⟨f5,fc,f6,fv,u,hu⟩:=HF.out wr (o.k.mono xT);have u0:=hu.cell;have u1:=hu.free;have⟨q1,⟨aN,aR,aP,g1,s1,al,ap,ar⟩,ay⟩:=ag.out wr o.k (X[k]'E) _ (S.run o.k xT) au;have ad:=a8 (j7 ar);have vP:=a8 q1;have P:G (X.drop k=X[k]'E :: X.drop (k+1)):=pC E;have ak:G (X.take (k+1)=X.take k++[X[k]'E]):=Qq E;clear hd S q1 hu ar;go_upto_region 6 with fail;generalize wr.setCell ⟨c,0,Y⟩ (.iface du dx)=V at *;clear f5 fc f6 fv u0 u1 aC;go_wp2_with fail;refine H ad ?_;intro e qq hp;obtain⟨qM,⟨c',er,rfl⟩|⟨y,vy,er,af,hy,rfl,ae⟩|⟨y,er,af,rfl⟩⟩:=hp.got ay;·refine⟨D,eP ((HK.trans o.k).trans (vP.trans (qM.mono λ_=>.inl))) ?_⟩;rw[HR.out,q.out,P.out,MY er]
   rotate_left;·refine⟨D,eP ((HK.trans o.k).trans (vP.trans (qM.mono λ_=>.inl))) ?_⟩;rw[HR.out,q.out,P.out,MX er af]
   have K:=(o.keep vP zI xT qf).keep qM (λ_=>.inl) xT qf;obtain rfl:=nG ae;have aF:w1.heap.size<=qq.heap.size:=K.k.size;have q6:G (e9 34 (λx=>b7 m M ((N,x) :: env)) X []=e9 34 (λx=>b7 m M ((N,x) :: env)) (X.drop (k+1)) (if F.n y=1 then ks++[X[k]'E] else ks)):=by show _=_;rw[q.out,P.out];exact IK er af
   have aj:=a8 p;have hz:(F.n y==1)=true∨(F.n y==1)=false:=by cases (F.n y==1)<;>simp
   rcases hz with hz|hz
   .have q5:G (qq.ownsRow w1.heap.size 71 1 (A va (J ks) xG) (J ks) xs/\∀ j (h:j<J ks),∃ c,xs[j]?=Z c/\cN (Sg C (A va (J ks) xG) qq) qq 6 ks[j] c):=by exact qcW
    have q9:=a8 K;have HY:G (cN (Sg C (A va (J ks) xG) qq) qq 6 (X[k]'E) (.iface du dx)):=HD.keep (Sn.same K.k xT) λb hb=>⟨Qn hb.1 aF,hb.2,λe=>by have:=o.far b e;have:=hb.1;omega⟩;rw[hz];rw[Qm (by simpa using hz)]at q6;clear hp ae K er qM ad P hz p al ap;have aG:J ks<=20:=J4;go_wp2_with (at_builtin;refine Xb _ D (.tmp 34) (.tmp 36) 125 D w1.heap.size 71 i0 .nilIface 1 16 underlying125 HI.1 HI.2.1 HI.2.2.1 HI.2.2.2 D zC (A va (J ks) xG) (J ks) xs D (q5.1.alloc _) ⟨qq.heap.size,0,Y⟩ 1 1 [.iface du dx] D D (QB (Qh qq _)) iz zC fA E gE (qq.heap.size+1) zS ?_;intro gg am w3 j0 z q8 aH;refine XE ?_);refine QJ ?_;have aA:G (lQ C (de Q [c]) w1 w3 (ks++[X[k]'E]) (A (b5 gg 0) (J ks+1) am)):=q9.add HY q5.1 q5.2 j0 z q8;clear j0 z q8 q5 HX vi q9 HY o q;go_wp2_with fail;go_roundw;case rel=>exact⟨k+1,E,ew,ks++[X[k]'E],aA,by have:=xN.out;simp;omega,q6,by rw[ak.out];exact aj.append zS⟩
    case measure=>exact eb
   .have q9:=a8 K;rw[hz];rw[Qd (by simpa using hz)]at q6;clear hp ae K er qM ad P hz p al ap HX vi o q;go_wp2_with fail;go_roundw;case rel=>exact⟨k+1,E,ew,ks,q9,J4,q6,by rw[ak.out];exact aj.trans (List.sublist_append_left _ _)⟩
    case measure=>exact eb
  .have aD:k=n:=E;have ql:e9 34 (λx=>b7 m M ((N,x) :: env)) X []=.ok ks:=by rw[q.out,Xw E];exact cU
   have HP:G (cQ C (de Q [c]) w R (Zr (.iface 125 (A va (J ks) xG))) wr):=by
    rw[Xf E]at p;have⟨s1,s2⟩:=qc.out ks p;have hr:R=.ok (fl 5 7 (fd 4 0 WT [] ks)):=by rw[HR.out,ql];show eu _=_;unfold eu;rw[Qm s1]
    refine iD (HK.trans o.k) hr (cN.fit (L:=5) (dr s1).1 zC (.inr (.inr (.inr (.inl ⟨D,_,D,o.done qf zL⟩)))))
   clear o q HX vi HE HF HG HR ql aD ag qc p;exact mh
def g9.bind2 {t:T (m+1)} {c0 c1:Nat} (h:g9 C Q w m t r env [c0,c1] sb) (K:c0≠c1) {e:ZB} (E:F.q t=[x0,e]) {l:List (T m)} (R:F.o t=l) (i:Nat) (k:T m) (P:l[i]?=Z k) (qa:i=nW (F.k t))
  {a b:V6} {u:Zv} (y:cN (Sn C w) w 6 a v) (D:dB 6 a=true) (B:cN (Sn C w) w 6 b u) (q:dB 6 b=true) :
  Kp (de Q [c0,c1]) w (w.setCell ⟨c0,0,Y⟩ v)/\(∃z,dI (w.setCell ⟨c0,0,Y⟩ v) c1 z)/\Kp (de Q [c0,c1]) w ((w.setCell ⟨c0,0,Y⟩ v).setCell ⟨c1,0,Y⟩ u) /\
   (∃j n L g s,a7 ((w.setCell ⟨c0,0,Y⟩ v).setCell ⟨c1,0,Y⟩ u) sb 6=Z (A (b5 j n) (J l) L)/\a7 ((w.setCell ⟨c0,0,Y⟩ v).setCell ⟨c1,0,Y⟩ u) j (n+i)=Z (eN g s) /\
    lH C Q ((w.setCell ⟨c0,0,Y⟩ v).setCell ⟨c1,0,Y⟩ u) (b7 m k ((e,b) :: (x0,a) :: env)) g s)/\lR (b7 m k ((e,b) :: (x0,a) :: env)):=by
 have⟨o,W⟩:=h.fill (c:=c0) zS v;have p:=h.keep o;have⟨N,X⟩:=p.fill (c:=c1) zS u;have f:=p.keep N;have d:=o.trans N;obtain⟨j,n,L,g,s,S,V,-,M⟩:=f.spot R i k P;rw[Qm qa,E]at M;have x:dI ((w.setCell ⟨c0,0,Y⟩ v).setCell ⟨c1,0,Y⟩ u) c0 v:=(Qr _ _ _ _ K).trans W;have O:fp C ((w.setCell ⟨c0,0,Y⟩ v).setCell ⟨c1,0,Y⟩ u) ((e,c1) :: (x0,c0) :: r) ((e,b) :: (x0,a) :: env):=
  (f.env.cons (h.cel c0 zS).1 x (y.run d h.ownC) D).cons (h.cel c1 zS).1 X (B.run d h.ownC) q
 exact⟨o,(p.cel c1 zS).2.2,d,⟨j,n,L,g,s,S,V,M C _ _ Cq f.own f.lt (.refl _ _) O⟩,h.okE (i:=i) (by rw[R];exact P) _ (fp.ok O)⟩
def g9.two{t:T (m+1)}(h:g9 C Q w m t r env cs sb)(qv:F.k t=35):∃b c c0 c1,F.q t=[b,c]/\cs=[c0,c1]/\c0≠c1:=by have⟨b,c,f⟩:=h.ok.2.two qv;have⟨e,a⟩:=h.many gt;rw[f]at e;have⟨c0,c1,d⟩:=n8 e;rw[d]at a;exact⟨b,c,c0,c1,f,d,by simp at a;exact a⟩
def MV{g:V6->V6->Except Int V6}{x y acc:V6}{r:List V6}(h:g acc x=.ok y):lD g (x :: r) acc=lD g r y:=by rw[lD,h]
def MU{g:V6->V6->Except Int V6}{x acc:V6}{c:Int}{r:List V6}(h:g acc x=.error c):lD g (x :: r) acc=.error c:=by rw[lD,h]
def LI {t:T (m+1)} (h:g9 C Q w m t r env cs sb) (qv:F.k t=35) :
  WU WV 135 #[Zp (b5 sb 0)] w (cQ C (de Q cs) w (b7 (m+1) t env)):=by
 have⟨k0,k1,M,hl⟩:=Oo (h.len (op:=35) qv zC);obtain⟨N,O,c0,c1,hn,rfl,ar⟩:=h.two qv;have Ezq:=a8 (gP (env:=env) (k0:=k0) fi gt gt);rw[qv]at Ezq;have⟨aQ,aU,aS,g0,s0,aF,af,aq,av⟩:=h.kid hl 0 k0 D gt;rw[QC]at af;have HC:=a8 (lA (aq.here h.lt));have H2:G (∀W,Kp Q w W->∃vb vo vc g s,a7 W sb 6=Z (A (b5 vb vo) 3 vc)/\a7 W vb (vo+1)=Z (eN g s)/\lH C Q W (b7 m k1 env) g s):=λW hW=>by exact J7
 have aw:=h.okE (i:=1) (k:=k1) fi env h.env.ok;have ad:G (∀W,Kp Q w W->g9 C Q W m t r env [c0,c1] sb):=λW hW=>h.keep (hW.mono λ_=>.inl);have az:G (2=nW (F.k t)):=by show _=_;rw[qv];exact mz
 have aB:=a8 ar;have E2:G (∀f,eo (b7 m) 35 (F.q t) (F.o t) env f=match b7 m k1 env with|.error c=>.error c|.ok a=>lD (λacc x=>b7 m M ((O,x) :: (N,acc) :: env)) (cL f) a):=λf=>by
  unfold eo kZ;rw[Qd zC,Qd zC,Qd zC,Qd zC,Qd zC,Qm zC,iR (k:=k1) fi,hn];have hx:(λacc x=>gi (b7 m) (F.o t) 2 ((([N,O]:List ZB).getD 1 WT,x) :: (([N,O]:List ZB).headD WT,acc) :: env))=λacc x=>b7 m M ((O,x) :: (N,acc) :: env):=by funext acc x;exact iR (k:=M) fi
  rw[hx];cases b7 m k1 env<;>rfl
 generalize eo (b7 m) 35 (F.q t) (F.o t) env=L at *;generalize b7 (m+1) t env=R at *;generalize b7 m k0 env=r0 at *;generalize b7 m k1 env=r1 at *;clear h aq ar;go_in;go_wp2_with fail;refine H HC ?_;intro e w0 hp;obtain⟨qB,⟨c',e1,rfl⟩|⟨a,v,e1,hs,ha,rfl,ap⟩⟩:=hp.get av 35 0 0 nO;·exact pO
 have q5:G (R=L a):=by show R=_;rw[Ezq.out,e1]
 have q9:=a8 (oW ap).row;obtain⟨ao,cp,rfl,-⟩:=id q9;have⟨qX,qY,qK,g1,s1,qZ,jb,aj⟩:=H2.out w0 qB;have ab:=a8 aj;clear hp ap HC H2 aj aF af Ezq e1;go_wp2_with fail;refine H ab ?_;intro e w1 hp;obtain⟨qa,⟨c',rfl,rfl⟩|⟨y,vy,rfl,hy,rfl,q8⟩⟩:=cQ.get hp aw;·exact⟨D,eP ((qB.trans qa).mono λ_=>.inl) (by rw[q5.out];exact E2 a)⟩
 have HR:G (R=lD (λacc x=>b7 m M ((O,x) :: (N,acc) :: env)) (cL a) y):=by show R=_;rw[q5.out];exact E2 a
 have q7:=qB.trans qa;have HK:G (Kp (de Q [c0,c1]) w w1):=q7.mono λ_=>.inl;have h1:=ad.out w1 q7;have o:=h1.ownC;have hq:=h1.own;have⟨ql,co,cc,c5,al,j2⟩:=h1.cells;have q:=j2 0 c0 D;have P:=j2 1 c1 D;rw[QC]at q;have aL:=h1.stp.nc;have HF:G (∀W,Kp C w1 W->(a7 W sb 5=Z (A (b5 ql co) 2 cc)/\a7 W ql co=Z (Zp (b5 c0 0))/\a7 W ql (co+1)=Z (Zp (b5 c1 0)))/\∃u,dI W c0 u):=λW hW=>⟨⟨hW.cell c5 aL,hW.cell q al,hW.cell P al⟩,hW.cells (h1.cel c0 zS).2.2⟩;have ae:G (∀W,Kp (de Q [c0,c1]) w1 W->g9 C Q W m t r env [c0,c1] sb):=λW hW=>h1.keep hW;have qx:=wA q9 qa hq;have aO:=(iP ha hs).2.2.2;have HE:G (∀i,i<J (F.o a)->∃b off cap,(Uc ao (J (F.o a)) cp)=A (b5 b off) (J (F.o a)) cap/\¬C b/\∃d,a7 w1 b (off+i)=Z d/\cN (Sn C w1) w1 6 ((cL a).getD i dU) d/\dB 6 ((cL a).getD i dU)=true):=λi hi=>by exact qbD
 have aP:=nQ a;obtain⟨yu,yx,rfl⟩:=q8.iface;have aD:=a8 q8;clear hp q8 ab ad q5 E2 qx q9 h1 qZ jb c5 q P j2;generalize J (F.o a)=n at *;generalize cL a=X at *;go_wp2_with fail;go_loopw [4,23] (λv i wr=>∃k:Nat,k<=n/\i=I U k/\∃acc:V6,Kp (de Q [c0,c1]) w1 wr/\cN (Sn C wr) wr 6 acc v/\dB 6 acc=true/\lD (λacc x=>b7 m M ((O,x) :: (N,acc) :: env)) X y=lD (λacc x=>b7 m M ((O,x) :: (N,acc) :: env)) (X.drop k) acc) (λ_ i _=>n-(intOf i).toNat);case atStart=>exact⟨0,E,D,y,.refl _ _,aD,hy,D⟩
 case round=>
  obtain⟨k,hk,rfl,acc,qc,j,aI,ai⟩:=hrel;have p:=a8 ai;obtain⟨au,ax,rfl⟩:=j.iface;have aa:=a8 j;clear ai;by_cases aK:k<n
  .have⟨b,off,cap,hv,hb,d,hd,K,am⟩:=HE.out k aK;cases hv
   obtain⟨du,dx,rfl⟩:=K.iface;rw[rT X k E]at K am;have aN:=(qc.mono o).cell hd hb;have an:Kp (de Q [c0,c1]) wr wr.drew:=(Kp.refl _ _).drew;have l:=qc.trans an;have⟨f5,u,hu⟩:=HF.out _ (l.mono o);have u0:=hu.cell;have u1:=hu.free;have⟨q1,⟨z,hz⟩,q2,⟨aR,aV,aT,g2,s2,aG,aH,ak⟩,ay⟩:=(ae _ l).bind2 aB hn hl 2 M D az (j.run an o) aI (K.run l o) am;have z0:=hz.cell;have z1:=hz.free;have ag:=(HF _ ((l.trans q1).mono o)).1;have ah:=(HF _ ((l.trans q2).mono o)).1;have ac:=a8 ak;have j0:G (Kp (de Q [c0,c1]) w1 ((wr.drew.setCell ⟨c0,0,Y⟩ (.iface au ax)).setCell ⟨c1,0,Y⟩ (.iface du dx))):=l.trans q2;have q6:G (X.drop k=X[k]'E :: X.drop (k+1)):=pC E;clear hd K q1 q2 hu hz ak j;go_upto_region 6 with fail;refine Qz (S:=λW=>a7 W sb 5=Z (A (b5 ql co) 2 cc)/\a7 W ql co=Z (Zp (b5 c0 0))/\a7 W ql (co+1)=Z (Zp (b5 c1 0))) zK f5 (λhHeld=>?_);generalize wr.drew=V at *;refine t4 0 1 2 3 ?_;refine t4 4 5 6 7 ?_;refine t4 8 9 10 11 ?_;refine t4 12 13 14 15 ?_;refine qk 16 ?_ λhHeld=>?_;exact ag;clear u0 u1 f5 ag;generalize V.setCell ⟨c0,0,Y⟩ (.iface au ax)=V1 at *;refine t2 17 18 ?_;refine qk 19 ?_ λhHeld=>?_;exact ah;clear z0 z1 ah;generalize V1.setCell ⟨c1,0,Y⟩ (.iface du dx)=V2 at *;refine Xi zK ?_ _;go_simp;go_wp2_with fail;refine H ac ?_;intro e w2 hp;obtain⟨qq,⟨c',er,rfl⟩|⟨y2,aW,er,aM,rfl,B⟩⟩:=cQ.get hp ay;·refine⟨D,eP (HK.trans (j0.trans (qq.mono λ_=>.inl))) ?_⟩;rw[HR.out,p.out,q6.out];exact MU er
   have aC:G (lD (λacc x=>b7 m M ((O,x) :: (N,acc) :: env)) X y=lD (λacc x=>b7 m M ((O,x) :: (N,acc) :: env)) (X.drop (k+1)) y2):=by show _=_;rw[p.out,q6.out];exact MV er
   have aA:G (Kp (de Q [c0,c1]) w1 w2):=j0.trans (qq.mono λ_=>.inl);obtain⟨aX,aY,rfl⟩:=B.iface;have aE:=a8 B;clear hp B er qq ac q6 aG aH p j0 aa;go_wp2_with fail;go_roundw;case rel=>exact⟨k+1,E,ew,y2,aA,aE,aM,aC⟩
   case measure=>exact eb
  .have aJ:k=n:=E;have HP:G (cQ C (de Q [c0,c1]) w R (Zr (.iface au ax)) wr):=by refine iD (a:=acc) (HK.trans qc) ?_ j;rw[HR.out,p.out,Xw E];exact cU
   clear p HE HF HR aJ ae j aa;exact mh
