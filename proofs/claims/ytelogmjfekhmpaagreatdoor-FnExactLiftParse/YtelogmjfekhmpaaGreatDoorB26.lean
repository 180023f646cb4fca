import Derived.Test.YtelogmjfekhmpaaGreatDoorSL5
import Derived.Test.YtelogmjfekhmpaaGreatDoorB16
namespace Go.Proofs.YtelogmjfekhmpaaGreatDoor
open Go.RowKit Go.Proofs.Tryz
set_option maxRecDepth 100000
set_option maxHeartbeats 16000000
theorem qtD (S:Nat->Prop) (m:Nat) (n:Nd (T m)) (na ka:Option Addr) (nc kc:Nat) (act:Bool) (w:World) (h3:StrsIn S w n.names (.slice na n.names.length nc)) (hl4:n.kids.length<=maxLen) (hB:∀ b,S b->b<w.heap.size) (hx:n.text.size<=1048576) :
  Calls prog 76 #[.agg #[.int .i64 n.sort,.int .i64 n.num,.string n.text,.slice na n.names.length nc,.slice ka n.kids.length kc],.bool act] w fun e w'=>e=.returned (.bool (qcY n act))/\Below w.heap.size w w':=by
 by_cases h:(1<=n.sort/\n.sort<=43)/\act=decide (36<=n.sort)
 case neg=>exact qvB m n na ka nc kc act w h
 obtain⟨d,a⟩:=h
 by_cases h24:n.sort=24
 ·obtain⟨s,num,text,names,kids⟩:=n
  simp only at h24 a
  subst h24
  obtain rfl:act=false:=by rw[a];rfl
  have:=qqM S m num text names kids na ka nc kc w h3 hB
  have e:qcY (⟨24,num,text,names,kids⟩:Nd (T m)) false=((num==0) && text.toList.isEmpty && riseB names && (names.length==kids.length) && !(names.any (fun y=>y==bs [101,110,100]))):=by
   unfold qcY
   simp
  rw[e]
  exact this
 ·obtain⟨k,c⟩:∃k:Nat,n.sort=(k:Int):=⟨n.sort.toNat,by omega⟩
  have:=qvD S m n na ka nc kc k act (by rw[a,c]) w c (by omega) (by omega) (by omega) h3 hl4 hB hx
  have e:qcY n act=((n.kids.length==(kdV k).length) && preC n (preL k)):=by
   unfold qcY
   rw[decide_eq_true d,a,if_neg h24,show n.sort.toNat=k by omega]
   simp
  rw[e,c]
  exact this
theorem qjK:yielded.match_1 (fun _=>Option Bool) (some undef) (fun b=>some b) (fun _=>none)=none:=rfl
def qbW(m:Nat)(t:T m)(act:Bool)(d:Int):Int:=if goodS m t act d=true/\cntT m t<=200 then (cntT m t:Int) else -1
theorem xeF(m:Nat)(t:T m)(act:Bool)(d:Int): -1<=qbW m t act d/\qbW m t act d<=200:=by
 unfold qbW;split<;>omega
theorem qzG(m:Nat)(t:T m)(act:Bool)(d:Int)(h:0<=qbW m t act d):qbW m t act d=cntT m t/\goodS m t act d=true:=by
 unfold qbW at h ⊢
 by_cases hc:goodS m t act d=true/\cntT m t<=200
 ·rw[if_pos hc];exact⟨rfl,hc.1⟩
 ·rw[if_neg hc]at h;omega
theorem xeG{m:Nat}{t:T (m+1)}{act:Bool}{d:Int}(h:goodS (m+1) t act d=true)(i:Nat)(hi:i<(Nd.kids t).length):goodS m (Nd.kids t)[i] (actAt (Nd.sort t).toNat i) (d+1)=true:=by
 simp only[goodS,Bool.and_eq_true,List.all_eq_true]at h
 exact h.2 ((Nd.kids t)[i],i) (by rw[List.mem_zipIdx_iff_getElem?];simp[hi])
theorem qzH(m:Nat)(t:T (m+1))(act:Bool)(d:Int)(i:Nat)(hi:i<(Nd.kids t).length)(h:qbW m (Nd.kids t)[i] (actAt (Nd.sort t).toNat i) (d+1)<0):qbW (m+1) t act d = -1:=by
 unfold qbW;rw[if_neg]
 rintro ⟨b,c⟩
 have a:=xeG b i hi
 have e:=qcA (fun k=>cntT m k) (Nd.kids t) _ (List.getElem_mem hi)
 simp only[cntT]at c
 unfold qbW at h
 rw[if_pos ⟨a,by omega⟩]at h
 omega
theorem qmR(m:Nat)(t:T (m+1))(act:Bool)(d:Int)(k:Nat)(h:200<1+sumL (fun k=>cntT m k) ((Nd.kids t).take k)):qbW (m+1) t act d = -1:=by
 unfold qbW;rw[if_neg]
 rintro ⟨-,a⟩
 have:=qcP (fun k=>cntT m k) ((Nd.kids t).take k) ((Nd.kids t).drop k)
 rw[List.take_append_drop]at this
 simp only[cntT]at a
 omega
theorem qzI (m:Nat) (t:T (m+1)) (act:Bool) (d:Int) (h:(decide (d<=24) && qcY (show Nd (T m) from t) act)=true) (hall:∀ i (hi:i<(Nd.kids t).length),goodS m (Nd.kids t)[i] (actAt (Nd.sort t).toNat i) (d+1)=true) (hs:1+sumL (fun k=>cntT m k) (Nd.kids t)<=200) :
  qbW (m+1) t act d=1+(sumL (fun k=>cntT m k) (Nd.kids t):Int):=by
 unfold qbW;rw[if_pos]
 ·simp only[cntT];omega
 ·refine⟨?_,by simp only[cntT];omega⟩
  simp only[goodS,h,Bool.true_and,List.all_eq_true]
  intro x b
  have a:=List.mem_zipIdx b
  have hi:x.2<(Nd.kids t).length:=by omega
  have:=hall x.2 hi
  have e:x.1=(Nd.kids t)[x.2]:=by simpa using a.2.2
  rw[e];exact this
theorem qtE(m:Nat)(t:T (m+1))(act:Bool)(d:Int)(h:(decide (d<=24) && qcY (show Nd (T m) from t) act)=false):qbW (m+1) t act d = -1:=by
 unfold qbW;rw[if_neg];rintro ⟨a,-⟩;simp only[goodS,h,Bool.false_and]at a;cases a
def qmS(m:Nat):Prop:=∀(S:Nat->Prop)(t:T m)(c0 c1 c2 c3 c4:Value)(act:Bool)(d:Int)(w:World),NodeIn S w m t c0 c1 c2 c3 c4->(∀b,S b->b<w.heap.size)->szT m t<=1048576->1<=d->d<=25 ->
 Calls prog 60 #[.agg #[c0,c1,c2,c3,c4],.bool act,.int .i64 d] w fun e w'=>e=.returned (.int .i64 (qbW m t act d))/\Below w.heap.size w w'
theorem qzJ{α:Type}(n:Nd α)(act:Bool)(h:qcY n act=true)(h24:n.sort≠24):n.kids.length=(kdV n.sort.toNat).length:=by
 unfold qcY at h
 rw[if_neg h24]at h
 simp only[Bool.and_eq_true,beq_iff_eq]at h
 exact h.2.1
theorem kdT_at(k i:Nat)(h24:k≠24)(hi:i<(bs (kdT k)).size):(((bs (kdT k))[i]'hi).toNat:Int)=97↔actAt k i=true:=by
 have a:i<(kdS k).length:=by rw[qaL]at hi;unfold kdT at hi;rw[if_neg h24]at hi;exact hi
 have e:(bs (kdT k))[i]'hi=(kdS k)[i]:=by
  rw[qkQ]
  unfold kdT
  simp only[if_neg h24]
 rw[e]
 unfold actAt
 rw[decide_eq_true h24,Bool.true_and]
 simp only[List.getD_eq_getElem?_getD,List.getElem?_eq_getElem a,Option.getD_some,beq_iff_eq]
 constructor
 ·intro h;exact UInt8.toNat_inj.1 (by rw[(by omega:((kdS k)[i]).toNat=97)];rfl)
 ·intro h;rw[h];rfl
theorem qqO(m:Nat)(hn:qmS m):qmS (m+1):=by
 intro S t c0 c1 c2 c3 c4 g d w ht N E bB bC
 obtain⟨rfl,rfl,rfl,hs,bD,bE,h3,h4,⟨na,nl,nc,rfl,bF⟩,⟨ka,kl,W,rfl,bG⟩⟩:=ht
 obtain⟨_,_,hv,-⟩:=id h3
 cases hv
 obtain⟨_,_,hv,O,o⟩:=id h4
 cases hv
 have aH:(Nd.text t).size<=1048576:=by simp only[szT]at E;omega
 have aI:Hid (∀k (h:k<(Nd.kids t).length),szT m (Nd.kids t)[k]<=1048576):=fun k h=>by
  have:=qcA (fun k=>szT m k+1) (Nd.kids t) _ (List.getElem_mem h)
  simp only[szT]at E;omega
 clear E
 have A:=(Below.refl w.heap.size w).alloc (Nat.le_refl _) (.cells #[.int .i64 (Nd.sort t),.int .i64 (Nd.num t),.string (Nd.text t),.slice na (Nd.names t).length nc,.slice ka (Nd.kids t).length W] 25)
 by_cases hd6:d<=24
 case neg=>
  have X:Hid (qbW (m+1) t g d = -1):=qtE m t g d (by simp[hd6])
  go_enter func60,ntmps60
  go_wp2_with fail
  go_ret
  exact⟨qaN X.out.symm,A⟩
 have Y:=h3.keep (qaB A N) (fun _ h=>h)
 have HC:Hid (Calls prog 76 _ _ _):=qtD S m (show Nd (T m) from t) na ka nc W g _ Y O (fun b H=>by have:=N b H;simp;omega) aH
 have hK:=h4.keepN (qaB A N) (fun _ h=>h)
 have HD:Hid (d<=24):=hd6
 unfold maxLen at O
 go_enter func60,ntmps60
 go_wp2_with fail
 refine HC.out.mono ?_
 rintro e w1 ⟨rfl,F⟩
 have aJ:=F.size
 simp at aJ
 have I:=qaA A (by simp) F
 obtain⟨m0,m1,m2,m3,m4⟩:=qdM ((F.block w.heap.size (by simp)).trans (heap_alloc_last w _))
 have aK:=hK.keepN (qaB F (fun b H=>by have:=N b H;simp;omega)) (fun _ h=>h)
 clear A Y HC hK F h3 h4 o
 cases hal:qcY (show Nd (T m) from t) g with
 | false=>
  have X:Hid (qbW (m+1) t g d = -1):=qtE m t g d (by rw[hal];simp)
  clear hal
  go_wp2_with fail
  go_ret
  exact⟨qaN X.out.symm,I⟩
 | true=>
  have aL:Hid ((decide (d<=24) && qcY (show Nd (T m) from t) g)=true):=by show _=_;rw[hal];simp[hd6]
  have hr:1<=Nd.sort t/\Nd.sort t<=43:=by
   have h:=hal
   unfold qcY at h
   simp only[Bool.and_eq_true,decide_eq_true_eq]at h
   exact h.1.1
  obtain⟨k,hk⟩:∃k:Nat,Nd.sort t=(k:Int):=⟨(Nd.sort t).toNat,by omega⟩
  have Z:k<44:=by omega
  have P:(Nd.sort t).toNat=k:=by omega
  have aM:Hid (k≠24->(Nd.kids t).length=(bs (kdT k)).size):=fun h24=>by
   have:=qzJ (show Nd (T m) from t) g hal (by show Nd.sort t≠24;omega)
   rw[qvC k h24,<- P];exact this
  have aN:Hid (∀w,Calls prog 30 #[.int .i64 (k:Int)] w _):=fun w=>qiC k Z w
  obtain⟨_,_,aS,-,o⟩:=aK
  cases aS
  have aO:Hid (∀i (y:i<(bs (kdT k)).size),k≠24->((((bs (kdT k))[i]'y).toNat:Int)==97)=actAt k i):=fun i y h24=>by
   have:=kdT_at k i h24 y
   rw[Bool.eq_iff_iff,beq_iff_eq];exact this
  have aA:Hid (k=24->∀i,actAt k i=false):=fun h i=>by subst h;simp[actAt]
  have aV:=hidF hk
  have aB:=hidF P
  rw[hk]at m0
  rw[hk]
  clear hal hr hk P
  generalize bs (kdT k)=q at *
  go_wp2_with fail
  refine (aN.out _).mono ?_
  rintro e z ⟨rfl,rfl⟩
  go_wp2_with fail
  go_loopw [8,9] (fun a i wr=>∃ j:Nat,j<=(Nd.kids t).length/\i=.int .i64 j/\a=.int .i64 (1+(sumL (fun k=>cntT m k) ((Nd.kids t).take j):Int))/\1+sumL (fun k=>cntT m k) ((Nd.kids t).take j)<=200 /\
    Hid (∀i (y:i<(Nd.kids t).length),i<j->goodS m (Nd.kids t)[i] (actAt k i) (d+1)=true)/\Below z.heap.size z wr) (fun _ i _=>(Nd.kids t).length-(intOf i).toNat)
  case atStart=>exact⟨0,Nat.zero_le _,rfl,by simp[sumL],by simp[sumL],fun i _ h=>absurd h (Nat.not_lt_zero _),Below.refl _ _⟩
  case round=>
   obtain⟨j,hj,rfl,rfl,aU,x,f⟩:=hrel
   have aC:=f.size
   have q0:wr.cell? ⟨w.heap.size,0,none⟩=some (.int .i64 (k:Int)):=(f.cell (p:=⟨w.heap.size,0,none⟩) (by show w.heap.size<_;omega)).trans m0
   have q4:wr.cell? ⟨w.heap.size,4,none⟩=some (.slice ka (Nd.kids t).length W):=(f.cell (p:=⟨w.heap.size,4,none⟩) (by show w.heap.size<_;omega)).trans m4
   generalize hgs:sumL (fun k=>cntT m k) ((Nd.kids t).take j)=sm at *
   have aD:=hidF hgs
   clear hgs
   by_cases hlt:j<(Nd.kids t).length
   ·obtain⟨b,c,rfl,aT,G⟩:=o (by intro h;rw[h]at hlt;simp at hlt)
    obtain⟨x0,x1,x2,x3,x4,e0,e1,e2,e3,e4,U⟩:=G j hlt
    obtain⟨y0,y1,y2,ya,yl,yc,za,zl,zc,rfl,rfl,rfl,rfl,rfl⟩:=U.shape
    have aW:=N b aT
    have f0:=(f.cell (p:=⟨b,c+j*5,none⟩) (by show b<_;omega)).trans e0
    have f1:=(f.cell (p:=⟨b,c+j*5+1,none⟩) (by show b<_;omega)).trans e1
    have f2:=(f.cell (p:=⟨b,c+j*5+2,none⟩) (by show b<_;omega)).trans e2
    have f3:=(f.cell (p:=⟨b,c+j*5+3,none⟩) (by show b<_;omega)).trans e3
    have f4:=(f.cell (p:=⟨b,c+j*5+4,none⟩) (by show b<_;omega)).trans e4
    have qq:=U.keep (qaB f (fun b H=>by have:=N b H;omega)) (fun _ h=>h)
    have B:Hid (∀W',Below wr.heap.size wr W'->Calls prog 60 #[.agg #[.int .i64 y0,.int .i64 y1,.string y2,.slice ya yl yc,.slice za zl zc],.bool (actAt k j),.int .i64 (d+1)] W' fun e w'=>e=.returned (.int .i64 (qbW m (Nd.kids t)[j] (actAt k j) (d+1)))/\Below wr.heap.size wr w' /\ (w'.cell? ⟨w.heap.size,0,none⟩=some (.int .i64 (k:Int))/\w'.cell? ⟨w.heap.size,4,none⟩=some (.slice (some ⟨b,c,none⟩) (Nd.kids t).length W)/\w'.cell? ⟨b,c+j*5,none⟩=some (.int .i64 y0)/\w'.cell? ⟨b,c+j*5+1,none⟩=some (.int .i64 y1)/\w'.cell? ⟨b,c+j*5+2,none⟩=some (.string y2)/\w'.cell? ⟨b,c+j*5+3,none⟩=some (.slice ya yl yc)/\w'.cell? ⟨b,c+j*5+4,none⟩=some (.slice za zl zc))):=by
     intro W' K
     refine (hn S (Nd.kids t)[j] _ _ _ _ _ (actAt k j) (d+1) W' (qq.keep (qaB K (fun b H=>by have:=N b H;omega)) (fun _ h=>h)) (fun b H=>by have:=N b H;have:=K.size;omega) (aI.out j hlt) (by omega) (by have:=HD.out;omega)).mono ?_
     rintro e w' ⟨rfl,H⟩
     have n:Below wr.heap.size wr w':=K.trans (H.mono K.size)
     exact⟨rfl,n,(n.cell (p:=⟨w.heap.size,0,none⟩) (by show w.heap.size<_;omega)).trans q0,(n.cell (p:=⟨w.heap.size,4,none⟩) (by show w.heap.size<_;omega)).trans q4,(n.cell (p:=⟨b,c+j*5,none⟩) (by show b<_;omega)).trans f0,(n.cell (p:=⟨b,c+j*5+1,none⟩) (by show b<_;omega)).trans f1,(n.cell (p:=⟨b,c+j*5+2,none⟩) (by show b<_;omega)).trans f2,(n.cell (p:=⟨b,c+j*5+3,none⟩) (by show b<_;omega)).trans f3,(n.cell (p:=⟨b,c+j*5+4,none⟩) (by show b<_;omega)).trans f4⟩
    have hD:Below wr.heap.size wr wr.drew:=(Below.refl _ _).drew
    have aX:IntKind.i64.wrap (d+1)=d+1:=by rw[IntKind.wrap_i64];omega
    have HQ:Hid (k≠24->∃y:j<q.size,(((q[j]'y).toNat:Int)==97)=actAt k j):=fun h24=>by
     have y:j<q.size:=by rw[<- aM.out h24];exact hlt
     exact⟨y,aO.out j y h24⟩
    have aY:(j:Int)<((Nd.kids t).length:Int):=by omega
    have L:Hid (qbW m (Nd.kids t)[j] (actAt k j) (d+1)<0->qbW (m+1) t g d = -1):=fun h=>qzH m t g d j hlt (by rw[aB.out];exact h)
    have v:Hid (0<=qbW m (Nd.kids t)[j] (actAt k j) (d+1)->qbW m (Nd.kids t)[j] (actAt k j) (d+1)=cntT m (Nd.kids t)[j]/\goodS m (Nd.kids t)[j] (actAt k j) (d+1)=true):=fun h=>qzG m _ _ _ h
    have l:Hid (sumL (fun k=>cntT m k) ((Nd.kids t).take (j+1))=sm+cntT m (Nd.kids t)[j]):=by show _=_;rw[qbB _ _ _ hlt,aD.out]
    have C:Hid (goodS m (Nd.kids t)[j] (actAt k j) (d+1)=true->∀i (y:i<(Nd.kids t).length),i<j+1->goodS m (Nd.kids t)[i] (actAt k i) (d+1)=true):=fun R i y hij=>by
     rcases Nat.lt_or_ge i j with h|h
     ·exact x.out i y h
     ·have:i=j:=by omega
      subst this;exact R
    have aZ:=xeF m (Nd.kids t)[j] (actAt k j) (d+1)
    have M:=hidF f
    have J:=hidF I
    clear o G e0 e1 e2 e3 e4 U qq f x
    generalize qbW m (Nd.kids t)[j] (actAt k j) (d+1)=r at *
    by_cases h24:k=24
    ·have aE:=aA.out h24 j
     rw[aE]at B
     have aP:((k:Int) != 24)=false:=by simp;omega
     have aF:((k:Int)==24)=true:=by simp;omega
     clear HQ h24
     go_wp2_with fail
     have aQ:=qjK
     first|(go_region_held (fun w'=>w'.cell? ⟨w.heap.size,0,none⟩=some (.int .i64 (k:Int))/\w'.cell? ⟨w.heap.size,4,none⟩=some (.slice (some ⟨b,c,none⟩) (Nd.kids t).length W)/\w'.cell? ⟨b,c+j*5,none⟩=some (.int .i64 y0)/\w'.cell? ⟨b,c+j*5+1,none⟩=some (.int .i64 y1)/\w'.cell? ⟨b,c+j*5+2,none⟩=some (.string y2)/\w'.cell? ⟨b,c+j*5+3,none⟩=some (.slice ya yl yc)/\w'.cell? ⟨b,c+j*5+4,none⟩=some (.slice za zl zc)) (first|with_reducible assumption|go_keep) (first|(go_at_call 60;refine (B.out _ hD).mono ?_;rintro e w2 ⟨rfl,u,V⟩)))|fail
     all_goals
      have aR:=u.size
      have s:Below z.heap.size z w2:=M.out.trans (u.mono aC)
      have Q:=hidF s
      have D:=hidF (J.out.trans (s.mono J.out.size))
      clear u s V f0 f1 f2 f3 f4 q0 q4 hD B
      by_cases hr0:r<0
      ·go_wp2_with fail
       go_ret
       exact⟨qaN (L.out hr0).symm,D.out⟩
      ·by_cases hmany:200<1+(sm:Int)+r
       ·go_wp2_with fail
        go_ret
        refine⟨qaN (qmR m t g d (j+1) ?_).symm,D.out⟩
        have:=v.out (by omega)
        rw[l.out];omega
       ·go_wp2_with fail
        go_roundw
        case rel=>
         have R:=v.out (by omega)
         refine⟨j+1,by omega,by go_num,?_,?_,C.out R.2,Q.out⟩
         ·rw[l.out,R.1];go_num
         ·rw[l.out];omega
        case measure=>simp[intOf];omega
    ·obtain⟨y,bH⟩:=HQ.out h24
     have aP:((k:Int) != 24)=true:=by simp;omega
     have aF:((k:Int)==24)=false:=by simp;omega
     have bA:(j:Int)<(q.size:Int):=by omega
     generalize actAt k j=av at *
     clear HQ
     go_wp2_with fail
     have aQ:=qjK
     first|(go_region_held (fun w'=>w'.cell? ⟨w.heap.size,0,none⟩=some (.int .i64 (k:Int))/\w'.cell? ⟨w.heap.size,4,none⟩=some (.slice (some ⟨b,c,none⟩) (Nd.kids t).length W)/\w'.cell? ⟨b,c+j*5,none⟩=some (.int .i64 y0)/\w'.cell? ⟨b,c+j*5+1,none⟩=some (.int .i64 y1)/\w'.cell? ⟨b,c+j*5+2,none⟩=some (.string y2)/\w'.cell? ⟨b,c+j*5+3,none⟩=some (.slice ya yl yc)/\w'.cell? ⟨b,c+j*5+4,none⟩=some (.slice za zl zc)) (first|with_reducible assumption|go_keep) (first|(go_at_call 60;refine (B.out _ hD).mono ?_;rintro e w2 ⟨rfl,u,V⟩)))|fail
     all_goals
      have aR:=u.size
      have s:Below z.heap.size z w2:=M.out.trans (u.mono aC)
      have Q:=hidF s
      have D:=hidF (J.out.trans (s.mono J.out.size))
      clear u s V f0 f1 f2 f3 f4 q0 q4 hD B
      by_cases hr0:r<0
      ·go_wp2_with fail
       go_ret
       exact⟨qaN (L.out hr0).symm,D.out⟩
      ·by_cases hmany:200<1+(sm:Int)+r
       ·go_wp2_with fail
        go_ret
        refine⟨qaN (qmR m t g d (j+1) ?_).symm,D.out⟩
        have:=v.out (by omega)
        rw[l.out];omega
       ·go_wp2_with fail
        go_roundw
        case rel=>
         have R:=v.out (by omega)
         refine⟨j+1,by omega,by go_num,?_,?_,C.out R.2,Q.out⟩
         ·rw[l.out,R.1];go_num
         ·rw[l.out];omega
        case measure=>simp[intOf];omega
   ·have aG:j=(Nd.kids t).length:=by omega
    have X:Hid (qbW (m+1) t g d=1+(sm:Int)):=by
     show _=_
     have h2:=aD.out
     rw[aG,List.take_length]at h2
     rw[qzI m t g d aL.out (fun i y=>by rw[aB.out];exact x.out i y (by omega)) (by rw[h2];omega),h2]
    have s:=I.trans (f.mono I.size)
    clear aG o x
    go_wp2_with fail
    go_ret
    exact⟨qaN X.out.symm,s⟩
theorem qtF:∀m,qmS m:=by
 intro m
 induction m with
 | zero=>intro S t c0 c1 c2 c3 c4 a d w b;exact b.elim
 | succ m ih=>exact qqO m ih
end Go.Proofs.YtelogmjfekhmpaaGreatDoor
