import Derived.Test.YtelogmjfekhmpaaGreatDoorSL6
import Derived.Test.YtelogmjfekhmpaaGreatDoorSL7
namespace Go.Proofs.YtelogmjfekhmpaaGreatDoor
set_option maxRecDepth 100000
set_option maxHeartbeats 16000000
open Go.RowKit
theorem qjP:yielded.match_1 (fun _=>Option Bool) (some undef) (fun b=>some b) (fun _=>none)=none:=rfl
def qbX (m:Nat) (t:T m) (act:Bool) (d:Int):Int:=if goodS m t act d=true/\cntT m t<=200 then (cntT m t:Int) else -1
theorem xeE (m:Nat) (t:T m) (act:Bool) (d:Int) : -1<=qbX m t act d/\qbX m t act d<=200:=by
 unfold qbX;split <;> omega
theorem qzG (m:Nat) (t:T m) (act:Bool) (d:Int) (h:0<=qbX m t act d):qbX m t act d=cntT m t/\goodS m t act d=true:=by
 unfold qbX at h ⊢
 by_cases hc:goodS m t act d=true/\cntT m t<=200
 ·rw[if_pos hc];exact⟨rfl,hc.1⟩
 ·rw[if_neg hc]at h;omega
theorem xeF {m:Nat} {t:T (m+1)} {act:Bool} {d:Int} (h:goodS (m+1) t act d=true) (i:Nat) (hi:i<(Nd.kids t).length):goodS m (Nd.kids t)[i] (actAt (Nd.sort t).toNat i) (d+1)=true:=by
 simp only[goodS,Bool.and_eq_true,List.all_eq_true]at h
 exact h.2 ((Nd.kids t)[i],i) (by rw[List.mem_zipIdx_iff_getElem?];simp[hi])
theorem qzH (m:Nat) (t:T (m+1)) (act:Bool) (d:Int) (i:Nat) (hi:i<(Nd.kids t).length) (h:qbX m (Nd.kids t)[i] (actAt (Nd.sort t).toNat i) (d+1)<0):qbX (m+1) t act d = -1:=by
 unfold qbX;rw[if_neg]
 rintro ⟨h1,h2⟩
 have hg:=xeF h1 i hi
 have hc:=qcB (fun k=>cntT m k) (Nd.kids t) _ (List.getElem_mem hi)
 simp only[cntT]at h2
 unfold qbX at h
 rw[if_pos ⟨hg,by omega⟩]at h
 omega
theorem qmS (m:Nat) (t:T (m+1)) (act:Bool) (d:Int) (k:Nat) (h:200<1+sumL (fun k=>cntT m k) ((Nd.kids t).take k)):qbX (m+1) t act d = -1:=by
 unfold qbX;rw[if_neg]
 rintro ⟨-,h2⟩
 have:=qcQ (fun k=>cntT m k) ((Nd.kids t).take k) ((Nd.kids t).drop k)
 rw[List.take_append_drop]at this
 simp only[cntT]at h2
 omega
theorem qzI (m:Nat) (t:T (m+1)) (act:Bool) (d:Int) (h:(decide (d<=24) && qdB (show Nd (T m) from t) act)=true) (hall:∀ i (hi:i<(Nd.kids t).length),goodS m (Nd.kids t)[i] (actAt (Nd.sort t).toNat i) (d+1)=true) (hs:1+sumL (fun k=>cntT m k) (Nd.kids t)<=200) :
  qbX (m+1) t act d=1+(sumL (fun k=>cntT m k) (Nd.kids t):Int):=by
 unfold qbX;rw[if_pos]
 ·simp only[cntT];omega
 ·refine⟨?_,by simp only[cntT];omega⟩
  simp only[goodS,h,Bool.true_and,List.all_eq_true]
  intro x hx
  have hm:=List.mem_zipIdx hx
  have hi:x.2<(Nd.kids t).length:=by omega
  have:=hall x.2 hi
  have e:x.1=(Nd.kids t)[x.2]:=by simpa using hm.2.2
  rw[e];exact this
theorem qtE (m:Nat) (t:T (m+1)) (act:Bool) (d:Int) (h:(decide (d<=24) && qdB (show Nd (T m) from t) act)=false):qbX (m+1) t act d = -1:=by
 unfold qbX;rw[if_neg];rintro ⟨h1,-⟩;simp only[goodS,h,Bool.false_and]at h1;cases h1
def qmT (m:Nat):Prop:=∀ (S:Nat->Prop) (t:T m) (c0 c1 c2 c3 c4:Value) (act:Bool) (d:Int) (w:World),NodeIn S w m t c0 c1 c2 c3 c4->(∀ b,S b->b<w.heap.size)->szT m t<=1048576->1<=d->d<=25 ->
 Calls Tryz.prog 60 #[.agg #[c0,c1,c2,c3,c4],.bool act,.int .i64 d] w fun e w'=>e=.returned (.int .i64 (qbX m t act d))/\Below w.heap.size w w'
theorem qzJ {α:Type} (n:Nd α) (act:Bool) (h:qdB n act=true) (h24:n.sort≠24):n.kids.length=(kdV n.sort.toNat).length:=by
 unfold qdB at h
 rw[if_neg h24]at h
 simp only[Bool.and_eq_true,beq_iff_eq]at h
 exact h.2.1
theorem kdT_at (k i:Nat) (h24:k≠24) (hi:i<(bs (kdT k)).size):(((bs (kdT k))[i]'hi).toNat:Int)=97↔actAt k i=true:=by
 have aA:i<(kdS k).length:=by rw[qaJ]at hi;unfold kdT at hi;rw[if_neg h24]at hi;exact hi
 have e:(bs (kdT k))[i]'hi=(kdS k)[i]:=by
  rw[qhT]
  unfold kdT
  simp only[if_neg h24]
 rw[e]
 unfold actAt actAt.kdT'
 rw[decide_eq_true h24,Bool.true_and]
 simp only[List.getD_eq_getElem?_getD,List.getElem?_eq_getElem aA,Option.getD_some,beq_iff_eq]
 constructor
 ·intro h; exact UInt8.toNat_inj.1 (by have : ((kdS k)[i]).toNat = 97 := by omega
                                       rw[this];rfl)
 ·intro h;rw[h];rfl
theorem qqO (m:Nat) (hn:qmT m):qmT (m+1):=by
 intro S t c0 c1 c2 c3 c4 act d w ht hB aJ cB cC
 obtain⟨rfl,rfl,rfl,hs,cD,cE,h3,h4,⟨na,nl,nc,rfl,cF⟩,⟨ka,kl,kc,rfl,cG⟩⟩:=ht
 obtain⟨_,_,hv,-⟩:=id h3
 cases hv
 obtain⟨_,_,hv,aR,aD⟩:=id h4
 cases hv
 have bI:(Nd.text t).size<=1048576:=by simp only[szT]at aJ;omega
 have bJ:Hid (∀ k (h:k<(Nd.kids t).length),szT m (Nd.kids t)[k]<=1048576):=fun k h=>by
  have:=qcB (fun k=>szT m k+1) (Nd.kids t) _ (List.getElem_mem h)
  simp only[szT]at aJ;omega
 clear aJ
 have aM:=(Below.refl w.heap.size w).alloc (Nat.le_refl _) (.cells #[.int .i64 (Nd.sort t),.int .i64 (Nd.num t),.string (Nd.text t),.slice na (Nd.names t).length nc,.slice ka (Nd.kids t).length kc] 25)
 by_cases hd6:d<=24
 case neg=>
  have HF:Hid (qbX (m+1) t act d = -1):=qtE m t act d (by simp[hd6])
  go_enter Tryz.func60,Tryz.ntmps60
  go_wp2_with fail
  go_ret
  exact⟨qaN HF.out.symm,aM⟩
 have bD:=h3.keep (qaB aM hB) (fun _ h=>h)
 have HC:Hid (Calls Tryz.prog 76 _ _ _):=qtD S m (show Nd (T m) from t) na ka nc kc act _ bD aR (fun b hb=>by have:=hB b hb;simp;omega) bI
 have hK:=h4.keepN (qaB aM hB) (fun _ h=>h)
 have HD:Hid (d<=24):=hd6
 unfold maxLen at aR
 go_enter Tryz.func60,Tryz.ntmps60
 go_wp2_with fail
 refine HC.out.mono ?_
 rintro e w1 ⟨rfl,aS⟩
 have bK:=aS.size
 simp at bK
 have aT:=qaA aM (by simp) aS
 obtain⟨m0,m1,m2,m3,m4⟩:=qcF ((aS.block w.heap.size (by simp)).trans (heap_alloc_last w _))
 have bL:=hK.keepN (qaB aS (fun b hb=>by have:=hB b hb;simp;omega)) (fun _ h=>h)
 clear aM bD HC hK aS h3 h4 aD
 cases hal:qdB (show Nd (T m) from t) act with
 | false=>
  have HF:Hid (qbX (m+1) t act d = -1):=qtE m t act d (by rw[hal];simp)
  clear hal
  go_wp2_with fail
  go_ret
  exact⟨qaN HF.out.symm,aT⟩
 | true=>
  have bM:Hid ((decide (d<=24) && qdB (show Nd (T m) from t) act)=true):=by show _=_;rw[hal];simp[hd6]
  have hr:1<=Nd.sort t/\Nd.sort t<=43:=by
   have h:=hal
   unfold qdB at h
   simp only[Bool.and_eq_true,decide_eq_true_eq]at h
   exact h.1.1
  obtain⟨k,hk⟩:∃ k:Nat,Nd.sort t=(k:Int):=⟨(Nd.sort t).toNat,by omega⟩
  have aW:k<44:=by omega
  have aX:(Nd.sort t).toNat=k:=by omega
  have bN:Hid (k≠24->(Nd.kids t).length=(bs (kdT k)).size):=fun h24=>by
   have:=qzJ (show Nd (T m) from t) act hal (by show Nd.sort t≠24;omega)
   rw[qvD k h24,<- aX];exact this
  have bO:Hid (∀ w,Calls Tryz.prog 30 #[.int .i64 (k:Int)] w _):=fun w=>qiF k aW w
  obtain⟨_,_,bS,-,aD⟩:=bL
  cases bS
  have bP:Hid (∀ i (hi:i<(bs (kdT k)).size),k≠24->((((bs (kdT k))[i]'hi).toNat:Int)==97)=actAt k i):=fun i hi h24=>by
   have:=kdT_at k i h24 hi
   rw[Bool.eq_iff_iff,beq_iff_eq];exact this
  have aY:Hid (k=24->∀ i,actAt k i=false):=fun h i=>by subst h;simp[actAt]
  have bV:=hidF hk
  have bE:=hidF aX
  rw[hk]at m0
  rw[hk]
  clear hal hr hk aX
  generalize bs (kdT k)=q at *
  go_wp2_with fail
  refine (bO.out _).mono ?_
  rintro e w1' ⟨rfl,rfl⟩
  go_wp2_with fail
  go_loopw [8,9] (fun a i wr=>∃ j:Nat,j<=(Nd.kids t).length/\i=.int .i64 j/\a=.int .i64 (1+(sumL (fun k=>cntT m k) ((Nd.kids t).take j):Int))/\1+sumL (fun k=>cntT m k) ((Nd.kids t).take j)<=200 /\
    Hid (∀ i (hi:i<(Nd.kids t).length),i<j->goodS m (Nd.kids t)[i] (actAt k i) (d+1)=true)/\Below w1'.heap.size w1' wr) (fun _ i _=>(Nd.kids t).length - (intOf i).toNat)
  case atStart=>exact⟨0,Nat.zero_le _,rfl,by simp[sumL],by simp[sumL],fun i _ h=>absurd h (Nat.not_lt_zero _),Below.refl _ _⟩
  case round=>
   obtain⟨j,hj,rfl,rfl,bT,aG,aA⟩:=hrel
   have bF:=aA.size
   have q0:wr.cell? ⟨w.heap.size,0,none⟩=some (.int .i64 (k:Int)):=(aA.cell (p:=⟨w.heap.size,0,none⟩) (by show w.heap.size<_;omega)).trans m0
   have q4:wr.cell? ⟨w.heap.size,4,none⟩=some (.slice ka (Nd.kids t).length kc):=(aA.cell (p:=⟨w.heap.size,4,none⟩) (by show w.heap.size<_;omega)).trans m4
   generalize hgs:sumL (fun k=>cntT m k) ((Nd.kids t).take j)=sm at *
   have bG:=hidF hgs
   clear hgs
   by_cases aK:j<(Nd.kids t).length
   ·obtain⟨b,off,rfl,bU,aI⟩:=aD (by intro h;rw[h]at aK;simp at aK)
    obtain⟨x0,x1,x2,x3,x4,e0,e1,e2,e3,e4,bB⟩:=aI j aK
    obtain⟨y0,y1,y2,ya,yl,yc,za,zl,zc,rfl,rfl,rfl,rfl,rfl⟩:=bB.shape
    have bW:=hB b bU
    have f0:=(aA.cell (p:=⟨b,off+j*5,none⟩) (by show b<_;omega)).trans e0
    have f1:=(aA.cell (p:=⟨b,off+j*5+1,none⟩) (by show b<_;omega)).trans e1
    have f2:=(aA.cell (p:=⟨b,off+j*5+2,none⟩) (by show b<_;omega)).trans e2
    have f3:=(aA.cell (p:=⟨b,off+j*5+3,none⟩) (by show b<_;omega)).trans e3
    have f4:=(aA.cell (p:=⟨b,off+j*5+4,none⟩) (by show b<_;omega)).trans e4
    have qq:=bB.keep (qaB aA (fun b hb=>by have:=hB b hb;omega)) (fun _ h=>h)
    have aN:Hid (∀ W',Below wr.heap.size wr W'->Calls Tryz.prog 60 #[.agg #[.int .i64 y0,.int .i64 y1,.string y2,.slice ya yl yc,.slice za zl zc],.bool (actAt k j),.int .i64 (d+1)] W' fun e w'=>e=.returned (.int .i64 (qbX m (Nd.kids t)[j] (actAt k j) (d+1)))/\Below wr.heap.size wr w' /\ (w'.cell? ⟨w.heap.size,0,none⟩=some (.int .i64 (k:Int))/\w'.cell? ⟨w.heap.size,4,none⟩=some (.slice (some ⟨b,off,none⟩) (Nd.kids t).length kc)/\w'.cell? ⟨b,off+j*5,none⟩=some (.int .i64 y0)/\w'.cell? ⟨b,off+j*5+1,none⟩=some (.int .i64 y1)/\w'.cell? ⟨b,off+j*5+2,none⟩=some (.string y2)/\w'.cell? ⟨b,off+j*5+3,none⟩=some (.slice ya yl yc)/\w'.cell? ⟨b,off+j*5+4,none⟩=some (.slice za zl zc))):=by
     intro W' aV
     refine (hn S (Nd.kids t)[j] _ _ _ _ _ (actAt k j) (d+1) W' (qq.keep (qaB aV (fun b hb=>by have:=hB b hb;omega)) (fun _ h=>h)) (fun b hb=>by have:=hB b hb;have:=aV.size;omega) (bJ.out j aK) (by omega) (by have:=HD.out;omega)).mono ?_
     rintro e w' ⟨rfl,hb⟩
     have aC:Below wr.heap.size wr w':=aV.trans (hb.mono aV.size)
     exact⟨rfl,aC,(aC.cell (p:=⟨w.heap.size,0,none⟩) (by show w.heap.size<_;omega)).trans q0,(aC.cell (p:=⟨w.heap.size,4,none⟩) (by show w.heap.size<_;omega)).trans q4,(aC.cell (p:=⟨b,off+j*5,none⟩) (by show b<_;omega)).trans f0,(aC.cell (p:=⟨b,off+j*5+1,none⟩) (by show b<_;omega)).trans f1,(aC.cell (p:=⟨b,off+j*5+2,none⟩) (by show b<_;omega)).trans f2,(aC.cell (p:=⟨b,off+j*5+3,none⟩) (by show b<_;omega)).trans f3,(aC.cell (p:=⟨b,off+j*5+4,none⟩) (by show b<_;omega)).trans f4⟩
    have hD:Below wr.heap.size wr wr.drew:=(Below.refl _ _).drew
    have bX:IntKind.i64.wrap (d+1)=d+1:=by rw[IntKind.wrap_i64];omega
    have HQ:Hid (k≠24->∃ hi:j<q.size,(((q[j]'hi).toNat:Int)==97)=actAt k j):=fun h24=>by
     have hi:j<q.size:=by rw[<- bN.out h24];exact aK
     exact⟨hi,bP.out j hi h24⟩
    have bY:(j:Int)<((Nd.kids t).length:Int):=by omega
    have aO:Hid (qbX m (Nd.kids t)[j] (actAt k j) (d+1)<0->qbX (m+1) t act d = -1):=fun h=>qzH m t act d j aK (by rw[bE.out];exact h)
    have aE:Hid (0<=qbX m (Nd.kids t)[j] (actAt k j) (d+1)->qbX m (Nd.kids t)[j] (actAt k j) (d+1)=cntT m (Nd.kids t)[j]/\goodS m (Nd.kids t)[j] (actAt k j) (d+1)=true):=fun h=>qzG m _ _ _ h
    have aB:Hid (sumL (fun k=>cntT m k) ((Nd.kids t).take (j+1))=sm+cntT m (Nd.kids t)[j]):=by show _=_;rw[qaO _ _ _ aK,bG.out]
    have aH:Hid (goodS m (Nd.kids t)[j] (actAt k j) (d+1)=true->∀ i (hi:i<(Nd.kids t).length),i<j+1->goodS m (Nd.kids t)[i] (actAt k i) (d+1)=true):=fun hg i hi hij=>by
     rcases Nat.lt_or_ge i j with h|h
     ·exact aG.out i hi h
     ·have:i=j:=by omega
      subst this;exact hg
    have bZ:=xeE m (Nd.kids t)[j] (actAt k j) (d+1)
    have aP:=hidF aA
    have aU:=hidF aT
    clear aD aI e0 e1 e2 e3 e4 bB qq aA aG
    generalize qbX m (Nd.kids t)[j] (actAt k j) (d+1)=r at *
    by_cases h24:k=24
    ·have aZ:=aY.out h24 j
     rw[aZ]at aN
     have d24:((k:Int) != 24)=false:=by simp;omega
     have d24':((k:Int)==24)=true:=by simp;omega
     clear HQ h24
     go_wp2_with fail
     have bQ:=qjP
     first|(go_region_held (fun w'=>w'.cell? ⟨w.heap.size,0,none⟩=some (.int .i64 (k:Int))/\w'.cell? ⟨w.heap.size,4,none⟩=some (.slice (some ⟨b,off,none⟩) (Nd.kids t).length kc)/\w'.cell? ⟨b,off+j*5,none⟩=some (.int .i64 y0)/\w'.cell? ⟨b,off+j*5+1,none⟩=some (.int .i64 y1)/\w'.cell? ⟨b,off+j*5+2,none⟩=some (.string y2)/\w'.cell? ⟨b,off+j*5+3,none⟩=some (.slice ya yl yc)/\w'.cell? ⟨b,off+j*5+4,none⟩=some (.slice za zl zc)) (first|with_reducible assumption|go_keep) (first|(go_at_call 60;refine (aN.out _ hD).mono ?_;rintro e w2 ⟨rfl,aL,bC⟩)))|fail
     all_goals
      have bR:=aL.size
      have aF:Below w1'.heap.size w1' w2:=aP.out.trans (aL.mono bF)
      have bA:=hidF aF
      have aQ:=hidF (aU.out.trans (aF.mono aU.out.size))
      clear aL aF bC f0 f1 f2 f3 f4 q0 q4 hD aN
      by_cases hr0:r<0
      ·go_wp2_with fail
       go_ret
       exact⟨qaN (aO.out hr0).symm,aQ.out⟩
      ·by_cases hmany:200<1+(sm:Int)+r
       ·go_wp2_with fail
        go_ret
        refine⟨qaN (qmS m t act d (j+1) ?_).symm,aQ.out⟩
        have:=aE.out (by omega)
        rw[aB.out];omega
       ·go_wp2_with fail
        go_roundw
        case rel=>
         have hg:=aE.out (by omega)
         refine⟨j+1,by omega,by go_num,?_,?_,aH.out hg.2,bA.out⟩
         ·rw[aB.out,hg.1];go_num
         ·rw[aB.out];omega
        case measure=>simp[intOf];omega
    ·obtain⟨hi,cH⟩:=HQ.out h24
     have d24:((k:Int) != 24)=true:=by simp;omega
     have d24':((k:Int)==24)=false:=by simp;omega
     have cA:(j:Int)<(q.size:Int):=by omega
     generalize actAt k j=av at *
     clear HQ
     go_wp2_with fail
     have bQ:=qjP
     first|(go_region_held (fun w'=>w'.cell? ⟨w.heap.size,0,none⟩=some (.int .i64 (k:Int))/\w'.cell? ⟨w.heap.size,4,none⟩=some (.slice (some ⟨b,off,none⟩) (Nd.kids t).length kc)/\w'.cell? ⟨b,off+j*5,none⟩=some (.int .i64 y0)/\w'.cell? ⟨b,off+j*5+1,none⟩=some (.int .i64 y1)/\w'.cell? ⟨b,off+j*5+2,none⟩=some (.string y2)/\w'.cell? ⟨b,off+j*5+3,none⟩=some (.slice ya yl yc)/\w'.cell? ⟨b,off+j*5+4,none⟩=some (.slice za zl zc)) (first|with_reducible assumption|go_keep) (first|(go_at_call 60;refine (aN.out _ hD).mono ?_;rintro e w2 ⟨rfl,aL,bC⟩)))|fail
     all_goals
      have bR:=aL.size
      have aF:Below w1'.heap.size w1' w2:=aP.out.trans (aL.mono bF)
      have bA:=hidF aF
      have aQ:=hidF (aU.out.trans (aF.mono aU.out.size))
      clear aL aF bC f0 f1 f2 f3 f4 q0 q4 hD aN
      by_cases hr0:r<0
      ·go_wp2_with fail
       go_ret
       exact⟨qaN (aO.out hr0).symm,aQ.out⟩
      ·by_cases hmany:200<1+(sm:Int)+r
       ·go_wp2_with fail
        go_ret
        refine⟨qaN (qmS m t act d (j+1) ?_).symm,aQ.out⟩
        have:=aE.out (by omega)
        rw[aB.out];omega
       ·go_wp2_with fail
        go_roundw
        case rel=>
         have hg:=aE.out (by omega)
         refine⟨j+1,by omega,by go_num,?_,?_,aH.out hg.2,bA.out⟩
         ·rw[aB.out,hg.1];go_num
         ·rw[aB.out];omega
        case measure=>simp[intOf];omega
   ·have bH:j=(Nd.kids t).length:=by omega
    have HF:Hid (qbX (m+1) t act d=1+(sm:Int)):=by
     show _=_
     have h2:=bG.out
     rw[bH,List.take_length]at h2
     rw[qzI m t act d bM.out (fun i hi=>by rw[bE.out];exact aG.out i hi (by omega)) (by rw[h2];omega),h2]
    have aF:=aT.trans (aA.mono aT.size)
    clear bH aD aG
    go_wp2_with fail
    go_ret
    exact⟨qaN HF.out.symm,aF⟩
theorem qtF:∀ m,qmT m:=by
 intro m
 induction m with
 | zero=>intro S t c0 c1 c2 c3 c4 act d w ht;exact ht.elim
 | succ m ih=>exact qqO m ih
end Go.Proofs.YtelogmjfekhmpaaGreatDoor
