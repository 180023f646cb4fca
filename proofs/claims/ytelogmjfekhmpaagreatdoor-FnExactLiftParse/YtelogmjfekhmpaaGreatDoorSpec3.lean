import Derived.Test.YtelogmjfekhmpaaGreatDoorSpec2
import Derived.Test.YtelogmjfekhmpaaGreatDoorRet
namespace Go.Proofs.YtelogmjfekhmpaaGreatDoor
set_option maxRecDepth 100000
set_option maxHeartbeats 16000000
open Go.RowKit
def qcA (n:Nat) (t:T n) (d:Int):Int:=if goodT n t d=true/\cntT n t<=120 then (cntT n t:Int) else -1
theorem qrV (n:Nat) (t:T (n+1)) (d:Int) (h:(decide (d<=6) && qiI (show Nd (T n) from t))=false):qcA (n+1) t d = -1:=by
 unfold qcA;rw[if_neg];rintro ⟨h1,-⟩;simp only[goodT,h,Bool.false_and]at h1;cases h1
theorem qxY (n:Nat) (t:T (n+1)) (d:Int) (k:Nat) (hk:k<(Nd.kids t).length) (h:qcA n (Nd.kids t)[k] (d+1)<0):qcA (n+1) t d = -1:=by
 unfold qcA;rw[if_neg]
 rintro ⟨h1,h2⟩
 simp only[goodT,Bool.and_eq_true,List.all_eq_true]at h1
 have hg:=h1.2 _ (List.getElem_mem hk)
 have hc:=qcB (fun k=>cntT n k) (Nd.kids t) _ (List.getElem_mem hk)
 simp only[cntT]at h2
 unfold qcA at h
 rw[if_pos ⟨hg,by omega⟩]at h
 omega
theorem quL (n:Nat) (t:T (n+1)) (d:Int) (k:Nat) (h:120<1+sumL (fun k=>cntT n k) ((Nd.kids t).take k)):qcA (n+1) t d = -1:=by
 unfold qcA;rw[if_neg]
 rintro ⟨-,h2⟩
 have:=qcQ (fun k=>cntT n k) ((Nd.kids t).take k) ((Nd.kids t).drop k)
 rw[List.take_append_drop]at this
 simp only[cntT]at h2
 omega
theorem qxZ (n:Nat) (t:T (n+1)) (d:Int) (h:(decide (d<=6) && qiI (show Nd (T n) from t))=true) (hall:(Nd.kids t).all (fun k=>goodT n k (d+1))=true) (hs:1+sumL (fun k=>cntT n k) (Nd.kids t)<=120) :
  qcA (n+1) t d=1+(sumL (fun k=>cntT n k) (Nd.kids t):Int):=by
 unfold qcA;rw[if_pos]
 ·simp only[cntT];omega
 ·exact⟨by simp only[goodT,h,hall,Bool.and_self],by simp only[cntT];omega⟩
theorem qoI (n:Nat) (t:T n) (d:Int) (h:0<=qcA n t d):qcA n t d=cntT n t/\goodT n t d=true/\cntT n t<=120:=by
 unfold qcA at h ⊢
 by_cases hc:goodT n t d=true/\cntT n t<=120
 ·rw[if_pos hc];exact⟨rfl,hc⟩
 ·rw[if_neg hc]at h;omega
theorem xbV (n:Nat) (t:T n) (d:Int) : -1<=qcA n t d/\qcA n t d<=120:=by
 unfold qcA;split <;> omega
theorem qrW {α:Type} {p:α->Bool} {l:List α} (k:Nat) (h:k<l.length) (ht:(l.take k).all p=true) (hf:p l[k]=true):(l.take (k+1)).all p=true:=by
 rw[List.take_succ_eq_append_getElem h,List.all_append,ht];simpa using hf
def qmA (n:Nat):Prop:=∀ (S:Nat->Prop) (t:T n) (c0 c1 c2 c3 c4:Value) (d:Int) (w:World),TreeIn S w n t c0 c1 c2 c3 c4->(∀ b,S b->b<w.heap.size)->1<=d->d<=7 ->
 Calls Tryz.prog 74 #[.agg #[c0,c1,c2,c3,c4],.int .i64 d] w fun e w'=>e=.returned (.int .i64 (qcA n t d))/\Below w.heap.size w w'
theorem qrX (n:Nat) (hn:qmA n):qmA (n+1):=by
 intro S t c0 c1 c2 c3 c4 d w ht hB bD bE
 obtain⟨rfl,rfl,rfl,hs,-,-,h3,h4⟩:=ht
 obtain⟨na,nc,rfl,-,-,-⟩:=id h3
 obtain⟨ka,kc,rfl,aO,aB⟩:=id h4
 unfold maxLen at aO
 have aF:=(Below.refl w.heap.size w).alloc (Nat.le_refl _) (.cells #[.int .i64 (Nd.sort t),.int .i64 (Nd.num t),.string (Nd.text t),.slice na (Nd.names t).length nc,.slice ka (Nd.kids t).length kc] 67)
 by_cases hd6:d<=6
 case neg=>
  have HF:Hid (qcA (n+1) t d = -1):=qrV n t d (by simp[hd6])
  go_enter Tryz.func74,Tryz.ntmps74
  go_wp2_with fail
  go_ret
  exact⟨qaN HF.out.symm,aF⟩
 have aQ:=h3.keep (qaB aF hB) (fun _ h=>h)
 have HC:Hid (Calls Tryz.prog 96 _ _ _):=qlZ (Nd.sort t) (Nd.num t) (Nd.text t) (Nd.names t) ka (Nd.kids t).length kc _ na nc hs S aQ (fun b hb=>by have:=hB b hb;simp;omega)
 have hK:=h4.keepT (qaB aF hB) (fun _ h=>h)
 have HD:Hid (d<=6):=hd6
 go_enter Tryz.func74,Tryz.ntmps74
 go_wp2_with fail
 refine HC.out.mono ?_
 rintro e w1 ⟨rfl,aI⟩
 obtain⟨hc,hf⟩:=bcell aI
 have aV:=aI.size
 simp at aV
 have aL:=qaA aF (by simp) aI
 have m4:w1.cell? ⟨w.heap.size,4,none⟩=some (.slice ka (Nd.kids t).length kc):=by rw[hc _ _ (by simp)];simp[go_sem]
 have aW:=hK.keepT (qaB aI (fun b hb=>by have:=hB b hb;simp;omega)) (fun _ h=>h)
 clear aF aQ HC hK aI hc hf h3 h4 aB
 cases hal:qaQ (Nd.sort t) (Nd.num t) (Nd.text t) (Nd.names t) (Nd.kids t).length with
 | false=>
  have HF:Hid (qcA (n+1) t d = -1):=qrV n t d (by show (_ && qaQ _ _ _ _ _)=_;rw[hal];simp)
  clear hal
  go_wp2_with fail
  go_ret
  exact⟨qaN HF.out.symm,aL⟩
 | true=>
  have aX:Hid ((decide (d<=6) && qiI (show Nd (T n) from t))=true):=by show (_ && qaQ _ _ _ _ _)=_;rw[hal];simp[hd6]
  clear hal
  obtain⟨_,_,aZ,-,aB⟩:=aW
  cases aZ
  go_wp2_with fail
  go_loopw [5,6] (fun a i wr=>∃ k:Nat,k<=(Nd.kids t).length/\i=.int .i64 k/\a=.int .i64 (1+(sumL (fun k=>cntT n k) ((Nd.kids t).take k):Int))/\1+sumL (fun k=>cntT n k) ((Nd.kids t).take k)<=120 /\
    ((Nd.kids t).take k).all (fun k=>goodT n k (d+1))=true/\Below w1.heap.size w1 wr) (fun _ i _=>(Nd.kids t).length - (intOf i).toNat)
  case atStart=>exact⟨0,Nat.zero_le _,rfl,by simp[sumL],by simp[sumL],by simp,Below.refl _ _⟩
  case round=>
   obtain⟨k,hk,rfl,rfl,aP,aJ,aA⟩:=hrel
   have aG:=hidF aJ
   clear aJ
   have aY:=aA.size
   have q4:wr.cell? ⟨w.heap.size,4,none⟩=some (.slice ka (Nd.kids t).length kc):=(aA.cell (p:=⟨w.heap.size,4,none⟩) (by show w.heap.size<_;omega)).trans m4
   have aM:=hidF aP
   generalize hgs:sumL (fun k=>cntT n k) ((Nd.kids t).take k)=sm at *
   have aR:=hidF hgs
   clear hgs aM
   by_cases aE:k<(Nd.kids t).length
   ·obtain⟨b,off,rfl,bA,aD⟩:=aB (by intro h;rw[h]at aE;simp at aE)
    obtain⟨x0,x1,x2,x3,x4,e0,e1,e2,e3,e4,hr⟩:=aD k aE
    have bB:=hB b bA
    have f0:=(aA.cell (p:=⟨b,off+k*5,none⟩) (by show b<_;omega)).trans e0
    have f1:=(aA.cell (p:=⟨b,off+k*5+1,none⟩) (by show b<_;omega)).trans e1
    have f2:=(aA.cell (p:=⟨b,off+k*5+2,none⟩) (by show b<_;omega)).trans e2
    have f3:=(aA.cell (p:=⟨b,off+k*5+3,none⟩) (by show b<_;omega)).trans e3
    have f4:=(aA.cell (p:=⟨b,off+k*5+4,none⟩) (by show b<_;omega)).trans e4
    have q:=hr.keep (qaB aA (fun b hb=>by have:=hB b hb;omega)) (fun _ h=>h)
    clear aB aD e0 e1 e2 e3 e4 hr
    go_wp2_with fail
    refine (hn S (Nd.kids t)[k] x0 x1 x2 x3 x4 (d+1) wr q (fun b hb=>by have:=hB b hb;omega) (by omega) (by omega)).mono ?_
    rintro e w2 ⟨rfl,aU⟩
    have aS:=qaA aA aY aU
    have bC:=xbV n (Nd.kids t)[k] (d+1)
    have aN:Hid (qcA n (Nd.kids t)[k] (d+1)<0->qcA (n+1) t d = -1):=fun h=>qxY n t d k aE h
    have aH:Hid (0<=qcA n (Nd.kids t)[k] (d+1)->qcA n (Nd.kids t)[k] (d+1)=cntT n (Nd.kids t)[k]/\goodT n (Nd.kids t)[k] (d+1)=true):=fun h=>⟨(qoI n _ _ h).1,(qoI n _ _ h).2.1⟩
    have aC:Hid (sumL (fun k=>cntT n k) ((Nd.kids t).take (k+1))=sm+cntT n (Nd.kids t)[k]):=by show _=_;rw[qaO _ _ _ aE,aR.out]
    have aK:=qaA aL (by omega) aS
    clear aU q f0 f1 f2 f3 f4 aA q4
    generalize qcA n (Nd.kids t)[k] (d+1)=r at *
    by_cases hr0:r<0
    ·go_wp2_with fail
     go_ret
     exact⟨qaN (aN.out hr0).symm,aK⟩
    ·by_cases hmany:120<1+(sm:Int)+r
     ·go_wp2_with fail
      go_ret
      refine⟨qaN (quL n t d (k+1) ?_).symm,aK⟩
      have:=aH.out (by omega)
      rw[aC.out];omega
     ·go_wp2_with fail
      go_roundw
      case rel=>
       have hg:=aH.out (by omega)
       refine⟨k+1,by omega,by go_num,?_,?_,qrW k aE aG.out hg.2,aS⟩
       ·rw[aC.out,hg.1];go_num
       ·rw[aC.out];omega
      case measure=>simp[intOf];omega
   ·have aT:k=(Nd.kids t).length:=by omega
    have HF:Hid (qcA (n+1) t d=1+(sm:Int)):=by
     show _=_
     have h1:=aG.out
     have h2:=aR.out
     rw[aT,List.take_length]at h1 h2
     rw[qxZ n t d aX.out h1 (by rw[h2];omega),h2]
    have aK:=qaA aL (by omega) aA
    clear aT aB
    go_wp2_with fail
    go_ret
    exact⟨qaN HF.out.symm,aK⟩
theorem quM:∀ n,qmA n:=by
 intro n
 induction n with
 | zero=>intro S t c0 c1 c2 c3 c4 d w ht;exact ht.elim
 | succ n ih=>exact qrX n ih
theorem okT_eq (n:Nat) (t:T n):decide (0<qcA n t 1)=okT n t:=by
 unfold qcA okT
 by_cases hc:goodT n t 1=true/\cntT n t<=120
 ·rw[if_pos hc,hc.1]
  have:=qvT n t 1 hc.1
  simp[hc.2];omega
 ·rw[if_neg hc]
  cases hg:goodT n t 1 with
  | false=>simp
  | true=>simp[hg]at hc;simp;omega
theorem qyA (n:Nat) (S:Nat->Prop) (t:T n) (c0 c1 c2 c3 c4:Value) (w:World) (ht:TreeIn S w n t c0 c1 c2 c3 c4) (hB:∀ b,S b->b<w.heap.size) :
  Calls Tryz.prog 55 #[.agg #[c0,c1,c2,c3,c4]] w fun e w'=>e=.returned (.bool (okT n t))/\Below w.heap.size w w':=by
 obtain⟨x0,x1,x2,xa,xl,xc,ya,yl,yc,rfl,rfl,rfl,rfl,rfl⟩:=ht.shape
 have aA:=(Below.refl w.heap.size w).alloc (Nat.le_refl _) (.cells #[.int .i64 x0,.int .i64 x1,.string x2,.slice xa xl xc,.slice ya yl yc] 67)
 have aB:=ht.keep (qaB aA hB) (fun _ h=>h)
 have HE:=okT_eq n t
 have aD:Hid (decide (0<qcA n t 1)=okT n t):=HE
 clear HE ht
 go_enter Tryz.func55,Tryz.ntmps55
 go_wp2_with fail
 refine (quM n S t _ _ _ _ _ 1 _ aB (fun b hb=>by have:=hB b hb;simp;omega) (by omega) (by omega)).mono ?_
 rintro e w1 ⟨rfl,aC⟩
 have aE:=qaA aA (by simp) aC
 clear aA aC aB
 go_wp2_with fail
 go_ret
 exact⟨qbN aD.out,aE⟩
end Go.Proofs.YtelogmjfekhmpaaGreatDoor
