import Derived.Test.YtelogmjfekhmpaaGreatDoorSpecN
import Derived.Test.YtelogmjfekhmpaaGreatDoorRet
import Derived.Test.YtelogmjfekhmpaaGreatDoorKRep
namespace Go.Proofs.YtelogmjfekhmpaaGreatDoor
set_option maxRecDepth 100000
set_option maxHeartbeats 16000000
open Go.RowKit
def qkH (n:Nat):Prop:=∀ (S:Nat->Prop) (t:K n) (c0 c1 c2:Value) (d:Int) (w:World),KindIn S w n t c0 c1 c2->(∀ b,S b->b<w.heap.size)->1<=d->d<=7 ->
 Calls Tryz.prog 59 #[.agg #[c0,c1,c2],.int .i64 d] w fun e w'=>e=.returned (.int .i64 (qbE n t d))/\Below w.heap.size w w'
theorem qqL (s:Int) (l:List ByteArray) (kl:Nat):(qbK s l kl=true/\1<=s/\s<=6/\((s<4/\l.length=0/\kl=0)∨(s=4/\l.length=0/\kl=1)∨(s=6/\l.length=0/\kl=1)∨(s=5/\l.length=kl/\riseB l=true))) ∨
  (qbK s l kl=false/\(¬ (1<=s/\s<=6)∨(1<=s/\s<4/\0<l.length)∨(1<=s/\s<4/\l.length=0/\0<kl)∨(s=4/\0<l.length)∨(s=6/\0<l.length)∨(s=4/\l.length=0/\kl≠1)∨(s=6/\l.length=0/\kl≠1)∨(s=5/\l.length≠kl)∨(s=5/\l.length=kl/\riseB l=false))):=by
 cases h:qbK s l kl with
 | true=>
  refine .inl ⟨rfl,?_⟩
  unfold qbK at h
  by_cases h1:s=1
  ·subst h1;simp at h;exact⟨by omega,by omega,.inl ⟨by omega,by simp[h.1],by omega⟩⟩
  rw[if_neg h1]at h
  by_cases h2:s=2
  ·subst h2;simp at h;exact⟨by omega,by omega,.inl ⟨by omega,by simp[h.1],by omega⟩⟩
  rw[if_neg h2]at h
  by_cases h3:s=3
  ·subst h3;simp at h;exact⟨by omega,by omega,.inl ⟨by omega,by simp[h.1],by omega⟩⟩
  rw[if_neg h3]at h
  by_cases h4:s=4
  ·subst h4;simp at h;exact⟨by omega,by omega,.inr (.inl ⟨rfl,by simp[h.1],by omega⟩)⟩
  rw[if_neg h4]at h
  by_cases h5:s=5
  ·subst h5;simp at h;exact⟨by omega,by omega,.inr (.inr (.inr ⟨rfl,by omega,h.2⟩))⟩
  rw[if_neg h5]at h
  by_cases h6:s=6
  ·subst h6;simp at h;exact⟨by omega,by omega,.inr (.inr (.inl ⟨rfl,by simp[h.1],by omega⟩))⟩
  rw[if_neg h6]at h
  cases h
 | false=>
  refine .inr ⟨rfl,?_⟩
  by_cases hr:1<=s/\s<=6
  ·right
   unfold qbK at h
   rcases (show (s=1∨s=2∨s=3)∨s=4∨s=6∨s=5 by omega) with hs|hs|hs|hs
   ·by_cases hl:l.length=0
    ·refine .inr (.inl ⟨by omega,by omega,hl,?_⟩)
     rcases hs with hs|hs|hs <;> subst hs <;> simp at h <;> rcases Nat.eq_zero_or_pos kl with h0|h0
     all_goals first
      | exact h0
      | (exfalso;apply h <;> first|(exact List.eq_nil_of_length_eq_zero hl)|omega)
    ·exact .inl ⟨by omega,by omega,by omega⟩
   ·subst hs;simp at h
    by_cases hl:l.length=0
    ·exact .inr (.inr (.inr (.inr (.inl ⟨rfl,hl,fun e=>h (List.eq_nil_of_length_eq_zero hl) (by omega)⟩))))
    ·exact .inr (.inr (.inl ⟨rfl,by omega⟩))
   ·subst hs;simp at h
    by_cases hl:l.length=0
    ·exact .inr (.inr (.inr (.inr (.inr (.inl ⟨rfl,hl,fun e=>h (List.eq_nil_of_length_eq_zero hl) (by omega)⟩)))))
    ·exact .inr (.inr (.inr (.inl ⟨rfl,by omega⟩)))
   ·subst hs;simp at h
    by_cases hl:l.length=kl
    ·exact .inr (.inr (.inr (.inr (.inr (.inr (.inr ⟨rfl,hl,h (by omega)⟩))))))
    ·exact .inr (.inr (.inr (.inr (.inr (.inr (.inl ⟨rfl,hl⟩))))))
  ·exact .inl hr
theorem qtA (n:Nat) (hn:qkH n):qkH (n+1):=by
 intro S t c0 c1 c2 d w ht hB bV bW
 obtain⟨rfl,-,h3,h4⟩:=ht
 obtain⟨na,nc,rfl,-,-,-⟩:=id h3
 obtain⟨ka,kc,rfl,bH,aB⟩:=id h4
 unfold maxLen at bH
 generalize hs:Kd.sort t=s at *
 have aM:=(Below.refl w.heap.size w).alloc (Nat.le_refl _) (.cells #[.int .i64 s,.slice na (Kd.names t).length nc,.slice ka (Kd.kids t).length kc] 55)
 by_cases hd6:d<=6
 case neg=>
  have HF:Hid (qbE (n+1) t d = -1):=qrJ n t d (by simp[hd6])
  clear hs
  go_enter Tryz.func59,Tryz.ntmps59
  go_wp2_with fail
  go_ret
  exact⟨qaN HF.out.symm,aM⟩
 have bG:=h3.keep (qaB aM hB) (fun _ h=>h)
 have HC:Hid (Calls Tryz.prog 75 _ _ _):=qkB S (Kd.names t) (.slice na (Kd.names t).length nc) _ bG (fun b hb=>by have:=hB b hb;simp;omega)
 have hK:=h4.keepK (qaB aM hB) (fun _ h=>h)
 rcases qqL s (Kd.names t) (Kd.kids t).length with ⟨bD,bP,bQ,aQ⟩|⟨bD,aQ⟩
 case inr=>
  have HF:Hid (qbE (n+1) t d = -1):=qrJ n t d (by show (_ && qbK _ _ _)=_;rw[show (Kd.sort t)=s from hs,bD];simp)
  clear bD hs h3 h4 aB hK bG hn
  generalize (Kd.kids t).length=kl at *
  generalize hln:(Kd.names t).length=ln at *
  have H6:Hid (∀ w,Calls Tryz.prog 45 #[.int .i64 s,.int .i64 1,.int .i64 6] w fun e w'=>e=.returned (.bool (decide (1<=s/\s<=6)))/\w'=w):=fun w=>qcL s 1 6 w
  rcases aQ with hc|⟨bR,bM,aI⟩|⟨bR,bM,aI,aG⟩|⟨rfl,aI⟩|⟨rfl,aI⟩|⟨rfl,aI,aG⟩|⟨rfl,aI,aG⟩|⟨rfl,aI⟩|⟨rfl,aI,aG⟩
  ·have hd:decide (1<=s/\s<=6)=false:=decide_eq_false hc
   clear hc
   go_enter Tryz.func59,Tryz.ntmps59
   go_wp2_with (go_at_call 45;refine (H6.out _).mono ?_;rintro e w' ⟨rfl,rfl⟩;rw[hd])
   go_ret
   exact⟨qaN HF.out.symm,aM⟩
  ·have hd:decide (1<=s/\s<=6)=true:=decide_eq_true (by omega)
   have he:(s==5)=false:=by simp;omega
   have bI:(s != 5)=true:=by simp;omega
   go_enter Tryz.func59,Tryz.ntmps59
   go_wp2_with (go_at_call 45;refine (H6.out _).mono ?_;rintro e w' ⟨rfl,rfl⟩;rw[hd])
   go_ret
   exact⟨qaN HF.out.symm,aM⟩
  ·have hd:decide (1<=s/\s<=6)=true:=decide_eq_true (by omega)
   have he:(s==5)=false:=by simp;omega
   have bI:(s != 5)=true:=by simp;omega
   have bN:¬ 0<(ln:Int):=by omega
   clear aI HC
   go_enter Tryz.func59,Tryz.ntmps59
   go_wp2_with (go_at_call 45;refine (H6.out _).mono ?_;rintro e w' ⟨rfl,rfl⟩;rw[hd])
   go_ret
   exact⟨qaN HF.out.symm,aM⟩
  iterate 2
   ·go_enter Tryz.func59,Tryz.ntmps59
    go_wp2_with (go_at_call 45;refine (H6.out _).mono ?_;rintro e w' ⟨rfl,rfl⟩)
    go_ret
    exact⟨qaN HF.out.symm,aM⟩
  iterate 2
   ·have bN:¬ 0<(ln:Int):=by omega
    have bJ:((kl:Int) != 1)=true:=by simp;omega
    clear aI HC
    go_enter Tryz.func59,Tryz.ntmps59
    go_wp2_with (go_at_call 45;refine (H6.out _).mono ?_;rintro e w' ⟨rfl,rfl⟩)
    go_ret
    exact⟨qaN HF.out.symm,aM⟩
  ·have bJ:((ln:Int) != (kl:Int))=true:=by simp;omega
   go_enter Tryz.func59,Tryz.ntmps59
   go_wp2_with (go_at_call 45;refine (H6.out _).mono ?_;rintro e w' ⟨rfl,rfl⟩)
   go_ret
   exact⟨qaN HF.out.symm,aM⟩
  ·subst aI
   have bJ:((ln:Int) != (ln:Int))=false:=by simp
   go_enter Tryz.func59,Tryz.ntmps59
   go_wp2_with (go_at_call 45;refine (H6.out _).mono ?_;rintro e w' ⟨rfl,rfl⟩)
   refine HC.out.mono ?_
   rintro e w' ⟨rfl,bS⟩
   rw[aG]
   have aN:=qaA aM (by simp) bS
   go_wp2_with fail
   go_ret
   exact⟨qaN HF.out.symm,aN⟩
 have bF:Hid ((decide (d<=6) && qrI (show Kd (K n) from t))=true):=by show (_ && qbK _ _ _)=_;rw[show (Kd.sort t)=s from hs,bD];simp[hd6]
 have H6:Hid (∀ w,Calls Tryz.prog 45 #[.int .i64 s,.int .i64 1,.int .i64 6] w fun e w'=>e=.returned (.bool true)/\w'=w):=fun w=>by rw[<- decide_eq_true (⟨bP,bQ⟩:1<=s/\s<=6)];exact qcL s 1 6 w
 have aS:w.heap.size<(w.alloc (.cells #[.int .i64 s,.slice na (Kd.names t).length nc,.slice ka (Kd.kids t).length kc] 55)).heap.size:=by simp
 have m2:(w.alloc (.cells #[.int .i64 s,.slice na (Kd.names t).length nc,.slice ka (Kd.kids t).length kc] 55)).cell? ⟨w.heap.size,2,none⟩=some (.slice ka (Kd.kids t).length kc):=by simp[go_sem]
 clear bD hs h3 h4 aB bG
 have aN:Below w.heap.size w _:=aM
 rcases aQ with ⟨bM,aI,aG⟩|⟨rfl,aI,aG⟩|⟨rfl,aI,aG⟩|⟨rfl,aI,aG⟩
 ·generalize hw1:w.alloc (.cells #[.int .i64 s,.slice na (Kd.names t).length nc,.slice ka (Kd.kids t).length kc] 55)=w1 at *
  obtain⟨_,_,aX,-,aB⟩:=hK
  cases aX
  have aT:Hid ((Kd.kids t).length=0):=aG
  rw[aG]at m2
  rw[aI,aG]at hw1 ⊢
  have bB:=hidF hw1
  have he:(s==5)=false:=by simp;omega
  have bI:(s != 5)=true:=by simp;omega
  have bT:(s==4)=false:=by simp;omega
  have bU:(s==6)=false:=by simp;omega
  clear aI aG HC aM hw1
  go_enter Tryz.func59,Tryz.ntmps59
  go_wp2_with (go_at_call 45;refine (H6.out _).mono ?_;rintro e w' ⟨rfl,rfl⟩)
  rw[bB.out]
  go_loopw [6,7] (fun a i wr=>∃ k:Nat,k<=0/\i=.int .i64 k/\a=.int .i64 (1+(sumL (fun k=>cntK n k) ((Kd.kids t).take k):Int))/\1+sumL (fun k=>cntK n k) ((Kd.kids t).take k)<=40 /\
    ((Kd.kids t).take k).all (fun k=>goodK n k (d+1))=true/\Below w1.heap.size w1 wr) (fun _ i _=>0 - (intOf i).toNat)
  case atStart=>exact⟨0,Nat.zero_le _,rfl,by simp[sumL],by simp[sumL],by simp,Below.refl _ _⟩
  case round=>
   obtain⟨k,hk,rfl,rfl,aY,aF,aA⟩:=hrel
   have aH:=hidF aF
   clear aF
   have aZ:=aA.size
   have q4:wr.cell? ⟨w.heap.size,2,none⟩=some (.slice ka 0 kc):=(aA.cell (p:=⟨w.heap.size,2,none⟩) aS).trans m2
   generalize hgs:sumL (fun k=>cntK n k) ((Kd.kids t).take k)=sm at *
   have aR:=hidF hgs
   clear hgs
   by_cases hlt:k<0
   ·exact absurd hlt (Nat.not_lt_zero _)
   ·have aO:k=(Kd.kids t).length:=by have:=aT.out;omega
    have HF:Hid (qbE (n+1) t d=1+(sm:Int)):=by
     show _=_
     have h1:=aH.out
     have h2:=aR.out
     rw[aO,List.take_length]at h1 h2
     rw[qhF n t d bF.out h1 (by rw[h2];omega),h2]
    have aL:=qaA aN (by omega) aA
    clear aO aB
    go_wp2_with fail
    go_ret
    exact⟨qaN HF.out.symm,aL⟩
 ·generalize hw1:w.alloc (.cells #[.int .i64 4,.slice na (Kd.names t).length nc,.slice ka (Kd.kids t).length kc] 55)=w1 at *
  obtain⟨_,_,aX,-,aB⟩:=hK
  cases aX
  have aT:Hid ((Kd.kids t).length=1):=aG
  rw[aG]at m2
  rw[aI,aG]at hw1 ⊢
  have bB:=hidF hw1
  clear aI aG HC aM hw1
  go_enter Tryz.func59,Tryz.ntmps59
  go_wp2_with (go_at_call 45;refine (H6.out _).mono ?_;rintro e w' ⟨rfl,rfl⟩)
  rw[bB.out]
  go_loopw [6,7] (fun a i wr=>∃ k:Nat,k<=1/\i=.int .i64 k/\a=.int .i64 (1+(sumL (fun k=>cntK n k) ((Kd.kids t).take k):Int))/\1+sumL (fun k=>cntK n k) ((Kd.kids t).take k)<=40 /\
    ((Kd.kids t).take k).all (fun k=>goodK n k (d+1))=true/\Below w1.heap.size w1 wr) (fun _ i _=>1 - (intOf i).toNat)
  case atStart=>exact⟨0,Nat.zero_le _,rfl,by simp[sumL],by simp[sumL],by simp,Below.refl _ _⟩
  case round=>
   obtain⟨k,hk,rfl,rfl,aY,aF,aA⟩:=hrel
   have aH:=hidF aF
   clear aF
   have aZ:=aA.size
   have q4:wr.cell? ⟨w.heap.size,2,none⟩=some (.slice ka 1 kc):=(aA.cell (p:=⟨w.heap.size,2,none⟩) aS).trans m2
   generalize hgs:sumL (fun k=>cntK n k) ((Kd.kids t).take k)=sm at *
   have aR:=hidF hgs
   clear hgs
   by_cases hlt:k<1
   ·have aC:k<(Kd.kids t).length:=by have:=aT.out;omega
    obtain⟨b,off,rfl,bE,aE⟩:=aB (by intro h;rw[h]at aC;simp at aC)
    obtain⟨x0,x1,x2,e0,e1,e2,hr⟩:=aE k aC
    have bK:=hB b bE
    have f0:=(aA.cell (p:=⟨b,off+k*3,none⟩) (by show b<_;omega)).trans e0
    have f1:=(aA.cell (p:=⟨b,off+k*3+1,none⟩) (by show b<_;omega)).trans e1
    have f2:=(aA.cell (p:=⟨b,off+k*3+2,none⟩) (by show b<_;omega)).trans e2
    have q:=hr.keep (qaB aA (fun b hb=>by have:=hB b hb;omega)) (fun _ h=>h)
    clear aB aE e0 e1 e2 hr
    have aU:Hid (Calls Tryz.prog 59 _ _ _):=hn S (Kd.kids t)[k] x0 x1 x2 (d+1) wr q (fun b hb=>by have:=hB b hb;omega) (by omega) (by omega)
    have bL:=qlO n (Kd.kids t)[k] (d+1)
    have aP:Hid (qbE n (Kd.kids t)[k] (d+1)<0->qbE (n+1) t d = -1):=fun h=>qjY n t d k aC h
    have aJ:Hid (0<=qbE n (Kd.kids t)[k] (d+1)->qbE n (Kd.kids t)[k] (d+1)=cntK n (Kd.kids t)[k]/\goodK n (Kd.kids t)[k] (d+1)=true):=fun h=>⟨(qeV n _ _ h).1,(qeV n _ _ h).2.1⟩
    have aD:Hid (sumL (fun k=>cntK n k) ((Kd.kids t).take (k+1))=sm+cntK n (Kd.kids t)[k]):=by show _=_;rw[qaO _ _ _ aC,aR.out]
    have aK:Hid (goodK n (Kd.kids t)[k] (d+1)=true->((Kd.kids t).take (k+1)).all (fun k=>goodK n k (d+1))=true):=fun h=>qeS k aC aH.out h
    clear q
    generalize hkk:(Kd.kids t)[k]=kk at *
    clear hkk aC
    go_wp2_with fail
    refine aU.out.mono ?_
    rintro e w2 ⟨rfl,aW⟩
    have aV:=qaA aA aZ aW
    have aL:=qaA aN (by omega) aV
    clear aW f0 f1 f2 aA q4 aU
    generalize hpr:qbE n kk (d+1)=r at *
    clear hpr
    by_cases hr0:r<0
    ·go_wp2_with fail
     go_ret
     exact⟨qaN (aP.out hr0).symm,aL⟩
    ·by_cases hmany:40<1+(sm:Int)+r
     ·go_wp2_with fail
      go_ret
      refine⟨qaN (qhV n t d (k+1) ?_).symm,aL⟩
      have:=aJ.out (by omega)
      rw[aD.out];omega
     ·go_wp2_with fail
      go_roundw
      case rel=>
       have hg:=aJ.out (by omega)
       refine⟨k+1,by omega,by go_num,?_,?_,aK.out hg.2,aV⟩
       ·rw[aD.out,hg.1];go_num
       ·rw[aD.out];omega
      case measure=>simp[intOf];omega
   ·have aO:k=(Kd.kids t).length:=by have:=aT.out;omega
    have HF:Hid (qbE (n+1) t d=1+(sm:Int)):=by
     show _=_
     have h1:=aH.out
     have h2:=aR.out
     rw[aO,List.take_length]at h1 h2
     rw[qhF n t d bF.out h1 (by rw[h2];omega),h2]
    have aL:=qaA aN (by omega) aA
    clear aO aB
    go_wp2_with fail
    go_ret
    exact⟨qaN HF.out.symm,aL⟩
 ·generalize hw1:w.alloc (.cells #[.int .i64 6,.slice na (Kd.names t).length nc,.slice ka (Kd.kids t).length kc] 55)=w1 at *
  obtain⟨_,_,aX,-,aB⟩:=hK
  cases aX
  have aT:Hid ((Kd.kids t).length=1):=aG
  rw[aG]at m2
  rw[aI,aG]at hw1 ⊢
  have bB:=hidF hw1
  clear aI aG HC aM hw1
  go_enter Tryz.func59,Tryz.ntmps59
  go_wp2_with (go_at_call 45;refine (H6.out _).mono ?_;rintro e w' ⟨rfl,rfl⟩)
  rw[bB.out]
  go_loopw [6,7] (fun a i wr=>∃ k:Nat,k<=1/\i=.int .i64 k/\a=.int .i64 (1+(sumL (fun k=>cntK n k) ((Kd.kids t).take k):Int))/\1+sumL (fun k=>cntK n k) ((Kd.kids t).take k)<=40 /\
    ((Kd.kids t).take k).all (fun k=>goodK n k (d+1))=true/\Below w1.heap.size w1 wr) (fun _ i _=>1 - (intOf i).toNat)
  case atStart=>exact⟨0,Nat.zero_le _,rfl,by simp[sumL],by simp[sumL],by simp,Below.refl _ _⟩
  case round=>
   obtain⟨k,hk,rfl,rfl,aY,aF,aA⟩:=hrel
   have aH:=hidF aF
   clear aF
   have aZ:=aA.size
   have q4:wr.cell? ⟨w.heap.size,2,none⟩=some (.slice ka 1 kc):=(aA.cell (p:=⟨w.heap.size,2,none⟩) aS).trans m2
   generalize hgs:sumL (fun k=>cntK n k) ((Kd.kids t).take k)=sm at *
   have aR:=hidF hgs
   clear hgs
   by_cases hlt:k<1
   ·have aC:k<(Kd.kids t).length:=by have:=aT.out;omega
    obtain⟨b,off,rfl,bE,aE⟩:=aB (by intro h;rw[h]at aC;simp at aC)
    obtain⟨x0,x1,x2,e0,e1,e2,hr⟩:=aE k aC
    have bK:=hB b bE
    have f0:=(aA.cell (p:=⟨b,off+k*3,none⟩) (by show b<_;omega)).trans e0
    have f1:=(aA.cell (p:=⟨b,off+k*3+1,none⟩) (by show b<_;omega)).trans e1
    have f2:=(aA.cell (p:=⟨b,off+k*3+2,none⟩) (by show b<_;omega)).trans e2
    have q:=hr.keep (qaB aA (fun b hb=>by have:=hB b hb;omega)) (fun _ h=>h)
    clear aB aE e0 e1 e2 hr
    have aU:Hid (Calls Tryz.prog 59 _ _ _):=hn S (Kd.kids t)[k] x0 x1 x2 (d+1) wr q (fun b hb=>by have:=hB b hb;omega) (by omega) (by omega)
    have bL:=qlO n (Kd.kids t)[k] (d+1)
    have aP:Hid (qbE n (Kd.kids t)[k] (d+1)<0->qbE (n+1) t d = -1):=fun h=>qjY n t d k aC h
    have aJ:Hid (0<=qbE n (Kd.kids t)[k] (d+1)->qbE n (Kd.kids t)[k] (d+1)=cntK n (Kd.kids t)[k]/\goodK n (Kd.kids t)[k] (d+1)=true):=fun h=>⟨(qeV n _ _ h).1,(qeV n _ _ h).2.1⟩
    have aD:Hid (sumL (fun k=>cntK n k) ((Kd.kids t).take (k+1))=sm+cntK n (Kd.kids t)[k]):=by show _=_;rw[qaO _ _ _ aC,aR.out]
    have aK:Hid (goodK n (Kd.kids t)[k] (d+1)=true->((Kd.kids t).take (k+1)).all (fun k=>goodK n k (d+1))=true):=fun h=>qeS k aC aH.out h
    clear q
    generalize hkk:(Kd.kids t)[k]=kk at *
    clear hkk aC
    go_wp2_with fail
    refine aU.out.mono ?_
    rintro e w2 ⟨rfl,aW⟩
    have aV:=qaA aA aZ aW
    have aL:=qaA aN (by omega) aV
    clear aW f0 f1 f2 aA q4 aU
    generalize hpr:qbE n kk (d+1)=r at *
    clear hpr
    by_cases hr0:r<0
    ·go_wp2_with fail
     go_ret
     exact⟨qaN (aP.out hr0).symm,aL⟩
    ·by_cases hmany:40<1+(sm:Int)+r
     ·go_wp2_with fail
      go_ret
      refine⟨qaN (qhV n t d (k+1) ?_).symm,aL⟩
      have:=aJ.out (by omega)
      rw[aD.out];omega
     ·go_wp2_with fail
      go_roundw
      case rel=>
       have hg:=aJ.out (by omega)
       refine⟨k+1,by omega,by go_num,?_,?_,aK.out hg.2,aV⟩
       ·rw[aD.out,hg.1];go_num
       ·rw[aD.out];omega
      case measure=>simp[intOf];omega
   ·have aO:k=(Kd.kids t).length:=by have:=aT.out;omega
    have HF:Hid (qbE (n+1) t d=1+(sm:Int)):=by
     show _=_
     have h1:=aH.out
     have h2:=aR.out
     rw[aO,List.take_length]at h1 h2
     rw[qhF n t d bF.out h1 (by rw[h2];omega),h2]
    have aL:=qaA aN (by omega) aA
    clear aO aB
    go_wp2_with fail
    go_ret
    exact⟨qaN HF.out.symm,aL⟩
 ·have bO:(((Kd.names t).length:Int) != ((Kd.kids t).length:Int))=false:=by simp;omega
  have bC:=hidF aG
  have aT:Hid ((Kd.kids t).length=(Kd.kids t).length):=rfl
  clear aI aG aM
  go_enter Tryz.func59,Tryz.ntmps59
  go_wp2_with (go_at_call 45;refine (H6.out _).mono ?_;rintro e w' ⟨rfl,rfl⟩)
  refine HC.out.mono ?_
  rintro e w1 ⟨rfl,bA⟩
  rw[bC.out]
  have m0':w1.cell? ⟨w.heap.size,0,none⟩=some (.int .i64 5):=(bA.cell (p:=⟨w.heap.size,0,none⟩) aS).trans (by simp[go_sem])
  replace m2:=(bA.cell (p:=⟨w.heap.size,2,none⟩) aS).trans m2
  replace hK:=hK.keepK (qaB bA (fun b hb=>by have:=hB b hb;simp;omega)) (fun _ h=>h)
  replace aN:=qaA aN (by simp) bA
  replace aS:=Nat.lt_of_lt_of_le aS bA.size
  clear bO HC bA
  go_wp2_with fail
  clear m0'
  obtain⟨_,_,aX,-,aB⟩:=hK
  cases aX
  go_loopw [6,7] (fun a i wr=>∃ k:Nat,k<=(Kd.kids t).length/\i=.int .i64 k/\a=.int .i64 (1+(sumL (fun k=>cntK n k) ((Kd.kids t).take k):Int))/\1+sumL (fun k=>cntK n k) ((Kd.kids t).take k)<=40 /\
    ((Kd.kids t).take k).all (fun k=>goodK n k (d+1))=true/\Below w1.heap.size w1 wr) (fun _ i _=>(Kd.kids t).length - (intOf i).toNat)
  case atStart=>exact⟨0,Nat.zero_le _,rfl,by simp[sumL],by simp[sumL],by simp,Below.refl _ _⟩
  case round=>
   obtain⟨k,hk,rfl,rfl,aY,aF,aA⟩:=hrel
   have aH:=hidF aF
   clear aF
   have aZ:=aA.size
   have q4:wr.cell? ⟨w.heap.size,2,none⟩=some (.slice ka (Kd.kids t).length kc):=(aA.cell (p:=⟨w.heap.size,2,none⟩) aS).trans m2
   generalize hgs:sumL (fun k=>cntK n k) ((Kd.kids t).take k)=sm at *
   have aR:=hidF hgs
   clear hgs
   by_cases hlt:k<(Kd.kids t).length
   ·have aC:k<(Kd.kids t).length:=by omega
    obtain⟨b,off,rfl,bE,aE⟩:=aB (by intro h;rw[h]at aC;simp at aC)
    obtain⟨x0,x1,x2,e0,e1,e2,hr⟩:=aE k aC
    have bK:=hB b bE
    have f0:=(aA.cell (p:=⟨b,off+k*3,none⟩) (by show b<_;omega)).trans e0
    have f1:=(aA.cell (p:=⟨b,off+k*3+1,none⟩) (by show b<_;omega)).trans e1
    have f2:=(aA.cell (p:=⟨b,off+k*3+2,none⟩) (by show b<_;omega)).trans e2
    have q:=hr.keep (qaB aA (fun b hb=>by have:=hB b hb;omega)) (fun _ h=>h)
    clear aB aE e0 e1 e2 hr
    have aU:Hid (Calls Tryz.prog 59 _ _ _):=hn S (Kd.kids t)[k] x0 x1 x2 (d+1) wr q (fun b hb=>by have:=hB b hb;omega) (by omega) (by omega)
    have bL:=qlO n (Kd.kids t)[k] (d+1)
    have aP:Hid (qbE n (Kd.kids t)[k] (d+1)<0->qbE (n+1) t d = -1):=fun h=>qjY n t d k aC h
    have aJ:Hid (0<=qbE n (Kd.kids t)[k] (d+1)->qbE n (Kd.kids t)[k] (d+1)=cntK n (Kd.kids t)[k]/\goodK n (Kd.kids t)[k] (d+1)=true):=fun h=>⟨(qeV n _ _ h).1,(qeV n _ _ h).2.1⟩
    have aD:Hid (sumL (fun k=>cntK n k) ((Kd.kids t).take (k+1))=sm+cntK n (Kd.kids t)[k]):=by show _=_;rw[qaO _ _ _ aC,aR.out]
    have aK:Hid (goodK n (Kd.kids t)[k] (d+1)=true->((Kd.kids t).take (k+1)).all (fun k=>goodK n k (d+1))=true):=fun h=>qeS k aC aH.out h
    clear q
    generalize hkk:(Kd.kids t)[k]=kk at *
    clear hkk aC
    go_wp2_with fail
    refine aU.out.mono ?_
    rintro e w2 ⟨rfl,aW⟩
    have aV:=qaA aA aZ aW
    have aL:=qaA aN (by omega) aV
    clear aW f0 f1 f2 aA q4 aU
    generalize hpr:qbE n kk (d+1)=r at *
    clear hpr
    by_cases hr0:r<0
    ·go_wp2_with fail
     go_ret
     exact⟨qaN (aP.out hr0).symm,aL⟩
    ·by_cases hmany:40<1+(sm:Int)+r
     ·go_wp2_with fail
      go_ret
      refine⟨qaN (qhV n t d (k+1) ?_).symm,aL⟩
      have:=aJ.out (by omega)
      rw[aD.out];omega
     ·go_wp2_with fail
      go_roundw
      case rel=>
       have hg:=aJ.out (by omega)
       refine⟨k+1,by omega,by go_num,?_,?_,aK.out hg.2,aV⟩
       ·rw[aD.out,hg.1];go_num
       ·rw[aD.out];omega
      case measure=>simp[intOf];omega
   ·have aO:k=(Kd.kids t).length:=by omega
    have HF:Hid (qbE (n+1) t d=1+(sm:Int)):=by
     show _=_
     have h1:=aH.out
     have h2:=aR.out
     rw[aO,List.take_length]at h1 h2
     rw[qhF n t d bF.out h1 (by rw[h2];omega),h2]
    have aL:=qaA aN (by omega) aA
    clear aO aB
    go_wp2_with fail
    go_ret
    exact⟨qaN HF.out.symm,aL⟩
theorem qvA:∀ n,qkH n:=by
 intro n
 induction n with
 | zero=>intro S t c0 c1 c2 d w ht;exact ht.elim
 | succ n ih=>exact qtA n ih
theorem qvB (n:Nat) (S:Nat->Prop) (t:K n) (c0 c1 c2:Value) (w:World) (ht:KindIn S w n t c0 c1 c2) (hB:∀ b,S b->b<w.heap.size) :
  Calls Tryz.prog 42 #[.agg #[c0,c1,c2]] w fun e w'=>e=.returned (.bool (okK n t))/\Below w.heap.size w w':=by
 obtain⟨x0,xa,xl,xc,ya,yl,yc,rfl,rfl,rfl⟩:=ht.shape
 have aA:=(Below.refl w.heap.size w).alloc (Nat.le_refl _) (.cells #[.int .i64 x0,.slice xa xl xc,.slice ya yl yc] 55)
 have aB:=ht.keep (qaB aA hB) (fun _ h=>h)
 have aD:Hid (decide (0<qbE n t 1)=okK n t):=okK_eq n t
 have HC:Hid (Calls Tryz.prog 59 _ _ _):=qvA n S t _ _ _ 1 _ aB (fun b hb=>by have:=hB b hb;simp;omega) (by omega) (by omega)
 clear ht aB
 go_enter Tryz.func42,Tryz.ntmps42
 go_wp2_with fail
 refine HC.out.mono ?_
 rintro e w1 ⟨rfl,aC⟩
 have aE:=qaA aA (by simp) aC
 clear aA aC HC
 go_wp2_with fail
 go_ret
 exact⟨qbN aD.out,aE⟩
end Go.Proofs.YtelogmjfekhmpaaGreatDoor
