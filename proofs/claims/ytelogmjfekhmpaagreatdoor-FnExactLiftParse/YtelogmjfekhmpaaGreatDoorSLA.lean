import Derived.Test.YtelogmjfekhmpaaGreatDoorSL8
import Derived.Test.YtelogmjfekhmpaaGreatDoorSL9
namespace Go.Proofs.YtelogmjfekhmpaaGreatDoor
set_option maxRecDepth 100000
set_option maxHeartbeats 16000000
open Go.RowKit
theorem xhM (m:Nat) (hn:TextS m) (S:Nat->Prop) (n:Nd (T m)) (na ka:Option Addr) (nc kc k:Nat) (d:Int) (w:World) (hk44:k<44) (hk5:5<=k) (h24:k≠24) (hB:∀ b,S b->b<w.heap.size) (h3:StrsIn S w n.names (.slice na n.names.length nc)) (h4:RowIn S w (NodeIn S w m) n.kids (.slice ka n.kids.length kc))
  (hg:n.kids.all (fun x=>goodN m x d)=true) (hnum:(k=37∨k=39)->0<=n.num/\n.num<=99)
  (hl:(wrd k).size+szN n.names+(if n.text.size=0 then 0 else n.text.size+1)+(if k=37∨k=39 then (Lib.itoa n.num).length+1 else 0)+sumL (fun x=>lenN m x+1) n.kids<=800000) :
  Calls Tryz.prog 32 #[.agg #[.int .i64 (k:Int),.int .i64 n.num,.string n.text,.slice na n.names.length nc,.slice ka n.kids.length kc]] w fun e w'=>Below w.heap.size w w' /\ ∃ s,e=.returned (.string s)/\s.size=(wrd k).size+szN n.names+(if n.text.size=0 then 0 else n.text.size+1)+(if k=37∨k=39 then (Lib.itoa n.num).length+1 else 0)+sumL (fun x=>lenN m x+1) n.kids:=by
 obtain⟨W,hW⟩:∃ W,W=w.alloc (.cells #[.int .i64 (k:Int),.int .i64 n.num,.string n.text,.slice na n.names.length nc,.slice ka n.kids.length kc] 25):=⟨_,rfl⟩
 have bD:Below w.heap.size w W:=by rw[hW];exact (Below.refl _ _).alloc (Nat.le_refl _) _
 have bT:w.heap.size<W.heap.size:=by rw[hW];simp
 have bA:W.heap[w.heap.size]?=some (.cells #[.int .i64 (k:Int),.int .i64 n.num,.string n.text,.slice na n.names.length nc,.slice ka n.kids.length kc] 25 (0,0)):=by rw[hW];exact heap_alloc_last _ _
 obtain⟨_,_,hv,bP,bQ,bK⟩:=h3.keep (qaB bD hB) (fun _ h=>h)
 cases hv
 obtain⟨_,_,hv,bR,aM⟩:=h4.keepN (qaB bD hB) (fun _ h=>h)
 cases hv
 have HG:Hid (∀ k (h:k<n.kids.length),goodN m n.kids[k] d=true):=fun k h=>List.all_eq_true.1 hg _ (List.getElem_mem h)
 have bJ:Hid (∀ w,Calls Tryz.prog 39 #[.int .i64 (k:Int)] w _):=fun w=>qmC k hk44 w
 have d1:((k:Int)==1)=false:=by simp;omega
 have d2:((k:Int)==2)=false:=by simp;omega
 have d3:((k:Int)==3)=false:=by simp;omega
 have d4:((k:Int)==4)=false:=by simp;omega
 have d24:((k:Int)==24)=false:=by simp;omega
 obtain⟨A,hA⟩:∃ A,A=(wrd k).size:=⟨_,rfl⟩
 obtain⟨Bx,bI⟩:∃ Bx,Bx=(if n.text.size=0 then 0 else n.text.size+1):=⟨_,rfl⟩
 obtain⟨C,hC⟩:∃ C,C=(if k=37∨k=39 then (Lib.itoa n.num).length+1 else 0):=⟨_,rfl⟩
 rw[<- hA,<- bI,<- hC]at hl ⊢
 have HA:=hidF hA
 have bE:=hidF bI
 have bF:=hidF hC
 have HL:=hidF hl
 have aZ:=hidF bD
 have bB:=hidF hnum
 have aJ:=hidF bA
 unfold maxLen at bP bR
 clear hg hl h3 h4 bD hA bI hC hnum bA h24
 subst hW
 go_enter Tryz.func32,Tryz.ntmps32
 go_wp2_with fail
 refine (bJ.out _).mono ?_
 rintro e w1 ⟨rfl,aH⟩
 have bL:=hidF aH
 have bM:Hid ((wrd k).size=A):=HA.out.symm
 clear aH bJ
 generalize wrd k=s0 at *
 go_wp2_with fail
 go_loopw [5,6] (fun a i wr=>∃ (j:Nat) (s:ByteArray),j<=n.names.length/\i=.int .i64 j/\a=.string s/\Hid (s.size=A+szN (n.names.take j))/\Below (w.heap.size+1) (w.alloc (.cells #[.int .i64 (k:Int),.int .i64 n.num,.string n.text,.slice na n.names.length nc,.slice ka n.kids.length kc] 25)) wr) (fun _ i _=>n.names.length - (intOf i).toNat)
 case atStart=>exact⟨0,s0,Nat.zero_le _,rfl,rfl,by show _=_;rw[bM.out];simp[szN],by have:=bL.out;simpa using this⟩
 case round=>
  obtain⟨j,s,hj,rfl,rfl,HS,aA⟩:=hrel
  obtain⟨z0,z1,z2,z3,z4⟩:=qcF ((aA.block w.heap.size (by omega)).trans aJ.out)
  by_cases aC:j<n.names.length
  ·obtain⟨b,off,rfl,bS,aW⟩:=bK (by intro h;rw[h]at aC;simp at aC)
   have bU:=hB b bS
   have e0:=(aA.cell (p:=⟨b,off+j,none⟩) (by show b<_;omega)).trans (aW j aC)
   have HN:Hid (szN (n.names.take (j+1))=szN (n.names.take j)+(n.names[j].size+1)):=qiH _ _ aC
   have aX:s.size+n.names[j].size+1<=900000:=by
    have h1:=qmZ n.names (j+1)
    have h3:=HL.out
    rw[HN.out]at h1
    rw[HS.out];omega
   have aF:=hidF aA
   clear aW aA
   generalize n.names[j]=nm at *
   have aK:Hid (((s++⟨#[32]⟩)++nm).size=A+szN (n.names.take (j+1))):=by
    show _=_
    rw[HN.out,qaP,qaP,HS.out]
    show _+1+_=_
    omega
   go_wp2_with fail
   go_roundw
   case rel=>exact⟨j+1,_,by omega,by go_num,rfl,aK,aF.out⟩
   case measure=>simp[intOf];omega
  ·have aG:j=n.names.length:=by omega
   have aV:Hid (s.size=A+szN n.names):=by
    show _=_
    have:=HS.out
    rw[aG,List.take_length]at this
    exact this
   have aX:s.size<=800000:=by rw[aV.out];have:=HL.out;omega
   clear aG bK bQ HS
   have aF:=hidF aA
   have hz:=aA.size
   simp at hz
   clear aA
   have bV:s.size+Bx+C<=800000:=by rw[aV.out];have:=HL.out;omega
   by_cases ht:n.text.size=0
   ·by_cases hnm:k=37∨k=39
    ·have aT:n.text.toList=[]:=by rw[ByteArray.toList_eq];exact List.eq_nil_of_length_eq_zero (by simpa using ht)
     have bG:(n.text.toList==[])=true:=by rw[aT];rfl
     have aH:Bx=0:=by rw[bE.out,if_pos ht]
     have bH:=bB.out hnm
     obtain⟨x,hx⟩:∃ x:Nat,n.num=(x:Int):=⟨n.num.toNat,by omega⟩
     have aU:C=(Lib.decDigits x).length+1:=by
      rw[bF.out,if_pos hnm]
      unfold Lib.itoa
      rw[if_neg (by omega),show n.num.toNat=x by omega]
     have HD:Hid (∀ w,Calls Tryz.prog 48 #[.int .i64 (x:Int)] w _):=fun w=>qiO x x w (Nat.le_refl _) (by omega)
     rw[hx]at z1
     have aY:Hid ((bs (Lib.decDigits x)).size+1=C):=by show _=_;rw[qaJ];omega
     generalize bs (Lib.decDigits x)=sd at *
     have bN:sd.size<=900000:=by have:=aY.out;have:=HL.out;omega
     clear aU bH
     have d37:(((k:Int)==37) || ((k:Int)==39))=true:=by rcases hnm with h|h <;> simp[h]
     clear d37
     rcases hnm with aL|aL
     ·have d37:((k:Int)==37)=true:=by simp[aL]
      clear aL
      go_wp2_with fail
      refine (HD.out _).mono ?_
      rintro e w5 ⟨rfl,aR⟩
      have aN:Hid (Below (w.heap.size+1) _ w5):=aF.out.trans (aR.mono hz)
      have aO:Hid (((s++⟨#[32]⟩)++sd).size=A+szN n.names+Bx+C):=by
       show _=_
       rw[qaP,qaP,aV.out,aH,<- aY.out];show _+1+_=_;omega
      clear aR HD aT aH ht
      go_wp2_with fail
      go_loopw [5,7] (fun a i wr=>∃ (j:Nat) (s:ByteArray),j<=n.kids.length/\i=.int .i64 j/\a=.string s/\Hid (s.size=A+szN n.names+Bx+C+sumL (fun x=>lenN m x+1) (n.kids.take j))/\Below (w.heap.size+1) (w.alloc (.cells #[.int .i64 (k:Int),.int .i64 n.num,.string n.text,.slice na n.names.length nc,.slice ka n.kids.length kc] 25)) wr) (fun _ i _=>n.kids.length - (intOf i).toNat)
      case atStart=>exact⟨0,((s++⟨#[32]⟩)++sd),Nat.zero_le _,rfl,rfl,by show _=_;rw[aO.out];simp[sumL],aN.out⟩
      case round=>
       obtain⟨j,s,hj,rfl,rfl,HS,aA⟩:=hrel
       obtain⟨z0,z1,z2,z3,z4⟩:=qcF ((aA.block w.heap.size (by omega)).trans aJ.out)
       have hz:=aA.size
       simp at hz
       by_cases aC:j<n.kids.length
       ·obtain⟨b2,off2,rfl,aD,aB⟩:=aM (by intro h;have:=List.length_eq_zero_iff.2 h;omega)
        have aP:=hB b2 aD
        obtain⟨d0,d1',d2',d3',d4',k0,k1,k2,k3,k4,aE⟩:=aB j aC
        obtain⟨x0,x1,x2,xa,xl,xc,ya,yl,yc,rfl,rfl,rfl,rfl,rfl⟩:=aE.shape
        have f0:=(aA.cell (p:=⟨b2,off2+j*5,none⟩) (by show b2<_;omega)).trans k0
        have f1:=(aA.cell (p:=⟨b2,off2+j*5+1,none⟩) (by show b2<_;omega)).trans k1
        have f2:=(aA.cell (p:=⟨b2,off2+j*5+2,none⟩) (by show b2<_;omega)).trans k2
        have f3:=(aA.cell (p:=⟨b2,off2+j*5+3,none⟩) (by show b2<_;omega)).trans k3
        have f4:=(aA.cell (p:=⟨b2,off2+j*5+4,none⟩) (by show b2<_;omega)).trans k4
        have HN:Hid (sumL (fun x=>lenN m x+1) (n.kids.take (j+1))=sumL (fun x=>lenN m x+1) (n.kids.take j)+(lenN m n.kids[j]+1)):=qaO _ _ _ aC
        have aX:s.size+lenN m n.kids[j]+1<=800000:=by
         have h2:=qcS (fun x=>lenN m x+1) n.kids (j+1)
         have h3:=HL.out
         rw[HN.out]at h2
         rw[HS.out];omega
        have HC:Hid (Calls Tryz.prog 32 _ wr _):=hn S n.kids[j] _ _ _ _ _ d wr (aE.keep (qaB aA (fun b hb=>by have:=hB b hb;omega)) (fun _ h=>h)) (fun b hb=>by have:=hB b hb;omega) (HG.out j aC) (by omega)
        have aF:=hidF aA
        have bC:(j:Int)<(n.kids.length:Int):=by omega
        clear aB aE k0 k1 k2 k3 k4 aA
        generalize lenN m n.kids[j]=lk at *
        go_wp2_with fail
        refine HC.out.mono ?_
        rintro e w2 ⟨aI,s2,rfl,aS⟩
        have aQ:Hid (Below (w.heap.size+1) _ w2):=aF.out.trans (aI.mono hz)
        have aK:Hid (((s++⟨#[32]⟩)++s2).size=A+szN n.names+Bx+C+sumL (fun x=>lenN m x+1) (n.kids.take (j+1))):=by
         show _=_
         rw[HN.out,qaP,qaP,HS.out,aS]
         show _+1+_=_
         omega
        clear aI HC f0 f1 f2 f3 f4 z0 z1 z2 z3 z4
        go_wp2_with fail
        go_roundw
        case rel=>exact⟨j+1,_,by omega,by go_num,rfl,aK,aQ.out⟩
        case measure=>simp[intOf];omega
       ·have aG:j=n.kids.length:=by omega
        have HE:Hid (s.size=A+szN n.names+Bx+C+sumL (fun x=>lenN m x+1) n.kids):=by
         show _=_
         have:=HS.out
         rw[aG,List.take_length]at this
         exact this
        have HB:=hidF (aZ.out.trans (aA.mono (by omega)))
        clear aM aG aA HS
        go_wp2_with fail
        go_ret
        exact⟨HB.out,_,rfl,HE.out⟩
     ·have d37:((k:Int)==37)=false:=by simp[aL]
      have d39:((k:Int)==39)=true:=by simp[aL]
      clear aL
      go_wp2_with fail
      refine (HD.out _).mono ?_
      rintro e w5 ⟨rfl,aR⟩
      have aN:Hid (Below (w.heap.size+1) _ w5):=aF.out.trans (aR.mono hz)
      have aO:Hid (((s++⟨#[32]⟩)++sd).size=A+szN n.names+Bx+C):=by
       show _=_
       rw[qaP,qaP,aV.out,aH,<- aY.out];show _+1+_=_;omega
      clear aR HD aT aH ht
      go_wp2_with fail
      go_loopw [5,7] (fun a i wr=>∃ (j:Nat) (s:ByteArray),j<=n.kids.length/\i=.int .i64 j/\a=.string s/\Hid (s.size=A+szN n.names+Bx+C+sumL (fun x=>lenN m x+1) (n.kids.take j))/\Below (w.heap.size+1) (w.alloc (.cells #[.int .i64 (k:Int),.int .i64 n.num,.string n.text,.slice na n.names.length nc,.slice ka n.kids.length kc] 25)) wr) (fun _ i _=>n.kids.length - (intOf i).toNat)
      case atStart=>exact⟨0,((s++⟨#[32]⟩)++sd),Nat.zero_le _,rfl,rfl,by show _=_;rw[aO.out];simp[sumL],aN.out⟩
      case round=>
       obtain⟨j,s,hj,rfl,rfl,HS,aA⟩:=hrel
       obtain⟨z0,z1,z2,z3,z4⟩:=qcF ((aA.block w.heap.size (by omega)).trans aJ.out)
       have hz:=aA.size
       simp at hz
       by_cases aC:j<n.kids.length
       ·obtain⟨b2,off2,rfl,aD,aB⟩:=aM (by intro h;have:=List.length_eq_zero_iff.2 h;omega)
        have aP:=hB b2 aD
        obtain⟨d0,d1',d2',d3',d4',k0,k1,k2,k3,k4,aE⟩:=aB j aC
        obtain⟨x0,x1,x2,xa,xl,xc,ya,yl,yc,rfl,rfl,rfl,rfl,rfl⟩:=aE.shape
        have f0:=(aA.cell (p:=⟨b2,off2+j*5,none⟩) (by show b2<_;omega)).trans k0
        have f1:=(aA.cell (p:=⟨b2,off2+j*5+1,none⟩) (by show b2<_;omega)).trans k1
        have f2:=(aA.cell (p:=⟨b2,off2+j*5+2,none⟩) (by show b2<_;omega)).trans k2
        have f3:=(aA.cell (p:=⟨b2,off2+j*5+3,none⟩) (by show b2<_;omega)).trans k3
        have f4:=(aA.cell (p:=⟨b2,off2+j*5+4,none⟩) (by show b2<_;omega)).trans k4
        have HN:Hid (sumL (fun x=>lenN m x+1) (n.kids.take (j+1))=sumL (fun x=>lenN m x+1) (n.kids.take j)+(lenN m n.kids[j]+1)):=qaO _ _ _ aC
        have aX:s.size+lenN m n.kids[j]+1<=800000:=by
         have h2:=qcS (fun x=>lenN m x+1) n.kids (j+1)
         have h3:=HL.out
         rw[HN.out]at h2
         rw[HS.out];omega
        have HC:Hid (Calls Tryz.prog 32 _ wr _):=hn S n.kids[j] _ _ _ _ _ d wr (aE.keep (qaB aA (fun b hb=>by have:=hB b hb;omega)) (fun _ h=>h)) (fun b hb=>by have:=hB b hb;omega) (HG.out j aC) (by omega)
        have aF:=hidF aA
        have bC:(j:Int)<(n.kids.length:Int):=by omega
        clear aB aE k0 k1 k2 k3 k4 aA
        generalize lenN m n.kids[j]=lk at *
        go_wp2_with fail
        refine HC.out.mono ?_
        rintro e w2 ⟨aI,s2,rfl,aS⟩
        have aQ:Hid (Below (w.heap.size+1) _ w2):=aF.out.trans (aI.mono hz)
        have aK:Hid (((s++⟨#[32]⟩)++s2).size=A+szN n.names+Bx+C+sumL (fun x=>lenN m x+1) (n.kids.take (j+1))):=by
         show _=_
         rw[HN.out,qaP,qaP,HS.out,aS]
         show _+1+_=_
         omega
        clear aI HC f0 f1 f2 f3 f4 z0 z1 z2 z3 z4
        go_wp2_with fail
        go_roundw
        case rel=>exact⟨j+1,_,by omega,by go_num,rfl,aK,aQ.out⟩
        case measure=>simp[intOf];omega
       ·have aG:j=n.kids.length:=by omega
        have HE:Hid (s.size=A+szN n.names+Bx+C+sumL (fun x=>lenN m x+1) n.kids):=by
         show _=_
         have:=HS.out
         rw[aG,List.take_length]at this
         exact this
        have HB:=hidF (aZ.out.trans (aA.mono (by omega)))
        clear aM aG aA HS
        go_wp2_with fail
        go_ret
        exact⟨HB.out,_,rfl,HE.out⟩
    ·have aT:n.text.toList=[]:=by rw[ByteArray.toList_eq];exact List.eq_nil_of_length_eq_zero (by simpa using ht)
     have bG:(n.text.toList==[])=true:=by rw[aT];rfl
     have aH:Bx=0:=by rw[bE.out,if_pos ht]
     have aU:C=0:=by rw[bF.out,if_neg hnm]
     have d37:((k:Int)==37)=false:=by simp;omega
     have d39:((k:Int)==39)=false:=by simp;omega
     have aO:Hid (s.size=A+szN n.names+Bx+C):=by
      show _=_
      rw[aV.out,aH,aU];omega
     have aN:=aF
     clear aT aH aU ht hnm
     go_wp2_with fail
     go_loopw [5,7] (fun a i wr=>∃ (j:Nat) (s:ByteArray),j<=n.kids.length/\i=.int .i64 j/\a=.string s/\Hid (s.size=A+szN n.names+Bx+C+sumL (fun x=>lenN m x+1) (n.kids.take j))/\Below (w.heap.size+1) (w.alloc (.cells #[.int .i64 (k:Int),.int .i64 n.num,.string n.text,.slice na n.names.length nc,.slice ka n.kids.length kc] 25)) wr) (fun _ i _=>n.kids.length - (intOf i).toNat)
     case atStart=>exact⟨0,s,Nat.zero_le _,rfl,rfl,by show _=_;rw[aO.out];simp[sumL],aN.out⟩
     case round=>
      obtain⟨j,s,hj,rfl,rfl,HS,aA⟩:=hrel
      obtain⟨z0,z1,z2,z3,z4⟩:=qcF ((aA.block w.heap.size (by omega)).trans aJ.out)
      have hz:=aA.size
      simp at hz
      by_cases aC:j<n.kids.length
      ·obtain⟨b2,off2,rfl,aD,aB⟩:=aM (by intro h;have:=List.length_eq_zero_iff.2 h;omega)
       have aP:=hB b2 aD
       obtain⟨d0,d1',d2',d3',d4',k0,k1,k2,k3,k4,aE⟩:=aB j aC
       obtain⟨x0,x1,x2,xa,xl,xc,ya,yl,yc,rfl,rfl,rfl,rfl,rfl⟩:=aE.shape
       have f0:=(aA.cell (p:=⟨b2,off2+j*5,none⟩) (by show b2<_;omega)).trans k0
       have f1:=(aA.cell (p:=⟨b2,off2+j*5+1,none⟩) (by show b2<_;omega)).trans k1
       have f2:=(aA.cell (p:=⟨b2,off2+j*5+2,none⟩) (by show b2<_;omega)).trans k2
       have f3:=(aA.cell (p:=⟨b2,off2+j*5+3,none⟩) (by show b2<_;omega)).trans k3
       have f4:=(aA.cell (p:=⟨b2,off2+j*5+4,none⟩) (by show b2<_;omega)).trans k4
       have HN:Hid (sumL (fun x=>lenN m x+1) (n.kids.take (j+1))=sumL (fun x=>lenN m x+1) (n.kids.take j)+(lenN m n.kids[j]+1)):=qaO _ _ _ aC
       have aX:s.size+lenN m n.kids[j]+1<=800000:=by
        have h2:=qcS (fun x=>lenN m x+1) n.kids (j+1)
        have h3:=HL.out
        rw[HN.out]at h2
        rw[HS.out];omega
       have HC:Hid (Calls Tryz.prog 32 _ wr _):=hn S n.kids[j] _ _ _ _ _ d wr (aE.keep (qaB aA (fun b hb=>by have:=hB b hb;omega)) (fun _ h=>h)) (fun b hb=>by have:=hB b hb;omega) (HG.out j aC) (by omega)
       have aF:=hidF aA
       have bC:(j:Int)<(n.kids.length:Int):=by omega
       clear aB aE k0 k1 k2 k3 k4 aA
       generalize lenN m n.kids[j]=lk at *
       go_wp2_with fail
       refine HC.out.mono ?_
       rintro e w2 ⟨aI,s2,rfl,aS⟩
       have aQ:Hid (Below (w.heap.size+1) _ w2):=aF.out.trans (aI.mono hz)
       have aK:Hid (((s++⟨#[32]⟩)++s2).size=A+szN n.names+Bx+C+sumL (fun x=>lenN m x+1) (n.kids.take (j+1))):=by
        show _=_
        rw[HN.out,qaP,qaP,HS.out,aS]
        show _+1+_=_
        omega
       clear aI HC f0 f1 f2 f3 f4 z0 z1 z2 z3 z4
       go_wp2_with fail
       go_roundw
       case rel=>exact⟨j+1,_,by omega,by go_num,rfl,aK,aQ.out⟩
       case measure=>simp[intOf];omega
      ·have aG:j=n.kids.length:=by omega
       have HE:Hid (s.size=A+szN n.names+Bx+C+sumL (fun x=>lenN m x+1) n.kids):=by
        show _=_
        have:=HS.out
        rw[aG,List.take_length]at this
        exact this
       have HB:=hidF (aZ.out.trans (aA.mono (by omega)))
       clear aM aG aA HS
       go_wp2_with fail
       go_ret
       exact⟨HB.out,_,rfl,HE.out⟩
   ·by_cases hnm:k=37∨k=39
    ·have aT:¬ n.text.toList=[]:=by
      rw [ByteArray.toList_eq]; intro e; exact ht (by have h1 : n.text.data.toList.length = 0 := by rw [e]; rfl
                                                      simpa using h1)
     have bG:(n.text.toList==[])=false:=by simpa using aT
     have aH:Bx=n.text.size+1:=by rw[bE.out,if_neg ht]
     have bO:s.size+n.text.size+1<=800000:=by omega
     have bH:=bB.out hnm
     obtain⟨x,hx⟩:∃ x:Nat,n.num=(x:Int):=⟨n.num.toNat,by omega⟩
     have aU:C=(Lib.decDigits x).length+1:=by
      rw[bF.out,if_pos hnm]
      unfold Lib.itoa
      rw[if_neg (by omega),show n.num.toNat=x by omega]
     have HD:Hid (∀ w,Calls Tryz.prog 48 #[.int .i64 (x:Int)] w _):=fun w=>qiO x x w (Nat.le_refl _) (by omega)
     rw[hx]at z1
     have aY:Hid ((bs (Lib.decDigits x)).size+1=C):=by show _=_;rw[qaJ];omega
     generalize bs (Lib.decDigits x)=sd at *
     have bN:sd.size<=900000:=by have:=aY.out;have:=HL.out;omega
     clear aU bH
     have d37:(((k:Int)==37) || ((k:Int)==39))=true:=by rcases hnm with h|h <;> simp[h]
     clear d37
     rcases hnm with aL|aL
     ·have d37:((k:Int)==37)=true:=by simp[aL]
      clear aL
      go_wp2_with fail
      refine (HD.out _).mono ?_
      rintro e w5 ⟨rfl,aR⟩
      have aN:Hid (Below (w.heap.size+1) _ w5):=aF.out.trans (aR.mono hz)
      have aO:Hid (((((s++⟨#[32]⟩)++n.text)++⟨#[32]⟩)++sd).size=A+szN n.names+Bx+C):=by
       show _=_
       rw[qaP,qaP,qaP,qaP,aV.out,aH,<- aY.out];show _+1+_+1+_=_;omega
      clear aR HD aH ht
      go_wp2_with fail
      go_loopw [5,7] (fun a i wr=>∃ (j:Nat) (s:ByteArray),j<=n.kids.length/\i=.int .i64 j/\a=.string s/\Hid (s.size=A+szN n.names+Bx+C+sumL (fun x=>lenN m x+1) (n.kids.take j))/\Below (w.heap.size+1) (w.alloc (.cells #[.int .i64 (k:Int),.int .i64 n.num,.string n.text,.slice na n.names.length nc,.slice ka n.kids.length kc] 25)) wr) (fun _ i _=>n.kids.length - (intOf i).toNat)
      case atStart=>exact⟨0,((((s++⟨#[32]⟩)++n.text)++⟨#[32]⟩)++sd),Nat.zero_le _,rfl,rfl,by show _=_;rw[aO.out];simp[sumL],aN.out⟩
      case round=>
       obtain⟨j,s,hj,rfl,rfl,HS,aA⟩:=hrel
       obtain⟨z0,z1,z2,z3,z4⟩:=qcF ((aA.block w.heap.size (by omega)).trans aJ.out)
       have hz:=aA.size
       simp at hz
       by_cases aC:j<n.kids.length
       ·obtain⟨b2,off2,rfl,aD,aB⟩:=aM (by intro h;have:=List.length_eq_zero_iff.2 h;omega)
        have aP:=hB b2 aD
        obtain⟨d0,d1',d2',d3',d4',k0,k1,k2,k3,k4,aE⟩:=aB j aC
        obtain⟨x0,x1,x2,xa,xl,xc,ya,yl,yc,rfl,rfl,rfl,rfl,rfl⟩:=aE.shape
        have f0:=(aA.cell (p:=⟨b2,off2+j*5,none⟩) (by show b2<_;omega)).trans k0
        have f1:=(aA.cell (p:=⟨b2,off2+j*5+1,none⟩) (by show b2<_;omega)).trans k1
        have f2:=(aA.cell (p:=⟨b2,off2+j*5+2,none⟩) (by show b2<_;omega)).trans k2
        have f3:=(aA.cell (p:=⟨b2,off2+j*5+3,none⟩) (by show b2<_;omega)).trans k3
        have f4:=(aA.cell (p:=⟨b2,off2+j*5+4,none⟩) (by show b2<_;omega)).trans k4
        have HN:Hid (sumL (fun x=>lenN m x+1) (n.kids.take (j+1))=sumL (fun x=>lenN m x+1) (n.kids.take j)+(lenN m n.kids[j]+1)):=qaO _ _ _ aC
        have aX:s.size+lenN m n.kids[j]+1<=800000:=by
         have h2:=qcS (fun x=>lenN m x+1) n.kids (j+1)
         have h3:=HL.out
         rw[HN.out]at h2
         rw[HS.out];omega
        have HC:Hid (Calls Tryz.prog 32 _ wr _):=hn S n.kids[j] _ _ _ _ _ d wr (aE.keep (qaB aA (fun b hb=>by have:=hB b hb;omega)) (fun _ h=>h)) (fun b hb=>by have:=hB b hb;omega) (HG.out j aC) (by omega)
        have aF:=hidF aA
        have bC:(j:Int)<(n.kids.length:Int):=by omega
        clear aB aE k0 k1 k2 k3 k4 aA
        generalize lenN m n.kids[j]=lk at *
        go_wp2_with fail
        refine HC.out.mono ?_
        rintro e w2 ⟨aI,s2,rfl,aS⟩
        have aQ:Hid (Below (w.heap.size+1) _ w2):=aF.out.trans (aI.mono hz)
        have aK:Hid (((s++⟨#[32]⟩)++s2).size=A+szN n.names+Bx+C+sumL (fun x=>lenN m x+1) (n.kids.take (j+1))):=by
         show _=_
         rw[HN.out,qaP,qaP,HS.out,aS]
         show _+1+_=_
         omega
        clear aI HC f0 f1 f2 f3 f4 z0 z1 z2 z3 z4
        go_wp2_with fail
        go_roundw
        case rel=>exact⟨j+1,_,by omega,by go_num,rfl,aK,aQ.out⟩
        case measure=>simp[intOf];omega
       ·have aG:j=n.kids.length:=by omega
        have HE:Hid (s.size=A+szN n.names+Bx+C+sumL (fun x=>lenN m x+1) n.kids):=by
         show _=_
         have:=HS.out
         rw[aG,List.take_length]at this
         exact this
        have HB:=hidF (aZ.out.trans (aA.mono (by omega)))
        clear aM aG aA HS
        go_wp2_with fail
        go_ret
        exact⟨HB.out,_,rfl,HE.out⟩
     ·have d37:((k:Int)==37)=false:=by simp[aL]
      have d39:((k:Int)==39)=true:=by simp[aL]
      clear aL
      go_wp2_with fail
      refine (HD.out _).mono ?_
      rintro e w5 ⟨rfl,aR⟩
      have aN:Hid (Below (w.heap.size+1) _ w5):=aF.out.trans (aR.mono hz)
      have aO:Hid (((((s++⟨#[32]⟩)++n.text)++⟨#[32]⟩)++sd).size=A+szN n.names+Bx+C):=by
       show _=_
       rw[qaP,qaP,qaP,qaP,aV.out,aH,<- aY.out];show _+1+_+1+_=_;omega
      clear aR HD aH ht
      go_wp2_with fail
      go_loopw [5,7] (fun a i wr=>∃ (j:Nat) (s:ByteArray),j<=n.kids.length/\i=.int .i64 j/\a=.string s/\Hid (s.size=A+szN n.names+Bx+C+sumL (fun x=>lenN m x+1) (n.kids.take j))/\Below (w.heap.size+1) (w.alloc (.cells #[.int .i64 (k:Int),.int .i64 n.num,.string n.text,.slice na n.names.length nc,.slice ka n.kids.length kc] 25)) wr) (fun _ i _=>n.kids.length - (intOf i).toNat)
      case atStart=>exact⟨0,((((s++⟨#[32]⟩)++n.text)++⟨#[32]⟩)++sd),Nat.zero_le _,rfl,rfl,by show _=_;rw[aO.out];simp[sumL],aN.out⟩
      case round=>
       obtain⟨j,s,hj,rfl,rfl,HS,aA⟩:=hrel
       obtain⟨z0,z1,z2,z3,z4⟩:=qcF ((aA.block w.heap.size (by omega)).trans aJ.out)
       have hz:=aA.size
       simp at hz
       by_cases aC:j<n.kids.length
       ·obtain⟨b2,off2,rfl,aD,aB⟩:=aM (by intro h;have:=List.length_eq_zero_iff.2 h;omega)
        have aP:=hB b2 aD
        obtain⟨d0,d1',d2',d3',d4',k0,k1,k2,k3,k4,aE⟩:=aB j aC
        obtain⟨x0,x1,x2,xa,xl,xc,ya,yl,yc,rfl,rfl,rfl,rfl,rfl⟩:=aE.shape
        have f0:=(aA.cell (p:=⟨b2,off2+j*5,none⟩) (by show b2<_;omega)).trans k0
        have f1:=(aA.cell (p:=⟨b2,off2+j*5+1,none⟩) (by show b2<_;omega)).trans k1
        have f2:=(aA.cell (p:=⟨b2,off2+j*5+2,none⟩) (by show b2<_;omega)).trans k2
        have f3:=(aA.cell (p:=⟨b2,off2+j*5+3,none⟩) (by show b2<_;omega)).trans k3
        have f4:=(aA.cell (p:=⟨b2,off2+j*5+4,none⟩) (by show b2<_;omega)).trans k4
        have HN:Hid (sumL (fun x=>lenN m x+1) (n.kids.take (j+1))=sumL (fun x=>lenN m x+1) (n.kids.take j)+(lenN m n.kids[j]+1)):=qaO _ _ _ aC
        have aX:s.size+lenN m n.kids[j]+1<=800000:=by
         have h2:=qcS (fun x=>lenN m x+1) n.kids (j+1)
         have h3:=HL.out
         rw[HN.out]at h2
         rw[HS.out];omega
        have HC:Hid (Calls Tryz.prog 32 _ wr _):=hn S n.kids[j] _ _ _ _ _ d wr (aE.keep (qaB aA (fun b hb=>by have:=hB b hb;omega)) (fun _ h=>h)) (fun b hb=>by have:=hB b hb;omega) (HG.out j aC) (by omega)
        have aF:=hidF aA
        have bC:(j:Int)<(n.kids.length:Int):=by omega
        clear aB aE k0 k1 k2 k3 k4 aA
        generalize lenN m n.kids[j]=lk at *
        go_wp2_with fail
        refine HC.out.mono ?_
        rintro e w2 ⟨aI,s2,rfl,aS⟩
        have aQ:Hid (Below (w.heap.size+1) _ w2):=aF.out.trans (aI.mono hz)
        have aK:Hid (((s++⟨#[32]⟩)++s2).size=A+szN n.names+Bx+C+sumL (fun x=>lenN m x+1) (n.kids.take (j+1))):=by
         show _=_
         rw[HN.out,qaP,qaP,HS.out,aS]
         show _+1+_=_
         omega
        clear aI HC f0 f1 f2 f3 f4 z0 z1 z2 z3 z4
        go_wp2_with fail
        go_roundw
        case rel=>exact⟨j+1,_,by omega,by go_num,rfl,aK,aQ.out⟩
        case measure=>simp[intOf];omega
       ·have aG:j=n.kids.length:=by omega
        have HE:Hid (s.size=A+szN n.names+Bx+C+sumL (fun x=>lenN m x+1) n.kids):=by
         show _=_
         have:=HS.out
         rw[aG,List.take_length]at this
         exact this
        have HB:=hidF (aZ.out.trans (aA.mono (by omega)))
        clear aM aG aA HS
        go_wp2_with fail
        go_ret
        exact⟨HB.out,_,rfl,HE.out⟩
    ·have aT:¬ n.text.toList=[]:=by
      rw [ByteArray.toList_eq]; intro e; exact ht (by have h1 : n.text.data.toList.length = 0 := by rw [e]; rfl
                                                      simpa using h1)
     have bG:(n.text.toList==[])=false:=by simpa using aT
     have aH:Bx=n.text.size+1:=by rw[bE.out,if_neg ht]
     have bO:s.size+n.text.size+1<=800000:=by omega
     have aU:C=0:=by rw[bF.out,if_neg hnm]
     have d37:((k:Int)==37)=false:=by simp;omega
     have d39:((k:Int)==39)=false:=by simp;omega
     have aO:Hid (((s++⟨#[32]⟩)++n.text).size=A+szN n.names+Bx+C):=by
      show _=_
      rw[qaP,qaP,aV.out,aH,aU];show _+1+_=_;omega
     have aN:=aF
     clear aH aU ht hnm
     go_wp2_with fail
     go_loopw [5,7] (fun a i wr=>∃ (j:Nat) (s:ByteArray),j<=n.kids.length/\i=.int .i64 j/\a=.string s/\Hid (s.size=A+szN n.names+Bx+C+sumL (fun x=>lenN m x+1) (n.kids.take j))/\Below (w.heap.size+1) (w.alloc (.cells #[.int .i64 (k:Int),.int .i64 n.num,.string n.text,.slice na n.names.length nc,.slice ka n.kids.length kc] 25)) wr) (fun _ i _=>n.kids.length - (intOf i).toNat)
     case atStart=>exact⟨0,((s++⟨#[32]⟩)++n.text),Nat.zero_le _,rfl,rfl,by show _=_;rw[aO.out];simp[sumL],aN.out⟩
     case round=>
      obtain⟨j,s,hj,rfl,rfl,HS,aA⟩:=hrel
      obtain⟨z0,z1,z2,z3,z4⟩:=qcF ((aA.block w.heap.size (by omega)).trans aJ.out)
      have hz:=aA.size
      simp at hz
      by_cases aC:j<n.kids.length
      ·obtain⟨b2,off2,rfl,aD,aB⟩:=aM (by intro h;have:=List.length_eq_zero_iff.2 h;omega)
       have aP:=hB b2 aD
       obtain⟨d0,d1',d2',d3',d4',k0,k1,k2,k3,k4,aE⟩:=aB j aC
       obtain⟨x0,x1,x2,xa,xl,xc,ya,yl,yc,rfl,rfl,rfl,rfl,rfl⟩:=aE.shape
       have f0:=(aA.cell (p:=⟨b2,off2+j*5,none⟩) (by show b2<_;omega)).trans k0
       have f1:=(aA.cell (p:=⟨b2,off2+j*5+1,none⟩) (by show b2<_;omega)).trans k1
       have f2:=(aA.cell (p:=⟨b2,off2+j*5+2,none⟩) (by show b2<_;omega)).trans k2
       have f3:=(aA.cell (p:=⟨b2,off2+j*5+3,none⟩) (by show b2<_;omega)).trans k3
       have f4:=(aA.cell (p:=⟨b2,off2+j*5+4,none⟩) (by show b2<_;omega)).trans k4
       have HN:Hid (sumL (fun x=>lenN m x+1) (n.kids.take (j+1))=sumL (fun x=>lenN m x+1) (n.kids.take j)+(lenN m n.kids[j]+1)):=qaO _ _ _ aC
       have aX:s.size+lenN m n.kids[j]+1<=800000:=by
        have h2:=qcS (fun x=>lenN m x+1) n.kids (j+1)
        have h3:=HL.out
        rw[HN.out]at h2
        rw[HS.out];omega
       have HC:Hid (Calls Tryz.prog 32 _ wr _):=hn S n.kids[j] _ _ _ _ _ d wr (aE.keep (qaB aA (fun b hb=>by have:=hB b hb;omega)) (fun _ h=>h)) (fun b hb=>by have:=hB b hb;omega) (HG.out j aC) (by omega)
       have aF:=hidF aA
       have bC:(j:Int)<(n.kids.length:Int):=by omega
       clear aB aE k0 k1 k2 k3 k4 aA
       generalize lenN m n.kids[j]=lk at *
       go_wp2_with fail
       refine HC.out.mono ?_
       rintro e w2 ⟨aI,s2,rfl,aS⟩
       have aQ:Hid (Below (w.heap.size+1) _ w2):=aF.out.trans (aI.mono hz)
       have aK:Hid (((s++⟨#[32]⟩)++s2).size=A+szN n.names+Bx+C+sumL (fun x=>lenN m x+1) (n.kids.take (j+1))):=by
        show _=_
        rw[HN.out,qaP,qaP,HS.out,aS]
        show _+1+_=_
        omega
       clear aI HC f0 f1 f2 f3 f4 z0 z1 z2 z3 z4
       go_wp2_with fail
       go_roundw
       case rel=>exact⟨j+1,_,by omega,by go_num,rfl,aK,aQ.out⟩
       case measure=>simp[intOf];omega
      ·have aG:j=n.kids.length:=by omega
       have HE:Hid (s.size=A+szN n.names+Bx+C+sumL (fun x=>lenN m x+1) n.kids):=by
        show _=_
        have:=HS.out
        rw[aG,List.take_length]at this
        exact this
       have HB:=hidF (aZ.out.trans (aA.mono (by omega)))
       clear aM aG aA HS
       go_wp2_with fail
       go_ret
       exact⟨HB.out,_,rfl,HE.out⟩
end Go.Proofs.YtelogmjfekhmpaaGreatDoor
