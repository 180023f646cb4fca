import Derived.Test.YtelogmjfekhmpaaGreatDoorB26
import Derived.Test.YtelogmjfekhmpaaGreatDoorSL9
import Derived.Deep.Cut
import Derived.Deep.CutRange
namespace Go.Proofs.YtelogmjfekhmpaaGreatDoor
open Go.RowKit Go.Proofs.Tryz
set_option maxRecDepth 100000
set_option maxHeartbeats 16000000
theorem xhN (m:Nat) (hn:TextS m) (S:Nat->Prop) (n:Nd (T m)) (na ka:Option Addr) (nc kc k:Nat) (d:Int) (w:World) (hk44:k<44) (hk5:5<=k) (h24:k≠24) (hB:∀ b,S b->b<w.heap.size) (h3:StrsIn S w n.names (.slice na n.names.length nc)) (h4:RowIn S w (NodeIn S w m) n.kids (.slice ka n.kids.length kc))
  (hg:n.kids.all (fun x=>goodN m x d)=true) (hnum:(k=37∨k=39)->0<=n.num/\n.num<=99)
  (hl:(wrd k).size+szN n.names+(if n.text.size=0 then 0 else n.text.size+1)+(if k=37∨k=39 then (Lib.itoa n.num).length+1 else 0)+sumL (fun x=>lenN m x+1) n.kids<=800000) :
  Calls prog 32 #[.agg #[.int .i64 (k:Int),.int .i64 n.num,.string n.text,.slice na n.names.length nc,.slice ka n.kids.length kc]] w fun e w'=>Below w.heap.size w w' /\ ∃s,e=.returned (.string s)/\s.size=(wrd k).size+szN n.names+(if n.text.size=0 then 0 else n.text.size+1)+(if k=37∨k=39 then (Lib.itoa n.num).length+1 else 0)+sumL (fun x=>lenN m x+1) n.kids:=by
 obtain⟨W,hW⟩:∃W,W=w.alloc (.cells #[.int .i64 (k:Int),.int .i64 n.num,.string n.text,.slice na n.names.length nc,.slice ka n.kids.length kc] 25):=⟨_,rfl⟩
 have z:Below w.heap.size w W:=by rw[hW];exact (Below.refl _ _).alloc (Nat.le_refl _) _
 have aY:w.heap.size<W.heap.size:=by rw[hW];simp
 have H:W.heap[w.heap.size]?=some (.cells #[.int .i64 (k:Int),.int .i64 n.num,.string n.text,.slice na n.names.length nc,.slice ka n.kids.length kc] 25 (0,0)):=by rw[hW];exact heap_alloc_last _ _
 obtain⟨_,_,hv,aT,D,aE⟩:=h3.keep (qaB z hB) (fun _ h=>h)
 cases hv
 obtain⟨_,_,hv,aU,aF⟩:=h4.keepN (qaB z hB) (fun _ h=>h)
 cases hv
 have HG:Hid (∀k (h:k<n.kids.length),goodN m n.kids[k] d=true):=fun k h=>List.all_eq_true.1 hg _ (List.getElem_mem h)
 have V:Hid (∀w,Calls prog 39 #[.int .i64 (k:Int)] w _):=fun w=>qmA k hk44 w
 have d1:((k:Int)==1)=false:=by simp;omega
 have d2:((k:Int)==2)=false:=by simp;omega
 have d3:((k:Int)==3)=false:=by simp;omega
 have d4:((k:Int)==4)=false:=by simp;omega
 have aZ:((k:Int)==24)=false:=by simp;omega
 obtain⟨A,hA⟩:∃A,A=(wrd k).size:=⟨_,rfl⟩
 obtain⟨y,O⟩:∃y,y=(if n.text.size=0 then 0 else n.text.size+1):=⟨_,rfl⟩
 obtain⟨C,hC⟩:∃C,C=(if k=37∨k=39 then (Lib.itoa n.num).length+1 else 0):=⟨_,rfl⟩
 rw[<- hA,<- O,<- hC]at hl ⊢
 have HA:=hidF hA
 have J:=hidF O
 have X:=hidF hC
 have Q:=hidF hl
 have aL:=hidF z
 have Y:=hidF hnum
 have l:=hidF H
 unfold maxLen at aT aU
 clear hg hl h3 h4 z hA O hC hnum H h24
 subst hW
 go_enter func32,ntmps32
 go_wp2_with fail
 refine (V.out _).mono ?_
 rintro e w1 ⟨rfl,aG⟩
 have aM:=hidF aG
 have aN:Hid ((wrd k).size=A):=HA.out.symm
 clear aG V
 generalize wrd k=s0 at *
 go_wp2_with fail
 go_loopw [5,6] (fun a i wr=>∃(j:Nat)(s:ByteArray),j<=n.names.length/\i=.int .i64 j/\a=.string s/\Hid (s.size=A+szN (n.names.take j))/\Below (w.heap.size+1) (w.alloc (.cells #[.int .i64 (k:Int),.int .i64 n.num,.string n.text,.slice na n.names.length nc,.slice ka n.kids.length kc] 25)) wr) (fun _ i _=>n.names.length-(intOf i).toNat)
 case atStart=>exact⟨0,s0,Nat.zero_le _,rfl,rfl,by show _=_;rw[aN.out];simp[szN],by have:=aM.out;simpa using this⟩
 case round=>
  obtain⟨j,s,hj,rfl,rfl,E,c⟩:=hrel
  obtain⟨z0,U,z2,z3,z4⟩:=qdM ((c.block w.heap.size (by omega)).trans l.out)
  by_cases hlt:j<n.names.length
  ·obtain⟨b,aV,rfl,aW,t⟩:=aE (by intro h;rw[h]at hlt;simp at hlt)
   have bA:=hB b aW
   have e0:=(c.cell (p:=⟨b,aV+j,none⟩) (by show b<_;omega)).trans (t j hlt)
   have Z:Hid (szN (n.names.take (j+1))=szN (n.names.take j)+(n.names[j].size+1)):=qiE _ _ hlt
   have aA:s.size+n.names[j].size+1<=900000:=by
    have h1:=qmY n.names (j+1)
    have h3:=Q.out
    rw[Z.out]at h1
    rw[E.out];omega
   have q:=hidF c
   clear t c
   generalize n.names[j]=nm at *
   have f:Hid (((s++⟨#[32]⟩)++nm).size=A+szN (n.names.take (j+1))):=by
    show _=_
    rw[Z.out,qcO,qcO,E.out]
    show _+1+_=_
    omega
   go_wp2_with fail
   go_roundw
   case rel=>exact⟨j+1,_,by omega,by go_num,rfl,f,q.out⟩
   case measure=>simp[intOf];omega
  ·have r:j=n.names.length:=by omega
   have B:Hid (s.size=A+szN n.names):=by
    show _=_
    have:=E.out
    rw[r,List.take_length]at this
    exact this
   have aA:s.size<=800000:=by rw[B.out];have:=Q.out;omega
   clear r aE D E
   have q:=hidF c
   clear c
   have bB:s.size+y+C<=800000:=by rw[B.out];have:=Q.out;omega
   have HT:Hid ((!n.text.toList.isEmpty)=true↔n.text.size≠0):=by
    show _↔_
    rw[ByteArray.toList_eq]
    have h2:n.text.data.toList.length=n.text.size:=by simp
    rw[<- h2]
    cases n.text.data.toList<;>simp
   have bC:n.text.size<=800000:=by
    have h:=J.out
    split at h<;>omega
   go_upto_if 75 with fail
   go_cut [5] from 58 to 80 (fun sv wx=>∃I:ByteArray,sv=.string I/\I.size=A+szN n.names+y/\Below (w.heap.size+1) (w.alloc (.cells #[.int .i64 (k:Int),.int .i64 n.num,.string n.text,.slice na n.names.length nc,.slice ka n.kids.length kc] 25)) wx)
   case first=>
    have aB:((s++⟨#[32]⟩)++n.text).size=s.size+1+n.text.size:=by rw[qcO,qcO];rfl
    have f:=hidF aB
    clear aB
    go_wp2_with fail
    ·have h0:=HT.out.1 (by assumption)
     go_meet
     exact⟨_,rfl,by rw[f.out,B.out,J.out,if_neg h0];omega,q.out⟩
    ·have hw:(!n.text.toList.isEmpty)=false:=by assumption
     have h0:n.text.size=0:=Decidable.of_not_not fun h=>by rw[HT.out.2 h]at hw;cases hw
     go_meet
     exact⟨_,rfl,by rw[B.out,J.out,if_pos h0];rfl,q.out⟩
   case rest=>
    obtain⟨I,rfl,u,F⟩:=hcut
    obtain⟨z0,U,z2,z3,z4⟩:=qdM ((F.block w.heap.size (by omega)).trans l.out)
    have K:=F.size
    simp at K
    have f:=hidF u
    have L:=hidF F
    have bD:I.size+C<=800000:=by rw[u];have:=Q.out;omega
    clear u F
    go_upto_region 22 with fail
    go_cut [88] from 58 to 87 (fun bv wx=>∃b,bv=.bool b/\Hid (b=true↔k=37∨k=39)/\Below (w.heap.size+1) (w.alloc (.cells #[.int .i64 (k:Int),.int .i64 n.num,.string n.text,.slice na n.names.length nc,.slice ka n.kids.length kc] 25)) wx)
    case first=>
     by_cases h7:k=37
     ·have d7:((k:Int)==37)=true:=by simp[h7]
      have R:Hid (k=37∨k=39):=.inl h7
      clear h7
      go_wp2_with fail
      go_meet
      exact⟨_,rfl,(show _↔_ from ⟨fun _=>R.out,fun _=>rfl⟩),L.out⟩
     ·have d7:((k:Int)==37)=false:=by simp;omega
      have R:Hid (((k:Int)==39)=true↔k=37∨k=39):=by show _↔_;rw[beq_iff_eq];omega
      clear h7
      go_wp2_with fail
      go_meet
      exact⟨_,rfl,R,L.out⟩
    case rest=>
     obtain⟨b,rfl,HB,G⟩:=hcut
     obtain⟨z0,U,z2,z3,z4⟩:=qdM ((G.block w.heap.size (by omega)).trans l.out)
     have K:=G.size
     simp at K
     have aC:=hidF G
     clear G L
     go_upto_if 88 with fail
     go_cut [5] from 58 to 94 (fun sv wx=>∃s3:ByteArray,sv=.string s3/\s3.size=A+szN n.names+y+C/\Below (w.heap.size+1) (w.alloc (.cells #[.int .i64 (k:Int),.int .i64 n.num,.string n.text,.slice na n.names.length nc,.slice ka n.kids.length kc] 25)) wx)
     case first=>
      cases b
      rotate_left 1
      ·have M:=HB.out.1 rfl
       have aO:=Y.out M
       obtain⟨x,hx⟩:∃x:Nat,n.num=(x:Int):=⟨n.num.toNat,by omega⟩
       have R:Hid (∀w,Calls prog 48 #[.int .i64 (x:Int)] w _):=fun w=>qlP x x w (Nat.le_refl _) (by omega)
       rw[hx]at U
       have aD:Hid ((bs (Lib.decDigits x)).size+1=C):=by
        show _=_
        rw[qaL,X.out,if_pos M]
        unfold Lib.itoa
        rw[if_neg (by omega),show n.num.toNat=x by omega]
       generalize bs (Lib.decDigits x)=sd at *
       have bE:sd.size<=900000:=by have:=aD.out;have:=Q.out;omega
       clear aO M hx
       go_wp2_with fail
       refine (R.out _).mono ?_
       rintro e w5 ⟨rfl,aH⟩
       have aP:Hid (Below (w.heap.size+1) _ w5):=aC.out.trans (aH.mono K)
       have N:Hid (((I++⟨#[32]⟩)++sd).size=A+szN n.names+y+C):=by
        show _=_
        rw[qcO,qcO,f.out,<- aD.out];show _+1+_=_;omega
       clear aH R
       go_wp2_with fail
       go_meet
       exact⟨_,rfl,N.out,aP.out⟩
      ·have N:Hid (I.size=A+szN n.names+y+C):=by
        show _=_
        rw[f.out,X.out,if_neg (fun h=>by cases HB.out.2 h)];rfl
       go_wp2_with fail
       go_meet
       exact⟨_,rfl,N.out,aC.out⟩
     case rest=>
      obtain⟨s,rfl,D,aI⟩:=hcut
      have aQ:=hidF D
      have aR:=hidF aI
      clear D aI z0 U z2 z3 z4
      go_wp2_with fail
      go_loopw [5,7] (fun a i wr=>∃(j:Nat)(s:ByteArray),j<=n.kids.length/\i=.int .i64 j/\a=.string s/\Hid (s.size=A+szN n.names+y+C+sumL (fun x=>lenN m x+1) (n.kids.take j))/\Below (w.heap.size+1) (w.alloc (.cells #[.int .i64 (k:Int),.int .i64 n.num,.string n.text,.slice na n.names.length nc,.slice ka n.kids.length kc] 25)) wr) (fun _ i _=>n.kids.length-(intOf i).toNat)
      case atStart=>exact⟨0,s,Nat.zero_le _,rfl,rfl,by show _=_;rw[aQ.out];simp[sumL],aR.out⟩
      case round=>
       obtain⟨j,s,hj,rfl,rfl,E,c⟩:=hrel
       obtain⟨z0,U,z2,z3,z4⟩:=qdM ((c.block w.heap.size (by omega)).trans l.out)
       have K:=c.size
       simp at K
       by_cases hlt:j<n.kids.length
       ·obtain⟨v,g,rfl,aJ,o⟩:=aF (by intro h;have:=List.length_eq_zero_iff.2 h;omega)
        have aX:=hB v aJ
        obtain⟨d0,bG,bH,bI,bJ,k0,k1,k2,k3,k4,P⟩:=o j hlt
        obtain⟨x0,x1,x2,xa,xl,xc,ya,yl,yc,rfl,rfl,rfl,rfl,rfl⟩:=P.shape
        have f0:=(c.cell (p:=⟨v,g+j*5,none⟩) (by show v<_;omega)).trans k0
        have f1:=(c.cell (p:=⟨v,g+j*5+1,none⟩) (by show v<_;omega)).trans k1
        have f2:=(c.cell (p:=⟨v,g+j*5+2,none⟩) (by show v<_;omega)).trans k2
        have f3:=(c.cell (p:=⟨v,g+j*5+3,none⟩) (by show v<_;omega)).trans k3
        have f4:=(c.cell (p:=⟨v,g+j*5+4,none⟩) (by show v<_;omega)).trans k4
        have Z:Hid (sumL (fun x=>lenN m x+1) (n.kids.take (j+1))=sumL (fun x=>lenN m x+1) (n.kids.take j)+(lenN m n.kids[j]+1)):=qbB _ _ _ hlt
        have aA:s.size+lenN m n.kids[j]+1<=800000:=by
         have h2:=qkS (fun x=>lenN m x+1) n.kids (j+1)
         have h3:=Q.out
         rw[Z.out]at h2
         rw[E.out];omega
        have HC:Hid (Calls prog 32 _ wr _):=hn S n.kids[j] _ _ _ _ _ d wr (P.keep (qaB c (fun b hb=>by have:=hB b hb;omega)) (fun _ h=>h)) (fun b hb=>by have:=hB b hb;omega) (HG.out j hlt) (by omega)
        have q:=hidF c
        have bF:(j:Int)<(n.kids.length:Int):=by omega
        clear o P k0 k1 k2 k3 k4 c
        generalize lenN m n.kids[j]=lk at *
        go_wp2_with fail
        refine HC.out.mono ?_
        rintro e w2 ⟨aK,I,rfl,u⟩
        have aS:Hid (Below (w.heap.size+1) _ w2):=q.out.trans (aK.mono K)
        have f:Hid (((s++⟨#[32]⟩)++I).size=A+szN n.names+y+C+sumL (fun x=>lenN m x+1) (n.kids.take (j+1))):=by
         show _=_
         rw[Z.out,qcO,qcO,E.out,u]
         show _+1+_=_
         omega
        clear aK HC f0 f1 f2 f3 f4 z0 U z2 z3 z4
        go_wp2_with fail
        go_roundw
        case rel=>exact⟨j+1,_,by omega,by go_num,rfl,f,aS.out⟩
        case measure=>simp[intOf];omega
       ·have r:j=n.kids.length:=by omega
        have HE:Hid (s.size=A+szN n.names+y+C+sumL (fun x=>lenN m x+1) n.kids):=by
         show _=_
         have:=E.out
         rw[r,List.take_length]at this
         exact this
        have HB:=hidF (aL.out.trans (c.mono (by omega)))
        clear aF r c E
        go_wp2_with fail
        go_ret
        exact⟨HB.out,_,rfl,HE.out⟩
theorem qtJ:∀m,TextS m:=by
 intro m
 induction m with
 | zero=>intro S t c0 c1 c2 c3 c4 d w B;exact B.elim
 | succ m ih=>
  intro S t c0 c1 c2 c3 c4 d w B C F g
  obtain⟨rfl,rfl,rfl,G,i,j,l,s,⟨na,nl,u,rfl,I⟩,⟨v,kl,y,rfl,J⟩⟩:=B
  obtain⟨_,_,D,-⟩:=id l
  cases D
  obtain⟨_,_,D,-⟩:=id s
  cases D
  simp only[goodN,Bool.and_eq_true]at F
  obtain⟨⟨-,a⟩,c⟩:=F
  obtain⟨n,H⟩:∃n:Nd (T m),n=t:=⟨t,rfl⟩
  have z:lenN (m+1) t=lenF (lenN m) n:=by rw[H];rfl
  rw[z]at g ⊢
  change justB (poT m) t=true at a
  rw[<- H]at a c i j G l s ⊢
  have E:1<=n.sort/\n.sort<=43:=by
   have h:=a
   unfold justB at h;simp only[Bool.and_eq_true,decide_eq_true_eq]at h;exact h.1
  obtain⟨k,f⟩:∃k:Nat,n.sort=(k:Int):=⟨n.sort.toNat,by omega⟩
  obtain⟨o,p,q,r⟩:=qlI (poT m) n k f a
  have b:n.sort.toNat=k:=by omega
  have L:Nd.sort n=(k:Int):=f
  by_cases h3':k<=3
  ·have e:lenF (lenN m) n=(leafL n.sort n.num n.text).length:=by unfold lenF;rw[if_pos (by omega)]
   rw[e]
   have:=qzP m n na v u y k f (by omega) h3' w i j G (p (by
    have:k=1∨k=2∨k=3:=by omega
    rcases this with rfl|rfl|rfl<;>decide))
   rw[f]at this ⊢
   exact this
  by_cases h4':k=4
  ·subst h4'
   have e:lenF (lenN m) n=(n.names.headD ByteArray.empty).size:=by unfold lenF;rw[if_neg (by omega),if_pos (by omega)]
   rw[e,f]
   refine qzQ S m n na v u y w C l ?_
   rw[qfA (poT m) n E.1 E.2 (by omega),b,pre_name.1]at a
   simp only[preC,Bool.and_eq_true]at a
   intro K
   have:=a.1.2
   rw[K]at this
   exact absurd this (by decide)
  by_cases h24:k=24
  ·subst h24
   rw[qdT (poT m) n (by omega)]at a
   simp only[Bool.and_eq_true]at a
   have A:=qaG _ a.2.2
   have e:lenF (lenN m) n=8+szN n.names+sumL (fun x=>lenN m x+1) n.kids:=by
    unfold lenF
    rw[if_neg (by omega),if_neg (by omega),b,if_pos A,if_neg (by omega),if_pos (by omega),show (wrd 24).size=4 by decide]
    omega
   rw[e]at g ⊢
   rw[f]
   exact qzO m ih S n na v u y (d+1) w C l s (r (by decide)) c g
  ·have e:lenF (lenN m) n=(wrd k).size+szN n.names+(if n.text.size=0 then 0 else n.text.size+1)+(if k=37∨k=39 then (Lib.itoa n.num).length+1 else 0)+sumL (fun x=>lenN m x+1) n.kids:=by
    unfold lenF
    rw[if_neg (by omega),if_neg (by omega),b,if_neg (show ¬n.sort=24 by omega)]
    have:(if n.sort=37∨n.sort=39 then (Lib.itoa n.num).length+1 else 0)=(if k=37∨k=39 then (Lib.itoa n.num).length+1 else 0):=by
     by_cases h:k=37∨k=39
     ·rw[if_pos h,if_pos (by omega)]
     ·rw[if_neg h,if_neg (by omega)]
    rw[this];rfl
   rw[e]at g ⊢
   rw[f]
   refine xhN m ih S n na v u y k (d+1) w o (by omega) h24 C l s c (fun h=>q ?_) g
   rcases h with rfl|rfl<;>decide
def isS(m:Nat)(t:T m)(act:Bool):Bool:=(goodN m t 1 && (act==decide (36<=opT m t))) && decide (cntT m t<=200) && decide (lenN m t<=3000)
theorem xhO:∀(m:Nat)(t:T m)(d:Int),goodN m t d=true->1<=cntT m t:=by
 intro m t d h
 cases m with
 | zero=>simp[goodN]at h
 | succ m=>simp only[cntT];omega
theorem xeO (m:Nat) (S:Nat->Prop) (t:T m) (c0 c1 c2 c3 c4:Value) (act:Bool) (w:World) (hin:NodeIn S w m t c0 c1 c2 c3 c4) (hB:∀ b,S b->b<w.heap.size) (hsz:szT m t<=1048576) :
  Calls prog 46 #[.agg #[c0,c1,c2,c3,c4],.bool act] w fun e w'=>e=.returned (.bool (isS m t act))/\Below w.heap.size w w':=by
 obtain⟨o,p,q,r,u,x,y,z,A,rfl,rfl,rfl,rfl,rfl⟩:=hin.shape
 have l:=(Below.refl w.heap.size w).alloc (Nat.le_refl _) (.cells #[.int .i64 o,.int .i64 p,.string q,.slice r u x,.slice y z A] 25)
 obtain⟨d,B⟩:=hin.step hB l
 have g:Hid (Calls prog 60 _ _ _):=qtF m S t _ _ _ _ _ act 1 _ d B hsz (by omega) (by omega)
 have i:Hid (∀ c,Below (w.alloc (.cells #[.int .i64 o,.int .i64 p,.string q,.slice r u x,.slice y z A] 25)).heap.size (w.alloc (.cells #[.int .i64 o,.int .i64 p,.string q,.slice r u x,.slice y z A] 25)) c->Below w.heap.size w c/\(c.cell? ⟨w.heap.size,0,none⟩=some (.int .i64 o)/\c.cell? ⟨w.heap.size,1,none⟩=some (.int .i64 p)/\c.cell? ⟨w.heap.size,2,none⟩=some (.string q)/\c.cell? ⟨w.heap.size,3,none⟩=some (.slice r u x)/\c.cell? ⟨w.heap.size,4,none⟩=some (.slice y z A)) /\
   (goodN m t 1=true->cntT m t<=200->Calls prog 32 #[.agg #[.int .i64 o,.int .i64 p,.string q,.slice r u x,.slice y z A]] c fun e w'=>Below c.heap.size c w' /\ ∃s,e=.returned (.string s)/\s.size=lenN m t)):=by
  intro c a
  obtain⟨C,I⟩:=d.step B a
  refine⟨qaA l (by simp) a,qdM ((a.block w.heap.size (by simp)).trans (heap_alloc_last w _)),fun k H=>?_⟩
  have P:=qvG m t 1 k
  exact qtJ m S t _ _ _ _ _ 1 c C I k (by omega)
 have F:Hid (qbW m t act 1=if (goodN m t 1 && (act==decide (36<=opT m t)))=true/\cntT m t<=200 then (cntT m t:Int) else -1):=by
  show _=_
  unfold qbW
  rw[xhE]
 clear hin d
 generalize qbW m t act 1=v at *
 by_cases hq:(goodN m t 1 && (act==decide (36<=opT m t)))=true/\cntT m t<=200
 ·have k:goodN m t 1=true:=by have:=hq.1;simp only[Bool.and_eq_true]at this;exact this.1
  have L:=xhO m t 1 k
  have M:(0:Int)<v:=by rw[F.out,if_pos hq];omega
  have G:Hid (isS m t act=decide ((lenN m t:Int)<=3000)):=by
   show _=_
   unfold isS
   rw[hq.1,decide_eq_true hq.2]
   by_cases h3:lenN m t<=3000
   ·rw[decide_eq_true h3,decide_eq_true (by omega)];rfl
   ·rw[decide_eq_false h3,decide_eq_false (by omega)];rfl
  have H:=hq.2
  clear hq F L
  go_enter func46,ntmps46
  go_wp2_with fail
  refine g.out.mono ?_
  rintro e c ⟨rfl,a⟩
  obtain⟨f,⟨z0,O,z2,z3,z4⟩,D⟩:=i.out c a
  have n:=hidF (D k H)
  have j:=hidF f
  clear a f D g i k H
  go_wp2_with fail
  refine n.out.mono ?_
  rintro e w2 ⟨E,s,rfl,K⟩
  have J:Hid (isS m t act=decide ((s.size:Int)<=3000)/\Below w.heap.size w w2):=⟨by rw[G.out,K],j.out.trans (E.mono j.out.size)⟩
  clear E K n G z0 O z2 z3 z4
  go_wp2_with fail
  go_ret
  exact⟨qaD J.out.1.symm,J.out.2⟩
 ·have M:¬(0:Int)<v:=by rw[F.out,if_neg hq];omega
  have G:Hid (isS m t act=false):=by
   show _=_
   unfold isS
   cases h1:(goodN m t 1 && (act==decide (36<=opT m t))) with
   | false=>rfl
   | true=>
    have N:¬cntT m t<=200:=fun h=>hq ⟨h1,h⟩
    rw[decide_eq_false N];rfl
  clear hq F
  go_enter func46,ntmps46
  go_wp2_with fail
  refine g.out.mono ?_
  rintro e c ⟨rfl,a⟩
  obtain⟨f,-,-⟩:=i.out c a
  have j:=hidF f
  clear a f g i
  go_wp2_with fail
  go_ret
  exact⟨qaD G.out.symm,j.out⟩
theorem xjS(m:Nat)(t:T m):isS m t true=okA m t:=by
 unfold isS okA okN
 cases hg:goodN m t 1 with
 | false=>simp
 | true=>
  have b:1<=opT m t/\opT m t<=43:=by
   cases m with
   | zero=>simp[goodN]at hg
   | succ m=>
    simp only[goodN,Bool.and_eq_true]at hg
    have:=hg.1.2
    unfold justB at this
    simp only[Bool.and_eq_true,decide_eq_true_eq]at this
    exact this.1
  have a:poT m t=if 36<=opT m t then 65 else 86:=xbH _ b
  rw[a]
  by_cases h:36<=opT m t
  ·simp[h]
  ·simp[h]
theorem qvH (m:Nat) (S:Nat->Prop) (t:T m) (c0 c1 c2 c3 c4:Value) (w:World) (hin:NodeIn S w m t c0 c1 c2 c3 c4) (hB:∀ b,S b->b<w.heap.size) (hsz:szT m t<=1048576) :
  Calls prog 31 #[.agg #[c0,c1,c2,c3,c4]] w fun e w'=>e=.returned (.bool (okA m t))/\Below w.heap.size w w':=by
 obtain⟨i,j,k,l,n,o,p,q,r,rfl,rfl,rfl,rfl,rfl⟩:=hin.shape
 have c:=(Below.refl w.heap.size w).alloc (Nat.le_refl _) (.cells #[.int .i64 i,.int .i64 j,.string k,.slice l n o,.slice p q r] 25)
 obtain⟨a,g⟩:=hin.step hB c
 have f:Hid (Calls prog 46 _ _ _):=xeO m S t _ _ _ _ _ true _ a g hsz
 rw[xjS]at f
 clear hin a
 go_enter func31,ntmps31
 go_wp2_with fail
 refine f.out.mono ?_
 rintro e s ⟨rfl,d⟩
 have h:=hidF (qaA c (by simp) d)
 clear d f
 go_wp2_with fail
 go_ret
 exact⟨rfl,h.out⟩
end Go.Proofs.YtelogmjfekhmpaaGreatDoor
