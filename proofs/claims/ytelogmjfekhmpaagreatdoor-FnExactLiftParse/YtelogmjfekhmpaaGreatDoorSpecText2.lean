import Derived.Test.YtelogmjfekhmpaaGreatDoorSpecText
namespace Go.Proofs.YtelogmjfekhmpaaGreatDoor
set_option maxRecDepth 100000
set_option maxHeartbeats 16000000
open Go.RowKit
theorem xbZ (n:Nat) (hn:qhL n) (S:Nat->Prop) (ks:List (T n)) (l:List ByteArray) (m:Int) (x:ByteArray) (na:Option Addr) (nc:Nat) (kv:Value) (d:Int) (w:World) (hl:StrsIn S w l (.slice na l.length nc)) (hll:l.length=ks.length) (hl8:∀ s,s∈l->s.size<=8) (hr:RowIn S w (TreeIn S w n) ks kv) (hB:∀ b,S b->b<w.heap.size)
  (hg:ks.all (fun x=>goodT n x d)=true) (hc:1+sumL (fun x=>cntT n x) ks<=120) (hjl:(joinL (zipL l (ks.map (txtL n)))).length<=9840) :
  Calls Tryz.prog 47 #[.agg #[.int .i64 5,.int .i64 m,.string x,.slice na l.length nc,kv]] w fun e w'=>e=.returned (.string (bs (123 :: joinL (zipL l (ks.map (txtL n)))++[125])))/\Below w.heap.size w w':=by
 obtain⟨ao,cap,rfl,aR,aD⟩:=hr
 obtain⟨no,ncap,bE,-,aX,aB⟩:=hl
 cases bE
 unfold maxLen at aR
 have aS:=(Below.refl w.heap.size w).alloc (Nat.le_refl _) (.cells #[.int .i64 5,.int .i64 m,.string x,.slice na l.length nc,.slice ao ks.length cap] 67)
 have aO:=Box5.new w (.int .i64 5) (.int .i64 m) (.string x) (.slice na l.length nc) (.slice ao ks.length cap) 67
 have bH:(w.alloc (.cells #[.int .i64 5,.int .i64 m,.string x,.slice na l.length nc,.slice ao ks.length cap] 67)).heap.size=w.heap.size+1:=by simp
 have aT:Hid (∀ k,(soFar (zipL l (ks.map (txtL n))) k).size<=9840):=fun k=>by
  have:=qdD (zipL l (ks.map (txtL n))) k
  unfold soFar;rw[qaJ];omega
 have HG:Hid (∀ k (h:k<ks.length),goodT n ks[k] d=true/\cntT n ks[k]<=120):=fun k h=>by
  refine⟨List.all_eq_true.1 hg _ (List.getElem_mem h),?_⟩
  have:=qcB (fun x=>cntT n x) ks _ (List.getElem_mem h)
  omega
 have aP:Hid (l.length=ks.length):=hll
 clear hg hll
 go_enter Tryz.func47,Tryz.ntmps47
 go_wp2_with fail
 generalize hW:w.alloc (.cells #[.int .i64 5,.int .i64 m,.string x,.slice na l.length nc,.slice ao ks.length cap] 67)=W at *
 clear hW
 go_loopw [3,4] (fun a i wr=>∃ k:Nat,k<=ks.length/\i=.int .i64 k/\a=.string (soFar (zipL l (ks.map (txtL n))) k)/\Below W.heap.size W wr) (fun _ i _=>ks.length - (intOf i).toNat)
 case atStart=>exact⟨0,Nat.zero_le _,rfl,rfl,Below.refl _ _⟩
 case round=>
  obtain⟨k,hk,rfl,rfl,aC⟩:=hrel
  have bB:=aT.out k
  obtain⟨i0,i1,i2,i3,i4⟩:=aO.keep aC
  have aU:=aC.size
  by_cases aF:k<ks.length
  ·obtain⟨b,off,rfl,bF,aY⟩:=aD (by intro h;rw[h]at aF;simp at aF)
   obtain⟨y0,y1,y2,y3,y4,e0,e1,e2,e3,e4,aZ⟩:=aY k aF
   have aG:=hB b bF
   have aE:Below w.heap.size w wr:=qaA aS (by omega) aC
   have f0:=(aE.cell (p:=⟨b,off+k*5,none⟩) aG).trans e0
   have f1:=(aE.cell (p:=⟨b,off+k*5+1,none⟩) aG).trans e1
   have f2:=(aE.cell (p:=⟨b,off+k*5+2,none⟩) aG).trans e2
   have f3:=(aE.cell (p:=⟨b,off+k*5+3,none⟩) aG).trans e3
   have f4:=(aE.cell (p:=⟨b,off+k*5+4,none⟩) aG).trans e4
   have aH:=aZ.keep (qaB aE hB) (fun _ h=>h)
   have aM:=HG.out k aF
   have aI:=qhE n ks[k] d aM.1
   have bI:(bs (txtL n ks[k])).size<=9840:=by rw[qaJ];omega
   have HQ:Hid (Calls Tryz.prog 47 #[.agg #[y0,y1,y2,y3,y4]] wr _):=hn S ks[k] y0 y1 y2 y3 y4 d wr aH (fun b hb=>by have:=hB b hb;omega) aM.1 aM.2
   have aV:=aT.out (k+1)
   have aJ:k<l.length:=by rw[aP.out];exact aF
   obtain⟨nb,noff,rfl,bG,bA⟩:=aB (by intro h;rw[h]at aJ;simp at aJ)
   have q0:=(aE.cell (p:=⟨nb,noff+k,none⟩) (hB nb bG)).trans (bA k aJ)
   have bC:=hl8 l[k] (List.getElem_mem aJ)
   have aK:k<(zipL l (ks.map (txtL n))).length:=by rw[qbP _ _ (by simpa using aP.out)];simpa using aF
   have aN:bs (zipL l (ks.map (txtL n)))[k]=l[k]++bs [58]++bs (txtL n ks[k]):=by
    rw[qiJ l (ks.map (txtL n)) k aJ (by simpa using aF) aK,List.getElem_map,<- bs_of l[k],qaU,qaU,qcC]
    simp
   clear aD aY e0 e1 e2 e3 e4 aZ aH aM aI aE aB bA aX
   rcases Nat.eq_zero_or_pos k with rfl|bL
   ·have HS:Hid (soFar (zipL l (ks.map (txtL n))) (0+1)=bs []++(l[0]++bs [58]++bs (txtL n ks[0]))):=by show _=_;rw[qmB _ aK,aN]
    have HE:Hid (soFar (zipL l (ks.map (txtL n))) 0=bs []):=rfl
    clear aV aK aN
    rw[Nat.zero_mul,Nat.add_zero]at f0
    rw[Nat.zero_mul,Nat.add_zero]at f1 f2 f3 f4
    rw[HE.out]
    rw[HE.out]at bB
    generalize hac:bs []=acc at *
    generalize bs (txtL n ks[0])=tk at *
    generalize l[0]=nm at *
    rw[Nat.add_zero]at q0
    have bD:(acc++nm).size<=9900:=by rw[ByteArray.size_append];omega
    have aQ:(acc++nm++bs [58]).size<=9901:=by rw[ByteArray.size_append,qaJ];show _+1<=9901;omega
    clear hac
    go_wp2_with fail
    refine HQ.out.mono ?_
    rintro e w1 ⟨rfl,aL⟩
    have aA:=qaA aC aU aL
    obtain⟨j0,j1,j2,j3,j4⟩:=aO.keep aA
    clear aL HQ f0 f1 f2 f3 f4 i0 i1 i2 i3 i4
    go_wp2_with fail
    go_roundw
    case rel=>exact⟨0+1,by omega,by go_num,by rw[HS.out];exact congrArg Value.string (by rw[<- ByteArray.append_assoc,<- ByteArray.append_assoc];rfl),aA⟩
    case measure=>simp[intOf];omega
   ·have HS:Hid (soFar (zipL l (ks.map (txtL n))) (k+1)=soFar (zipL l (ks.map (txtL n))) k++bs [44]++(l[k]++bs [58]++bs (txtL n ks[k]))):=by show _=_;rw[qoJ _ _ aK (by omega),aN]
    have bJ:decide ((0:Int)<(k:Int))=true:=decide_eq_true (by omega)
    clear aV aK aN
    generalize soFar (zipL l (ks.map (txtL n))) k=acc at *
    generalize bs (txtL n ks[k])=tk at *
    generalize l[k]=nm at *
    have bD:(acc++bs [44]++nm).size<=9900:=by rw[ByteArray.size_append,ByteArray.size_append,qaJ];show _+1+_<=9900;omega
    have aQ:(acc++bs [44]++nm++bs [58]).size<=9901:=by rw[ByteArray.size_append,qaJ];show _+1<=9901;omega
    have bK:(acc++bs [44]).size<=9841:=by rw[ByteArray.size_append,qaJ];simp;omega
    go_wp2_with fail
    refine HQ.out.mono ?_
    rintro e w1 ⟨rfl,aL⟩
    have aA:=qaA aC aU aL
    obtain⟨j0,j1,j2,j3,j4⟩:=aO.keep aA
    clear aL HQ f0 f1 f2 f3 f4 i0 i1 i2 i3 i4
    go_wp2_with fail
    go_roundw
    case rel=>exact⟨k+1,by omega,by go_num,by rw[HS.out];exact congrArg Value.string (by rw[<- ByteArray.append_assoc,<- ByteArray.append_assoc];rfl),aA⟩
    case measure=>simp[intOf];omega
  ·have aW:k=ks.length:=by omega
   have HE:Hid (bs [123]++soFar (zipL l (ks.map (txtL n))) k++bs [125]=bs (123 :: joinL (zipL l (ks.map (txtL n)))++[125])):=by
    show _=_
    unfold soFar
    have e:ks.length=(zipL l (ks.map (txtL n))).length:=by rw[qbP _ _ (by simpa using aP.out)];simp
    rw[aW,e,List.take_length,qaU,qaU];rfl
   have aE:Below w.heap.size w wr:=qaA aS (by omega) aC
   clear aW aD aB aX
   generalize soFar (zipL l (ks.map (txtL n))) k=acc at *
   go_wp2_with fail
   go_ret
   exact⟨qdX HE.out,aE⟩
theorem xcA (n:Nat) (hn:qhL n):qhL (n+1):=by
 intro S t c0 c1 c2 c3 c4 d w ht hB hg hc
 have aA:=qhE (n+1) t d hg
 obtain⟨rfl,rfl,rfl,hs,-,-,h3,h4⟩:=ht
 obtain⟨na,nc,rfl,-,-,-⟩:=id h3
 obtain⟨ka,kc,aD,-,-⟩:=id h4
 simp only[goodT,Bool.and_eq_true]at hg
 have ha:qaQ (Nd.sort t) (Nd.num t) (Nd.text t) (Nd.names t) (Nd.kids t).length=true:=hg.1.2
 have aC:1+sumL (fun x=>cntT n x) (Nd.kids t)<=120:=by simpa only[cntT] using hc
 unfold qaQ at ha
 simp only[txtL]at aA ⊢
 by_cases h1:Nd.sort t=1
 ·rw[if_pos h1]at ha ⊢
  rw[h1,aD]
  simp only[Bool.and_eq_true,decide_eq_true_eq]at ha
  exact xgD _ _ _ _ _ _ _ _ w ha.1.1.1.1 ha.1.1.1.2
 rw[if_neg h1]at ha aA ⊢
 by_cases h2:Nd.sort t=2
 ·rw[if_pos h2]at ha ⊢
  rw[h2,aD]
  simp only[Bool.and_eq_true,textB,decide_eq_true_eq]at ha
  exact xbW _ _ _ _ _ _ _ _ w ha.1.1.2.1
 rw[if_neg h2]at ha aA ⊢
 by_cases h3':Nd.sort t=3
 ·rw[if_pos h3']
  rw[h3',aD]
  exact xbX _ _ _ _ _ _ _ _ w
 rw[if_neg h3']at ha aA ⊢
 by_cases h6:Nd.sort t=6
 ·rw[if_pos h6]
  rw[h6]
  exact qyB n hn S (Nd.kids t) _ _ _ _ _ _ (d+1) w h4 hB hg.2 aC
 rw[if_neg h6]at aA ⊢
 by_cases h5:Nd.sort t=5
 ·have aB:¬ Nd.sort t=4:=by omega
  rw[if_neg aB,if_pos h5]at ha
  rw[if_pos h5]at aA ⊢
  rw[h5]
  simp only[Bool.and_eq_true,beq_iff_eq]at ha
  simp only[List.length_append,List.length_cons,List.length_nil]at aA
  exact xbZ n hn S (Nd.kids t) (Nd.names t) _ _ _ _ _ (d+1) w h3 (by omega) (qfA _ ha.2) h4 hB hg.2 aC (by omega)
 rw[if_neg h5]at aA ⊢
 have aB:Nd.sort t=4:=by
  by_cases aB:Nd.sort t=4
  ·exact aB
  ·rw[if_neg aB,if_neg h5,if_neg h6]at ha;cases ha
 rw[aB]
 simp only[List.length_append,List.length_cons,List.length_nil]at aA
 exact xbY n hn S (Nd.kids t) _ _ _ _ _ _ (d+1) w h4 hB hg.2 aC (by omega)
theorem qoK:∀ n,qhL n:=by
 intro n
 induction n with
 | zero=>intro S t c0 c1 c2 c3 c4 d w ht;exact ht.elim
 | succ n ih=>exact xcA n ih
def textF (n:Nat) (t:T n):ByteArray:=if okT n t=true then bs (txtL n t) else bs []
theorem quN {n:Nat} {t:T n} (h:okT n t=true):goodT n t 1=true/\cntT n t<=120:=by
 simpa only[okT,Bool.and_eq_true,decide_eq_true_eq] using h
end Go.Proofs.YtelogmjfekhmpaaGreatDoor
