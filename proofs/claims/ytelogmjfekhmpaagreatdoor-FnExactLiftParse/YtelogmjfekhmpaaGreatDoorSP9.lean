import Derived.Test.YtelogmjfekhmpaaGreatDoorSP8
namespace Go.Proofs.YtelogmjfekhmpaaGreatDoor
set_option maxRecDepth 100000
set_option maxHeartbeats 16000000
open Go.RowKit
theorem qyY (ns:List ByteArray) (s:ByteArray):qcO (ns++[s]) ns.length=(nameB s && (ns.length==0 || ltB (ns.getD (ns.length - 1) ByteArray.empty) s) && !(s==bs [101,110,100])):=by
 have h1:(ns++[s]).getD ns.length ByteArray.empty=s:=by simp[List.getD]
 unfold qcO qdT
 rw[h1]
 rcases Nat.eq_zero_or_pos ns.length with h0|h0
 ·have:(ns.length==0)=true:=by simp[h0]
  rw[this];simp
 ·have h2:(ns++[s]).getD (ns.length - 1) ByteArray.empty=ns.getD (ns.length - 1) ByteArray.empty:=by
   simp only[List.getD_eq_getElem?_getD]
   rw[List.getElem?_append_left (by omega)]
  rw[h2]
theorem qqJ {R Y k z:Nat} {e:TypeId} {v:Value} {xs:List Value} {W w2:World} (h:W.ownsRow (Y+1) e z v k xs) (hRX:R<Y) (hn:Near R W w2) (o:Obj):(w2.alloc o).ownsRow (Y+1) e z v k xs:=
 qiA (X:=Y) h hRX hn o
theorem qjN {P X Y k z q:Nat} {e:TypeId} {v u:Value} {xs:List Value} {w W w2 w3:World} {o:Obj} {wv:Value} {ws:List ByteArray} {a c a0 c0:Nat} {fc fa f0 g0:Int} (h0:Prs w P wv ws a0 c0 f0 g0) (hn:Near P w (w3.setCell ⟨X,q,none⟩ u)) (hr:Prs w2 P wv ws a c fc fa) (h:W.ownsRow (Y+1) e z v k xs) (hPX:P<X) (hXY:X<=Y) (hg:(w2.alloc o).grownBy w3 v.ownBlock) :
  Prs (w3.setCell ⟨X,q,none⟩ u) P wv ws a c fc fa:=by
 have hl:=hr.lt
 refine h0.keep hn ?_
 rw[Below.heap_setCell _ _ _ _ (by show P≠X;omega),hg.block P (by simp;omega) (fun e=>by have:=qaF h P e.symm;omega),Below.heap_alloc _ _ _ hl]
 exact hr.box
theorem qeE {R X Y k z:Nat} {e:TypeId} {v:Value} {xs:List Value} {W w2 w3:World} {o:Obj} (h:W.ownsRow (Y+1) e z v k xs) (hX:X<W.heap.size) (hRX:R<X) (hXY:X<=Y) (hn:Near R W w2) (hg:(w2.alloc o).grownBy w3 v.ownBlock):w3.heap[X]?=W.heap[X]?:=by
 have hl:=hn.size
 rw[hg.block X (by simp;omega) (fun e=>by have:=qaF h X e.symm;omega),Below.heap_alloc _ _ _ (by omega)]
 exact hn.block X hX (by omega)
structure FRel (M m P X:Nat) (wv:Value) (ws:List ByteArray) (d:Int) (a c:Nat) (fc fa:Int) (w wr:World) (ns:List ByteArray) (ks:List (T m)) (ln a1 c1:Nat) (fc1 fa1:Int) (na:Option Addr) (nc:Nat) (ka:Option Addr) (kc:Nat):Prop where
 nl:ns.length=ln
 kl:ks.length=ln
 few:ln<=3001
 few0:fc1=0->ln<=a1
 many:ManyN P X (X+1) m w wr 24 0 ByteArray.empty ns ks (.slice na ln nc) (.slice ka ln kc)
 prs:Prs wr P wv ws a1 c1 fc1 fa1
 inv:FInv M m ws d a c fc fa ns ks a1 c1 fc1 fa1
 zero:wr.heap[X+1]?=some (.cells #[.int .i64 0,.int .i64 0,.string ⟨#[]⟩,.slice none 0 0,.slice none 0 0] 25 (0,0))
theorem FRel.out {M m P X:Nat} {wv:Value} {ws:List ByteArray} {d:Int} {a c:Nat} {fc fa:Int} {w wr W:World} {ns:List ByteArray} {ks:List (T m)} {ln a1 c1:Nat} {fc1 fa1:Int} {na:Option Addr} {nc:Nat} {ka:Option Addr} {kc:Nat} (h:FRel M m P X wv ws d a c fc fa w wr ns ks ln a1 c1 fc1 fa1 na nc ka kc) (hX:X=w.heap.size) (h0:Prs w P wv ws a c fc fa)
  {a2:Nat} {fc2 fa2:Int} (hn:Near P wr W) (hp:Prs W P wv ws a2 c1 fc2 fa2) (ha:(a2:Int)+d<=(ws.length:Int)+27) (hg:fc=0->Got (qaT (qaI M ws m false (d+1)) ws (ws.length+1) (⟨24,0,ByteArray.empty,[],[]⟩:Nd (T m)) a c) ⟨24,0,ByteArray.empty,ns,ks⟩ a2 c1 fc2 fa2) (hb:fc≠0->fc2=fc/\fa2=fa) :
  FPost M m P wv ws d a c fc fa w (.returned (.agg #[.int .i64 24,.int .i64 0,.string ByteArray.empty,.slice na ln nc,.slice ka ln kc])) (put5 W (X+1) 0 (.int .i64 24) (.int .i64 0) (.string ByteArray.empty) (.slice na ln nc) (.slice ka ln kc)):=by
 have hl:=h0.lt
 have hM:=h.many.keep (by omega) hn
 have aB:=h.nl
 have aC:=h.kl
 have aA:=h.few
 refine f_exit (X+1) (by omega) h0 hM.near hp ?_ ha h.inv.2.2.2 hg hb
 exact (qwU hM (wfT _ (by omega) (by omega)) (wfT _ (by omega) (by omega)) (by decide) (by omega) (by omega)).keep (fun _ _=>rfl) (fun b hb=>⟨by omega,hb.2⟩)
theorem qmP {w:World} {B q cap:Nat} {e:TypeId} {na:Option Addr} {xs:List Value} (h:w.ownsRow B e 1 (.slice na (q+1) cap) (q+1) xs):∃ g,na=some ⟨g,0,none⟩:=by
 rcases h.2 with ⟨hv,h0⟩|⟨g,cap,cur,hv,aB,hg,aC,aD,aE,aA⟩
 ·omega
 ·cases hv;exact⟨g,rfl⟩
theorem qmQ {w:World} {B q cap g:Nat} {e:TypeId} {ns:List ByteArray} (h:w.ownsRow B e 1 (.slice (some ⟨g,0,none⟩) (q+1) cap) (q+1) (ns.map .string)) (hl:ns.length=q+1):w.cell? ⟨g,q,none⟩=some (.string (ns.getD q ByteArray.empty)):=by
 have hx:(ns.map Value.string)[q]?=some (.string (ns.getD q ByteArray.empty)):=by
  rw[List.getElem?_map,List.getD_eq_getElem?_getD,List.getElem?_eq_getElem (by omega)]
  rfl
 have:=h.cells (g:=g) rfl q _ hx
 rwa [Addr.add_lit,Nat.zero_add]at this
theorem xdY (M m:Nat) (hI:NSaid M m):FSaid M m:=by
 intro P wv ws d a c fc fa w eC cC cY hp ha hc h0
 have dW:=hp.lt
 obtain⟨X,hX⟩:∃ X,X=w.heap.size:=⟨_,rfl⟩
 obtain⟨W1,aX⟩:∃ W1,W1=(w.alloc (.cells #[.int .i64 24,.int .i64 0,.string ⟨#[]⟩,.slice none 0 0,.slice none 0 0] 25)).alloc (.cells #[.int .i64 0,.int .i64 0,.string ⟨#[]⟩,.slice none 0 0,.slice none 0 0] 25):=⟨_,rfl⟩
 have dA:W1.heap.size=X+2:=by rw[aX,hX];simp
 have bN:Below w.heap.size w W1:=by rw[aX];exact ((Below.refl _ _).alloc (Nat.le_refl _) _).alloc (by simp) _
 have cL:FRel M m P X wv ws d a c fc fa w W1 [] [] 0 a c fc fa none 0 none 0:=by
  refine⟨rfl,rfl,by omega,fun _=>Nat.zero_le _,⟨Near.of_below bN,?_,⟨rfl,.inl ⟨rfl,rfl⟩⟩,by simp,⟨[],⟨rfl,.inl ⟨rfl,rfl⟩⟩,fun j hj=>absurd hj (Nat.not_lt_zero _)⟩,fun b hb=>(by cases hb),⟨by omega,by omega⟩⟩,hp.same bN,FInv.start ha cC hc h0,?_⟩
  ·rw[aX,hX,Below.heap_alloc _ _ _ (by simp)];exact heap_alloc_new _ _
  ·have:=heap_alloc_new (w.alloc (.cells #[.int .i64 24,.int .i64 0,.string ⟨#[]⟩,.slice none 0 0,.slice none 0 0] 25)) (.cells #[.int .i64 0,.int .i64 0,.string ⟨#[]⟩,.slice none 0 0,.slice none 0 0] 25)
   rw[show (w.alloc (.cells #[.int .i64 24,.int .i64 0,.string ⟨#[]⟩,.slice none 0 0,.slice none 0 0] 25)).heap.size=X+1 by rw[hX];simp]at this
   rw[aX];exact this
 have HI:=Lib.hid hI
 have aI:=Lib.hid hp
 have cM:=Lib.hid cL
 have HX:=Lib.hid hX
 have aK:P<X:=by omega
 have dX:=hp.few
 have dB:=Lib.hid cY
 clear hI hp h0 bN cL ha hc cY hX
 go_enter Tryz.func24,Tryz.ntmps24
 go_wp2_with fail
 rw[<- aX]
 clear aX
 rw[<- HX.out]
 go_loopw [7] (fun _ wr=>∃ (ns:List ByteArray) (ks:List (T m)) (ln a1 c1:Nat) (fc1 fa1:Int) (na:Option Addr) (nc:Nat) (ka:Option Addr) (kc:Nat),FRel M m P X wv ws d a c fc fa w wr ns ks ln a1 c1 fc1 fa1 na nc ka kc) (fun _ wr=>leftP wr P ws.length)
 case atStart=>exact⟨[],[],0,a,c,fc,fa,none,0,none,0,cM.out⟩
 case round=>
  clear cM dA
  obtain⟨ns,ks,ln,a1,c1,fc1,fa1,na,nc,ka,kc,hrel⟩:=hrel
  have dC:=hrel.few
  have dD:=hrel.many.lt
  have dE:=hrel.many.xy.2
  have dY:=hrel.inv.2.2.1
  have HR:=Lib.hid hrel
  clear hrel
  have dZ:IntKind.i64.wrap ((a1:Int)+1)=(a1:Int)+1:=by rw[IntKind.wrap_i64];omega
  have dF:¬ X=X+1:=by omega
  have dG:¬ P=X+1:=by omega
  have dH:¬ P=X:=by omega
  by_cases hf1:fc1=0
  case neg=>
   have dI:(fc1==0)=false:=by simp[hf1]
   have HP:aE (FPost M m P wv ws d a c fc fa w _ _):=HR.out.out HX.out aI.out (W:=wr.setCell ⟨P,1,none⟩ (.int .i64 ((a1+1:Nat):Int))) (Near.set P 1 wr _) (HR.out.prs.setAt (a1+1)) (by omega) (HR.out.inv.bad hf1 _ _).1 (HR.out.inv.bad hf1 ⟨24,0,ByteArray.empty,ns,ks⟩ (a1+1)).2
   obtain⟨⟨x0,x1,x2,x3,x4⟩,-⟩:=qaC HR.out.many.box
   obtain⟨⟨z0,z1,z2,z3,z4⟩,zf⟩:=qaC HR.out.zero
   have zf0:=zf 0
   have zf1:=zf 1
   have zf2:=zf 2
   have zf3:=zf 3
   have zf4:=zf 4
   obtain⟨⟨p0,p1,p2,p3,p4⟩,pf⟩:=HR.out.prs.cells
   have pf1:=pf 1
   clear zf pf
   clear HR HI aI hf1
   go_wp2_with fail
   refine bodyPost_ret (v:=.agg #[.int .i64 24,.int .i64 0,.string ByteArray.empty,.slice na ln nc,.slice ka ln kc]) (by simp[results,Tryz.results24,go_sem,z0,z1,z2,z3,z4]) rfl ?_
   exact HP.out
  subst hf1
  obtain⟨h0,cD,eD,dS,dT⟩:=HR.out.inv.ok
  have eA:=HR.out.few0 rfl
  subst cD
  have HL:=Lib.hid (qfE HR.out.prs)
  have aU:aE (∀ n,Calls Tryz.prog 21 #[.pointer (some ⟨P,0,none⟩)] (wr.drewN n) fun e w'=>e=.returned (.string (wordD ws a1))/\∃ n,w'=wr.drewN n):=fun n=>by
   refine (qfE (HR.out.prs.drewN n)).mono ?_
   rintro e w' ⟨rfl,q,rfl⟩
   exact⟨rfl,n+q,World.drewN_drewN ..⟩
  have aF:=Lib.hid (qiT (wordD ws a1) [101,110,100])
  have bO:=Lib.hid (qdQ HR.out.prs.short a1)
  obtain⟨s,hs⟩:∃ s,wordD ws a1=s:=⟨_,rfl⟩
  rw[hs]at HL aU aF bO
  cases he:(s==bs [101,110,100]) with
  | true=>
   have cN:=aF.out.trans he
   have bP:=Lib.hid (HR.out.inv.done (by rw[hs];exact he))
   have HP:aE (∀ n,FPost M m P wv ws d a c fc fa w _ _):=fun n=>HR.out.out HX.out aI.out (W:=(wr.drewN n).setCell ⟨P,1,none⟩ (.int .i64 ((a1+1:Nat):Int))) ((qbH (Near.refl P wr) n).trans (Near.set P 1 _ _)) ((HR.out.prs.drewN n).setAt (a1+1)) (by omega) bP.out.1 bP.out.2
   obtain⟨⟨x0,x1,x2,x3,x4⟩,-⟩:=qaC HR.out.many.box
   obtain⟨⟨z0,z1,z2,z3,z4⟩,zf⟩:=qaC HR.out.zero
   have zf0:=zf 0
   have zf1:=zf 1
   have zf2:=zf 2
   have zf3:=zf 3
   have zf4:=zf 4
   obtain⟨⟨p0,p1,p2,p3,p4⟩,pf⟩:=HR.out.prs.cells
   have pf1:=pf 1
   clear zf pf
   clear HR HI aI bP he hs aU aF
   go_wp2_with fail
   refine HL.out.mono ?_
   rintro e w2 ⟨rfl,n,rfl⟩
   go_wp2_with fail
   refine bodyPost_ret (v:=.agg #[.int .i64 24,.int .i64 0,.string ByteArray.empty,.slice na ln nc,.slice ka ln kc]) (by simp[results,Tryz.results24,go_sem,z0,z1,z2,z3,z4]) rfl ?_
   exact HP.out n
  | false=>
   have cN:=aF.out.trans he
   have HN:aE (∀ w',Calls Tryz.prog 40 #[.string s] w' fun e w''=>e=.returned (.bool (nameB s))/\w''=w'):=fun w'=>qdR s w' (by have:=bO.out;unfold maxLen;omega)
   have aO:=Lib.hid (qyY ns s)
   rw[he,HR.out.nl]at aO
   have dJ:aE (qcO (ns++[s]) ln=false->∀ n,FPost M m P wv ws d a c fc fa w (.returned (.agg #[.int .i64 24,.int .i64 0,.string ByteArray.empty,.slice na ln nc,.slice ka ln kc])) (put5 (wr.drewN n) (X+1) 0 (.int .i64 24) (.int .i64 0) (.string ByteArray.empty) (.slice na ln nc) (.slice ka ln kc))->True):=fun _ _ _=>trivial
   clear dJ
   have aD:aE (qcO (ns++[s]) ln=false->∀ n,Calls Tryz.prog 12 #[.pointer (some ⟨P,0,none⟩),.int .i64 2] (wr.drewN n) fun e w'=>e=.returned (.tuple #[])/\FPost M m P wv ws d a c fc fa w (.returned (.agg #[.int .i64 24,.int .i64 0,.string ByteArray.empty,.slice na ln nc,.slice ka ln kc])) (put5 w' (X+1) 0 (.int .i64 24) (.int .i64 0) (.string ByteArray.empty) (.slice na ln nc) (.slice ka ln kc))/\w'.heap[X]?=some (.cells #[.int .i64 24,.int .i64 0,.string ByteArray.empty,.slice na ln nc,.slice ka ln kc] 25 (0,0))/\w'.heap[X+1]?=some (.cells #[.int .i64 0,.int .i64 0,.string ⟨#[]⟩,.slice none 0 0,.slice none 0 0] 25 (0,0))):=fun hfb n=>by
    refine (qdE (HR.out.prs.drewN n) 2).mono ?_
    rintro e w' ⟨rfl,hn,hp⟩
    have aP:Near P wr w':=(qbH (Near.refl P wr) n).trans hn
    have cO:=HR.out.inv.no (by rw[hs];exact he) (by rw[hs,HR.out.nl];exact hfb) ⟨24,0,ByteArray.empty,ns,ks⟩
    exact⟨rfl,HR.out.out HX.out aI.out aP hp (by omega) cO.1 cO.2,(aP.block X dD (by omega)).trans HR.out.many.box,(aP.block (X+1) dE (by omega)).trans HR.out.zero⟩
   obtain⟨⟨p0,p1,p2,p3,p4⟩,pf⟩:=HR.out.prs.cells
   have pf1:=pf 1
   clear pf
   have x3:wr.cell? ⟨X,3,none⟩=some (.slice na ln nc):=(qaC HR.out.many.box).1.2.2.2.1
   have x4:wr.cell? ⟨X,4,none⟩=some (.slice ka ln kc):=(qaC HR.out.many.box).1.2.2.2.2
   have HE:=Lib.hid he
   have HS:=Lib.hid hs
   clear he hs aF
   cases hnm:nameB s with
   | false=>
    rw[hnm]at HN aO
    have HF:=Lib.hid (aD.out (by rw[aO.out];rfl))
    clear aD aO HR aI HI HE HS hnm
    go_wp2_with fail
    refine HL.out.mono ?_
    rintro e w2 ⟨rfl,n,rfl⟩
    go_wp2_with fail
    refine (aU.out n).mono ?_
    rintro e w3 ⟨rfl,n,rfl⟩
    go_wp2_with fail
    refine (HN.out _).mono ?_
    rintro e w4 ⟨rfl,rfl⟩
    go_wp2_with fail
    refine (HF.out _).mono ?_
    rintro e w5 ⟨rfl,aL,bD,bE⟩
    have HP:=Lib.hid aL
    obtain⟨⟨x0,x1,x2,y3,y4⟩,-⟩:=qaC bD
    obtain⟨⟨z0,z1,z2,z3,z4⟩,zf⟩:=qaC bE
    have zf0:=zf 0
    have zf1:=zf 1
    have zf2:=zf 2
    have zf3:=zf 3
    have zf4:=zf 4
    clear zf aL bD bE HF
    go_wp2_with fail
    refine bodyPost_ret (v:=.agg #[.int .i64 24,.int .i64 0,.string ByteArray.empty,.slice na ln nc,.slice ka ln kc]) (by simp[results,Tryz.results24,go_sem,z0,z1,z2,z3,z4]) rfl ?_
    exact HP.out
   | true=>
    rw[hnm]at HN aO
    have cP:=Lib.hid hnm
    clear hnm
    obtain⟨okb,aC⟩:∃ okb,(ln==0 || ltB (ns.getD (ln - 1) ByteArray.empty) s)=okb:=⟨_,rfl⟩
    have aQ:aE (qcO (ns++[s]) ln=okb):=by show _=_;rw[aO.out,aC];simp
    clear aO
    cases okb with
    | false=>
     rw[Bool.or_eq_false_iff]at aC
     obtain⟨q,rfl⟩:∃ q,ln=q+1:=⟨ln - 1,by have:=aC.1;simp at this;omega⟩
     have aR:Op.bytesLess (ns.getD q ByteArray.empty).toList s.toList=false:=aC.2
     have HF:=Lib.hid (aD.out aQ.out)
     obtain⟨g,hg⟩:=(qmP (by have:=HR.out.many.names;rw[HR.out.nl]at this;exact this):∃ g,na=some ⟨g,0,none⟩)
     subst hg
     have bQ:wr.cell? ⟨g,q,none⟩=some (.string (ns.getD q ByteArray.empty)):=qmQ (by have:=HR.out.many.names;rw[HR.out.nl]at this;exact this) HR.out.nl
     generalize ns.getD q ByteArray.empty=z at *
     have dK:(0:Int)<((q+1:Nat):Int):=by omega
     have dL:(((q+1:Nat):Int) - 1).toNat=q:=by omega
     have dM:((q+1:Nat):Int) - 1=(q:Int):=by omega
     clear aD aQ HR aI HI HE HS aC cP
     go_wp2_with fail
     refine HL.out.mono ?_
     rintro e w2 ⟨rfl,n,rfl⟩
     go_wp2_with fail
     refine (aU.out n).mono ?_
     rintro e w3 ⟨rfl,n,rfl⟩
     go_wp2_with fail
     refine (HN.out _).mono ?_
     rintro e w4 ⟨rfl,rfl⟩
     go_wp2_with fail
     refine (HF.out _).mono ?_
     rintro e w5 ⟨rfl,aL,bD,bE⟩
     have HP:=Lib.hid aL
     obtain⟨⟨x0,x1,x2,y3,y4⟩,-⟩:=qaC bD
     obtain⟨⟨z0,z1,z2,z3,z4⟩,zf⟩:=qaC bE
     have zf0:=zf 0
     have zf1:=zf 1
     have zf2:=zf 2
     have zf3:=zf 3
     have zf4:=zf 4
     clear zf aL bD bE HF
     go_wp2_with fail
     refine bodyPost_ret (v:=.agg #[.int .i64 24,.int .i64 0,.string ByteArray.empty,.slice (some ⟨g,0,none⟩) (q+1) nc,.slice ka (q+1) kc]) (by simp[results,Tryz.results24,go_sem,z0,z1,z2,z3,z4]) rfl ?_
     exact HP.out
    | true=>
     have aY:=Lib.hid HR.out.inv
     have cQ:=Lib.hid aQ.out
     have bR:a1<ws.length:=qoV (by rw[HS.out];exact cP.out)
     have bS:=Lib.hid HR.out
     have aG:aE (∀ q,ln=q+1->∃ g z,na=some ⟨g,0,none⟩/\wr.cell? ⟨g,q,none⟩=some (.string z)/\Op.bytesLess z.toList s.toList=true):=fun q hq=>by
      have aP:=HR.out.many.names
      rw[HR.out.nl]at aP
      subst hq
      obtain⟨g,rfl⟩:=qmP aP
      refine⟨g,ns.getD q ByteArray.empty,rfl,qmQ aP HR.out.nl,?_⟩
      have:((q+1==0)=false):=rfl
      rw[this,Bool.false_or]at aC
      exact aC
     go_upto_region 3 with (first|(go_at_call 21;first|(refine HL.out.mono ?_;clear HL;rintro e w2 ⟨rfl,n,rfl⟩)|(refine (aU.out n).mono ?_;clear aU;rintro e w3 ⟨rfl,n3,rfl⟩)))
     go_cut [7,41] from 8 to 67 (fun sv b wx=>sv=.string s/\b=.bool false/\∃ q,wx=wr.drewN q)
     case first=>
      clear aD aY bS HI aI HE HS cQ HR
      rcases Nat.eq_zero_or_pos ln with cE|cE
      ·subst cE
       clear aC
       go_wp2_with fail
       refine (HN.out _).mono ?_
       rintro e w4 ⟨rfl,rfl⟩
       go_wp2_with fail
       go_meet
       exact⟨rfl,rfl,_,rfl⟩
      ·obtain⟨q,rfl⟩:∃ q,ln=q+1:=⟨ln - 1,by omega⟩
       obtain⟨g,z,rfl,bQ,aR⟩:=aG.out q rfl
       have dK:(0:Int)<((q+1:Nat):Int):=by omega
       have dL:(((q+1:Nat):Int) - 1).toNat=q:=by omega
       have dM:((q+1:Nat):Int) - 1=(q:Int):=by omega
       clear aC aG cE
       go_wp2_with fail
       refine (HN.out _).mono ?_
       rintro e w4 ⟨rfl,rfl⟩
       go_wp2_with fail
       go_meet
       exact⟨rfl,rfl,_,rfl⟩
     case rest=>
      obtain⟨rfl,rfl,q,rfl⟩:=hcut
      clear aG HN aD aC cN x3 x4
      have bK:=HR.out.many.keep aK (qbH (Near.refl P wr) q)
      have bL:=HR.out.prs.drewN q
      have bT:(wr.drewN q).heap[X+1]?=_:=HR.out.zero
      obtain⟨W3,cF⟩:∃ W3,W3=wr.drewN q:=⟨_,rfl⟩
      rw[<- cF]at bK bL bT
      rw[<- cF]
      clear cF
      obtain⟨⟨p0,p1,p2,p3,p4⟩,pf⟩:=bL.cells
      have pf1:=pf 1
      obtain⟨W4,cG⟩:∃ W4,W4=W3.setCell ⟨P,1,none⟩ (.int .i64 ((a1:Int)+1)):=⟨_,rfl⟩
      have aV:=bK.keep aK (Near.set P 1 W3 (.int .i64 ((a1:Int)+1)))
      have bU:Prs (W3.setCell ⟨P,1,none⟩ (.int .i64 ((a1:Int)+1))) P wv ws (a1+1) c1 0 0:=bL.setAt (a1+1)
      have bV:(W3.setCell ⟨P,1,none⟩ (.int .i64 ((a1:Int)+1))).heap[X+1]?=_:=(Below.heap_setCell _ _ _ _ (by show X+1≠P;omega)).trans bT
      rw[<- cG]at aV bU bV
      have aW:aE (W4.ownsRow (X+1+1) 9 1 (.slice na ln nc) ln (ns.map .string)):=by
       have:=aV.names
       rw[HR.out.nl]at this;exact this
      have x3w:W3.cell? ⟨X,3,none⟩=some (.slice na ln nc):=(qaC bK.box).1.2.2.2.1
      have cR:=aV.lt
      have bW:=aV.xy.2
      have aZ:=Lib.hid aV
      have cS:=Lib.hid bU
      have cT:=Lib.hid bV
      obtain⟨is0,aH,bF,bG,bH⟩:=info_parts Tryz.info_strF
      have bA:aE (_/\_/\_/\_):=⟨aH,bF,bG,bH⟩
      clear aH bF bG bH bK bL bT aV bU bV pf
      go_upto_region 7 with fail
      rw[<- cG]
      clear cG p0 p1 p2 p3 p4 pf1 x3w
      have x3:W4.cell? ⟨X,3,none⟩=some (.slice na ln nc):=(qaC aZ.out.box).1.2.2.2.1
      go_wp2_with (at_builtin;refine wpList_append_lies _ rfl (.tmp 54) (.tmp 56) 22 rfl (X+1+1) 9 is0 _ 1 16 Tryz.underlying22 bA.out.1 bA.out.2.1 bA.out.2.2.1 bA.out.2.2.2 rfl (by decide) (.slice na ln nc) ln (ns.map .string) rfl (aW.out.alloc _) ⟨W4.heap.size,0,none⟩ 1 1 [.string s] rfl rfl (World.news_of_block (heap_alloc_new W4 _)) (by simp[Value.oneCell']) (by decide) (by unfold maxLen;omega) (by omega) (by simp;omega) (W4.heap.size+1) (by simp) ?_;intro g cap w5 aM aA bI cH;refine aE.out ?_)
      refine Lib.hid ?_
      have aJ:=ManyN.name (W:=W4) (Wa:=W4.alloc (.cells #[.string s] 9)) (one:=.cells #[.string s] 9) (x:=s) (g:=g) (cap:=cap) aZ.out (by have:=HX.out;omega) rfl ⟨rfl,rfl,rfl⟩ (by have:=bO.out;omega) (by rw[HR.out.nl];exact aM) aA bI
      rw[HR.out.nl]at aJ
      have bX:=qjN (q:=3) (u:=.slice (some ⟨g,0,none⟩) (ln+1) cap) aI.out aJ.near cS.out aW.out aK (Nat.le_succ X) aA
      have bY:(w5.setCell ⟨X,3,none⟩ (.slice (some ⟨g,0,none⟩) (ln+1) cap)).heap[X+1]?=_:=(Below.heap_setCell _ _ _ _ (by show X+1≠X;omega)).trans ((qeE (X:=X+1) (Y:=X+1) aW.out bW (by omega) (Nat.le_refl _) (Near.refl P W4) aA).trans cT.out)
      obtain⟨V,hV⟩:∃ V,V=w5.setCell ⟨X,3,none⟩ (.slice (some ⟨g,0,none⟩) (ln+1) cap):=⟨_,rfl⟩
      have y3:w5.cell? ⟨X,3,none⟩=some (.slice na ln nc):=(qaC ((qeE (X:=X) (Y:=X+1) aW.out cR aK (Nat.le_succ X) (Near.refl P W4) aA).trans aZ.out.box)).1.2.2.2.1
      have y3f:w5.frozen? ⟨X,3,none⟩=false:=(qaC ((qeE (X:=X) (Y:=X+1) aW.out cR aK (Nat.le_succ X) (Near.refl P W4) aA).trans aZ.out.box)).2 3
      rw[<- hV]at aJ bX bY
      have cU:=Lib.hid aJ
      have dN:=Lib.hid bX
      have dO:=Lib.hid bY
      have cV:=aJ.lt
      have bZ:=aJ.xy.2
      have x4:V.cell? ⟨X,4,none⟩=some (.slice ka ln kc):=(qaC aJ.box).1.2.2.2.2
      obtain⟨xs,cI,cZ⟩:=aJ.kids
      have dP:=hidF cZ
      have bB:aE (V.ownsRow (X+1+1) 25 5 (.slice ka ln kc) ln xs):=by
       rw[HR.out.kl]at cI;exact cI
      have eB:IntKind.i64.wrap (d+1)=d+1:=by rw[IntKind.wrap_i64];omega
      have HK:=Lib.hid (HI.out P wv ws false (d+1) (a1+1) c1 V.drew (by omega) (by omega) (by have:=dB.out;omega) (dN.out.drewN 1) (by omega) dS)
      obtain⟨ik0,aH,bF,bG,bH⟩:=info_parts Tryz.info_nodeF
      have bM:aE (_/\_/\_/\_):=⟨aH,bF,bG,bH⟩
      clear aH bF bG bH cI cZ aJ bX bY aM aA bI cH aZ aW cS cT x3 bA
      go_wp2_with fail
      rw[<- hV]
      clear hV y3 y3f
      go_region_law (first
       | (refine step_append_lies _ (by rfl) (.tmp 60) (.tmp 65) 23 (by rfl) (X+1+1) 25 ik0 _ 5 80 Tryz.underlying23 bM.out.1 bM.out.2.1 bM.out.2.2.1 bM.out.2.2.2 rfl (by decide) (.slice ka ln kc) ln xs (by rfl) (bC _) ⟨v2.heap.size,0,none⟩ 1 1 [.int .i64 t0,.int .i64 t1,.string t2,.slice ta tl tc,.slice ua ul uc] (by rfl) rfl (World.news_of_block (heap_alloc_new v2 _)) (by simp[Value.oneCell']) (by decide) (by unfold maxLen;omega) (by omega) (by simp;omega) (v2.heap.size+1) (by simp) ?_;intro g2 cap2 v3 aN aB bJ aR;have cA:=(qeE (W:=V.drew) (X:=X) (Y:=X+1) bB.out cV aK (Nat.le_succ X) aT aB).trans cU.out.box;have x4'':v3.cell? ⟨X,4,none⟩=some (.slice ka ln kc):=(by simp[World.cell?,cA]);have xg'':v3.frozen? ⟨X,4,none⟩=false:=(by simp[World.frozen?,cA]))
       | (go_simp;go_at_call 11;refine HK.out.mono ?_;rintro e v2 ⟨aT,t5,f0,f1,f2,f3,f4,a5,c5,fc5,fa5,rfl,cJ,aL,dU,dV,cK⟩;obtain⟨t0,t1,t2,ta,tl,tc,ua,ul,uc,rfl,rfl,rfl,rfl,rfl⟩:=cJ.shape;have dQ:V.heap.size<=v2.heap.size:=aT.size;have bC:=fun o=>qqJ (R:=P) (Y:=X+1) (W:=V.drew) bB.out (by omega) aT o;have x4':v2.cell? ⟨X,4,none⟩=some (.slice ka ln kc):=(World.cell?_of_block (aT.block X (by simpa using cV) (by omega))).trans x4;have x4a:(v2.alloc (.cells #[.int .i64 t0,.int .i64 t1,.string t2,.slice ta tl tc,.slice ua ul uc] 25)).cell? ⟨X,4,none⟩=some (.slice ka ln kc):=(World.cell?_of_block (Below.heap_alloc _ _ _ (by show X<_;omega))).trans x4'))
      all_goals
       have hF:=ManyN.kidD (g:=g2) (cap:=cap2) (xs:=xs) 1 cU.out aK (by have:=HX.out;omega) aT cJ (by rw[HR.out.kl];exact bB.out) dP.out (by rw[HR.out.kl];exact aN) aB bJ
       rw[HR.out.kl]at hF
       have cW:=qjN (q:=4) (u:=.slice (some ⟨g2,0,none⟩) (ln+1) cap2) aI.out hF.near aL bB.out aK (Nat.le_succ X) aB
       have cX:(v3.setCell ⟨X,4,none⟩ (.slice (some ⟨g2,0,none⟩) (ln+1) cap2)).heap[X+1]?=_:=(Below.heap_setCell _ _ _ _ (by show X+1≠X;omega)).trans ((qeE (W:=V.drew) (X:=X+1) (Y:=X+1) bB.out bZ (by omega) (Nat.le_refl _) aT aB).trans dO.out)
       have cB:=aY.out.more (by rw[HS.out];exact HE.out) (by rw[HS.out,HR.out.nl];exact cQ.out) bR cK dU dV
       rw[HS.out]at cB
       have aS:fc5=0->a1+1<a5:=fun q=>by
        subst q
        have:=qbU M ws m false (d+1) (a1+1) c1 _ cK.zero.1
        exact this.2.2.2.2.1
       have HF:aE (FRel M m P X wv ws d a c fc fa w (v3.setCell ⟨X,4,none⟩ (.slice (some ⟨g2,0,none⟩) (ln+1) cap2)) (ns++[s]) (ks++[t5]) (ln+1) a5 c5 fc5 fa5 (some ⟨g,0,none⟩) cap (some ⟨g2,0,none⟩) cap2):=
        ⟨by simp[HR.out.nl],by simp[HR.out.kl],by omega,fun q=>by have:=aS q;omega,hF,cW,cB,cX⟩
       have dR:aE (leftP (v3.setCell ⟨X,4,none⟩ (.slice (some ⟨g2,0,none⟩) (ln+1) cap2)) P ws.length<leftP wr P ws.length):=by
        show _<_
        rw[HF.out.prs.left,HR.out.prs.left,if_pos rfl]
        split
        ·rename_i q;have:=aS q;omega
        ·omega
       clear hF cW cX cB aS aN aB bJ aR cJ aL cK aT bC x4' x4a x4'' xg'' cA
       go_wp2_with fail
       go_roundw
       case rel=>exact⟨ns++[s],ks++[t5],ln+1,a5,c5,fc5,fa5,some ⟨g,0,none⟩,cap,some ⟨g2,0,none⟩,cap2,HF.out⟩
       case measure=>exact dR.out
end Go.Proofs.YtelogmjfekhmpaaGreatDoor
