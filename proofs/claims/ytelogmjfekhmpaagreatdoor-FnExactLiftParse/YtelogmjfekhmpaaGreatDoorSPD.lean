import Derived.Test.YtelogmjfekhmpaaGreatDoorSPA
import Derived.Test.YtelogmjfekhmpaaGreatDoorSPC
import Derived.Test.YtelogmjfekhmpaaGreatDoorSPZ
import Derived.Test.YtelogmjfekhmpaaGreatDoorSLB
import Derived.Test.YtelogmjfekhmpaaGreatDoorSP2
import Derived.Test.YtelogmjfekhmpaaGreatDoorPNF
namespace Go.Proofs.YtelogmjfekhmpaaGreatDoor
set_option maxRecDepth 100000
set_option maxHeartbeats 16000000
open Go.RowKit
theorem xfD (M:Nat) (hM:3000<=M):∀ m,NSaid M m:=by
 intro m
 induction m with
 | zero=>intro P wv ws act d a c w h1 h2 h3;exfalso;have:((0:Nat):Int)=0:=rfl;omega
 | succ m ih=>
  intro P wv ws act d a c w
  by_cases h0:opW (wordD ws a)=0
  ·exact qiE M m hM ih P wv ws act d a c w (.inl h0)
  by_cases ha:act=decide ((36:Int)<=(opW (wordD ws a):Int))
  case neg=>exact qiE M m hM ih P wv ws act d a c w (.inr (.inl ha))
  by_cases h24:opW (wordD ws a)=24
  ·exact qiE M m hM ih P wv ws act d a c w (.inr (.inr h24))
  ·exact xhI M m hM ih P wv ws act d a c w _ rfl h0 h24 ha.symm
theorem xhT (m:Nat) (t:T m) (d:Int) (hg:goodN m t d=true) (h:poT m t=65):1<=lenN m t:=by
 cases m with
 | zero=>simp[goodN]at hg
 | succ m=>
  have aA:36<=Nd.sort t/\Nd.sort t<=43:=by
   have h2:poF (Nd.sort t)=65:=h
   unfold poF at h2
   split at h2
   ·cases h2
   ·split at h2
    ·cases h2
    ·omega
  have hw:=((qlC (Nd.sort t).toNat (by omega)).2 (by omega)).1
  show 1<=lenF (lenN m) (show Nd (T m) from t)
  unfold lenF
  rw[if_neg (by show ¬ Nd.sort t<=3;omega),if_neg (by show ¬ Nd.sort t=4;omega)]
  have:1<=(wrd (show Nd (T m) from t).sort.toNat).size:=hw
  omega
theorem qoD (m:Nat) (S:Nat->Prop) (t:T m) (c0 c1 c2 c3 c4:Value) (w:World) (hin:NodeIn S w m t c0 c1 c2 c3 c4) (hB:∀ b,S b->b<w.heap.size) (hg:goodN m t 1=true) (hpo:poT m t=65) (hc:cntT m t<=200) :
  Calls Tryz.prog 13 #[.agg #[c0,c1,c2,c3,c4]] w fun e w'=>Below w.heap.size w w' /\ ∃ s,e=.returned (.string s)/\(s.size=0↔¬ lenN m t<=3000):=by
 have aR:=xjQ m t 1 hg
 have aS:=qvG m t 1 hg
 have aP:=xhT m t 1 hg hpo
 obtain⟨x0,x1,x2,xa,xl,xc,ya,yl,yc,rfl,rfl,rfl,rfl,rfl⟩:=hin.shape
 obtain⟨W0,aC⟩:∃ W0,W0=w.alloc (.cells #[.int .i64 x0,.int .i64 x1,.string x2,.slice xa xl xc,.slice ya yl yc] 25):=⟨_,rfl⟩
 have aE:Below w.heap.size w W0:=by rw[aC];exact (Below.refl _ _).alloc (Nat.le_refl _) _
 have aF:W0.heap[w.heap.size]?=some (.cells #[.int .i64 x0,.int .i64 x1,.string x2,.slice xa xl xc,.slice ya yl yc] 25 (0,0)):=by rw[aC];exact heap_alloc_new _ _
 obtain⟨aD,aN⟩:=hin.step hB aE
 have aT:W0.heap.size=w.heap.size+1:=by rw[aC];simp
 have aB:Hid (Calls Tryz.prog 31 _ _ _):=qvH m S t _ _ _ _ _ W0 aD aN (by omega)
 have aG:Hid (∀ W,Below W0.heap.size W0 W->Calls Tryz.prog 32 #[.agg #[.int .i64 x0,.int .i64 x1,.string x2,.slice xa xl xc,.slice ya yl yc]] W fun e w'=>Below W.heap.size W w' /\ ∃ s,e=.returned (.string s)/\s.size=lenN m t):=fun W hb=>by
  obtain⟨aJ,aQ⟩:=aD.step aN hb
  refine (qtJ m S t _ _ _ _ _ 1 W aJ aQ hg (by omega)).mono ?_
  rintro e w' h
  exact⟨h.1,h.2⟩
 have aK:okA m t=decide (lenN m t<=3000):=by
  unfold okA okN
  rw[decide_eq_true hpo,hg,decide_eq_true hc];rfl
 rw[aK]at aB
 have aL:=Lib.hid aE
 obtain⟨⟨y0,y1,y2,y3,y4⟩,-⟩:=qaC aF
 have aH:=Lib.hid aF
 clear hin aD aE aK aF
 by_cases h3:lenN m t<=3000
 ·rw[decide_eq_true h3]at aB
  have HE:Hid (∀ s:ByteArray,s.size=lenN m t->(s.size=0↔¬ lenN m t<=3000)):=fun s hs=>⟨fun h=>by omega,fun h=>absurd h3 h⟩
  generalize lenN m t=L at *
  go_enter Tryz.func13,Tryz.ntmps13
  go_upto_region 1 with fail
  rw[<- aC]
  clear aC
  go_wp2_with fail
  refine aB.out.mono ?_
  rintro e w1 ⟨rfl,aA⟩
  have aM:=Lib.hid (aG.out w1 aA)
  obtain⟨⟨z0,z1,z2,z3,z4⟩,-⟩:=qaC ((aA.block w.heap.size (by omega)).trans aH.out)
  have aI:=Lib.hid (qaA aL.out (by omega) aA)
  have aU:=aA.size
  clear aA aG aB y0 y1 y2 y3 y4 aH
  go_wp2_with fail
  refine aM.out.mono ?_
  rintro e w2 ⟨aO,s,rfl,hs⟩
  have HF:Hid (Below w.heap.size w w2/\(s.size=0↔¬ L<=3000)):=⟨qaA aI.out (by omega) aO,HE.out s hs⟩
  clear aO hs HE aM
  go_wp2_with fail
  go_ret
  exact⟨HF.out.1,s,rfl,HF.out.2⟩
 ·rw[decide_eq_false h3]at aB
  have HE:Hid ((⟨#[]⟩:ByteArray).size=0↔¬ lenN m t<=3000):=⟨fun _=>h3,fun _=>rfl⟩
  generalize lenN m t=L at *
  go_enter Tryz.func13,Tryz.ntmps13
  go_upto_region 1 with fail
  rw[<- aC]
  clear aC
  go_wp2_with fail
  refine aB.out.mono ?_
  rintro e w1 ⟨rfl,aA⟩
  have aI:=Lib.hid (qaA aL.out (by omega) aA)
  clear aA aG aB y0 y1 y2 y3 y4 aH
  go_wp2_with fail
  go_ret
  exact⟨aI.out,_,rfl,HE.out⟩
end Go.Proofs.YtelogmjfekhmpaaGreatDoor
