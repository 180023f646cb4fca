import Derived.Test.YtelogmjfekhmpaaGreatDoorSLA
namespace Go.Proofs.YtelogmjfekhmpaaGreatDoor
set_option maxRecDepth 100000
set_option maxHeartbeats 16000000
open Go.RowKit
theorem qtJ:∀ m,TextS m:=by
 intro m
 induction m with
 | zero=>intro S t c0 c1 c2 c3 c4 d w ht;exact ht.elim
 | succ m ih=>
  intro S t c0 c1 c2 c3 c4 d w ht hB hg hl
  obtain⟨rfl,rfl,rfl,hx,aG,aH,h3,h4,⟨na,nl,nc,rfl,aK⟩,⟨ka,kl,kc,rfl,aL⟩⟩:=ht
  obtain⟨_,_,hv,-⟩:=id h3
  cases hv
  obtain⟨_,_,hv,-⟩:=id h4
  cases hv
  simp only[goodN,Bool.and_eq_true]at hg
  obtain⟨⟨-,hj⟩,aB⟩:=hg
  obtain⟨n,hn⟩:∃ n:Nd (T m),n=t:=⟨t,rfl⟩
  have aI:lenN (m+1) t=lenF (lenN m) n:=by rw[hn];rfl
  rw[aI]at hl ⊢
  change justB (poT m) t=true at hj
  rw[<- hn]at hj aB aG aH hx h3 h4 ⊢
  have hr:1<=n.sort/\n.sort<=43:=by
   have h:=hj
   unfold justB at h;simp only[Bool.and_eq_true,decide_eq_true_eq]at h;exact h.1
  obtain⟨k,hk⟩:∃ k:Nat,n.sort=(k:Int):=⟨n.sort.toNat,by omega⟩
  obtain⟨aC,aD,aE,aF⟩:=qlL (poT m) n k hk hj
  have aA:n.sort.toNat=k:=by omega
  have hs:Nd.sort n=(k:Int):=hk
  by_cases h3':k<=3
  ·have e:lenF (lenN m) n=(leafL n.sort n.num n.text).length:=by unfold lenF;rw[if_pos (by omega)]
   rw[e]
   have:=qzP m n na ka nc kc k hk (by omega) h3' w aG aH hx (aD (by
    have:k=1∨k=2∨k=3:=by omega
    rcases this with rfl|rfl|rfl <;> decide))
   rw[hk]at this ⊢
   exact this
  by_cases h4':k=4
  ·subst h4'
   have e:lenF (lenN m) n=(n.names.headD ByteArray.empty).size:=by unfold lenF;rw[if_neg (by omega),if_pos (by omega)]
   rw[e,hk]
   refine qzQ S m n na ka nc kc w hB h3 ?_
   rw[qfC (poT m) n hr.1 hr.2 (by omega),aA,pre_name.1]at hj
   simp only[preC,Bool.and_eq_true]at hj
   intro e0
   have:=hj.1.2
   rw[e0]at this
   exact absurd this (by decide)
  by_cases h24:k=24
  ·subst h24
   rw[qdW (poT m) n (by omega)]at hj
   simp only[Bool.and_eq_true]at hj
   have aJ:=qaG _ hj.2.2
   have e:lenF (lenN m) n=8+szN n.names+sumL (fun x=>lenN m x+1) n.kids:=by
    unfold lenF
    rw[if_neg (by omega),if_neg (by omega),aA,if_pos aJ,if_neg (by omega),if_pos (by omega),show (wrd 24).size=4 by decide]
    omega
   rw[e]at hl ⊢
   rw[hk]
   exact qzO m ih S n na ka nc kc (d+1) w hB h3 h4 (aF (by decide)) aB hl
  ·have e:lenF (lenN m) n=(wrd k).size+szN n.names+(if n.text.size=0 then 0 else n.text.size+1)+(if k=37∨k=39 then (Lib.itoa n.num).length+1 else 0)+sumL (fun x=>lenN m x+1) n.kids:=by
    unfold lenF
    rw[if_neg (by omega),if_neg (by omega),aA,if_neg (show ¬ n.sort=24 by omega)]
    have:(if n.sort=37∨n.sort=39 then (Lib.itoa n.num).length+1 else 0)=(if k=37∨k=39 then (Lib.itoa n.num).length+1 else 0):=by
     by_cases h:k=37∨k=39
     ·rw[if_pos h,if_pos (by omega)]
     ·rw[if_neg h,if_neg (by omega)]
    rw[this];rfl
   rw[e]at hl ⊢
   rw[hk]
   refine xhM m ih S n na ka nc kc k (d+1) w aC (by omega) h24 hB h3 h4 aB (fun h=>aE ?_) hl
   rcases h with rfl|rfl <;> decide
def isS (m:Nat) (t:T m) (act:Bool):Bool:=(goodN m t 1 && (act==decide (36<=opT m t))) && decide (cntT m t<=200) && decide (lenN m t<=3000)
theorem xhN:∀ (m:Nat) (t:T m) (d:Int),goodN m t d=true->1<=cntT m t:=by
 intro m t d h
 cases m with
 | zero=>simp[goodN]at h
 | succ m=>simp only[cntT];omega
theorem xeN (m:Nat) (S:Nat->Prop) (t:T m) (c0 c1 c2 c3 c4:Value) (act:Bool) (w:World) (hin:NodeIn S w m t c0 c1 c2 c3 c4) (hB:∀ b,S b->b<w.heap.size) (hsz:szT m t<=1048576) :
  Calls Tryz.prog 46 #[.agg #[c0,c1,c2,c3,c4],.bool act] w fun e w'=>e=.returned (.bool (isS m t act))/\Below w.heap.size w w':=by
 obtain⟨x0,x1,x2,xa,xl,xc,ya,yl,yc,rfl,rfl,rfl,rfl,rfl⟩:=hin.shape
 have aH:=(Below.refl w.heap.size w).alloc (Nat.le_refl _) (.cells #[.int .i64 x0,.int .i64 x1,.string x2,.slice xa xl xc,.slice ya yl yc] 25)
 obtain⟨aB,aJ⟩:=hin.step hB aH
 have aD:Hid (Calls Tryz.prog 60 _ _ _):=qtF m S t _ _ _ _ _ act 1 _ aB aJ hsz (by omega) (by omega)
 have aE:Hid (∀ w1,Below (w.alloc (.cells #[.int .i64 x0,.int .i64 x1,.string x2,.slice xa xl xc,.slice ya yl yc] 25)).heap.size (w.alloc (.cells #[.int .i64 x0,.int .i64 x1,.string x2,.slice xa xl xc,.slice ya yl yc] 25)) w1->Below w.heap.size w w1/\(w1.cell? ⟨w.heap.size,0,none⟩=some (.int .i64 x0)/\w1.cell? ⟨w.heap.size,1,none⟩=some (.int .i64 x1)/\w1.cell? ⟨w.heap.size,2,none⟩=some (.string x2)/\w1.cell? ⟨w.heap.size,3,none⟩=some (.slice xa xl xc)/\w1.cell? ⟨w.heap.size,4,none⟩=some (.slice ya yl yc)) /\
   (goodN m t 1=true->cntT m t<=200->Calls Tryz.prog 32 #[.agg #[.int .i64 x0,.int .i64 x1,.string x2,.slice xa xl xc,.slice ya yl yc]] w1 fun e w'=>Below w1.heap.size w1 w' /\ ∃ s,e=.returned (.string s)/\s.size=lenN m t)):=by
  intro w1 aA
  obtain⟨aG,aM⟩:=aB.step aJ aA
  refine⟨qaA aH (by simp) aA,qcF ((aA.block w.heap.size (by simp)).trans (heap_alloc_last w _)),fun hg hc=>?_⟩
  have hl:=qvG m t 1 hg
  exact qtJ m S t _ _ _ _ _ 1 w1 aG aM hg (by omega)
 have HV:Hid (qbX m t act 1=if (goodN m t 1 && (act==decide (36<=opT m t)))=true/\cntT m t<=200 then (cntT m t:Int) else -1):=by
  show _=_
  unfold qbX
  rw[xhD]
 clear hin aB
 generalize qbX m t act 1=v at *
 by_cases hq:(goodN m t 1 && (act==decide (36<=opT m t)))=true/\cntT m t<=200
 ·have hg:goodN m t 1=true:=by have:=hq.1;simp only[Bool.and_eq_true]at this;exact this.1
  have hp:=xhN m t 1 hg
  have hv:(0:Int)<v:=by rw[HV.out,if_pos hq];omega
  have HO:Hid (isS m t act=decide ((lenN m t:Int)<=3000)):=by
   show _=_
   unfold isS
   rw[hq.1,decide_eq_true hq.2]
   by_cases h3:lenN m t<=3000
   ·rw[decide_eq_true h3,decide_eq_true (by omega)];rfl
   ·rw[decide_eq_false h3,decide_eq_false (by omega)];rfl
  have hc:=hq.2
  clear hq HV hp
  go_enter Tryz.func46,Tryz.ntmps46
  go_wp2_with fail
  refine aD.out.mono ?_
  rintro e w1 ⟨rfl,aA⟩
  obtain⟨aC,⟨z0,z1,z2,z3,z4⟩,aK⟩:=aE.out w1 aA
  have aI:=hidF (aK hg hc)
  have aF:=hidF aC
  clear aA aC aK aD aE hg hc
  go_wp2_with fail
  refine aI.out.mono ?_
  rintro e w2 ⟨aL,s,rfl,hs⟩
  have HF:Hid (isS m t act=decide ((s.size:Int)<=3000)/\Below w.heap.size w w2):=⟨by rw[HO.out,hs],aF.out.trans (aL.mono aF.out.size)⟩
  clear aL hs aI HO z0 z1 z2 z3 z4
  go_wp2_with fail
  go_ret
  exact⟨qaD HF.out.1.symm,HF.out.2⟩
 ·have hv:¬ (0:Int)<v:=by rw[HV.out,if_neg hq];omega
  have HO:Hid (isS m t act=false):=by
   show _=_
   unfold isS
   cases h1:(goodN m t 1 && (act==decide (36<=opT m t))) with
   | false=>rfl
   | true=>
    have h2:¬ cntT m t<=200:=fun h=>hq ⟨h1,h⟩
    rw[decide_eq_false h2];rfl
  clear hq HV
  go_enter Tryz.func46,Tryz.ntmps46
  go_wp2_with fail
  refine aD.out.mono ?_
  rintro e w1 ⟨rfl,aA⟩
  obtain⟨aC,-,-⟩:=aE.out w1 aA
  have aF:=hidF aC
  clear aA aC aD aE
  go_wp2_with fail
  go_ret
  exact⟨qaD HO.out.symm,aF.out⟩
theorem xjR (m:Nat) (t:T m):isS m t true=okA m t:=by
 unfold isS okA okN
 cases hg:goodN m t 1 with
 | false=>simp
 | true=>
  have hr:1<=opT m t/\opT m t<=43:=by
   cases m with
   | zero=>simp[goodN]at hg
   | succ m=>
    simp only[goodN,Bool.and_eq_true]at hg
    have:=hg.1.2
    unfold justB at this
    simp only[Bool.and_eq_true,decide_eq_true_eq]at this
    exact this.1
  have aA:poT m t=if 36<=opT m t then 65 else 86:=xbH _ hr
  rw[aA]
  by_cases h:36<=opT m t
  ·simp[h]
  ·simp[h]
theorem qvH (m:Nat) (S:Nat->Prop) (t:T m) (c0 c1 c2 c3 c4:Value) (w:World) (hin:NodeIn S w m t c0 c1 c2 c3 c4) (hB:∀ b,S b->b<w.heap.size) (hsz:szT m t<=1048576) :
  Calls Tryz.prog 31 #[.agg #[c0,c1,c2,c3,c4]] w fun e w'=>e=.returned (.bool (okA m t))/\Below w.heap.size w w':=by
 obtain⟨x0,x1,x2,xa,xl,xc,ya,yl,yc,rfl,rfl,rfl,rfl,rfl⟩:=hin.shape
 have aB:=(Below.refl w.heap.size w).alloc (Nat.le_refl _) (.cells #[.int .i64 x0,.int .i64 x1,.string x2,.slice xa xl xc,.slice ya yl yc] 25)
 obtain⟨aA,aD⟩:=hin.step hB aB
 have HC:Hid (Calls Tryz.prog 46 _ _ _):=xeN m S t _ _ _ _ _ true _ aA aD hsz
 rw[xjR]at HC
 clear hin aA
 go_enter Tryz.func31,Tryz.ntmps31
 go_wp2_with fail
 refine HC.out.mono ?_
 rintro e w1 ⟨rfl,aC⟩
 have HB:=hidF (qaA aB (by simp) aC)
 clear aC HC
 go_wp2_with fail
 go_ret
 exact⟨rfl,HB.out⟩
end Go.Proofs.YtelogmjfekhmpaaGreatDoor
