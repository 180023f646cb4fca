import Derived.Test.YtelogmjfekhmpaaGreatDoorKImpl
import Derived.Test.YtelogmjfekhmpaaGreatDoorNear
import Derived.Test.YtelogmjfekhmpaaGreatDoorRet
namespace Go.Proofs.YtelogmjfekhmpaaGreatDoor
set_option maxRecDepth 100000
set_option maxHeartbeats 16000000
open Go.RowKit
theorem xgL (S:Nat->Prop) (s:Int) (l:List ByteArray) (na ka:Option Addr) (nc kl kc pb mb ab:Nat) (d p:Int) (w:World) (hl:StrsIn S w l (.slice na l.length nc)) (hB:∀ b,S b->b<w.heap.size/\b≠pb)
  (hp:Cap w pb mb ab p 40 171) (hp0:0<=p) (hp1:p<=40) :
  Calls Tryz.prog 184 #[.agg #[.int .i64 s,.slice na l.length nc,.slice ka kl kc],.int .i64 d,.pointer (some ⟨pb,0,none⟩),.pointer (some ⟨mb,0,none⟩),.pointer (some ⟨ab,0,none⟩)] w
   fun e w'=>e=.returned (.bool (decide (p+1<=40) && decide (d<=6) && qbK s l kl))/\Prt w' pb (p+1)/\Near pb w w':=by
 have aH:=hp.parts.lt
 have aD:Near pb w (w.setCell ⟨pb,0,none⟩ (.int .i64 (p+1))):=Near.set pb 0 _ (.int .i64 (p+1))
 have aA:=aD.trans (Near.alloc pb _ (.cells #[.int .i64 s,.slice na l.length nc,.slice ka kl kc] 55))
 have aB:Prt ((w.setCell ⟨pb,0,none⟩ (.int .i64 (p+1))).alloc (.cells #[.int .i64 s,.slice na l.length nc,.slice ka kl kc] 55)) pb (p+1):=(hp.parts.set (p+1)).keep ((Below.refl _ _).alloc (Nat.le_refl _) _)
 have aE:=hl.keep (aA.same hB) (fun _ h=>h)
 have HC:Hid (Calls Tryz.prog 171 _ _ _):=xcO s l ka kl kc _ na nc S aE (fun b hb=>by have:=(hB b hb).1;simp;omega)
 have c0:=hp.parts.cell
 have f0:=hp.parts.free
 have m0:=hp.max
 have a0:=hp.acc
 have nm:=hp.nm
 have na':=hp.na
 have hm:mb<w.heap.size:=qlD m0
 have ha:ab<w.heap.size:=qlD a0
 have aI:w.heap.size≠pb:=by omega
 clear hl aE hp aD hB
 by_cases h1:p+1<=40
 ·by_cases h2:d<=6
  ·go_enter Tryz.func184,Tryz.ntmps184
   go_wp2_with fail
   refine HC.out.mono ?_
   rintro e w' ⟨rfl,aC⟩
   have aF:Prt w' pb (p+1):=(aC.block pb (by simp;omega)).trans aB
   have aG:=aA.trans (Near.of_below (bb:=pb) aC)
   clear aC HC
   go_wp2_with fail
   go_ret
   exact⟨qaD (by simp[h1,h2]),aF,aG⟩
  ·go_enter Tryz.func184,Tryz.ntmps184
   go_wp2_with fail
   go_ret
   exact⟨qaD (by rw[decide_eq_false (show ¬ d<=6 by omega)];simp),aB,aA⟩
 ·go_enter Tryz.func184,Tryz.ntmps184
  go_wp2_with fail
  go_ret
  exact⟨qaD (by rw[decide_eq_false (show ¬ p+1<=40 by omega)];simp),aB,aA⟩
def qjD (n:Nat) (t:K n) (d p:Int) (pb:Nat) (w:World) (e:Ending) (w':World):Prop:=
 Near pb w w' /\ ∃ r,e=.returned (.bool r)/\(r=true->goodK n t d=true/\p+(cntK n t:Int)<=40/\Prt w' pb (p+cntK n t))/\(r=false->¬ (goodK n t d=true/\p+(cntK n t:Int)<=40))
def clK (pb mb ab:Nat):Value:=.func (.func 184) #[] #[.pointer (some ⟨pb,0,none⟩),.pointer (some ⟨mb,0,none⟩),.pointer (some ⟨ab,0,none⟩)]
def qmJ (n:Nat):Prop:=∀ (S:Nat->Prop) (t:K n) (c0 c1 c2:Value) (d p:Int) (pb mb ab:Nat) (w:World),KindIn S w n t c0 c1 c2->(∀ b,S b->b<w.heap.size/\b≠pb)->Cap w pb mb ab p 40 171->0<=p->p<=40->1<=d->d<=7 ->
 Calls Tryz.prog 183 #[.agg #[c0,c1,c2],.int .i64 d,clK pb mb ab] w (qjD n t d p pb w)
theorem xcP (a b c:Value) (ha:∃ x l k,c=.slice x l k) (w:World):Calls Tryz.prog 212 #[.agg #[a,b,c]] w fun e w'=>e=.returned c/\Below w.heap.size w w':=by
 obtain⟨x,l,k,rfl⟩:=ha
 have aA:=(Below.refl w.heap.size w).alloc (Nat.le_refl _) (.cells #[a,b,.slice x l k] 55)
 go_enter Tryz.func212,Tryz.ntmps212
 go_wp2_with fail
 go_ret
 exact⟨rfl,aA⟩
theorem xcQ {n:Nat} {t:K (n+1)} {d p:Int} (k:Nat) (hk:k<(Kd.kids t).length)
  (h:¬ (goodK n (Kd.kids t)[k] (d+1)=true/\p+1+(sumL (fun x=>cntK n x) ((Kd.kids t).take k):Int)+(cntK n (Kd.kids t)[k]:Int)<=40)):¬ (goodK (n+1) t d=true/\p+(cntK (n+1) t:Int)<=40):=by
 rintro ⟨h1,h2⟩
 apply h
 simp only[goodK,Bool.and_eq_true,List.all_eq_true]at h1
 refine⟨h1.2 _ (List.getElem_mem hk),?_⟩
 have e:=qaO (fun x=>cntK n x) (Kd.kids t) k hk
 have e2:=qcQ (fun x=>cntK n x) ((Kd.kids t).take (k+1)) ((Kd.kids t).drop (k+1))
 rw[List.take_append_drop]at e2
 simp only[cntK]at h2
 omega
theorem qyG (n:Nat) (hn:qmJ n):qmJ (n+1):=by
 intro S t c0 c1 c2 d p pb mb ab w ht hB aC bK bL bT bU
 obtain⟨rfl,-,h3,h4⟩:=ht
 obtain⟨na,nc,rfl,-,-,-⟩:=id h3
 obtain⟨ka,kc,rfl,aY,-⟩:=id h4
 unfold maxLen at aY
 have aH:=aC.parts.lt
 generalize hs:Kd.sort t=s at *
 have aV:=(Below.refl w.heap.size w).alloc (Nat.le_refl _) (.cells #[.int .i64 s,.slice na (Kd.names t).length nc,.slice ka (Kd.kids t).length kc] 55)
 have aT:Near pb w (w.alloc (.cells #[.int .i64 s,.slice na (Kd.names t).length nc,.slice ka (Kd.kids t).length kc] 55)):=Near.of_below aV
 have bC:=h3.keep (aT.same hB) (fun _ h=>h)
 have HC:Hid (Calls Tryz.prog 184 _ _ _):=xgL S s (Kd.names t) na ka nc (Kd.kids t).length kc pb mb ab d p _ bC (fun b hb=>by have:=hB b hb;simp;omega) (aC.keep aT (aC.parts.keep aV)) bK bL
 unfold clK
 go_enter Tryz.func183,Tryz.ntmps183
 go_wp2_with fail
 refine HC.out.mono ?_
 rintro e w1 ⟨rfl,aZ,aN⟩
 have aM:=aT.trans aN
 have aO:=aC.keep aM aZ
 have bP:=aM.size
 have bQ:w.heap.size<w1.heap.size:=by have:=aN.size;simp at this;omega
 have k0:w1.cell? ⟨w.heap.size,0,none⟩=some (.int .i64 s):=aN.cell (by simp[go_sem]) (by omega)
 have k1:w1.cell? ⟨w.heap.size,1,none⟩=some (.slice na (Kd.names t).length nc):=aN.cell (by simp[go_sem]) (by omega)
 have k2:w1.cell? ⟨w.heap.size,2,none⟩=some (.slice ka (Kd.kids t).length kc):=aN.cell (by simp[go_sem]) (by omega)
 have bD:=h4.keepK (aM.same hB) (fun _ h=>h)
 clear HC aT aV bC aN h3 h4
 generalize hok:(decide (p+1<=40) && decide (d<=6) && qbK s (Kd.names t) (Kd.kids t).length)=ok
 cases ok with
 | false=>
  have HP:Hid (qjD (n+1) t d p pb w (.returned (.bool false)) w1):=by
   refine⟨aM,false,rfl,fun h=>(by cases h),fun _=>?_⟩
   rintro ⟨hg,hc⟩
   simp only[goodK,Bool.and_eq_true,decide_eq_true_eq]at hg
   have ha:qbK s (Kd.names t) (Kd.kids t).length=true:=by rw[<- hs];exact hg.1.2
   have:p+1<=40:=by simp only[cntK]at hc;omega
   rw[ha,decide_eq_true hg.1.1,decide_eq_true this]at hok
   cases hok
  clear hok hs
  go_wp2_with fail
  go_ret
  exact HP.out
 | true=>
  simp only[Bool.and_eq_true,decide_eq_true_eq]at hok
  have bH:Hid ((decide (d<=6) && qrI (show Kd (K n) from t))=true):=by show (_ && qbK (Kd.sort t) _ _)=_;rw[hs,hok.2,decide_eq_true hok.1.2];rfl
  obtain⟨⟨bM,bV⟩,-⟩:=hok
  clear hs
  go_wp2_with fail
  refine (xcP _ _ _ ⟨_,_,_,rfl⟩ _).mono ?_
  rintro e w2 ⟨rfl,aR⟩
  have bE:Near pb w w2:=aM.trans (Near.of_below aR)
  have bI:Prt w2 pb (p+1):=aZ.keep aR
  have bR:=aR.size
  have h5:=bD.keepK ((Near.of_below (bb:=pb) aR).same (fun b hb=>by have:=hB b hb;omega)) (fun _ h=>h)
  clear bD aR aO aM aZ k0 k1 k2
  obtain⟨_,_,bN,-,aD⟩:=h5
  cases bN
  go_wp2_with fail
  go_loopw [18] (fun i wr=>∃ k:Nat,k<=(Kd.kids t).length/\i=.int .i64 k/\Near pb w2 wr/\Prt wr pb (p+1+(sumL (fun x=>cntK n x) ((Kd.kids t).take k):Int)) /\
    p+1+(sumL (fun x=>cntK n x) ((Kd.kids t).take k):Int)<=40/\((Kd.kids t).take k).all (fun x=>goodK n x (d+1))=true) (fun i _=>(Kd.kids t).length - (intOf i).toNat)
  case atStart=>exact⟨0,Nat.zero_le _,rfl,Near.refl _ _,by simpa [sumL] using bI,by simpa [sumL] using bM,by simp⟩
  case round=>
   obtain⟨k,hk,rfl,aJ,aK,aA,aS⟩:=hrel
   have aB:=hidF aS
   clear aS
   have bS:=aJ.size
   have aP:=bE.trans aJ
   have bJ:=aK.lt
   by_cases aH:k<(Kd.kids t).length
   ·obtain⟨b,off,rfl,bO,aG⟩:=aD (by intro h;rw[h]at aH;simp at aH)
    obtain⟨x0,x1,x2,e0,e1,e2,hr⟩:=aG k aH
    have aW:=hB b bO
    have f0:=aJ.cell e0 aW.2
    have f1:=aJ.cell e1 aW.2
    have f2:=aJ.cell e2 aW.2
    have q:=hr.keep (aJ.same (fun b hb=>by have:=hB b hb;omega)) (fun _ h=>h)
    obtain⟨y0,ya,yl,yc,za,zl,zc,rfl,rfl,rfl⟩:=q.shape
    clear aD aG e0 e1 e2 hr
    have aX:=(Below.refl wr.heap.size wr).alloc (Nat.le_refl _) (.cells #[.int .i64 y0,.slice ya yl yc,.slice za zl zc] 55)
    have aQ:Near pb wr (wr.alloc (.cells #[.int .i64 y0,.slice ya yl yc,.slice za zl zc] 55)):=Near.of_below aX
    have q5:=q.keep (aQ.same (fun b hb=>by have:=hB b hb;omega)) (fun _ h=>h)
    have aF:=aC.keep (aP.trans aQ) (aK.keep aX)
    have HC:Hid (Calls Tryz.prog 183 _ _ _):=hn S (Kd.kids t)[k] _ _ _ (d+1) _ pb mb ab _ q5 (fun b hb=>by have:=hB b hb;simp;omega) aF (by omega) aA (by omega) (by omega)
    have aI:=@xcQ n t d p k aH
    have aE:Hid (sumL (fun x=>cntK n x) ((Kd.kids t).take (k+1))=sumL (fun x=>cntK n x) ((Kd.kids t).take k)+cntK n (Kd.kids t)[k]):=qaO _ _ _ aH
    clear q q5 aF aX
    unfold clK at HC
    go_wp2_with fail
    refine HC.out.mono ?_
    rintro e w3 ⟨bA,r,rfl,aL,bB⟩
    have aU:=aJ.trans (aQ.trans bA)
    cases r with
    | false=>
     have HP:Hid (qjD (n+1) t d p pb w (.returned (.bool false)) w3):=⟨bE.trans aU,false,rfl,fun h=>(by cases h),fun _=>aI (bB rfl)⟩
     clear aI bB aL aE aB bA aU aQ aP
     go_wp2_with fail
     go_ret
     exact HP.out
    | true=>
     obtain⟨hg,hc,bG⟩:=aL rfl
     have HR:Hid (Near pb w2 w3/\Prt w3 pb (p+1+(sumL (fun x=>cntK n x) ((Kd.kids t).take (k+1)):Int))/\p+1+(sumL (fun x=>cntK n x) ((Kd.kids t).take (k+1)):Int)<=40/\((Kd.kids t).take (k+1)).all (fun x=>goodK n x (d+1))=true):=by
      refine⟨aU,?_,?_,qeS k aH aB.out hg⟩
      ·rw[aE.out,show p+1+((sumL (fun x=>cntK n x) ((Kd.kids t).take k)+cntK n (Kd.kids t)[k]:Nat):Int)=p+1+(sumL (fun x=>cntK n x) ((Kd.kids t).take k):Int)+(cntK n (Kd.kids t)[k]:Int) by omega]
       exact bG
      ·rw[aE.out];omega
     clear aI bB aL aE aB bA aU aQ aP hg hc bG aK aA
     go_wp2_with fail
     go_roundw
     case rel=>exact⟨k+1,by omega,by go_num,HR.out.1,HR.out.2.1,HR.out.2.2.1,HR.out.2.2.2⟩
     case measure=>simp[intOf];omega
   ·have bF:k=(Kd.kids t).length:=by omega
    have HP:Hid (qjD (n+1) t d p pb w (.returned (.bool true)) wr):=by
     have h1:=aB.out
     rw[bF,List.take_length]at h1 aK aA
     have e:p+1+(sumL (fun x=>cntK n x) (Kd.kids t):Int)=p+(cntK (n+1) t:Int):=by simp only[cntK];omega
     rw[e]at aK aA
     exact⟨aP,true,rfl,fun _=>⟨by have:=bH.out;simp only[goodK,this,h1,Bool.and_self],aA,aK⟩,fun h=>(by cases h)⟩
    clear bF aD aB aP aK aA
    go_wp2_with fail
    go_ret
    exact HP.out
theorem xcR:∀ n,qmJ n:=by
 intro n
 induction n with
 | zero=>intro S t c0 c1 c2 d p pb mb ab w ht;exact ht.elim
 | succ n ih=>exact qyG n ih
theorem xcS (n:Nat) (S:Nat->Prop) (t:K n) (c0 c1 c2:Value) (w:World) (ht:KindIn S w n t c0 c1 c2) (hB:∀ b,S b->b<w.heap.size) :
  Calls Tryz.prog 170 #[.agg #[c0,c1,c2],.int .i64 40,.func (.func 171) #[] #[]] w fun e w'=>e=.returned (.bool (okK n t))/\Below w.heap.size w w':=by
 have aE:∀ (fn:Fn) (first cap:Array Value) (w:World),(Instr.makeFunc fn first cap).run Tryz.prog w=.ok (.func fn first cap) w:=fun _ _ _ _=>rfl
 obtain⟨x0,xa,xl,xc,ya,yl,yc,rfl,rfl,rfl⟩:=ht.shape
 have hb:Below w.heap.size w ((((w.alloc (.cells #[.int .i64 x0,.slice xa xl xc,.slice ya yl yc] 55)).alloc (.cells #[.int .i64 40] 3)).alloc (.cells #[.func (.func 171) #[] #[]] 74)).alloc (.cells #[.int .i64 0] 3)):=
  ((((Below.refl _ _).alloc (Nat.le_refl _) _).alloc (by simp) _).alloc (by simp;omega) _).alloc (by simp;omega) _
 have aB:=ht.keep (qaB hb hB) (fun _ h=>h)
 have HC:Hid (Calls Tryz.prog 183 _ _ _):=xcR n S t _ _ _ 1 0 (w.heap.size+1+1+1) (w.heap.size+1) (w.heap.size+1+1) _ aB (fun b hb=>by have:=hB b hb;simp;omega)
  ⟨by rw[show w.heap.size+1+1+1=(((w.alloc (.cells #[.int .i64 x0,.slice xa xl xc,.slice ya yl yc] 55)).alloc (.cells #[.int .i64 40] 3)).alloc (.cells #[.func (.func 171) #[] #[]] 74)).heap.size by simp];exact Prt.new _ 0,
   by simp[go_sem],by simp[go_sem],by omega,by omega⟩ (by omega) (by omega) (by omega) (by omega)
 unfold clK at HC
 clear ht aB
 go_enter Tryz.func170,Tryz.ntmps170
 go_wp2_with fail
 refine HC.out.mono ?_
 rintro e w1 ⟨hn,r,rfl,aA,aC⟩
 have aD:Below w.heap.size w w1:=hb.trans (hn.below (by omega) (by simp;omega))
 have hr:r=okK n t:=by
  cases r with
  | true=>
   obtain⟨h1,h2,-⟩:=aA rfl
   unfold okK;rw[h1,decide_eq_true (by omega)];rfl
  | false=>
   symm
   rw[Bool.eq_false_iff]
   intro h
   simp only[okK,Bool.and_eq_true,decide_eq_true_eq]at h
   exact aC rfl ⟨h.1,by omega⟩
 clear aA aC hn hb HC
 go_wp2_with fail
 go_ret
 exact⟨rfl,aD⟩
theorem quQ (n:Nat) (S:Nat->Prop) (t:K n) (c0 c1 c2:Value) (w:World) (ht:KindIn S w n t c0 c1 c2) (hB:∀ b,S b->b<w.heap.size) :
  Calls Tryz.prog 144 #[.agg #[c0,c1,c2]] w fun e w'=>e=.returned (.bool (okK n t))/\Below w.heap.size w w':=by
 obtain⟨x0,xa,xl,xc,ya,yl,yc,rfl,rfl,rfl⟩:=ht.shape
 have aA:=(Below.refl w.heap.size w).alloc (Nat.le_refl _) (.cells #[.int .i64 x0,.slice xa xl xc,.slice ya yl yc] 55)
 obtain⟨aB,aE⟩:=ht.step hB aA
 have HC:Hid (Calls Tryz.prog 170 _ _ _):=xcS n S t _ _ _ _ aB aE
 clear ht aB
 go_enter Tryz.func144,Tryz.ntmps144
 go_wp2_with fail
 refine HC.out.mono ?_
 rintro e w1 ⟨rfl,aC⟩
 have aD:=qaA aA (by simp) aC
 clear aA aC HC
 go_wp2_with fail
 go_ret
 exact⟨rfl,aD⟩
end Go.Proofs.YtelogmjfekhmpaaGreatDoor
