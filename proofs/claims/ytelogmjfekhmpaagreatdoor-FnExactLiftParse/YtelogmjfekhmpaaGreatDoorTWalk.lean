import Derived.Test.YtelogmjfekhmpaaGreatDoorImpl3S
import Derived.Test.YtelogmjfekhmpaaGreatDoorNear
import Derived.Test.YtelogmjfekhmpaaGreatDoorRet
import Derived.Test.YtelogmjfekhmpaaGreatDoorBox
namespace Go.Proofs.YtelogmjfekhmpaaGreatDoor
set_option maxRecDepth 100000
set_option maxHeartbeats 16000000
open Go.RowKit
theorem xgF (S:Nat->Prop) (s m:Int) (x:ByteArray) (hx:x.size<=maxLen) (l:List ByteArray) (na ka:Option Addr) (nc kl kc pb mb ab:Nat) (d p:Int) (w:World) (hl:StrsIn S w l (.slice na l.length nc)) (hB:∀ b,S b->b<w.heap.size/\b≠pb)
  (hp:Cap w pb mb ab p 120 138) (hp0:0<=p) (hp1:p<=120) :
  Calls Tryz.prog 161 #[.agg #[.int .i64 s,.int .i64 m,.string x,.slice na l.length nc,.slice ka kl kc],.int .i64 d,.pointer (some ⟨pb,0,none⟩),.pointer (some ⟨mb,0,none⟩),.pointer (some ⟨ab,0,none⟩)] w
   fun e w'=>e=.returned (.bool (decide (p+1<=120) && decide (d<=6) && qaQ s m x l kl))/\Prt w' pb (p+1)/\Near pb w w':=by
 have aH:=hp.parts.lt
 have aD:Near pb w (w.setCell ⟨pb,0,none⟩ (.int .i64 (p+1))):=Near.set pb 0 _ (.int .i64 (p+1))
 have aA:=aD.trans (Near.alloc pb _ (.cells #[.int .i64 s,.int .i64 m,.string x,.slice na l.length nc,.slice ka kl kc] 67))
 have aB:Prt ((w.setCell ⟨pb,0,none⟩ (.int .i64 (p+1))).alloc (.cells #[.int .i64 s,.int .i64 m,.string x,.slice na l.length nc,.slice ka kl kc] 67)) pb (p+1):=(hp.parts.set (p+1)).keep ((Below.refl _ _).alloc (Nat.le_refl _) _)
 have aE:=hl.keep (aA.same hB) (fun _ h=>h)
 have HC:Hid (Calls Tryz.prog 138 _ _ _):=xgE s m x l ka kl kc _ na nc hx S aE (fun b hb=>by have:=(hB b hb).1;simp;omega)
 have c0:=hp.parts.cell
 have f0:=hp.parts.free
 have m0:=hp.max
 have a0:=hp.acc
 have nm:=hp.nm
 have na':=hp.na
 have hm:mb<w.heap.size:=qlD m0
 have ha:ab<w.heap.size:=qlD a0
 have aI:w.heap.size≠pb:=by omega
 clear hl aE hp aD hB
 by_cases h1:p+1<=120
 ·by_cases h2:d<=6
  ·go_enter Tryz.func161,Tryz.ntmps161
   go_wp2_with fail
   refine HC.out.mono ?_
   rintro e w' ⟨rfl,aC⟩
   have aF:Prt w' pb (p+1):=(aC.block pb (by simp;omega)).trans aB
   have aG:=aA.trans (Near.of_below (bb:=pb) aC)
   clear aC HC
   go_wp2_with fail
   go_ret
   exact⟨qaD (by simp[h1,h2]),aF,aG⟩
  ·go_enter Tryz.func161,Tryz.ntmps161
   go_wp2_with fail
   go_ret
   exact⟨qaD (by rw[decide_eq_false (show ¬ d<=6 by omega)];simp),aB,aA⟩
 ·go_enter Tryz.func161,Tryz.ntmps161
  go_wp2_with fail
  go_ret
  exact⟨qaD (by rw[decide_eq_false (show ¬ p+1<=120 by omega)];simp),aB,aA⟩
theorem qpS {α:Type} {p:α->Bool} {l:List α} (k:Nat) (h:k<l.length) (ht:(l.take k).all p=true) (hf:p l[k]=true):(l.take (k+1)).all p=true:=by
 rw[List.take_succ_eq_append_getElem h,List.all_append,ht];simpa using hf
def qiZ (n:Nat) (t:T n) (d p:Int) (pb:Nat) (w:World) (e:Ending) (w':World):Prop:=
 Near pb w w' /\ ∃ r,e=.returned (.bool r)/\(r=true->goodT n t d=true/\p+(cntT n t:Int)<=120/\Prt w' pb (p+cntT n t))/\(r=false->¬ (goodT n t d=true/\p+(cntT n t:Int)<=120))
def clT (pb mb ab:Nat):Value:=.func (.func 161) #[] #[.pointer (some ⟨pb,0,none⟩),.pointer (some ⟨mb,0,none⟩),.pointer (some ⟨ab,0,none⟩)]
def qmF (n:Nat):Prop:=∀ (S:Nat->Prop) (t:T n) (c0 c1 c2 c3 c4:Value) (d p:Int) (pb mb ab:Nat) (w:World),TreeIn S w n t c0 c1 c2 c3 c4->(∀ b,S b->b<w.heap.size/\b≠pb)->Cap w pb mb ab p 120 138->0<=p->p<=120->1<=d->d<=7 ->
 Calls Tryz.prog 160 #[.agg #[c0,c1,c2,c3,c4],.int .i64 d,clT pb mb ab] w (qiZ n t d p pb w)
theorem xcE (a b c d e:Value) (ha:∃ x l k,e=.slice x l k) (w:World):Calls Tryz.prog 213 #[.agg #[a,b,c,d,e]] w fun e' w'=>e'=.returned e/\Below w.heap.size w w':=by
 obtain⟨x,l,k,rfl⟩:=ha
 have aA:=(Below.refl w.heap.size w).alloc (Nat.le_refl _) (.cells #[a,b,c,d,.slice x l k] 67)
 go_enter Tryz.func213,Tryz.ntmps213
 go_wp2_with fail
 go_ret
 exact⟨rfl,aA⟩
theorem xcF {n:Nat} {t:T (n+1)} {d p:Int} (k:Nat) (hk:k<(Nd.kids t).length)
  (h:¬ (goodT n (Nd.kids t)[k] (d+1)=true/\p+1+(sumL (fun x=>cntT n x) ((Nd.kids t).take k):Int)+(cntT n (Nd.kids t)[k]:Int)<=120)):¬ (goodT (n+1) t d=true/\p+(cntT (n+1) t:Int)<=120):=by
 rintro ⟨h1,h2⟩
 apply h
 simp only[goodT,Bool.and_eq_true,List.all_eq_true]at h1
 refine⟨h1.2 _ (List.getElem_mem hk),?_⟩
 have e:=qaO (fun x=>cntT n x) (Nd.kids t) k hk
 have e2:=qcQ (fun x=>cntT n x) ((Nd.kids t).take (k+1)) ((Nd.kids t).drop (k+1))
 rw[List.take_append_drop]at e2
 simp only[cntT]at h2
 omega
theorem qyD (n:Nat) (hn:qmF n):qmF (n+1):=by
 intro S t c0 c1 c2 c3 c4 d p pb mb ab w ht hB aC bK bL bU bV
 obtain⟨rfl,rfl,rfl,bM,-,-,h3,h4⟩:=ht
 obtain⟨na,nc,rfl,-,-,-⟩:=id h3
 obtain⟨ka,kc,rfl,aY,-⟩:=id h4
 unfold maxLen at aY
 have aJ:=aC.parts.lt
 generalize hs:Nd.sort t=s at *
 have aW:=(Below.refl w.heap.size w).alloc (Nat.le_refl _) (.cells #[.int .i64 s,.int .i64 (Nd.num t),.string (Nd.text t),.slice na (Nd.names t).length nc,.slice ka (Nd.kids t).length kc] 67)
 have aU:Near pb w (w.alloc (.cells #[.int .i64 s,.int .i64 (Nd.num t),.string (Nd.text t),.slice na (Nd.names t).length nc,.slice ka (Nd.kids t).length kc] 67)):=Near.of_below aW
 have bC:=h3.keep (aU.same hB) (fun _ h=>h)
 have HC:Hid (Calls Tryz.prog 161 _ _ _):=xgF S s (Nd.num t) (Nd.text t) bM (Nd.names t) na ka nc (Nd.kids t).length kc pb mb ab d p _ bC (fun b hb=>by have:=hB b hb;simp;omega) (aC.keep aU (aC.parts.keep aW)) bK bL
 unfold clT
 go_enter Tryz.func160,Tryz.ntmps160
 go_wp2_with fail
 refine HC.out.mono ?_
 rintro e w1 ⟨rfl,aZ,aH⟩
 have aN:=aU.trans aH
 have aO:=aC.keep aN aZ
 have bQ:=aN.size
 have bR:w.heap.size<w1.heap.size:=by have:=aH.size;simp at this;omega
 have k0:w1.cell? ⟨w.heap.size,0,none⟩=some (.int .i64 s):=aH.cell (by simp[go_sem]) (by omega)
 have k1:w1.cell? ⟨w.heap.size,1,none⟩=some (.int .i64 (Nd.num t)):=aH.cell (by simp[go_sem]) (by omega)
 have k2:w1.cell? ⟨w.heap.size,2,none⟩=some (.string (Nd.text t)):=aH.cell (by simp[go_sem]) (by omega)
 have k3:w1.cell? ⟨w.heap.size,3,none⟩=some (.slice na (Nd.names t).length nc):=aH.cell (by simp[go_sem]) (by omega)
 have k4:w1.cell? ⟨w.heap.size,4,none⟩=some (.slice ka (Nd.kids t).length kc):=aH.cell (by simp[go_sem]) (by omega)
 have bD:=h4.keepT (aN.same hB) (fun _ h=>h)
 clear HC aU aW bC aH h3 h4
 generalize hok:(decide (p+1<=120) && decide (d<=6) && qaQ s (Nd.num t) (Nd.text t) (Nd.names t) (Nd.kids t).length)=ok
 cases ok with
 | false=>
  have HP:Hid (qiZ (n+1) t d p pb w (.returned (.bool false)) w1):=by
   refine⟨aN,false,rfl,fun h=>(by cases h),fun _=>?_⟩
   rintro ⟨hg,hc⟩
   simp only[goodT,Bool.and_eq_true,decide_eq_true_eq]at hg
   have ha:qaQ s (Nd.num t) (Nd.text t) (Nd.names t) (Nd.kids t).length=true:=by rw[<- hs];exact hg.1.2
   have:p+1<=120:=by simp only[cntT]at hc;omega
   rw[ha,decide_eq_true hg.1.1,decide_eq_true this]at hok
   cases hok
  clear hok hs
  go_wp2_with fail
  go_ret
  exact HP.out
 | true=>
  simp only[Bool.and_eq_true,decide_eq_true_eq]at hok
  have bH:Hid ((decide (d<=6) && qiI (show Nd (T n) from t))=true):=by show (_ && qaQ (Nd.sort t) _ _ _ _)=_;rw[hs,hok.2,decide_eq_true hok.1.2];rfl
  obtain⟨⟨bN,bW⟩,-⟩:=hok
  clear hs
  go_wp2_with fail
  refine (xcE _ _ _ _ _ ⟨_,_,_,rfl⟩ _).mono ?_
  rintro e w2 ⟨rfl,aS⟩
  have bE:Near pb w w2:=aN.trans (Near.of_below aS)
  have bI:Prt w2 pb (p+1):=aZ.keep aS
  have bS:=aS.size
  have h5:=bD.keepT ((Near.of_below (bb:=pb) aS).same (fun b hb=>by have:=hB b hb;omega)) (fun _ h=>h)
  clear bD aS aO aN aZ k0 k1 k2 k3 k4
  obtain⟨_,_,bO,-,aD⟩:=h5
  cases bO
  go_wp2_with fail
  go_loopw [18] (fun i wr=>∃ k:Nat,k<=(Nd.kids t).length/\i=.int .i64 k/\Near pb w2 wr/\Prt wr pb (p+1+(sumL (fun x=>cntT n x) ((Nd.kids t).take k):Int)) /\
    p+1+(sumL (fun x=>cntT n x) ((Nd.kids t).take k):Int)<=120/\((Nd.kids t).take k).all (fun x=>goodT n x (d+1))=true) (fun i _=>(Nd.kids t).length - (intOf i).toNat)
  case atStart=>exact⟨0,Nat.zero_le _,rfl,Near.refl _ _,by simpa [sumL] using bI,by simpa [sumL] using bN,by simp⟩
  case round=>
   obtain⟨k,hk,rfl,aF,aL,aA,aT⟩:=hrel
   have aB:=hidF aT
   clear aT
   have bT:=aF.size
   have aP:=bE.trans aF
   have bJ:=aL.lt
   by_cases aJ:k<(Nd.kids t).length
   ·obtain⟨b,off,rfl,bP,aI⟩:=aD (by intro h;rw[h]at aJ;simp at aJ)
    obtain⟨x0,x1,x2,x3,x4,e0,e1,e2,e3,e4,hr⟩:=aI k aJ
    have aQ:=hB b bP
    have f0:=aF.cell e0 aQ.2
    have f1:=aF.cell e1 aQ.2
    have f2:=aF.cell e2 aQ.2
    have f3:=aF.cell e3 aQ.2
    have f4:=aF.cell e4 aQ.2
    have q:=hr.keep (aF.same (fun b hb=>by have:=hB b hb;omega)) (fun _ h=>h)
    obtain⟨y0,y1,y2,ya,yl,yc,za,zl,zc,rfl,rfl,rfl,rfl,rfl⟩:=q.shape
    clear aD aI e0 e1 e2 e3 e4 hr
    have aX:=(Below.refl wr.heap.size wr).alloc (Nat.le_refl _) (.cells #[.int .i64 y0,.int .i64 y1,.string y2,.slice ya yl yc,.slice za zl zc] 67)
    have aR:Near pb wr (wr.alloc (.cells #[.int .i64 y0,.int .i64 y1,.string y2,.slice ya yl yc,.slice za zl zc] 67)):=Near.of_below aX
    have q5:=q.keep (aR.same (fun b hb=>by have:=hB b hb;omega)) (fun _ h=>h)
    have aG:=aC.keep (aP.trans aR) (aL.keep aX)
    have HC:Hid (Calls Tryz.prog 160 _ _ _):=hn S (Nd.kids t)[k] _ _ _ _ _ (d+1) _ pb mb ab _ q5 (fun b hb=>by have:=hB b hb;simp;omega) aG (by omega) aA (by omega) (by omega)
    have aK:=@xcF n t d p k aJ
    have aE:Hid (sumL (fun x=>cntT n x) ((Nd.kids t).take (k+1))=sumL (fun x=>cntT n x) ((Nd.kids t).take k)+cntT n (Nd.kids t)[k]):=qaO _ _ _ aJ
    clear q q5 aG aX
    unfold clT at HC
    go_wp2_with fail
    refine HC.out.mono ?_
    rintro e w3 ⟨bA,r,rfl,aM,bB⟩
    have aV:=aF.trans (aR.trans bA)
    cases r with
    | false=>
     have HP:Hid (qiZ (n+1) t d p pb w (.returned (.bool false)) w3):=⟨bE.trans aV,false,rfl,fun h=>(by cases h),fun _=>aK (bB rfl)⟩
     clear aK bB aM aE aB bA aV aR aP
     go_wp2_with fail
     go_ret
     exact HP.out
    | true=>
     obtain⟨hg,hc,bG⟩:=aM rfl
     have HR:Hid (Near pb w2 w3/\Prt w3 pb (p+1+(sumL (fun x=>cntT n x) ((Nd.kids t).take (k+1)):Int))/\p+1+(sumL (fun x=>cntT n x) ((Nd.kids t).take (k+1)):Int)<=120/\((Nd.kids t).take (k+1)).all (fun x=>goodT n x (d+1))=true):=by
      refine⟨aV,?_,?_,qpS k aJ aB.out hg⟩
      ·rw[aE.out,show p+1+((sumL (fun x=>cntT n x) ((Nd.kids t).take k)+cntT n (Nd.kids t)[k]:Nat):Int)=p+1+(sumL (fun x=>cntT n x) ((Nd.kids t).take k):Int)+(cntT n (Nd.kids t)[k]:Int) by omega]
       exact bG
      ·rw[aE.out];omega
     clear aK bB aM aE aB bA aV aR aP hg hc bG aL aA
     go_wp2_with fail
     go_roundw
     case rel=>exact⟨k+1,by omega,by go_num,HR.out.1,HR.out.2.1,HR.out.2.2.1,HR.out.2.2.2⟩
     case measure=>simp[intOf];omega
   ·have bF:k=(Nd.kids t).length:=by omega
    have HP:Hid (qiZ (n+1) t d p pb w (.returned (.bool true)) wr):=by
     have h1:=aB.out
     rw[bF,List.take_length]at h1 aL aA
     have e:p+1+(sumL (fun x=>cntT n x) (Nd.kids t):Int)=p+(cntT (n+1) t:Int):=by simp only[cntT];omega
     rw[e]at aL aA
     exact⟨aP,true,rfl,fun _=>⟨by have:=bH.out;simp only[goodT,this,h1,Bool.and_self],aA,aL⟩,fun h=>(by cases h)⟩
    clear bF aD aB aP aL aA
    go_wp2_with fail
    go_ret
    exact HP.out
theorem xcG:∀ n,qmF n:=by
 intro n
 induction n with
 | zero=>intro S t c0 c1 c2 c3 c4 d p pb mb ab w ht;exact ht.elim
 | succ n ih=>exact qyD n ih
theorem xcH (n:Nat) (S:Nat->Prop) (t:T n) (c0 c1 c2 c3 c4:Value) (w:World) (ht:TreeIn S w n t c0 c1 c2 c3 c4) (hB:∀ b,S b->b<w.heap.size) :
  Calls Tryz.prog 137 #[.agg #[c0,c1,c2,c3,c4],.int .i64 120,.func (.func 138) #[] #[]] w fun e w'=>e=.returned (.bool (okT n t))/\Below w.heap.size w w':=by
 have aE:∀ (fn:Fn) (first cap:Array Value) (w:World),(Instr.makeFunc fn first cap).run Tryz.prog w=.ok (.func fn first cap) w:=fun _ _ _ _=>rfl
 obtain⟨x0,x1,x2,xa,xl,xc,ya,yl,yc,rfl,rfl,rfl,rfl,rfl⟩:=ht.shape
 have hb:Below w.heap.size w ((((w.alloc (.cells #[.int .i64 x0,.int .i64 x1,.string x2,.slice xa xl xc,.slice ya yl yc] 67)).alloc (.cells #[.int .i64 120] 3)).alloc (.cells #[.func (.func 138) #[] #[]] 92)).alloc (.cells #[.int .i64 0] 3)):=
  ((((Below.refl _ _).alloc (Nat.le_refl _) _).alloc (by simp) _).alloc (by simp;omega) _).alloc (by simp;omega) _
 have aB:=ht.keep (qaB hb hB) (fun _ h=>h)
 have HC:Hid (Calls Tryz.prog 160 _ _ _):=xcG n S t _ _ _ _ _ 1 0 (w.heap.size+1+1+1) (w.heap.size+1) (w.heap.size+1+1) _ aB (fun b hb=>by have:=hB b hb;simp;omega)
  ⟨by rw[show w.heap.size+1+1+1=(((w.alloc (.cells #[.int .i64 x0,.int .i64 x1,.string x2,.slice xa xl xc,.slice ya yl yc] 67)).alloc (.cells #[.int .i64 120] 3)).alloc (.cells #[.func (.func 138) #[] #[]] 92)).heap.size by simp];exact Prt.new _ 0,
   by simp[go_sem],by simp[go_sem],by omega,by omega⟩ (by omega) (by omega) (by omega) (by omega)
 unfold clT at HC
 clear ht aB
 go_enter Tryz.func137,Tryz.ntmps137
 go_wp2_with fail
 refine HC.out.mono ?_
 rintro e w1 ⟨hn,r,rfl,aA,aC⟩
 have aD:Below w.heap.size w w1:=hb.trans (hn.below (by omega) (by simp;omega))
 have hr:r=okT n t:=by
  cases r with
  | true=>
   obtain⟨h1,h2,-⟩:=aA rfl
   unfold okT;rw[h1,decide_eq_true (by omega)];rfl
  | false=>
   symm
   rw[Bool.eq_false_iff]
   intro h
   simp only[okT,Bool.and_eq_true,decide_eq_true_eq]at h
   exact aC rfl ⟨h.1,by omega⟩
 clear aA aC hn hb HC
 go_wp2_with fail
 go_ret
 exact⟨rfl,aD⟩
theorem qoM (n:Nat) (S:Nat->Prop) (t:T n) (c0 c1 c2 c3 c4:Value) (w:World) (ht:TreeIn S w n t c0 c1 c2 c3 c4) (hB:∀ b,S b->b<w.heap.size) :
  Calls Tryz.prog 105 #[.agg #[c0,c1,c2,c3,c4]] w fun e w'=>e=.returned (.bool (okT n t))/\Below w.heap.size w w':=by
 obtain⟨x0,x1,x2,xa,xl,xc,ya,yl,yc,rfl,rfl,rfl,rfl,rfl⟩:=ht.shape
 have aA:=(Below.refl w.heap.size w).alloc (Nat.le_refl _) (.cells #[.int .i64 x0,.int .i64 x1,.string x2,.slice xa xl xc,.slice ya yl yc] 67)
 obtain⟨aB,aE⟩:=ht.step hB aA
 have HC:Hid (Calls Tryz.prog 137 _ _ _):=xcH n S t _ _ _ _ _ _ aB aE
 clear ht aB
 go_enter Tryz.func105,Tryz.ntmps105
 go_wp2_with fail
 refine HC.out.mono ?_
 rintro e w1 ⟨rfl,aC⟩
 have aD:=qaA aA (by simp) aC
 clear aA aC HC
 go_wp2_with fail
 go_ret
 exact⟨rfl,aD⟩
end Go.Proofs.YtelogmjfekhmpaaGreatDoor
