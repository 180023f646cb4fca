import Derived.Test.YtelogmjfekhmpaaGreatDoorNW0
namespace Go.Proofs.YtelogmjfekhmpaaGreatDoor
set_option maxRecDepth 100000
set_option maxHeartbeats 16000000
open Go.RowKit
def NodeW (m:Nat):Prop:=∀ (B wb bk:Nat) (w:World) (v:Value) (l:List UInt8) (t:T m) (c0 c1 c2 c3 c4:Value) (d:Int),Wrt B wb bk w w v l->NodeIn (fun b=>b<B) w m t c0 c1 c2 c3 c4->Book w bk->bk<B->goodN m t d=true ->
 wk l.length (lenN m t)<=800000->Tens B w->Calls Tryz.prog 70 #[.pointer (some ⟨wb,0,none⟩),.agg #[c0,c1,c2,c3,c4]] w (WPost B wb bk w (wk l.length (lenN m t)))
theorem wk_le (k x:Nat):k+x<=wk k x:=by unfold wk;split <;> omega
theorem qxC {α:Type} (lk:α->Nat):∀ (ns:List ByteArray) (ks:List α) (k:Nat),k<=lenFs lk ns ks k:=by
 intro ns
 induction ns with
 | nil=>intro ks k;simp[lenFs]
 | cons a ns ih=>
  intro ks k
  cases ks with
  | nil=>simp[lenFs]
  | cons x r=>
   rw[lenFs]
   have h1:=ih r (wk (wk k a.size) (lk x))
   have h2:=wk_le (wk k a.size) (lk x)
   have h3:=wk_le k a.size
   omega
theorem Wrt.same {B wb bk:Nat} {w0 w:World} {v:Value} {l:List UInt8} (h:Wrt B wb bk w0 w v l):Same (fun b=>b<B) w0 w:=fun b hb=>h.below.block b hb
theorem qzL (m:Nat) (hn:NodeW m) (B wb bk:Nat) (w:World) (v:Value) (l:List UInt8) (n:Nd (T m)) (na ka:Option Addr) (nc kc:Nat) (d:Int) (h:Wrt B wb bk w w v l)
  (h3:StrsIn (fun b=>b<B) w n.names (.slice na n.names.length nc)) (h4:RowIn (fun b=>b<B) w (NodeIn (fun b=>b<B) w m) n.kids (.slice ka n.kids.length kc)) (hle:n.names.length=n.kids.length) (hbk:Book w bk) (hbB:bk<B)
  (hg:n.kids.all (fun x=>goodN m x d)=true) (hl:lenFs (lenN m) n.names n.kids l.length<=800000) (hT:Tens B w) :
  Calls Tryz.prog 95 #[.pointer (some ⟨wb,0,none⟩),.agg #[.int .i64 n.sort,.int .i64 n.num,.string n.text,.slice na n.names.length nc,.slice ka n.kids.length kc]] w (WPost B wb bk w (wk (lenFs (lenN m) n.names n.kids l.length) 3)):=by
 obtain⟨W,hW⟩:∃ W,W=w.alloc (.cells #[.int .i64 n.sort,.int .i64 n.num,.string n.text,.slice na n.names.length nc,.slice ka n.kids.length kc] 25):=⟨_,rfl⟩
 have aJ:Wrt B wb bk w W v l:=by rw[hW];exact h.alloc _
 have aH:W.heap[w.heap.size]?=some (.cells #[.int .i64 n.sort,.int .i64 n.num,.string n.text,.slice na n.names.length nc,.slice ka n.kids.length kc] 25 (0,0)):=by rw[hW];exact heap_alloc_last _ _
 have bD:=h.lt
 have aO:=aJ.same
 obtain⟨_,_,hv,bL,bP,aS⟩:=h3.keep aO (fun _ h=>h)
 cases hv
 obtain⟨_,_,hv,bM,aT⟩:=h4.keepN aO (fun _ h=>h)
 cases hv
 have aP:Book W bk:=hbk.keep (aJ.below.block bk hbB)
 have bE:Tens B W:=hT.on aJ.below
 have HG:Hid (∀ k (h:k<n.kids.length),goodN m n.kids[k] d=true):=fun k h=>List.all_eq_true.1 hg _ (List.getElem_mem h)
 have HL:Hid (lenFs (lenN m) n.names n.kids l.length<=800000):=hl
 have aV:=hidF aJ
 have bF:n.names.length<=n.kids.length:=by omega
 have bG:n.kids.length<=n.names.length:=by omega
 have aW:=hidF hW
 unfold maxLen at bL bM
 clear hg hl h3 h4 hle hbk hT h aO aJ hW
 obtain⟨q0,q1,q2,q3,q4⟩:=qcF aH
 rw[aW.out]at q0 q1 q2 q3 q4
 go_enter Tryz.func95,Tryz.ntmps95
 go_wp2_with fail
 rw[<- aW.out]
 clear q0 q1 q2 q3 q4
 go_loopw [9] (fun i wr=>∃ (k:Nat) (v':Value) (l':List UInt8),k<=n.names.length/\i=.int .i64 k/\Wrt B wb bk W wr v' l' /\ Hid (lenFs (lenN m) (n.names.drop k) (n.kids.drop k) l'.length=lenFs (lenN m) n.names n.kids l.length)) (fun i _=>n.names.length - (intOf i).toNat)
 case atStart=>exact⟨0,v,l,Nat.zero_le _,rfl,aV.out.here,by rw[List.drop_zero,List.drop_zero];exact rfl⟩
 case round=>
  obtain⟨k,v',l',hk,rfl,aE,HE⟩:=hrel
  have aQ:=(aE.kept w.heap.size _ aH (by simp;omega) (fun c fz e=>by cases e))
  obtain⟨z0,z1,z2,z3,z4⟩:=qcF aQ
  by_cases aN:k<n.names.length
  ·obtain⟨b,off,rfl,bN,aF⟩:=aS (by intro h;rw[h]at aN;simp at aN)
   have e0:=(aE.below.cell (p:=⟨b,off+k,none⟩) bN).trans (aF k aN)
   have aR:k<n.kids.length:=by omega
   obtain⟨b2,off2,rfl,aB,aC⟩:=aT (by intro h;have:=List.length_eq_zero_iff.2 h;omega)
   obtain⟨d0,d1,d2,d3,d4,k0,k1,k2,k3,k4,aU⟩:=aC k aR
   obtain⟨x0,x1,x2,xa,xl,xc,ya,yl,yc,rfl,rfl,rfl,rfl,rfl⟩:=aU.shape
   have HS:Hid (lenFs (lenN m) (n.names.drop (k+1)) (n.kids.drop (k+1)) (wk (wk l'.length n.names[k].size) (lenN m n.kids[k]))=lenFs (lenN m) n.names n.kids l.length):=by
    have:=HE.out
    rw[List.drop_eq_getElem_cons aN,List.drop_eq_getElem_cons aR,lenFs]at this
    exact this
   have aX:=qxC (lenN m) (n.names.drop (k+1)) (n.kids.drop (k+1)) (wk (wk l'.length n.names[k].size) (lenN m n.kids[k]))
   rw[HS.out]at aX
   have hL:=HL.out
   have g1:=wk_le (wk l'.length n.names[k].size) (lenN m n.kids[k])
   have g2:=wk_le l'.length n.names[k].size
   have aK:Hid (Calls Tryz.prog 91 _ wr _):=qdA B wb bk wr v' l' n.names[k] aE.here (by omega)
   have aY:Hid (∀ w2 v2 l2,Wrt B wb bk wr w2 v2 l2->l2.length=wk l'.length n.names[k].size->Calls Tryz.prog 70 #[.pointer (some ⟨wb,0,none⟩),.agg #[.int .i64 x0,.int .i64 x1,.string x2,.slice xa xl xc,.slice ya yl yc]] w2 (WPost B wb bk w2 (wk (wk l'.length n.names[k].size) (lenN m n.kids[k])))):=by
    intro w2 v2 l2 aA aG
    have aD:=aA.from aE
    have:=hn B wb bk w2 v2 l2 n.kids[k] _ _ _ _ _ d aA.here (aU.keep aD.same (fun _ h=>h)) (aP.keep (aD.below.block bk hbB)) hbB (HG.out k aR) (by rw[aG];omega) (bE.on aD.below)
    rw[aG]at this
    exact this
   have HK:Hid (∀ w2 v2 l2,Wrt B wb bk wr w2 v2 l2->(w2.cell? ⟨w.heap.size,4,none⟩=some (.slice (some ⟨b2,off2,none⟩) n.kids.length kc)/\w2.cell? ⟨b2,off2+k*5,none⟩=some (.int .i64 x0)/\w2.cell? ⟨b2,off2+k*5+1,none⟩=some (.int .i64 x1)/\w2.cell? ⟨b2,off2+k*5+2,none⟩=some (.string x2)/\w2.cell? ⟨b2,off2+k*5+3,none⟩=some (.slice xa xl xc)/\w2.cell? ⟨b2,off2+k*5+4,none⟩=some (.slice ya yl yc))):=by
    intro w2 v2 l2 aA
    have aD:=aA.from aE
    have bH:=qcF (aD.kept w.heap.size _ aH (by simp;omega) (fun c fz e=>by cases e))
    exact⟨bH.2.2.2.2,(aD.below.cell (p:=⟨b2,off2+k*5,none⟩) aB).trans k0,(aD.below.cell (p:=⟨b2,off2+k*5+1,none⟩) aB).trans k1,(aD.below.cell (p:=⟨b2,off2+k*5+2,none⟩) aB).trans k2,(aD.below.cell (p:=⟨b2,off2+k*5+3,none⟩) aB).trans k3,(aD.below.cell (p:=⟨b2,off2+k*5+4,none⟩) aB).trans k4⟩
   have aM:=hidF aE
   clear aS aT aF aC aU aQ aX g1 g2 hL aE k0 k1 k2 k3 k4 HE
   have bO:(k:Int)<(n.kids.length:Int):=by omega
   generalize n.names[k]=nm at *
   go_wp2_with fail
   refine aK.out.mono ?_
   rintro e w2 ⟨rfl,v2,l2,aA,aG⟩
   have aZ:=hidF (aY.out w2 v2 l2 aA aG)
   obtain⟨y4,k0,k1,k2,k3,k4⟩:=HK.out w2 v2 l2 aA
   have bA:=hidF aA
   clear aA aK aY HK z0 z1 z2 z3 z4 e0
   go_wp2_with fail
   refine aZ.out.mono ?_
   rintro e w3 ⟨rfl,v3,l3,bC,aL⟩
   have bI:=hidF ((bC.from bA.out).from aM.out)
   have bJ:Hid (lenFs (lenN m) (n.names.drop (k+1)) (n.kids.drop (k+1)) l3.length=lenFs (lenN m) n.names n.kids l.length):=by show _=_;rw[aL];exact HS.out
   clear bC aZ y4 k0 k1 k2 k3 k4 bA aM HS aL aG
   go_wp2_with fail
   go_roundw
   case rel=>exact⟨k+1,v3,l3,by omega,by go_num,bI.out,bJ⟩
   case measure=>simp[intOf];omega
  ·have bB:k=n.names.length:=by omega
   have aI:l'.length=lenFs (lenN m) n.names n.kids l.length:=by
    have:=HE.out
    rw[bB,List.drop_length]at this
    simpa [lenFs] using this
   have aK:Hid (Calls Tryz.prog 91 _ wr _):=qdA B wb bk wr v' l' ⟨#[101,110,100]⟩ aE.here (by rw[aI];have:=HL.out;show _+3<=_;omega)
   have aM:=hidF (aE.from aV.out)
   have bK:=hidF aI
   clear aS aT aQ aE bB aI HE z0 z1 z2 z3 z4
   go_wp2_with fail
   refine aK.out.mono ?_
   rintro e w2 ⟨rfl,v2,l2,aA,aG⟩
   have HP:Hid (WPost B wb bk w (wk (lenFs (lenN m) n.names n.kids l.length) 3) (.returned (.tuple #[])) w2):=⟨rfl,v2,l2,aA.from aM.out,by rw[aG,bK.out];rfl⟩
   clear aA aG aK
   go_wp2_with fail
   refine bodyPost_end (results_none rfl _ _ _) rfl ?_
   exact HP.out
end Go.Proofs.YtelogmjfekhmpaaGreatDoor
