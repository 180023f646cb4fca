import Derived.Test.YtelogmjfekhmpaaGreatDoorTOut0
import Derived.Test.YtelogmjfekhmpaaGreatDoorTMade
import Derived.Test.YtelogmjfekhmpaaGreatDoorCopyN
namespace Go.Proofs.YtelogmjfekhmpaaGreatDoor
set_option maxRecDepth 100000
set_option maxHeartbeats 16000000
open Go.RowKit
def qeR:(n:Nat)->T n->Prop
 | 0,_=>False
 | n + 1, t => (Nd.sort t = 1 -> Nd.text t = ByteArray.empty /\ Nd.names t = [] /\ Nd.kids t = []) /\ (Nd.sort t = 2 -> Nd.num t = 0 /\ Nd.names t = [] /\ Nd.kids t = []) /\
   (Nd.sort t=3->Nd.text t=ByteArray.empty/\Nd.names t=[]/\Nd.kids t=[]/\(Nd.num t=0∨Nd.num t=1))/\(Nd.sort t=4->Nd.num t=0/\Nd.text t=ByteArray.empty/\Nd.names t=[]) /\
   (Nd.sort t=5->Nd.num t=0/\Nd.text t=ByteArray.empty)/\(Nd.sort t=6->Nd.num t=0/\Nd.text t=ByteArray.empty/\Nd.names t=[]) /\
   -999999999<=Nd.num t/\Nd.num t<=999999999/\(Nd.text t).size<=10000/\(Nd.names t).length<=10000/\(∀ s,s∈Nd.names t->s.size<=10000)/\(Nd.kids t).length<=10000/\∀ k,k∈Nd.kids t->qeR n k
theorem Tryz.info_treeO:(Tryz.prog.info? 67).map (fun i=>(i.zero,i.size,i.bytes))=some (some (.agg #[.int .i64 0,.int .i64 0,.string ⟨#[]⟩,.slice none 0 0,.slice none 0 0]),5,80):=by kernel_rfl
structure OutLoop (M n:Nat) (ks:List (T n)) (w1:World) (k:Nat) (v:Value) (wr:World):Prop where
 below:Below M w1 wr
 row:∃ xs Ps,wr.ownsRow M 67 5 v k xs/\Ps.length=k/\qqF (fun b=>M<=b/\b<wr.heap.size/\v.ownBlock≠some b) wr n ks xs Ps/\Ps.flatten.length+3*k=sumL (fun x=>3+spL n x) (ks.take k)
theorem xgV {M n:Nat} {ks:List (T n)} {w1 wr w2 w3:World} {k g cap:Nat} {v:Value} {xs:List Value} {Ps:List (List Spot)} {one:Obj} {c0 c1 c2 c3 c4:Value} {L3 L4:List Spot} (h:Below M w1 wr) (hk:k<ks.length) (hMr:M<=wr.heap.size)
  (hown:wr.ownsRow M 67 5 v k xs) (hpl:Ps.length=k) (hko:qqF (fun b=>M<=b/\b<wr.heap.size/\v.ownBlock≠some b) wr n ks xs Ps) (hln:Ps.flatten.length+3*k=sumL (fun x=>3+spL n x) (ks.take k))
  (hb2:Below wr.heap.size wr w2) (hin:TreeIn (fun b=>wr.heap.size<=b/\b<w2.heap.size) w2 n ks[k] c0 c1 c2 c3 c4) (h3:SpN w2 c3 L3) (h4:SpR w2 (n - 1) c4 L4) (ho:Own (fun b=>wr.heap.size<=b/\b<w2.heap.size) (L3++L4)) (hl:(L3++L4).length=spL n ks[k])
  (hown':w3.ownsRow M 67 5 (.slice (some ⟨g,0,none⟩) (k+1) cap) (k+1) (xs++[c0,c1,c2,c3,c4])) (hgrow:(w2.alloc one).grownBy w3 v.ownBlock) (hat:v.ownBlock=some g∨g=w2.heap.size+1) :
  OutLoop M n ks w1 (k+1) (.slice (some ⟨g,0,none⟩) (k+1) cap) w3:=by
 have aM:=hb2.size
 have aH:=hgrow.size
 simp at aH
 have aF:∀ b,v.ownBlock=some b->M<=b/\b<wr.heap.size:=r1_lt hown
 have aI:xs.length=k*5:=hown.1
 have q3:∀ b,b<w2.heap.size->v.ownBlock≠some b->w3.heap[b]?=w2.heap[b]?:=fun b hb hne=>by
  rw[hgrow.block b (by simp;omega) (fun e=>hne e.symm),Below.heap_alloc _ _ _ hb]
 have q2:∀ b,b<wr.heap.size->v.ownBlock≠some b->w3.heap[b]?=wr.heap[b]?:=fun b hb hno=>by
  rw[q3 b (by omega) hno,hb2.block b hb]
 have aA:∀ b,v.ownBlock≠some b->b<w2.heap.size->(Value.slice (some ⟨g,0,none⟩) (k+1) cap).ownBlock≠some b:=by
  intro b h1 h2 e
  have e:g=b:=by simpa [Value.ownBlock] using e
  rcases hat with h3|h3
  ·exact h1 (by rw[h3,e])
  ·omega
 have aC:∀ b,wr.heap.size<=b->v.ownBlock≠some b:=fun b h1 e=>by have:=aF b e;omega
 refine⟨⟨?_,?_,?_,by have:=h.size;omega,fun b hb=>?_⟩,xs++[c0,c1,c2,c3,c4],Ps++[L3++L4],hown',by simp[hpl],⟨?_,fun j hj hp=>?_⟩,?_⟩
 ·rw[hgrow.os];exact hb2.os.trans h.os
 ·rw[hgrow.tape];exact hb2.tape.trans h.tape
 ·rw[hgrow.output];exact hb2.output.trans h.output
 ·rw[q2 b (by omega) (fun e=>by have:=aF b e;omega)];exact h.block b hb
 ·rw[List.flatten_append,List.flatten_singleton]
  refine hko.1.app ho (fun b hb=>⟨hb.1,by omega,aA b hb.2.2 (by omega)⟩) (fun b hb=>⟨by omega,by omega,aA b (aC b hb.1) hb.2⟩) (fun b h1 h2=>by omega)
 ·by_cases hjk:j<k
  ·have aD:j<Ps.length:=by omega
   obtain⟨d0,d1,d2,d3,d4,K3,K4,hd,aG,aJ,aK,aL⟩:=hko.2 j hj aD
   have aB:∀ s,s∈K3++K4->w3.heap[s.b]?=wr.heap[s.b]?:=fun s hs=>by
    have:=hko.1.1 s (List.mem_flatten.2 ⟨_,List.getElem_mem aD,by rw[aG];exact hs⟩)
    exact q2 s.b this.2.1 this.2.2
   refine⟨d0,d1,d2,d3,d4,K3,K4,?_,by rw[List.getElem_append_left aD];exact aG,aJ.keep (fun b hb=>q2 b hb.2.1 hb.2.2) (fun b hb=>⟨hb.1,by have:=hb.2.1;omega,aA b hb.2.2 (by have:=hb.2.1;omega)⟩),
    aK.same (fun s hs=>aB s (List.mem_append_left _ hs)),aL.same (fun s hs=>aB s (List.mem_append_right _ hs))⟩
   rw[List.getElem?_append_left (by omega),List.getElem?_append_left (by omega),List.getElem?_append_left (by omega),List.getElem?_append_left (by omega),List.getElem?_append_left (by omega)]
   exact hd
  ·have aE:j=k:=by simp at hp;omega
   subst aE
   have aB:∀ s,s∈L3++L4->w3.heap[s.b]?=w2.heap[s.b]?:=fun s hs=>by
    have:=ho.1 s hs
    exact q3 s.b this.2 (aC _ this.1)
   refine⟨c0,c1,c2,c3,c4,L3,L4,?_,by simp[<- hpl],hin.keep (fun b hb=>q3 b hb.2 (aC b hb.1)) (fun b hb=>⟨by have:=hb.1;omega,by have:=hb.2;omega,aA b (aC b hb.1) hb.2⟩),
    h3.same (fun s hs=>aB s (List.mem_append_left _ hs)),h4.same (fun s hs=>aB s (List.mem_append_right _ hs))⟩
   rw[List.getElem?_append_right (by omega),List.getElem?_append_right (by omega),List.getElem?_append_right (by omega),List.getElem?_append_right (by omega),List.getElem?_append_right (by omega),aI,
    Nat.sub_self,show j*5+1 - j*5=1 by omega,show j*5+2 - j*5=2 by omega,show j*5+3 - j*5=3 by omega,show j*5+4 - j*5=4 by omega]
   exact⟨rfl,rfl,rfl,rfl,rfl⟩
 ·rw[List.take_succ_eq_append_getElem hk,qsE,<- hln,List.flatten_append,List.flatten_singleton,List.length_append,hl];omega
def qdC (n:Nat) (t:T n) (w:World) (e:Ending) (w':World):Prop:=
 Below w.heap.size w w' /\ ∃ g0 g1 g2 g3 g4 L3 L4,e=.returned (.agg #[g0,g1,g2,g3,g4])/\TreeIn (fun b=>w.heap.size<=b/\b<w'.heap.size) w' n t g0 g1 g2 g3 g4/\SpN w' g3 L3/\SpR w' (n - 1) g4 L4 /\
  Own (fun b=>w.heap.size<=b/\b<w'.heap.size) (L3++L4)/\(L3++L4).length=spL n t
def qiC (n:Nat):Prop:=∀ (S:Nat->Prop) (t:T n) (iv:Value) (w:World),InnerT S w n t iv->(∀ b,S b->b<w.heap.size)->qeR n t->Calls Tryz.prog 104 #[iv] w (qdC n t w)
theorem qfY (n:Nat) (hn:qiC n) (S:Nat->Prop) (ks:List (T n)) (v:Value) (w:World) (hr:Row1 S w (InnerT S w n) ks v) (hB:∀ b,S b->b<w.heap.size) (hkc:ks.length<=10000) (hcl:∀ k,k∈ks->qeR n k) :
  Calls Tryz.prog 135 #[v] w fun e w'=>Below w.heap.size w w' /\ ∃ v' L,e=.returned v' /\ RowIn (fun b=>w.heap.size<=b/\b<w'.heap.size) w' (TreeIn (fun b=>w.heap.size<=b/\b<w'.heap.size) w' n) ks v' /\ SpR w' n v' L /\
   Own (fun b=>w.heap.size<=b/\b<w'.heap.size) L/\L.length=sumL (fun x=>3+spL n x) ks:=by
 obtain⟨ao,cap,rfl,-,aA⟩:=hr
 obtain⟨i0,hi,aI,aJ,aK⟩:=info_parts Tryz.info_treeO
 have HI:aF (_/\_/\_/\_):=⟨hi,aI,aJ,aK⟩
 have aY:aF (∀ k,k∈ks->qeR n k):=hcl
 clear hi aI aJ aK hcl
 go_enter Tryz.func135,Tryz.ntmps135
 go_wp2_with fail
 go_loopw [3,8] (fun v i wr=>∃ k:Nat,k<=ks.length/\i=.int .i64 k/\OutLoop w.heap.size n ks w k v wr) (fun _ i _=>ks.length - (intOf i).toNat)
 case atStart=>exact⟨0,Nat.zero_le _,rfl,Below.refl _ _,[],[],World.ownsRow_nil _ _ _ _,rfl,⟨Own.nil _,fun j _ hp=>absurd hp (Nat.not_lt_zero _)⟩,by simp[sumL]⟩
 case round=>
  obtain⟨k,hk,rfl,aB,xs,Ps,aH,aS,aL,aO⟩:=hrel
  obtain⟨va,vc,rfl⟩:=qhM aH
  have aZ:=aB.size
  have HX:=hidF aH
  have HK:aF (Ps.length=k/\qqF (fun b=>w.heap.size<=b/\b<wr.heap.size/\(Value.slice va k vc).ownBlock≠some b) wr n ks xs Ps/\Ps.flatten.length+3*k=sumL (fun x=>3+spL n x) (ks.take k)):=⟨aS,aL,aO⟩
  clear aH aS aL aO
  by_cases aM:k<ks.length
  ·obtain⟨b,off,rfl,bB,aD⟩:=aA (by intro h;rw[h]at aM;simp at aM)
   obtain⟨c,e0,hr⟩:=aD k aM
   obtain⟨ku,kx,rfl⟩:=id hr.iface
   have f0:=(aB.cell (p:=⟨b,off+k,none⟩) (hB b bB)).trans e0
   have HC:aF (Calls Tryz.prog 104 _ _ _):=hn S ks[k] _ wr (hr.keep (qaB aB hB) (fun _ h=>h)) (fun b hb=>by have:=hB b hb;omega) (aY.out _ (List.getElem_mem aM))
   clear aA aD e0 hr
   go_wp2_with fail
   refine HC.out.mono ?_
   rintro e w2 ⟨aP,g0,g1,g2,g3,g4,L3,L4,rfl,aT,aW,aX,ho,hl⟩
   obtain⟨u0,u1,u2,ua,ul,uc,ya,yl,yc,rfl,rfl,rfl,rfl,rfl⟩:=aT.shape
   have bA:=aP.size
   have aU:aF (w2.ownsRow w.heap.size 67 5 (.slice va k vc) k xs):=qbG HX.out (fun g' hg'=>aP.block g' (r1_lt HX.out g' hg').2)
   have aG:aF (_/\_/\_/\_/\_/\_):=⟨aP,aT,aW,aX,ho,hl⟩
   clear aP aT aW aX ho hl f0 HC
   go_wp2_with (at_builtin;refine wpList_append_lies _ rfl (.tmp 12) (.tmp 15) 65 rfl w.heap.size 67 i0 _ 5 80 Tryz.underlying65 HI.out.1 HI.out.2.1 HI.out.2.2.1 HI.out.2.2.2 rfl (by decide) (.slice va k vc) k xs rfl (aU.out.alloc _) ⟨w2.heap.size,0,none⟩ 1 1 [.int .i64 u0,.int .i64 u1,.string u2,.slice ua ul uc,.slice ya yl yc] rfl rfl (World.news_of_block (heap_alloc_new w2 _)) (by simp[Value.oneCell']) (by decide) (by unfold maxLen;omega) (by omega) (by simp;omega) (w2.heap.size+1) (by simp) ?_;intro g cap w3 aE aC aN bC;refine aF.out ?_)
   refine Lib.hid ?_
   have HF:aF (OutLoop w.heap.size n ks w (k+1) (.slice (some ⟨g,0,none⟩) (k+1) cap) w3):=
    xgV aB aM aZ HX.out HK.out.1 HK.out.2.1 HK.out.2.2 aG.out.1 aG.out.2.1 aG.out.2.2.1 aG.out.2.2.2.1 aG.out.2.2.2.2.1 aG.out.2.2.2.2.2 aE aC aN
   clear aE aC aN aG aU HX HK
   go_wp2_with fail
   go_roundw
   case rel=>exact⟨k+1,by omega,by go_num,HF.out⟩
   case measure=>simp[intOf];omega
  ·have aQ:k=ks.length:=by omega
   have HP:aF (∃ L,RowIn (fun b=>w.heap.size<=b/\b<wr.heap.size) wr (TreeIn (fun b=>w.heap.size<=b/\b<wr.heap.size) wr n) ks (.slice va k vc)/\SpR wr n (.slice va k vc) L /\
     Own (fun b=>w.heap.size<=b/\b<wr.heap.size) L/\L.length=sumL (fun x=>3+spL n x) ks):=by
    have h1:=HX.out
    obtain⟨aS,aL,aO⟩:=HK.out
    have hv:=r1_lt h1
    rw[aQ,List.take_length]at aO
    have aR:Ps.length=ks.length:=by omega
    have aV:wr.ownsRow w.heap.size 67 5 (.slice va k vc) ks.length xs:=by rw[aQ]at h1 ⊢;exact h1
    obtain⟨L,hR,hO,hL⟩:=quX aV (by omega) aR aL (fun b hb=>hb.2.2)
    refine⟨L,qlT aV (by omega) (fun g hg=>hv g hg) (fun j hj=>?_),hR,hO.mono (fun b hb=>hb.elim (fun h=>⟨h.1,h.2.1⟩) (fun h=>hv b h)),by omega⟩
    obtain⟨d0,d1,d2,d3,d4,K3,K4,hd,-,bD,-⟩:=aL.2 j hj (by omega)
    exact⟨d0,d1,d2,d3,d4,hd,bD.keep (fun _ _=>rfl) (fun b hb=>⟨hb.1,hb.2.1⟩)⟩
   clear aQ aA HX HK
   go_wp2_with fail
   go_ret
   obtain⟨L,q1,q2,q3,q4⟩:=HP.out
   exact⟨aB,_,L,rfl,q1,q2,q3,q4⟩
end Go.Proofs.YtelogmjfekhmpaaGreatDoor
