import Derived.Test.YtelogmjfekhmpaaGreatDoorTWalk
import Derived.Test.YtelogmjfekhmpaaGreatDoorRow1
import Derived.Deep.RegionWith
import Derived.Lib.Hide
namespace Go.Proofs.YtelogmjfekhmpaaGreatDoor
set_option maxRecDepth 100000
set_option maxHeartbeats 16000000
open Go.RowKit
def InnerT (S:Nat->Prop) (w:World):(n:Nat)->T n->Value->Prop
 | 0,_,_=>False
 | n+1,t,v=>
  (Nd.sort t=1/\v=.iface 166 (.int .i64 (Nd.num t)))∨(Nd.sort t=2/\v=.iface 167 (.string (Nd.text t))) ∨
  (Nd.sort t=3/\v=.iface 168 (.bool (Nd.num t==1))) ∨
  (Nd.sort t=4/\∃ kv,v=.iface 170 kv/\Row1 S w (InnerT S w n) (Nd.kids t) kv) ∨
  (Nd.sort t=5/\∃ nv kv,v=.iface 173 (.agg #[nv,kv])/\StrsIn S w (Nd.names t) nv/\Row1 S w (InnerT S w n) (Nd.kids t) kv) ∨
  (Nd.sort t=6/\∃ kv,v=.iface 175 kv/\Row1 S w (InnerT S w n) (Nd.kids t) kv)
theorem InnerT.keep {S S':Nat->Prop} {w w':World} (hb:Same S w w') (hS:∀ b,S b->S' b):∀ {n:Nat} {t:T n} {v:Value},InnerT S w n t v->InnerT S' w' n t v:=by
 intro n
 induction n with
 | zero=>intro t v h;exact h.elim
 | succ n ih=>
  intro t v h
  rcases h with h|h|h|⟨hs,kv,hv,hk⟩|⟨hs,nv,kv,hv,hn,hk⟩|⟨hs,kv,hv,hk⟩
  ·exact .inl h
  ·exact .inr (.inl h)
  ·exact .inr (.inr (.inl h))
  ·exact .inr (.inr (.inr (.inl ⟨hs,kv,hv,hk.keep hb hS fun _ _ _ hx=>ih hx⟩)))
  ·exact .inr (.inr (.inr (.inr (.inl ⟨hs,nv,kv,hv,hn.keep hb hS,hk.keep hb hS fun _ _ _ hx=>ih hx⟩))))
  ·exact .inr (.inr (.inr (.inr (.inr ⟨hs,kv,hv,hk.keep hb hS fun _ _ _ hx=>ih hx⟩))))
theorem InnerT.iface {S:Nat->Prop} {w:World}:∀ {n:Nat} {t:T n} {v:Value},InnerT S w n t v->∃ u x,v=.iface u x:=by
 intro n
 cases n with
 | zero=>intro t v h;exact h.elim
 | succ n=>
  intro t v h
  rcases h with h|h|h|⟨hs,kv,hv,hk⟩|⟨hs,nv,kv,hv,hn,hk⟩|⟨hs,kv,hv,hk⟩
  ·exact⟨_,_,h.2⟩
  ·exact⟨_,_,h.2⟩
  ·exact⟨_,_,h.2⟩
  ·exact⟨_,_,hv⟩
  ·exact⟨_,_,hv⟩
  ·exact⟨_,_,hv⟩
theorem Tryz.info_at:(Tryz.prog.info? 133).map (fun i=>(i.zero,i.size,i.bytes))=some (some .nilIface,1,16):=by kernel_rfl
structure MadeTLoop (S:Nat->Prop) (M n:Nat) (ks:List (T n)) (w1:World) (k:Nat) (v:Value) (wr:World):Prop where
 below:Below M w1 wr
 row:∃ xs:List Value,wr.ownsRow M 133 1 v k xs/\∀ j (h:j<ks.length) (hx:j<xs.length),InnerT (fun b=>S b∨(M<=b/\b<wr.heap.size/\v.ownBlock≠some b)) wr n ks[j] xs[j]
theorem qyK {S:Nat->Prop} {M n:Nat} {ks:List (T n)} {w1 wr w2 w3:World} {k g cap:Nat} {v kv:Value} {xs:List Value} {box one:Obj} (h:MadeTLoop S M n ks w1 k v wr) (hk:k<ks.length) (hS:∀ b,S b->b<M) (hMr:M<=wr.heap.size)
  (hown:wr.ownsRow M 133 1 v k xs) (hxs:∀ j (h:j<ks.length) (hx:j<xs.length),InnerT (fun b=>S b∨(M<=b/\b<wr.heap.size/\v.ownBlock≠some b)) wr n ks[j] xs[j])
  (hb2:Below (wr.alloc box).heap.size (wr.alloc box) w2) (hin:InnerT (fun b=>S b∨((wr.alloc box).heap.size<=b/\b<w2.heap.size)) w2 n ks[k] kv)
  (hown':w3.ownsRow M 133 1 (.slice (some ⟨g,0,none⟩) (k+1) cap) (k+1) (xs++[kv])) (hgrow:(w2.alloc one).grownBy w3 v.ownBlock) (hat:v.ownBlock=some g∨g=w2.heap.size+1) :
  MadeTLoop S M n ks w1 (k+1) (.slice (some ⟨g,0,none⟩) (k+1) cap) w3:=by
 have aG:=hb2.size
 have aH:=hgrow.size
 simp at aH
 simp at aG
 have aA:∀ b,v.ownBlock=some b->M<=b/\b<wr.heap.size:=r1_lt hown
 have aI:xs.length=k:=by simpa using hown.1
 have q3:∀ b,b<w2.heap.size->v.ownBlock≠some b->w3.heap[b]?=w2.heap[b]?:=fun b hb hne=>by
  rw[hgrow.block b (by simp;omega) (fun e=>hne e.symm),Below.heap_alloc _ _ _ hb]
 have q2:∀ b,b<wr.heap.size->v.ownBlock≠some b->w3.heap[b]?=wr.heap[b]?:=fun b hb hno=>by
  rw[q3 b (by omega) hno,hb2.block b (by simp;omega),Below.heap_alloc _ _ _ hb]
 have aB:∀ b,v.ownBlock≠some b->b<w2.heap.size->(Value.slice (some ⟨g,0,none⟩) (k+1) cap).ownBlock≠some b:=by
  intro b h1 h2 e
  have e:g=b:=by simpa [Value.ownBlock] using e
  rcases hat with h3|h3
  ·exact h1 (by rw[h3,e])
  ·omega
 refine⟨⟨?_,?_,?_,by have:=h.below.size;omega,fun b hb=>?_⟩,xs++[kv],hown',fun j hj hx=>?_⟩
 ·rw[hgrow.os];exact hb2.os.trans h.below.os
 ·rw[hgrow.tape];exact hb2.tape.trans h.below.tape
 ·rw[hgrow.output];exact hb2.output.trans h.below.output
 ·rw[q2 b (by omega) (fun e=>by have:=aA b e;omega)];exact h.below.block b hb
 ·by_cases hjk:j<k
  ·have aE:j<xs.length:=by omega
   rw[List.getElem_append_left aE]
   refine (hxs j hj aE).keep (fun b hb=>?_) (fun b hb=>?_)
   ·rcases hb with hb|⟨aF,hb2,aD⟩
    ·have:=hS b hb
     exact q2 b (by omega) (fun e=>by have:=aA b e;omega)
    ·exact q2 b hb2 aD
   ·rcases hb with hb|⟨aF,hb2,aD⟩
    ·exact .inl hb
    ·exact .inr ⟨aF,by omega,aB b aD (by omega)⟩
  ·have aC:j=k:=by simp at hx;omega
   subst aC
   have:(xs++[kv])[j]=kv:=by simp[<- aI]
   rw[this]
   refine hin.keep (fun b hb=>?_) (fun b hb=>?_)
   ·rcases hb with hb|hb
    ·have:=hS b hb
     exact q3 b (by omega) (fun e=>by have:=aA b e;omega)
    ·simp at hb
     exact q3 b hb.2 (fun e=>by have:=aA b e;omega)
   ·rcases hb with hb|hb
    ·exact .inl hb
    ·simp at hb
     exact .inr ⟨by omega,by omega,aB b (fun e=>by have:=aA b e;omega) hb.2⟩
def qsO (S:Nat->Prop) (n:Nat) (t:T n) (w:World) (e:Ending) (w':World):Prop:=
 Below w.heap.size w w' /\ ∃ v,e=.returned v/\InnerT (fun b=>S b∨(w.heap.size<=b/\b<w'.heap.size)) w' n t v
def qjH (n:Nat):Prop:=∀ (S:Nat->Prop) (t:T n) (c0 c1 c2 c3 c4:Value) (d:Int) (w:World),TreeIn S w n t c0 c1 c2 c3 c4->(∀ b,S b->b<w.heap.size)->goodT n t d=true->cntT n t<=120 ->
 Calls Tryz.prog 147 #[.agg #[c0,c1,c2,c3,c4]] w (qsO S n t w)
theorem xiZ {n:Nat} {d:Int} (l:List (T n)) (h:l.all (fun x=>goodT n x d)=true):l.length<=sumL (fun x=>cntT n x) l:=by
 induction l with
 | nil=>simp
 | cons x r ih=>
  simp only[List.all_cons,Bool.and_eq_true]at h
  have h1:=qvT n x d h.1
  have h2:=ih h.2
  simp only[sumL,List.length_cons];omega
theorem qqC (n:Nat) (hn:qjH n) (S:Nat->Prop) (ks:List (T n)) (v:Value) (d:Int) (w:World) (hr:RowIn S w (TreeIn S w n) ks v) (hB:∀ b,S b->b<w.heap.size) (hg:ks.all (fun x=>goodT n x d)=true) (hc:1+sumL (fun x=>cntT n x) ks<=120) :
  Calls Tryz.prog 173 #[v] w fun e w'=>Below w.heap.size w w' /\ ∃ v',e=.returned v' /\ Row1 (fun b=>S b∨(w.heap.size<=b/\b<w'.heap.size)) w' (InnerT (fun b=>S b∨(w.heap.size<=b/\b<w'.heap.size)) w' n) ks v':=by
 obtain⟨ao,cap,rfl,aQ,aB⟩:=hr
 have bA:ks.length<=120:=by have:=xiZ ks hg;omega
 have aS:aG (∀ k (h:k<ks.length),goodT n ks[k] d=true/\cntT n ks[k]<=120):=by
  intro k h
  refine⟨List.all_eq_true.1 hg _ (List.getElem_mem h),?_⟩
  have:=qcB (fun x=>cntT n x) ks _ (List.getElem_mem h)
  omega
 clear hg hc aQ
 obtain⟨i0,hi,aJ,aK,aL⟩:=info_parts Tryz.info_at
 have HI:aG (_/\_/\_/\_):=⟨hi,aJ,aK,aL⟩
 clear hi aJ aK aL
 go_enter Tryz.func173,Tryz.ntmps173
 go_wp2_with fail
 go_loopw [3,8] (fun v i wr=>∃ k:Nat,k<=ks.length/\i=.int .i64 k/\MadeTLoop S w.heap.size n ks w k v wr) (fun _ i _=>ks.length - (intOf i).toNat)
 case atStart=>exact⟨0,Nat.zero_le _,rfl,Below.refl _ _,[],World.ownsRow_nil _ _ _ _,fun j _ hx=>absurd hx (Nat.not_lt_zero _)⟩
 case round=>
  obtain⟨k,hk,rfl,hL⟩:=hrel
  obtain⟨xs,aF,aV⟩:=hL.row
  obtain⟨va,vc,rfl⟩:=qhM aF
  have aA:=hL.below
  have aW:=aA.size
  have HL:=hidF hL
  have HX:=hidF aF
  have HK:=hidF aV
  clear hL aF aV
  by_cases aH:k<ks.length
  ·obtain⟨b,off,rfl,aY,aD⟩:=aB (by intro h;rw[h]at aH;simp at aH)
   obtain⟨y0,y1,y2,y3,y4,e0,e1,e2,e3,e4,hr⟩:=aD k aH
   have aI:=hB b aY
   have f0:=(aA.cell (p:=⟨b,off+k*5,none⟩) aI).trans e0
   have f1:=(aA.cell (p:=⟨b,off+k*5+1,none⟩) aI).trans e1
   have f2:=(aA.cell (p:=⟨b,off+k*5+2,none⟩) aI).trans e2
   have f3:=(aA.cell (p:=⟨b,off+k*5+3,none⟩) aI).trans e3
   have f4:=(aA.cell (p:=⟨b,off+k*5+4,none⟩) aI).trans e4
   have q:=hr.keep (qaB aA hB) (fun _ h=>h)
   obtain⟨z0,z1,z2,za,zl,zc,ua,ul,uc,rfl,rfl,rfl,rfl,rfl⟩:=q.shape
   clear aB aD e0 e1 e2 e3 e4 hr
   have aT:=(Below.refl wr.heap.size wr).alloc (Nat.le_refl _) (.cells #[.int .i64 z0,.int .i64 z1,.string z2,.slice za zl zc,.slice ua ul uc] 67)
   have q5:=q.keep (qaB aT (fun b hb=>by have:=hB b hb;omega)) (fun _ h=>h)
   have HC:aG (Calls Tryz.prog 147 _ _ _):=hn S ks[k] _ _ _ _ _ d _ q5 (fun b hb=>by have:=hB b hb;simp;omega) (aS.out k aH).1 (aS.out k aH).2
   clear q q5 aT
   go_wp2_with fail
   refine HC.out.mono ?_
   rintro e w2 ⟨aN,kv,rfl,aR⟩
   obtain⟨ku,kx,rfl⟩:=aR.iface
   have aX:wr.heap.size+1<=w2.heap.size:=by have:=aN.size;simpa using this
   have aU:aG (w2.ownsRow w.heap.size 133 1 (.slice va k vc) k xs):=qbG HX.out (fun g' hg'=>by have:=r1_lt HX.out g' hg';exact (aN.block g' (by simp;omega)).trans (Below.heap_alloc _ _ _ this.2))
   have aO:aG (_/\_):=⟨aN,aR⟩
   clear aN aR f0 f1 f2 f3 f4 HC
   go_wp2_with (at_builtin;refine wpList_append_lies _ rfl (.tmp 12) (.tmp 15) 169 rfl w.heap.size 133 i0 .nilIface 1 16 Tryz.underlying169 HI.out.1 HI.out.2.1 HI.out.2.2.1 HI.out.2.2.2 rfl (by decide) (.slice va k vc) k xs rfl (aU.out.alloc _) ⟨w2.heap.size,0,none⟩ 1 1 [.iface ku kx] rfl rfl (World.news_of_block (heap_alloc_new w2 _)) (by simp[Value.oneCell']) (by decide) (by unfold maxLen;omega) (by omega) (by simp;omega) (w2.heap.size+1) (by simp) ?_;intro g cap w3 aE aC aM aZ;refine aG.out ?_)
   refine Lib.hid ?_
   have HF:aG (MadeTLoop S w.heap.size n ks w (k+1) (.slice (some ⟨g,0,none⟩) (k+1) cap) w3):=qyK HL.out aH hB aW HX.out HK.out aO.out.1 aO.out.2 aE aC aM
   clear aE aC aM aO aU HX HK HL
   go_wp2_with fail
   go_roundw
   case rel=>exact⟨k+1,by omega,by go_num,HF.out⟩
   case measure=>simp[intOf];omega
  ·have aP:k=ks.length:=by omega
   have HP:aG (Below w.heap.size w wr/\Row1 (fun b=>S b∨(w.heap.size<=b/\b<wr.heap.size)) wr (InnerT (fun b=>S b∨(w.heap.size<=b/\b<wr.heap.size)) wr n) ks (.slice va k vc)):=by
    refine⟨aA,?_⟩
    have h1:=HX.out
    rw[aP]at h1 ⊢
    refine qgW h1 (by unfold maxLen;omega) (fun g hg=>.inr (r1_lt h1 g hg)) (fun i hi hx=>?_)
    have:=HK.out i hi hx
    rw[aP]at this
    exact this.keep (fun _ _=>rfl) (fun b hb=>hb.elim .inl (fun h=>.inr ⟨h.1,h.2.1⟩))
   clear aP aB HX HK HL
   go_wp2_with fail
   go_ret
   exact⟨HP.out.1,_,rfl,HP.out.2⟩
end Go.Proofs.YtelogmjfekhmpaaGreatDoor
