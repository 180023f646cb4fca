import Derived.Test.YtelogmjfekhmpaaGreatDoorKInner
import Derived.Deep.RegionLaw
namespace Go.Proofs.YtelogmjfekhmpaaGreatDoor
set_option maxRecDepth 100000
set_option maxHeartbeats 16000000
open Go.RowKit Go.WideMaps Go.Maps
theorem Tryz.info_pk:(Tryz.prog.info? 148).map (fun i=>(i.zero,i.size,i.bytes))=some (some (.pointer none),1,8):=by kernel_rfl
structure MadeLoop (S:Nat->Prop) (M n:Nat) (ks:List (K n)) (s:Int) (nv:Value) (w1:World) (k:Nat) (v:Value) (wr:World):Prop where
 below:Below M w1 wr
 box:wr.heap[M]?=some (.cells #[.int .i64 s,nv,.map none,v] 185 (0,0))
 row:∃ xs:List Value,wr.ownsRow (M+1) 148 1 v k xs/\∀ j (h:j<ks.length) (hx:j<xs.length),InnerK (fun b=>S b∨(M+1<=b/\b<wr.heap.size/\v.ownBlock≠some b)) wr n ks[j] xs[j]
theorem MadeLoop.lt {S:Nat->Prop} {M n:Nat} {ks:List (K n)} {s:Int} {nv:Value} {w1:World} {k:Nat} {v:Value} {wr:World} (h:MadeLoop S M n ks s nv w1 k v wr):M<wr.heap.size:=(Array.getElem?_eq_some_iff.1 h.box).1
theorem xcT {S:Nat->Prop} {M n:Nat} {ks:List (K n)} {s:Int} {nv:Value} {w1 wr W w2 w3:World} {k g cap:Nat} {v kv:Value} {xs:List Value} {box one:Obj} (h:MadeLoop S M n ks s nv w1 k v wr) (hk:k<ks.length) (hS:∀ b,S b->b<M) (_hM:M<=w1.heap.size)
  (hW:∀ b:Nat,W.heap[b]?=(wr.alloc box).heap[b]?) (hWs:W.heap.size=wr.heap.size+1) (hWo:W.os=wr.os/\W.tape=wr.tape/\W.output=wr.output)
  (hown:wr.ownsRow (M+1) 148 1 v k xs) (hxs:∀ j (h:j<ks.length) (hx:j<xs.length),InnerK (fun b=>S b∨(M+1<=b/\b<wr.heap.size/\v.ownBlock≠some b)) wr n ks[j] xs[j])
  (hb2:Below W.heap.size W w2) (hin:InnerK (fun b=>S b∨(W.heap.size<=b/\b<w2.heap.size)) w2 n ks[k] kv)
  (hown':w3.ownsRow (M+1) 148 1 (.slice (some ⟨g,0,none⟩) (k+1) cap) (k+1) (xs++[kv])) (hgrow:(w2.alloc one).grownBy w3 v.ownBlock) (hat:v.ownBlock=some g∨g=w2.heap.size+1) :
  MadeLoop S M n ks s nv w1 (k+1) (.slice (some ⟨g,0,none⟩) (k+1) cap) (w3.setCell ⟨M,3,none⟩ (.slice (some ⟨g,0,none⟩) (k+1) cap)):=by
 have aI:=h.lt
 have aM:=hb2.size
 have aJ:=hgrow.size
 simp at aJ
 have aA:∀ b,v.ownBlock=some b->M+1<=b/\b<wr.heap.size:=r1_lt hown
 have aK:xs.length=k:=by simpa using hown.1
 have q3:∀ b,b<w2.heap.size->v.ownBlock≠some b->w3.heap[b]?=w2.heap[b]?:=fun b hb hne=>by
  rw[hgrow.block b (by simp;omega) (fun e=>hne e.symm),Below.heap_alloc _ _ _ hb]
 have q2:∀ b,b<wr.heap.size->v.ownBlock≠some b->w3.heap[b]?=wr.heap[b]?:=fun b hb hno=>by
  rw[q3 b (by omega) hno,hb2.block b (by omega),hW,Below.heap_alloc _ _ _ hb]
 have qs:∀ b,b≠M->(w3.setCell ⟨M,3,none⟩ (.slice (some ⟨g,0,none⟩) (k+1) cap)).heap[b]?=w3.heap[b]?:=fun b hb=>Below.heap_setCell _ _ _ _ hb
 have aD:(w3.setCell ⟨M,3,none⟩ (.slice (some ⟨g,0,none⟩) (k+1) cap)).heap.size=w3.heap.size:=by simp
 have aL:v.ownBlock≠some M:=fun e=>by have:=aA M e;omega
 have aB:=(q2 M aI aL).trans h.box
 have aC:∀ b,v.ownBlock≠some b->b<w2.heap.size->(Value.slice (some ⟨g,0,none⟩) (k+1) cap).ownBlock≠some b:=by
  intro b h1 h2 e
  have e:g=b:=by simpa [Value.ownBlock] using e
  rcases hat with h3|h3
  ·exact h1 (by rw[h3,e])
  ·omega
 refine⟨⟨?_,?_,?_,by rw[aD];have:=h.below.size;omega,fun b hb=>?_⟩,?_,xs++[kv],?_,fun j hj hx=>?_⟩
 ·show w3.os=w1.os
  rw[hgrow.os];exact hb2.os.trans (hWo.1.trans h.below.os)
 ·show w3.tape=w1.tape
  rw[hgrow.tape];exact hb2.tape.trans (hWo.2.1.trans h.below.tape)
 ·show w3.output=w1.output
  rw[hgrow.output];exact hb2.output.trans (hWo.2.2.trans h.below.output)
 ·rw[qs b (by omega),q2 b (by omega) (fun e=>by have:=aA b e;omega)];exact h.below.block b hb
 ·simp[World.setCell,Array.getElem?_modify,aB]
 ·exact qbG hown' fun g' hg'=>qs g' (by have:=r1_lt hown' g' hg';omega)
 ·by_cases hjk:j<k
  ·have aG:j<xs.length:=by omega
   rw[List.getElem_append_left aG]
   refine (hxs j hj aG).keep (fun b hb=>?_) (fun b hb=>?_)
   ·rcases hb with hb|⟨aH,hb2,aF⟩
    ·have:=hS b hb
     rw[qs b (by omega),q2 b (by omega) (fun e=>by have:=aA b e;omega)]
    ·rw[qs b (by omega),q2 b hb2 aF]
   ·rcases hb with hb|⟨aH,hb2,aF⟩
    ·exact .inl hb
    ·exact .inr ⟨aH,by rw[aD];omega,aC b aF (by omega)⟩
  ·have aE:j=k:=by simp at hx;omega
   subst aE
   have:(xs++[kv])[j]=kv:=by simp[<- aK]
   rw[this]
   refine hin.keep (fun b hb=>?_) (fun b hb=>?_)
   ·rcases hb with hb|hb
    ·have:=hS b hb
     rw[qs b (by omega),q3 b (by omega) (fun e=>by have:=aA b e;omega)]
    ·rw[qs b (by omega),q3 b hb.2 (fun e=>by have:=aA b e;omega)]
   ·rcases hb with hb|hb
    ·exact .inl hb
    ·exact .inr ⟨by omega,by rw[aD];omega,aC b (fun e=>by have:=aA b e;omega) hb.2⟩
theorem xcU {n:Nat} {d:Int} (l:List (K n)) (h:l.all (fun x=>goodK n x d)=true):l.length<=sumL (fun x=>cntK n x) l:=by
 induction l with
 | nil=>simp
 | cons x r ih=>
  simp only[List.all_cons,Bool.and_eq_true]at h
  have h1:=qvW n x d h.1
  have h2:=ih h.2
  simp only[sumL,List.length_cons];omega
def qlI (S:Nat->Prop) (n:Nat) (t:K n) (w:World) (e:Ending) (w':World):Prop:=
 Below w.heap.size w w' /\ ∃ v,e=.returned v/\InnerK (fun b=>S b∨(w.heap.size<=b/\b<w'.heap.size)) w' n t v
def qpV (n:Nat):Prop:=∀ (S:Nat->Prop) (t:K n) (c0 c1 c2:Value) (d:Int) (w:World),KindIn S w n t c0 c1 c2->(∀ b,S b->b<w.heap.size)->goodK n t d=true->cntK n t<=40 ->
 Calls Tryz.prog 145 #[.agg #[c0,c1,c2]] w (qlI S n t w)
theorem qwM {S:Nat->Prop} {w w1 wr w':World} {n:Nat} {t:K (n+1)} {s:Int} {v nv pv:Value} (hs:Kd.sort t=s) (hL:MadeLoop S (w.heap.size+1) n (Kd.kids t) s nv w1 (Kd.kids t).length v wr) (hB:∀ b,S b->b<w.heap.size) (hw1:Below w.heap.size w w1)
  (hl:(Kd.kids t).length<=maxLen) (hbox:w'.heap[w.heap.size+1]?=some (.cells #[.int .i64 s,nv,pv,v] 185 (0,0))) (hsz:wr.heap.size<=w'.heap.size)
  (hk:∀ b:Nat,b<wr.heap.size->b≠w.heap.size+1->w'.heap[b]?=wr.heap[b]?) (ho:w'.os=wr.os/\w'.tape=wr.tape/\w'.output=wr.output) (hn:StrsIn S wr (Kd.names t) nv)
  (hp:s=5->PlacesIn (fun b=>w.heap.size<=b/\b<w'.heap.size) w' (Kd.names t) pv):qlI S (n+1) t w (.returned (.pointer (some ⟨w.heap.size+1,0,none⟩))) w':=by
 have aG:=hL.lt
 obtain⟨xs,aB,aD⟩:=hL.row
 have aH:=hw1.size
 refine⟨⟨ho.1.trans (hL.below.os.trans hw1.os),ho.2.1.trans (hL.below.tape.trans hw1.tape),ho.2.2.trans (hL.below.output.trans hw1.output),by omega,fun b hb=>?_⟩,_,rfl,w.heap.size+1,nv,pv,v,rfl,.inr ⟨by omega,by omega⟩,by rw[hs];exact hbox,?_,fun h5=>(hp (by rw[<- hs];exact h5)).keep (fun _ _=>rfl) (fun b hb=>.inr hb),?_⟩
 ·rw[hk b (by omega) (by omega),hL.below.block b (by omega)];exact hw1.block b hb
 ·exact hn.keep (fun b hb=>hk b (by have:=hB b hb;omega) (by have:=hB b hb;omega)) (fun b hb=>.inl hb)
 ·have aA:=qbG (w':=w') aB (fun g hg=>hk g (r1_lt aB g hg).2 (by have:=r1_lt aB g hg;omega))
  refine qgW aA hl (fun g hg=>.inr ?_) (fun i hi hx=>?_)
  ·have:=r1_lt aA g hg;omega
  ·refine (aD i hi hx).keep (fun b hb=>?_) (fun b hb=>?_)
   ·rcases hb with hb|⟨aE,aC,aF⟩
    ·exact hk b (by have:=hB b hb;omega) (by have:=hB b hb;omega)
    ·exact hk b aC (by omega)
   ·rcases hb with hb|⟨aE,aC,aF⟩
    ·exact .inl hb
    ·exact .inr ⟨by omega,by omega⟩
theorem xcV (n:Nat) (hn:qpV n):qpV (n+1):=by
 intro S t c0 c1 c2 d w ht hB hg hc
 obtain⟨rfl,-,h3,h4⟩:=ht
 obtain⟨na,nc,rfl,-,-,-⟩:=id h3
 obtain⟨ka,kc,rfl,aP,-⟩:=id h4
 simp only[goodK,Bool.and_eq_true]at hg
 have bJ:(Kd.kids t).length<=40:=by have:=xcU (Kd.kids t) hg.2;simp only[cntK]at hc;omega
 have aS:Hid (∀ k (h:k<(Kd.kids t).length),goodK n (Kd.kids t)[k] (d+1)=true/\cntK n (Kd.kids t)[k]<=40):=by
  intro k h
  refine⟨List.all_eq_true.1 hg.2 _ (List.getElem_mem h),?_⟩
  have:=qcB (fun x=>cntK n x) (Kd.kids t) _ (List.getElem_mem h)
  simp only[cntK]at hc;omega
 clear hg hc
 unfold maxLen at aP
 generalize hs:Kd.sort t=s at *
 have HS:Hid (Kd.sort t=s):=hs
 clear hs
 have aK:Below w.heap.size w ((w.alloc (.cells #[.int .i64 s,.slice na (Kd.names t).length nc,.slice ka (Kd.kids t).length kc] 55)).alloc (.cells #[.int .i64 s,.slice na (Kd.names t).length nc,.map none,.slice none 0 0] 185)):=
  ((Below.refl _ _).alloc (Nat.le_refl _) _).alloc (by simp) _
 have bB:=h3.keep (qaB aK hB) (fun _ h=>h)
 have bC:=h4.keepK (qaB aK hB) (fun _ h=>h)
 have aN:((w.alloc (.cells #[.int .i64 s,.slice na (Kd.names t).length nc,.slice ka (Kd.kids t).length kc] 55)).alloc (.cells #[.int .i64 s,.slice na (Kd.names t).length nc,.map none,.slice none 0 0] 185)).heap[w.heap.size+1]? =
   some (.cells #[.int .i64 s,.slice na (Kd.names t).length nc,.map none,.slice none 0 0] 185 (0,0)):=by
  have:=heap_alloc_new (w.alloc (.cells #[.int .i64 s,.slice na (Kd.names t).length nc,.slice ka (Kd.kids t).length kc] 55)) (.cells #[.int .i64 s,.slice na (Kd.names t).length nc,.map none,.slice none 0 0] 185)
  simpa using this
 have k0:((w.alloc (.cells #[.int .i64 s,.slice na (Kd.names t).length nc,.slice ka (Kd.kids t).length kc] 55)).alloc (.cells #[.int .i64 s,.slice na (Kd.names t).length nc,.map none,.slice none 0 0] 185)).cell? ⟨w.heap.size,0,none⟩=some (.int .i64 s):=by simp[go_sem]
 have k1:((w.alloc (.cells #[.int .i64 s,.slice na (Kd.names t).length nc,.slice ka (Kd.kids t).length kc] 55)).alloc (.cells #[.int .i64 s,.slice na (Kd.names t).length nc,.map none,.slice none 0 0] 185)).cell? ⟨w.heap.size,1,none⟩=some (.slice na (Kd.names t).length nc):=by simp[go_sem]
 have bD:((w.alloc (.cells #[.int .i64 s,.slice na (Kd.names t).length nc,.slice ka (Kd.kids t).length kc] 55)).alloc (.cells #[.int .i64 s,.slice na (Kd.names t).length nc,.map none,.slice none 0 0] 185)).heap.size=w.heap.size+1+1:=by simp
 obtain⟨_,_,bG,-,aE⟩:=bC
 cases bG
 clear h3 h4
 go_enter Tryz.func145,Tryz.ntmps145
 go_wp2_with fail
 generalize ((w.alloc (.cells #[.int .i64 s,.slice na (Kd.names t).length nc,.slice ka (Kd.kids t).length kc] 55)).alloc (.cells #[.int .i64 s,.slice na (Kd.names t).length nc,.map none,.slice none 0 0] 185))=w1 at *
 have bE:Hid (∀ b,S b->b<w.heap.size+1):=fun b hb=>by have:=hB b hb;omega
 go_loopw [15] (fun i wr=>∃ (k:Nat) (v:Value),k<=(Kd.kids t).length/\i=.int .i64 k/\MadeLoop S (w.heap.size+1) n (Kd.kids t) s (.slice na (Kd.names t).length nc) w1 k v wr) (fun i _=>(Kd.kids t).length - (intOf i).toNat)
 case atStart=>exact⟨0,.slice none 0 0,Nat.zero_le _,rfl,Below.refl _ _,aN,[],World.ownsRow_nil _ _ _ _,fun j _ hx=>absurd hx (Nat.not_lt_zero _)⟩
 case round=>
  obtain⟨k,v,hk,rfl,hL⟩:=hrel
  obtain⟨xs,aC,aW⟩:=hL.row
  obtain⟨va,vc,rfl⟩:=qhM aC
  have hX:=hL.lt
  have aA:=hL.below
  have bK:=aA.size
  have HL:=hidF hL
  have HX:=hidF aC
  have HK:=hidF aW
  have x3:wr.cell? ⟨w.heap.size+1,3,none⟩=some (.slice va k vc):=by simp[World.cell?,hL.box]
  have xf:∀ o,wr.frozen? ⟨w.heap.size+1,o,none⟩=false:=fun o=>by simp[World.frozen?,hL.box]
  have j0:=(aA.cell (p:=⟨w.heap.size,0,none⟩) (by show w.heap.size<_;omega)).trans k0
  have j1:=(aA.cell (p:=⟨w.heap.size,1,none⟩) (by show w.heap.size<_;omega)).trans k1
  clear hL aC aW
  by_cases aI:k<(Kd.kids t).length
  ·obtain⟨b,off,rfl,bH,aG⟩:=aE (by intro h;rw[h]at aI;simp at aI)
   obtain⟨y0,y1,y2,e0,e1,e2,hr⟩:=aG k aI
   have bL:=hB b bH
   have f0:=(aA.cell (p:=⟨b,off+k*3,none⟩) (by show b<_;omega)).trans e0
   have f1:=(aA.cell (p:=⟨b,off+k*3+1,none⟩) (by show b<_;omega)).trans e1
   have f2:=(aA.cell (p:=⟨b,off+k*3+2,none⟩) (by show b<_;omega)).trans e2
   have q:=hr.keep (qaB aA (fun b hb=>by have:=hB b hb;omega)) (fun _ h=>h)
   obtain⟨z0,za,zl,zc,ua,ul,uc,rfl,rfl,rfl⟩:=q.shape
   clear aE aG e0 e1 e2 hr
   have aT:=(Below.refl wr.heap.size wr).alloc (Nat.le_refl _) (.cells #[.int .i64 z0,.slice za zl zc,.slice ua ul uc] 55)
   have q5:=q.keep (w':=(wr.alloc (.cells #[.int .i64 z0,.slice za zl zc,.slice ua ul uc] 55)).drew) (qaB aT.drew (fun b hb=>by have:=hB b hb;omega)) (fun _ h=>h)
   have HC:Hid (Calls Tryz.prog 145 _ _ _):=hn S (Kd.kids t)[k] _ _ _ (d+1) _ q5 (fun b hb=>by have:=hB b hb;simp;omega) (aS.out k aI).1 (aS.out k aI).2
   obtain⟨i0,aX,aY,aZ,aM⟩:=info_parts Tryz.info_pk
   have aL:Hid (_/\_/\_/\_):=⟨aX,aY,aZ,aM⟩
   clear aX aY aZ aM q q5 aT
   go_wp2_with fail
   go_region_law (first
    | (refine step_append_lies _ (by rfl) (.tmp 23) (.tmp 26) 183 (by rfl) (w.heap.size+1+1) 148 i0 _ 1 8 Tryz.underlying183 aL.out.1 aL.out.2.1 aL.out.2.2.1 aL.out.2.2.2 rfl (by decide) (.slice va k vc) k xs (by rfl) aU ⟨w2.heap.size,0,none⟩ 1 1 [.pointer (some ⟨kb,0,none⟩)] (by rfl) rfl (World.news_of_block (heap_alloc_new w2 _)) (by simp[Value.oneCell']) (by decide) (by unfold maxLen;omega) (by omega) (by simp;omega) (w2.heap.size+1) (by simp) ?_;intro g cap w3 aC aF bA bI;have aO:=((aF.block (w.heap.size+1) (by simp;omega) (fun e=>by have:=r1_lt HX.out _ e.symm;omega)).trans (Below.heap_alloc _ _ _ (by omega))).trans aB;have x3'':w3.cell? ⟨w.heap.size+1,3,none⟩=some (.slice va k vc):=(by simp[World.cell?,aO]);have xf'':∀ o,w3.frozen? ⟨w.heap.size+1,o,none⟩=false:=(fun o=>by simp[World.frozen?,aO]))
    | (go_simp;go_at_call 145;refine HC.out.mono ?_;rintro e w2 ⟨aD,kv,rfl,aQ⟩;obtain⟨kb,rfl,-⟩:=aQ.ptr;have bF:wr.heap.size+1<=w2.heap.size:=(by have:=aD.size;simpa using this);have aB:=((aD.block (w.heap.size+1) (by simp;omega)).trans (Below.heap_alloc _ _ _ (by omega))).trans HL.out.box;have aU:=qbG (w':=w2.alloc (.cells #[.pointer (some ⟨kb,0,none⟩)] 148)) HX.out (fun g' hg'=>by have:=r1_lt HX.out g' hg';rw[Below.heap_alloc _ _ _ (by omega)];exact (aD.block g' (by simp;omega)).trans (Below.heap_alloc _ _ _ this.2));have x3':w2.cell? ⟨w.heap.size+1,3,none⟩=some (.slice va k vc):=(by simp[World.cell?,aB]);have x3a:(w2.alloc (.cells #[.pointer (some ⟨kb,0,none⟩)] 148)).cell? ⟨w.heap.size+1,3,none⟩=some (.slice va k vc):=(World.cell?_of_block (Below.heap_alloc _ _ _ (by show w.heap.size+1<_;omega))).trans x3'))
   all_goals
    have HF:Hid (MadeLoop S (w.heap.size+1) n (Kd.kids t) s (.slice na (Kd.names t).length nc) w1 (k+1) (.slice (some ⟨g,0,none⟩) (k+1) cap) (w3.setCell ⟨w.heap.size+1,3,none⟩ (.slice (some ⟨g,0,none⟩) (k+1) cap))):=
     xcT (W:=(wr.alloc (.cells #[.int .i64 z0,.slice za zl zc,.slice ua ul uc] 55)).drew) HL.out aI bE.out (by omega) (fun _=>rfl) (by simp) ⟨rfl,rfl,rfl⟩ HX.out HK.out aD aQ aC aF bA
    clear aC aF bA aQ aD aU x3' x3a x3'' xf'' aO aB
    go_wp2_with fail
    go_roundw
    case rel=>exact⟨k+1,_,by omega,by go_num,HF.out⟩
    case measure=>simp[intOf];omega
  ·have aV:k=(Kd.kids t).length:=by omega
   have aJ:=bB.keep (qaB aA (fun b hb=>by have:=hB b hb;omega)) (fun _ h=>h)
   have aH:Hid (MadeLoop S (w.heap.size+1) n (Kd.kids t) s (.slice na (Kd.names t).length nc) w1 (Kd.kids t).length (.slice va k vc) wr):=by
    have:=HL.out
    rw[aV]at this ⊢
    exact this
   clear aV aE HX HK HL
   by_cases h5:s=5
   ·subst h5
    have HC:Hid (Calls Tryz.prog 172 _ _ _):=qsG S (Kd.names t) (.slice na (Kd.names t).length nc) wr aJ (fun b hb=>by have:=hB b hb;omega)
    go_wp2_with fail
    refine HC.out.mono ?_
    rintro e w2 ⟨pv,rfl,aR,aD⟩
    have aM:=aD.size
    obtain⟨mb,rfl,bN,-⟩:=id aR
    have aB:=(aD.block (w.heap.size+1) hX).trans aH.out.box
    have xf2:w2.frozen? ⟨w.heap.size+1,2,none⟩=false:=by simp[World.frozen?,aB]
    have x22:w2.cell? ⟨w.heap.size+1,2,none⟩=some (.map none):=by simp[World.cell?,aB]
    have qs:∀ b,b≠w.heap.size+1->(w2.setCell ⟨w.heap.size+1,2,none⟩ (.map (some mb))).heap[b]?=w2.heap[b]?:=fun b hb=>Below.heap_setCell _ _ _ _ hb
    have HP:Hid (qlI S (n+1) t w (.returned (.pointer (some ⟨w.heap.size+1,0,none⟩))) (w2.setCell ⟨w.heap.size+1,2,none⟩ (.map (some mb)))):=by
     refine qwM (pv:=.map (some mb)) HS.out aH.out hB aK (by unfold maxLen;omega) ?_ (by simpa using aM) (fun b hb hne=>?_) ⟨aD.os,aD.tape,aD.output⟩ aJ (fun _=>aR.keep (fun b hb=>qs b (by omega)) (fun b hb=>⟨by omega,by simpa using hb.2⟩))
     ·simp[World.setCell,Array.getElem?_modify,aB]
     ·rw[qs b hne];exact aD.block b hb
    clear HC aR aD aB qs aH aJ
    go_wp2_with fail
    go_ret
    exact HP.out
   ·have bM:(s==5)=false:=by simpa using h5
    have HP:Hid (qlI S (n+1) t w (.returned (.pointer (some ⟨w.heap.size+1,0,none⟩))) wr):=
     qwM HS.out aH.out hB aK (by unfold maxLen;omega) aH.out.box (Nat.le_refl _) (fun _ _ _=>rfl) ⟨rfl,rfl,rfl⟩ aJ (fun h=>absurd h h5)
    clear aH aJ h5
    go_wp2_with fail
    go_ret
    exact HP.out
theorem xgM:∀ n,qpV n:=by
 intro n
 induction n with
 | zero=>intro S t c0 c1 c2 d w ht;exact ht.elim
 | succ n ih=>exact xcV n ih
def FaceK (S:Nat->Prop) (n:Nat) (t:K n) (w:World) (e:Ending) (w':World):Prop:=
 Below w.heap.size w w' /\ ((okK n t=true/\∃ v,e=.returned (.tuple #[v,.bool true])/\InnerK (fun b=>S b∨(w.heap.size<=b/\b<w'.heap.size)) w' n t v)∨(okK n t=false/\e=.returned (.tuple #[.pointer none,.bool false])))
theorem qpW (n:Nat) (S:Nat->Prop) (t:K n) (c0 c1 c2:Value) (w:World) (ht:KindIn S w n t c0 c1 c2) (hB:∀ b,S b->b<w.heap.size) :
  Calls Tryz.prog 113 #[.agg #[c0,c1,c2]] w (FaceK S n t w):=by
 obtain⟨x0,xa,xl,xc,ya,yl,yc,rfl,rfl,rfl⟩:=ht.shape
 have aC:=(Below.refl w.heap.size w).alloc (Nat.le_refl _) (.cells #[.int .i64 x0,.slice xa xl xc,.slice ya yl yc] 55)
 have aG:=Box3.new w (.int .i64 x0) (.slice xa xl xc) (.slice ya yl yc) 55
 obtain⟨aD,aE⟩:=ht.step hB aC
 clear ht
 go_enter Tryz.func113,Tryz.ntmps113
 go_wp2_with fail
 refine (quQ n S t _ _ _ _ aD aE).mono ?_
 rintro e w1 ⟨rfl,aB⟩
 have aA:=qaA aC (by simp) aB
 obtain⟨aH,aI⟩:=aD.step aE aB
 obtain⟨k0,k1,k2⟩:=aG.keep aB
 have aL:=aA.size
 clear aC aB aG aD aE
 cases hok:okK n t with
 | false=>
  have HP:Hid (FaceK S n t w (.returned (.tuple #[.pointer none,.bool false])) w1):=⟨aA,.inr ⟨hok,rfl⟩⟩
  clear hok
  go_wp2_with fail
  go_ret2
  exact HP.out
 | true=>
  have aK:Hid (okK n t=true):=hok
  simp only[okK,Bool.and_eq_true,decide_eq_true_eq]at hok
  have HC:Hid (Calls Tryz.prog 145 _ _ _):=xgM n S t _ _ _ 1 w1 aH aI hok.1 hok.2
  clear hok aH aI
  go_wp2_with fail
  refine HC.out.mono ?_
  rintro e w2 ⟨aJ,v,rfl,aF⟩
  obtain⟨kb,rfl,-⟩:=id aF.ptr
  have HP:Hid (FaceK S n t w (.returned (.tuple #[.pointer (some ⟨kb,0,none⟩),.bool true])) w2):=
   ⟨qaA aA aA.size aJ,.inl ⟨aK.out,_,rfl,aF.keep (fun _ _=>rfl) (fun b hb=>hb.elim .inl (fun h=>.inr ⟨by omega,h.2⟩))⟩⟩
  clear aJ aF HC
  go_wp2_with fail
  go_ret2
  exact HP.out
end Go.Proofs.YtelogmjfekhmpaaGreatDoor
