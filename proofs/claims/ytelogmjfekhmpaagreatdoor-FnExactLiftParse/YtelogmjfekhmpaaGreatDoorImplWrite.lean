import Derived.Test.YtelogmjfekhmpaaGreatDoorImplText4
namespace Go.Proofs.YtelogmjfekhmpaaGreatDoor
set_option maxRecDepth 100000
set_option maxHeartbeats 16000000
open Go.RowKit
theorem xhJ (n:Nat) (hn:qkJ n):qkJ (n+1):=by
 intro B w0 w v l t iv d hb h hg hc hl hT
 have aA:=hg
 simp only[goodT,Bool.and_eq_true]at aA
 have ha:qaQ (Nd.sort t) (Nd.num t) (Nd.text t) (Nd.names t) (Nd.kids t).length=true:=aA.1.2
 have aC:1+sumL (fun x=>cntT n x) (Nd.kids t)<=120:=by simpa only[cntT] using hc
 unfold qaQ at ha
 simp only[txtL]at hl ⊢
 rcases h with ⟨hs,rfl⟩|⟨hs,rfl⟩|⟨hs,rfl⟩|⟨hs,kv,rfl,hk⟩|⟨hs,nv,kv,rfl,aD,hk⟩|⟨hs,kv,rfl,hk⟩
 ·rw[if_pos hs]at ha hl ⊢
  simp only[Bool.and_eq_true,decide_eq_true_eq]at ha
  exact qnV B w0 w v l _ hb ha.1.1.1.1 ha.1.1.1.2 (by omega) hT
 ·rw[if_neg (by omega),if_pos hs]at ha hl ⊢
  simp only[Bool.and_eq_true,textB,decide_eq_true_eq]at ha
  exact qmV B w0 w v l _ hb ha.1.1.2.1 (by omega)
 ·rw[if_neg (by omega),if_neg (by omega),if_pos hs]at hl ⊢
  have:=qmW B w0 w v l (Nd.num t==1) hb (by omega)
  simpa using this
 ·rw[if_neg (by omega),if_neg (by omega),if_neg (by omega),if_neg (by omega),if_neg (by omega)]at hl ⊢
  obtain⟨ka,kc,rfl,-⟩:=id hk
  simp only[List.length_append,List.length_cons,List.length_nil]at hl
  exact qmX B w0 w v l _ _ _ _ hb (qnT n hn B w0 w v l (Nd.kids t) _ (d+1) hb hk aA.2 aC (by omega) hT)
 ·rw[if_neg (by omega),if_neg (by omega),if_neg (by omega),if_neg (by omega),if_pos hs]at hl ⊢
  rw[if_neg (by omega),if_neg (by omega),if_neg (by omega),if_neg (by omega),if_pos hs]at ha
  simp only[Bool.and_eq_true,beq_iff_eq]at ha
  obtain⟨ka,kc,rfl,-⟩:=id hk
  obtain⟨na,nc,rfl,-⟩:=id aD
  simp only[List.length_append,List.length_cons,List.length_nil]at hl
  have aB:=(Below.refl B w).alloc hb.le (.cells #[.slice na (Nd.names t).length nc,.slice ka (Nd.kids t).length kc] 173)
  exact qmY B w0 w v l _ _ _ _ _ _ _ hb (qnU n hn B w0 _ v l (Nd.names t) _ (Nd.kids t) _ (d+1) (aD.keep (qaB aB (fun _ h=>h)) (fun _ h=>h)) (by omega) (qfA _ ha.2) (hb.alloc _)
   (hk.keep (qaB aB (fun _ h=>h)) (fun _ h=>h) (fun _ _ _ hx=>hx.keep (qaB aB (fun _ h=>h)) (fun _ h=>h))) aA.2 aC (by omega) (hT.on aB))
 ·rw[if_neg (by omega),if_neg (by omega),if_neg (by omega),if_pos hs]at hl ⊢
  obtain⟨ka,kc,rfl,-⟩:=id hk
  exact qkZ B w0 w v l _ _ _ _ hb (qmU n hn B w0 w v l (Nd.kids t) _ (d+1) hb hk aA.2 aC (by omega) hT)
theorem qnW:∀ n,qkJ n:=by
 intro n
 induction n with
 | zero=>intro B w0 w v l t iv d hb h;exact h.elim
 | succ n ih=>exact xhJ n ih
theorem xjP:∀ (n:Nat) (t:T n) (d:Int),goodT n t d=true->txtL n t≠[]:=by
 intro n t d h
 cases n with
 | zero=>simp[goodT]at h
 | succ n=>
  simp only[txtL]
  by_cases h1:Nd.sort t=1
  ·rw[if_pos h1]
   intro e
   have:(Lib.itoa (Nd.num t)).length=0:=by rw[e];rfl
   unfold Lib.itoa at this
   split at this
   ·simp at this
   ·rw[Lib.decDigits_length]at this
    unfold Lib.nDigits at this
    split at this <;> omega
  rw[if_neg h1]
  by_cases h2:Nd.sort t=2
  ·rw[if_pos h2];simp
  rw[if_neg h2]
  by_cases h3:Nd.sort t=3
  ·rw[if_pos h3];split <;> simp
  rw[if_neg h3]
  by_cases h6:Nd.sort t=6
  ·rw[if_pos h6];cases Nd.kids t <;> simp[qfB]
  rw[if_neg h6]
  by_cases h5:Nd.sort t=5
  ·rw[if_pos h5];simp
  rw[if_neg h5];simp
def TensIn (w:World):Prop:=Lib.TabBelow Tryz.prog w.heap.size w "internal/strconv.uint64pow10" .u64 Lib.pow10Tab
theorem TensIn.step {w w':World} (h:TensIn w) (hb:Below w.heap.size w w'):TensIn w':=fun w2 h2=>h w2 (hb.trans (h2.mono hb.size))
theorem qqS (n:Nat) (S:Nat->Prop) (t:T n) (c0 c1 c2 c3 c4:Value) (w:World) (ht:TreeIn S w n t c0 c1 c2 c3 c4) (hB:∀ b,S b->b<w.heap.size) (hT:TensIn w) :
  Calls Tryz.prog 92 #[.agg #[c0,c1,c2,c3,c4]] w fun e w'=>e=.returned (.string (textF n t))/\Below w.heap.size w w':=by
 obtain⟨x0,x1,x2,xa,xl,xc,ya,yl,yc,rfl,rfl,rfl,rfl,rfl⟩:=ht.shape
 have aC:=(Below.refl w.heap.size w).alloc (Nat.le_refl _) (.cells #[.int .i64 x0,.int .i64 x1,.string x2,.slice xa xl xc,.slice ya yl yc] 67)
 have aF:=ht.keep (qaB aC hB) (fun _ h=>h)
 clear ht
 go_enter Tryz.func92,Tryz.ntmps92
 go_wp2_with fail
 refine (qqR n S t _ _ _ _ _ _ aF (fun b hb=>by have:=hB b hb;simp;omega)).mono ?_
 rintro e w1 ⟨hb,⟨aB,v,rfl,aJ⟩|⟨aB,rfl⟩⟩
 ·have hp:=quN aB
  have aE:=qaA aC (by simp) hb
  have aK:=hb.size
  simp at aK
  have aA:InnerT (fun b=>b<w1.heap.size) w1 n t v:=aJ.keep (fun _ _=>rfl) (fun b hb=>hb.elim (fun h=>by have:=hB b h;omega) (fun h=>h.2))
  obtain⟨ku,kx,rfl⟩:=id aA.iface
  have aG:=qhE n t 1 hp.1
  have aI:=xjP n t 1 hp.1
  have HC:Hid (textF n t=bs (txtL n t)):=by show _=_;rw[textF,if_pos aB]
  have HP:Hid (Calls Tryz.prog 118 #[.slice none 0 0,_] w1 _):=qnW n w1.heap.size w1 w1 (.slice none 0 0) [] t _ 1 (Buf.nil (Nat.le_refl _)) aA hp.1 hp.2 (by simp;omega) (hT.step aE)
  have aL:Hid (txtL n t≠[]):=aI
  clear hb aB aJ aA aC aF hp aI aG
  go_wp2_with fail
  refine HP.out.mono ?_
  rintro e w2 ⟨v2,rfl,aD⟩
  rw[List.nil_append]at aD
  have aM:=qoY _ _ _ _ _ aD aL.out
  have aH:=aE.trans (aD.below.mono aE.size)
  obtain⟨va,vn,vc,rfl⟩:=aD.shape
  clear aD aE HP
  go_wp2_with fail
  go_ret
  exact⟨qdX HC.out.symm,aH⟩
 ·have HP:Hid (textF n t=bs []/\Below w.heap.size w w1):=⟨by rw[textF,if_neg (by rw[aB];simp)],qaA aC (by simp) hb⟩
  clear hb aB aC aF
  go_wp2_with fail
  go_ret
  exact⟨qdX HP.out.1.symm,HP.out.2⟩
end Go.Proofs.YtelogmjfekhmpaaGreatDoor
