import Derived.Test.YtelogmjfekhmpaaGreatDoorTMade
import Derived.Test.YtelogmjfekhmpaaGreatDoorBox
namespace Go.Proofs.YtelogmjfekhmpaaGreatDoor
set_option maxRecDepth 100000
set_option maxHeartbeats 16000000
open Go.RowKit
theorem qqQ (n:Nat) (hn:qjH n):qjH (n+1):=by
 intro S t c0 c1 c2 c3 c4 d w ht hB hg hc
 have aL:∀ (v:Value) (w:World),True:=fun _ _=>trivial
 clear aL
 obtain⟨rfl,rfl,rfl,aP,-,-,h3,h4⟩:=ht
 obtain⟨na,nc,rfl,-,-,-⟩:=id h3
 obtain⟨ka,kc,rfl,-,-⟩:=id h4
 simp only[goodT,Bool.and_eq_true]at hg
 have ha:qaQ (Nd.sort t) (Nd.num t) (Nd.text t) (Nd.names t) (Nd.kids t).length=true:=hg.1.2
 have aG:1+sumL (fun x=>cntT n x) (Nd.kids t)<=120:=by simpa only[cntT] using hc
 have aE:Nd.sort t=1∨Nd.sort t=2∨Nd.sort t=3∨Nd.sort t=4∨Nd.sort t=5∨Nd.sort t=6:=by
  unfold qaQ at ha
  by_cases h1:Nd.sort t=1
  ·exact .inl h1
  by_cases h2:Nd.sort t=2
  ·exact .inr (.inl h2)
  by_cases h3:Nd.sort t=3
  ·exact .inr (.inr (.inl h3))
  by_cases h4:Nd.sort t=4
  ·exact .inr (.inr (.inr (.inl h4)))
  by_cases h5:Nd.sort t=5
  ·exact .inr (.inr (.inr (.inr (.inl h5))))
  by_cases h6:Nd.sort t=6
  ·exact .inr (.inr (.inr (.inr (.inr h6))))
  rw[if_neg h1,if_neg h2,if_neg h3,if_neg h4,if_neg h5,if_neg h6]at ha
  cases ha
 generalize hs:Nd.sort t=s at *
 have HS:Hid (Nd.sort t=s):=hs
 clear hs ha
 have aD:=(Below.refl w.heap.size w).alloc (Nat.le_refl _) (.cells #[.int .i64 s,.int .i64 (Nd.num t),.string (Nd.text t),.slice na (Nd.names t).length nc,.slice ka (Nd.kids t).length kc] 67)
 have aH:=Box5.new w (.int .i64 s) (.int .i64 (Nd.num t)) (.string (Nd.text t)) (.slice na (Nd.names t).length nc) (.slice ka (Nd.kids t).length kc) 67
 have aM:=h3.keep (qaB aD hB) (fun _ h=>h)
 have aI:=h4.keepT (qaB aD hB) (fun _ h=>h)
 have HC:Hid (∀ W,Below (w.alloc (.cells #[.int .i64 s,.int .i64 (Nd.num t),.string (Nd.text t),.slice na (Nd.names t).length nc,.slice ka (Nd.kids t).length kc] 67)).heap.size (w.alloc (.cells #[.int .i64 s,.int .i64 (Nd.num t),.string (Nd.text t),.slice na (Nd.names t).length nc,.slice ka (Nd.kids t).length kc] 67)) W ->
   W.heap.size=w.heap.size+1->Calls Tryz.prog 173 #[.slice ka (Nd.kids t).length kc] W fun e w'=>∃ va vl vc,e=.returned (.slice va vl vc)/\Below w.heap.size w w' /\ w'.cell? ⟨w.heap.size,3,none⟩=some (.slice na (Nd.names t).length nc) /\
    StrsIn (fun b=>S b∨(w.heap.size<=b/\b<w'.heap.size)) w' (Nd.names t) (.slice na (Nd.names t).length nc)/\Row1 (fun b=>S b∨(w.heap.size<=b/\b<w'.heap.size)) w' (InnerT (fun b=>S b∨(w.heap.size<=b/\b<w'.heap.size)) w' n) (Nd.kids t) (.slice va vl vc)):=by
  intro W hW aQ
  have aN:∀ b,S b->b<(w.alloc (.cells #[.int .i64 s,.int .i64 (Nd.num t),.string (Nd.text t),.slice na (Nd.names t).length nc,.slice ka (Nd.kids t).length kc] 67)).heap.size:=fun b hb=>by have:=hB b hb;simp;omega
  have aO:=aI.keepT (qaB hW aN) (fun _ h=>h)
  refine (qqC n hn S (Nd.kids t) _ (d+1) W aO (fun b hb=>by have:=hB b hb;omega) hg.2 aG).mono ?_
  rintro e w' ⟨hb,v',rfl,aA⟩
  obtain⟨va,vc,rfl,-⟩:=id aA
  have aJ:Below w.heap.size w w':=(qaA aD (by simp) hW).trans (hb.mono (by omega))
  refine⟨_,_,_,rfl,aJ,(aH.keep (hW.trans (hb.mono (by simp;omega)))).c3,?_,?_⟩
  ·exact h3.keep (qaB aJ hB) (fun b hb=>.inl hb)
  ·exact aA.keep (fun _ _=>rfl) (fun b hb=>hb.elim .inl (fun h=>.inr ⟨by omega,h.2⟩)) (fun _ _ _ hx=>hx.keep (fun _ _=>rfl) (fun b hb=>hb.elim .inl (fun h=>.inr ⟨by omega,h.2⟩)))
 have aB:Hid (∀ v W,Below w.heap.size w W->InnerT (fun b=>S b∨(w.heap.size<=b/\b<W.heap.size)) W (n+1) t v->qsO S (n+1) t w (.returned v) W):=fun v W hb hv=>⟨hb,v,rfl,hv⟩
 clear h3 h4 aM aI aH hn hg hc aG
 rcases aE with rfl|rfl|rfl|rfl|rfl|rfl
 ·clear HC
  go_enter Tryz.func147,Tryz.ntmps147
  go_wp2_with fail
  go_ret
  exact aB.out _ _ aD (.inl ⟨HS.out,rfl⟩)
 ·clear HC
  go_enter Tryz.func147,Tryz.ntmps147
  go_wp2_with fail
  go_ret
  exact aB.out _ _ aD (.inr (.inl ⟨HS.out,rfl⟩))
 ·clear HC
  go_enter Tryz.func147,Tryz.ntmps147
  go_wp2_with fail
  go_ret
  exact aB.out _ _ aD (.inr (.inr (.inl ⟨HS.out,rfl⟩)))
 ·go_enter Tryz.func147,Tryz.ntmps147
  go_wp2_with fail
  refine (HC.out _ (Below.refl _ _) (by simp)).mono ?_
  rintro e w2 ⟨va,vl,vc,rfl,aC,-,-,aA⟩
  have HP:=aB.out (.iface 170 (.slice va vl vc)) w2 aC (.inr (.inr (.inr (.inl ⟨HS.out,_,rfl,aA⟩))))
  have aF:Hid _:=HP
  clear HP aA HC aC
  go_wp2_with fail
  go_ret
  exact aF.out
 ·go_enter Tryz.func147,Tryz.ntmps147
  go_wp2_with fail
  go_region_with (go_at_call 173;refine (HC.out _ ((Below.refl _ _).drew) (by simp)).mono ?_;rintro e w2 ⟨va,vl,vc,rfl,aC,aR,aK,aA⟩)
  all_goals
   have HP:=aB.out (.iface 173 (.agg #[.slice na (Nd.names t).length nc,.slice va vl vc])) w2 aC (.inr (.inr (.inr (.inr (.inl ⟨HS.out,_,_,rfl,aK,aA⟩)))))
   have aF:Hid _:=HP
   clear HP aA aC aK
   go_wp2_with fail
   go_ret
   exact aF.out
 ·go_enter Tryz.func147,Tryz.ntmps147
  go_wp2_with fail
  refine (HC.out _ (Below.refl _ _) (by simp)).mono ?_
  rintro e w2 ⟨va,vl,vc,rfl,aC,-,-,aA⟩
  have HP:=aB.out (.iface 175 (.slice va vl vc)) w2 aC (.inr (.inr (.inr (.inr (.inr ⟨HS.out,_,rfl,aA⟩)))))
  have aF:Hid _:=HP
  clear HP aA HC aC
  go_wp2_with fail
  go_ret
  exact aF.out
theorem qtH:∀ n,qjH n:=by
 intro n
 induction n with
 | zero=>intro S t c0 c1 c2 c3 c4 d w ht;exact ht.elim
 | succ n ih=>exact qqQ n ih
def FaceT (S:Nat->Prop) (n:Nat) (t:T n) (w:World) (e:Ending) (w':World):Prop:=
 Below w.heap.size w w' /\ ((okT n t=true/\∃ v,e=.returned (.tuple #[v,.bool true])/\InnerT (fun b=>S b∨(w.heap.size<=b/\b<w'.heap.size)) w' n t v)∨(okT n t=false/\e=.returned (.tuple #[.nilIface,.bool false])))
theorem qqR (n:Nat) (S:Nat->Prop) (t:T n) (c0 c1 c2 c3 c4:Value) (w:World) (ht:TreeIn S w n t c0 c1 c2 c3 c4) (hB:∀ b,S b->b<w.heap.size) :
  Calls Tryz.prog 117 #[.agg #[c0,c1,c2,c3,c4]] w (FaceT S n t w):=by
 obtain⟨x0,x1,x2,xa,xl,xc,ya,yl,yc,rfl,rfl,rfl,rfl,rfl⟩:=ht.shape
 have aC:=(Below.refl w.heap.size w).alloc (Nat.le_refl _) (.cells #[.int .i64 x0,.int .i64 x1,.string x2,.slice xa xl xc,.slice ya yl yc] 67)
 have aG:=Box5.new w (.int .i64 x0) (.int .i64 x1) (.string x2) (.slice xa xl xc) (.slice ya yl yc) 67
 obtain⟨aD,aE⟩:=ht.step hB aC
 clear ht
 go_enter Tryz.func117,Tryz.ntmps117
 go_wp2_with fail
 refine (qoM n S t _ _ _ _ _ _ aD aE).mono ?_
 rintro e w1 ⟨rfl,aB⟩
 have aA:=qaA aC (by simp) aB
 obtain⟨aH,aI⟩:=aD.step aE aB
 obtain⟨k0,k1,k2,k3,k4⟩:=aG.keep aB
 have aL:=aA.size
 clear aC aB aG aD aE
 cases hok:okT n t with
 | false=>
  have HP:Hid (FaceT S n t w (.returned (.tuple #[.nilIface,.bool false])) w1):=⟨aA,.inr ⟨hok,rfl⟩⟩
  clear hok
  go_wp2_with fail
  go_ret2
  exact HP.out
 | true=>
  have aK:Hid (okT n t=true):=hok
  simp only[okT,Bool.and_eq_true,decide_eq_true_eq]at hok
  have HC:Hid (Calls Tryz.prog 147 _ _ _):=qtH n S t _ _ _ _ _ 1 w1 aH aI hok.1 hok.2
  clear hok aH aI
  go_wp2_with fail
  refine HC.out.mono ?_
  rintro e w2 ⟨aJ,v,rfl,aF⟩
  obtain⟨ku,kx,rfl⟩:=id aF.iface
  have HP:Hid (FaceT S n t w (.returned (.tuple #[.iface ku kx,.bool true])) w2):=
   ⟨qaA aA aA.size aJ,.inl ⟨aK.out,_,rfl,aF.keep (fun _ _=>rfl) (fun b hb=>hb.elim .inl (fun h=>.inr ⟨by omega,h.2⟩))⟩⟩
  clear aJ aF HC
  go_wp2_with fail
  go_ret2
  exact HP.out
end Go.Proofs.YtelogmjfekhmpaaGreatDoor
