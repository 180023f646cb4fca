import Derived.Test.YtelogmjfekhmpaaGreatDoorQW3
namespace Go.Proofs.YtelogmjfekhmpaaGreatDoor
open Go.RowKit
theorem xaA {l n:Nat} {P:Program} {o:Oper} {a:Act} {w:World} {K K':Act->World->Prop} {Q:Exit->Act->World->Prop} (hd:∀ c,o.op≠.defer c) (hK:∀ a w,K a w->K' a w)
  (h:o.wp P a w K Q):o.wpIn (Fence.wide.inRound l) n P a w K' Q:=by
 unfold Oper.wp at h
 unfold Oper.wpIn
 refine⟨fun _ _=>trivial,?_⟩
 rw[Oper.semAt_plain _ _ _ hd]
 generalize Sem.run P (execOp a.eval o) w=r at h ⊢
 match r,h with
 | .ok (.value v) w',h=>exact hK _ _ h
 | .ok .skip w',h=>exact hK _ _ h
 | .ok (.defer d) w',h=>exact hK _ _ h
 | .ok (.enter f args) w',h=>
  refine⟨(fun e=>by cases e),(CallsIn.inRound l (callsIn_wide.2 h)).mono ?_⟩
  intro e w2 h2
  match e,h2 with
  | .returned v,h2=>exact hK _ _ h2
  | .panicked c,h2=>exact h2
  | .outgrown,h2=>exact h2
 | .ok (.row row args) w',h=>
  refine⟨(fun e=>by cases e),?_⟩
  intro c cs _
  obtain⟨v,w2,r,st⟩:=h c cs
  exact⟨v,w2,hK _ _ r,stepsIn_wide.2 st⟩
 | .halt (.panic v) w',h=>exact h
theorem qfU {l n:Nat} {P:Program} {md:Region.Mode} {ops:Array Oper} {Q:Exit->Act->World->Prop} (hd:∀ (i:Nat) (o:Oper),ops[i]?=some o->∀ c,o.op≠.defer c) (hQ:¬ LetsOut Q) :
  ∀ (fuel:Nat) (listed:Array Bool) (a:Act) (w:World),wpAny P md ops Q fuel listed a w->wpAnyIn (Fence.wide.inRound l) n P md ops Q fuel listed a w
 | 0,_,_,_,h=>h
 | fuel+1,listed,a,w,h=>by
  refine⟨h.1,fun i hi=>?_⟩
  have h1:=h.2 i hi
  unfold wpOp at h1
  unfold wpOpIn
  cases e:ops[i]? with
  | none=>rw[e]at h1;exact qfU hd hQ fuel _ _ _ h1
  | some o=>
   rw[e]at h1
   dsimp only at h1 ⊢
   split at h1
   ·rename_i hw
    rw[if_pos hw]
    rcases h1 with h1|h1
    ·exact xaA (hd i o e) (fun a w h=>qfU hd hQ fuel _ a w h) h1
    ·exact absurd h1.2 hQ
   ·rename_i hw
    rw[if_neg hw]
    exact⟨fun _ _=>trivial,qfU hd hQ fuel _ _ _ h1⟩
theorem qnG {l n id:Nat} {P:Program} {ops:Array Oper} {Q:Exit->Act->World->Prop} {a:Act} {w:World} (hm:P.follows .mixedOrders=true) (hd:∀ (i:Nat) (o:Oper),ops[i]?=some o->∀ c,o.op≠.defer c) (hQ:¬ LetsOut Q)
  (h:wpAny P .any ops Q ops.size (Array.replicate ops.size false) a w.drew):(Code.region id ops true).wpIn (Fence.wide.inRound l) n P Q a w:=wpIn_region_any hm (qfU hd hQ _ _ _ _ h)
end Go.Proofs.YtelogmjfekhmpaaGreatDoor
