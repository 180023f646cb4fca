import Derived.Test.YtelogmjfekhmpaaGreatDoorRep
namespace Go.Proofs.YtelogmjfekhmpaaGreatDoor
open Go.RowKit
def CapOk (v:Value):Prop:=∃ (a:Option Addr) (n c:Nat),v=.slice a n c/\n<=c
def NodeIn (S:Nat->Prop) (w:World):(n:Nat)->T n->Value->Value->Value->Value->Value->Prop
 | 0,_,_,_,_,_,_=>False
 | n + 1, t, c0, c1, c2, c3, c4 => c0 = .int .i64 (Nd.sort t) /\ c1 = .int .i64 (Nd.num t) /\ c2 = .string (Nd.text t) /\ (Nd.text t).size <= maxLen /\
   (Lit.int .i64 (Nd.sort t)).wf=true/\(Lit.int .i64 (Nd.num t)).wf=true/\StrsIn S w (Nd.names t) c3/\RowIn S w (NodeIn S w n) (Nd.kids t) c4/\CapOk c3/\CapOk c4
theorem NodeIn.keep {S S':Nat->Prop} {w w':World} (hb:Same S w w') (hS:∀ b,S b->S' b):∀ {n:Nat} {t:T n} {c0 c1 c2 c3 c4:Value},NodeIn S w n t c0 c1 c2 c3 c4->NodeIn S' w' n t c0 c1 c2 c3 c4:=by
 intro n
 induction n with
 | zero=>intro t c0 c1 c2 c3 c4 h;exact h.elim
 | succ n ih=>
  intro t c0 c1 c2 c3 c4 h
  obtain⟨h0,h1,h2,hs,aA,aB,h3,h4,h5,h6⟩:=h
  exact⟨h0,h1,h2,hs,aA,aB,h3.keep hb hS,h4.keep hb hS fun x _ _ _ _ _ _ hx=>ih hx,h5,h6⟩
theorem NodeIn.tree {S:Nat->Prop} {w:World}:∀ {n:Nat} {t:T n} {c0 c1 c2 c3 c4:Value},NodeIn S w n t c0 c1 c2 c3 c4->TreeIn S w n t c0 c1 c2 c3 c4:=by
 intro n
 induction n with
 | zero=>intro t c0 c1 c2 c3 c4 h;exact h.elim
 | succ n ih=>
  intro t c0 c1 c2 c3 c4 h
  obtain⟨h0,h1,h2,hs,aA,aB,h3,h4,-,-⟩:=h
  exact⟨h0,h1,h2,hs,aA,aB,h3,h4.keep (fun _ _=>rfl) (fun _ h=>h) fun x _ _ _ _ _ _ hx=>ih hx⟩
theorem NodeIn.shape {S:Nat->Prop} {w:World} {n:Nat} {t:T n} {c0 c1 c2 c3 c4:Value} (h:NodeIn S w n t c0 c1 c2 c3 c4) :
  ∃ (s m:Int) (x:ByteArray) (a:Option Addr) (l c:Nat) (a':Option Addr) (l' c':Nat),c0=.int .i64 s/\c1=.int .i64 m/\c2=.string x/\c3=.slice a l c/\c4=.slice a' l' c':=h.tree.shape
theorem RowIn.keepN {S S':Nat->Prop} {w w':World} {n:Nat} {l:List (T n)} {v:Value} (h:RowIn S w (NodeIn S w n) l v) (hb:Same S w w') (hS:∀ b,S b->S' b):RowIn S' w' (NodeIn S' w' n) l v:=
 h.keep hb hS fun _ _ _ _ _ _ _ hx=>hx.keep hb hS
theorem NodeIn.step {S:Nat->Prop} {w w':World} {n:Nat} {t:T n} {c0 c1 c2 c3 c4:Value} (h:NodeIn S w n t c0 c1 c2 c3 c4) (hB:∀ b,S b->b<w.heap.size) (hb:Below w.heap.size w w') :
  NodeIn S w' n t c0 c1 c2 c3 c4/\∀ b,S b->b<w'.heap.size:=
 ⟨h.keep (qaB hb hB) (fun _ h=>h),fun b hb2=>Nat.lt_of_lt_of_le (hB b hb2) hb.size⟩
end Go.Proofs.YtelogmjfekhmpaaGreatDoor
