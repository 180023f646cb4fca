import Derived.Test.YtelogmjfekhmpaaGreatDoorRep
import Derived.Test.YtelogmjfekhmpaaGreatDoorKPlain
namespace Go.Proofs.YtelogmjfekhmpaaGreatDoor
open Go.RowKit
def RowIn3 {α:Type} (S:Nat->Prop) (w:World) (R:α->Value->Value->Value->Prop) (l:List α) (v:Value):Prop:=
 ∃ (ao:Option Addr) (cap:Nat),v=.slice ao l.length cap/\l.length<=maxLen /\
  (l≠[]->∃ b off,ao=some ⟨b,off,none⟩/\S b/\∀ i (h:i<l.length),∃ c0 c1 c2,w.cell? ⟨b,off+i*3,none⟩=some c0/\w.cell? ⟨b,off+i*3+1,none⟩=some c1 /\
   w.cell? ⟨b,off+i*3+2,none⟩=some c2/\R l[i] c0 c1 c2)
def KindIn (S:Nat->Prop) (w:World):(n:Nat)->K n->Value->Value->Value->Prop
 | 0,_,_,_,_=>False
 | n+1,t,c0,c1,c2=>c0=.int .i64 (Kd.sort t)/\(Lit.int .i64 (Kd.sort t)).wf=true/\StrsIn S w (Kd.names t) c1/\RowIn3 S w (KindIn S w n) (Kd.kids t) c2
theorem RowIn3.keep {α:Type} {S S':Nat->Prop} {w w':World} {R R':α->Value->Value->Value->Prop} {l:List α} {v:Value} (h:RowIn3 S w R l v) (hb:Same S w w') (hS:∀ b,S b->S' b)
  (hR:∀ x c0 c1 c2,x∈l->R x c0 c1 c2->R' x c0 c1 c2):RowIn3 S' w' R' l v:=by
 obtain⟨ao,cap,hv,hl,hc⟩:=h
 refine⟨ao,cap,hv,hl,fun hne=>?_⟩
 obtain⟨b,off,ha,hB,aA⟩:=hc hne
 refine⟨b,off,ha,hS b hB,fun i hi=>?_⟩
 obtain⟨c0,c1,c2,h0,h1,h2,hr⟩:=aA i hi
 exact⟨c0,c1,c2,(hb.cell (p:=⟨b,off+i*3,none⟩) hB).trans h0,(hb.cell (p:=⟨b,off+i*3+1,none⟩) hB).trans h1,(hb.cell (p:=⟨b,off+i*3+2,none⟩) hB).trans h2,
  hR _ _ _ _ (List.getElem_mem hi) hr⟩
theorem KindIn.keep {S S':Nat->Prop} {w w':World} (hb:Same S w w') (hS:∀ b,S b->S' b):∀ {n:Nat} {t:K n} {c0 c1 c2:Value},KindIn S w n t c0 c1 c2->KindIn S' w' n t c0 c1 c2:=by
 intro n
 induction n with
 | zero=>intro t c0 c1 c2 h;exact h.elim
 | succ n ih=>
  intro t c0 c1 c2 h
  obtain⟨h0,aA,h3,h4⟩:=h
  exact⟨h0,aA,h3.keep hb hS,h4.keep hb hS fun x _ _ _ _ hx=>ih hx⟩
theorem RowIn3.keepK {S S':Nat->Prop} {w w':World} {n:Nat} {l:List (K n)} {v:Value} (h:RowIn3 S w (KindIn S w n) l v) (hb:Same S w w') (hS:∀ b,S b->S' b):RowIn3 S' w' (KindIn S' w' n) l v:=
 h.keep hb hS fun _ _ _ _ _ hx=>hx.keep hb hS
theorem KindIn.shape {S:Nat->Prop} {w:World}:∀ {n:Nat} {t:K n} {c0 c1 c2:Value},KindIn S w n t c0 c1 c2 ->
  ∃ (s:Int) (a:Option Addr) (l c:Nat) (a':Option Addr) (l' c':Nat),c0=.int .i64 s/\c1=.slice a l c/\c2=.slice a' l' c':=by
 intro n
 cases n with
 | zero=>intro t c0 c1 c2 h;exact h.elim
 | succ n=>
  intro t c0 c1 c2 h
  obtain⟨h0,aA,⟨ao,cap,h3,-⟩,⟨ao',cap',h4,-⟩⟩:=h
  exact⟨_,_,_,_,_,_,_,h0,h3,h4⟩
def put3 (w:World) (b o:Nat) (g0 g1 g2:Value):World:=
 ((w.setCell ⟨b,o,none⟩ g0).setCell ⟨b,o+1,none⟩ g1).setCell ⟨b,o+2,none⟩ g2
theorem qcX {w:World} {b o:Nat} {g0 g1 g2:Value} {k:Nat} (h:k≠b):(put3 w b o g0 g1 g2).heap[k]?=w.heap[k]?:=by
 unfold put3
 rw[Below.heap_setCell _ _ _ _ h,Below.heap_setCell _ _ _ _ h,Below.heap_setCell _ _ _ _ h]
theorem qfI {w:World} {b o:Nat} {g0 g1 g2:Value}:(put3 w b o g0 g1 g2).heap.size=w.heap.size:=by
 simp[put3]
theorem qeY {B:Nat} {a w:World} {b o:Nat} {g0 g1 g2:Value} (h:Below B a w) (hb:B<=b):Below B a (put3 w b o g0 g1 g2):=
 ((h.setCell hb g0).setCell hb g1).setCell hb g2
structure Box3 (w:World) (N:Nat) (a b c:Value):Prop where
 c0:w.cell? ⟨N,0,none⟩=some a
 c1:w.cell? ⟨N,1,none⟩=some b
 c2:w.cell? ⟨N,2,none⟩=some c
theorem Box3.keep {w w':World} {N:Nat} {a b c:Value} (h:Box3 w N a b c) (hb:Below w.heap.size w w'):Box3 w' N a b c:=by
 have hl:N<w.heap.size:=by
  have h:=h.c0
  exact Classical.byContradiction fun hge=>by
   have:w.heap[N]?=none:=Array.getElem?_eq_none (by omega)
   simp[World.cell?,this]at h
 exact⟨(hb.cell (p:=⟨N,0,none⟩) hl).trans h.c0,(hb.cell (p:=⟨N,1,none⟩) hl).trans h.c1,(hb.cell (p:=⟨N,2,none⟩) hl).trans h.c2⟩
theorem Box3.new (w:World) (a b c:Value) (t:TypeId):Box3 (w.alloc (.cells #[a,b,c] t)) w.heap.size a b c:=
 ⟨by simp[go_sem],by simp[go_sem],by simp[go_sem]⟩
theorem KindIn.step {S:Nat->Prop} {w w':World} {n:Nat} {t:K n} {c0 c1 c2:Value} (h:KindIn S w n t c0 c1 c2) (hS:∀ b,S b->b<w.heap.size) (hb:Below w.heap.size w w'):KindIn S w' n t c0 c1 c2/\(∀ b,S b->b<w'.heap.size):=
 ⟨h.keep (qaB hb hS) (fun _ h=>h),fun b hb'=>Nat.lt_of_lt_of_le (hS b hb') hb.size⟩
end Go.Proofs.YtelogmjfekhmpaaGreatDoor
