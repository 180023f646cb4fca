import Derived.Test.YtelogmjfekhmpaaGreatDoorRows
import Derived.Test.YtelogmjfekhmpaaGreatDoorPlain
import Derived.WalkKit
import Derived.WalkSpells
import Derived.WalkLawsBesides
import Derived.Deep.OwnRows
namespace Go.Proofs.YtelogmjfekhmpaaGreatDoor
open Go.RowKit
theorem hidF {p:Prop} (h:p):Hid p:=h
def StrsIn (S:Nat->Prop) (w:World) (l:List ByteArray) (v:Value):Prop:=
 ∃ (ao:Option Addr) (cap:Nat),v=.slice ao l.length cap/\l.length<=maxLen/\(∀ s,s∈l->s.size<=maxLen) /\
  (l≠[]->∃ b off,ao=some ⟨b,off,none⟩/\S b/\∀ i (h:i<l.length),w.cell? ⟨b,off+i,none⟩=some (.string l[i]))
def RowIn {α:Type} (S:Nat->Prop) (w:World) (R:α->Value->Value->Value->Value->Value->Prop) (l:List α) (v:Value):Prop:=
 ∃ (ao:Option Addr) (cap:Nat),v=.slice ao l.length cap/\l.length<=maxLen /\
  (l≠[]->∃ b off,ao=some ⟨b,off,none⟩/\S b/\∀ i (h:i<l.length),∃ c0 c1 c2 c3 c4,w.cell? ⟨b,off+i*5,none⟩=some c0/\w.cell? ⟨b,off+i*5+1,none⟩=some c1 /\
   w.cell? ⟨b,off+i*5+2,none⟩=some c2/\w.cell? ⟨b,off+i*5+3,none⟩=some c3/\w.cell? ⟨b,off+i*5+4,none⟩=some c4/\R l[i] c0 c1 c2 c3 c4)
def TreeIn (S:Nat->Prop) (w:World):(n:Nat)->T n->Value->Value->Value->Value->Value->Prop
 | 0,_,_,_,_,_,_=>False
 | n + 1, t, c0, c1, c2, c3, c4 => c0 = .int .i64 (Nd.sort t) /\ c1 = .int .i64 (Nd.num t) /\ c2 = .string (Nd.text t) /\ (Nd.text t).size <= maxLen /\
   (Lit.int .i64 (Nd.sort t)).wf=true/\(Lit.int .i64 (Nd.num t)).wf=true/\StrsIn S w (Nd.names t) c3/\RowIn S w (TreeIn S w n) (Nd.kids t) c4
def Same (S:Nat->Prop) (w w':World):Prop:=∀ b,S b->w'.heap[b]?=w.heap[b]?
theorem Same.cell {S:Nat->Prop} {w w':World} (h:Same S w w') {p:Addr} (hp:S p.block):w'.cell? p=w.cell? p:=World.cell?_of_block (w:=w) (h p.block hp)
theorem qaB {S:Nat->Prop} {B:Nat} {w w':World} (h:Below B w w') (hS:∀ b,S b->b<B):Same S w w':=fun b hb=>h.block b (hS b hb)
theorem StrsIn.keep {S S':Nat->Prop} {w w':World} {l:List ByteArray} {v:Value} (h:StrsIn S w l v) (hb:Same S w w') (hS:∀ b,S b->S' b):StrsIn S' w' l v:=by
 obtain⟨ao,cap,hv,hl,hs,hc⟩:=h
 refine⟨ao,cap,hv,hl,hs,fun hne=>?_⟩
 obtain⟨b,off,ha,hB,aA⟩:=hc hne
 exact⟨b,off,ha,hS b hB,fun i hi=>(hb.cell (p:=⟨b,off+i,none⟩) hB).trans (aA i hi)⟩
theorem RowIn.keep {α:Type} {S S':Nat->Prop} {w w':World} {R R':α->Value->Value->Value->Value->Value->Prop} {l:List α} {v:Value} (h:RowIn S w R l v) (hb:Same S w w') (hS:∀ b,S b->S' b)
  (hR:∀ x c0 c1 c2 c3 c4,x∈l->R x c0 c1 c2 c3 c4->R' x c0 c1 c2 c3 c4):RowIn S' w' R' l v:=by
 obtain⟨ao,cap,hv,hl,hc⟩:=h
 refine⟨ao,cap,hv,hl,fun hne=>?_⟩
 obtain⟨b,off,ha,hB,aA⟩:=hc hne
 refine⟨b,off,ha,hS b hB,fun i hi=>?_⟩
 obtain⟨c0,c1,c2,c3,c4,h0,h1,h2,h3,h4,hr⟩:=aA i hi
 exact⟨c0,c1,c2,c3,c4,(hb.cell (p:=⟨b,off+i*5,none⟩) hB).trans h0,(hb.cell (p:=⟨b,off+i*5+1,none⟩) hB).trans h1,(hb.cell (p:=⟨b,off+i*5+2,none⟩) hB).trans h2,
  (hb.cell (p:=⟨b,off+i*5+3,none⟩) hB).trans h3,(hb.cell (p:=⟨b,off+i*5+4,none⟩) hB).trans h4,hR _ _ _ _ _ _ (List.getElem_mem hi) hr⟩
theorem TreeIn.keep {S S':Nat->Prop} {w w':World} (hb:Same S w w') (hS:∀ b,S b->S' b):∀ {n:Nat} {t:T n} {c0 c1 c2 c3 c4:Value},TreeIn S w n t c0 c1 c2 c3 c4->TreeIn S' w' n t c0 c1 c2 c3 c4:=by
 intro n
 induction n with
 | zero=>intro t c0 c1 c2 c3 c4 h;exact h.elim
 | succ n ih=>
  intro t c0 c1 c2 c3 c4 h
  obtain⟨h0,h1,h2,hs,aA,aB,h3,h4⟩:=h
  exact⟨h0,h1,h2,hs,aA,aB,h3.keep hb hS,h4.keep hb hS fun x _ _ _ _ _ _ hx=>ih hx⟩
theorem RowIn.keepT {S S':Nat->Prop} {w w':World} {n:Nat} {l:List (T n)} {v:Value} (h:RowIn S w (TreeIn S w n) l v) (hb:Same S w w') (hS:∀ b,S b->S' b):RowIn S' w' (TreeIn S' w' n) l v:=
 h.keep hb hS fun _ _ _ _ _ _ _ hx=>hx.keep hb hS
theorem qaA {B:Nat} {a b c:World} (h:Below B a b) (hs:B<=b.heap.size) (k:Below b.heap.size b c):Below B a c:=h.trans (k.mono hs)
theorem TreeIn.shape {S:Nat->Prop} {w:World}:∀ {n:Nat} {t:T n} {c0 c1 c2 c3 c4:Value},TreeIn S w n t c0 c1 c2 c3 c4 ->
  ∃ (s m:Int) (x:ByteArray) (a:Option Addr) (l c:Nat) (a':Option Addr) (l' c':Nat),c0=.int .i64 s/\c1=.int .i64 m/\c2=.string x/\c3=.slice a l c/\c4=.slice a' l' c':=by
 intro n
 cases n with
 | zero=>intro t c0 c1 c2 c3 c4 h;exact h.elim
 | succ n=>
  intro t c0 c1 c2 c3 c4 h
  obtain⟨h0,h1,h2,hs,aA,aB,⟨ao,cap,h3,-⟩,⟨ao',cap',h4,-⟩⟩:=h
  exact⟨_,_,_,_,_,_,_,_,_,h0,h1,h2,h3,h4⟩
def put5 (w:World) (b o:Nat) (g0 g1 g2 g3 g4:Value):World:=
 ((((w.setCell ⟨b,o,none⟩ g0).setCell ⟨b,o+1,none⟩ g1).setCell ⟨b,o+2,none⟩ g2).setCell ⟨b,o+3,none⟩ g3).setCell ⟨b,o+4,none⟩ g4
theorem qaS {w:World} {b o:Nat} {g0 g1 g2 g3 g4:Value} {k:Nat} (h:k≠b):(put5 w b o g0 g1 g2 g3 g4).heap[k]?=w.heap[k]?:=by
 unfold put5
 rw[Below.heap_setCell _ _ _ _ h,Below.heap_setCell _ _ _ _ h,Below.heap_setCell _ _ _ _ h,Below.heap_setCell _ _ _ _ h,Below.heap_setCell _ _ _ _ h]
theorem qbQ {w:World} {b o:Nat} {g0 g1 g2 g3 g4:Value}:(put5 w b o g0 g1 g2 g3 g4).heap.size=w.heap.size:=by
 simp[put5]
theorem qaZ {B:Nat} {a w:World} {b o:Nat} {g0 g1 g2 g3 g4:Value} (h:Below B a w) (hb:B<=b):Below B a (put5 w b o g0 g1 g2 g3 g4):=
 ((((h.setCell hb g0).setCell hb g1).setCell hb g2).setCell hb g3).setCell hb g4
theorem bcell {W w1:World} (hb:Below W.heap.size W w1):(∀ b o,b<W.heap.size->w1.cell? ⟨b,o,none⟩=W.cell? ⟨b,o,none⟩)/\(∀ b o,b<W.heap.size->w1.frozen? ⟨b,o,none⟩=W.frozen? ⟨b,o,none⟩):=
 ⟨fun b o h=>hb.cell (p:=⟨b,o,none⟩) h,fun b o h=>hb.frozen (p:=⟨b,o,none⟩) h⟩
end Go.Proofs.YtelogmjfekhmpaaGreatDoor
