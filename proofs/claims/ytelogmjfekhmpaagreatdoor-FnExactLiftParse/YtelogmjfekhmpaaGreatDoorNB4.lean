import Derived.Test.YtelogmjfekhmpaaGreatDoorNB3
import Derived.Test.YtelogmjfekhmpaaGreatDoorNRep
import Derived.BigQuiet
namespace Go.Proofs.YtelogmjfekhmpaaGreatDoor
open Go.RowKit
structure Rst (S:Nat->Prop) (w:World) (m rb:Nat) (r:Nd (T m)) (c0 v3 v4:Value):Prop where
 box:w.heap[rb]?=some (.cells #[c0,.int .i64 r.num,.string r.text,v3,v4] 25 (0,0))
 n3:StrsIn S w r.names v3
 k3:CapOk v3
 n4:RowIn S w (NodeIn S w m) r.kids v4
 k4:CapOk v4
theorem Rst.cells {S:Nat->Prop} {w:World} {m rb:Nat} {r:Nd (T m)} {c0 v3 v4:Value} (h:Rst S w m rb r c0 v3 v4) :
  (w.cell? ⟨rb,1,none⟩=some (.int .i64 r.num)/\w.cell? ⟨rb,2,none⟩=some (.string r.text)/\w.cell? ⟨rb,3,none⟩=some v3/\w.cell? ⟨rb,4,none⟩=some v4) /\
  (w.frozen? ⟨rb,1,none⟩=false/\w.frozen? ⟨rb,2,none⟩=false/\w.frozen? ⟨rb,3,none⟩=false/\w.frozen? ⟨rb,4,none⟩=false):=by
 have:=h.box
 refine⟨⟨?_,?_,?_,?_⟩,?_,?_,?_,?_⟩ <;> simp[World.cell?,World.frozen?,this]
theorem xiU {w:World} {b i:Nat} {cs:Array Value} {t:TypeId} {z:Nat × Nat} (h:w.heap[b]?=some (.cells cs t z)) (v:Value):(w.setCell ⟨b,i,none⟩ v).heap[b]?=some (.cells (cs.setIfInBounds i v) t z):=by
 simp[World.setCell,Array.getElem?_modify,h]
theorem qdS {P:Program} (t:TypeId) (sz:Nat) (hu:P.underlying t=some (.slice (P.elem t))) (hs:∀ W,(sizeOf (P.elem t)).run P W=.ok sz W) (a:Option Addr) (n c:Nat) (h:1<=n) (W:World) :
  (Instr.slice t (.slice a n c) (some (.int .i64 1)) none none).run P W=.ok (sliced a 1 n c sz) W:=by
 rw[run_slice_l W t a n c hu .i64 1 (by omega) (by omega),hs]
 rfl
end Go.Proofs.YtelogmjfekhmpaaGreatDoor
