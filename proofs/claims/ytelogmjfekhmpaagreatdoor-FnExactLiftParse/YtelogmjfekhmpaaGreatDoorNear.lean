import Derived.Test.YtelogmjfekhmpaaGreatDoorRep
namespace Go.Proofs.YtelogmjfekhmpaaGreatDoor
open Go.RowKit
structure Near (bb:Nat) (w w':World):Prop where
 os:w'.os=w.os
 tape:w'.tape=w.tape
 output:w'.output=w.output
 size:w.heap.size<=w'.heap.size
 block:∀ k,k<w.heap.size->k≠bb->w'.heap[k]?=w.heap[k]?
theorem Near.refl (bb:Nat) (w:World):Near bb w w:=⟨rfl,rfl,rfl,Nat.le_refl _,fun _ _ _=>rfl⟩
theorem Near.trans {bb:Nat} {a b c:World} (h:Near bb a b) (k:Near bb b c):Near bb a c:=
 ⟨k.os.trans h.os,k.tape.trans h.tape,k.output.trans h.output,Nat.le_trans h.size k.size,fun i hi hne=>(k.block i (Nat.lt_of_lt_of_le hi h.size) hne).trans (h.block i hi hne)⟩
theorem Near.of_below {bb:Nat} {a b:World} (h:Below a.heap.size a b):Near bb a b:=⟨h.os,h.tape,h.output,h.size,fun k hk _=>h.block k hk⟩
theorem Near.set (bb o:Nat) (w:World) (v:Value):Near bb w (w.setCell ⟨bb,o,none⟩ v):=⟨rfl,rfl,rfl,by simp,fun k _ hne=>Below.heap_setCell _ _ _ _ hne⟩
theorem Near.alloc (bb:Nat) (w:World) (o:Obj):Near bb w (w.alloc o):=.of_below ((Below.refl _ _).alloc (Nat.le_refl _) o)
theorem Near.below {bb B:Nat} {a b:World} (h:Near bb a b) (h1:B<=bb) (h2:B<=a.heap.size):Below B a b:=⟨h.os,h.tape,h.output,h.size,fun k hk=>h.block k (by omega) (by omega)⟩
def Prt (w:World) (pb:Nat) (p:Int):Prop:=w.heap[pb]?=some (.cells #[.int .i64 p] 3 (0,0))
theorem Prt.cell {w:World} {pb:Nat} {p:Int} (h:Prt w pb p):w.cell? ⟨pb,0,none⟩=some (.int .i64 p):=by
 unfold Prt at h;simp[World.cell?,h]
theorem Prt.free {w:World} {pb:Nat} {p:Int} (h:Prt w pb p):w.frozen? ⟨pb,0,none⟩=false:=by
 unfold Prt at h;simp[World.frozen?,h]
theorem Prt.lt {w:World} {pb:Nat} {p:Int} (h:Prt w pb p):pb<w.heap.size:=by
 unfold Prt at h
 exact (Array.getElem?_eq_some_iff.1 h).1
theorem Prt.set {w:World} {pb:Nat} {p:Int} (h:Prt w pb p) (q:Int):Prt (w.setCell ⟨pb,0,none⟩ (.int .i64 q)) pb q:=by
 unfold Prt at h ⊢;simp[World.setCell,Array.getElem?_modify,h]
theorem Prt.new (w:World) (p:Int):Prt (w.alloc (.cells #[.int .i64 p] 3)) w.heap.size p:=by
 show (w.heap.push _)[w.heap.size]?=_;simp
theorem Prt.keep {w w':World} {pb:Nat} {p:Int} (h:Prt w pb p) (hb:Below w.heap.size w w'):Prt w' pb p:=(hb.block pb h.lt).trans h
theorem Near.same {pb:Nat} {S:Nat->Prop} {w w':World} (h:Near pb w w') (hS:∀ b,S b->b<w.heap.size/\b≠pb):Same S w w':=fun b hb=>h.block b (hS b hb).1 (hS b hb).2
theorem Near.cell {pb b o:Nat} {w w':World} {v:Value} (h:Near pb w w') (hc:w.cell? ⟨b,o,none⟩=some v) (hne:b≠pb):w'.cell? ⟨b,o,none⟩=some v:=by
 have aA:b<w.heap.size:=Classical.byContradiction fun hge=>by
  have:w.heap[b]?=none:=Array.getElem?_eq_none (by omega)
  simp[World.cell?,this]at hc
 exact (World.cell?_of_block (w:=w) (w':=w') (a:=⟨b,o,none⟩) (h.block b aA hne)).trans hc
theorem qlD {w:World} {b o:Nat} {v:Value} (h:w.cell? ⟨b,o,none⟩=some v):b<w.heap.size:=
 Classical.byContradiction fun hge=>by
  have:w.heap[b]?=none:=Array.getElem?_eq_none (by omega)
  simp[World.cell?,this]at h
structure Cap (w:World) (pb mb ab:Nat) (p M:Int) (F:Nat):Prop where
 parts:Prt w pb p
 max:w.cell? ⟨mb,0,none⟩=some (.int .i64 M)
 acc:w.cell? ⟨ab,0,none⟩=some (.func (.func F) #[] #[])
 nm:mb≠pb
 na:ab≠pb
theorem Cap.keep {w w':World} {pb mb ab:Nat} {p q M:Int} {F:Nat} (h:Cap w pb mb ab p M F) (hn:Near pb w w') (hp:Prt w' pb q):Cap w' pb mb ab q M F:=
 ⟨hp,hn.cell h.max h.nm,hn.cell h.acc h.na,h.nm,h.na⟩
end Go.Proofs.YtelogmjfekhmpaaGreatDoor
