/-
  The program's scanner of a text: demand, skip, want, until, wantEnd.
-/
import Derived.Test.YthcdeahobjhkbaaGreatDoorB1
import Derived.Test.YthcdeahobjhkbaaGreatDoorShelf
import Derived.Lib.IndexLaws
import Derived.Laws.IdiomStrings
import Derived.Deep.QuietTactic
import Derived.BigQuiet
namespace Go.Proofs.YthcdeahobjhkbaaGreatDoor
open Go.RowKit

/-- A scanner's two cells: its text, its place. -/
structure Sc (w : World) (R : Nat) (s : ByteArray) (i : Nat) : Prop where
  c0 : w.cell? ⟨R, 0, none⟩ = some (.string s)
  c1 : w.cell? ⟨R, 1, none⟩ = some (.int .i64 (i : Int))
  f1 : w.frozen? ⟨R, 1, none⟩ = false

/-- The world behind a scan: of what was there only the place of the scanner is another one. -/
structure Scan (R : Nat) (w w' : World) (q : Nat) : Prop where
  near : Near R w w'
  cells : ∀ o, o ≠ 1 → w'.cell? ⟨R, o, none⟩ = w.cell? ⟨R, o, none⟩
  at1 : w'.cell? ⟨R, 1, none⟩ = some (.int .i64 (q : Int))
  fz : ∀ o, w'.frozen? ⟨R, o, none⟩ = w.frozen? ⟨R, o, none⟩

theorem Scan.sc {R : Nat} {w w' : World} {q i : Nat} {s : ByteArray} (h : Scan R w w' q) (k : Sc w R s i) : Sc w' R s q := ⟨(h.cells 0 (by decide)).trans k.c0, h.at1, (h.fz 1).trans k.f1⟩
theorem Scan.trans {R : Nat} {a b c : World} {p q : Nat} (h : Scan R a b p) (k : Scan R b c q) : Scan R a c q :=
  ⟨h.near.trans k.near, fun o ho => (k.cells o ho).trans (h.cells o ho), k.at1, fun o => (k.fz o).trans (h.fz o)⟩
theorem Scan.refl {R : Nat} {w : World} {i : Nat} {s : ByteArray} (k : Sc w R s i) : Scan R w w i := ⟨Near.refl _ _, fun _ _ => rfl, k.c1, fun _ => rfl⟩
theorem Scan.drewN {R : Nat} {a w : World} {q : Nat} (h : Scan R a w q) (n : Nat) : Scan R a (w.drewN n) q := ⟨⟨h.near.os, h.near.tape, h.near.output, h.near.size, h.near.block⟩, h.cells, h.at1, h.fz⟩
theorem Sc.lt {w : World} {R : Nat} {s : ByteArray} {i : Nat} (h : Sc w R s i) : R < w.heap.size :=
  Classical.byContradiction fun hge => by
    have : w.heap[R]? = none := Array.getElem?_eq_none (by omega)
    have h0 := h.c0
    simp [World.cell?, this] at h0
theorem Scan.set {w : World} {R : Nat} {s : ByteArray} {i : Nat} (h : Sc w R s i) (q : Nat) : Scan R w (w.setCell ⟨R, 1, none⟩ (.int .i64 (q : Int))) q :=
  ⟨Near.set R 1 w _, fun o ho => World.cell?_setCell_other _ _ _ _ (fun e => ho (by have := congrArg Addr.off e; simpa using this.symm)), World.cell?_setCell_same _ _ _ h.c1, fun o => World.frozen?_setCell _ _ _ _⟩
theorem Scan.below {R : Nat} {a b c : World} {q : Nat} (h : Scan R a b q) (hb : Below b.heap.size b c) (hR : R < b.heap.size) : Scan R a c q :=
  ⟨h.near.trans (Near.of_below hb), fun o ho => (hb.cell (p := ⟨R, o, none⟩) hR).trans (h.cells o ho), (hb.cell (p := ⟨R, 1, none⟩) hR).trans h.at1, fun o => (hb.frozen (p := ⟨R, o, none⟩) hR).trans (h.fz o)⟩

end Go.Proofs.YthcdeahobjhkbaaGreatDoor
