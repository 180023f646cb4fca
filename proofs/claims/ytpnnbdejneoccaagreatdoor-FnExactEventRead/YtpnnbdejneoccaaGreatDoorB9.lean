/-
  Several texts in one, in their order.
-/
import Derived.Test.YtpnnbdejneoccaaGreatDoorB1
import Derived.Test.YtpnnbdejneoccaaGreatDoorB2
import Derived.Lib.AppendStr
import Derived.Lib.Hide
import Derived.Laws.IdiomStrings
import Derived.Laws.OwnMore
import Derived.BigQuiet

/-
  Bytes that a call has made, carried from append to append.
-/
namespace Go.Proofs.YtpnnbdejneoccaaGreatDoor
open Go.RowKit

/-- In w the slice v owns a row of just the bytes l, in a block that w0 had not; what w0 had is as it was. -/
structure Bb (w0 w : World) (v : Value) (l : List UInt8) : Prop where
  own : w.ownsRow w0.heap.size 5 1 v l.length (Lib.byteCells l)
  below : Below w0.heap.size w0 w

theorem Bb.keep {w0 w w' : World} {v : Value} {l : List UInt8} (h : Bb w0 w v l) (hb : Below w.heap.size w w') : Bb w0 w' v l :=
  ⟨r1_keep h.own (fun g hg => hb.block g (r1_lt h.own g hg).2), below_step h.below h.below.size hb⟩

theorem Bb.alloc {w0 w : World} {v : Value} {l : List UInt8} (h : Bb w0 w v l) (o : Obj) : Bb w0 (w.alloc o) v l := h.keep ((Below.refl _ _).alloc (Nat.le_refl _) o)

theorem Bb.shape {w0 w : World} {v : Value} {l : List UInt8} (h : Bb w0 w v l) : ∃ a c, v = .slice a l.length c := r1_shape h.own

theorem Bb.grown {w0 w w' : World} {v v' : Value} {l l' : List UInt8} (h : Bb w0 w v l) (ho : w'.ownsRow w0.heap.size 5 1 v' l'.length (Lib.byteCells l')) (hg : w.grownBy w' v.ownBlock) : Bb w0 w' v' l' :=
  ⟨ho, h.below.grown hg h.below.size (fun k hk => (h.own.lt k hk).1)⟩

/-- As one that is read. -/
def byteR (x : UInt8) (c : Value) : Prop := c = .int .u8 (x.toNat : Int)

theorem Bb.row {w0 w : World} {v : Value} {l : List UInt8} (h : Bb w0 w v l) (hl : l.length ≤ maxLen) : Row1 (fun b => w0.heap.size ≤ b ∧ b < w.heap.size) w byteR l v :=
  row1_of_owns h.own hl (fun g hg => r1_lt h.own g hg) (fun i hi hx => by simp [byteR, Lib.byteCells])

end Go.Proofs.YtpnnbdejneoccaaGreatDoor

/-
  Bytes: compared, marked, held.
-/
namespace Go.Proofs.YtpnnbdejneoccaaGreatDoor
open Go.RowKit

/-- A row of bytes that a call owns. -/
def OwnB (B : Nat) (w : World) (v : Value) (l : List UInt8) : Prop := w.ownsRow B 5 1 v l.length (Lib.byteCells l)

theorem OwnB.row {B : Nat} {w : World} {v : Value} {l : List UInt8} (h : OwnB B w v l) (hl : l.length ≤ maxLen) : Row1 (fun b => B ≤ b ∧ b < w.heap.size) w byteR l v :=
  row1_of_owns h hl (fun g hg => r1_lt h g hg) (fun i hi hx => by simp [byteR, Lib.byteCells])

theorem OwnB.keep {B : Nat} {w w' : World} {v : Value} {l : List UInt8} (h : OwnB B w v l) (hs : ∀ b, B ≤ b → b < w.heap.size → w'.heap[b]? = w.heap[b]?) : OwnB B w' v l :=
  r1_keep h (fun g hg => hs g (r1_lt h g hg).1 (r1_lt h g hg).2)

theorem OwnB.cells {B : Nat} {w : World} {v : Value} {l : List UInt8} (h : OwnB B w v l) (j : Nat) (hj : j < l.length) : ∃ g c, v = .slice (some ⟨g, 0, none⟩) l.length c ∧ w.cell? ⟨g, 0 + j, none⟩ = some (.int .u8 (l[j].toNat : Int)) ∧ w.frozen? ⟨g, 0 + j, none⟩ = false := by
  rcases h.2 with ⟨rfl, h0⟩ | ⟨g, cap, cur, rfl, hbg, hg, hnc, hcm, hcs, htake⟩
  · omega
  · refine ⟨g, cap, rfl, ?_, by simp [World.frozen?, hg]⟩
    have := World.ownsRow.cells h (g := g) rfl j (.int .u8 (l[j].toNat : Int)) (by simp [Lib.byteCells, hj])
    rw [Addr.add_lit] at this
    exact this

end Go.Proofs.YtpnnbdejneoccaaGreatDoor
