/-
  Several texts in one, in their order.
-/
import Derived.Test.YtpnnbdejneoccaaGreatDoorB1
import Derived.Lib.AppendStr
import Derived.Lib.Hide
import Derived.Lib.OthersKept
import Derived.Laws.IdiomStrings
import Derived.Test.YtpnnbdejneoccaaGreatDoorB12
import Derived.Test.YtpnnbdejneoccaaGreatDoorShelf
import Derived.Lib.AppendIntMem
import Derived.Test.YtpnnbdejneoccaaGreatDoorB14
import Derived.Test.YtpnnbdejneoccaaGreatDoorTMade
import Derived.Deep.RegionLaw

/-
  A buffer of bytes that a call owns, carried from append to append.
-/
namespace Go.Proofs.YtpnnbdejneoccaaGreatDoor
open Go.RowKit

/-- In w the slice v owns a row of just the bytes l, in a block from B on; below B all is as it was in w0. -/
structure Buf (B : Nat) (w0 w : World) (v : Value) (l : List UInt8) : Prop where
  own : w.ownsRow B 5 1 v l.length (Lib.byteCells l)
  below : Below B w0 w
  le : B ≤ w.heap.size
  kept : Lib.OthersKept 5 none w0 w

theorem Buf.nil {B : Nat} {w : World} (h : B ≤ w.heap.size) : Buf B w w (.slice none 0 0) [] := ⟨World.ownsRow_nil _ _ _ _, Below.refl _ _, h, Lib.OthersKept.refl _ _ _⟩

theorem Buf.from {B : Nat} {w0 w1 w : World} {v v0 : Value} {l l0 : List UInt8} (h : Buf B w1 w v l) (hb : Buf B w0 w1 v0 l0) : Buf B w0 w v l := ⟨h.own, hb.below.trans h.below, h.le, hb.kept.trans h.kept⟩

theorem Buf.alloc {B : Nat} {w0 w : World} {v : Value} {l : List UInt8} (h : Buf B w0 w v l) (o : Obj) : Buf B w0 (w.alloc o) v l := ⟨h.own.alloc o, h.below.alloc h.le o, by have := h.le; simp; omega, h.kept.alloc o⟩

theorem Buf.grown {B : Nat} {w0 w w' : World} {v v' : Value} {l l' : List UInt8} (h : Buf B w0 w v l) (ho : w'.ownsRow B 5 1 v' l'.length (Lib.byteCells l')) (hg : w.grownBy w' v.ownBlock) : Buf B w0 w' v' l' :=
  ⟨ho, h.below.grown hg h.le (fun k hk => (h.own.lt k hk).1), Nat.le_trans h.le hg.size, h.kept.grown hg (fun g hg' => by
    rcases h.own.2 with ⟨rfl, h0⟩ | ⟨g', cap, cur, rfl, hbg, hgg, hnc, hcm, hcs, htake⟩
    · cases hg'
    · have : g' = g := by simpa [Value.ownBlock] using hg'
      subst this
      exact ⟨_, _, hgg⟩)⟩

theorem Buf.shape {B : Nat} {w0 w : World} {v : Value} {l : List UInt8} (h : Buf B w0 w v l) : ∃ a N c, v = .slice a N c := by
  rcases h.own.2 with ⟨rfl, h0⟩ | ⟨g, cap, cur, rfl, hbg, hg, hnc, hcm, hcs, htake⟩
  · exact ⟨_, _, _, rfl⟩
  · exact ⟨_, _, _, rfl⟩

theorem Buf.drew {B : Nat} {w0 w : World} {v : Value} {l : List UInt8} (h : Buf B w0 w v l) : Buf B w0 w.drew v l := ⟨h.own.drew, h.below.drew, h.le, h.kept.drew⟩

end Go.Proofs.YtpnnbdejneoccaaGreatDoor

/-
  The text of a tree, by the program: appendList, appendForm, appendMaybe.
-/
namespace Go.Proofs.YtpnnbdejneoccaaGreatDoor
open Go.RowKit

/-- The table of tens, whatever is done from block B on. -/
def Tens (B : Nat) (w : World) : Prop := Lib.TabBelow Tryz.prog B w "internal/strconv.uint64pow10" .u64 Lib.pow10Tab

theorem Tens.on {B : Nat} {w w' : World} (h : Tens B w) (hb : Below B w w') : Tens B w' := Lib.TabBelow.on h hb

end Go.Proofs.YtpnnbdejneoccaaGreatDoor

/-
  TreeWrite of the program: what it answers.
-/
namespace Go.Proofs.YtpnnbdejneoccaaGreatDoor
open Go.RowKit

/-- The table of tens lies below all that the call makes. -/
def TensIn (w : World) : Prop := Lib.TabBelow Tryz.prog w.heap.size w "internal/strconv.uint64pow10" .u64 Lib.pow10Tab

theorem TensIn.step {w w' : World} (h : TensIn w) (hb : Below w.heap.size w w') : TensIn w' := fun w2 h2 => h w2 (hb.trans (h2.mono hb.size))

end Go.Proofs.YtpnnbdejneoccaaGreatDoor
