/-
  A buffer of bytes that a call owns, carried from append to append.
-/
import Derived.Test.YtpnnbdejneoccaaB1
import Derived.Lib.AppendStr
import Derived.Lib.Hide
import Derived.Lib.OthersKept
import Derived.Laws.IdiomStrings
namespace Go.Proofs.Ytpnnbdejneoccaa
open Go.RowKit

/-- In w the slice v owns a row of just the bytes l, in a block from B on; below B all is as it was in w0. -/
structure Buf (B : Nat) (w0 w : World) (v : Value) (l : List UInt8) : Prop where
  own : w.ownsRow B 5 1 v l.length (Lib.byteCells l)
  below : Below B w0 w
  le : B ≤ w.heap.size
  kept : Lib.OthersKept 5 none w0 w

theorem Buf.nil {B : Nat} {w : World} (h : B ≤ w.heap.size) : Buf B w w (.slice none 0 0) [] := ⟨World.ownsRow_nil _ _ _ _, Below.refl _ _, h, Lib.OthersKept.refl _ _ _⟩

theorem Buf.from {B : Nat} {w0 w1 w : World} {v v0 : Value} {l l0 : List UInt8} (h : Buf B w1 w v l) (hb : Buf B w0 w1 v0 l0) : Buf B w0 w v l := ⟨h.own, hb.below.trans h.below, h.le, hb.kept.trans h.kept⟩

theorem Buf.alloc {B : Nat} {w0 w : World} {v : Value} {l : List UInt8} (h : Buf B w0 w v l) (o : Obj) : Buf B w0 (w.alloc o) v l := ⟨h.own.alloc o, h.below.alloc h.le o, by have := h.le; simp; omega, h.kept.alloc o⟩

theorem Buf.grown {B : Nat} {w0 w w' : World} {v v' : Value} {l l' : List UInt8} (h : Buf B w0 w v l) (ho : w'.ownsRow B 5 1 v' l'.length (Lib.byteCells l')) (hg : w.grownBy w' v.ownBlock) : Buf B w0 w' v' l' :=
  ⟨ho, h.below.grown hg h.le (fun k hk => (h.own.lt k hk).1), Nat.le_trans h.le hg.size, h.kept.grown hg (fun g hg' => by
    rcases h.own.2 with ⟨rfl, h0⟩ | ⟨g', cap, cur, rfl, hbg, hgg, hnc, hcm, hcs, htake⟩
    · cases hg'
    · have : g' = g := by simpa [Value.ownBlock] using hg'
      subst this
      exact ⟨_, _, hgg⟩)⟩

theorem Buf.shape {B : Nat} {w0 w : World} {v : Value} {l : List UInt8} (h : Buf B w0 w v l) : ∃ a N c, v = .slice a N c := by
  rcases h.own.2 with ⟨rfl, h0⟩ | ⟨g, cap, cur, rfl, hbg, hg, hnc, hcm, hcs, htake⟩
  · exact ⟨_, _, _, rfl⟩
  · exact ⟨_, _, _, rfl⟩

theorem Buf.drew {B : Nat} {w0 w : World} {v : Value} {l : List UInt8} (h : Buf B w0 w v l) : Buf B w0 w.drew v l := ⟨h.own.drew, h.below.drew, h.le, h.kept.drew⟩

end Go.Proofs.Ytpnnbdejneoccaa
