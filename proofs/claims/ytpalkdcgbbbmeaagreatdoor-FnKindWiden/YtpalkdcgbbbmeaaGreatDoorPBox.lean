/-
  Two schemas and a tree in boxes of the law's; a tree that was answered in its box.
-/
import Derived.Test.YtpalkdcgbbbmeaaGreatDoorBoxT
import Derived.Test.YtpalkdcgbbbmeaaGreatDoorBoxK
import Derived.Test.YtpalkdcgbbbmeaaGreatDoorWD6
namespace Go.Proofs.YtpalkdcgbbbmeaaGreatDoor
open Go.RowKit

/-- Two schemas and a tree, in their boxes. -/
structure BoxKKT (B : Nat) (w : World) (m : Nat) (a b : K m) (t : T m) (X : Nat) (a0 a1 a2 b0 b1 b2 d0 d1 d2 d3 d4 : Value) : Prop where
  a : BoxK B w m a X a0 a1 a2
  b : BoxK B w m b (X + 1) b0 b1 b2
  t : BoxT B w m t (X + 1 + 1) d0 d1 d2 d3 d4

theorem BoxKKT.keep {B : Nat} {w w' : World} {m : Nat} {a b : K m} {t : T m} {X : Nat} {a0 a1 a2 b0 b1 b2 d0 d1 d2 d3 d4 : Value} (h : BoxKKT B w m a b t X a0 a1 a2 b0 b1 b2 d0 d1 d2 d3 d4) (hb : Below w.heap.size w w') : BoxKKT B w' m a b t X a0 a1 a2 b0 b1 b2 d0 d1 d2 d3 d4 :=
  ⟨h.a.keep hb, h.b.keep hb, h.t.keep hb⟩

theorem kkt_new {w : World} {m : Nat} {a b : K m} {t : T m} {a0 a1 a2 b0 b1 b2 d0 d1 d2 d3 d4 : Value} (B : Nat) (ha : KindIn (fun b => B ≤ b ∧ b < w.heap.size) w m a a0 a1 a2) (hb : KindIn (fun b => B ≤ b ∧ b < w.heap.size) w m b b0 b1 b2) (ht : TreeIn (fun b => B ≤ b ∧ b < w.heap.size) w m t d0 d1 d2 d3 d4) :
    BoxKKT w.heap.size (((w.alloc (.cells #[a0, a1, a2] 26)).alloc (.cells #[b0, b1, b2] 26)).alloc (.cells #[d0, d1, d2, d3, d4] 29)) m a b t w.heap.size a0 a1 a2 b0 b1 b2 d0 d1 d2 d3 d4 := by
  have h1 : Below w.heap.size w (w.alloc (.cells #[a0, a1, a2] 26)) := (Below.refl _ _).alloc (Nat.le_refl _) _
  have h2 : Below (w.alloc (.cells #[a0, a1, a2] 26)).heap.size (w.alloc (.cells #[a0, a1, a2] 26)) ((w.alloc (.cells #[a0, a1, a2] 26)).alloc (.cells #[b0, b1, b2] 26)) := (Below.refl _ _).alloc (Nat.le_refl _) _
  have h3 : Below ((w.alloc (.cells #[a0, a1, a2] 26)).alloc (.cells #[b0, b1, b2] 26)).heap.size ((w.alloc (.cells #[a0, a1, a2] 26)).alloc (.cells #[b0, b1, b2] 26)) (((w.alloc (.cells #[a0, a1, a2] 26)).alloc (.cells #[b0, b1, b2] 26)).alloc (.cells #[d0, d1, d2, d3, d4] 29)) := (Below.refl _ _).alloc (Nat.le_refl _) _
  have h4 := below_step (below_step h1 h1.size h2) (below_step h1 h1.size h2).size h3
  have hx := Box3.new (w.alloc (.cells #[a0, a1, a2] 26)) b0 b1 b2 26
  rw [show (w.alloc (.cells #[a0, a1, a2] 26)).heap.size = w.heap.size + 1 by simp] at hx
  have hy := Box5.new ((w.alloc (.cells #[a0, a1, a2] 26)).alloc (.cells #[b0, b1, b2] 26)) d0 d1 d2 d3 d4 29
  rw [show ((w.alloc (.cells #[a0, a1, a2] 26)).alloc (.cells #[b0, b1, b2] 26)).heap.size = w.heap.size + 1 + 1 by simp] at hy
  exact ⟨⟨((Box3.new w a0 a1 a2 26).keep h2).keep h3, ha.keep (fun b hb => h4.block b hb.2) (fun b hb => hb.2), h4.size⟩, ⟨hx.keep h3, hb.keep (fun b hb => h4.block b hb.2) (fun b hb => hb.2), h4.size⟩, ⟨hy, ht.keep (fun b hb => h4.block b hb.2) (fun b hb => hb.2), h4.size⟩⟩

theorem nil_sort {S : Nat → Prop} {w : World} : ∀ {m : Nat} {b : K m} {x0 : Int} {c1 c2 c3 c4 : Value}, TreeIn S w m (nilT m b) (.int .i64 x0) c1 c2 c3 c4 → x0 = 0 := by
  intro m
  cases m with
  | zero => intro _ x0 c1 c2 c3 c4 h; exact h.elim
  | succ m =>
    intro b x0 c1 c2 c3 c4 h
    have h1 : Value.int .i64 x0 = .int .i64 0 := h.1
    cases h1; rfl

theorem boxT_new {w : World} {m : Nat} {t : T m} {d0 d1 d2 d3 d4 : Value} (B : Nat) (ht : TreeIn (fun b => B ≤ b ∧ b < w.heap.size) w m t d0 d1 d2 d3 d4) : BoxT w.heap.size (w.alloc (.cells #[d0, d1, d2, d3, d4] 29)) m t w.heap.size d0 d1 d2 d3 d4 :=
  ⟨Box5.new _ _ _ _ _ _ _, ht.keep (fun b hb => ((Below.refl w.heap.size w).alloc (Nat.le_refl _) _).block b hb.2) (fun _ hb => hb.2), ((Below.refl w.heap.size w).alloc (Nat.le_refl _) _).size⟩

end Go.Proofs.YtpalkdcgbbbmeaaGreatDoor
