/-
  The reader of codes by which the specification draws: its block; pick.
-/
import Derived.Test.YtdijbjhmjamagaaGreatDoorB1
import Derived.Laws.BitsAllLaws
import Derived.Deep.QuietTactic
import Derived.BigQuiet
namespace Go.Proofs.YtdijbjhmjamagaaGreatDoor
open Go.RowKit

/-- The block of the reader of codes, and the bytes that it reads. -/
structure Dr (w : World) (R : Nat) (ao : Option Addr) (L cap p : Nat) : Prop where
  box : w.heap[R]? = some (.cells #[.slice ao L cap, .int .i64 (p : Int)] 84 (0, 0))
  len : L ≤ 2000
  bytes : 0 < L → ∃ b off, ao = some ⟨b, off, none⟩ ∧ b ≠ R ∧ ∀ j, j < L → ∃ u : Nat, u ≤ 255 ∧ w.cell? ⟨b, off + j, none⟩ = some (.int .u8 (u : Int))

theorem Dr.lt {w : World} {R : Nat} {ao : Option Addr} {L cap p : Nat} (h : Dr w R ao L cap p) : R < w.heap.size := (Array.getElem?_eq_some_iff.1 h.box).1
theorem Dr.keep {w w' : World} {R : Nat} {ao : Option Addr} {L cap p q : Nat} (h : Dr w R ao L cap p) (hn : Near R w w') (hb : w'.heap[R]? = some (.cells #[.slice ao L cap, .int .i64 (q : Int)] 84 (0, 0))) : Dr w' R ao L cap q := by
  refine ⟨hb, h.len, fun hl => ?_⟩
  obtain ⟨b, off, ha, hne, hc⟩ := h.bytes hl
  refine ⟨b, off, ha, hne, fun j hj => ?_⟩
  obtain ⟨u, hu, hcell⟩ := hc j hj
  exact ⟨u, hu, hn.cell hcell hne⟩
theorem Dr.same {w w' : World} {R : Nat} {ao : Option Addr} {L cap p : Nat} (h : Dr w R ao L cap p) (hb : Below w.heap.size w w') : Dr w' R ao L cap p := h.keep (Near.of_below hb) ((hb.block R h.lt).trans h.box)
theorem Dr.drewN {w : World} {R : Nat} {ao : Option Addr} {L cap p : Nat} (h : Dr w R ao L cap p) (n : Nat) : Dr (w.drewN n) R ao L cap p := ⟨h.box, h.len, h.bytes⟩
theorem Dr.set {w : World} {R : Nat} {ao : Option Addr} {L cap p : Nat} (h : Dr w R ao L cap p) (q : Nat) : Dr (w.setCell ⟨R, 1, none⟩ (.int .i64 (q : Int))) R ao L cap q :=
  h.keep (Near.set R 1 w _) (by simp [World.setCell, Array.getElem?_modify, h.box])

end Go.Proofs.YtdijbjhmjamagaaGreatDoor
