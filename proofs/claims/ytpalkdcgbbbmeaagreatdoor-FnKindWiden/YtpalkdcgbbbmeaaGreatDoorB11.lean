/-
 Several texts in one, in their order.
-/
import Derived.Test.YtpalkdcgbbbmeaaGreatDoorB1
import Derived.Laws.IdiomStrings
import Derived.Deep.QuietTactic
import Derived.BigQuiet

/-
 The specification's reader of trees: its block; look, eat.
-/
namespace Go.Proofs.YtpalkdcgbbbmeaaGreatDoor
open Go.RowKit

theorem Near.drewN {R : Nat} {a w : World} (h : Near R a w) (n : Nat) : Near R a (w.drewN n) := ⟨h.os, h.tape, h.output, h.size, h.block⟩

end Go.Proofs.YtpalkdcgbbbmeaaGreatDoor

/-
 Marks: spots of memory that are written one after the other; the text of a mark.
-/
namespace Go.Proofs.YtpalkdcgbbbmeaaGreatDoor
open Go.RowKit

theorem mlt {w : World} {b o : Nat} {v : Value} (h : w.cell? ⟨b, o, none⟩ = some v) : b < w.heap.size :=
 Classical.byContradiction fun hge => by
  have : w.heap[b]? = none := Array.getElem?_eq_none (by omega)
  simp [World.cell?, this] at h

structure Spot where
 b : Nat
 o : Nat
 tx : Bool

def Spot.at (s : Spot) : Addr := ⟨s.b, s.o, none⟩

structure Sim (w w' : World) : Prop where
 int : ∀ b o x, w.cell? ⟨b, o, none⟩ = some (.int .i64 x) → ∃ y, w'.cell? ⟨b, o, none⟩ = some (.int .i64 y)
 str : ∀ b o x, w.cell? ⟨b, o, none⟩ = some (.string x) → ∃ y, w'.cell? ⟨b, o, none⟩ = some (.string y)
 sl : ∀ b o a l c, w.cell? ⟨b, o, none⟩ = some (.slice a l c) → w'.cell? ⟨b, o, none⟩ = some (.slice a l c)
 fz : ∀ b o, b < w.heap.size → w'.frozen? ⟨b, o, none⟩ = w.frozen? ⟨b, o, none⟩
 size : w.heap.size ≤ w'.heap.size

theorem Sim.refl (w : World) : Sim w w := ⟨fun _ _ x h => ⟨x, h⟩, fun _ _ x h => ⟨x, h⟩, fun _ _ _ _ _ h => h, fun _ _ _ => rfl, Nat.le_refl _⟩

theorem Sim.trans {a b c : World} (h : Sim a b) (k : Sim b c) : Sim a c := by
 refine ⟨fun b o x hx => ?_, fun b o x hx => ?_, fun b o _ _ _ hx => k.sl _ _ _ _ _ (h.sl _ _ _ _ _ hx), fun b o hb => ?_, Nat.le_trans h.size k.size⟩
 · obtain ⟨y, hy⟩ := h.int b o x hx; exact k.int b o y hy
 · obtain ⟨y, hy⟩ := h.str b o x hx; exact k.str b o y hy
 · rw [k.fz b o (Nat.lt_of_lt_of_le hb h.size), h.fz b o hb]

theorem Sim.below {a b c : World} (h : Sim a b) (hb : Below b.heap.size b c) : Sim a c := by
 refine h.trans ⟨fun b' o x hx => ?_, fun b' o x hx => ?_, fun b' o _ _ _ hx => ?_, fun b' o hb' => hb.frozen (p := ⟨b', o, none⟩) hb', hb.size⟩
 · exact ⟨x, (hb.cell (p := ⟨b', o, none⟩) (mlt hx)).trans hx⟩
 · exact ⟨x, (hb.cell (p := ⟨b', o, none⟩) (mlt hx)).trans hx⟩
 · exact (hb.cell (p := ⟨b', o, none⟩) (mlt hx)).trans hx

def Spot.ok (s : Spot) (w : World) : Prop := (if s.tx then ∃ x, w.cell? s.at = some (.string x) else ∃ x, w.cell? s.at = some (.int .i64 x)) ∧ w.frozen? s.at = false

theorem Spot.ok_lt {s : Spot} {w : World} (h : s.ok w) : s.b < w.heap.size := by
 obtain ⟨h, -⟩ := h
 cases ht : s.tx with
 | true => rw [ht] at h; obtain ⟨x, hx⟩ := h; exact mlt (o := s.o) hx
 | false => rw [ht] at h; obtain ⟨x, hx⟩ := h; exact mlt (o := s.o) hx

theorem Spot.ok_sim {s : Spot} {w w' : World} (h : s.ok w) (hs : Sim w w') : s.ok w' := by
 have hlt := Spot.ok_lt h
 obtain ⟨h1, h2⟩ := h
 refine ⟨?_, (hs.fz s.b s.o hlt).trans h2⟩
 cases ht : s.tx with
 | true =>
  rw [ht] at h1
  obtain ⟨x, hx⟩ := h1
  exact hs.str s.b s.o x hx
 | false =>
  rw [ht] at h1
  obtain ⟨x, hx⟩ := h1
  exact hs.int s.b s.o x hx

end Go.Proofs.YtpalkdcgbbbmeaaGreatDoor
