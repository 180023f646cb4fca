/-
  The specification's l2Has, KindHas: what they answer.
-/
import Derived.Test.YtamkblgldlkooaaDoorB1
import Derived.Test.YtamkblgldlkooaaDoorKSpec
import Derived.Test.YtamkblgldlkooaaDoorSpecN
import Derived.Test.YtamkblgldlkooaaDoorSz
import Derived.Deep.RegionLaw
import Derived.Deep.QuietTactic
import Derived.BigQuiet
namespace Go.Proofs.YtamkblgldlkooaaDoor
open Go.RowKit

theorem str_beq (a b : ByteArray) : (a.toList == b.toList) = decide (a = b) := by
  rw [ByteArray.toList_eq, ByteArray.toList_eq]
  by_cases h : a = b
  · subst h; simp
  · rw [decide_eq_false h, beq_eq_false_iff_ne]
    intro e
    exact h (WideShapes.bytes_inj e)

/-- What a good node of a schema has as kids. -/
theorem goodK_kids {n : Nat} {k : K (n + 1)} {d : Int} (h : goodK (n + 1) k d = true) :
    ((Kd.sort k = 1 ∨ Kd.sort k = 2 ∨ Kd.sort k = 3) ∧ Kd.names k = [] ∧ Kd.kids k = []) ∨ ((Kd.sort k = 4 ∨ Kd.sort k = 6) ∧ Kd.names k = [] ∧ ∃ x, Kd.kids k = [x]) ∨ (Kd.sort k = 5 ∧ (Kd.names k).length = (Kd.kids k).length ∧ riseB (Kd.names k) = true) := by
  simp only [goodK, Bool.and_eq_true] at h
  have ha : aloneKF (Kd.sort k) (Kd.names k) (Kd.kids k).length = true := h.1.2
  unfold aloneKF at ha
  by_cases h1 : Kd.sort k = 1
  · rw [if_pos h1] at ha; simp at ha; exact .inl ⟨.inl h1, ha.1, ha.2⟩
  rw [if_neg h1] at ha
  by_cases h2 : Kd.sort k = 2
  · rw [if_pos h2] at ha; simp at ha; exact .inl ⟨.inr (.inl h2), ha.1, ha.2⟩
  rw [if_neg h2] at ha
  by_cases h3 : Kd.sort k = 3
  · rw [if_pos h3] at ha; simp at ha; exact .inl ⟨.inr (.inr h3), ha.1, ha.2⟩
  rw [if_neg h3] at ha
  have one : ∀ l : List (K n), (l.length : Int) = 1 → ∃ x, l = [x] := by
    intro l hl
    match l, hl with
    | [x], _ => exact ⟨x, rfl⟩
    | x :: y :: r, hl => simp at hl; omega
  by_cases h4 : Kd.sort k = 4
  · rw [if_pos h4] at ha; simp only [Bool.and_eq_true, beq_iff_eq] at ha
    exact .inr (.inl ⟨.inl h4, List.eq_nil_of_length_eq_zero (by omega), one _ ha.2⟩)
  rw [if_neg h4] at ha
  by_cases h5 : Kd.sort k = 5
  · rw [if_pos h5] at ha; simp only [Bool.and_eq_true, beq_iff_eq] at ha
    exact .inr (.inr ⟨h5, by omega, ha.2⟩)
  rw [if_neg h5] at ha
  by_cases h6 : Kd.sort k = 6
  · rw [if_pos h6] at ha; simp only [Bool.and_eq_true, beq_iff_eq] at ha
    exact .inr (.inl ⟨.inr h6, List.eq_nil_of_length_eq_zero (by omega), one _ ha.2⟩)
  · rw [if_neg h6] at ha; cases ha

end Go.Proofs.YtamkblgldlkooaaDoor
