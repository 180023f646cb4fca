/-
  The specification's l2Has, KindHas: what they answer.
-/
import Derived.Test.YtpalkdcgbbbmeaaGreatDoorKHas
import Derived.Test.YtpalkdcgbbbmeaaGreatDoorKSpec
import Derived.Test.YtpalkdcgbbbmeaaGreatDoorSpec3
import Derived.Test.YtpalkdcgbbbmeaaGreatDoorBox
import Derived.Deep.RegionLaw
import Derived.Deep.QuietTactic
import Derived.BigQuiet
namespace Go.Proofs.YtpalkdcgbbbmeaaGreatDoor
open Go.RowKit

theorem str_beq (a b : ByteArray) : (a.toList == b.toList) = decide (a = b) := by
  rw [ByteArray.toList_eq, ByteArray.toList_eq]
  by_cases h : a = b
  · subst h; simp
  · rw [decide_eq_false h, beq_eq_false_iff_ne]
    intro e
    exact h (WideShapes.bytes_inj e)

/-- What a good node of a schema has as kids. -/
theorem goodK_kids {n : Nat} {k : K (n + 1)} {d : Int} (h : goodK (n + 1) k d = true) :
    ((Kd.sort k = 1 ∨ Kd.sort k = 2 ∨ Kd.sort k = 3) ∧ Kd.names k = [] ∧ Kd.kids k = []) ∨ ((Kd.sort k = 4 ∨ Kd.sort k = 6) ∧ Kd.names k = [] ∧ ∃ x, Kd.kids k = [x]) ∨ (Kd.sort k = 5 ∧ (Kd.names k).length = (Kd.kids k).length ∧ riseB (Kd.names k) = true) := by
  simp only [goodK, Bool.and_eq_true] at h
  have ha : aloneKF (Kd.sort k) (Kd.names k) (Kd.kids k).length = true := h.1.2
  unfold aloneKF at ha
  by_cases h1 : Kd.sort k = 1
  · rw [if_pos h1] at ha; simp at ha; exact .inl ⟨.inl h1, ha.1, ha.2⟩
  rw [if_neg h1] at ha
  by_cases h2 : Kd.sort k = 2
  · rw [if_pos h2] at ha; simp at ha; exact .inl ⟨.inr (.inl h2), ha.1, ha.2⟩
  rw [if_neg h2] at ha
  by_cases h3 : Kd.sort k = 3
  · rw [if_pos h3] at ha; simp at ha; exact .inl ⟨.inr (.inr h3), ha.1, ha.2⟩
  rw [if_neg h3] at ha
  have one : ∀ l : List (K n), (l.length : Int) = 1 → ∃ x, l = [x] := by
    intro l hl
    match l, hl with
    | [x], _ => exact ⟨x, rfl⟩
    | x :: y :: r, hl => simp at hl; omega
  by_cases h4 : Kd.sort k = 4
  · rw [if_pos h4] at ha; simp only [Bool.and_eq_true, beq_iff_eq] at ha
    exact .inr (.inl ⟨.inl h4, List.eq_nil_of_length_eq_zero (by omega), one _ ha.2⟩)
  rw [if_neg h4] at ha
  by_cases h5 : Kd.sort k = 5
  · rw [if_pos h5] at ha; simp only [Bool.and_eq_true, beq_iff_eq] at ha
    exact .inr (.inr ⟨h5, by omega, ha.2⟩)
  rw [if_neg h5] at ha
  by_cases h6 : Kd.sort k = 6
  · rw [if_pos h6] at ha; simp only [Bool.and_eq_true, beq_iff_eq] at ha
    exact .inr (.inl ⟨.inr h6, List.eq_nil_of_length_eq_zero (by omega), one _ ha.2⟩)
  · rw [if_neg h6] at ha; cases ha

/-- What a good node of a tree has as names and kids. -/
theorem goodT_kids {n : Nat} {t : T (n + 1)} {d : Int} (h : goodT (n + 1) t d = true) :
    ((Nd.sort t = 1 ∨ Nd.sort t = 2 ∨ Nd.sort t = 3) → Nd.names t = [] ∧ Nd.kids t = []) ∧ ((Nd.sort t = 4 ∨ Nd.sort t = 6) → Nd.names t = []) ∧ (Nd.sort t = 5 → (Nd.names t).length = (Nd.kids t).length ∧ riseB (Nd.names t) = true) := by
  simp only [goodT, Bool.and_eq_true] at h
  have ha : aloneF (Nd.sort t) (Nd.num t) (Nd.text t) (Nd.names t) (Nd.kids t).length = true := h.1.2
  refine ⟨fun hs => ?_, fun hs => ?_, fun hs => ?_⟩
  · unfold aloneF at ha
    rcases hs with hs | hs | hs
    · rw [hs] at ha; simp at ha; exact ⟨ha.1.2, ha.2⟩
    · rw [hs] at ha; simp at ha; exact ⟨ha.1.2, ha.2⟩
    · rw [hs] at ha; simp at ha; exact ⟨ha.1.2, ha.2⟩
  · unfold aloneF at ha
    rcases hs with hs | hs
    · rw [hs] at ha; simp at ha; exact ha.1.2
    · rw [hs] at ha; simp at ha; exact ha.1.2
  · unfold aloneF at ha
    rw [hs] at ha; simp at ha; exact ⟨by omega, ha.2⟩

/-- l2Has at schemas of at most n levels. -/
def HasSSaid (n : Nat) : Prop := ∀ (S S' : Nat → Prop) (m : Nat) (k : K n) (t : T m) (c0 c1 c2 e0 e1 e2 e3 e4 : Value) (d d' : Int) (w : World), KindIn S w n k c0 c1 c2 → TreeIn S' w m t e0 e1 e2 e3 e4 → (∀ b, S b → b < w.heap.size) → (∀ b, S' b → b < w.heap.size) →
  goodK n k d = true → goodT m t d' = true →
  Calls Tryz.prog 33 #[.agg #[c0, c1, c2], .agg #[e0, e1, e2, e3, e4]] w fun e w' => e = .returned (.bool (hasK n k m t)) ∧ Below w.heap.size w w'

theorem hasK_no {n m : Nat} {k : K (n + 1)} {t : T (m + 1)} (h : Kd.sort k ≠ Nd.sort t ∨ Kd.names k ≠ Nd.names t) : hasK (n + 1) k (m + 1) t = false := by
  simp only [hasK]
  rcases h with h | h
  · rw [show (Kd.sort k == Nd.sort t) = false by simpa using h]; simp
  · rw [decide_eq_false h]; simp

theorem names_ne {a b : List ByteArray} (i : Nat) (h1 : i < a.length) (h2 : i < b.length) (h : a[i] ≠ b[i]) : a ≠ b := by
  intro e; subst e; exact h rfl

theorem names_eq {a b : List ByteArray} (hl : a.length = b.length) (h : ∀ i (h1 : i < a.length) (h2 : i < b.length), a[i] = b[i]) : a = b := List.ext_getElem hl (fun i h1 h2 => h i h1 h2)

end Go.Proofs.YtpalkdcgbbbmeaaGreatDoor
