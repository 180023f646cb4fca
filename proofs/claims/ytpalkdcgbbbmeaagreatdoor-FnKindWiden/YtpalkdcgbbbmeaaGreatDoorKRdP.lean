/-
  The specification's reader of schemas: plain mathematics of what it goes over.
-/
import Derived.Test.YtpalkdcgbbbmeaaGreatDoorRd
import Derived.Test.YtpalkdcgbbbmeaaGreatDoorRet
import Derived.WalkSmall
import Derived.LoopTactic
import Derived.Test.YtpalkdcgbbbmeaaGreatDoorEat
import Derived.Test.YtpalkdcgbbbmeaaGreatDoorKText
namespace Go.Proofs.YtpalkdcgbbbmeaaGreatDoor
open Go.RowKit

/-- The six makes of a schema that is ok by itself. -/
theorem goodK_cases {m : Nat} {t : K (m + 1)} {d : Int} (h : goodK (m + 1) t d = true) :
    (t = (⟨1, [], []⟩ : Kd (K m)) ∧ txtK (m + 1) t = [110, 117, 109]) ∨ (t = (⟨2, [], []⟩ : Kd (K m)) ∧ txtK (m + 1) t = [116, 101, 120, 116]) ∨ (t = (⟨3, [], []⟩ : Kd (K m)) ∧ txtK (m + 1) t = [102, 108, 97, 103]) ∨
    (∃ x, t = (⟨4, [], [x]⟩ : Kd (K m)) ∧ goodK m x (d + 1) = true ∧ txtK (m + 1) t = 91 :: (txtK m x ++ [93])) ∨ (∃ x, t = (⟨6, [], [x]⟩ : Kd (K m)) ∧ goodK m x (d + 1) = true ∧ txtK (m + 1) t = 63 :: txtK m x) ∨
    (∃ na ki, t = (⟨5, na, ki⟩ : Kd (K m)) ∧ na.length = ki.length ∧ (∀ x, x ∈ na → nameB x = true) ∧ (∀ k, k ∈ ki → goodK m k (d + 1) = true) ∧ txtK (m + 1) t = 123 :: (joinL (zipL na (ki.map (txtK m))) ++ [125])) := by
  simp only [goodK, Bool.and_eq_true] at h
  have ha : aloneKF (Kd.sort t) (Kd.names t) (Kd.kids t).length = true := h.1.2
  have hk := List.all_eq_true.1 h.2
  obtain ⟨so, na, ki⟩ : Kd (K m) := t
  simp only at ha hk
  unfold aloneKF at ha
  have one : (ki.length : Int) = 1 → ∃ x, ki = [x] ∧ goodK m x (d + 1) = true := by
    intro hl
    match ki, hl, hk with
    | [x], _, hk => exact ⟨x, rfl, hk x (List.mem_cons_self ..)⟩
  by_cases h1 : so = 1
  · rw [if_pos h1] at ha
    simp only [Bool.and_eq_true, beq_iff_eq] at ha
    have e2 : na = [] := List.eq_nil_of_length_eq_zero (by have := ha.1; omega)
    have e3 : ki = [] := List.eq_nil_of_length_eq_zero (by have := ha.2; omega)
    subst e2 e3 h1
    exact .inl ⟨rfl, by simp [txtK]⟩
  rw [if_neg h1] at ha
  by_cases h2 : so = 2
  · rw [if_pos h2] at ha
    simp only [Bool.and_eq_true, beq_iff_eq] at ha
    have e2 : na = [] := List.eq_nil_of_length_eq_zero (by have := ha.1; omega)
    have e3 : ki = [] := List.eq_nil_of_length_eq_zero (by have := ha.2; omega)
    subst e2 e3 h2
    exact .inr (.inl ⟨rfl, by simp [txtK]⟩)
  rw [if_neg h2] at ha
  by_cases h3 : so = 3
  · rw [if_pos h3] at ha
    simp only [Bool.and_eq_true, beq_iff_eq] at ha
    have e2 : na = [] := List.eq_nil_of_length_eq_zero (by have := ha.1; omega)
    have e3 : ki = [] := List.eq_nil_of_length_eq_zero (by have := ha.2; omega)
    subst e2 e3 h3
    exact .inr (.inr (.inl ⟨rfl, by simp [txtK]⟩))
  rw [if_neg h3] at ha
  by_cases h4 : so = 4
  · rw [if_pos h4] at ha
    simp only [Bool.and_eq_true, beq_iff_eq] at ha
    have e2 : na = [] := List.eq_nil_of_length_eq_zero (by have := ha.1; omega)
    obtain ⟨x, e3, hx⟩ := one ha.2
    subst e2 e3 h4
    exact .inr (.inr (.inr (.inl ⟨x, rfl, hx, by simp [txtK, headL]⟩)))
  rw [if_neg h4] at ha
  by_cases h5 : so = 5
  · rw [if_pos h5] at ha
    simp only [Bool.and_eq_true, beq_iff_eq] at ha
    have hl : na.length = ki.length := by have := ha.1; omega
    subst h5
    exact .inr (.inr (.inr (.inr (.inr ⟨na, ki, rfl, hl, riseB_name ha.2, fun k hk' => hk k hk', by simp [txtK]⟩))))
  rw [if_neg h5] at ha
  by_cases h6 : so = 6
  · rw [if_pos h6] at ha
    simp only [Bool.and_eq_true, beq_iff_eq] at ha
    have e2 : na = [] := List.eq_nil_of_length_eq_zero (by have := ha.1; omega)
    obtain ⟨x, e3, hx⟩ := one ha.2
    subst e2 e3 h6
    exact .inr (.inr (.inr (.inr (.inl ⟨x, rfl, hx, by simp [txtK, headL]⟩))))
  · rw [if_neg h6] at ha; cases ha

end Go.Proofs.YtpalkdcgbbbmeaaGreatDoor
