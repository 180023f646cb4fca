/-
  The specification's reader of trees: plain mathematics of what it goes over.
-/
import Derived.Test.YtpalkdcgbbbmeaaGreatDoorTRdL
import Derived.Test.YtpalkdcgbbbmeaaGreatDoorRd
import Derived.Test.YtpalkdcgbbbmeaaGreatDoorDec
import Derived.WalkSmall
import Derived.LoopTactic
import Derived.Test.YtpalkdcgbbbmeaaGreatDoorParse2
namespace Go.Proofs.YtpalkdcgbbbmeaaGreatDoor
open Go.RowKit

/-- The eight makes of a tree that is ok by itself. -/
theorem goodT_cases {m : Nat} {t : T (m + 1)} {d : Int} (h : goodT (m + 1) t d = true) :
    (∃ k : Int, (-999999999 ≤ k ∧ k ≤ 999999999) ∧ t = (⟨1, k, ByteArray.empty, [], []⟩ : Nd (T m)) ∧ txtL (m + 1) t = Lib.itoa k) ∨
    (∃ x : ByteArray, textB x = true ∧ t = (⟨2, 0, x, [], []⟩ : Nd (T m)) ∧ txtL (m + 1) t = 34 :: (x.data.toList ++ [34])) ∨
    (t = (⟨3, 1, ByteArray.empty, [], []⟩ : Nd (T m)) ∧ txtL (m + 1) t = [121, 101, 115]) ∨ (t = (⟨3, 0, ByteArray.empty, [], []⟩ : Nd (T m)) ∧ txtL (m + 1) t = [110, 111]) ∨
    (∃ ks, t = (⟨4, 0, ByteArray.empty, [], ks⟩ : Nd (T m)) ∧ (∀ k, k ∈ ks → goodT m k (d + 1) = true) ∧ txtL (m + 1) t = 91 :: (joinL (ks.map (txtL m)) ++ [93])) ∨
    (∃ ns ks, t = (⟨5, 0, ByteArray.empty, ns, ks⟩ : Nd (T m)) ∧ ns.length = ks.length ∧ (∀ x, x ∈ ns → nameB x = true) ∧ (∀ k, k ∈ ks → goodT m k (d + 1) = true) ∧ txtL (m + 1) t = 123 :: (joinL (zipL ns (ks.map (txtL m))) ++ [125])) ∨
    (t = (⟨6, 0, ByteArray.empty, [], []⟩ : Nd (T m)) ∧ txtL (m + 1) t = [126]) ∨
    (∃ k, t = (⟨6, 0, ByteArray.empty, [], [k]⟩ : Nd (T m)) ∧ goodT m k (d + 1) = true ∧ txtL (m + 1) t = 63 :: txtL m k) := by
  simp only [goodT, Bool.and_eq_true] at h
  have ha : aloneB (show Nd (T m) from t) = true := h.1.2
  have hk := List.all_eq_true.1 h.2
  obtain ⟨so, nu, tx, na, ki⟩ : Nd (T m) := t
  simp only [aloneB] at ha hk
  unfold aloneF at ha
  have nil1 : ∀ l : List ByteArray, (l.length : Int) = 0 → l = [] := fun l hl => List.eq_nil_of_length_eq_zero (by omega)
  have nil2 : ∀ l : List (T m), (l.length : Int) = 0 → l = [] := fun l hl => List.eq_nil_of_length_eq_zero (by omega)
  by_cases h1 : so = 1
  · rw [if_pos h1] at ha
    simp only [Bool.and_eq_true, beq_iff_eq, decide_eq_true_eq] at ha
    obtain ⟨⟨⟨a1, a2⟩, a3⟩, a4⟩ := ha
    have e1 := ba_empty a2
    have e2 := nil1 _ a3
    have e3 := nil2 _ a4
    subst e1 e2 e3 h1
    exact .inl ⟨nu, a1, rfl, by simp [txtL]⟩
  rw [if_neg h1] at ha
  by_cases h2 : so = 2
  · rw [if_pos h2] at ha
    simp only [Bool.and_eq_true, beq_iff_eq] at ha
    obtain ⟨⟨⟨a1, a2⟩, a3⟩, a4⟩ := ha
    have e2 := nil1 _ a3
    have e3 := nil2 _ a4
    subst a1 e2 e3 h2
    exact .inr (.inl ⟨tx, a2, rfl, by simp [txtL]⟩)
  rw [if_neg h2] at ha
  by_cases h3 : so = 3
  · rw [if_pos h3] at ha
    simp only [Bool.and_eq_true, beq_iff_eq, decide_eq_true_eq] at ha
    obtain ⟨⟨⟨a1, a2⟩, a3⟩, a4⟩ := ha
    have e1 := ba_empty a2
    have e2 := nil1 _ a3
    have e3 := nil2 _ a4
    subst e1 e2 e3 h3
    by_cases hn : 0 < nu
    · have : nu = 1 := by omega
      subst this
      exact .inr (.inr (.inl ⟨rfl, by simp [txtL]⟩))
    · have : nu = 0 := by omega
      subst this
      exact .inr (.inr (.inr (.inl ⟨rfl, by simp [txtL]⟩)))
  rw [if_neg h3] at ha
  by_cases h4 : so = 4
  · rw [if_pos h4] at ha
    simp only [Bool.and_eq_true, beq_iff_eq, decide_eq_true_eq] at ha
    obtain ⟨⟨⟨a1, a2⟩, a3⟩, a4⟩ := ha
    have e1 := ba_empty a2
    have e2 := nil1 _ a3
    subst a1 e1 e2 h4
    exact .inr (.inr (.inr (.inr (.inl ⟨ki, rfl, fun k hk' => hk k hk', by simp [txtL]⟩))))
  rw [if_neg h4] at ha
  by_cases h5 : so = 5
  · rw [if_pos h5] at ha
    simp only [Bool.and_eq_true, beq_iff_eq] at ha
    obtain ⟨⟨⟨a1, a2⟩, a3⟩, a4⟩ := ha
    have e1 := ba_empty a2
    subst a1 e1 h5
    exact .inr (.inr (.inr (.inr (.inr (.inl ⟨na, ki, rfl, by omega, riseB_name a4, fun k hk' => hk k hk', by simp [txtL]⟩)))))
  rw [if_neg h5] at ha
  by_cases h6 : so = 6
  · rw [if_pos h6] at ha
    simp only [Bool.and_eq_true, beq_iff_eq, decide_eq_true_eq] at ha
    obtain ⟨⟨⟨a1, a2⟩, a3⟩, a4⟩ := ha
    have e1 := ba_empty a2
    have e2 := nil1 _ a3
    subst a1 e1 e2 h6
    match ki, a4, hk with
    | [], _, _ => exact .inr (.inr (.inr (.inr (.inr (.inr (.inl ⟨rfl, by simp [txtL, maybeL]⟩))))))
    | [x], _, hk => exact .inr (.inr (.inr (.inr (.inr (.inr (.inr ⟨x, rfl, hk x (List.mem_cons_self ..), by simp [txtL, maybeL]⟩))))))
    | _ :: _ :: r, a4, _ => simp at a4; omega
  · rw [if_neg h6] at ha; cases ha

end Go.Proofs.YtpalkdcgbbbmeaaGreatDoor
