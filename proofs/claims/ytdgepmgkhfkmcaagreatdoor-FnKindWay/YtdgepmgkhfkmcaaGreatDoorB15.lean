/-
  Several texts in one, in their order.
-/
import Derived.Test.YtdgepmgkhfkmcaaGreatDoorB1
import Derived.Laws.IdiomStrings
import Derived.Deep.QuietTactic
import Derived.BigQuiet
import Derived.WalkSmall
import Derived.LoopTactic
import Derived.Test.YtdgepmgkhfkmcaaGreatDoorB13
import Derived.Lib.ItoaMem
import Derived.Laws.Closers25b

/-
  The specification's reader of trees: its block; look, eat.
-/
namespace Go.Proofs.YtdgepmgkhfkmcaaGreatDoor
open Go.RowKit

theorem Near.drewN {R : Nat} {a w : World} (h : Near R a w) (n : Nat) : Near R a (w.drewN n) := ⟨h.os, h.tape, h.output, h.size, h.block⟩

end Go.Proofs.YtdgepmgkhfkmcaaGreatDoor

/-
  The specification's reader of schemas: plain mathematics of what it goes over.
-/
namespace Go.Proofs.YtdgepmgkhfkmcaaGreatDoor
open Go.RowKit

/-- The six makes of a schema that is ok by itself. -/
theorem goodK_cases {m : Nat} {t : K (m + 1)} {d : Int} (h : goodK (m + 1) t d = true) :
    (t = (⟨1, [], []⟩ : Kd (K m)) ∧ txtK (m + 1) t = [110, 117, 109]) ∨ (t = (⟨2, [], []⟩ : Kd (K m)) ∧ txtK (m + 1) t = [116, 101, 120, 116]) ∨ (t = (⟨3, [], []⟩ : Kd (K m)) ∧ txtK (m + 1) t = [102, 108, 97, 103]) ∨
    (∃ x, t = (⟨4, [], [x]⟩ : Kd (K m)) ∧ goodK m x (d + 1) = true ∧ txtK (m + 1) t = 91 :: (txtK m x ++ [93])) ∨ (∃ x, t = (⟨6, [], [x]⟩ : Kd (K m)) ∧ goodK m x (d + 1) = true ∧ txtK (m + 1) t = 63 :: txtK m x) ∨
    (∃ na ki, t = (⟨5, na, ki⟩ : Kd (K m)) ∧ na.length = ki.length ∧ (∀ x, x ∈ na → nameB x = true) ∧ (∀ k, k ∈ ki → goodK m k (d + 1) = true) ∧ txtK (m + 1) t = 123 :: (joinL (zipL na (ki.map (txtK m))) ++ [125])) := by
  simp only [goodK, Bool.and_eq_true] at h
  have ha : aloneKF (Kd.sort t) (Kd.names t) (Kd.kids t).length = true := h.1.2
  have hk := List.all_eq_true.1 h.2
  obtain ⟨so, na, ki⟩ : Kd (K m) := t
  simp only at ha hk
  unfold aloneKF at ha
  have one : (ki.length : Int) = 1 → ∃ x, ki = [x] ∧ goodK m x (d + 1) = true := by
    intro hl
    match ki, hl, hk with
    | [x], _, hk => exact ⟨x, rfl, hk x (List.mem_cons_self ..)⟩
  by_cases h1 : so = 1
  · rw [if_pos h1] at ha
    simp only [Bool.and_eq_true, beq_iff_eq] at ha
    have e2 : na = [] := List.eq_nil_of_length_eq_zero (by have := ha.1; omega)
    have e3 : ki = [] := List.eq_nil_of_length_eq_zero (by have := ha.2; omega)
    subst e2 e3 h1
    exact .inl ⟨rfl, by simp [txtK]⟩
  rw [if_neg h1] at ha
  by_cases h2 : so = 2
  · rw [if_pos h2] at ha
    simp only [Bool.and_eq_true, beq_iff_eq] at ha
    have e2 : na = [] := List.eq_nil_of_length_eq_zero (by have := ha.1; omega)
    have e3 : ki = [] := List.eq_nil_of_length_eq_zero (by have := ha.2; omega)
    subst e2 e3 h2
    exact .inr (.inl ⟨rfl, by simp [txtK]⟩)
  rw [if_neg h2] at ha
  by_cases h3 : so = 3
  · rw [if_pos h3] at ha
    simp only [Bool.and_eq_true, beq_iff_eq] at ha
    have e2 : na = [] := List.eq_nil_of_length_eq_zero (by have := ha.1; omega)
    have e3 : ki = [] := List.eq_nil_of_length_eq_zero (by have := ha.2; omega)
    subst e2 e3 h3
    exact .inr (.inr (.inl ⟨rfl, by simp [txtK]⟩))
  rw [if_neg h3] at ha
  by_cases h4 : so = 4
  · rw [if_pos h4] at ha
    simp only [Bool.and_eq_true, beq_iff_eq] at ha
    have e2 : na = [] := List.eq_nil_of_length_eq_zero (by have := ha.1; omega)
    obtain ⟨x, e3, hx⟩ := one ha.2
    subst e2 e3 h4
    exact .inr (.inr (.inr (.inl ⟨x, rfl, hx, by simp [txtK, headL]⟩)))
  rw [if_neg h4] at ha
  by_cases h5 : so = 5
  · rw [if_pos h5] at ha
    simp only [Bool.and_eq_true, beq_iff_eq] at ha
    have hl : na.length = ki.length := by have := ha.1; omega
    subst h5
    exact .inr (.inr (.inr (.inr (.inr ⟨na, ki, rfl, hl, riseB_name ha.2, fun k hk' => hk k hk', by simp [txtK]⟩))))
  rw [if_neg h5] at ha
  by_cases h6 : so = 6
  · rw [if_pos h6] at ha
    simp only [Bool.and_eq_true, beq_iff_eq] at ha
    have e2 : na = [] := List.eq_nil_of_length_eq_zero (by have := ha.1; omega)
    obtain ⟨x, e3, hx⟩ := one ha.2
    subst e2 e3 h6
    exact .inr (.inr (.inr (.inr (.inl ⟨x, rfl, hx, by simp [txtK, headL]⟩))))
  · rw [if_neg h6] at ha; cases ha

end Go.Proofs.YtdgepmgkhfkmcaaGreatDoor

/-
  Plain mathematics: what has a text is read from it; what is read has that text.
-/
namespace Go.Proofs.YtdgepmgkhfkmcaaGreatDoor
open Go.RowKit

theorem ba_empty {x : ByteArray} (h : x.toList.isEmpty = true) : x = ByteArray.empty :=
  (toList_nil_iff_emptyBytes x).1 (by simpa using h)

end Go.Proofs.YtdgepmgkhfkmcaaGreatDoor

/-
  Plain mathematics: a tree of n levels as one of n + 1; the number that num reads.
-/
namespace Go.Proofs.YtdgepmgkhfkmcaaGreatDoor
open Go.RowKit

/-- A tree of at most n levels is one of at most n + 1. -/
def upT : (n : Nat) → T n → T (n + 1)
  | 0, t => Empty.elim t
  | n + 1, t => (⟨Nd.sort t, Nd.num t, Nd.text t, Nd.names t, (Nd.kids t).map (upT n)⟩ : Nd (T (n + 1)))

theorem RowIn.map {α β : Type} {S : Nat → Prop} {w : World} {R : α → Value → Value → Value → Value → Value → Prop} {R' : β → Value → Value → Value → Value → Value → Prop} {l : List α} {v : Value} (f : α → β) (h : RowIn S w R l v)
    (hR : ∀ x c0 c1 c2 c3 c4, x ∈ l → R x c0 c1 c2 c3 c4 → R' (f x) c0 c1 c2 c3 c4) : RowIn S w R' (l.map f) v := by
  obtain ⟨ao, cap, hv, hl, hc⟩ := h
  refine ⟨ao, cap, by rw [hv, List.length_map], by rw [List.length_map]; exact hl, fun hne => ?_⟩
  obtain ⟨b, off, ha, hB, hcell⟩ := hc (by intro e; apply hne; rw [e]; rfl)
  refine ⟨b, off, ha, hB, fun i hi => ?_⟩
  have hi' : i < l.length := by simpa using hi
  obtain ⟨c0, c1, c2, c3, c4, h0, h1, h2, h3, h4, hr⟩ := hcell i hi'
  refine ⟨c0, c1, c2, c3, c4, h0, h1, h2, h3, h4, ?_⟩
  rw [List.getElem_map]
  exact hR _ _ _ _ _ _ (List.getElem_mem hi') hr

theorem TreeIn.up {S : Nat → Prop} {w : World} : ∀ {n : Nat} {t : T n} {c0 c1 c2 c3 c4 : Value}, TreeIn S w n t c0 c1 c2 c3 c4 → TreeIn S w (n + 1) (upT n t) c0 c1 c2 c3 c4 := by
  intro n
  induction n with
  | zero => intro t c0 c1 c2 c3 c4 h; exact h.elim
  | succ n ih =>
    intro t c0 c1 c2 c3 c4 h
    obtain ⟨h0, h1, h2, hs, hw0, hw1, h3, h4⟩ := h
    exact ⟨h0, h1, h2, hs, hw0, hw1, h3, h4.map (upT n) fun x _ _ _ _ _ _ hx => ih hx⟩

end Go.Proofs.YtdgepmgkhfkmcaaGreatDoor
