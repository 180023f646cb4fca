/-
  Several texts in one, in their order.
-/
import Derived.Test.YtdijbjhmjamagaaGreatDoorB1
import Derived.Test.YtdijbjhmjamagaaGreatDoorB11
import Derived.Deep.RegionLaw
import Derived.Deep.QuietTactic
import Derived.BigQuiet

/-
  The specification's l2Has, KindHas: what they answer.
-/
namespace Go.Proofs.YtdijbjhmjamagaaGreatDoor
open Go.RowKit

/-- What a good node of a schema has as kids. -/
theorem goodK_kids {n : Nat} {k : K (n + 1)} {d : Int} (h : goodK (n + 1) k d = true) :
    ((Kd.sort k = 1 ∨ Kd.sort k = 2 ∨ Kd.sort k = 3) ∧ Kd.names k = [] ∧ Kd.kids k = []) ∨ ((Kd.sort k = 4 ∨ Kd.sort k = 6) ∧ Kd.names k = [] ∧ ∃ x, Kd.kids k = [x]) ∨ (Kd.sort k = 5 ∧ (Kd.names k).length = (Kd.kids k).length ∧ riseB (Kd.names k) = true) := by
  simp only [goodK, Bool.and_eq_true] at h
  have ha : aloneKF (Kd.sort k) (Kd.names k) (Kd.kids k).length = true := h.1.2
  unfold aloneKF at ha
  by_cases h1 : Kd.sort k = 1
  · rw [if_pos h1] at ha; simp at ha; exact .inl ⟨.inl h1, ha.1, ha.2⟩
  rw [if_neg h1] at ha
  by_cases h2 : Kd.sort k = 2
  · rw [if_pos h2] at ha; simp at ha; exact .inl ⟨.inr (.inl h2), ha.1, ha.2⟩
  rw [if_neg h2] at ha
  by_cases h3 : Kd.sort k = 3
  · rw [if_pos h3] at ha; simp at ha; exact .inl ⟨.inr (.inr h3), ha.1, ha.2⟩
  rw [if_neg h3] at ha
  have one : ∀ l : List (K n), (l.length : Int) = 1 → ∃ x, l = [x] := by
    intro l hl
    match l, hl with
    | [x], _ => exact ⟨x, rfl⟩
    | x :: y :: r, hl => simp at hl; omega
  by_cases h4 : Kd.sort k = 4
  · rw [if_pos h4] at ha; simp only [Bool.and_eq_true, beq_iff_eq] at ha
    exact .inr (.inl ⟨.inl h4, List.eq_nil_of_length_eq_zero (by omega), one _ ha.2⟩)
  rw [if_neg h4] at ha
  by_cases h5 : Kd.sort k = 5
  · rw [if_pos h5] at ha; simp only [Bool.and_eq_true, beq_iff_eq] at ha
    exact .inr (.inr ⟨h5, by omega, ha.2⟩)
  rw [if_neg h5] at ha
  by_cases h6 : Kd.sort k = 6
  · rw [if_pos h6] at ha; simp only [Bool.and_eq_true, beq_iff_eq] at ha
    exact .inr (.inl ⟨.inr h6, List.eq_nil_of_length_eq_zero (by omega), one _ ha.2⟩)
  · rw [if_neg h6] at ha; cases ha

end Go.Proofs.YtdijbjhmjamagaaGreatDoor

/-
  Plain mathematics: when a schema fits into another one.
-/
namespace Go.Proofs.YtdijbjhmjamagaaGreatDoor
open Go.RowKit

/-- The sort of a schema. -/
def srtK : (n : Nat) → K n → Int
  | 0, _ => 0
  | _ + 1, k => Kd.sort k

end Go.Proofs.YtdijbjhmjamagaaGreatDoor

/-
  Plain: the join of two schemas, in schemas of as many levels as one likes.
-/
namespace Go.Proofs.YtdijbjhmjamagaaGreatDoor
open Go.RowKit

/-- A schema as one of L + 1 levels. -/
def copyL : (L n : Nat) → K n → K (L + 1)
  | _, 0, k => Empty.elim (show Empty from k)
  | 0, _ + 1, k => (⟨Kd.sort k, Kd.names k, []⟩ : Kd (K 0))
  | L + 1, n + 1, k => (⟨Kd.sort k, Kd.names k, (Kd.kids k).map (copyL L n)⟩ : Kd (K (L + 1)))

/-- It may be nothing. -/
def maybeL (L n : Nat) (k : K n) : K (L + 1) :=
  match L with
  | 0 => copyL 0 n k
  | L + 1 => if srtK n k = 6 then copyL (L + 1) n k else (⟨6, [], [copyL L n k]⟩ : Kd (K (L + 1)))

/-- Two rows that ascend, into one. -/
def mergeF {α β γ : Type} (f : α → β → Option γ) (ga : α → γ) (gb : β → γ) : Nat → List (ByteArray × α) → List (ByteArray × β) → Option (List (ByteArray × γ))
  | 0, _, _ => some []
  | _ + 1, [], [] => some []
  | k + 1, (s, x) :: xs, [] => (mergeF f ga gb k xs []).map ((s, ga x) :: ·)
  | k + 1, [], (t, y) :: ys => (mergeF f ga gb k [] ys).map ((t, gb y) :: ·)
  | k + 1, (s, x) :: xs, (t, y) :: ys =>
    if ltB s t = true then (mergeF f ga gb k xs ((t, y) :: ys)).map ((s, ga x) :: ·)
    else if ltB t s = true then (mergeF f ga gb k ((s, x) :: xs) ys).map ((t, gb y) :: ·)
    else match f x y with
      | none => none
      | some r => (mergeF f ga gb k xs ys).map ((s, r) :: ·)

def oneK6 {L : Nat} (s : Int) (x : K L) : K (L + 1) := (⟨s, [], [x]⟩ : Kd (K L))

/-- The least schema into which two fit. -/
def jnL : (L n : Nat) → K n → (m : Nat) → K m → Option (K (L + 1))
  | 0, _, _, _, _ => none
  | _ + 1, 0, _, _, _ => none
  | _ + 1, _ + 1, _, 0, _ => none
  | L + 1, n + 1, a, m + 1, b =>
    if Kd.sort a = 6 then
      match Kd.kids a with
      | [] => none
      | ka :: _ =>
        if Kd.sort b = 6 then
          match Kd.kids b with
          | [] => none
          | kb :: _ => (jnL L n ka m kb).map (oneK6 6)
        else (jnL L n ka (m + 1) b).map (oneK6 6)
    else if Kd.sort b = 6 then
      match Kd.kids b with
      | [] => none
      | kb :: _ => (jnL L (n + 1) a m kb).map (oneK6 6)
    else if Kd.sort a ≠ Kd.sort b then none
    else if Kd.sort a = 4 then
      match Kd.kids a, Kd.kids b with
      | ka :: _, kb :: _ => (jnL L n ka m kb).map (oneK6 4)
      | _, _ => none
    else (mergeF (fun x y => jnL L n x m y) (maybeL L n) (maybeL L m) ((Kd.names a).length + (Kd.names b).length) ((Kd.names a).zip (Kd.kids a)) ((Kd.names b).zip (Kd.kids b))).map
      fun l => (⟨Kd.sort a, l.map Prod.fst, l.map Prod.snd⟩ : Kd (K (L + 1)))

theorem KindIn.cp {S : Nat → Prop} {w : World} : ∀ {n : Nat} {L : Nat} {t : K n} {c0 c1 c2 : Value}, n ≤ L + 1 → KindIn S w n t c0 c1 c2 → KindIn S w (L + 1) (copyL L n t) c0 c1 c2 := by
  intro n
  induction n with
  | zero => intro L t; exact Empty.elim (show Empty from t)
  | succ n ih =>
    intro L t c0 c1 c2 hL h
    obtain ⟨h0, hwf, h1, ao, cap, rfl, hl, hc⟩ := h
    cases L with
    | zero =>
      have hn : n = 0 := by omega
      subst hn
      have hk : Kd.kids t = [] := by
        cases hk : Kd.kids t with
        | nil => rfl
        | cons x r => exact Empty.elim (show Empty from x)
      refine ⟨h0, hwf, h1, ao, cap, by rw [hk]; rfl, by show ([] : List (K 0)).length ≤ maxLen; simp, fun hne => absurd rfl hne⟩
    | succ L =>
      have e : (Kd.kids (copyL (L + 1) (n + 1) t)).length = (Kd.kids t).length := List.length_map ..
      refine ⟨h0, hwf, h1, ao, cap, by rw [e], by rw [e]; exact hl, fun hne => ?_⟩
      obtain ⟨b, off, ha, hb, hcell⟩ := hc (fun h => hne (by show (Kd.kids t).map (copyL L n) = []; rw [h]; rfl))
      refine ⟨b, off, ha, hb, fun i hi => ?_⟩
      obtain ⟨d0, d1, d2, e0, e1, e2, hk⟩ := hcell i (by rw [← e]; exact hi)
      refine ⟨d0, d1, d2, e0, e1, e2, ?_⟩
      have : (Kd.kids (copyL (L + 1) (n + 1) t))[i] = copyL L n ((Kd.kids t)[i]'(by rw [← e]; exact hi)) := List.getElem_map ..
      rw [this]
      exact ih (by omega) hk

end Go.Proofs.YtdijbjhmjamagaaGreatDoor
