/-
  Plain mathematics: what comes of widening is of the schema into which it was widened.
-/
import Derived.Test.YtpalkdcgbbbmeaaGreatDoorWD0
import Derived.Test.YtpalkdcgbbbmeaaGreatDoorKSpecHas2
namespace Go.Proofs.YtpalkdcgbbbmeaaGreatDoor
open Go.RowKit

theorem zipAll_get {α β : Type} {f : α → β → Bool} : ∀ {l : List α} {s : List β}, zipAll f l s = true → ∀ i (h1 : i < l.length) (h2 : i < s.length), f l[i] s[i] = true
  | [], _, _, _, h1, _ => absurd h1 (Nat.not_lt_zero _)
  | _ :: _, [], _, _, _, h2 => absurd h2 (Nat.not_lt_zero _)
  | a :: r, b :: s, h, 0, _, _ => by
    simp only [zipAll, Bool.and_eq_true] at h
    exact h.1
  | a :: r, b :: s, h, i + 1, h1, h2 => by
    simp only [zipAll, Bool.and_eq_true] at h
    have := zipAll_get h.2 i (by simpa using h1) (by simpa using h2)
    simpa using this

theorem headAll_get {α β : Type} {f : α → β → Bool} {x : α} {r : List α} : ∀ {s : List β}, headAll f (x :: r) s = true → ∀ u, u ∈ s → f x u = true
  | [], _, _, hu => by cases hu
  | b :: s, h, u, hu => by
    simp only [headAll] at h
    exact List.all_eq_true.1 h u hu

theorem hasK_get {n m : Nat} {k : K (n + 1)} {t : T (m + 1)} (h : hasK (n + 1) k (m + 1) t = true) :
    Kd.sort k = Nd.sort t ∧ Kd.names k = Nd.names t ∧ (Kd.sort k = 5 → ∀ i (h1 : i < (Kd.kids k).length) (h2 : i < (Nd.kids t).length), hasK n (Kd.kids k)[i] m (Nd.kids t)[i] = true) ∧ (Kd.sort k ≠ 5 → ∀ x, Kd.kids k = [x] → ∀ u, u ∈ Nd.kids t → hasK n x m u = true) := by
  simp only [hasK, Bool.and_eq_true, decide_eq_true_eq, beq_iff_eq] at h
  refine ⟨h.1.1, h.1.2, fun h5 i h1 h2 => ?_, fun h5 x hx u hu => ?_⟩
  · have := h.2
    rw [if_pos h5] at this
    exact zipAll_get this i h1 h2
  · have := h.2
    rw [if_neg h5, hx] at this
    exact headAll_get this u hu

theorem pairAll_get {α : Type} {f : ByteArray → α → Bool} : ∀ {l : List ByteArray} {ks : List α}, pairAll f l ks = true → ∀ i (h1 : i < l.length) (h2 : i < ks.length), f l[i] ks[i] = true
  | [], _, _, _, h1, _ => absurd h1 (Nat.not_lt_zero _)
  | _ :: _, [], _, _, _, h2 => absurd h2 (Nat.not_lt_zero _)
  | a :: r, b :: s, h, 0, _, _ => by
    simp only [pairAll, Bool.and_eq_true] at h
    exact h.1
  | a :: r, b :: s, h, i + 1, h1, h2 => by
    simp only [pairAll, Bool.and_eq_true] at h
    have := pairAll_get h.2 i (by simpa using h1) (by simpa using h2)
    simpa using this

theorem fitsK_form_get {m n : Nat} {b : K (m + 1)} {a : K (n + 1)} (hb : Kd.sort b = 5) (ha : Kd.sort a = 5) (h : fitsK (m + 1) b (n + 1) a = true) :
    (∀ s, s ∈ Kd.names a → s ∈ Kd.names b) ∧ ∀ j (h1 : j < (Kd.names b).length) (h2 : j < (Kd.kids b).length), fieldFits n (Kd.names a) (Kd.kids a) m (Kd.names b)[j] (Kd.kids b)[j] = true := by
  rw [fitsK_form hb ha, Bool.and_eq_true] at h
  refine ⟨fun s hs => ?_, fun j h1 h2 => pairAll_get h.2 j h1 h2⟩
  have := List.all_eq_true.1 h.1 s hs
  exact Classical.byContradiction fun hn => by rw [memB_no hn] at this; cases this

theorem fitsK_sorts {m n : Nat} {b : K (m + 1)} {a : K (n + 1)} (hb : Kd.sort b ≠ 6) (h : fitsK (m + 1) b (n + 1) a = true) : Kd.sort a = Kd.sort b :=
  Classical.byContradiction fun hn => by rw [fitsK_no hb hn] at h; cases h

theorem has_none : ∀ (m : Nat) (y : K m) (d : Int), goodK m y d = true → srtK m y = 6 → hasK m y m (noneT m y) = true
  | 0, y, _, _, _ => Empty.elim (show Empty from y)
  | m + 1, y, d, hg, h6 => by
    have h6' : Kd.sort y = 6 := h6
    have hn : Kd.names y = [] := by
      rcases goodK_kids hg with ⟨h, -⟩ | ⟨-, h, -⟩ | ⟨h, -⟩
      · omega
      · exact h
      · omega
    refine hasK_yes (by rw [h6']; rfl) (by rw [hn]; rfl) (fun h => by omega) (fun _ => ?_)
    show headAll _ _ [] = true
    cases Kd.kids y <;> rfl

/-- What a good schema's kids are. -/
theorem goodK_all {n : Nat} {k : K (n + 1)} {d : Int} (h : goodK (n + 1) k d = true) : ∀ x, x ∈ Kd.kids k → goodK n x (d + 1) = true := by
  simp only [goodK, Bool.and_eq_true] at h
  exact List.all_eq_true.1 h.2

theorem goodT_all {n : Nat} {t : T (n + 1)} {d : Int} (h : goodT (n + 1) t d = true) : ∀ x, x ∈ Nd.kids t → goodT n x (d + 1) = true := by
  simp only [goodT, Bool.and_eq_true] at h
  exact List.all_eq_true.1 h.2

/-- Which of the five ways a pair that fits goes. -/
theorem fits_ways {m n p : Nat} {b : K (m + 1)} {a : K (n + 1)} {t : T (p + 1)} {d d' e : Int} (hgb : goodK (m + 1) b d' = true) (hga : goodK (n + 1) a d = true) (hgt : goodT (p + 1) t e = true) (hf : fitsK (m + 1) b (n + 1) a = true) (hh : hasK (n + 1) a (p + 1) t = true) :
    (∃ y x, Kd.sort b = 6 ∧ Kd.sort a = 6 ∧ Kd.kids b = [y] ∧ Kd.kids a = [x] ∧ fitsK m y n x = true ∧ ∀ u, u ∈ Nd.kids t → hasK n x p u = true) ∨
    (∃ y, Kd.sort b = 6 ∧ Kd.sort a ≠ 6 ∧ Kd.kids b = [y] ∧ fitsK m y (n + 1) a = true) ∨
    (∃ y x, Kd.sort b = 4 ∧ Kd.sort a = 4 ∧ Kd.kids b = [y] ∧ Kd.kids a = [x] ∧ fitsK m y n x = true ∧ ∀ u, u ∈ Nd.kids t → hasK n x p u = true) ∨
    (Kd.sort b = 5 ∧ Kd.sort a = 5 ∧ (Kd.names b).length = (Kd.kids b).length ∧ (Kd.names a).length = (Kd.kids a).length ∧ (Nd.kids t).length = (Kd.kids a).length ∧ Asc (Kd.names a) ∧ Asc (Kd.names b) ∧ (∀ s, s ∈ Kd.names a → s ∈ Kd.names b) ∧
      (∀ j (h1 : j < (Kd.names b).length) (h2 : j < (Kd.kids b).length), fieldFits n (Kd.names a) (Kd.kids a) m (Kd.names b)[j] (Kd.kids b)[j] = true) ∧ (∀ i (h1 : i < (Kd.kids a).length) (h2 : i < (Nd.kids t).length), hasK n (Kd.kids a)[i] p (Nd.kids t)[i] = true)) ∨
    ((Kd.sort b = 1 ∨ Kd.sort b = 2 ∨ Kd.sort b = 3) ∧ Kd.sort a = Kd.sort b ∧ Kd.names b = [] ∧ Kd.kids b = [] ∧ Nd.kids t = []) := by
  obtain ⟨hs, hnm, h5, h4⟩ := hasK_get hh
  have hka := goodK_kids hga
  have hkt := goodT_kids hgt
  rcases goodK_kids hgb with ⟨h, nb, kb⟩ | ⟨h, nb, y, hy⟩ | ⟨h, hlb, hrb⟩
  · refine .inr (.inr (.inr (.inr ⟨h, fitsK_sorts (by omega) hf, nb, kb, ?_⟩)))
    have := fitsK_sorts (by omega) hf
    exact (hkt.1 (by omega)).2
  · rcases h with h | h
    · have hsa := fitsK_sorts (by omega) hf
      rcases hka with ⟨h', -⟩ | ⟨h', na, x, hx⟩ | ⟨h', -⟩
      · omega
      · refine .inr (.inr (.inl ⟨y, x, h, by omega, hy, hx, ?_, h4 (by omega) x hx⟩))
        rw [← fitsK_ll h (by omega) hy hx]; exact hf
      · omega
    · by_cases ha6 : Kd.sort a = 6
      · rcases hka with ⟨h', -⟩ | ⟨h', na, x, hx⟩ | ⟨h', -⟩
        · omega
        · refine .inl ⟨y, x, h, ha6, hy, hx, ?_, h4 (by omega) x hx⟩
          rw [← fitsK_mm h ha6 hy hx]; exact hf
        · omega
      · refine .inr (.inl ⟨y, h, ha6, hy, ?_⟩)
        rw [← fitsK_xm h ha6 hy]; exact hf
  · have hsa := fitsK_sorts (by omega) hf
    rcases hka with ⟨h', -⟩ | ⟨h', -⟩ | ⟨h', hla, hra⟩
    · omega
    · omega
    · obtain ⟨g1, g2⟩ := fitsK_form_get h h' hf
      have hlt := (hkt.2.2 (by omega)).1
      refine .inr (.inr (.inr (.inl ⟨h, h', hlb, hla, ?_, asc_of _ hra, asc_of _ hrb, g1, g2, h5 h'⟩)))
      rw [← hla, hnm]; exact hlt.symm

end Go.Proofs.YtpalkdcgbbbmeaaGreatDoor
