/-
  Plain mathematics: the first tree of a schema.
-/
import Derived.Test.YtkaannpoldenkagKPlain
namespace Go.Proofs.Ytkaannpoldenkag
open Go.RowKit

/-- The first tree of a schema. -/
def firstT : (n : Nat) → K n → T n
  | 0, k => k
  | n + 1, k => (⟨Kd.sort k, 0, ByteArray.empty, Kd.names k, if Kd.sort k = 5 then (Kd.kids k).map (fun x => firstT n x) else []⟩ : Nd (T n))

theorem names_of_other {n : Nat} {k : K (n + 1)} {d : Int} (h : goodK (n + 1) k d = true) (h5 : ¬ Kd.sort k = 5) : Kd.names k = [] := by
  simp only [goodK, Bool.and_eq_true] at h
  have ha : aloneKF (Kd.sort k) (Kd.names k) (Kd.kids k).length = true := h.1.2
  unfold aloneKF at ha
  rw [if_neg h5] at ha
  have e : ((Kd.names k).length : Int) = 0 := by
    split at ha
    · simp at ha; simp [ha.1]
    split at ha
    · simp at ha; simp [ha.1]
    split at ha
    · simp at ha; simp [ha.1]
    split at ha
    · simp at ha; simp [ha.1]
    split at ha
    · simp at ha; simp [ha.1]
    · cases ha
  exact List.eq_nil_of_length_eq_zero (by omega)

theorem form_of {n : Nat} {k : K (n + 1)} {d : Int} (h : goodK (n + 1) k d = true) (h5 : Kd.sort k = 5) : (Kd.names k).length = (Kd.kids k).length ∧ riseB (Kd.names k) = true := by
  simp only [goodK, Bool.and_eq_true] at h
  have ha : aloneKF (Kd.sort k) (Kd.names k) (Kd.kids k).length = true := h.1.2
  unfold aloneKF at ha
  rw [h5] at ha
  simp at ha
  exact ⟨by omega, ha.2⟩

theorem sort_of {n : Nat} {k : K (n + 1)} {d : Int} (h : goodK (n + 1) k d = true) : 1 ≤ Kd.sort k ∧ Kd.sort k ≤ 6 := by
  simp only [goodK, Bool.and_eq_true] at h
  have ha : aloneKF (Kd.sort k) (Kd.names k) (Kd.kids k).length = true := h.1.2
  unfold aloneKF at ha
  refine Classical.byContradiction fun hn => ?_
  rw [if_neg (by omega), if_neg (by omega), if_neg (by omega), if_neg (by omega), if_neg (by omega), if_neg (by omega)] at ha
  cases ha

theorem rise_short {l : List ByteArray} (h : riseB l = true) : ∀ s, s ∈ l → s.size ≤ 8 := by
  intro s hs
  obtain ⟨i, hi, rfl⟩ := List.getElem_of_mem hs
  unfold riseB riseTo at h
  have := List.all_eq_true.1 h i (List.mem_range.2 hi)
  simp only [riseAt, Bool.and_eq_true, nameB, decide_eq_true_eq] at this
  have h2 := this.1.1.1.2
  simpa [List.getD, hi] using h2

end Go.Proofs.Ytkaannpoldenkag
