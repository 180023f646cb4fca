/-
  Several texts in one, in their order.
-/
import Derived.Test.YtkaannpoldenkagKPlain
import Derived.Test.YtkaannpoldenkagRep

/-
  Plain mathematics: the first tree of a schema.
-/
namespace Go.Proofs.Ytkaannpoldenkag
open Go.RowKit

/-- The first tree of a schema. -/
def firstT : (n : Nat) → K n → T n
  | 0, k => k
  | n + 1, k => (⟨Kd.sort k, 0, ByteArray.empty, Kd.names k, if Kd.sort k = 5 then (Kd.kids k).map (fun x => firstT n x) else []⟩ : Nd (T n))

theorem names_of_other {n : Nat} {k : K (n + 1)} {d : Int} (h : goodK (n + 1) k d = true) (h5 : ¬ Kd.sort k = 5) : Kd.names k = [] := by
  simp only [goodK, Bool.and_eq_true] at h
  have ha : aloneKF (Kd.sort k) (Kd.names k) (Kd.kids k).length = true := h.1.2
  unfold aloneKF at ha
  rw [if_neg h5] at ha
  have e : ((Kd.names k).length : Int) = 0 := by
    split at ha
    · simp at ha; simp [ha.1]
    split at ha
    · simp at ha; simp [ha.1]
    split at ha
    · simp at ha; simp [ha.1]
    split at ha
    · simp at ha; simp [ha.1]
    split at ha
    · simp at ha; simp [ha.1]
    · cases ha
  exact List.eq_nil_of_length_eq_zero (by omega)

theorem form_of {n : Nat} {k : K (n + 1)} {d : Int} (h : goodK (n + 1) k d = true) (h5 : Kd.sort k = 5) : (Kd.names k).length = (Kd.kids k).length ∧ riseB (Kd.names k) = true := by
  simp only [goodK, Bool.and_eq_true] at h
  have ha : aloneKF (Kd.sort k) (Kd.names k) (Kd.kids k).length = true := h.1.2
  unfold aloneKF at ha
  rw [h5] at ha
  simp at ha
  exact ⟨by omega, ha.2⟩

theorem sort_of {n : Nat} {k : K (n + 1)} {d : Int} (h : goodK (n + 1) k d = true) : 1 ≤ Kd.sort k ∧ Kd.sort k ≤ 6 := by
  simp only [goodK, Bool.and_eq_true] at h
  have ha : aloneKF (Kd.sort k) (Kd.names k) (Kd.kids k).length = true := h.1.2
  unfold aloneKF at ha
  refine Classical.byContradiction fun hn => ?_
  rw [if_neg (by omega), if_neg (by omega), if_neg (by omega), if_neg (by omega), if_neg (by omega), if_neg (by omega)] at ha
  cases ha

theorem rise_short {l : List ByteArray} (h : riseB l = true) : ∀ s, s ∈ l → s.size ≤ 8 := by
  intro s hs
  obtain ⟨i, hi, rfl⟩ := List.getElem_of_mem hs
  unfold riseB riseTo at h
  have := List.all_eq_true.1 h i (List.mem_range.2 hi)
  simp only [riseAt, Bool.and_eq_true, nameB, decide_eq_true_eq] at this
  have h2 := this.1.1.1.2
  simpa [List.getD, hi] using h2

end Go.Proofs.Ytkaannpoldenkag

/-
  Small facts on what a call returns.
-/
namespace Go.Proofs.Ytkaannpoldenkag
open Go.RowKit

theorem ret_int {k : IntKind} {a b : Int} (h : a = b) : Ending.returned (.int k a) = .returned (.int k b) := by rw [h]
theorem str_ret {a b : ByteArray} (h : a = b) : Ending.returned (.string a) = .returned (.string b) := by rw [h]

end Go.Proofs.Ytkaannpoldenkag

/-
  Five cells of a block, kept from call to call; a tree kept from call to call.
-/
namespace Go.Proofs.Ytkaannpoldenkag
open Go.RowKit

/-- Five cells of a block. -/
structure Box5 (w : World) (N : Nat) (a b c d e : Value) : Prop where
  c0 : w.cell? ⟨N, 0, none⟩ = some a
  c1 : w.cell? ⟨N, 1, none⟩ = some b
  c2 : w.cell? ⟨N, 2, none⟩ = some c
  c3 : w.cell? ⟨N, 3, none⟩ = some d
  c4 : w.cell? ⟨N, 4, none⟩ = some e

theorem Box5.keep {w w' : World} {N : Nat} {a b c d e : Value} (h : Box5 w N a b c d e) (hb : Below w.heap.size w w') : Box5 w' N a b c d e := by
  have hl : N < w.heap.size := by
    have h := h.c0
    exact Classical.byContradiction fun hge => by
      have : w.heap[N]? = none := Array.getElem?_eq_none (by omega)
      simp [World.cell?, this] at h
  exact ⟨(hb.cell (p := ⟨N, 0, none⟩) hl).trans h.c0, (hb.cell (p := ⟨N, 1, none⟩) hl).trans h.c1, (hb.cell (p := ⟨N, 2, none⟩) hl).trans h.c2, (hb.cell (p := ⟨N, 3, none⟩) hl).trans h.c3, (hb.cell (p := ⟨N, 4, none⟩) hl).trans h.c4⟩

theorem Box5.new (w : World) (a b c d e : Value) (t : TypeId) : Box5 (w.alloc (.cells #[a, b, c, d, e] t)) w.heap.size a b c d e :=
  ⟨by simp [go_sem], by simp [go_sem], by simp [go_sem], by simp [go_sem], by simp [go_sem]⟩

/-- A law's head: the argument in its box, and its measure. -/
theorem TreeIn.step {S : Nat → Prop} {w w' : World} {n : Nat} {t : T n} {c0 c1 c2 c3 c4 : Value} (h : TreeIn S w n t c0 c1 c2 c3 c4) (hS : ∀ b, S b → b < w.heap.size) (hb : Below w.heap.size w w') : TreeIn S w' n t c0 c1 c2 c3 c4 ∧ (∀ b, S b → b < w'.heap.size) :=
  ⟨h.keep (same_below hb hS) (fun _ h => h), fun b hb' => Nat.lt_of_lt_of_le (hS b hb') hb.size⟩

end Go.Proofs.Ytkaannpoldenkag
