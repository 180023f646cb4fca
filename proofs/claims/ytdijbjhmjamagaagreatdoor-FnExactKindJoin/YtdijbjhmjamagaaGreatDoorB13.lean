/-
  Several texts in one, in their order.
-/
import Derived.Test.YtdijbjhmjamagaaGreatDoorJN1
import Derived.Test.YtdijbjhmjamagaaGreatDoorB12
import Derived.Test.YtdijbjhmjamagaaGreatDoorB1

/-
  Plain: the merging of two ascending rows, step by step.
-/
namespace Go.Proofs.YtdijbjhmjamagaaGreatDoor
open Go.RowKit

/-- Where the merging stands: i and j of the rows are done, acc is gathered. -/
def MSt {α β γ : Type} (f : α → β → Option γ) (ga : α → γ) (gb : β → γ) (xs : List (ByteArray × α)) (ys : List (ByteArray × β)) (i j : Nat) (acc : List (ByteArray × γ)) : Prop :=
  ∃ k, (xs.length - i) + (ys.length - j) ≤ k ∧ mergeF f ga gb (xs.length + ys.length) xs ys = (mergeF f ga gb k (xs.drop i) (ys.drop j)).map (acc ++ ·)

theorem MSt.start {α β γ : Type} (f : α → β → Option γ) (ga : α → γ) (gb : β → γ) (xs : List (ByteArray × α)) (ys : List (ByteArray × β)) : MSt f ga gb xs ys 0 0 [] :=
  ⟨xs.length + ys.length, by omega, by simp⟩

theorem map_acc {δ : Type} (o : Option (List δ)) (acc : List δ) (z : δ) : (o.map (z :: ·)).map (acc ++ ·) = o.map ((acc ++ [z]) ++ ·) := by
  cases o <;> simp

theorem MSt.left {α β γ : Type} {f : α → β → Option γ} {ga : α → γ} {gb : β → γ} {xs : List (ByteArray × α)} {ys : List (ByteArray × β)} {i j : Nat} {acc : List (ByteArray × γ)} (h : MSt f ga gb xs ys i j acc) (hi : i < xs.length) (hj : ys.length ≤ j ∨ ∃ hj : j < ys.length, ltB xs[i].1 ys[j].1 = true) :
    MSt f ga gb xs ys (i + 1) j (acc ++ [(xs[i].1, ga xs[i].2)]) := by
  obtain ⟨k, hk, e⟩ := h
  obtain ⟨k, rfl⟩ : ∃ k', k = k' + 1 := ⟨k - 1, by omega⟩
  refine ⟨k, by omega, e.trans ?_⟩
  rw [← map_acc]
  congr 1
  rw [List.drop_eq_getElem_cons hi]
  rcases hj with hj | ⟨hj, hl⟩
  · rw [List.drop_eq_nil_of_le hj]; rfl
  · rw [List.drop_eq_getElem_cons hj]
    simp only [mergeF, hl, if_true]

theorem MSt.right {α β γ : Type} {f : α → β → Option γ} {ga : α → γ} {gb : β → γ} {xs : List (ByteArray × α)} {ys : List (ByteArray × β)} {i j : Nat} {acc : List (ByteArray × γ)} (h : MSt f ga gb xs ys i j acc) (hj : j < ys.length) (hi : xs.length ≤ i ∨ ∃ hi : i < xs.length, ltB xs[i].1 ys[j].1 ≠ true ∧ ltB ys[j].1 xs[i].1 = true) :
    MSt f ga gb xs ys i (j + 1) (acc ++ [(ys[j].1, gb ys[j].2)]) := by
  obtain ⟨k, hk, e⟩ := h
  obtain ⟨k, rfl⟩ : ∃ k', k = k' + 1 := ⟨k - 1, by omega⟩
  refine ⟨k, by omega, e.trans ?_⟩
  rw [← map_acc]
  congr 1
  rw [List.drop_eq_getElem_cons hj]
  rcases hi with hi | ⟨hi, hl, hg⟩
  · rw [List.drop_eq_nil_of_le hi]; rfl
  · rw [List.drop_eq_getElem_cons hi]
    simp only [mergeF, if_neg hl, if_pos hg]

theorem MSt.both {α β γ : Type} {f : α → β → Option γ} {ga : α → γ} {gb : β → γ} {xs : List (ByteArray × α)} {ys : List (ByteArray × β)} {i j : Nat} {acc : List (ByteArray × γ)} (h : MSt f ga gb xs ys i j acc) (hi : i < xs.length) (hj : j < ys.length) (hl : ltB xs[i].1 ys[j].1 ≠ true) (hg : ltB ys[j].1 xs[i].1 ≠ true) :
    (f xs[i].2 ys[j].2 = none → mergeF f ga gb (xs.length + ys.length) xs ys = none) ∧ ∀ r, f xs[i].2 ys[j].2 = some r → MSt f ga gb xs ys (i + 1) (j + 1) (acc ++ [(xs[i].1, r)]) := by
  obtain ⟨k, hk, e⟩ := h
  obtain ⟨k, rfl⟩ : ∃ k', k = k' + 1 := ⟨k - 1, by omega⟩
  rw [List.drop_eq_getElem_cons hi, List.drop_eq_getElem_cons hj] at e
  refine ⟨fun hn => ?_, fun r hr => ⟨k, by omega, ?_⟩⟩
  · rw [e]; simp only [mergeF, if_neg hl, if_neg hg, hn]; rfl
  · rw [e, ← map_acc]
    simp only [mergeF, if_neg hl, if_neg hg, hr]

theorem MSt.done {α β γ : Type} {f : α → β → Option γ} {ga : α → γ} {gb : β → γ} {xs : List (ByteArray × α)} {ys : List (ByteArray × β)} {i j : Nat} {acc : List (ByteArray × γ)} (h : MSt f ga gb xs ys i j acc) (hi : xs.length ≤ i) (hj : ys.length ≤ j) : mergeF f ga gb (xs.length + ys.length) xs ys = some acc := by
  obtain ⟨k, hk, e⟩ := h
  rw [e, List.drop_eq_nil_of_le hi, List.drop_eq_nil_of_le hj]
  cases k <;> simp [mergeF]

end Go.Proofs.YtdijbjhmjamagaaGreatDoor

/-
  Plain: the join of two schemas, if it is ok.
-/
namespace Go.Proofs.YtdijbjhmjamagaaGreatDoor
open Go.RowKit

/-- The least schema into which two fit, if it is ok. -/
def joinF (n : Nat) (a : K n) (m : Nat) (b : K m) : Option (K (n + m + 1)) :=
  if (okK n a && okK m b) = true then (match jnL (n + m) n a m b with | some r => if okK (n + m + 1) r = true then some r else none | none => none) else none

end Go.Proofs.YtdijbjhmjamagaaGreatDoor
