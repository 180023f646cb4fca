/-
  Plain mathematics: a text ahead is gone over; up to a byte; texts with commas between, from the left.
-/
import Derived.Test.YtpalkdcgbbbmeaaGreatDoorTextN
namespace Go.Proofs.YtpalkdcgbbbmeaaGreatDoor
open Go.RowKit

theorem riseB_name {l : List ByteArray} (h : riseB l = true) : ∀ s, s ∈ l → nameB s = true := by
  intro s hs
  obtain ⟨i, hi, rfl⟩ := List.getElem_of_mem hs
  unfold riseB riseTo at h
  have := List.all_eq_true.1 h i (List.mem_range.2 hi)
  simp only [riseAt, Bool.and_eq_true] at this
  have h2 := this.1
  rwa [List.getD_eq_getElem?_getD, List.getElem?_eq_getElem hi] at h2

end Go.Proofs.YtpalkdcgbbbmeaaGreatDoor
