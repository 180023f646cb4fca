/-
  The comparison of the laws: what eqStringS answers of two copies of one list: true.
-/
import Derived.Test.YtpnnbdejneoccaaRep
import Derived.Deep.RegionWith
namespace Go.Proofs.Ytpnnbdejneoccaa
open Go.RowKit

set_option maxHeartbeats 400000 in
theorem eqStringS_same (S S' : Nat → Prop) (l : List ByteArray) (v v' : Value) (w : World) (hl : StrsIn S w l v) (hl' : StrsIn S' w l v') (hB : ∀ b, S b → b < w.heap.size) (hB' : ∀ b, S' b → b < w.heap.size) :
    Calls Try.prog 49 #[v, v'] w fun e w' => e = .returned (.bool true) ∧ Below w.heap.size w w' := by
  obtain ⟨ao, cap, rfl, hlen, hs, hc⟩ := hl
  obtain ⟨ao', cap', rfl, -, -, hc'⟩ := hl'
  unfold maxLen at hlen
  have hne : ((l.length : Int) != (l.length : Int)) = false := by simp
  go_enter Try.func49, Try.ntmps49
  go_wp2_with fail
  go_loopw [5] (fun i wr => ∃ k : Nat, k ≤ l.length ∧ i = .int .i64 k ∧ Below w.heap.size w wr) (fun i _ => l.length - (intOf i).toNat)
  case atStart => exact ⟨0, Nat.zero_le _, rfl, Below.refl _ _⟩
  case round =>
    obtain ⟨k, hk, rfl, hbel⟩ := hrel
    by_cases hlt : k < l.length
    · obtain ⟨b, off, rfl, hbB, hcell⟩ := hc (by intro h; rw [h] at hlt; simp at hlt)
      obtain ⟨b', off', rfl, hbB', hcell'⟩ := hc' (by intro h; rw [h] at hlt; simp at hlt)
      have f0 := (hbel.cell (p := ⟨b, off + k, none⟩) (hB b hbB)).trans (hcell k hlt)
      have f1 := (hbel.cell (p := ⟨b', off' + k, none⟩) (hB' b' hbB')).trans (hcell' k hlt)
      have hsk := hs l[k] (List.getElem_mem hlt)
      clear hc hc' hcell hcell' hs
      generalize l[k] = s at *
      go_wp2_with fail
      go_region
      all_goals go_wp2_with fail
      all_goals
        go_roundw
        case rel => exact ⟨k + 1, by omega, by go_num, hbel.drew⟩
        case measure => simp [intOf]; omega
    · clear hc hc' hs
      go_wp2_with fail
      go_ret
      exact ⟨rfl, hbel⟩

end Go.Proofs.Ytpnnbdejneoccaa
