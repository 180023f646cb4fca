/-
  Marks on lists of texts: markStringS, heldStringS.
-/
import Derived.Test.YtpnnbdejneoccaaGreatDoorB4
import Derived.Deep.RegionLaw
namespace Go.Proofs.YtpnnbdejneoccaaGreatDoor
open Go.RowKit

/-- The spots of a list of texts. -/
def SpN (w : World) (v : Value) (L : List Spot) : Prop :=
  ∃ (ao : Option Addr) (cap : Nat), v = .slice ao L.length cap ∧ L.length ≤ maxLen ∧ (∀ i (h : i < L.length), ∃ b off, ao = some ⟨b, off, none⟩ ∧ L[i] = ⟨b, off + i, true⟩) ∧ ∀ s, s ∈ L → s.ok w

theorem SpN.sim {w w' : World} {v : Value} {L : List Spot} (h : SpN w v L) (hs : Sim w w') : SpN w' v L := by
  obtain ⟨ao, cap, hv, hl, ha, hk⟩ := h
  exact ⟨ao, cap, hv, hl, ha, fun s hsL => Spot.ok_sim (hk s hsL) hs⟩

theorem SpN.ok {w : World} {v : Value} {L : List Spot} (h : SpN w v L) : ∀ s, s ∈ L → s.ok w := by
  obtain ⟨-, -, -, -, -, hk⟩ := h
  exact hk

set_option maxRecDepth 20000 in
set_option maxHeartbeats 1000000 in
theorem markStringS_any (L : List Spot) (v : Value) (k : Int) (w : World) (h : SpN w v L) (h0 : 1 ≤ k) (h1 : k + L.length ≤ 1000000000) :
    Calls Tryz.prog 44 #[v, .int .i64 k] w fun e w' => e = .returned (.int .i64 (k + L.length)) ∧ Wrote L k w w' := by
  obtain ⟨ao, cap, rfl, hlen, ha, hok⟩ := h
  have HOK : Hid (∀ s, s ∈ L → s.ok w) := hok
  clear hok
  go_enter Tryz.func44, Tryz.ntmps44
  go_wp2_with fail
  go_loopw [1, 5] (fun a i wr => ∃ j : Nat, j ≤ L.length ∧ i = .int .i64 j ∧ a = .int .i64 (k + j) ∧ Wrote (L.take j) k w wr) (fun _ i _ => L.length - (intOf i).toNat)
  case atStart => exact ⟨0, Nat.zero_le _, rfl, by simp, by simpa using Wrote.refl k w⟩
  case round =>
    obtain ⟨j, hj, rfl, rfl, hwr⟩ := hrel
    by_cases hlt : j < L.length
    · obtain ⟨b, off, rfl, hLj⟩ := ha j hlt
      have hsim := hwr.sim (fun s hs => HOK.out s (List.mem_of_mem_take hs))
      have hoj := Spot.ok_sim (HOK.out _ (List.getElem_mem hlt)) hsim
      rw [hLj] at hoj
      obtain ⟨⟨x, hx⟩, hfz⟩ := hoj
      have HC : Hid (Calls Tryz.prog 66 #[.int .i64 (k + j)] wr fun e w' => e = .returned (.string (mt (k + j))) ∧ Below wr.heap.size wr w' ∧ w'.cell? ⟨b, off + j, none⟩ = some (.string x) ∧ w'.frozen? ⟨b, off + j, none⟩ = false) := by
        refine (markText_any (k + j) wr (by omega) (by omega)).mono ?_
        rintro e w' ⟨rfl, hb⟩
        exact ⟨rfl, hb, (hb.cell (p := ⟨b, off + j, none⟩) (mlt (o := off + j) hx)).trans hx, (hb.frozen (p := ⟨b, off + j, none⟩) (mlt (o := off + j) hx)).trans hfz⟩
      have HN : Hid (∀ w', Below wr.heap.size wr w' → Wrote (L.take (j + 1)) k w (w'.setCell ⟨b, off + j, none⟩ (.string (mt (k + j))))) := by
        intro w' hb
        have := (hwr.below hb).snoc L[j]
        rw [List.take_succ_eq_append_getElem hlt]
        rw [hLj] at this ⊢
        simpa [Spot.at, Spot.val, List.length_take, Nat.min_eq_left (Nat.le_of_lt hlt)] using this
      clear hsim hwr ha hLj hx hfz
      generalize mt (k + j) = tx at *
      go_wp2_with fail
      refine HC.out.mono ?_
      rintro e w1 ⟨rfl, hb1, hc1, hf1⟩
      have HW : Hid _ := HN.out w1 hb1
      clear hb1 HC HN
      go_wp2_with fail
      go_roundw
      case rel => exact ⟨j + 1, by omega, by go_num, by go_num, HW.out⟩
      case measure => simp [intOf]; omega
    · have hjl : j = L.length := by omega
      have HW : Hid (Wrote L k w wr ∧ k + (j : Int) = k + (L.length : Int)) := by
        rw [hjl, List.take_length] at hwr
        exact ⟨hwr, by rw [hjl]⟩
      clear hjl hwr ha
      go_wp2_with fail
      go_ret
      exact ⟨ret_int HW.out.2, HW.out.1⟩

set_option maxRecDepth 20000 in
set_option maxHeartbeats 1000000 in
theorem heldStringS_any (L : List Spot) (v : Value) (k : Int) (w : World) (h : SpN w v L) (hh : Holds w L k) (h0 : 1 ≤ k) (h1 : k + L.length ≤ 1000000000) :
    Calls Tryz.prog 46 #[v, .int .i64 k] w fun e w' => e = .returned (.int .i64 (k + L.length)) ∧ Below w.heap.size w w' := by
  obtain ⟨ao, cap, rfl, hlen, ha, -⟩ := h
  have HH : Hid (Holds w L k) := hh
  clear hh
  go_enter Tryz.func46, Tryz.ntmps46
  go_wp2_with fail
  go_loopw [1, 5] (fun a i wr => ∃ j : Nat, j ≤ L.length ∧ i = .int .i64 j ∧ a = .int .i64 (k + j) ∧ Below w.heap.size w wr) (fun _ i _ => L.length - (intOf i).toNat)
  case atStart => exact ⟨0, Nat.zero_le _, rfl, by simp, Below.refl _ _⟩
  case round =>
    obtain ⟨j, hj, rfl, rfl, hbel⟩ := hrel
    by_cases hlt : j < L.length
    · obtain ⟨b, off, rfl, hLj⟩ := ha j hlt
      have hx := holds_at HH.out j hlt
      rw [hLj] at hx
      have hx' : w.cell? ⟨b, off + j, none⟩ = some (.string (mt (k + j))) := by simpa [Spot.at, Spot.val] using hx
      have f0 := (hbel.cell (p := ⟨b, off + j, none⟩) (mlt hx')).trans hx'
      have hzr := hbel.size
      have HC : Hid (Calls Tryz.prog 66 #[.int .i64 (k + j)] wr.drew fun e w' => e = .returned (.string (mt (k + j))) ∧ Below wr.heap.size wr w' ∧ w'.cell? ⟨b, off + j, none⟩ = some (.string (mt (k + j)))) := by
        refine (markText_any (k + j) wr.drew (by omega) (by omega)).mono ?_
        rintro e w' ⟨rfl, hb⟩
        have hb' : Below wr.heap.size wr w' := ((Below.refl _ _).drew).trans hb
        exact ⟨rfl, hb', (hb'.cell (p := ⟨b, off + j, none⟩) (mlt (o := off + j) f0)).trans f0⟩
      clear ha hLj hx hx'
      generalize mt (k + j) = tx at *
      go_wp2_with fail
      go_region_law (go_simp; go_at_call 66; refine HC.out.mono ?_; rintro e w1 ⟨rfl, hb1, hc1⟩)
      all_goals
        have hb2 := below_step hbel hzr hb1
        clear hb1
        go_wp2_with fail
        go_roundw
        case rel => exact ⟨j + 1, by omega, by go_num, by go_num, hb2⟩
        case measure => simp [intOf]; omega
    · have HW : Hid (k + (j : Int) = k + (L.length : Int)) := by show _ = _; omega
      clear ha
      go_wp2_with fail
      go_ret
      exact ⟨ret_int HW.out, hbel⟩

end Go.Proofs.YtpnnbdejneoccaaGreatDoor
