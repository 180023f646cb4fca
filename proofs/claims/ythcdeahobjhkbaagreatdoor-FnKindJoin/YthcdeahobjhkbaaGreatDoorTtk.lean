/-
  The comparison of schemas of the drawn laws: what ttKind answers of two copies of one schema: true.
-/
import Derived.Test.YthcdeahobjhkbaaGreatDoorB1
import Derived.Deep.RegionWith
import Derived.Lib.Hide
namespace Go.Proofs.YthcdeahobjhkbaaGreatDoor
open Go.RowKit

/-- ttKind of two copies of one schema of at most n levels. -/
def TtKSaid (n : Nat) : Prop := ∀ (S S' : Nat → Prop) (t : K n) (c0 c1 c2 d0 d1 d2 : Value) (w : World), KindIn S w n t c0 c1 c2 → KindIn S' w n t d0 d1 d2 →
  (∀ b, S b → b < w.heap.size) → (∀ b, S' b → b < w.heap.size) →
  Calls Tryz.prog 7 #[.agg #[c0, c1, c2], .agg #[d0, d1, d2]] w fun e w' => e = .returned (.bool true) ∧ Below w.heap.size w w'

set_option maxRecDepth 20000 in
set_option maxHeartbeats 2000000 in
theorem ttKind_step (n : Nat) (hn : TtKSaid n) : TtKSaid (n + 1) := by
  intro S S' t c0 c1 c2 d0 d1 d2 w ht ht' hB hB'
  obtain ⟨rfl, -, h3, h4⟩ := ht
  obtain ⟨rfl, -, h3', h4'⟩ := ht'
  obtain ⟨na, nc, rfl, hnl, hss, hc3⟩ := h3
  obtain ⟨na', nc', rfl, -, -, hc3'⟩ := h3'
  obtain ⟨ka, kc, rfl, hkl, hc4⟩ := h4
  obtain ⟨ka', kc', rfl, -, hc4'⟩ := h4'
  unfold maxLen at hnl hkl
  obtain ⟨W, hW⟩ : ∃ W, W = (w.alloc (.cells #[.int .i64 (Kd.sort t), .slice na (Kd.names t).length nc, .slice ka (Kd.kids t).length kc] 26)).alloc (.cells #[.int .i64 (Kd.sort t), .slice na' (Kd.names t).length nc', .slice ka' (Kd.kids t).length kc'] 26) := ⟨_, rfl⟩
  have hb2 : Below w.heap.size w W := by rw [hW]; exact ((Below.refl _ _).alloc (Nat.le_refl _) _).alloc (by simp) _
  have hz2 : W.heap.size = w.heap.size + 2 := by rw [hW]; simp
  have A3 : W.cell? ⟨w.heap.size, 1, none⟩ = some (.slice na (Kd.names t).length nc) := by rw [hW]; simp [go_sem]
  have A4 : W.cell? ⟨w.heap.size, 2, none⟩ = some (.slice ka (Kd.kids t).length kc) := by rw [hW]; simp [go_sem]
  have B3 : W.cell? ⟨w.heap.size + 1, 1, none⟩ = some (.slice na' (Kd.names t).length nc') := by rw [hW]; simp [go_sem]
  have B4 : W.cell? ⟨w.heap.size + 1, 2, none⟩ = some (.slice ka' (Kd.kids t).length kc') := by rw [hW]; simp [go_sem]
  have hn0 : (Kd.sort t != Kd.sort t) = false := by simp
  have hn2 : (((Kd.names t).length : Int) != ((Kd.names t).length : Int)) = false := by simp
  have hn3 : (((Kd.kids t).length : Int) != ((Kd.kids t).length : Int)) = false := by simp
  go_enter Tryz.func7, Tryz.ntmps7
  go_wp2_with fail
  rw [← hW]
  clear hW
  go_loopw [5] (fun i wr => ∃ k : Nat, k ≤ (Kd.names t).length ∧ i = .int .i64 k ∧ Below W.heap.size W wr) (fun i _ => (Kd.names t).length - (intOf i).toNat)
  case atStart => exact ⟨0, Nat.zero_le _, rfl, Below.refl _ _⟩
  case round =>
    obtain ⟨k, hk, rfl, hbel⟩ := hrel
    have q3 := (hbel.cell (p := ⟨w.heap.size, 1, none⟩) (by show w.heap.size < _; omega)).trans A3
    have q3' := (hbel.cell (p := ⟨w.heap.size + 1, 1, none⟩) (by show w.heap.size + 1 < _; omega)).trans B3
    by_cases hlt : k < (Kd.names t).length
    · obtain ⟨b, off, rfl, hbB, hcell⟩ := hc3 (by intro h; rw [h] at hlt; simp at hlt)
      obtain ⟨b', off', rfl, hbB', hcell'⟩ := hc3' (by intro h; rw [h] at hlt; simp at hlt)
      have hbw := hb2.trans (hbel.mono (by omega))
      have f0 := (hbw.cell (p := ⟨b, off + k, none⟩) (hB b hbB)).trans (hcell k hlt)
      have f1 := (hbw.cell (p := ⟨b', off' + k, none⟩) (hB' b' hbB')).trans (hcell' k hlt)
      have hsk := hss (Kd.names t)[k] (List.getElem_mem hlt)
      clear hc3 hc3' hcell hcell' hss hc4 hc4' A3 A4 B3 B4 hbw
      generalize (Kd.names t)[k] = s at *
      go_wp2_with fail
      go_region
      all_goals go_wp2_with fail
      all_goals
        go_roundw
        case rel => exact ⟨k + 1, by omega, by go_num, hbel.drew⟩
        case measure => simp [intOf]; omega
    · clear hc3 hc3' hss
      go_wp2_with fail
      go_loopw [6] (fun i wx => ∃ k : Nat, k ≤ (Kd.kids t).length ∧ i = .int .i64 k ∧ Below W.heap.size W wx) (fun i _ => (Kd.kids t).length - (intOf i).toNat)
      case atStart => exact ⟨0, Nat.zero_le _, rfl, hbel⟩
      case round =>
        clear hbel q3 q3' hlt hk
        obtain ⟨j, hk, rfl, hbel⟩ := hrel
        have q4 := (hbel.cell (p := ⟨w.heap.size, 2, none⟩) (by show w.heap.size < _; omega)).trans A4
        have q4' := (hbel.cell (p := ⟨w.heap.size + 1, 2, none⟩) (by show w.heap.size + 1 < _; omega)).trans B4
        by_cases hlt : j < (Kd.kids t).length
        · obtain ⟨b, off, rfl, hbB, hcell⟩ := hc4 (by intro h; rw [h] at hlt; simp at hlt)
          obtain ⟨b', off', rfl, hbB', hcell'⟩ := hc4' (by intro h; rw [h] at hlt; simp at hlt)
          obtain ⟨x0, x1, x2, e0, e1, e2, hr⟩ := hcell j hlt
          obtain ⟨y0, y1, y2, e0', e1', e2', hr'⟩ := hcell' j hlt
          have hbw := hb2.trans (hbel.mono (by omega))
          have f0 := (hbw.cell (p := ⟨b, off + j * 3, none⟩) (hB b hbB)).trans e0
          have f1 := (hbw.cell (p := ⟨b, off + j * 3 + 1, none⟩) (hB b hbB)).trans e1
          have f2 := (hbw.cell (p := ⟨b, off + j * 3 + 2, none⟩) (hB b hbB)).trans e2
          have f5 := (hbw.cell (p := ⟨b', off' + j * 3, none⟩) (hB' b' hbB')).trans e0'
          have f6 := (hbw.cell (p := ⟨b', off' + j * 3 + 1, none⟩) (hB' b' hbB')).trans e1'
          have f7 := (hbw.cell (p := ⟨b', off' + j * 3 + 2, none⟩) (hB' b' hbB')).trans e2'
          have hsz := hbel.size
          have HC : Hid (Calls Tryz.prog 7 #[.agg #[x0, x1, x2], .agg #[y0, y1, y2]] wr.drew fun e w' => e = .returned (.bool true) ∧ Below W.heap.size W w') := by
            refine (hn S S' (Kd.kids t)[j] _ _ _ _ _ _ wr.drew (hr.keep (same_below hbw.drew hB) (fun _ h => h)) (hr'.keep (same_below hbw.drew hB') (fun _ h => h))
              (fun b hb => by have := hB b hb; simp; omega) (fun b hb => by have := hB' b hb; simp; omega)).mono ?_
            rintro e w' ⟨rfl, h⟩
            exact ⟨rfl, below_step hbel.drew hsz h⟩
          clear hc4 hc4' hcell hcell' e0 e1 e2 e0' e1' e2' hr hr' hn A3 A4 B3 B4 hbw
          go_wp2_with fail
          go_region_with (go_at_call 7; refine HC.out.mono ?_; rintro e w' ⟨rfl, hb1⟩)
          all_goals go_wp2_with fail
          all_goals
            go_roundw
            case rel => exact ⟨j + 1, by omega, by go_num, by assumption⟩
            case measure => simp [intOf]; omega
        · clear hc4 hc4'
          have hfin := hb2.trans (hbel.mono (by omega))
          go_wp2_with fail
          go_ret
          exact ⟨rfl, hfin⟩

theorem ttKind_same : ∀ n, TtKSaid n := by
  intro n
  induction n with
  | zero => intro S S' t c0 c1 c2 d0 d1 d2 w ht; exact ht.elim
  | succ n ih => exact ttKind_step n ih

end Go.Proofs.YthcdeahobjhkbaaGreatDoor
