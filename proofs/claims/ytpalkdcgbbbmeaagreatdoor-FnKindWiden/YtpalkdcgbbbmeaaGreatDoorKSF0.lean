/-
  The specification's l3Kid: the schema of a name in a form.
-/
import Derived.Test.YtpalkdcgbbbmeaaGreatDoorKFits
import Derived.Test.YtpalkdcgbbbmeaaGreatDoorKSpecHas
import Derived.Test.YtpalkdcgbbbmeaaGreatDoorKSpec
namespace Go.Proofs.YtpalkdcgbbbmeaaGreatDoor
open Go.RowKit

theorem zero3_cells {w : World} {N : Nat} (h : w.heap[N]? = some (.cells #[.int .i64 0, .slice none 0 0, .slice none 0 0] 26 (0, 0))) :
    (w.cell? ⟨N, 0, none⟩ = some (.int .i64 0) ∧ w.cell? ⟨N, 1, none⟩ = some (.slice none 0 0) ∧ w.cell? ⟨N, 2, none⟩ = some (.slice none 0 0)) ∧
      w.frozen? ⟨N, 0, none⟩ = false ∧ w.frozen? ⟨N, 1, none⟩ = false ∧ w.frozen? ⟨N, 2, none⟩ = false := by
  refine ⟨⟨?_, ?_, ?_⟩, ?_, ?_, ?_⟩ <;> simp [World.cell?, World.frozen?, h]

set_option maxRecDepth 20000 in
set_option maxHeartbeats 1000000 in
theorem l3Kid_yes (S : Nat → Prop) (n : Nat) (k : K (n + 1)) (c0 c1 c2 : Value) (x : ByteArray) (w : World) (hk : KindIn S w (n + 1) k c0 c1 c2) (hB : ∀ b, S b → b < w.heap.size)
    (i : Nat) (hi : i < (Kd.names k).length) (hik : i < (Kd.kids k).length) (hx : (Kd.names k)[i] = x) (hall : ∀ q (h : q < (Kd.names k).length), q < i → (Kd.names k)[q] ≠ x) :
    Calls Tryz.prog 91 #[.agg #[c0, c1, c2], .string x] w fun e w' => Below w.heap.size w w' ∧ ∃ g0 g1 g2, e = .returned (.tuple #[.agg #[g0, g1, g2], .bool true]) ∧ KindIn S w' n (Kd.kids k)[i] g0 g1 g2 := by
  obtain ⟨rfl, -, hk3, hk4⟩ := hk
  obtain ⟨na, nc, rfl, hnl, -, hnc⟩ := id hk3
  obtain ⟨ka, kc, rfl, hkl, hkc⟩ := id hk4
  unfold maxLen at hnl hkl
  obtain ⟨b2, off2, rfl, hbB2, hcl2⟩ := hkc (by intro h; rw [h] at hik; simp at hik)
  obtain ⟨g0, g1, g2, f0, f1, f2, hin⟩ := hcl2 i hik
  obtain ⟨u0, ua, ul, uc, va, vl, vc, rfl, rfl, rfl⟩ := hin.shape
  obtain ⟨b, off, rfl, hbB, hcl⟩ := hnc (by intro h; rw [h] at hi; simp at hi)
  obtain ⟨W0, hW0⟩ : ∃ W0, W0 = (w.alloc (.cells #[.int .i64 (Kd.sort k), .slice (some ⟨b, off, none⟩) (Kd.names k).length nc, .slice (some ⟨b2, off2, none⟩) (Kd.kids k).length kc] 26)).alloc (.cells #[.int .i64 0, .slice none 0 0, .slice none 0 0] 26) := ⟨_, rfl⟩
  have hb0 : Below w.heap.size w W0 := by rw [hW0]; exact ((Below.refl _ _).alloc (Nat.le_refl _) _).alloc (by simp) _
  have hx3 : Box3 W0 w.heap.size (.int .i64 (Kd.sort k)) (.slice (some ⟨b, off, none⟩) (Kd.names k).length nc) (.slice (some ⟨b2, off2, none⟩) (Kd.kids k).length kc) := by rw [hW0]; exact (Box3.new w _ _ _ 26).keep ((Below.refl _ _).alloc (Nat.le_refl _) _)
  have hz : W0.heap[w.heap.size + 1]? = some (.cells #[.int .i64 0, .slice none 0 0, .slice none 0 0] 26 (0, 0)) := by
    rw [hW0]
    have := heap_alloc_new (w.alloc (.cells #[.int .i64 (Kd.sort k), .slice (some ⟨b, off, none⟩) (Kd.names k).length nc, .slice (some ⟨b2, off2, none⟩) (Kd.kids k).length kc] 26)) (.cells #[.int .i64 0, .slice none 0 0, .slice none 0 0] 26)
    rw [show (w.alloc (.cells #[.int .i64 (Kd.sort k), .slice (some ⟨b, off, none⟩) (Kd.names k).length nc, .slice (some ⟨b2, off2, none⟩) (Kd.kids k).length kc] 26)).heap.size = w.heap.size + 1 by simp] at this
    exact this
  have r0 := (hb0.cell (p := ⟨b2, off2 + i * 3, none⟩) (hB b2 hbB2)).trans f0
  have r1 := (hb0.cell (p := ⟨b2, off2 + i * 3 + 1, none⟩) (hB b2 hbB2)).trans f1
  have r2 := (hb0.cell (p := ⟨b2, off2 + i * 3 + 2, none⟩) (hB b2 hbB2)).trans f2
  obtain ⟨⟨z0, z1, z2⟩, q0, q1, q2⟩ := zero3_cells hz
  obtain ⟨i0, i1, i2⟩ := hx3
  have HIN : Hid (KindIn S (put3 W0 (w.heap.size + 1) 0 (.int .i64 u0) (.slice ua ul uc) (.slice va vl vc)) n (Kd.kids k)[i] (.int .i64 u0) (.slice ua ul uc) (.slice va vl vc) ∧ Below w.heap.size w (put3 W0 (w.heap.size + 1) 0 (.int .i64 u0) (.slice ua ul uc) (.slice va vl vc))) :=
    ⟨hin.keep (fun b hb => (put3_other (by have := hB b hb; omega)).trans (hb0.block b (hB b hb))) (fun _ h => h), put3_below hb0 (by omega)⟩
  have HC : Hid (∀ j (h : j < (Kd.names k).length), W0.cell? ⟨b, off + j, none⟩ = some (.string (Kd.names k)[j])) := fun j h => (hb0.cell (p := ⟨b, off + j, none⟩) (hB b hbB)).trans (hcl j h)
  have hil : (i : Int) < ((Kd.names k).length : Int) := by omega
  have hikl : (i : Int) < ((Kd.kids k).length : Int) := by omega
  clear hk3 hk4 hnc hkc hcl hcl2 hin f0 f1 f2 hb0 hz
  go_enter Tryz.func91, Tryz.ntmps91
  go_wp2_with fail
  rw [← hW0]
  clear hW0
  go_loopw [6] (fun iv wr => ∃ j : Nat, j ≤ i ∧ iv = .int .i64 j ∧ wr = W0) (fun iv _ => i - (intOf iv).toNat)
  case atStart => exact ⟨0, Nat.zero_le _, rfl, rfl⟩
  case round =>
    obtain ⟨j, hj, rfl, rfl⟩ := hrel
    have hlt : j < (Kd.names k).length := by omega
    have hlti : (j : Int) < ((Kd.names k).length : Int) := by omega
    have f0 := HC.out j hlt
    by_cases hji : j = i
    · subst hji
      have heq : ((Kd.names k)[j].toList == x.toList) = true := by rw [str_beq]; simpa using hx
      generalize (Kd.names k)[j] = s1 at *
      go_wp2_with fail
      refine bodyPost_ret (v := .tuple #[.agg #[.int .i64 u0, .slice ua ul uc, .slice va vl vc], .bool true]) (by simp [results, Tryz.results91, go_sem, z0, z1, z2]) rfl ?_
      exact ⟨HIN.out.2, _, _, _, rfl, HIN.out.1⟩
    · have heq : ((Kd.names k)[j].toList == x.toList) = false := by rw [str_beq]; simpa using hall j hlt (by omega)
      generalize (Kd.names k)[j] = s1 at *
      go_wp2_with fail
      go_roundw
      case rel => exact ⟨j + 1, by omega, by go_num, by trivial⟩
      case measure => simp [intOf]; omega

set_option maxRecDepth 20000 in
set_option maxHeartbeats 1000000 in
theorem l3Kid_no (S : Nat → Prop) (n : Nat) (k : K (n + 1)) (c0 c1 c2 : Value) (x : ByteArray) (w : World) (hk : KindIn S w (n + 1) k c0 c1 c2) (hB : ∀ b, S b → b < w.heap.size)
    (hall : ∀ q (h : q < (Kd.names k).length), (Kd.names k)[q] ≠ x) :
    Calls Tryz.prog 91 #[.agg #[c0, c1, c2], .string x] w fun e w' => Below w.heap.size w w' ∧ e = .returned (.tuple #[.agg #[.int .i64 0, .slice none 0 0, .slice none 0 0], .bool false]) := by
  obtain ⟨rfl, -, hk3, hk4⟩ := hk
  obtain ⟨na, nc, rfl, hnl, -, hnc⟩ := id hk3
  obtain ⟨ka, kc, rfl, hkl, hkc⟩ := id hk4
  unfold maxLen at hnl hkl
  obtain ⟨W0, hW0⟩ : ∃ W0, W0 = (w.alloc (.cells #[.int .i64 (Kd.sort k), .slice na (Kd.names k).length nc, .slice ka (Kd.kids k).length kc] 26)).alloc (.cells #[.int .i64 0, .slice none 0 0, .slice none 0 0] 26) := ⟨_, rfl⟩
  have hb0 : Below w.heap.size w W0 := by rw [hW0]; exact ((Below.refl _ _).alloc (Nat.le_refl _) _).alloc (by simp) _
  have hx3 : Box3 W0 w.heap.size (.int .i64 (Kd.sort k)) (.slice na (Kd.names k).length nc) (.slice ka (Kd.kids k).length kc) := by rw [hW0]; exact (Box3.new w _ _ _ 26).keep ((Below.refl _ _).alloc (Nat.le_refl _) _)
  have hz : W0.heap[w.heap.size + 1]? = some (.cells #[.int .i64 0, .slice none 0 0, .slice none 0 0] 26 (0, 0)) := by
    rw [hW0]
    have := heap_alloc_new (w.alloc (.cells #[.int .i64 (Kd.sort k), .slice na (Kd.names k).length nc, .slice ka (Kd.kids k).length kc] 26)) (.cells #[.int .i64 0, .slice none 0 0, .slice none 0 0] 26)
    rw [show (w.alloc (.cells #[.int .i64 (Kd.sort k), .slice na (Kd.names k).length nc, .slice ka (Kd.kids k).length kc] 26)).heap.size = w.heap.size + 1 by simp] at this
    exact this
  obtain ⟨⟨z0, z1, z2⟩, q0, q1, q2⟩ := zero3_cells hz
  obtain ⟨i0, i1, i2⟩ := hx3
  have HIN : Hid (Below w.heap.size w (put3 W0 (w.heap.size + 1) 0 (.int .i64 0) (.slice none 0 0) (.slice none 0 0))) := put3_below hb0 (by omega)
  have HC : Hid (∀ j (h : j < (Kd.names k).length), ∃ b off, na = some ⟨b, off, none⟩ ∧ W0.cell? ⟨b, off + j, none⟩ = some (.string (Kd.names k)[j])) := fun j h => by
    obtain ⟨b, off, rfl, hbB, hcl⟩ := hnc (by intro h'; rw [h'] at h; simp at h)
    exact ⟨b, off, rfl, (hb0.cell (p := ⟨b, off + j, none⟩) (hB b hbB)).trans (hcl j h)⟩
  clear hk3 hk4 hnc hkc hb0 hz
  go_enter Tryz.func91, Tryz.ntmps91
  go_wp2_with fail
  rw [← hW0]
  clear hW0
  go_loopw [6] (fun iv wr => ∃ j : Nat, j ≤ (Kd.names k).length ∧ iv = .int .i64 j ∧ wr = W0) (fun iv _ => (Kd.names k).length - (intOf iv).toNat)
  case atStart => exact ⟨0, Nat.zero_le _, rfl, rfl⟩
  case round =>
    obtain ⟨j, hj, rfl, rfl⟩ := hrel
    by_cases hlt : j < (Kd.names k).length
    · have hlti : (j : Int) < ((Kd.names k).length : Int) := by omega
      obtain ⟨b, off, rfl, f0⟩ := HC.out j hlt
      have heq : ((Kd.names k)[j].toList == x.toList) = false := by rw [str_beq]; simpa using hall j hlt
      generalize (Kd.names k)[j] = s1 at *
      go_wp2_with fail
      go_roundw
      case rel => exact ⟨j + 1, by omega, by go_num, by trivial⟩
      case measure => simp [intOf]; omega
    · have hlti : ¬ (j : Int) < ((Kd.names k).length : Int) := by omega
      go_wp2_with fail
      refine bodyPost_ret (v := .tuple #[.agg #[.int .i64 0, .slice none 0 0, .slice none 0 0], .bool false]) (by simp [results, Tryz.results91, go_sem, z0, z1, z2]) rfl ?_
      exact ⟨HIN.out, rfl⟩

end Go.Proofs.YtpalkdcgbbbmeaaGreatDoor
