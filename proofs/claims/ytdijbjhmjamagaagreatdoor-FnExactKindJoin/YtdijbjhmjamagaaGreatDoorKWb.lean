/-
  KindFits of the program: what it answers.
-/
import Derived.Test.YtdijbjhmjamagaaGreatDoorKW9
import Derived.Deep.RegionLaw
import Derived.Test.YtdijbjhmjamagaaGreatDoorAsMis2
import Derived.Test.YtdijbjhmjamagaaGreatDoorB12
import Derived.Test.YtdijbjhmjamagaaGreatDoorB11
import Derived.Deep.RegionHeld
import Derived.Deep.Cut
import Derived.BigQuiet
import Derived.Lib.Hide
import Derived.Test.YtdijbjhmjamagaaGreatDoorB16
namespace Go.Proofs.YtdijbjhmjamagaaGreatDoor
open Go.RowKit

theorem HandleIn.step {w w' : World} (h : HandleIn w) (hb : Below w.heap.size w w') : HandleIn w' := by
  unfold HandleIn at *
  exact (hb.cell (p := ⟨0, 0, none⟩) (World.block_lt_of_cell? w ⟨0, 0, none⟩ h)).trans h

set_option maxRecDepth 20000 in
set_option maxHeartbeats 400000 in
theorem isMisfit_yes (z : ByteArray) (w : World) (hg : HandleIn w) : Calls Tryz.prog 27 #[.iface 100 (.agg #[.string z])] w fun e w' => e = .returned (.bool true) ∧ Below w.heap.size w w' := by
  have ha : Below w.heap.size w (w.alloc (.cells #[.string ⟨#[]⟩] 48)) := (Below.refl _ _).alloc (Nat.le_refl _) _
  have HA : Hid (Calls Tryz.prog 55 #[.iface 100 (.agg #[.string z]), .iface 102 (.pointer (some ⟨w.heap.size, 0, none⟩))] (w.alloc (.cells #[.string ⟨#[]⟩] 48)) fun e w' => e = .returned (.bool true) ∧ Below w.heap.size w w') := by
    refine (asMisfit_any z ⟨w.heap.size, 0, none⟩ (.string ⟨#[]⟩) _ (hg.step ha) (by simp) (by simp)).mono ?_
    rintro e w' ⟨rfl, W, hW, rfl⟩
    exact ⟨rfl, (below_step ha ha.size hW).setCell (Nat.le_refl _) _⟩
  clear hg ha
  go_enter Tryz.func27, Tryz.ntmps27
  go_wp2_with fail
  refine HA.out.mono ?_
  rintro e w1 ⟨rfl, hb1⟩
  go_wp2_with fail
  go_ret
  exact ⟨rfl, hb1⟩

set_option maxRecDepth 20000 in
set_option maxHeartbeats 1000000 in
theorem innerPair_no (n m : Nat) (S : Nat → Prop) (a : K n) (b : K m) (x0 z0 : Int) (xa ya za ua : Option Addr) (xl xc yl yc zl zc ul uc : Nat) (w : World) (ha : KindIn S w n a (.int .i64 x0) (.slice xa xl xc) (.slice ya yl yc)) (hb : KindIn S w m b (.int .i64 z0) (.slice za zl zc) (.slice ua ul uc)) (hB : ∀ b, S b → b < w.heap.size) (hno : (okK n a && okK m b) = false) :
    Calls Tryz.prog 24 #[.agg #[.int .i64 x0, .slice xa xl xc, .slice ya yl yc], .agg #[.int .i64 z0, .slice za zl zc, .slice ua ul uc]] w fun e w' => Below w.heap.size w w' ∧ ∃ pa pb, e = .returned (.tuple #[.agg #[.pointer pa, .pointer pb, .string ⟨#[]⟩], .bool false]) := by
  obtain ⟨W1, hW1⟩ : ∃ W1, W1 = ((w.alloc (.cells #[.int .i64 x0, .slice xa xl xc, .slice ya yl yc] 26)).alloc (.cells #[.int .i64 z0, .slice za zl zc, .slice ua ul uc] 26)).alloc (.cells #[.pointer none, .pointer none, .string ⟨#[]⟩] 50) := ⟨_, rfl⟩
  have hb1 : Below w.heap.size w W1 := by rw [hW1]; exact (((Below.refl _ _).alloc (Nat.le_refl _) _).alloc (by simp) _).alloc (by simp; omega) _
  have hz1 : W1.heap.size = w.heap.size + 3 := by rw [hW1]; simp
  have kA : W1.heap[w.heap.size + 1]? = some (.cells #[.int .i64 z0, .slice za zl zc, .slice ua ul uc] 26 (0, 0)) := by
    rw [hW1, Below.heap_alloc _ _ _ (by simp)]
    have := heap_alloc_new (w.alloc (.cells #[.int .i64 x0, .slice xa xl xc, .slice ya yl yc] 26)) (.cells #[.int .i64 z0, .slice za zl zc, .slice ua ul uc] 26)
    simpa using this
  have kZ : W1.heap[w.heap.size + 2]? = some (.cells #[.pointer none, .pointer none, .string ⟨#[]⟩] 50 (0, 0)) := by
    have := heap_alloc_new ((w.alloc (.cells #[.int .i64 x0, .slice xa xl xc, .slice ya yl yc] 26)).alloc (.cells #[.int .i64 z0, .slice za zl zc, .slice ua ul uc] 26)) (.cells #[.pointer none, .pointer none, .string ⟨#[]⟩] 50)
    rw [hW1]; simpa using this
  obtain ⟨ha1, hB1⟩ := ha.step hB hb1
  obtain ⟨hb1', -⟩ := hb.step hB hb1
  have face : ∀ (k : Nat) (t : K k) (c0 c1 c2 : Value) (W : World), KindIn S W k t c0 c1 c2 → (∀ b, S b → b < W.heap.size) → Calls Tryz.prog 49 #[.agg #[c0, c1, c2]] W fun e w' => Below W.heap.size W w' ∧ ∃ pa, e = .returned (.tuple #[.pointer pa, .bool (okK k t)]) := fun k t c0 c1 c2 W ht hBt => (innerKind_any k S t _ _ _ W ht hBt).mono fun e w' h => by
    obtain ⟨h1, ⟨h3, v, rfl, hin⟩ | ⟨h2, rfl⟩⟩ := h
    · obtain ⟨p, rfl, -⟩ := id hin.ptr
      exact ⟨h1, _, by rw [h3]⟩
    · exact ⟨h1, _, by rw [h2]⟩
  have HA : Hid (Calls Tryz.prog 49 #[.agg #[.int .i64 x0, .slice xa xl xc, .slice ya yl yc]] W1 _) := face n a _ _ _ W1 ha1 hB1
  have HBk : Hid (∀ W, Below W1.heap.size W1 W → Calls Tryz.prog 49 #[.agg #[.int .i64 z0, .slice za zl zc, .slice ua ul uc]] W fun e w' => Below W.heap.size W w' ∧ ∃ pa, e = .returned (.tuple #[.pointer pa, .bool (okK m b)])) := fun W hW => by
    obtain ⟨hb2, hB2⟩ := hb1'.step hB1 hW
    exact face m b _ _ _ W hb2 hB2
  have HB1 : Hid (Below w.heap.size w W1) := hb1
  clear ha hb ha1 hb1' hb1 hB1 face
  generalize okK n a = oa at *
  generalize okK m b = ob at *
  go_enter Tryz.func24, Tryz.ntmps24
  go_wp2_with fail
  rw [← hW1]
  clear hW1
  refine HA.out.mono ?_
  rintro e w2 ⟨hb2, pa, rfl⟩
  have HA2 : Hid (Below W1.heap.size W1 w2) := hb2
  have kA2 := (hb2.block (w.heap.size + 1) (by omega)).trans kA
  have q0 : w2.cell? ⟨w.heap.size + 1, 0, none⟩ = some (.int .i64 z0) := by simp [World.cell?, kA2]
  have q1 : w2.cell? ⟨w.heap.size + 1, 1, none⟩ = some (.slice za zl zc) := by simp [World.cell?, kA2]
  have q2 : w2.cell? ⟨w.heap.size + 1, 2, none⟩ = some (.slice ua ul uc) := by simp [World.cell?, kA2]
  have HB2 : Hid (Calls Tryz.prog 49 _ w2 _) := HBk.out w2 hb2
  clear hb2 kA2 HA
  go_wp2_with fail
  refine HB2.out.mono ?_
  rintro e w3 ⟨hb3, pb, rfl⟩
  have hbW := HA2.out
  have kZ3 := (hb3.block (w.heap.size + 2) (by have := hbW.size; omega)).trans ((hbW.block (w.heap.size + 2) (by omega)).trans kZ)
  have z0' : w3.cell? ⟨w.heap.size + 1 + 1, 0, none⟩ = some (.pointer none) := by simp [World.cell?, kZ3]
  have z1' : w3.cell? ⟨w.heap.size + 1 + 1, 1, none⟩ = some (.pointer none) := by simp [World.cell?, kZ3]
  have z2' : w3.cell? ⟨w.heap.size + 1 + 1, 2, none⟩ = some (.string ⟨#[]⟩) := by simp [World.cell?, kZ3]
  have f0' : w3.frozen? ⟨w.heap.size + 1 + 1, 0, none⟩ = false := by simp [World.frozen?, kZ3]
  have f1' : w3.frozen? ⟨w.heap.size + 1 + 1, 1, none⟩ = false := by simp [World.frozen?, kZ3]
  have f2' : w3.frozen? ⟨w.heap.size + 1 + 1, 2, none⟩ = false := by simp [World.frozen?, kZ3]
  have HEnd : Hid (Below w.heap.size w (put3 w3 (w.heap.size + 1 + 1) 0 (.pointer pa) (.pointer pb) (.string ⟨#[]⟩))) := by
    have h3 : Below w.heap.size w w3 := (HB1.out.trans (hbW.mono (by omega))).trans (hb3.mono (by have := hbW.size; omega))
    exact ((h3.setCell (by show _ ≤ w.heap.size + 1 + 1; omega) _).setCell (by show _ ≤ w.heap.size + 1 + 1; omega) _).setCell (by show _ ≤ w.heap.size + 1 + 1; omega) _
  clear q0 q1 q2 kZ3 HB2 hb3 hbW
  cases oa
  case' true =>
    cases ob
    case' true => cases hno
  all_goals
    go_wp2_with fail
    refine bodyPost_ret (v := .tuple #[.agg #[.pointer pa, .pointer pb, .string ⟨#[]⟩], .bool false]) (by simp [results, Tryz.results24, go_sem, z0', z1', z2']) rfl ?_
    exact ⟨HEnd.out, pa, pb, rfl⟩

end Go.Proofs.YtdijbjhmjamagaaGreatDoor
