/-
  The law of LiftOk, walked.
-/
import Derived.Test.YtlinplghgamgbaaGreatDoorSLB
import Derived.Test.YtlinplghgamgbaaGreatDoorNW3
import Derived.Test.YtlinplghgamgbaaGreatDoorB17
import Derived.Test.YtlinplghgamgbaaGreatDoorB1
namespace Go.Proofs.YtlinplghgamgbaaGreatDoor
open Go.RowKit

set_option maxHeartbeats 1000000 in
theorem lawLOk_any (n : Nat) (S : Nat → Prop) (t : T n) (c0 c1 c2 c3 c4 : Value) (w : World) (ht : TreeIn S w n t c0 c1 c2 c3 c4) (hB : ∀ b, S b → b < w.heap.size) (hT : TensIn w) :
    Calls Tryz.prog 3 #[.agg #[c0, c1, c2, c3, c4]] w fun e w' => e = .returned (.bool true) ∧ Below w.heap.size w w' := by
  obtain ⟨x0, x1, x2, xa, xl, xc, ya, yl, yc, rfl, rfl, rfl, rfl, rfl⟩ := ht.shape
  have hb0 := (Below.refl w.heap.size w).alloc (Nat.le_refl _) (.cells #[.int .i64 x0, .int .i64 x1, .string x2, .slice xa xl xc, .slice ya yl yc] 25)
  have hx0 := Box5.new w (.int .i64 x0) (.int .i64 x1) (.string x2) (.slice xa xl xc) (.slice ya yl yc) 25
  obtain ⟨ht0, hB0⟩ := ht.step hB hb0
  have HT := hidF hT
  clear ht hB hT
  go_enter Tryz.func3, Tryz.ntmps3
  go_wp2_with fail
  refine (szNode_any n S t _ _ _ _ _ _ _ ht0 hB0 (by omega) (by omega)).mono ?_
  rintro e w1 ⟨rfl, hb1⟩
  have hbw1 := below_step hb0 (by simp) hb1
  have hx1 := hx0.keep hb1
  obtain ⟨ht1, hB1⟩ := ht0.step hB0 hb1
  clear hb0 hb1 hx0 ht0 hB0
  obtain ⟨k0, k1, k2, k3, k4⟩ := id hx1
  by_cases hsz : szT n t ≤ 1048576
  case neg =>
    have hneg : leftB (szT n t) 1048576 < 0 := by unfold leftB; rw [if_neg (by omega)]; omega
    go_wp2_with fail
    go_ret
    exact ⟨rfl, hbw1⟩
  have hpos : ¬ leftB (szT n t) 1048576 < 0 := by unfold leftB; rw [if_pos (by omega)]; omega
  go_wp2_with fail
  -- the first copy, and the specification's answer
  refine (toNode_any n S t _ _ _ _ _ w1 ht1 hB1 hsz).mono ?_
  rintro e w2 ⟨d0, d1, d2, d3, d4, rfl, hin2, hb2⟩
  have hbw2 := below_step hbw1 hbw1.size hb2
  have hx2 := hx1.keep hb2
  obtain ⟨ht2, hB2⟩ := ht1.step hB1 hb2
  clear hb2 hx1 ht1 hB1 k0 k1 k2 k3 k4
  go_wp2_with fail
  refine (specLOk_any n _ t _ _ _ _ _ w2 hin2 (fun b hb => hb.2) hsz).mono ?_
  rintro e w3 ⟨rfl, hb3⟩
  have hbw3 := below_step hbw2 hbw2.size hb3
  have hx3 := hx2.keep hb3
  obtain ⟨ht3, hB3⟩ := ht2.step hB2 hb3
  clear hb3 hx2 ht2 hB2 hin2
  obtain ⟨k0, k1, k2, k3, k4⟩ := id hx3
  go_wp2_with fail
  -- the second copy, and the program's answer
  refine (toNode_any n S t _ _ _ _ _ w3 ht3 hB3 hsz).mono ?_
  rintro e w4 ⟨f0, f1, f2, f3, f4, rfl, hin4, hb4⟩
  have hbw4 := below_step hbw3 hbw3.size hb4
  have hx4 := hx3.keep hb4
  obtain ⟨ht4, hB4⟩ := ht3.step hB3 hb4
  clear hb4 hx3 ht3 hB3 k0 k1 k2 k3 k4
  obtain ⟨z0, z1, z2, za, zl, zc, va, vl, vc, rfl, rfl, rfl, rfl, rfl⟩ := hin4.shape
  have hb5 := (Below.refl w4.heap.size w4).alloc (Nat.le_refl _) (.cells #[.int .i64 z0, .int .i64 z1, .string z2, .slice za zl zc, .slice va vl vc] 30)
  have hy5 := Box5.new w4 (.int .i64 z0) (.int .i64 z1) (.string z2) (.slice za zl zc) (.slice va vl vc) 30
  obtain ⟨hin5, hC5⟩ := hin4.step (fun b hb => hb.2) hb5
  have hbw5 := below_step hbw4 hbw4.size hb5
  have hx5 := hx4.keep hb5
  obtain ⟨ht5, hB5⟩ := ht4.step hB4 hb5
  clear hb5 hx4 ht4 hB4 hin4
  go_wp2_with fail
  refine (implLOk_any n _ _ t _ _ _ _ _ hin5 hC5 hsz (HT.out.step hbw5)).mono ?_
  rintro e w6 ⟨rfl, hb6⟩
  have hbw6 := below_step hbw5 hbw5.size hb6
  have hx6 := hx5.keep hb6
  have hy6 := hy5.keep hb6
  obtain ⟨ht6, hB6⟩ := ht5.step hB5 hb6
  obtain ⟨hin6, hC6⟩ := hin5.step hC5 hb6
  clear hb6 hx5 hy5 ht5 hB5 hin5 hC5
  obtain ⟨k0, k1, k2, k3, k4⟩ := id hx6
  obtain ⟨m0, m1, m2, m3, m4⟩ := id hy6
  have hne : (okA n t != okA n t) = false := by simp
  have HC7 : Hid (Calls Tryz.prog 8 #[.agg #[.int .i64 x0, .int .i64 x1, .string x2, .slice xa xl xc, .slice ya yl yc]] w6.drew fun e w' => ∃ g0 g1 g2 g3 g4, e = .returned (.agg #[g0, g1, g2, g3, g4]) ∧
      NodeIn (fun b => w6.heap.size ≤ b ∧ b < w'.heap.size) w' n t g0 g1 g2 g3 g4 ∧ Below w6.heap.size w6 w' ∧ Box5 w' w4.heap.size (.int .i64 z0) (.int .i64 z1) (.string z2) (.slice za zl zc) (.slice va vl vc)) := by
    refine (toNode_any n S t _ _ _ _ _ w6.drew (TreeIn.keep (w := w6) (w' := w6.drew) (fun _ _ => rfl) (fun _ h => h) ht6) hB6 hsz).mono ?_
    rintro e w' ⟨g0, g1, g2, g3, g4, rfl, hg, hbg⟩
    have hbg' : Below w6.heap.size w6 w' := ((Below.refl _ _).drew).trans hbg
    exact ⟨g0, g1, g2, g3, g4, rfl, hg, hbg', hy6.keep hbg'⟩
  have HC9 : Hid (∀ (w' : World) (g0 g1 g2 g3 g4 : Value), NodeIn (fun b => w6.heap.size ≤ b ∧ b < w'.heap.size) w' n t g0 g1 g2 g3 g4 → Below w6.heap.size w6 w' →
      Calls Tryz.prog 10 #[.agg #[.int .i64 z0, .int .i64 z1, .string z2, .slice za zl zc, .slice va vl vc], .agg #[g0, g1, g2, g3, g4]] w' fun e w'' => e = .returned (.bool true) ∧ Below w'.heap.size w' w'') := by
    intro w' g0 g1 g2 g3 g4 hg hbg
    obtain ⟨hin7, hC7⟩ := hin6.step hC6 hbg
    exact eqNode_same n _ _ t _ _ _ _ _ _ _ _ _ _ w' hin7.tree hg.tree hC7 (fun b hb => hb.2)
  clear ht6 hB6 hin6 hC6 hx6 hy6
  go_wp2_with fail
  go_region_with (first
    | (go_at_call 8; refine HC7.out.mono ?_; rintro e w7 ⟨g0, g1, g2, g3, g4, rfl, hg, hbg, ⟨o0, o1, o2, o3, o4⟩⟩)
    | (go_at_call 10; refine (HC9.out _ _ _ _ _ _ (by assumption) (by assumption)).mono ?_; rintro e w8 ⟨rfl, hb8⟩))
  all_goals
    have hbw7 := below_step hbw6 hbw6.size hbg
    have hbw8 := below_step hbw7 hbw7.size hb8
    clear hbg hb8 hbw6 hbw7 HC7 HC9
    go_wp2_with fail
    go_ret
    exact ⟨rfl, hbw8⟩

end Go.Proofs.YtlinplghgamgbaaGreatDoor
