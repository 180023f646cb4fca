/-
  The law of KindOk, walked.
-/
import Derived.Test.YtkaannpoldenkafKWalk
import Derived.Test.YtkaannpoldenkafKEq
import Derived.Test.YtkaannpoldenkafKTo
import Derived.Test.YtkaannpoldenkafKSpec
namespace Go.Proofs.Ytkaannpoldenkaf
open Go.RowKit

set_option maxHeartbeats 1000000 in
theorem lawKOk_any (n : Nat) (S : Nat → Prop) (t : K n) (c0 c1 c2 : Value) (w : World) (ht : KindIn S w n t c0 c1 c2) (hB : ∀ b, S b → b < w.heap.size) :
    Calls Try.prog 5 #[.agg #[c0, c1, c2]] w fun e w' => e = .returned (.bool true) ∧ Below w.heap.size w w' := by
  obtain ⟨x0, xa, xl, xc, ya, yl, yc, rfl, rfl, rfl⟩ := ht.shape
  have hb0 := (Below.refl w.heap.size w).alloc (Nat.le_refl _) (.cells #[.int .i64 x0, .slice xa xl xc, .slice ya yl yc] 37)
  have hx0 := Box3.new w (.int .i64 x0) (.slice xa xl xc) (.slice ya yl yc) 37
  obtain ⟨ht0, hB0⟩ := ht.step hB hb0
  clear ht hB
  go_enter Try.func5, Try.ntmps5
  go_wp2_with fail
  refine (szKind_any n S t _ _ _ _ _ ht0 hB0 (by omega) (by omega)).mono ?_
  rintro e w1 ⟨rfl, hb1⟩
  have hbw1 := below_step hb0 (by simp) hb1
  have hx1 := hx0.keep hb1
  obtain ⟨ht1, hB1⟩ := ht0.step hB0 hb1
  clear hb0 hb1 hx0 ht0 hB0
  obtain ⟨k0, k1, k2⟩ := id hx1
  by_cases hsz : szK n t ≤ 1048576
  case neg =>
    have hneg : leftB (szK n t) 1048576 < 0 := by unfold leftB; rw [if_neg (by omega)]; omega
    go_wp2_with fail
    go_ret
    exact ⟨rfl, hbw1⟩
  have hpos : ¬ leftB (szK n t) 1048576 < 0 := by unfold leftB; rw [if_pos (by omega)]; omega
  go_wp2_with fail
  -- the first copy, and the specification's answer
  refine (toKind_any n S t _ _ _ w1 ht1 hB1 hsz).mono ?_
  rintro e w2 ⟨d0, d1, d2, rfl, hin2, hb2⟩
  have hbw2 := below_step hbw1 hbw1.size hb2
  have hx2 := hx1.keep hb2
  obtain ⟨ht2, hB2⟩ := ht1.step hB1 hb2
  clear hb2 hx1 ht1 hB1 k0 k1 k2
  go_wp2_with fail
  refine (specKOk_any n _ t _ _ _ w2 hin2 (fun b hb => hb.2)).mono ?_
  rintro e w3 ⟨rfl, hb3⟩
  have hbw3 := below_step hbw2 hbw2.size hb3
  have hx3 := hx2.keep hb3
  obtain ⟨ht3, hB3⟩ := ht2.step hB2 hb3
  clear hb3 hx2 ht2 hB2 hin2
  obtain ⟨k0, k1, k2⟩ := id hx3
  go_wp2_with fail
  -- the second copy, and the program's answer
  refine (toKind_any n S t _ _ _ w3 ht3 hB3 hsz).mono ?_
  rintro e w4 ⟨f0, f1, f2, rfl, hin4, hb4⟩
  have hbw4 := below_step hbw3 hbw3.size hb4
  have hx4 := hx3.keep hb4
  obtain ⟨ht4, hB4⟩ := ht3.step hB3 hb4
  clear hb4 hx3 ht3 hB3 k0 k1 k2
  obtain ⟨z0, za, zl, zc, va, vl, vc, rfl, rfl, rfl⟩ := hin4.shape
  have hb5 := (Below.refl w4.heap.size w4).alloc (Nat.le_refl _) (.cells #[.int .i64 z0, .slice za zl zc, .slice va vl vc] 42)
  have hy5 := Box3.new w4 (.int .i64 z0) (.slice za zl zc) (.slice va vl vc) 42
  obtain ⟨hin5, hC5⟩ := hin4.step (fun b hb => hb.2) hb5
  have hbw5 := below_step hbw4 hbw4.size hb5
  have hx5 := hx4.keep hb5
  obtain ⟨ht5, hB5⟩ := ht4.step hB4 hb5
  clear hb5 hx4 ht4 hB4 hin4
  go_wp2_with fail
  refine (implKOk_any n _ t _ _ _ _ hin5 hC5).mono ?_
  rintro e w6 ⟨rfl, hb6⟩
  have hbw6 := below_step hbw5 hbw5.size hb6
  have hx6 := hx5.keep hb6
  have hy6 := hy5.keep hb6
  obtain ⟨ht6, hB6⟩ := ht5.step hB5 hb6
  obtain ⟨hin6, hC6⟩ := hin5.step hC5 hb6
  clear hb6 hx5 hy5 ht5 hB5 hin5 hC5
  obtain ⟨k0, k1, k2⟩ := id hx6
  obtain ⟨m0, m1, m2⟩ := id hy6
  have hne : (okK n t != okK n t) = false := by simp
  have HC7 : Hid (Calls Try.prog 15 #[.agg #[.int .i64 x0, .slice xa xl xc, .slice ya yl yc]] w6.drew fun e w' => ∃ g0 g1 g2, e = .returned (.agg #[g0, g1, g2]) ∧
      KindIn (fun b => w6.heap.size ≤ b ∧ b < w'.heap.size) w' n t g0 g1 g2 ∧ Below w6.heap.size w6 w' ∧ Box3 w' w4.heap.size (.int .i64 z0) (.slice za zl zc) (.slice va vl vc)) := by
    refine (toKind_any n S t _ _ _ w6.drew (KindIn.keep (w := w6) (w' := w6.drew) (fun _ _ => rfl) (fun _ h => h) ht6) hB6 hsz).mono ?_
    rintro e w' ⟨g0, g1, g2, rfl, hg, hbg⟩
    have hbg' : Below w6.heap.size w6 w' := ((Below.refl _ _).drew).trans hbg
    exact ⟨g0, g1, g2, rfl, hg, hbg', hy6.keep hbg'⟩
  have HC9 : Hid (∀ (w' : World) (g0 g1 g2 : Value), KindIn (fun b => w6.heap.size ≤ b ∧ b < w'.heap.size) w' n t g0 g1 g2 → Below w6.heap.size w6 w' →
      Calls Try.prog 17 #[.agg #[.int .i64 z0, .slice za zl zc, .slice va vl vc], .agg #[g0, g1, g2]] w' fun e w'' => e = .returned (.bool true) ∧ Below w'.heap.size w' w'') := by
    intro w' g0 g1 g2 hg hbg
    obtain ⟨hin7, hC7⟩ := hin6.step hC6 hbg
    exact eqKind_same n _ _ t _ _ _ _ _ _ w' hin7 hg hC7 (fun b hb => hb.2)
  clear ht6 hB6 hin6 hC6 hx6 hy6
  go_wp2_with fail
  go_region_with (first
    | (go_at_call 15; refine HC7.out.mono ?_; rintro e w7 ⟨g0, g1, g2, rfl, hg, hbg, ⟨o0, o1, o2⟩⟩)
    | (go_at_call 17; refine (HC9.out _ _ _ _ (by assumption) (by assumption)).mono ?_; rintro e w8 ⟨rfl, hb8⟩))
  all_goals
    have hbw7 := below_step hbw6 hbw6.size hbg
    have hbw8 := below_step hbw7 hbw7.size hb8
    clear hbg hb8 hbw6 hbw7 HC7 HC9
    go_wp2_with fail
    go_ret
    exact ⟨rfl, hbw8⟩

end Go.Proofs.Ytkaannpoldenkaf
