/-
  KindWrite of the specification: what it answers.
-/
import Derived.Test.YtkaannpoldenkagKSpecText
namespace Go.Proofs.Ytkaannpoldenkag
open Go.RowKit

set_option maxRecDepth 20000 in
set_option maxHeartbeats 400000 in
theorem specKWrite_any (n : Nat) (S : Nat → Prop) (t : K n) (c0 c1 c2 : Value) (w : World) (ht : KindIn S w n t c0 c1 c2) (hB : ∀ b, S b → b < w.heap.size) :
    Calls Try.prog 8 #[.agg #[c0, c1, c2]] w fun e w' => e = .returned (.string (textKF n t)) ∧ Below w.heap.size w w' := by
  obtain ⟨x0, xa, xl, xc, ya, yl, yc, rfl, rfl, rfl⟩ := ht.shape
  have hb0 := (Below.refl w.heap.size w).alloc (Nat.le_refl _) (.cells #[.int .i64 x0, .slice xa xl xc, .slice ya yl yc] 30)
  have hx0 := Box3.new w (.int .i64 x0) (.slice xa xl xc) (.slice ya yl yc) 30
  obtain ⟨ht0, hB0⟩ := ht.step hB hb0
  clear ht hB
  go_enter Try.func8, Try.ntmps8
  go_wp2_with fail
  refine (specKOk_any n S t _ _ _ _ ht0 hB0).mono ?_
  rintro e w1 ⟨rfl, hb1⟩
  have hbw1 := below_step hb0 (by simp) hb1
  obtain ⟨k0, k1, k2⟩ := hx0.keep hb1
  obtain ⟨ht1, hB1⟩ := ht0.step hB0 hb1
  clear hb0 hb1 hx0 ht0 hB0
  cases hok : okK n t with
  | false =>
    have HT : Hid (textKF n t = bs []) := by show _ = _; rw [textKF, if_neg (by rw [hok]; simp)]
    clear hok
    go_wp2_with fail
    go_ret
    exact ⟨str_retK HT.out.symm, hbw1⟩
  | true =>
    have HT : Hid (textKF n t = bs (txtK n t)) := by show _ = _; rw [textKF, if_pos hok]
    have hp := okK_get hok
    have HQ : Hid (Calls Try.prog 28 _ w1 _) := l2Text_any n S t _ _ _ 1 w1 ht1 hB1 hp.1 hp.2
    clear hok hp ht1
    go_wp2_with fail
    refine HQ.out.mono ?_
    rintro e w2 ⟨rfl, hb2⟩
    have hbw2 := below_step hbw1 hbw1.size hb2
    clear hb2 hbw1 HQ k0 k1 k2
    go_wp2_with fail
    go_ret
    exact ⟨str_retK HT.out.symm, hbw2⟩

end Go.Proofs.Ytkaannpoldenkag
