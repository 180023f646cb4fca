/-
  The specification's KindHas: what it answers.
-/
import Derived.Test.YtpalkdcgbbbmeaaGreatDoorKSpecHas2
namespace Go.Proofs.YtpalkdcgbbbmeaaGreatDoor
open Go.RowKit

/-- What KindHas answers. -/
def hasF (n : Nat) (k : K n) (m : Nat) (t : T m) : Bool := okK n k && okT m t && hasK n k m t

set_option maxRecDepth 100000 in
set_option maxHeartbeats 1000000 in
theorem specKHas_any (n m : Nat) (S S' : Nat → Prop) (k : K n) (t : T m) (c0 c1 c2 e0 e1 e2 e3 e4 : Value) (w : World) (hk : KindIn S w n k c0 c1 c2) (ht : TreeIn S' w m t e0 e1 e2 e3 e4) (hB : ∀ b, S b → b < w.heap.size) (hB' : ∀ b, S' b → b < w.heap.size) :
    Calls Tryz.prog 7 #[.agg #[c0, c1, c2], .agg #[e0, e1, e2, e3, e4]] w fun e w' => e = .returned (.bool (hasF n k m t)) ∧ Below w.heap.size w w' := by
  obtain ⟨x0, xa, xl, xc, ya, yl, yc, rfl, rfl, rfl⟩ := hk.shape
  obtain ⟨z0, z1, z2, za, zl, zc, va, vl, vc, rfl, rfl, rfl, rfl, rfl⟩ := ht.shape
  have hb0 : Below w.heap.size w ((w.alloc (.cells #[.int .i64 x0, .slice xa xl xc, .slice ya yl yc] 26)).alloc (.cells #[.int .i64 z0, .int .i64 z1, .string z2, .slice za zl zc, .slice va vl vc] 29)) :=
    ((Below.refl _ _).alloc (Nat.le_refl _) _).alloc (by simp) _
  have hx3 : Box3 ((w.alloc (.cells #[.int .i64 x0, .slice xa xl xc, .slice ya yl yc] 26)).alloc (.cells #[.int .i64 z0, .int .i64 z1, .string z2, .slice za zl zc, .slice va vl vc] 29)) w.heap.size
      (.int .i64 x0) (.slice xa xl xc) (.slice ya yl yc) := (Box3.new w _ _ _ 26).keep ((Below.refl _ _).alloc (Nat.le_refl _) _)
  have hx5 := Box5.new (w.alloc (.cells #[.int .i64 x0, .slice xa xl xc, .slice ya yl yc] 26)) (.int .i64 z0) (.int .i64 z1) (.string z2) (.slice za zl zc) (.slice va vl vc) 29
  rw [show (w.alloc (.cells #[.int .i64 x0, .slice xa xl xc, .slice ya yl yc] 26)).heap.size = w.heap.size + 1 by simp] at hx5
  obtain ⟨hk0, hB0⟩ := hk.step hB hb0
  obtain ⟨ht0, hB0'⟩ := ht.step hB' hb0
  have HE : Hid (hasF n k m t = (okK n k && okT m t && hasK n k m t)) := rfl
  clear hk ht
  go_enter Tryz.func7, Tryz.ntmps7
  go_wp2_with fail
  refine (specKOk_any n S k _ _ _ _ hk0 hB0).mono ?_
  rintro e w1 ⟨rfl, hb1⟩
  have hbw1 := below_step hb0 (by simp; omega) hb1
  obtain ⟨hk1, hB1⟩ := hk0.step hB0 hb1
  obtain ⟨ht1, hB1'⟩ := ht0.step hB0' hb1
  have hx31 := hx3.keep hb1
  have hx51 := hx5.keep hb1
  obtain ⟨i0, i1, i2⟩ := id hx31
  obtain ⟨j0, j1, j2, j3, j4⟩ := id hx51
  clear hb0 hb1 hx3 hx5 hk0 ht0 hB0 hB0'
  cases hokk : okK n k with
  | false =>
    have HF : Hid (hasF n k m t = false) := by show _ = _; rw [HE.out, hokk]; rfl
    clear hokk
    go_wp2_with fail
    go_ret
    exact ⟨ret_bool HF.out.symm, hbw1⟩
  | true =>
    have HOK : Hid (okK n k = true) := hokk
    clear hokk
    go_wp2_with fail
    refine (specOk_any m S' t _ _ _ _ _ _ ht1 hB1').mono ?_
    rintro e w2 ⟨rfl, hb2⟩
    have hbw2 := below_step hbw1 hbw1.size hb2
    obtain ⟨hk2, hB2⟩ := hk1.step hB1 hb2
    obtain ⟨ht2, hB2'⟩ := ht1.step hB1' hb2
    clear i0 i1 i2 j0 j1 j2 j3 j4
    obtain ⟨i0, i1, i2⟩ := hx31.keep hb2
    obtain ⟨j0, j1, j2, j3, j4⟩ := hx51.keep hb2
    clear hb2 hx31 hx51 hk1 ht1 hB1 hB1'
    cases hokt : okT m t with
    | false =>
      have HF : Hid (hasF n k m t = false) := by show _ = _; rw [HE.out, HOK.out, hokt]; rfl
      clear hokt
      go_wp2_with fail
      go_ret
      exact ⟨ret_bool HF.out.symm, hbw2⟩
    | true =>
      have HF : Hid (hasF n k m t = hasK n k m t) := by show _ = _; rw [HE.out, HOK.out, hokt]; rfl
      have hg1 : goodK n k 1 = true := by have := HOK.out; simp only [okK, Bool.and_eq_true] at this; exact this.1
      have hg2 : goodT m t 1 = true := by simp only [okT, Bool.and_eq_true] at hokt; exact hokt.1
      have HC : Hid (Calls Tryz.prog 33 _ _ _) := l2Has_any n S S' m k t _ _ _ _ _ _ _ _ 1 1 w2 hk2 ht2 hB2 hB2' hg1 hg2
      clear hokt hk2 ht2 hg1 hg2
      go_wp2_with fail
      refine HC.out.mono ?_
      rintro e w3 ⟨rfl, hb3⟩
      have hbw3 := below_step hbw2 hbw2.size hb3
      clear hb3 HC
      go_wp2_with fail
      go_ret
      exact ⟨ret_bool HF.out.symm, hbw3⟩

end Go.Proofs.YtpalkdcgbbbmeaaGreatDoor
