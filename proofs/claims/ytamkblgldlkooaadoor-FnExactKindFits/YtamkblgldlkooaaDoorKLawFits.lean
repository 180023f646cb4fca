/-
  The law of KindFits, walked.
-/
import Derived.Test.YtamkblgldlkooaaDoorKWb
import Derived.Test.YtamkblgldlkooaaDoorKEq
import Derived.Test.YtamkblgldlkooaaDoorKTo
import Derived.Test.YtamkblgldlkooaaDoorKSz
namespace Go.Proofs.YtamkblgldlkooaaDoor
open Go.RowKit

/-- The law's two arguments, in their boxes. -/
structure ArgKK (S : Nat → Prop) (w : World) (n m : Nat) (k : K n) (t : K m) (N : Nat) (c0 c1 c2 e0 e1 e2 : Value) : Prop where
  b1 : Box3 w N c0 c1 c2
  b2 : Box3 w (N + 1) e0 e1 e2
  k1 : KindIn S w n k c0 c1 c2
  k2 : KindIn S w m t e0 e1 e2
  lt : ∀ b, S b → b < w.heap.size

theorem ArgKK.keep {S : Nat → Prop} {w w' : World} {n m : Nat} {k : K n} {t : K m} {N : Nat} {c0 c1 c2 e0 e1 e2 : Value} (h : ArgKK S w n m k t N c0 c1 c2 e0 e1 e2) (hb : Below w.heap.size w w') : ArgKK S w' n m k t N c0 c1 c2 e0 e1 e2 :=
  ⟨h.b1.keep hb, h.b2.keep hb, h.k1.keep (same_below hb h.lt) (fun _ h => h), h.k2.keep (same_below hb h.lt) (fun _ h => h), fun b hb' => Nat.lt_of_lt_of_le (h.lt b hb') hb.size⟩

theorem ArgKK.six {S : Nat → Prop} {w : World} {n m : Nat} {k : K n} {t : K m} {N : Nat} {c0 c1 c2 e0 e1 e2 : Value} (h : ArgKK S w n m k t N c0 c1 c2 e0 e1 e2) :
    (w.cell? ⟨N, 0, none⟩ = some c0 ∧ w.cell? ⟨N, 1, none⟩ = some c1 ∧ w.cell? ⟨N, 2, none⟩ = some c2) ∧ w.cell? ⟨N + 1, 0, none⟩ = some e0 ∧ w.cell? ⟨N + 1, 1, none⟩ = some e1 ∧ w.cell? ⟨N + 1, 2, none⟩ = some e2 :=
  ⟨⟨h.b1.c0, h.b1.c1, h.b1.c2⟩, h.b2.c0, h.b2.c1, h.b2.c2⟩

set_option maxRecDepth 100000 in
set_option maxHeartbeats 4000000 in
theorem lawKFits_any (n m : Nat) (S : Nat → Prop) (k : K n) (t : K m) (c0 c1 c2 e0 e1 e2 : Value) (w : World) (hk : KindIn S w n k c0 c1 c2) (ht : KindIn S w m t e0 e1 e2) (hB : ∀ b, S b → b < w.heap.size) (hg : HandleIn w) :
    Calls Tryd.prog 3 #[.agg #[c0, c1, c2], .agg #[e0, e1, e2]] w fun e w' => e = .returned (.bool true) ∧ Below w.heap.size w w' := by
  obtain ⟨x0, xa, xl, xc, ya, yl, yc, rfl, rfl, rfl⟩ := hk.shape
  obtain ⟨z0, za, zl, zc, va, vl, vc, rfl, rfl, rfl⟩ := ht.shape
  obtain ⟨W0, hW0⟩ : ∃ W0, W0 = (w.alloc (.cells #[.int .i64 x0, .slice xa xl xc, .slice ya yl yc] 25)).alloc (.cells #[.int .i64 z0, .slice za zl zc, .slice va vl vc] 25) := ⟨_, rfl⟩
  have hb0 : Below w.heap.size w W0 := by rw [hW0]; exact ((Below.refl _ _).alloc (Nat.le_refl _) _).alloc (by simp) _
  have hx2 : Box3 W0 (w.heap.size + 1) (.int .i64 z0) (.slice za zl zc) (.slice va vl vc) := by
    rw [hW0]
    have hx := Box3.new (w.alloc (.cells #[.int .i64 x0, .slice xa xl xc, .slice ya yl yc] 25)) (.int .i64 z0) (.slice za zl zc) (.slice va vl vc) 25
    rw [show (w.alloc (.cells #[.int .i64 x0, .slice xa xl xc, .slice ya yl yc] 25)).heap.size = w.heap.size + 1 by simp] at hx
    exact hx
  have a0 : ArgKK S W0 n m k t w.heap.size (.int .i64 x0) (.slice xa xl xc) (.slice ya yl yc) (.int .i64 z0) (.slice za zl zc) (.slice va vl vc) := ⟨by rw [hW0]; exact (Box3.new w _ _ _ 25).keep ((Below.refl _ _).alloc (Nat.le_refl _) _), hx2, hk.keep (same_below hb0 hB) (fun _ h => h), ht.keep (same_below hb0 hB) (fun _ h => h), fun b hb => Nat.lt_of_lt_of_le (hB b hb) hb0.size⟩
  have HG : Hid (HandleIn w) := hg
  have HB0 : Hid (Below w.heap.size w W0) := hb0
  have HA0 : Hid (ArgKK S W0 n m k t w.heap.size (.int .i64 x0) (.slice xa xl xc) (.slice ya yl yc) (.int .i64 z0) (.slice za zl zc) (.slice va vl vc)) := a0
  have HC1 : Hid (Calls Tryd.prog 4 #[.agg #[.int .i64 x0, .slice xa xl xc, .slice ya yl yc], .int .i64 1048576] W0 _) := szKind_any n S k _ _ _ 1048576 W0 a0.k1 a0.lt (by omega) (by omega)
  obtain ⟨⟨i0, i1, i2⟩, i3, i4, i5⟩ := a0.six
  rw [hW0] at i0 i1 i2 i3 i4 i5
  clear hk ht hB hg hb0 a0 hx2
  go_enter Tryd.func3, Tryd.ntmps3
  go_wp2_with fail
  rw [← hW0]
  clear hW0
  refine HC1.out.mono ?_
  rintro e w1 ⟨rfl, hb1⟩
  have HB1 : Hid (Below w.heap.size w w1) := below_step HB0.out HB0.out.size hb1
  have a1 := HA0.out.keep hb1
  clear i0 i1 i2 i3 i4 i5
  obtain ⟨⟨i0, i1, i2⟩, i3, i4, i5⟩ := a1.six
  have HA1 : Hid (ArgKK S w1 n m k t w.heap.size (.int .i64 x0) (.slice xa xl xc) (.slice ya yl yc) (.int .i64 z0) (.slice za zl zc) (.slice va vl vc)) := a1
  clear hb1 a1 HC1 HA0 HB0
  by_cases hsz : szK n k ≤ 1048576
  case neg =>
    have hneg : leftB (szK n k) 1048576 < 0 := by unfold leftB; rw [if_neg (by omega)]; omega
    go_wp2_with fail
    go_ret
    exact ⟨rfl, HB1.out⟩
  have hpos : leftB (szK n k) 1048576 = 1048576 - szK n k := by unfold leftB; rw [if_pos (by omega)]
  rw [hpos]
  clear hpos
  generalize hlf : (1048576 : Int) - szK n k = lf
  have hlf0 : 0 ≤ lf := by omega
  have hlf1 : lf ≤ 1048576 := by omega
  clear hlf
  have HC2 : Hid (Calls Tryd.prog 4 #[.agg #[.int .i64 z0, .slice za zl zc, .slice va vl vc], .int .i64 lf] w1 _) := szKind_any m S t _ _ _ lf w1 HA1.out.k2 HA1.out.lt (by omega) hlf1
  go_wp2_with fail
  refine HC2.out.mono ?_
  rintro e w2 ⟨rfl, hb2⟩
  have HB2 : Hid (Below w.heap.size w w2) := below_step HB1.out HB1.out.size hb2
  have a2 := HA1.out.keep hb2
  clear i0 i1 i2 i3 i4 i5
  obtain ⟨⟨i0, i1, i2⟩, i3, i4, i5⟩ := a2.six
  have HA2 : Hid (ArgKK S w2 n m k t w.heap.size (.int .i64 x0) (.slice xa xl xc) (.slice ya yl yc) (.int .i64 z0) (.slice za zl zc) (.slice va vl vc)) := a2
  clear hb2 a2 HC2 HA1 HB1
  by_cases hszt : szK m t ≤ 1048576 ∧ (szK m t : Int) ≤ lf
  case neg =>
    have hneg : leftB (szK m t) lf < 0 := by unfold leftB; rw [if_neg (by omega)]; omega
    go_wp2_with fail
    go_ret
    exact ⟨rfl, HB2.out⟩
  have hpos : ¬ leftB (szK m t) lf < 0 := by unfold leftB; rw [if_pos (by omega)]; omega
  have HSZ : Hid (szK n k ≤ 1048576 ∧ szK m t ≤ 1048576) := ⟨hsz, hszt.1⟩
  have HS : Hid (∀ W, Below w2.heap.size w2 W → (W.cell? ⟨w.heap.size, 0, none⟩ = some (.int .i64 x0) ∧ W.cell? ⟨w.heap.size, 1, none⟩ = some (.slice xa xl xc) ∧ W.cell? ⟨w.heap.size, 2, none⟩ = some (.slice ya yl yc)) ∧ W.cell? ⟨w.heap.size + 1, 0, none⟩ = some (.int .i64 z0) ∧ W.cell? ⟨w.heap.size + 1, 1, none⟩ = some (.slice za zl zc) ∧ W.cell? ⟨w.heap.size + 1, 2, none⟩ = some (.slice va vl vc)) := fun W hW => (HA2.out.keep hW).six
  have hd2 : Below w2.heap.size w2 w2.drew := (Below.refl _ _).drew
  have HCa : Hid (Calls Tryd.prog 6 #[.agg #[.int .i64 x0, .slice xa xl xc, .slice ya yl yc]] w2.drew fun e w' => ∃ g0 g1 g2, e = .returned (.agg #[g0, g1, g2]) ∧ KindIn (fun b => b < w'.heap.size) w' n k g0 g1 g2 ∧ Below w2.heap.size w2 w') := by
    have a := HA2.out.keep hd2
    refine (toKind_any n S k _ _ _ w2.drew a.k1 a.lt HSZ.out.1).mono ?_
    rintro e w' ⟨g0, g1, g2, rfl, hg, hbg⟩
    exact ⟨g0, g1, g2, rfl, hg.keep (fun _ _ => rfl) (fun b hb => hb.2), hd2.trans hbg⟩
  have HCb : Hid (∀ (W : World) (g0 g1 g2 : Value), KindIn (fun b => b < W.heap.size) W n k g0 g1 g2 → Below w2.heap.size w2 W → Calls Tryd.prog 6 #[.agg #[.int .i64 z0, .slice za zl zc, .slice va vl vc]] W fun e w' => ∃ h0 h1 h2, e = .returned (.agg #[h0, h1, h2]) ∧ KindIn (fun b => b < w'.heap.size) w' m t h0 h1 h2 ∧ KindIn (fun b => b < w'.heap.size) w' n k g0 g1 g2 ∧ Below w2.heap.size w2 w') := by
    intro W g0 g1 g2 hg hW
    have a := HA2.out.keep hW
    refine (toKind_any m S t _ _ _ W a.k2 a.lt HSZ.out.2).mono ?_
    rintro e w' ⟨h0, h1, h2, rfl, hh, hbh⟩
    exact ⟨h0, h1, h2, rfl, hh.keep (fun _ _ => rfl) (fun b hb => hb.2), hg.keep (same_below hbh (fun b hb => hb)) (fun b hb => Nat.lt_of_lt_of_le hb hbh.size), below_step hW hW.size hbh⟩
  have HCc : Hid (∀ (W : World) (g0 g1 g2 h0 h1 h2 : Value), KindIn (fun b => b < W.heap.size) W n k g0 g1 g2 → KindIn (fun b => b < W.heap.size) W m t h0 h1 h2 → Below w2.heap.size w2 W → Calls Tryd.prog 5 #[.agg #[g0, g1, g2], .agg #[h0, h1, h2]] W fun e w' => e = .returned (.bool (fitsF n k m t)) ∧ Below w2.heap.size w2 w') := by
    intro W g0 g1 g2 h0 h1 h2 hg hh hW
    refine (specKFits_any n m _ _ k t _ _ _ _ _ _ W hg hh (fun _ h => h) (fun _ h => h)).mono ?_
    rintro e w' ⟨rfl, hb'⟩
    exact ⟨rfl, below_step hW hW.size hb'⟩
  clear hsz hszt hd2
  go_upto_region 8 with fail
  go_cut [6] from 20 to 44 (fun v wx => v = .bool (fitsF n k m t) ∧ Below w2.heap.size w2 wx)
  case first =>
    go_region_held (fun w' => (w'.cell? ⟨w.heap.size, 0, none⟩ = some (.int .i64 x0) ∧ w'.cell? ⟨w.heap.size, 1, none⟩ = some (.slice xa xl xc) ∧ w'.cell? ⟨w.heap.size, 2, none⟩ = some (.slice ya yl yc)) ∧ w'.cell? ⟨w.heap.size + 1, 0, none⟩ = some (.int .i64 z0) ∧ w'.cell? ⟨w.heap.size + 1, 1, none⟩ = some (.slice za zl zc) ∧ w'.cell? ⟨w.heap.size + 1, 2, none⟩ = some (.slice va vl vc)) (first | with_reducible assumption | go_keep) (first
      | (go_at_call_of 6 (Value.agg #[.int .i64 x0, .slice xa xl xc, .slice ya yl yc]); refine HCa.out.mono ?_; rintro e w3 ⟨g0, g1, g2, rfl, hg3, hb3⟩; obtain ⟨⟨j0, j1, j2⟩, j3, j4, j5⟩ := HS.out w3 hb3)
      | (go_at_call_of 6 (Value.agg #[.int .i64 z0, .slice za zl zc, .slice va vl vc]); refine (HCb.out _ _ _ _ (by with_reducible assumption) (by with_reducible assumption)).mono ?_; rintro e w4 ⟨h0, h1, h2, rfl, hh4, hg4, hb4⟩; obtain ⟨⟨k0, k1, k2⟩, k3, k4, k5⟩ := HS.out w4 hb4)
      | (go_at_call 5; refine (HCc.out _ _ _ _ _ _ _ (by with_reducible assumption) (by with_reducible assumption) (by with_reducible assumption)).mono ?_; rintro e w5 ⟨rfl, hb5⟩; obtain ⟨⟨l0, l1, l2⟩, l3, l4, l5⟩ := HS.out w5 hb5))
    all_goals
      go_wp2_with fail
      go_meet
      exact ⟨rfl, hb5⟩
  case rest =>
    obtain ⟨rfl, hb5⟩ := hcut
    have HB5 : Hid (Below w.heap.size w wc) := below_step HB2.out HB2.out.size hb5
    have a5 := HA2.out.keep hb5
    have HA5 : Hid (ArgKK S wc n m k t w.heap.size (.int .i64 x0) (.slice xa xl xc) (.slice ya yl yc) (.int .i64 z0) (.slice za zl zc) (.slice va vl vc)) := a5
    clear i0 i1 i2 i3 i4 i5
    obtain ⟨⟨i0, i1, i2⟩, i3, i4, i5⟩ := a5.six
    have HC6 : Hid (Calls Tryd.prog 6 #[.agg #[.int .i64 x0, .slice xa xl xc, .slice ya yl yc]] wc _) := toKind_any n S k _ _ _ wc a5.k1 a5.lt HSZ.out.1
    clear a5 hb5 HCa HCb HCc HS HA2 HB2 hpos
    go_wp2_with fail
    refine HC6.out.mono ?_
    rintro e w6 ⟨d0, d1, d2, rfl, hin6, hb6⟩
    obtain ⟨f0, fa, fl, fc, ga, gl, gc, rfl, rfl, rfl⟩ := hin6.shape
    obtain ⟨W7, hW7⟩ : ∃ W7, W7 = w6.alloc (.cells #[.int .i64 f0, .slice fa fl fc, .slice ga gl gc] 30) := ⟨_, rfl⟩
    have hal7 : Below w6.heap.size w6 W7 := by rw [hW7]; exact (Below.refl _ _).alloc (Nat.le_refl _) _
    have hb67 : Below wc.heap.size wc W7 := below_step hb6 hb6.size hal7
    have hx7 : Box3 W7 w6.heap.size (.int .i64 f0) (.slice fa fl fc) (.slice ga gl gc) := by rw [hW7]; exact Box3.new w6 _ _ _ 30
    have HP7 : Hid (Box3 W7 w6.heap.size (.int .i64 f0) (.slice fa fl fc) (.slice ga gl gc) ∧ KindIn (fun b => b < W7.heap.size) W7 n k (.int .i64 f0) (.slice fa fl fc) (.slice ga gl gc)) := ⟨hx7, hin6.keep (same_below hal7 (fun b hb => hb.2)) (fun b hb => Nat.lt_of_lt_of_le hb.2 hal7.size)⟩
    have HB7 : Hid (Below w.heap.size w W7) := below_step HB5.out HB5.out.size hb67
    have a7 := HA5.out.keep hb67
    have HA7 : Hid (ArgKK S W7 n m k t w.heap.size (.int .i64 x0) (.slice xa xl xc) (.slice ya yl yc) (.int .i64 z0) (.slice za zl zc) (.slice va vl vc)) := a7
    have HC8 : Hid (Calls Tryd.prog 6 #[.agg #[.int .i64 z0, .slice za zl zc, .slice va vl vc]] W7 _) := toKind_any m S t _ _ _ W7 a7.k2 a7.lt HSZ.out.2
    clear i0 i1 i2 i3 i4 i5
    obtain ⟨⟨i0, i1, i2⟩, i3, i4, i5⟩ := a7.six
    rw [hW7] at i0 i1 i2 i3 i4 i5
    clear a7 hal7 hb67 hx7 hin6 hb6 HC6 HA5 HB5
    go_wp2_with fail
    rw [← hW7] at i0 i1 i2 i3 i4 i5 ⊢
    clear hW7
    refine HC8.out.mono ?_
    rintro e w8 ⟨d0, d1, d2, rfl, hin8, hb8⟩
    obtain ⟨p0, pa, pl, pc, qa, ql, qc, rfl, rfl, rfl⟩ := hin8.shape
    obtain ⟨W9, hW9⟩ : ∃ W9, W9 = w8.alloc (.cells #[.int .i64 p0, .slice pa pl pc, .slice qa ql qc] 30) := ⟨_, rfl⟩
    have hal9 : Below w8.heap.size w8 W9 := by rw [hW9]; exact (Below.refl _ _).alloc (Nat.le_refl _) _
    have hb89 : Below W7.heap.size W7 W9 := below_step hb8 hb8.size hal9
    have hx9 : Box3 W9 w8.heap.size (.int .i64 p0) (.slice pa pl pc) (.slice qa ql qc) := by rw [hW9]; exact Box3.new w8 _ _ _ 30
    have hq9 : KindIn (fun b => b < W9.heap.size) W9 m t (.int .i64 p0) (.slice pa pl pc) (.slice qa ql qc) := hin8.keep (same_below hal9 (fun b hb => hb.2)) (fun b hb => Nat.lt_of_lt_of_le hb.2 hal9.size)
    have hp9 : KindIn (fun b => b < W9.heap.size) W9 n k (.int .i64 f0) (.slice fa fl fc) (.slice ga gl gc) := HP7.out.2.keep (same_below hb89 (fun b hb => hb)) (fun b hb => Nat.lt_of_lt_of_le hb hb89.size)
    have hy9 : Box3 W9 w6.heap.size (.int .i64 f0) (.slice fa fl fc) (.slice ga gl gc) := HP7.out.1.keep hb89
    have HP9 : Hid ((Box3 W9 w6.heap.size (.int .i64 f0) (.slice fa fl fc) (.slice ga gl gc) ∧ KindIn (fun b => b < W9.heap.size) W9 n k (.int .i64 f0) (.slice fa fl fc) (.slice ga gl gc)) ∧ Box3 W9 w8.heap.size (.int .i64 p0) (.slice pa pl pc) (.slice qa ql qc) ∧ KindIn (fun b => b < W9.heap.size) W9 m t (.int .i64 p0) (.slice pa pl pc) (.slice qa ql qc)) := ⟨⟨hy9, hp9⟩, hx9, hq9⟩
    have HB9 : Hid (Below w.heap.size w W9) := below_step HB7.out HB7.out.size hb89
    have HA9 : Hid (ArgKK S W9 n m k t w.heap.size (.int .i64 x0) (.slice xa xl xc) (.slice ya yl yc) (.int .i64 z0) (.slice za zl zc) (.slice va vl vc)) := HA7.out.keep hb89
    have HCi : Hid (Calls Tryd.prog 7 #[.agg #[.int .i64 f0, .slice fa fl fc, .slice ga gl gc], .agg #[.int .i64 p0, .slice pa pl pc, .slice qa ql qc]] W9 _) := implKFits_any n m (fun b => b < W9.heap.size) k t _ _ _ _ _ _ W9 hp9 hq9 (fun _ h => h) (HG.out.step HB9.out)
    clear i0 i1 i2 i3 i4 i5
    obtain ⟨i0, i1, i2⟩ := hy9
    obtain ⟨i3, i4, i5⟩ := hx9
    rw [hW9] at i0 i1 i2 i3 i4 i5
    clear hal9 hb89 hq9 hp9 hin8 hb8 HC8 HA7 HB7 HP7
    go_wp2_with fail
    rw [← hW9] at i0 i1 i2 i3 i4 i5 ⊢
    clear hW9
    refine HCi.out.mono ?_
    rintro e wa ⟨rfl, hba⟩
    have HBa : Hid (Below w.heap.size w wa) := below_step HB9.out HB9.out.size hba
    have aa := HA9.out.keep hba
    have HP : Hid (∀ W, Below wa.heap.size wa W → ((Box3 W w6.heap.size (.int .i64 f0) (.slice fa fl fc) (.slice ga gl gc) ∧ KindIn (fun b => b < W.heap.size) W n k (.int .i64 f0) (.slice fa fl fc) (.slice ga gl gc)) ∧ Box3 W w8.heap.size (.int .i64 p0) (.slice pa pl pc) (.slice qa ql qc) ∧ KindIn (fun b => b < W.heap.size) W m t (.int .i64 p0) (.slice pa pl pc) (.slice qa ql qc)) ∧ ArgKK S W n m k t w.heap.size (.int .i64 x0) (.slice xa xl xc) (.slice ya yl yc) (.int .i64 z0) (.slice za zl zc) (.slice va vl vc) ∧ Below w.heap.size w W) := fun W hW => by
      have hb' := below_step hba hba.size hW
      exact ⟨⟨⟨HP9.out.1.1.keep hb', HP9.out.1.2.keep (same_below hb' (fun b hb => hb)) (fun b hb => Nat.lt_of_lt_of_le hb hb'.size)⟩, HP9.out.2.1.keep hb', HP9.out.2.2.keep (same_below hb' (fun b hb => hb)) (fun b hb => Nat.lt_of_lt_of_le hb hb'.size)⟩, aa.keep hW, below_step HBa.out HBa.out.size hW⟩
    have hne : (fitsF n k m t != fitsF n k m t) = false := by simp
    clear hba aa HCi HP9 HA9 HB9 i0 i1 i2 i3 i4 i5
    have hda : Below wa.heap.size wa wa.drew := (Below.refl _ _).drew
    have HD1 : Hid (Calls Tryd.prog 6 #[.agg #[.int .i64 x0, .slice xa xl xc, .slice ya yl yc]] wa.drew fun e w' => ∃ g0 g1 g2, e = .returned (.agg #[g0, g1, g2]) ∧ KindIn (fun b => b < w'.heap.size) w' n k g0 g1 g2 ∧ Below wa.heap.size wa w') := by
      have a := (HP.out wa.drew hda).2.1
      refine (toKind_any n S k _ _ _ wa.drew a.k1 a.lt HSZ.out.1).mono ?_
      rintro e w' ⟨g0, g1, g2, rfl, hg, hbg⟩
      exact ⟨g0, g1, g2, rfl, hg.keep (fun _ _ => rfl) (fun b hb => hb.2), hda.trans hbg⟩
    have HD2 : Hid (∀ (W : World) (g0 g1 g2 : Value), KindIn (fun b => b < W.heap.size) W n k g0 g1 g2 → Below wa.heap.size wa W → Calls Tryd.prog 8 #[.agg #[.int .i64 f0, .slice fa fl fc, .slice ga gl gc], .agg #[g0, g1, g2]] W fun e w' => e = .returned (.bool true) ∧ Below wa.heap.size wa w') := by
      intro W g0 g1 g2 hg hW
      refine (eqKind_same n _ _ k _ _ _ _ _ _ W (HP.out W hW).1.1.2 hg (fun b hb => hb) (fun b hb => hb)).mono ?_
      rintro e w' ⟨rfl, hb'⟩
      exact ⟨rfl, below_step hW hW.size hb'⟩
    have HS1 : Hid (∀ W, Below wa.heap.size wa W → (W.cell? ⟨w6.heap.size, 0, none⟩ = some (.int .i64 f0) ∧ W.cell? ⟨w6.heap.size, 1, none⟩ = some (.slice fa fl fc) ∧ W.cell? ⟨w6.heap.size, 2, none⟩ = some (.slice ga gl gc)) ∧ W.cell? ⟨w.heap.size, 0, none⟩ = some (.int .i64 x0) ∧ W.cell? ⟨w.heap.size, 1, none⟩ = some (.slice xa xl xc) ∧ W.cell? ⟨w.heap.size, 2, none⟩ = some (.slice ya yl yc)) := fun W hW => by
      have h := HP.out W hW
      exact ⟨⟨h.1.1.1.c0, h.1.1.1.c1, h.1.1.1.c2⟩, h.2.1.b1.c0, h.2.1.b1.c1, h.2.1.b1.c2⟩
    obtain ⟨⟨i0, i1, i2⟩, i3, i4, i5⟩ := HS1.out wa (Below.refl _ _)
    clear hda
    go_upto_region 14 with fail
    go_cut [39] from 20 to 44 (fun v wx => v = .bool false ∧ Below wa.heap.size wa wx)
    case first =>
      go_region_held (fun w' => (w'.cell? ⟨w6.heap.size, 0, none⟩ = some (.int .i64 f0) ∧ w'.cell? ⟨w6.heap.size, 1, none⟩ = some (.slice fa fl fc) ∧ w'.cell? ⟨w6.heap.size, 2, none⟩ = some (.slice ga gl gc)) ∧ w'.cell? ⟨w.heap.size, 0, none⟩ = some (.int .i64 x0) ∧ w'.cell? ⟨w.heap.size, 1, none⟩ = some (.slice xa xl xc) ∧ w'.cell? ⟨w.heap.size, 2, none⟩ = some (.slice ya yl yc)) (first | with_reducible assumption | go_keep) (first
        | (go_at_call 6; refine HD1.out.mono ?_; rintro e w3 ⟨g0, g1, g2, rfl, hg3, hb3⟩; obtain ⟨⟨j0, j1, j2⟩, j3, j4, j5⟩ := HS1.out w3 hb3)
        | (go_at_call 8; refine (HD2.out _ _ _ _ (by with_reducible assumption) (by with_reducible assumption)).mono ?_; rintro e w5 ⟨rfl, hb5⟩; obtain ⟨⟨l0, l1, l2⟩, l3, l4, l5⟩ := HS1.out w5 hb5))
      all_goals
        go_wp2_with fail
        go_meet
        exact ⟨rfl, hb5⟩
    case rest =>
      obtain ⟨rfl, hbb⟩ := hcut
      obtain ⟨wb, hwb⟩ : ∃ wb, wb = wc := ⟨_, rfl⟩
      rw [← hwb] at hbb ⊢
      clear hwb i0 i1 i2 i3 i4 i5 HS1 HD1 HD2 hne
      have hdb : Below wb.heap.size wb wb.drew := (Below.refl _ _).drew
      have HPb : Hid (∀ W, Below wb.heap.size wb W → Below wa.heap.size wa W) := fun W hW => below_step hbb hbb.size hW
      have HD1 : Hid (Calls Tryd.prog 6 #[.agg #[.int .i64 z0, .slice za zl zc, .slice va vl vc]] wb.drew fun e w' => ∃ g0 g1 g2, e = .returned (.agg #[g0, g1, g2]) ∧ KindIn (fun b => b < w'.heap.size) w' m t g0 g1 g2 ∧ Below wb.heap.size wb w') := by
        have a := (HP.out wb.drew (HPb.out _ hdb)).2.1
        refine (toKind_any m S t _ _ _ wb.drew a.k2 a.lt HSZ.out.2).mono ?_
        rintro e w' ⟨g0, g1, g2, rfl, hg, hbg⟩
        exact ⟨g0, g1, g2, rfl, hg.keep (fun _ _ => rfl) (fun b hb => hb.2), hdb.trans hbg⟩
      have HD2 : Hid (∀ (W : World) (g0 g1 g2 : Value), KindIn (fun b => b < W.heap.size) W m t g0 g1 g2 → Below wb.heap.size wb W → Calls Tryd.prog 8 #[.agg #[.int .i64 p0, .slice pa pl pc, .slice qa ql qc], .agg #[g0, g1, g2]] W fun e w' => e = .returned (.bool true) ∧ Below wb.heap.size wb w') := by
        intro W g0 g1 g2 hg hW
        refine (eqKind_same m _ _ t _ _ _ _ _ _ W (HP.out W (HPb.out W hW)).1.2.2 hg (fun b hb => hb) (fun b hb => hb)).mono ?_
        rintro e w' ⟨rfl, hb'⟩
        exact ⟨rfl, below_step hW hW.size hb'⟩
      have HS1 : Hid (∀ W, Below wb.heap.size wb W → (W.cell? ⟨w8.heap.size, 0, none⟩ = some (.int .i64 p0) ∧ W.cell? ⟨w8.heap.size, 1, none⟩ = some (.slice pa pl pc) ∧ W.cell? ⟨w8.heap.size, 2, none⟩ = some (.slice qa ql qc)) ∧ W.cell? ⟨w.heap.size + 1, 0, none⟩ = some (.int .i64 z0) ∧ W.cell? ⟨w.heap.size + 1, 1, none⟩ = some (.slice za zl zc) ∧ W.cell? ⟨w.heap.size + 1, 2, none⟩ = some (.slice va vl vc)) := fun W hW => by
        have h := HP.out W (HPb.out W hW)
        exact ⟨⟨h.1.2.1.c0, h.1.2.1.c1, h.1.2.1.c2⟩, h.2.1.b2.c0, h.2.1.b2.c1, h.2.1.b2.c2⟩
      obtain ⟨⟨i0, i1, i2⟩, i3, i4, i5⟩ := HS1.out wb (Below.refl _ _)
      clear hdb hbb
      go_upto_region 16 with fail
      go_region_held (fun w' => (w'.cell? ⟨w8.heap.size, 0, none⟩ = some (.int .i64 p0) ∧ w'.cell? ⟨w8.heap.size, 1, none⟩ = some (.slice pa pl pc) ∧ w'.cell? ⟨w8.heap.size, 2, none⟩ = some (.slice qa ql qc)) ∧ w'.cell? ⟨w.heap.size + 1, 0, none⟩ = some (.int .i64 z0) ∧ w'.cell? ⟨w.heap.size + 1, 1, none⟩ = some (.slice za zl zc) ∧ w'.cell? ⟨w.heap.size + 1, 2, none⟩ = some (.slice va vl vc)) (first | with_reducible assumption | go_keep) (first
        | (go_at_call 6; refine HD1.out.mono ?_; rintro e w3 ⟨g0, g1, g2, rfl, hg3, hb3⟩; obtain ⟨⟨j0, j1, j2⟩, j3, j4, j5⟩ := HS1.out w3 hb3)
        | (go_at_call 8; refine (HD2.out _ _ _ _ (by with_reducible assumption) (by with_reducible assumption)).mono ?_; rintro e w5 ⟨rfl, hb5⟩; obtain ⟨⟨l0, l1, l2⟩, l3, l4, l5⟩ := HS1.out w5 hb5))
      all_goals
        have HBz : Hid (Below w.heap.size w w5) := (HP.out w5 (HPb.out w5 hb5)).2.2
        go_wp2_with fail
        go_ret
        exact ⟨rfl, HBz.out⟩

end Go.Proofs.YtamkblgldlkooaaDoor
