/-
  The law of drawn schemas and their first trees, walked.
-/
import Derived.Test.YtifamnijcdiihaaB15
import Derived.Test.YtifamnijcdiihaaB22
import Derived.Test.YtifamnijcdiihaaB21
import Derived.Test.YtifamnijcdiihaaB14
import Derived.Test.YtifamnijcdiihaaPWalk
import Derived.Test.YtifamnijcdiihaaB2
import Derived.Test.YtifamnijcdiihaaB1
namespace Go.Proofs.Ytifamnijcdiihaa
open Go.RowKit

/-- A schema in a box. -/
structure BoxK (B : Nat) (w : World) (n : Nat) (k : K n) (N : Nat) (c0 c1 c2 : Value) : Prop where
  box : Box3 w N c0 c1 c2
  kind : KindIn (fun b => b < B) w n k c0 c1 c2
  lt : B ≤ w.heap.size

/-- A tree in a box. -/
structure BoxT (B : Nat) (w : World) (n : Nat) (t : T n) (N : Nat) (c0 c1 c2 c3 c4 : Value) : Prop where
  box : Box5 w N c0 c1 c2 c3 c4
  tree : TreeIn (fun b => b < B) w n t c0 c1 c2 c3 c4
  lt : B ≤ w.heap.size

theorem BoxK.keep {B : Nat} {w w' : World} {n : Nat} {k : K n} {N : Nat} {c0 c1 c2 : Value} (h : BoxK B w n k N c0 c1 c2) (hb : Below w.heap.size w w') : BoxK B w' n k N c0 c1 c2 :=
  ⟨h.box.keep hb, h.kind.keep (same_below hb (fun _ hb' => Nat.lt_of_lt_of_le hb' h.lt)) (fun _ h => h), Nat.le_trans h.lt hb.size⟩
theorem BoxT.keep {B : Nat} {w w' : World} {n : Nat} {t : T n} {N : Nat} {c0 c1 c2 c3 c4 : Value} (h : BoxT B w n t N c0 c1 c2 c3 c4) (hb : Below w.heap.size w w') : BoxT B w' n t N c0 c1 c2 c3 c4 :=
  ⟨h.box.keep hb, h.tree.keep (same_below hb (fun _ hb' => Nat.lt_of_lt_of_le hb' h.lt)) (fun _ h => h), Nat.le_trans h.lt hb.size⟩

set_option maxRecDepth 100000 in
set_option maxHeartbeats 4000000 in
theorem lawPFirst_any (S : Nat → Prop) (w : World) (ao : Option Addr) (L cap : Nat) (h : CodeIn S w ao L cap) (hS : ∀ b, S b → b < w.heap.size) :
    Calls Try.prog 4 #[.slice ao L cap] w fun e w' => e = .returned (.bool true) ∧ Below w.heap.size w w' := by
  by_cases hL : 1048576 < L
  · have hLi : (1048576 : Int) < (L : Int) := by omega
    clear h
    go_enter Try.func4, Try.ntmps4
    go_wp2_with fail
    go_ret
    exact ⟨rfl, Below.refl _ _⟩
  have hLi : ¬ (1048576 : Int) < (L : Int) := by omega
  have HD : Hid (Calls Try.prog 13 #[.slice ao L cap] w (DrawnK 11 w)) := drawKFirst_any 11 (Nat.le_refl _) S w ao L cap h hS
  clear h
  go_enter Try.func4, Try.ntmps4
  go_wp2_with fail
  refine HD.out.mono ?_
  rintro e w1 ⟨hb1, k, c0, c1, c2, rfl, hk⟩
  obtain ⟨u0, ua, ul, uc, ya, yl, yc, rfl, rfl, rfl⟩ := hk.shape
  obtain ⟨W1, hW1⟩ : ∃ W1, W1 = w1.alloc (.cells #[.int .i64 u0, .slice ua ul uc, .slice ya yl yc] 26) := ⟨_, rfl⟩
  have ha1 : Below w1.heap.size w1 W1 := by rw [hW1]; exact (Below.refl _ _).alloc (Nat.le_refl _) _
  have bk1 : BoxK w1.heap.size W1 11 k w1.heap.size (.int .i64 u0) (.slice ua ul uc) (.slice ya yl yc) :=
    ⟨by rw [hW1]; exact Box3.new _ _ _ _ _, hk.keep (fun b hb => ha1.block b hb.2) (fun b hb => hb.2), ha1.size⟩
  have HB1 : Hid (Below w.heap.size w W1) := below_step hb1 hb1.size ha1
  have HK1 : Hid (BoxK w1.heap.size W1 11 k w1.heap.size (.int .i64 u0) (.slice ua ul uc) (.slice ya yl yc)) := bk1
  have HC2 : Hid (Calls Try.prog 14 #[.agg #[.int .i64 u0, .slice ua ul uc, .slice ya yl yc]] W1 _) := specKFirst_any 11 _ k _ _ _ W1 bk1.kind (fun b hb => Nat.lt_of_lt_of_le hb bk1.lt)
  obtain ⟨i0, i1, i2⟩ := bk1.box
  rw [hW1] at i0 i1 i2
  clear HD hb1 hk ha1 bk1
  go_wp2_with fail
  rw [← hW1] at i0 i1 i2 ⊢
  clear hW1
  refine HC2.out.mono ?_
  rintro e w2 ⟨g0, g1, g2, g3, g4, rfl, hg, hb2⟩
  obtain ⟨z0, z1, z2, za, zl, zc, va, vl, vc, rfl, rfl, rfl, rfl, rfl⟩ := hg.shape
  obtain ⟨W2, hW2⟩ : ∃ W2, W2 = w2.alloc (.cells #[.int .i64 z0, .int .i64 z1, .string z2, .slice za zl zc, .slice va vl vc] 37) := ⟨_, rfl⟩
  have ha2 : Below w2.heap.size w2 W2 := by rw [hW2]; exact (Below.refl _ _).alloc (Nat.le_refl _) _
  have bt2 : BoxT w2.heap.size W2 11 (ansT 11 k) w2.heap.size (.int .i64 z0) (.int .i64 z1) (.string z2) (.slice za zl zc) (.slice va vl vc) :=
    ⟨by rw [hW2]; exact Box5.new _ _ _ _ _ _ _, hg.keep (fun b hb => ha2.block b hb.2) (fun b hb => hb.2), ha2.size⟩
  have hb12 : Below W1.heap.size W1 W2 := below_step hb2 hb2.size ha2
  have HB2 : Hid (Below w.heap.size w W2) := below_step HB1.out HB1.out.size hb12
  have bk2 := HK1.out.keep hb12
  have HK2 : Hid (BoxK w1.heap.size W2 11 k w1.heap.size (.int .i64 u0) (.slice ua ul uc) (.slice ya yl yc)) := bk2
  have HT2 : Hid (BoxT w2.heap.size W2 11 (ansT 11 k) w2.heap.size (.int .i64 z0) (.int .i64 z1) (.string z2) (.slice za zl zc) (.slice va vl vc)) := bt2
  have HC3 : Hid (Calls Try.prog 15 #[.agg #[.int .i64 u0, .slice ua ul uc, .slice ya yl yc]] W2 _) := specKOk_any 11 _ k _ _ _ W2 bk2.kind (fun b hb => Nat.lt_of_lt_of_le hb bk2.lt)
  clear i0 i1 i2
  obtain ⟨i0, i1, i2⟩ := bk2.box
  rw [hW2] at i0 i1 i2
  clear HC2 HB1 HK1 hg hb2 ha2 bt2 hb12 bk2
  go_wp2_with fail
  rw [← hW2] at i0 i1 i2 ⊢
  clear hW2
  refine HC3.out.mono ?_
  rintro e w3 ⟨rfl, hb3⟩
  have HB3 : Hid (Below w.heap.size w w3) := below_step HB2.out HB2.out.size hb3
  have bk3 := HK2.out.keep hb3
  have HK3 : Hid (BoxK w1.heap.size w3 11 k w1.heap.size (.int .i64 u0) (.slice ua ul uc) (.slice ya yl yc)) := bk3
  have HT3 : Hid (BoxT w2.heap.size w3 11 (ansT 11 k) w2.heap.size (.int .i64 z0) (.int .i64 z1) (.string z2) (.slice za zl zc) (.slice va vl vc)) := HT2.out.keep hb3
  have HC4 : Hid (Calls Try.prog 16 #[.agg #[.int .i64 u0, .slice ua ul uc, .slice ya yl yc]] w3 _) := implKFirst_any 11 _ k _ _ _ w3 bk3.kind (fun b hb => Nat.lt_of_lt_of_le hb bk3.lt)
  clear i0 i1 i2
  obtain ⟨i0, i1, i2⟩ := bk3.box
  clear HC3 HB2 HK2 HT2 hb3 bk3
  go_wp2_with fail
  refine HC4.out.mono ?_
  rintro e w4 ⟨hb4, g0, g1, g2, g3, g4, L3, L4, rfl, hg, -, -, -, -⟩
  obtain ⟨x0, x1, x2, xa, xl, xc, sa, sl, sc, rfl, rfl, rfl, rfl, rfl⟩ := hg.shape
  obtain ⟨W4, hW4⟩ : ∃ W4, W4 = w4.alloc (.cells #[.int .i64 x0, .int .i64 x1, .string x2, .slice xa xl xc, .slice sa sl sc] 37) := ⟨_, rfl⟩
  have ha4 : Below w4.heap.size w4 W4 := by rw [hW4]; exact (Below.refl _ _).alloc (Nat.le_refl _) _
  have bt4 : BoxT w4.heap.size W4 11 (ansT 11 k) w4.heap.size (.int .i64 x0) (.int .i64 x1) (.string x2) (.slice xa xl xc) (.slice sa sl sc) :=
    ⟨by rw [hW4]; exact Box5.new _ _ _ _ _ _ _, hg.keep (fun b hb => ha4.block b hb.2) (fun b hb => hb.2), ha4.size⟩
  have hb34 : Below w3.heap.size w3 W4 := below_step hb4 hb4.size ha4
  have HB4 : Hid (Below w.heap.size w W4) := below_step HB3.out HB3.out.size hb34
  have bk4 := HK3.out.keep hb34
  have bw4 := HT3.out.keep hb34
  have HK4 : Hid (BoxK w1.heap.size W4 11 k w1.heap.size (.int .i64 u0) (.slice ua ul uc) (.slice ya yl yc)) := bk4
  have HT4 : Hid (BoxT w4.heap.size W4 11 (ansT 11 k) w4.heap.size (.int .i64 x0) (.int .i64 x1) (.string x2) (.slice xa xl xc) (.slice sa sl sc)) := bt4
  have HC5 : Hid (Calls Try.prog 17 #[.agg #[.int .i64 x0, .int .i64 x1, .string x2, .slice xa xl xc, .slice sa sl sc], .agg #[.int .i64 z0, .int .i64 z1, .string z2, .slice za zl zc, .slice va vl vc]] W4 _) :=
    ttTree_same 11 _ _ (ansT 11 k) _ _ _ _ _ _ _ _ _ _ W4 bt4.tree bw4.tree (fun b hb => Nat.lt_of_lt_of_le hb bt4.lt) (fun b hb => Nat.lt_of_lt_of_le hb bw4.lt)
  clear i0 i1 i2
  obtain ⟨i0, i1, i2, i3, i4⟩ := bt4.box
  obtain ⟨j0, j1, j2, j3, j4⟩ := bw4.box
  rw [hW4] at i0 i1 i2 i3 i4 j0 j1 j2 j3 j4
  clear HC4 HB3 HK3 HT3 hg hb4 ha4 bt4 hb34 bk4 bw4
  go_wp2_with fail
  rw [← hW4] at i0 i1 i2 i3 i4 j0 j1 j2 j3 j4 ⊢
  clear hW4
  refine HC5.out.mono ?_
  rintro e w5 ⟨rfl, hb5⟩
  have HB5 : Hid (Below w.heap.size w w5) := below_step HB4.out HB4.out.size hb5
  have bk5 := HK4.out.keep hb5
  have bt5 := HT4.out.keep hb5
  clear i0 i1 i2 i3 i4 j0 j1 j2 j3 j4
  obtain ⟨i0, i1, i2, i3, i4⟩ := bt5.box
  obtain ⟨j0, j1, j2⟩ := bk5.box
  cases hok : okK 11 k with
  | false =>
    have hx0 : x0 = 0 := by
      have h1 := bt5.tree.1
      have h2 : ansT 11 k = zeroT 11 k := by unfold ansT; rw [if_neg (by simp [hok])]
      rw [h2] at h1
      simpa [zeroT] using h1
    subst hx0
    clear HC5 HK4 HT4 HB4 hb5 bk5 bt5
    go_wp2_with fail
    go_ret
    exact ⟨rfl, HB5.out⟩
  | true =>
    have hans : ansT 11 k = firstT 11 k := by unfold ansT; rw [if_pos hok]
    rw [hans] at bt5
    have hgood : goodK 11 k 1 = true ∧ cntK 11 k ≤ 40 := by simpa [okK] using hok
    have hhas : hasF 11 k 11 (firstT 11 k) = true := by simp [hasF, hok, ok_first hok, has_first 11 k 1 hgood.1]
    have hcnt : cntF 11 (firstT 11 k) ≤ 40 := by unfold cntF; rw [if_pos (ok_first hok)]; have := cnt_first 11 k; omega
    have HK5 : Hid (BoxK w1.heap.size w5 11 k w1.heap.size (.int .i64 u0) (.slice ua ul uc) (.slice ya yl yc)) := bk5
    have HT5 : Hid (BoxT w4.heap.size w5 11 (firstT 11 k) w4.heap.size (.int .i64 x0) (.int .i64 x1) (.string x2) (.slice xa xl xc) (.slice sa sl sc)) := bt5
    have HC6 : Hid (Calls Try.prog 18 #[.agg #[.int .i64 u0, .slice ua ul uc, .slice ya yl yc], .agg #[.int .i64 x0, .int .i64 x1, .string x2, .slice xa xl xc, .slice sa sl sc]] w5 fun e w' => e = .returned (.bool true) ∧ Below w5.heap.size w5 w') := by
      have := implKHas_any 11 11 _ _ k (firstT 11 k) _ _ _ _ _ _ _ _ w5 bk5.kind bt5.tree (fun b hb => Nat.lt_of_lt_of_le hb bk5.lt) (fun b hb => Nat.lt_of_lt_of_le hb bt5.lt)
      rw [hhas] at this
      exact this
    clear HC5 HK4 HT4 HB4 hb5 bk5 bt5 hans hgood hhas
    go_wp2_with fail
    refine HC6.out.mono ?_
    rintro e w6 ⟨rfl, hb6⟩
    have HB6 : Hid (Below w.heap.size w w6) := below_step HB5.out HB5.out.size hb6
    have bt6 := HT5.out.keep hb6
    clear i0 i1 i2 i3 i4 j0 j1 j2
    obtain ⟨i0, i1, i2, i3, i4⟩ := bt6.box
    have HC7 : Hid (Calls Try.prog 19 #[.agg #[.int .i64 x0, .int .i64 x1, .string x2, .slice xa xl xc, .slice sa sl sc]] w6 _) := implParts_any 11 _ (firstT 11 k) _ _ _ _ _ w6 bt6.tree (fun b hb => Nat.lt_of_lt_of_le hb bt6.lt)
    clear HC6 HK5 HT5 hb6 bt6
    go_wp2_with fail
    refine HC7.out.mono ?_
    rintro e w7 ⟨rfl, hb7⟩
    have HB7 : Hid (Below w.heap.size w w7) := below_step HB6.out HB6.out.size hb7
    clear HC7 HB6 hb7 HB5
    go_wp2_with fail
    go_ret
    exact ⟨rfl, HB7.out⟩

end Go.Proofs.Ytifamnijcdiihaa
