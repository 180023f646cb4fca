/-
  The law of drawn schemas and trees of them, walked.
-/
import Derived.Test.YtfbfchffnapnnaaGreatDoorDW3
import Derived.Test.YtfbfchffnapnnaaGreatDoorB7
import Derived.Test.YtfbfchffnapnnaaGreatDoorB33
import Derived.Test.YtfbfchffnapnnaaGreatDoorKImplRead
import Derived.Test.YtfbfchffnapnnaaGreatDoorB6
import Derived.Test.YtfbfchffnapnnaaGreatDoorTImplRead
import Derived.Test.YtfbfchffnapnnaaGreatDoorB11
import Derived.Test.YtfbfchffnapnnaaGreatDoorB35
import Derived.Test.YtfbfchffnapnnaaGreatDoorB1
import Derived.Test.YtfbfchffnapnnaaGreatDoorB30
import Derived.Test.YtfbfchffnapnnaaGreatDoorB25
namespace Go.Proofs.YtfbfchffnapnnaaGreatDoor
open Go.RowKit

theorem hasF_get {n m : Nat} {k : K n} {t : T m} (h : hasF n k m t = true) : okK n k = true ∧ okT m t = true := by
  unfold hasF at h
  simp only [Bool.and_eq_true] at h
  exact h.1

/-- A schema in one box, a tree in another. -/
structure BoxKT (B : Nat) (w : World) (n m : Nat) (k : K n) (t : T m) (X Y : Nat) (c0 c1 c2 d0 d1 d2 d3 d4 : Value) : Prop where
  k : BoxK B w n k X c0 c1 c2
  t : BoxT B w m t Y d0 d1 d2 d3 d4

theorem BoxKT.keep {B : Nat} {w w' : World} {n m : Nat} {k : K n} {t : T m} {X Y : Nat} {c0 c1 c2 d0 d1 d2 d3 d4 : Value} (h : BoxKT B w n m k t X Y c0 c1 c2 d0 d1 d2 d3 d4) (hb : Below w.heap.size w w') : BoxKT B w' n m k t X Y c0 c1 c2 d0 d1 d2 d3 d4 :=
  ⟨h.k.keep hb, h.t.keep hb⟩

theorem kt_new {w : World} {n m : Nat} {k : K n} {t : T m} {c0 c1 c2 d0 d1 d2 d3 d4 : Value} (B : Nat) (hk : KindIn (fun b => B ≤ b ∧ b < w.heap.size) w n k c0 c1 c2) (ht : TreeIn (fun b => B ≤ b ∧ b < w.heap.size) w m t d0 d1 d2 d3 d4) :
    BoxKT w.heap.size ((w.alloc (.cells #[c0, c1, c2] 26)).alloc (.cells #[d0, d1, d2, d3, d4] 29)) n m k t w.heap.size (w.heap.size + 1) c0 c1 c2 d0 d1 d2 d3 d4 := by
  have h1 : Below w.heap.size w (w.alloc (.cells #[c0, c1, c2] 26)) := (Below.refl _ _).alloc (Nat.le_refl _) _
  have h2 : Below (w.alloc (.cells #[c0, c1, c2] 26)).heap.size (w.alloc (.cells #[c0, c1, c2] 26)) ((w.alloc (.cells #[c0, c1, c2] 26)).alloc (.cells #[d0, d1, d2, d3, d4] 29)) := (Below.refl _ _).alloc (Nat.le_refl _) _
  have h3 := below_step h1 h1.size h2
  have hx := Box5.new (w.alloc (.cells #[c0, c1, c2] 26)) d0 d1 d2 d3 d4 29
  rw [show (w.alloc (.cells #[c0, c1, c2] 26)).heap.size = w.heap.size + 1 by simp] at hx
  exact ⟨⟨(Box3.new w c0 c1 c2 26).keep h2, hk.keep (fun b hb => h3.block b hb.2) (fun b hb => hb.2), h3.size⟩, ⟨hx, ht.keep (fun b hb => h3.block b hb.2) (fun b hb => hb.2), h3.size⟩⟩

set_option maxRecDepth 100000 in
set_option maxHeartbeats 8000000 in
theorem lawPHas_any (N : Nat) (hN : 30000 ≤ N) (S : Nat → Prop) (w : World) (ao : Option Addr) (L cap : Nat) (h : CodeIn S w ao L cap) (hS : ∀ b, S b → b < w.heap.size) (hU : LaidU w.heap.size w) :
    Calls Tryz.prog 3 #[.slice ao L cap] w fun e w' => e = .returned (.bool true) ∧ Below w.heap.size w w' := by
  by_cases hL : 1048576 < L
  · have hLi : (1048576 : Int) < (L : Int) := by omega
    clear h hU
    go_enter Tryz.func3, Tryz.ntmps3
    go_wp2_with fail
    go_ret
    exact ⟨rfl, Below.refl _ _⟩
  have hLi : ¬ (1048576 : Int) < (L : Int) := by omega
  have HD : Hid (Calls Tryz.prog 4 #[.slice ao L cap] w (DrawnKT (N + 1) (N + 1) w)) := drawKHas_any (N + 1) (by omega) S w ao L cap h hS
  have HU : Hid (LaidU w.heap.size w) := hU
  clear h hU
  go_enter Tryz.func3, Tryz.ntmps3
  go_wp2_with fail
  refine HD.out.mono ?_
  rintro e w1 ⟨hb1, k, t, c0, c1, c2, d0, d1, d2, d3, d4, rfl, hk, ht⟩
  obtain ⟨x0, xa, xl, xc, ya, yl, yc, rfl, rfl, rfl⟩ := hk.shape
  obtain ⟨u0, u1, u2, ua, ul, uc, va, vl, vc, rfl, rfl, rfl, rfl, rfl⟩ := ht.shape
  obtain ⟨W1, hW1⟩ : ∃ W1, W1 = (w1.alloc (.cells #[.int .i64 x0, .slice xa xl xc, .slice ya yl yc] 26)).alloc (.cells #[.int .i64 u0, .int .i64 u1, .string u2, .slice ua ul uc, .slice va vl vc] 29) := ⟨_, rfl⟩
  have ha1 : Below w1.heap.size w1 W1 := by rw [hW1]; exact ((Below.refl _ _).alloc (Nat.le_refl _) _).alloc (by simp) _
  have bx1 : BoxKT w1.heap.size W1 (N + 1) (N + 1) k t w1.heap.size (w1.heap.size + 1) (.int .i64 x0) (.slice xa xl xc) (.slice ya yl yc) (.int .i64 u0) (.int .i64 u1) (.string u2) (.slice ua ul uc) (.slice va vl vc) := by rw [hW1]; exact kt_new w.heap.size hk ht
  have HB1 : Hid (Below w.heap.size w W1) := below_step hb1 hb1.size ha1
  have HX1 : Hid (BoxKT w1.heap.size W1 (N + 1) (N + 1) k t w1.heap.size (w1.heap.size + 1) (.int .i64 x0) (.slice xa xl xc) (.slice ya yl yc) (.int .i64 u0) (.int .i64 u1) (.string u2) (.slice ua ul uc) (.slice va vl vc)) := bx1
  have HC2 : Hid (Calls Tryz.prog 5 #[.agg #[.int .i64 x0, .slice xa xl xc, .slice ya yl yc], .agg #[.int .i64 u0, .int .i64 u1, .string u2, .slice ua ul uc, .slice va vl vc]] W1 _) := specKHas_any (N + 1) (N + 1) _ _ k t _ _ _ _ _ _ _ _ W1 bx1.k.kind bx1.t.tree (fun b hb => Nat.lt_of_lt_of_le hb bx1.k.lt) (fun b hb => Nat.lt_of_lt_of_le hb bx1.t.lt)
  obtain ⟨i0, i1, i2⟩ := bx1.k.box
  obtain ⟨j0, j1, j2, j3, j4⟩ := bx1.t.box
  rw [hW1] at i0 i1 i2 j0 j1 j2 j3 j4
  clear HD hb1 hk ht ha1 bx1
  go_wp2_with fail
  rw [← hW1] at i0 i1 i2 j0 j1 j2 j3 j4 ⊢
  clear hW1
  refine HC2.out.mono ?_
  rintro e w2 ⟨rfl, hb2⟩
  have HB2 : Hid (Below w.heap.size w w2) := below_step HB1.out HB1.out.size hb2
  have bx2 := HX1.out.keep hb2
  have HX2 : Hid (BoxKT w1.heap.size w2 (N + 1) (N + 1) k t w1.heap.size (w1.heap.size + 1) (.int .i64 x0) (.slice xa xl xc) (.slice ya yl yc) (.int .i64 u0) (.int .i64 u1) (.string u2) (.slice ua ul uc) (.slice va vl vc)) := bx2
  have HC3 : Hid (Calls Tryz.prog 6 #[.agg #[.int .i64 x0, .slice xa xl xc, .slice ya yl yc], .agg #[.int .i64 u0, .int .i64 u1, .string u2, .slice ua ul uc, .slice va vl vc]] w2 _) := implKHas_any (N + 1) (N + 1) _ _ k t _ _ _ _ _ _ _ _ w2 bx2.k.kind bx2.t.tree (fun b hb => Nat.lt_of_lt_of_le hb bx2.k.lt) (fun b hb => Nat.lt_of_lt_of_le hb bx2.t.lt)
  clear i0 i1 i2 j0 j1 j2 j3 j4
  obtain ⟨i0, i1, i2⟩ := bx2.k.box
  obtain ⟨j0, j1, j2, j3, j4⟩ := bx2.t.box
  clear HC2 HB1 HX1 hb2 bx2
  go_wp2_with fail
  refine HC3.out.mono ?_
  rintro e w3 ⟨rfl, hb3⟩
  have HB3 : Hid (Below w.heap.size w w3) := below_step HB2.out HB2.out.size hb3
  have bx3 := HX2.out.keep hb3
  have HX3 : Hid (BoxKT w1.heap.size w3 (N + 1) (N + 1) k t w1.heap.size (w1.heap.size + 1) (.int .i64 x0) (.slice xa xl xc) (.slice ya yl yc) (.int .i64 u0) (.int .i64 u1) (.string u2) (.slice ua ul uc) (.slice va vl vc)) := bx3
  have HC4 : Hid (Calls Tryz.prog 8 #[.agg #[.int .i64 u0, .int .i64 u1, .string u2, .slice ua ul uc, .slice va vl vc]] w3 _) := implWrite_any (N + 1) _ t _ _ _ _ _ w3 bx3.t.tree (fun b hb => Nat.lt_of_lt_of_le hb bx3.t.lt) (HU.out.tens HB3.out)
  clear i0 i1 i2 j0 j1 j2 j3 j4
  obtain ⟨i0, i1, i2⟩ := bx3.k.box
  obtain ⟨j0, j1, j2, j3, j4⟩ := bx3.t.box
  clear HC3 HB2 HX2 hb3 bx3
  cases hH : hasF (N + 1) k (N + 1) t
  · clear i0 i1 i2 j0 j1 j2 j3 j4 HC4 HX3
    go_wp2_with fail
    go_ret
    exact ⟨rfl, HB3.out⟩
  have HOK : Hid (hasF (N + 1) k (N + 1) t = true ∧ okK (N + 1) k = true ∧ okT (N + 1) t = true) := ⟨hH, hasF_get hH⟩
  clear hH
  go_wp2_with fail
  refine HC4.out.mono ?_
  rintro e w4 ⟨rfl, hb4⟩
  have HB4 : Hid (Below w.heap.size w w4) := below_step HB3.out HB3.out.size hb4
  have HX4 : Hid (BoxKT w1.heap.size w4 (N + 1) (N + 1) k t w1.heap.size (w1.heap.size + 1) (.int .i64 x0) (.slice xa xl xc) (.slice ya yl yc) (.int .i64 u0) (.int .i64 u1) (.string u2) (.slice ua ul uc) (.slice va vl vc)) := HX3.out.keep hb4
  have HC5 : Hid (Calls Tryz.prog 7 #[.string (textF (N + 1) t)] w4 (ReadPostT (N + 1) t true w4)) := by
    have h8 := textF_10000 (N + 1) t
    have := implTRead_any (textF (N + 1) t) N w.heap.size (by omega) (by omega) w4 (HU.out.step HB4.out) HB4.out.size
    rw [(readU_text HOK.out.2.2).1, (readU_text HOK.out.2.2).2] at this
    exact this
  clear i0 i1 i2 j0 j1 j2 j3 j4 HC4 HB3 HX3 hb4
  go_wp2_with fail
  refine HC5.out.mono ?_
  rintro e w5 ⟨hb5, g0, g1, g2, g3, g4, L3, L4, rfl, hg, -, -, -, -⟩
  obtain ⟨z0, z1, z2, za, zl, zc, qa, ql, qc, rfl, rfl, rfl, rfl, rfl⟩ := hg.shape
  obtain ⟨W5, hW5⟩ : ∃ W5, W5 = w5.alloc (.cells #[.int .i64 z0, .int .i64 z1, .string z2, .slice za zl zc, .slice qa ql qc] 29) := ⟨_, rfl⟩
  have ha5 : Below w5.heap.size w5 W5 := by rw [hW5]; exact (Below.refl _ _).alloc (Nat.le_refl _) _
  have bu5 : BoxT w5.heap.size W5 (N + 1) t w5.heap.size (.int .i64 z0) (.int .i64 z1) (.string z2) (.slice za zl zc) (.slice qa ql qc) :=
    ⟨by rw [hW5]; exact Box5.new _ _ _ _ _ _ _, hg.keep (fun b hb => ha5.block b hb.2) (fun b hb => hb.2), ha5.size⟩
  have hb45 : Below w4.heap.size w4 W5 := below_step hb5 hb5.size ha5
  have HB5 : Hid (Below w.heap.size w W5) := below_step HB4.out HB4.out.size hb45
  have bx5 := HX4.out.keep hb45
  have HX5 : Hid (BoxKT w1.heap.size W5 (N + 1) (N + 1) k t w1.heap.size (w1.heap.size + 1) (.int .i64 x0) (.slice xa xl xc) (.slice ya yl yc) (.int .i64 u0) (.int .i64 u1) (.string u2) (.slice ua ul uc) (.slice va vl vc)) := bx5
  have HT5 : Hid (BoxT w5.heap.size W5 (N + 1) t w5.heap.size (.int .i64 z0) (.int .i64 z1) (.string z2) (.slice za zl zc) (.slice qa ql qc)) := bu5
  have HC6 : Hid (Calls Tryz.prog 10 #[.agg #[.int .i64 x0, .slice xa xl xc, .slice ya yl yc]] W5 _) := implKWrite_any (N + 1) _ k _ _ _ W5 bx5.k.kind (fun b hb => Nat.lt_of_lt_of_le hb bx5.k.lt)
  obtain ⟨i0, i1, i2⟩ := bx5.k.box
  rw [hW5] at i0 i1 i2
  clear HC5 HB4 HX4 hg hb5 ha5 bu5 hb45 bx5
  go_wp2_with fail
  rw [← hW5] at i0 i1 i2 ⊢
  clear hW5
  refine HC6.out.mono ?_
  rintro e w6 ⟨rfl, hb6⟩
  have HB6 : Hid (Below w.heap.size w w6) := below_step HB5.out HB5.out.size hb6
  have HX6 : Hid (BoxKT w1.heap.size w6 (N + 1) (N + 1) k t w1.heap.size (w1.heap.size + 1) (.int .i64 x0) (.slice xa xl xc) (.slice ya yl yc) (.int .i64 u0) (.int .i64 u1) (.string u2) (.slice ua ul uc) (.slice va vl vc)) := HX5.out.keep hb6
  have HT6 : Hid (BoxT w5.heap.size w6 (N + 1) t w5.heap.size (.int .i64 z0) (.int .i64 z1) (.string z2) (.slice za zl zc) (.slice qa ql qc)) := HT5.out.keep hb6
  have HC7 : Hid (Calls Tryz.prog 9 #[.string (textKF (N + 1) k)] w6 (ReadPostK (N + 1) k true w6)) := by
    have h8 := textKF_800 (N + 1) k
    have := implKRead_any (textKF (N + 1) k) N (by omega) (by omega) w6
    rw [(readK_text HOK.out.2.1).1, (readK_text HOK.out.2.1).2] at this
    exact this
  clear i0 i1 i2 HC6 HB5 HX5 HT5 hb6
  go_wp2_with fail
  refine HC7.out.mono ?_
  rintro e w7 ⟨hb7, g0, g1, g2, L3, L4, rfl, hg, -, -, -, -⟩
  obtain ⟨s0, sa, sl, sc, ra, rl, rc, rfl, rfl, rfl⟩ := hg.shape
  obtain ⟨W7, hW7⟩ : ∃ W7, W7 = w7.alloc (.cells #[.int .i64 s0, .slice sa sl sc, .slice ra rl rc] 26) := ⟨_, rfl⟩
  have ha7 : Below w7.heap.size w7 W7 := by rw [hW7]; exact (Below.refl _ _).alloc (Nat.le_refl _) _
  have bk7 : BoxK w7.heap.size W7 (N + 1) k w7.heap.size (.int .i64 s0) (.slice sa sl sc) (.slice ra rl rc) :=
    ⟨by rw [hW7]; exact Box3.new _ _ _ _ _, hg.keep (fun b hb => ha7.block b hb.2) (fun b hb => hb.2), ha7.size⟩
  have hb67 : Below w6.heap.size w6 W7 := below_step hb7 hb7.size ha7
  have HB7 : Hid (Below w.heap.size w W7) := below_step HB6.out HB6.out.size hb67
  have bx7 := HX6.out.keep hb67
  have bt7 := HT6.out.keep hb67
  have HX7 : Hid (BoxKT w1.heap.size W7 (N + 1) (N + 1) k t w1.heap.size (w1.heap.size + 1) (.int .i64 x0) (.slice xa xl xc) (.slice ya yl yc) (.int .i64 u0) (.int .i64 u1) (.string u2) (.slice ua ul uc) (.slice va vl vc)) := bx7
  have HC8 : Hid (Calls Tryz.prog 6 #[.agg #[.int .i64 s0, .slice sa sl sc, .slice ra rl rc], .agg #[.int .i64 z0, .int .i64 z1, .string z2, .slice za zl zc, .slice qa ql qc]] W7 fun e w' => e = .returned (.bool true) ∧ Below W7.heap.size W7 w') := by
    have := implKHas_any (N + 1) (N + 1) _ _ k t _ _ _ _ _ _ _ _ W7 bk7.kind bt7.tree (fun b hb => Nat.lt_of_lt_of_le hb bk7.lt) (fun b hb => Nat.lt_of_lt_of_le hb bt7.lt)
    rw [HOK.out.1] at this
    exact this
  obtain ⟨i0, i1, i2⟩ := bk7.box
  obtain ⟨j0, j1, j2, j3, j4⟩ := bt7.box
  rw [hW7] at i0 i1 i2 j0 j1 j2 j3 j4
  clear HC7 HB6 HX6 HT6 hg hb7 ha7 bk7 hb67 bx7 bt7
  go_wp2_with fail
  rw [← hW7] at i0 i1 i2 j0 j1 j2 j3 j4 ⊢
  clear hW7
  refine HC8.out.mono ?_
  rintro e w8 ⟨rfl, hb8⟩
  have HB8 : Hid (Below w.heap.size w w8) := below_step HB7.out HB7.out.size hb8
  have bx8 := HX7.out.keep hb8
  have HC9 : Hid (Calls Tryz.prog 11 #[.agg #[.int .i64 x0, .slice xa xl xc, .slice ya yl yc], .agg #[.int .i64 x0, .slice xa xl xc, .slice ya yl yc]] w8 _) := implKFits_yes (N + 1) (N + 1) (fun b => b < w1.heap.size) k k _ _ _ _ _ _ w8 bx8.k.kind bx8.k.kind (fun b hb => Nat.lt_of_lt_of_le hb bx8.k.lt) HOK.out.2.1 HOK.out.2.1 (fitsK_self (N + 1) k 1 (okK_get HOK.out.2.1).1)
  clear i0 i1 i2 j0 j1 j2 j3 j4
  obtain ⟨i0, i1, i2⟩ := bx8.k.box
  clear HC8 HB7 HX7 hb8 bx8
  go_wp2_with fail
  refine HC9.out.mono ?_
  rintro e w9 ⟨rfl, hb9⟩
  have HB9 : Hid (Below w.heap.size w w9) := below_step HB8.out HB8.out.size hb9
  clear i0 i1 i2 HC9 HB8 hb9
  go_wp2_with fail
  go_ret
  exact ⟨rfl, HB9.out⟩

end Go.Proofs.YtfbfchffnapnnaaGreatDoor
