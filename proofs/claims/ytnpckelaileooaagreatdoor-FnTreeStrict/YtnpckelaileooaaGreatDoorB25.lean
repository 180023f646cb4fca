/-
  Several texts in one, in their order.
-/
import Derived.Test.YtnpckelaileooaaGreatDoorB21
import Derived.Test.YtnpckelaileooaaGreatDoorTtt
import Derived.Test.YtnpckelaileooaaGreatDoorB19
import Derived.Test.YtnpckelaileooaaGreatDoorTImplRead
import Derived.Test.YtnpckelaileooaaGreatDoorB14
import Derived.Test.YtnpckelaileooaaGreatDoorPWalk
import Derived.Test.YtnpckelaileooaaGreatDoorB1

/-
  The law of drawn trees and their texts, walked.
-/
namespace Go.Proofs.YtnpckelaileooaaGreatDoor
open Go.RowKit

theorem readU_text {m : Nat} {t : T (m + 1)} (h : okT (m + 1) t = true) : ansU m (textF (m + 1) t) = t ∧ okU m (textF (m + 1) t) = true := by
  have ht : (textF (m + 1) t).data.toList = txtL (m + 1) t := by unfold textF; rw [if_pos h]; rfl
  exact ansU_some (readT_of (textF_10000 _ _) h ht.symm)

theorem textU_none {n : Nat} {t : T n} (h : okT n t = false) : (textF n t).toList.isEmpty = true := by
  have ht : (textF n t).data.toList = [] := by unfold textF; rw [if_neg (by simp [h])]; rfl
  rw [ByteArray.toList_eq, ht]
  rfl

theorem cntU {n : Nat} {t : T n} (h : okT n t = true) : 1 ≤ cntF n t ∧ cntF n t ≤ 120 := by
  have h1 := cntT_pos n t 1 (okT_parts h).1
  have h2 := (okT_parts h).2
  unfold cntF
  rw [if_pos h]
  omega

theorem cntU_none {n : Nat} {t : T n} (h : okT n t = false) : cntF n t = 0 := by
  unfold cntF
  rw [if_neg (by simp [h])]

theorem LaidU.tens {w w' : World} (h : LaidU w.heap.size w) (hb : Below w.heap.size w w') : TensIn w' := fun w2 h2 => h.1 w2 (hb.trans (h2.mono hb.size))

set_option maxRecDepth 100000 in
set_option maxHeartbeats 8000000 in
theorem lawPTop_any (N : Nat) (hN : 30000 ≤ N) (S : Nat → Prop) (w : World) (ao : Option Addr) (L cap : Nat) (h : CodeIn S w ao L cap) (hS : ∀ b, S b → b < w.heap.size) (hU : LaidU w.heap.size w) :
    Calls Tryz.prog 3 #[.slice ao L cap] w fun e w' => e = .returned (.bool true) ∧ Below w.heap.size w w' := by
  by_cases hL : 1048576 < L
  · have hLi : (1048576 : Int) < (L : Int) := by omega
    clear h hU
    go_enter Tryz.func3, Tryz.ntmps3
    go_wp2_with fail
    go_ret
    exact ⟨rfl, Below.refl _ _⟩
  have hLi : ¬ (1048576 : Int) < (L : Int) := by omega
  have HD : Hid (Calls Tryz.prog 5 #[.slice ao L cap] w (DrawnT (N + 1) w)) := drawTWrite_any (N + 1) (by omega) S w ao L cap h hS
  have HU : Hid (LaidU w.heap.size w) := hU
  clear h hU
  go_enter Tryz.func3, Tryz.ntmps3
  go_wp2_with fail
  refine HD.out.mono ?_
  rintro e w1 ⟨hb1, t, c0, c1, c2, c3, c4, rfl, ht⟩
  obtain ⟨u0, u1, u2, ua, ul, uc, ya, yl, yc, rfl, rfl, rfl, rfl, rfl⟩ := ht.shape
  obtain ⟨W1, hW1⟩ : ∃ W1, W1 = w1.alloc (.cells #[.int .i64 u0, .int .i64 u1, .string u2, .slice ua ul uc, .slice ya yl yc] 26) := ⟨_, rfl⟩
  have ha1 : Below w1.heap.size w1 W1 := by rw [hW1]; exact (Below.refl _ _).alloc (Nat.le_refl _) _
  have bt1 : BoxT w1.heap.size W1 (N + 1) t w1.heap.size (.int .i64 u0) (.int .i64 u1) (.string u2) (.slice ua ul uc) (.slice ya yl yc) :=
    ⟨by rw [hW1]; exact Box5.new _ _ _ _ _ _ _, ht.keep (fun b hb => ha1.block b hb.2) (fun b hb => hb.2), ha1.size⟩
  have HB1 : Hid (Below w.heap.size w W1) := below_step hb1 hb1.size ha1
  have HT1 : Hid (BoxT w1.heap.size W1 (N + 1) t w1.heap.size (.int .i64 u0) (.int .i64 u1) (.string u2) (.slice ua ul uc) (.slice ya yl yc)) := bt1
  have HC2 : Hid (Calls Tryz.prog 6 #[.agg #[.int .i64 u0, .int .i64 u1, .string u2, .slice ua ul uc, .slice ya yl yc]] W1 _) := specWrite_any (N + 1) _ t _ _ _ _ _ W1 bt1.tree (fun b hb => Nat.lt_of_lt_of_le hb bt1.lt)
  obtain ⟨i0, i1, i2, i3, i4⟩ := bt1.box
  rw [hW1] at i0 i1 i2 i3 i4
  clear HD hb1 ht ha1 bt1
  go_wp2_with fail
  rw [← hW1] at i0 i1 i2 i3 i4 ⊢
  clear hW1
  refine HC2.out.mono ?_
  rintro e w2 ⟨rfl, hb2⟩
  have HB2 : Hid (Below w.heap.size w w2) := below_step HB1.out HB1.out.size hb2
  have bt2 := HT1.out.keep hb2
  have HT2 : Hid (BoxT w1.heap.size w2 (N + 1) t w1.heap.size (.int .i64 u0) (.int .i64 u1) (.string u2) (.slice ua ul uc) (.slice ya yl yc)) := bt2
  have HC3 : Hid (Calls Tryz.prog 7 #[.agg #[.int .i64 u0, .int .i64 u1, .string u2, .slice ua ul uc, .slice ya yl yc]] w2 _) := specOk_any (N + 1) _ t _ _ _ _ _ w2 bt2.tree (fun b hb => Nat.lt_of_lt_of_le hb bt2.lt)
  clear i0 i1 i2 i3 i4
  obtain ⟨i0, i1, i2, i3, i4⟩ := bt2.box
  clear HC2 HB1 HT1 hb2 bt2
  go_wp2_with fail
  refine HC3.out.mono ?_
  rintro e w3 ⟨rfl, hb3⟩
  have HB3 : Hid (Below w.heap.size w w3) := below_step HB2.out HB2.out.size hb3
  have bt3 := HT2.out.keep hb3
  have HT3 : Hid (BoxT w1.heap.size w3 (N + 1) t w1.heap.size (.int .i64 u0) (.int .i64 u1) (.string u2) (.slice ua ul uc) (.slice ya yl yc)) := bt3
  have HC4 : Hid (Calls Tryz.prog 8 #[.agg #[.int .i64 u0, .int .i64 u1, .string u2, .slice ua ul uc, .slice ya yl yc]] w3 _) := implWrite_any (N + 1) _ t _ _ _ _ _ w3 bt3.tree (fun b hb => Nat.lt_of_lt_of_le hb bt3.lt) (HU.out.tens HB3.out)
  clear i0 i1 i2 i3 i4
  obtain ⟨i0, i1, i2, i3, i4⟩ := bt3.box
  clear HC3 HB2 HT2 hb3 bt3
  go_wp2_with fail
  refine HC4.out.mono ?_
  rintro e w4 ⟨rfl, hb4⟩
  have HB4 : Hid (Below w.heap.size w w4) := below_step HB3.out HB3.out.size hb4
  have bt4 := HT3.out.keep hb4
  have HT4 : Hid (BoxT w1.heap.size w4 (N + 1) t w1.heap.size (.int .i64 u0) (.int .i64 u1) (.string u2) (.slice ua ul uc) (.slice ya yl yc)) := bt4
  have HC5 : Hid (Calls Tryz.prog 9 #[.agg #[.int .i64 u0, .int .i64 u1, .string u2, .slice ua ul uc, .slice ya yl yc]] w4 _) := implOk_any (N + 1) _ t _ _ _ _ _ w4 bt4.tree (fun b hb => Nat.lt_of_lt_of_le hb bt4.lt)
  clear i0 i1 i2 i3 i4
  obtain ⟨i0, i1, i2, i3, i4⟩ := bt4.box
  clear HC4 HB3 HT3 hb4 bt4
  go_wp2_with fail
  refine HC5.out.mono ?_
  rintro e w5 ⟨rfl, hb5⟩
  have HB5 : Hid (Below w.heap.size w w5) := below_step HB4.out HB4.out.size hb5
  have bt5 := HT4.out.keep hb5
  have HT5 : Hid (BoxT w1.heap.size w5 (N + 1) t w1.heap.size (.int .i64 u0) (.int .i64 u1) (.string u2) (.slice ua ul uc) (.slice ya yl yc)) := bt5
  have HC6 : Hid (Calls Tryz.prog 10 #[.agg #[.int .i64 u0, .int .i64 u1, .string u2, .slice ua ul uc, .slice ya yl yc]] w5 _) := implParts_any (N + 1) _ t _ _ _ _ _ w5 bt5.tree (fun b hb => Nat.lt_of_lt_of_le hb bt5.lt)
  clear i0 i1 i2 i3 i4
  obtain ⟨i0, i1, i2, i3, i4⟩ := bt5.box
  clear HC5 HB4 HT4 hb5 bt5
  cases hok : okT (N + 1) t
  case' false =>
    have hemp : (textF (N + 1) t).toList.isEmpty = true := textU_none hok
    have hc0 : cntF (N + 1) t = 0 := cntU_none hok
    rw [hc0] at HC6
    go_wp2_with fail
    refine HC6.out.mono ?_
    rintro e w6 ⟨rfl, hb6⟩
    have HB6 : Hid (Below w.heap.size w w6) := below_step HB5.out HB5.out.size hb6
    clear HC6 HB5 HT5 hb6 i0 i1 i2 i3 i4
    go_wp2_with fail
    go_ret
    exact ⟨rfl, HB6.out⟩
  case' true =>
    have h8 : ((textF (N + 1) t).size : Int) ≤ 10000 := by have := textF_10000 (N + 1) t; omega
    have hn := cntU hok
    obtain ⟨hn1, hn2⟩ := hn
    go_wp2_with fail
    refine HC6.out.mono ?_
    rintro e w6 ⟨rfl, hb6⟩
    have HB6 : Hid (Below w.heap.size w w6) := below_step HB5.out HB5.out.size hb6
    have bt6 := HT5.out.keep hb6
    have HT6 : Hid (BoxT w1.heap.size w6 (N + 1) t w1.heap.size (.int .i64 u0) (.int .i64 u1) (.string u2) (.slice ua ul uc) (.slice ya yl yc)) := bt6
    have HC7 : Hid (Calls Tryz.prog 11 #[.string (textF (N + 1) t)] w6 (ReadPostT (N + 1) t true w6)) := by
      have h8 := textF_10000 (N + 1) t
      have := implTRead_any (textF (N + 1) t) N w.heap.size (by omega) (by omega) w6 (HU.out.step HB6.out) HB6.out.size
      rw [(readU_text hok).1, (readU_text hok).2] at this
      exact this
    clear i0 i1 i2 i3 i4
    obtain ⟨i0, i1, i2, i3, i4⟩ := bt6.box
    clear HC6 HB5 HT5 hb6 bt6
    go_wp2_with fail
    refine HC7.out.mono ?_
    rintro e w7 ⟨hb7, g0, g1, g2, g3, g4, L3, L4, rfl, hg, -, -, -, -⟩
    obtain ⟨z0, z1, z2, za, zl, zc, va, vl, vc, rfl, rfl, rfl, rfl, rfl⟩ := hg.shape
    obtain ⟨W7, hW7⟩ : ∃ W7, W7 = w7.alloc (.cells #[.int .i64 z0, .int .i64 z1, .string z2, .slice za zl zc, .slice va vl vc] 26) := ⟨_, rfl⟩
    have ha7 : Below w7.heap.size w7 W7 := by rw [hW7]; exact (Below.refl _ _).alloc (Nat.le_refl _) _
    have bu7 : BoxT w7.heap.size W7 (N + 1) t w7.heap.size (.int .i64 z0) (.int .i64 z1) (.string z2) (.slice za zl zc) (.slice va vl vc) :=
      ⟨by rw [hW7]; exact Box5.new _ _ _ _ _ _ _, hg.keep (fun b hb => ha7.block b hb.2) (fun b hb => hb.2), ha7.size⟩
    have hb67 : Below w6.heap.size w6 W7 := below_step hb7 hb7.size ha7
    have HB7 : Hid (Below w.heap.size w W7) := below_step HB6.out HB6.out.size hb67
    have bt7 := HT6.out.keep hb67
    have HC8 : Hid (Calls Tryz.prog 12 #[.agg #[.int .i64 z0, .int .i64 z1, .string z2, .slice za zl zc, .slice va vl vc], .agg #[.int .i64 u0, .int .i64 u1, .string u2, .slice ua ul uc, .slice ya yl yc]] W7 _) :=
      ttTree_same (N + 1) _ _ t _ _ _ _ _ _ _ _ _ _ W7 bu7.tree bt7.tree (fun b hb => Nat.lt_of_lt_of_le hb bu7.lt) (fun b hb => Nat.lt_of_lt_of_le hb bt7.lt)
    clear i0 i1 i2 i3 i4
    obtain ⟨i0, i1, i2, i3, i4⟩ := bu7.box
    obtain ⟨j0, j1, j2, j3, j4⟩ := bt7.box
    rw [hW7] at i0 i1 i2 i3 i4 j0 j1 j2 j3 j4
    clear HC7 HB6 HT6 hg hb7 ha7 bu7 hb67 bt7
    go_wp2_with fail
    rw [← hW7] at i0 i1 i2 i3 i4 j0 j1 j2 j3 j4 ⊢
    clear hW7
    refine HC8.out.mono ?_
    rintro e w8 ⟨rfl, hb8⟩
    have HB8 : Hid (Below w.heap.size w w8) := below_step HB7.out HB7.out.size hb8
    clear i0 i1 i2 i3 i4 j0 j1 j2 j3 j4 HC8 HB7 hb8
    go_wp2_with fail
    go_ret
    exact ⟨rfl, HB8.out⟩

end Go.Proofs.YtnpckelaileooaaGreatDoor

/-
  The law of drawn texts of trees, walked.
-/
namespace Go.Proofs.YtnpckelaileooaaGreatDoor
open Go.RowKit

theorem textU_read {m : Nat} {s : ByteArray} (h : okU m s = true) : okT (m + 1) (ansU m s) = true ∧ textF (m + 1) (ansU m s) = s := by
  unfold okU at h
  obtain ⟨t, ht⟩ := Option.isSome_iff_exists.1 h
  obtain ⟨-, hok, hx⟩ := readT_some ht
  rw [(ansU_some ht).1]
  refine ⟨hok, ?_⟩
  unfold textF
  rw [if_pos hok, hx]
  rfl

theorem zeroU_read {m : Nat} {s : ByteArray} (h : okU m s = false) : ansU m s = (⟨0, 0, ByteArray.empty, [], []⟩ : Nd (T m)) := by
  unfold okU at h
  exact (ansU_none (by simpa using h)).1

set_option maxRecDepth 100000 in
set_option maxHeartbeats 8000000 in
theorem lawPStrict_any (N : Nat) (hN : 30000 ≤ N) (S : Nat → Prop) (w : World) (ao : Option Addr) (L cap : Nat) (h : CodeIn S w ao L cap) (hS : ∀ b, S b → b < w.heap.size) (hU : LaidU w.heap.size w) :
    Calls Tryz.prog 4 #[.slice ao L cap] w fun e w' => e = .returned (.bool true) ∧ Below w.heap.size w w' := by
  by_cases hL : 1048576 < L
  · have hLi : (1048576 : Int) < (L : Int) := by omega
    clear h hU
    go_enter Tryz.func4, Tryz.ntmps4
    go_wp2_with fail
    go_ret
    exact ⟨rfl, Below.refl _ _⟩
  have hLi : ¬ (1048576 : Int) < (L : Int) := by omega
  have HD : Hid (Calls Tryz.prog 13 #[.slice ao L cap] w (DrawnST w)) := drawTRead_any S w ao L cap h hS
  have HU : Hid (LaidU w.heap.size w) := hU
  clear h hU
  go_enter Tryz.func4, Tryz.ntmps4
  go_wp2_with fail
  refine HD.out.mono ?_
  rintro e w7 ⟨hb7, x, hx, rfl⟩
  have HB7 : Hid (Below w.heap.size w w7) := hb7
  have HC8 : Hid (Calls Tryz.prog 14 #[.string x] w7 (SpecReadT (N + 1) (ansU N x) (okU N x) w7)) := specTRead_any x N (by omega) (by omega) w7
  clear HD hb7
  go_wp2_with fail
  refine HC8.out.mono ?_
  rintro e w8 ⟨hb8, g0, g1, g2, g3, g4, rfl, hg⟩
  obtain ⟨s0, s1, s2, sa, sl, sc, ta, tl, tc, rfl, rfl, rfl, rfl, rfl⟩ := hg.shape
  obtain ⟨W8, hW8⟩ : ∃ W8, W8 = w8.alloc (.cells #[.int .i64 s0, .int .i64 s1, .string s2, .slice sa sl sc, .slice ta tl tc] 26) := ⟨_, rfl⟩
  have ha8 : Below w8.heap.size w8 W8 := by rw [hW8]; exact (Below.refl _ _).alloc (Nat.le_refl _) _
  have bx8 : BoxT w8.heap.size W8 (N + 1) (ansU N x) w8.heap.size (.int .i64 s0) (.int .i64 s1) (.string s2) (.slice sa sl sc) (.slice ta tl tc) :=
    ⟨by rw [hW8]; exact Box5.new _ _ _ _ _ _ _, hg.keep (fun b hb => ha8.block b hb.2) (fun b hb => hb.2), ha8.size⟩
  have hb78 : Below w7.heap.size w7 W8 := below_step hb8 hb8.size ha8
  have HB8 : Hid (Below w.heap.size w W8) := below_step HB7.out HB7.out.size hb78
  have HX8 : Hid (BoxT w8.heap.size W8 (N + 1) (ansU N x) w8.heap.size (.int .i64 s0) (.int .i64 s1) (.string s2) (.slice sa sl sc) (.slice ta tl tc)) := bx8
  have HC9 : Hid (Calls Tryz.prog 11 #[.string x] W8 (ReadPostT (N + 1) (ansU N x) (okU N x) W8)) := implTRead_any x N w.heap.size (by omega) (by omega) W8 (HU.out.step HB8.out) HB8.out.size
  obtain ⟨i0, i1, i2, i3, i4⟩ := bx8.box
  rw [hW8] at i0 i1 i2 i3 i4
  clear HC8 HB7 hg hb8 ha8 bx8 hb78
  go_wp2_with fail
  rw [← hW8] at i0 i1 i2 i3 i4 ⊢
  clear hW8
  refine HC9.out.mono ?_
  rintro e w9 ⟨hb9, g0, g1, g2, g3, g4, L3, L4, rfl, hg, -, -, -, -⟩
  obtain ⟨q0, q1, q2, qa, ql, qc, ra, rl, rc, rfl, rfl, rfl, rfl, rfl⟩ := hg.shape
  obtain ⟨W9, hW9⟩ : ∃ W9, W9 = w9.alloc (.cells #[.int .i64 q0, .int .i64 q1, .string q2, .slice qa ql qc, .slice ra rl rc] 26) := ⟨_, rfl⟩
  have ha9 : Below w9.heap.size w9 W9 := by rw [hW9]; exact (Below.refl _ _).alloc (Nat.le_refl _) _
  have by9 : BoxT w9.heap.size W9 (N + 1) (ansU N x) w9.heap.size (.int .i64 q0) (.int .i64 q1) (.string q2) (.slice qa ql qc) (.slice ra rl rc) :=
    ⟨by rw [hW9]; exact Box5.new _ _ _ _ _ _ _, hg.keep (fun b hb => ha9.block b hb.2) (fun b hb => hb.2), ha9.size⟩
  have hb89 : Below W8.heap.size W8 W9 := below_step hb9 hb9.size ha9
  have HB9 : Hid (Below w.heap.size w W9) := below_step HB8.out HB8.out.size hb89
  have bx9 := HX8.out.keep hb89
  have HY9 : Hid (BoxT w9.heap.size W9 (N + 1) (ansU N x) w9.heap.size (.int .i64 q0) (.int .i64 q1) (.string q2) (.slice qa ql qc) (.slice ra rl rc)) := by9
  have HCa : Hid (Calls Tryz.prog 12 #[.agg #[.int .i64 q0, .int .i64 q1, .string q2, .slice qa ql qc, .slice ra rl rc], .agg #[.int .i64 s0, .int .i64 s1, .string s2, .slice sa sl sc, .slice ta tl tc]] W9 _) :=
    ttTree_same (N + 1) _ _ (ansU N x) _ _ _ _ _ _ _ _ _ _ W9 by9.tree bx9.tree (fun b hb => Nat.lt_of_lt_of_le hb by9.lt) (fun b hb => Nat.lt_of_lt_of_le hb bx9.lt)
  clear i0 i1 i2 i3 i4
  obtain ⟨i0, i1, i2, i3, i4⟩ := by9.box
  obtain ⟨j0, j1, j2, j3, j4⟩ := bx9.box
  rw [hW9] at i0 i1 i2 i3 i4 j0 j1 j2 j3 j4
  clear HC9 HB8 HX8 hg hb9 ha9 by9 hb89 bx9
  cases hokR : okU N x
  all_goals
    go_wp2_with fail
    rw [← hW9] at i0 i1 i2 i3 i4 j0 j1 j2 j3 j4 ⊢
    clear hW9
    refine HCa.out.mono ?_
    rintro e w10 ⟨rfl, hb10⟩
    have HB10 : Hid (Below w.heap.size w w10) := below_step HB9.out HB9.out.size hb10
    have by10 := HY9.out.keep hb10
    clear i0 i1 i2 i3 i4 j0 j1 j2 j3 j4
    obtain ⟨i0, i1, i2, i3, i4⟩ := by10.box
  · have hq0 : q0 = 0 := by
      have h1 := by10.tree.1
      rw [zeroU_read hokR] at h1
      simpa using h1
    subst hq0
    clear HCa HB9 HY9 hb10 by10
    go_wp2_with fail
    go_ret
    exact ⟨rfl, HB10.out⟩
  · have HY10 : Hid (BoxT w9.heap.size w10 (N + 1) (ansU N x) w9.heap.size (.int .i64 q0) (.int .i64 q1) (.string q2) (.slice qa ql qc) (.slice ra rl rc)) := by10
    have HCb : Hid (Calls Tryz.prog 9 #[.agg #[.int .i64 q0, .int .i64 q1, .string q2, .slice qa ql qc, .slice ra rl rc]] w10 fun e w' => e = .returned (.bool true) ∧ Below w10.heap.size w10 w') := by
      have := implOk_any (N + 1) _ (ansU N x) _ _ _ _ _ w10 by10.tree (fun b hb => Nat.lt_of_lt_of_le hb by10.lt)
      rw [(textU_read hokR).1] at this
      exact this
    clear HCa HB9 HY9 hb10 by10
    go_wp2_with fail
    refine HCb.out.mono ?_
    rintro e w11 ⟨rfl, hb11⟩
    have HB11 : Hid (Below w.heap.size w w11) := below_step HB10.out HB10.out.size hb11
    have by11 := HY10.out.keep hb11
    clear i0 i1 i2 i3 i4
    obtain ⟨i0, i1, i2, i3, i4⟩ := by11.box
    have HCc : Hid (Calls Tryz.prog 8 #[.agg #[.int .i64 q0, .int .i64 q1, .string q2, .slice qa ql qc, .slice ra rl rc]] w11 fun e w' => e = .returned (.string x) ∧ Below w11.heap.size w11 w') := by
      have := implWrite_any (N + 1) _ (ansU N x) _ _ _ _ _ w11 by11.tree (fun b hb => Nat.lt_of_lt_of_le hb by11.lt) (HU.out.tens HB11.out)
      rw [(textU_read hokR).2] at this
      exact this
    clear HCb HB10 HY10 hb11 by11
    go_wp2_with fail
    refine HCc.out.mono ?_
    rintro e w12 ⟨rfl, hb12⟩
    have HB12 : Hid (Below w.heap.size w w12) := below_step HB11.out HB11.out.size hb12
    clear HCc HB11 hb12
    go_wp2_with fail
    go_ret
    exact ⟨rfl, HB12.out⟩

end Go.Proofs.YtnpckelaileooaaGreatDoor
