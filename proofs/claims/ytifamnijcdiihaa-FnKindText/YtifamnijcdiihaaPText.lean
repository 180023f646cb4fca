/-
  The law of drawn schemas and their texts, walked.
-/
import Derived.Test.YtifamnijcdiihaaB15
import Derived.Test.YtifamnijcdiihaaB2
import Derived.Test.YtifamnijcdiihaaKRd4
import Derived.Test.YtifamnijcdiihaaKImplRead
import Derived.Test.YtifamnijcdiihaaB13
import Derived.Test.YtifamnijcdiihaaB1
import Derived.Test.YtifamnijcdiihaaPFirst
namespace Go.Proofs.Ytifamnijcdiihaa
open Go.RowKit

theorem readK_text {m : Nat} {k : K (m + 1)} (h : okK (m + 1) k = true) : ansR m (textKF (m + 1) k) = k ∧ okR m (textKF (m + 1) k) = true := by
  have ht : (textKF (m + 1) k).data.toList = txtK (m + 1) k := by unfold textKF; rw [if_pos h]; rfl
  exact ansR_some (readK_of (textKF_800 _ _) h ht.symm)

theorem text_read {m : Nat} {s : ByteArray} (h : okR m s = true) : okK (m + 1) (ansR m s) = true ∧ textKF (m + 1) (ansR m s) = s := by
  unfold okR at h
  obtain ⟨k, hk⟩ := Option.isSome_iff_exists.1 h
  obtain ⟨-, hok, ht⟩ := readK_some hk
  rw [(ansR_some hk).1]
  refine ⟨hok, ?_⟩
  unfold textKF
  rw [if_pos hok, ht]
  rfl

theorem zero_read {m : Nat} {s : ByteArray} (h : okR m s = false) : ansR m s = (⟨0, [], []⟩ : Kd (K m)) := by
  unfold okR at h
  exact (ansR_none (by simpa using h)).1

theorem text_some {n : Nat} {k : K n} (h : okK n k = true) : (textKF n k).toList.isEmpty = false := by
  have ht : (textKF n k).data.toList = txtK n k := by unfold textKF; rw [if_pos h]; rfl
  rw [ByteArray.toList_eq, ht]
  have := txtK_ne _ _ _ (okK_get h).1
  cases hl : txtK n k with
  | nil => exact absurd hl this
  | cons a l => rfl

theorem text_none {n : Nat} {k : K n} (h : okK n k = false) : (textKF n k).toList.isEmpty = true := by
  have ht : (textKF n k).data.toList = [] := by unfold textKF; rw [if_neg (by simp [h])]; rfl
  rw [ByteArray.toList_eq, ht]
  rfl

theorem codeIn_keep {S : Nat → Prop} {w w' : World} {ao : Option Addr} {L cap : Nat} (h : CodeIn S w ao L cap) (hS : ∀ b, S b → b < w.heap.size) (hb : Below w.heap.size w w') : CodeIn S w' ao L cap := by
  refine ⟨h.1, h.2.1, fun h0 => ?_⟩
  obtain ⟨b, off, ha, hs, hc⟩ := h.2.2 h0
  refine ⟨b, off, ha, hs, fun j hj => ?_⟩
  obtain ⟨u, hu, hv⟩ := hc j hj
  exact ⟨u, hu, (World.cell?_of_block (hb.block b (hS b hs))).trans hv⟩

set_option maxRecDepth 100000 in
set_option maxHeartbeats 8000000 in
theorem lawPText_any (N : Nat) (hN : 30000 ≤ N) (S : Nat → Prop) (w : World) (ao : Option Addr) (L cap : Nat) (h : CodeIn S w ao L cap) (hS : ∀ b, S b → b < w.heap.size) :
    Calls Try.prog 3 #[.slice ao L cap] w fun e w' => e = .returned (.bool true) ∧ Below w.heap.size w w' := by
  by_cases hL : 1048576 < L
  · have hLi : (1048576 : Int) < (L : Int) := by omega
    clear h
    go_enter Try.func3, Try.ntmps3
    go_wp2_with fail
    go_ret
    exact ⟨rfl, Below.refl _ _⟩
  have hLi : ¬ (1048576 : Int) < (L : Int) := by omega
  have HD : Hid (Calls Try.prog 5 #[.slice ao L cap] w (DrawnK (N + 1) w)) := drawKWrite_any (N + 1) (by omega) S w ao L cap h hS
  have HCo : Hid (CodeIn S w ao L cap ∧ ∀ b, S b → b < w.heap.size) := ⟨h, hS⟩
  clear h
  go_enter Try.func3, Try.ntmps3
  go_wp2_with fail
  refine HD.out.mono ?_
  rintro e w1 ⟨hb1, k, c0, c1, c2, rfl, hk⟩
  obtain ⟨u0, ua, ul, uc, ya, yl, yc, rfl, rfl, rfl⟩ := hk.shape
  obtain ⟨W1, hW1⟩ : ∃ W1, W1 = w1.alloc (.cells #[.int .i64 u0, .slice ua ul uc, .slice ya yl yc] 26) := ⟨_, rfl⟩
  have ha1 : Below w1.heap.size w1 W1 := by rw [hW1]; exact (Below.refl _ _).alloc (Nat.le_refl _) _
  have bk1 : BoxK w1.heap.size W1 (N + 1) k w1.heap.size (.int .i64 u0) (.slice ua ul uc) (.slice ya yl yc) :=
    ⟨by rw [hW1]; exact Box3.new _ _ _ _ _, hk.keep (fun b hb => ha1.block b hb.2) (fun b hb => hb.2), ha1.size⟩
  have HB1 : Hid (Below w.heap.size w W1) := below_step hb1 hb1.size ha1
  have HK1 : Hid (BoxK w1.heap.size W1 (N + 1) k w1.heap.size (.int .i64 u0) (.slice ua ul uc) (.slice ya yl yc)) := bk1
  have HC2 : Hid (Calls Try.prog 6 #[.agg #[.int .i64 u0, .slice ua ul uc, .slice ya yl yc]] W1 _) := specKWrite_any (N + 1) _ k _ _ _ W1 bk1.kind (fun b hb => Nat.lt_of_lt_of_le hb bk1.lt)
  obtain ⟨i0, i1, i2⟩ := bk1.box
  rw [hW1] at i0 i1 i2
  clear HD hb1 hk ha1 bk1
  go_wp2_with fail
  rw [← hW1] at i0 i1 i2 ⊢
  clear hW1
  refine HC2.out.mono ?_
  rintro e w2 ⟨rfl, hb2⟩
  have HB2 : Hid (Below w.heap.size w w2) := below_step HB1.out HB1.out.size hb2
  have bk2 := HK1.out.keep hb2
  have HK2 : Hid (BoxK w1.heap.size w2 (N + 1) k w1.heap.size (.int .i64 u0) (.slice ua ul uc) (.slice ya yl yc)) := bk2
  have HC3 : Hid (Calls Try.prog 7 #[.agg #[.int .i64 u0, .slice ua ul uc, .slice ya yl yc]] w2 _) := implKWrite_any (N + 1) _ k _ _ _ w2 bk2.kind (fun b hb => Nat.lt_of_lt_of_le hb bk2.lt)
  clear i0 i1 i2
  obtain ⟨i0, i1, i2⟩ := bk2.box
  clear HC2 HB1 HK1 hb2 bk2
  go_wp2_with fail
  refine HC3.out.mono ?_
  rintro e w3 ⟨rfl, hb3⟩
  have HB3 : Hid (Below w.heap.size w w3) := below_step HB2.out HB2.out.size hb3
  have bk3 := HK2.out.keep hb3
  have HK3 : Hid (BoxK w1.heap.size w3 (N + 1) k w1.heap.size (.int .i64 u0) (.slice ua ul uc) (.slice ya yl yc)) := bk3
  have HC4 : Hid (Calls Try.prog 8 #[.agg #[.int .i64 u0, .slice ua ul uc, .slice ya yl yc]] w3 _) := implKOk_any (N + 1) _ k _ _ _ w3 bk3.kind (fun b hb => Nat.lt_of_lt_of_le hb bk3.lt)
  clear i0 i1 i2
  obtain ⟨i0, i1, i2⟩ := bk3.box
  clear HC3 HB2 HK2 hb3 bk3
  go_wp2_with fail
  refine HC4.out.mono ?_
  rintro e w4 ⟨rfl, hb4⟩
  have HB4 : Hid (Below w.heap.size w w4) := below_step HB3.out HB3.out.size hb4
  have bk4 := HK3.out.keep hb4
  have HK4 : Hid (BoxK w1.heap.size w4 (N + 1) k w1.heap.size (.int .i64 u0) (.slice ua ul uc) (.slice ya yl yc)) := bk4
  clear i0 i1 i2
  obtain ⟨i0, i1, i2⟩ := bk4.box
  clear HC4 HB3 HK3 hb4 bk4
  cases hok : okK (N + 1) k
  case' false =>
    have hemp : (textKF (N + 1) k).toList.isEmpty = true := text_none hok
    have HB6 : Hid (Below w.heap.size w w4) := HB4.out
    clear HK4 HB4
    go_wp2_with fail
    have HC7 : Hid (Calls Try.prog 11 #[.slice ao L cap] w4 (DrawnS w4)) := drawKRead_any S w4 ao L cap (codeIn_keep HCo.out.1 HCo.out.2 HB6.out) (fun b hb => Nat.lt_of_lt_of_le (HCo.out.2 b hb) HB6.out.size)
    clear i0 i1 i2 hemp hok
  case' true =>
    have hemp : (textKF (N + 1) k).toList.isEmpty = false := text_some hok
    have h8 : ¬ (800 : Int) < ((textKF (N + 1) k).size : Int) := by have := textKF_800 (N + 1) k; omega
    have HC5 : Hid (Calls Try.prog 9 #[.string (textKF (N + 1) k)] w4 (ReadPostK (N + 1) k true w4)) := by
      have h8 := textKF_800 (N + 1) k
      have := implKRead_any (textKF (N + 1) k) N (by omega) (by omega) w4
      rw [(readK_text hok).1, (readK_text hok).2] at this
      exact this
    go_wp2_with fail
    refine HC5.out.mono ?_
    rintro e w5 ⟨hb5, g0, g1, g2, L3, L4, rfl, hg, -, -, -, -⟩
    obtain ⟨z0, za, zl, zc, va, vl, vc, rfl, rfl, rfl⟩ := hg.shape
    obtain ⟨W5, hW5⟩ : ∃ W5, W5 = w5.alloc (.cells #[.int .i64 z0, .slice za zl zc, .slice va vl vc] 26) := ⟨_, rfl⟩
    have ha5 : Below w5.heap.size w5 W5 := by rw [hW5]; exact (Below.refl _ _).alloc (Nat.le_refl _) _
    have bu5 : BoxK w5.heap.size W5 (N + 1) k w5.heap.size (.int .i64 z0) (.slice za zl zc) (.slice va vl vc) :=
      ⟨by rw [hW5]; exact Box3.new _ _ _ _ _, hg.keep (fun b hb => ha5.block b hb.2) (fun b hb => hb.2), ha5.size⟩
    have hb45 : Below w4.heap.size w4 W5 := below_step hb5 hb5.size ha5
    have HB5 : Hid (Below w.heap.size w W5) := below_step HB4.out HB4.out.size hb45
    have bk5 := HK4.out.keep hb45
    have HC6 : Hid (Calls Try.prog 10 #[.agg #[.int .i64 z0, .slice za zl zc, .slice va vl vc], .agg #[.int .i64 u0, .slice ua ul uc, .slice ya yl yc]] W5 _) :=
      ttKind_same (N + 1) _ _ k _ _ _ _ _ _ W5 bu5.kind bk5.kind (fun b hb => Nat.lt_of_lt_of_le hb bu5.lt) (fun b hb => Nat.lt_of_lt_of_le hb bk5.lt)
    clear i0 i1 i2
    obtain ⟨i0, i1, i2⟩ := bu5.box
    obtain ⟨j0, j1, j2⟩ := bk5.box
    rw [hW5] at i0 i1 i2 j0 j1 j2
    clear HC5 HB4 HK4 hg hb5 ha5 bu5 hb45 bk5
    go_wp2_with fail
    rw [← hW5] at i0 i1 i2 j0 j1 j2 ⊢
    clear hW5
    refine HC6.out.mono ?_
    rintro e w6 ⟨rfl, hb6⟩
    have HB6 : Hid (Below w.heap.size w w6) := below_step HB5.out HB5.out.size hb6
    clear i0 i1 i2 j0 j1 j2 HC6 HB5 hb6
    go_wp2_with fail
    have HC7 : Hid (Calls Try.prog 11 #[.slice ao L cap] w6 (DrawnS w6)) := drawKRead_any S w6 ao L cap (codeIn_keep HCo.out.1 HCo.out.2 HB6.out) (fun b hb => Nat.lt_of_lt_of_le (HCo.out.2 b hb) HB6.out.size)
    clear hemp hok h8
  all_goals
    refine HC7.out.mono ?_
    rintro e w7 ⟨hb7, x, hx, rfl⟩
    have HB7 : Hid (Below w.heap.size w w7) := below_step HB6.out HB6.out.size hb7
    have HC8 : Hid (Calls Try.prog 12 #[.string x] w7 (SpecReadPost (N + 1) (ansR N x) (okR N x) w7)) := specKRead_any x N (by omega) (by omega) w7
    clear HC7 HB6 hb7
    go_wp2_with fail
    refine HC8.out.mono ?_
    rintro e w8 ⟨hb8, g0, g1, g2, rfl, hg⟩
    obtain ⟨s0, sa, sl, sc, ta, tl, tc, rfl, rfl, rfl⟩ := hg.shape
    obtain ⟨W8, hW8⟩ : ∃ W8, W8 = w8.alloc (.cells #[.int .i64 s0, .slice sa sl sc, .slice ta tl tc] 26) := ⟨_, rfl⟩
    have ha8 : Below w8.heap.size w8 W8 := by rw [hW8]; exact (Below.refl _ _).alloc (Nat.le_refl _) _
    have bx8 : BoxK w8.heap.size W8 (N + 1) (ansR N x) w8.heap.size (.int .i64 s0) (.slice sa sl sc) (.slice ta tl tc) :=
      ⟨by rw [hW8]; exact Box3.new _ _ _ _ _, hg.keep (fun b hb => ha8.block b hb.2) (fun b hb => hb.2), ha8.size⟩
    have hb78 : Below w7.heap.size w7 W8 := below_step hb8 hb8.size ha8
    have HB8 : Hid (Below w.heap.size w W8) := below_step HB7.out HB7.out.size hb78
    have HX8 : Hid (BoxK w8.heap.size W8 (N + 1) (ansR N x) w8.heap.size (.int .i64 s0) (.slice sa sl sc) (.slice ta tl tc)) := bx8
    have HC9 : Hid (Calls Try.prog 9 #[.string x] W8 (ReadPostK (N + 1) (ansR N x) (okR N x) W8)) := implKRead_any x N (by omega) (by omega) W8
    obtain ⟨i0, i1, i2⟩ := bx8.box
    rw [hW8] at i0 i1 i2
    clear HC8 HB7 hg hb8 ha8 bx8 hb78
    go_wp2_with fail
    rw [← hW8] at i0 i1 i2 ⊢
    clear hW8
    refine HC9.out.mono ?_
    rintro e w9 ⟨hb9, g0, g1, g2, L3, L4, rfl, hg, -, -, -, -⟩
    obtain ⟨q0, qa, ql, qc, ra, rl, rc, rfl, rfl, rfl⟩ := hg.shape
    obtain ⟨W9, hW9⟩ : ∃ W9, W9 = w9.alloc (.cells #[.int .i64 q0, .slice qa ql qc, .slice ra rl rc] 26) := ⟨_, rfl⟩
    have ha9 : Below w9.heap.size w9 W9 := by rw [hW9]; exact (Below.refl _ _).alloc (Nat.le_refl _) _
    have by9 : BoxK w9.heap.size W9 (N + 1) (ansR N x) w9.heap.size (.int .i64 q0) (.slice qa ql qc) (.slice ra rl rc) :=
      ⟨by rw [hW9]; exact Box3.new _ _ _ _ _, hg.keep (fun b hb => ha9.block b hb.2) (fun b hb => hb.2), ha9.size⟩
    have hb89 : Below W8.heap.size W8 W9 := below_step hb9 hb9.size ha9
    have HB9 : Hid (Below w.heap.size w W9) := below_step HB8.out HB8.out.size hb89
    have bx9 := HX8.out.keep hb89
    have HY9 : Hid (BoxK w9.heap.size W9 (N + 1) (ansR N x) w9.heap.size (.int .i64 q0) (.slice qa ql qc) (.slice ra rl rc)) := by9
    have HCa : Hid (Calls Try.prog 10 #[.agg #[.int .i64 s0, .slice sa sl sc, .slice ta tl tc], .agg #[.int .i64 q0, .slice qa ql qc, .slice ra rl rc]] W9 _) :=
      ttKind_same (N + 1) _ _ (ansR N x) _ _ _ _ _ _ W9 bx9.kind by9.kind (fun b hb => Nat.lt_of_lt_of_le hb bx9.lt) (fun b hb => Nat.lt_of_lt_of_le hb by9.lt)
    clear i0 i1 i2
    obtain ⟨i0, i1, i2⟩ := by9.box
    obtain ⟨j0, j1, j2⟩ := bx9.box
    rw [hW9] at i0 i1 i2 j0 j1 j2
    clear HC9 HB8 HX8 hg hb9 ha9 by9 hb89 bx9
    cases hokR : okR N x
    all_goals
      go_wp2_with fail
      rw [← hW9] at i0 i1 i2 j0 j1 j2 ⊢
      clear hW9
      refine HCa.out.mono ?_
      rintro e w10 ⟨rfl, hb10⟩
      have HB10 : Hid (Below w.heap.size w w10) := below_step HB9.out HB9.out.size hb10
      have by10 := HY9.out.keep hb10
      clear i0 i1 i2 j0 j1 j2
      obtain ⟨i0, i1, i2⟩ := by10.box
    · have hq0 : q0 = 0 := by
        have h1 := by10.kind.1
        rw [zero_read hokR] at h1
        simpa using h1
      subst hq0
      clear HCa HB9 HY9 hb10 by10
      go_wp2_with fail
      go_ret
      exact ⟨rfl, HB10.out⟩
    · have HY10 : Hid (BoxK w9.heap.size w10 (N + 1) (ansR N x) w9.heap.size (.int .i64 q0) (.slice qa ql qc) (.slice ra rl rc)) := by10
      have HCb : Hid (Calls Try.prog 8 #[.agg #[.int .i64 q0, .slice qa ql qc, .slice ra rl rc]] w10 fun e w' => e = .returned (.bool true) ∧ Below w10.heap.size w10 w') := by
        have := implKOk_any (N + 1) _ (ansR N x) _ _ _ w10 by10.kind (fun b hb => Nat.lt_of_lt_of_le hb by10.lt)
        rw [(text_read hokR).1] at this
        exact this
      clear HCa HB9 HY9 hb10 by10
      go_wp2_with fail
      refine HCb.out.mono ?_
      rintro e w11 ⟨rfl, hb11⟩
      have HB11 : Hid (Below w.heap.size w w11) := below_step HB10.out HB10.out.size hb11
      have by11 := HY10.out.keep hb11
      clear i0 i1 i2
      obtain ⟨i0, i1, i2⟩ := by11.box
      have HCc : Hid (Calls Try.prog 7 #[.agg #[.int .i64 q0, .slice qa ql qc, .slice ra rl rc]] w11 fun e w' => e = .returned (.string x) ∧ Below w11.heap.size w11 w') := by
        have := implKWrite_any (N + 1) _ (ansR N x) _ _ _ w11 by11.kind (fun b hb => Nat.lt_of_lt_of_le hb by11.lt)
        rw [(text_read hokR).2] at this
        exact this
      clear HCb HB10 HY10 hb11 by11
      go_wp2_with fail
      refine HCc.out.mono ?_
      rintro e w12 ⟨rfl, hb12⟩
      have HB12 : Hid (Below w.heap.size w w12) := below_step HB11.out HB11.out.size hb12
      clear HCc HB11 hb12
      go_wp2_with fail
      go_ret
      exact ⟨rfl, HB12.out⟩

end Go.Proofs.Ytifamnijcdiihaa
