/-
  The law of KindJoin, walked.
-/
import Derived.Test.YtdijbjhmjamagaaGreatDoorB21
import Derived.Test.YtdijbjhmjamagaaGreatDoorB4
import Derived.Test.YtdijbjhmjamagaaGreatDoorB6
import Derived.Deep.Cut
import Derived.Deep.RegionHeld
namespace Go.Proofs.YtdijbjhmjamagaaGreatDoor
open Go.RowKit

set_option maxRecDepth 100000 in
set_option maxHeartbeats 8000000 in
theorem lawKJoin_any (n m : Nat) (S : Nat → Prop) (a : K n) (b : K m) (a0 a1 a2 b0 b1 b2 : Value) (w : World) (ha : KindIn S w n a a0 a1 a2) (hb : KindIn S w m b b0 b1 b2) (hB : ∀ b, S b → b < w.heap.size) (hg : HandleIn w) :
    Calls Tryz.prog 4 #[.agg #[a0, a1, a2], .agg #[b0, b1, b2]] w fun e w' => e = .returned (.bool true) ∧ Below w.heap.size w w' := by
  obtain ⟨x0, xxa, xxl, xxc, xya, xyl, xyc, rfl, rfl, rfl⟩ := ha.shape
  obtain ⟨z0, zxa, zxl, zxc, zya, zyl, zyc, rfl, rfl, rfl⟩ := hb.shape
  obtain ⟨M, r, ok, hSp0, hIm0⟩ : ∃ (M : Nat) (r : K M) (ok : Bool), (∀ (W : World) (a0 a1 a2 b0 b1 b2 : Value), KindIn (fun b => b < W.heap.size) W n a a0 a1 a2 → KindIn (fun b => b < W.heap.size) W m b b0 b1 b2 → Calls Tryz.prog 6 #[.agg #[a0, a1, a2], .agg #[b0, b1, b2]] W (SJPost r ok W)) ∧
      (∀ (W : World) (a0 a1 a2 b0 b1 b2 : Value), Below w.heap.size w W → KindIn (fun b => b < W.heap.size) W n a a0 a1 a2 → KindIn (fun b => b < W.heap.size) W m b b0 b1 b2 → Calls Tryz.prog 7 #[.agg #[a0, a1, a2], .agg #[b0, b1, b2]] W (JPost r ok W)) := by
    refine ⟨_, jnA n a m b, jnB n a m b, ?_, ?_⟩
    · intro W a0 a1 a2 b0 b1 b2 h1 h2
      exact (specKJoin_any n m _ a b _ _ _ _ _ _ W h1 h2 (fun _ h => h)).mono fun e w' h => sjpost_of h
    · intro W a0 a1 a2 b0 b1 b2 hW h1 h2
      exact (implKJoin_any n m _ a b _ _ _ _ _ _ W h1 h2 (fun _ h => h) (hg.step hW)).mono fun e w' h => jpost_of h
  have HSp := Lib.hid hSp0
  have HIm := Lib.hid hIm0
  clear hSp0 hIm0
  obtain ⟨W0, hW0⟩ : ∃ W0, W0 = (w.alloc (.cells #[.int .i64 x0, .slice xxa xxl xxc, .slice xya xyl xyc] 36)).alloc (.cells #[.int .i64 z0, .slice zxa zxl zxc, .slice zya zyl zyc] 36) := ⟨_, rfl⟩
  have hb0 : Below w.heap.size w W0 := by rw [hW0]; exact ((Below.refl _ _).alloc (Nat.le_refl _) _).alloc (by simp) _
  have hz0 : W0.heap.size = w.heap.size + 2 := by rw [hW0]; simp
  have c0 : W0.heap[w.heap.size]? = (w.alloc (.cells #[.int .i64 x0, .slice xxa xxl xxc, .slice xya xyl xyc] 36)).heap[w.heap.size]? := by
    rw [hW0, Below.heap_alloc _ _ _ (by simp)]
  have x2 : Box3 W0 (w.heap.size + 1) (.int .i64 z0) (.slice zxa zxl zxc) (.slice zya zyl zyc) := by
    have hx := Box3.new (w.alloc (.cells #[.int .i64 x0, .slice xxa xxl xxc, .slice xya xyl xyc] 36)) (.int .i64 z0) (.slice zxa zxl zxc) (.slice zya zyl zyc) 36
    rw [show ((w.alloc (.cells #[.int .i64 x0, .slice xxa xxl xxc, .slice xya xyl xyc] 36))).heap.size = w.heap.size + 1 by simp] at hx
    rw [hW0]; exact hx
  have a0 : ArgJ S a b (.int .i64 x0) (.slice xxa xxl xxc) (.slice xya xyl xyc) (.int .i64 z0) (.slice zxa zxl zxc) (.slice zya zyl zyc) w W0 := ⟨hb0, (Box3.new w (.int .i64 x0) (.slice xxa xxl xxc) (.slice xya xyl xyc) 36).eqj c0, x2, ha.keep (same_below hb0 hB) (fun _ h => h), hb.keep (same_below hb0 hB) (fun _ h => h), hB, by omega⟩
  have HA0 : Hid (ArgJ S a b (.int .i64 x0) (.slice xxa xxl xxc) (.slice xya xyl xyc) (.int .i64 z0) (.slice zxa zxl zxc) (.slice zya zyl zyc) w W0) := a0
  have HC1 : Hid (Calls Tryz.prog 12 #[.agg #[.int .i64 x0, .slice xxa xxl xxc, .slice xya xyl xyc], .int .i64 1048576] W0 _) := szKind_any n S a _ _ _ 1048576 W0 a0.argA a0.ltu (by omega) (by omega)
  obtain ⟨⟨i0, i1, i2⟩, j0, j1, j2⟩ := a0.cells
  rw [hW0] at i0 i1 i2 j0 j1 j2
  clear ha hb hB hg hb0 a0 x2 c0 hz0
  go_enter Tryz.func4, Tryz.ntmps4
  go_wp2_with fail
  rw [← hW0]
  clear hW0
  refine HC1.out.mono ?_
  rintro e w1 ⟨rfl, hb1⟩
  have HA1 : Hid (ArgJ S a b (.int .i64 x0) (.slice xxa xxl xxc) (.slice xya xyl xyc) (.int .i64 z0) (.slice zxa zxl zxc) (.slice zya zyl zyc) w w1) := HA0.out.keep hb1
  clear HC1 HA0 hb1 i0 i1 i2 j0 j1 j2
  obtain ⟨⟨i0, i1, i2⟩, j0, j1, j2⟩ := HA1.out.cells
  by_cases hsz : szK n a ≤ 1048576
  case neg =>
    have hneg : leftB (szK n a) 1048576 < 0 := by unfold leftB; rw [if_neg (by omega)]; omega
    go_wp2_with fail
    go_ret
    exact ⟨rfl, HA1.out.below⟩
  have hpos : leftB (szK n a) 1048576 = 1048576 - szK n a := by unfold leftB; rw [if_pos (by omega)]
  rw [hpos]
  clear hpos
  generalize hlf : (1048576 : Int) - szK n a = lf
  have hlf0 : 0 ≤ lf := by omega
  have hlf1 : lf ≤ 1048576 := by omega
  clear hlf
  have HC2 : Hid (Calls Tryz.prog 12 #[.agg #[.int .i64 z0, .slice zxa zxl zxc, .slice zya zyl zyc], .int .i64 lf] w1 _) := szKind_any m S b _ _ _ lf w1 HA1.out.argB HA1.out.ltu (by omega) hlf1
  go_wp2_with fail
  refine HC2.out.mono ?_
  rintro e w2 ⟨rfl, hb2⟩
  have HA2 : Hid (ArgJ S a b (.int .i64 x0) (.slice xxa xxl xxc) (.slice xya xyl xyc) (.int .i64 z0) (.slice zxa zxl zxc) (.slice zya zyl zyc) w w2) := HA1.out.keep hb2
  clear HC2 HA1 hb2 i0 i1 i2 j0 j1 j2
  obtain ⟨⟨i0, i1, i2⟩, j0, j1, j2⟩ := HA2.out.cells
  by_cases hszb : szK m b ≤ 1048576 ∧ (szK m b : Int) ≤ lf
  case neg =>
    have hneg : leftB (szK m b) lf < 0 := by unfold leftB; rw [if_neg (by omega)]; omega
    go_wp2_with fail
    go_ret
    exact ⟨rfl, HA2.out.below⟩
  have hpos : ¬ leftB (szK m b) lf < 0 := by unfold leftB; rw [if_pos (by omega)]; omega
  have HSZ : Hid (szK n a ≤ 1048576 ∧ szK m b ≤ 1048576) := ⟨hsz, hszb.1⟩
  clear hsz hszb hlf0 hlf1
  have HA : Hid (ArgJ S a b (.int .i64 x0) (.slice xxa xxl xxc) (.slice xya xyl xyc) (.int .i64 z0) (.slice zxa zxl zxc) (.slice zya zyl zyc) w w2) := HA2.out
  clear HA2
  have HCa : Hid (∀ (W : World), Below w2.heap.size w2 W → Calls Tryz.prog 13 #[.agg #[.int .i64 x0, .slice xxa xxl xxc, .slice xya xyl xyc]] W fun e w' => ∃ g0 g1 g2, e = .returned (.agg #[g0, g1, g2]) ∧ KindIn (fun b => b < w'.heap.size) w' n a g0 g1 g2 ∧ (Below w2.heap.size w2 w' ∧ ∀ N, NewJ W N → NewJ w' N)) := by
    intro W hW
    have h := HA.out.keep hW
    refine (toKind_any n S a _ _ _ W h.argA h.ltu HSZ.out.1).mono ?_
    rintro e w' ⟨g0, g1, g2, rfl, hg, hbg⟩
    exact ⟨g0, g1, g2, rfl, hg.keep (fun _ _ => rfl) (fun b hb => hb.2), below_step hW hW.size hbg, fun N q => q.keep hbg⟩
  have HCb : Hid (∀ (W : World) (g0 g1 g2 : Value), Below w2.heap.size w2 W → KindIn (fun b => b < W.heap.size) W n a g0 g1 g2 → Calls Tryz.prog 13 #[.agg #[.int .i64 z0, .slice zxa zxl zxc, .slice zya zyl zyc]] W fun e w' => ∃ h0 h1 h2, e = .returned (.agg #[h0, h1, h2]) ∧ (KindIn (fun b => b < w'.heap.size) w' n a g0 g1 g2 ∧ KindIn (fun b => b < w'.heap.size) w' m b h0 h1 h2) ∧ (Below w2.heap.size w2 w' ∧ ∀ N, NewJ W N → NewJ w' N)) := by
    intro W g0 g1 g2 hW hg
    have h := HA.out.keep hW
    refine (toKind_any m S b _ _ _ W h.argB h.ltu HSZ.out.2).mono ?_
    rintro e w' ⟨h0, h1, h2, rfl, hh, hbh⟩
    exact ⟨h0, h1, h2, rfl, ⟨hg.keep (same_below hbh (fun b hb => hb)) (fun b hb => Nat.lt_of_lt_of_le hb hbh.size), hh.keep (fun _ _ => rfl) (fun b hb => hb.2)⟩, below_step hW hW.size hbh, fun N q => q.keep hbh⟩
  have HS : Hid (∀ W, Below w2.heap.size w2 W → CellsJ w.heap.size (w.heap.size + 1) (.int .i64 x0) (.slice xxa xxl xxc) (.slice xya xyl xyc) (.int .i64 z0) (.slice zxa zxl zxc) (.slice zya zyl zyc) W) := fun W hW => (HA.out.keep hW).cells
  have hs0 := HA.out.size
  have hd0 : Below w2.heap.size w2 w2.drew := (Below.refl _ _).drew
  have n0 : ¬ w2.heap.size = w.heap.size := by omega
  have n1 : ¬ w2.heap.size = w.heap.size + 1 := by omega
  have HCs : Hid (∀ (W : World) (g0 g1 g2 h0 h1 h2 : Value), Below w2.heap.size w2 W → KindIn (fun b => b < W.heap.size) W n a g0 g1 g2 → KindIn (fun b => b < W.heap.size) W m b h0 h1 h2 → Calls Tryz.prog 6 #[.agg #[g0, g1, g2], .agg #[h0, h1, h2]] W fun e w' => ∃ d0 d1 d2, e = .returned (.tuple #[.agg #[d0, d1, d2], .bool ok]) ∧ KindIn (fun b => W.heap.size ≤ b ∧ b < w'.heap.size) w' M r d0 d1 d2 ∧ (w2.heap.size ≤ W.heap.size ∧ Below w2.heap.size w2 w') ∧ ∀ N, NewJ W N → NewJ w' N ∧ N < W.heap.size) := by
    intro W g0 g1 g2 h0 h1 h2 hW q1 q2
    refine (HSp.out W _ _ _ _ _ _  q1 q2).mono ?_
    rintro e w' ⟨hb', d0, d1, d2, rfl, hd⟩
    exact ⟨d0, d1, d2, rfl, hd, ⟨hW.size, below_step hW hW.size hb'⟩, fun N q => ⟨q.keep hb', q.lt⟩⟩
  clear HSp
  go_upto_region 8 with fail
  go_cut [6, 7] from 17 to 119 (fun pv ov wx => ov = .bool ok ∧ ∃ A d0 d1 d2, pv = .pointer (some ⟨A, 0, none⟩) ∧ AnsJ r w2.heap.size wx.heap.size A d0 d1 d2 wx ∧ Below w2.heap.size w2 wx)
  case first =>
    go_region_held (fun w' => (w'.cell? ⟨w.heap.size, 0, none⟩ = some (.int .i64 x0) ∧ w'.cell? ⟨w.heap.size, 1, none⟩ = some (.slice xxa xxl xxc) ∧ w'.cell? ⟨w.heap.size, 2, none⟩ = some (.slice xya xyl xyc)) ∧ w'.cell? ⟨w.heap.size + 1, 0, none⟩ = some (.int .i64 z0) ∧ w'.cell? ⟨w.heap.size + 1, 1, none⟩ = some (.slice zxa zxl zxc) ∧ w'.cell? ⟨w.heap.size + 1, 2, none⟩ = some (.slice zya zyl zyc)) (first | with_reducible assumption | go_keep) (first
      | (go_at_call_of 13 (Value.agg #[.int .i64 x0, .slice xxa xxl xxc, .slice xya xyl xyc]); refine (HCa.out _ ?_).mono ?_; (first | with_reducible assumption | (with_reducible refine below_alloc ?_ _; with_reducible assumption) | (with_reducible refine below_allocD ?_ _; with_reducible assumption)); rintro e y1 ⟨g0, g1, g2, rfl, hg1, hy1, hq1⟩; obtain ⟨⟨ia0, ia1, ia2⟩, ja0, ja1, ja2⟩ := HS.out y1 hy1; have hz1 := hy1.size; have p1a : ¬ y1.heap.size = w.heap.size := (by omega); have p1b : ¬ y1.heap.size = w.heap.size + 1 := (by omega); (first | with_reducible (have q := hq1 _ (newJ_at _)) | with_reducible (have q := hq1 _ (newJ_atD _)) | with_reducible (have q := hq1 _ q) | skip))
      | (go_at_call_of 13 (Value.agg #[.int .i64 z0, .slice zxa zxl zxc, .slice zya zyl zyc]); refine (HCb.out _ _ _ _ (by (first | with_reducible assumption | (with_reducible refine below_alloc ?_ _; with_reducible assumption) | (with_reducible refine below_allocD ?_ _; with_reducible assumption))) (by (first | with_reducible assumption | (with_reducible apply ltJ_alloc; with_reducible assumption)))).mono ?_; rintro e y2 ⟨h0, h1, h2, rfl, ⟨hg2, hh2⟩, hy2, hq2⟩; obtain ⟨⟨ib0, ib1, ib2⟩, jb0, jb1, jb2⟩ := HS.out y2 hy2; have hz2 := hy2.size; have p2a : ¬ y2.heap.size = w.heap.size := (by omega); have p2b : ¬ y2.heap.size = w.heap.size + 1 := (by omega); (first | with_reducible (have q := hq2 _ (newJ_at _)) | with_reducible (have q := hq2 _ (newJ_atD _)) | with_reducible (have q := hq2 _ q) | skip))
      | (go_at_call 6; refine (HCs.out _ _ _ _ _ _ _ (by (first | with_reducible assumption | (with_reducible refine below_alloc ?_ _; with_reducible assumption) | (with_reducible refine below_allocD ?_ _; with_reducible assumption))) (by (first | with_reducible assumption | (with_reducible apply ltJ_alloc; with_reducible assumption))) (by (first | with_reducible assumption | (with_reducible apply ltJ_alloc; with_reducible assumption)))).mono ?_; rintro e y4 ⟨d0, d1, d2, rfl, hd4, ⟨hW4, hy4⟩, hq4⟩; obtain ⟨v0, vxa, vxl, vxc, vya, vyl, vyc, rfl, rfl, rfl⟩ := hd4.shape; obtain ⟨⟨id0, id1, id2⟩, jd0, jd1, jd2⟩ := HS.out y4 hy4; have hz4 := hy4.size; have p4a : ¬ y4.heap.size = w.heap.size := (by omega); have p4b : ¬ y4.heap.size = w.heap.size + 1 := (by omega); (first | with_reducible (have q := hq4 _ (newJ_at _)) | with_reducible (have q := hq4 _ (newJ_atD _)) | with_reducible (have q := hq4 _ q) | skip); (first | (obtain ⟨q, hN⟩ := q; obtain ⟨⟨r0, r1, r2⟩, f0, f1, f2⟩ := j3_cells q) | skip)))
    all_goals
      go_wp2_with fail
      go_meet
      first
        | with_reducible exact ⟨rfl, _, _, _, _, rfl, ansj_set q hd4 (by omega) (by omega), j3_below hy4 (by omega)⟩
        | with_reducible exact ⟨rfl, _, _, _, _, rfl, ansj_new hd4 (by omega) (by omega), below_alloc hy4 _⟩
  case rest =>
    obtain ⟨rfl, A, d0, d1, d2, rfl, hd, hbc⟩ := hcut
    obtain ⟨W4, rfl⟩ : ∃ x, x = wc := ⟨_, rfl⟩
    obtain ⟨s0, sxa, sxl, sxc, sya, syl, syc, rfl, rfl, rfl⟩ := hd.kind.shape
    clear HCa HCb HCs HS i0 i1 i2 j0 j1 j2 hpos n0 n1 hd0
    have HN4 : Hid (AnsJ r w2.heap.size W4.heap.size A (.int .i64 s0) (.slice sxa sxl sxc) (.slice sya syl syc) W4) := hd
    have HA4 : Hid (ArgJ S a b (.int .i64 x0) (.slice xxa xxl xxc) (.slice xya xyl xyc) (.int .i64 z0) (.slice zxa zxl zxc) (.slice zya zyl zyc) w W4) := HA.out.keep hbc
    have hsz4 := hbc.size
    have hA1 := hd.ca
    have hA2 := hd.ad
    obtain ⟨⟨i0, i1, i2⟩, j0, j1, j2⟩ := HA4.out.cells
    have HT4 : Hid (Calls Tryz.prog 13 #[.agg #[.int .i64 x0, .slice xxa xxl xxc, .slice xya xyl xyc]] W4 _) := toKindW_any n S a _ _ _ W4 HA4.out.argA HA4.out.ltu HSZ.out.1
    clear hd hbc HA
    go_wp2_with fail
    refine HT4.out.mono ?_
    rintro e wx ⟨y0, y1, y2, rfl, hin, hbx, hth⟩
    obtain ⟨fa0, fxa, fxl, fxc, fya, fyl, fyc, rfl, rfl, rfl⟩ := hin.shape
    have hzx := hbx.size
    obtain ⟨W5, hW5⟩ : ∃ W5, W5 = wx.alloc (.cells #[.int .i64 fa0, .slice fxa fxl fxc, .slice fya fyl fyc] 26) := ⟨_, rfl⟩
    have hal : Below wx.heap.size wx W5 := by rw [hW5]; exact (Below.refl _ _).alloc (Nat.le_refl _) _
    have hz5 : W5.heap.size = wx.heap.size + 1 := by rw [hW5]; simp
    have hx5 : Box3 W5 wx.heap.size (.int .i64 fa0) (.slice fxa fxl fxc) (.slice fya fyl fyc) := by rw [hW5]; exact Box3.new wx _ _ _ 26
    have hth5 : Thaw W4.heap.size W5 := by rw [hW5]; exact hth.alloc _ _
    have H5 : Hid (Box3 W5 wx.heap.size (.int .i64 fa0) (.slice fxa fxl fxc) (.slice fya fyl fyc) ∧ KindIn (fun b => W4.heap.size ≤ b ∧ b < wx.heap.size) W5 n a (.int .i64 fa0) (.slice fxa fxl fxc) (.slice fya fyl fyc) ∧ Thaw W4.heap.size W5) := ⟨hx5, hin.keep (fun b hb => hal.block b hb.2) (fun _ h => h), hth5⟩
    have hb45 : Below W4.heap.size W4 W5 := below_step hbx hbx.size hal
    have HA5 : Hid (ArgJ S a b (.int .i64 x0) (.slice xxa xxl xxc) (.slice xya xyl xyc) (.int .i64 z0) (.slice zxa zxl zxc) (.slice zya zyl zyc) w W5) := HA4.out.keep hb45
    have HN5 : Hid (AnsJ r w2.heap.size W4.heap.size A (.int .i64 s0) (.slice sxa sxl sxc) (.slice sya syl syc) W5) := HN4.out.keep hb45
    clear HA4 HN4 HT4 i0 i1 i2 j0 j1 j2
    obtain ⟨⟨i0, i1, i2⟩, j0, j1, j2⟩ := HA5.out.cells
    have HT5 : Hid (Calls Tryz.prog 13 #[.agg #[.int .i64 z0, .slice zxa zxl zxc, .slice zya zyl zyc]] W5 _) := toKindW_any m S b _ _ _ W5 HA5.out.argB HA5.out.ltu HSZ.out.2
    rw [hW5] at i0 i1 i2 j0 j1 j2
    clear hin hbx hth hal hx5 hth5 hb45
    go_wp2_with fail
    rw [← hW5]
    clear hW5
    refine HT5.out.mono ?_
    rintro e wy ⟨y0, y1, y2, rfl, hin, hbx, hth⟩
    obtain ⟨fb0, gxa, gxl, gxc, gya, gyl, gyc, rfl, rfl, rfl⟩ := hin.shape
    have hzy := hbx.size
    obtain ⟨W6, hW6⟩ : ∃ W6, W6 = wy.alloc (.cells #[.int .i64 fb0, .slice gxa gxl gxc, .slice gya gyl gyc] 26) := ⟨_, rfl⟩
    have hal : Below wy.heap.size wy W6 := by rw [hW6]; exact (Below.refl _ _).alloc (Nat.le_refl _) _
    have hz6 : W6.heap.size = wy.heap.size + 1 := by rw [hW6]; simp
    have hx6 : Box3 W6 wy.heap.size (.int .i64 fb0) (.slice gxa gxl gxc) (.slice gya gyl gyc) := by rw [hW6]; exact Box3.new wy _ _ _ 26
    have hb56 : Below W5.heap.size W5 W6 := below_step hbx hbx.size hal
    have hth6 : Thaw W4.heap.size W6 := by
      rw [hW6]; exact (H5.out.2.2.step hbx hth (by omega)).alloc _ _
    have hc6 : CopJ a b W4.heap.size wx.heap.size wy.heap.size (.int .i64 fa0) (.slice fxa fxl fxc) (.slice fya fyl fyc) (.int .i64 fb0) (.slice gxa gxl gxc) (.slice gya gyl gyc) W6 :=
      ⟨H5.out.1.keep hb56, hx6, H5.out.2.1.keep (fun b hb => hb56.block b (by omega)) (fun _ h => h), hin.keep (fun b hb => hal.block b hb.2) (fun b hb => ⟨by omega, hb.2⟩), fun b o h1 h2 => hth6 b o h1 (by omega), by omega, by omega, by omega⟩
    have HC6 : Hid (CopJ a b W4.heap.size wx.heap.size wy.heap.size (.int .i64 fa0) (.slice fxa fxl fxc) (.slice fya fyl fyc) (.int .i64 fb0) (.slice gxa gxl gxc) (.slice gya gyl gyc) W6) := hc6
    have HA6 : Hid (ArgJ S a b (.int .i64 x0) (.slice xxa xxl xxc) (.slice xya xyl xyc) (.int .i64 z0) (.slice zxa zxl zxc) (.slice zya zyl zyc) w W6) := HA5.out.keep hb56
    have HN6 : Hid (AnsJ r w2.heap.size W4.heap.size A (.int .i64 s0) (.slice sxa sxl sxc) (.slice sya syl syc) W6) := HN5.out.keep hb56
    clear HA5 HN5 HT5 H5 i0 i1 i2 j0 j1 j2
    have HI : Hid (Calls Tryz.prog 7 #[.agg #[.int .i64 fa0, .slice fxa fxl fxc, .slice fya fyl fyc], .agg #[.int .i64 fb0, .slice gxa gxl gxc, .slice gya gyl gyc]] W6 _) := HIm.out W6 _ _ _ _ _ _ HA6.out.below (hc6.inA.keep (fun _ _ => rfl) (fun b hb => by omega)) (hc6.inB.keep (fun _ _ => rfl) (fun b hb => by omega))
    obtain ⟨⟨i0, i1, i2⟩, j0, j1, j2⟩ := hc6.cells
    rw [hW6] at i0 i1 i2 j0 j1 j2
    clear hin hbx hth hal hx6 hth6 hb56 hc6
    go_wp2_with fail
    rw [← hW6]
    clear hW6
    refine HI.out.mono ?_
    rintro e w8 ⟨hb8, y0, y1, y2, L3, L4, rfl, hG, hN, hR, hO, hL⟩
    obtain ⟨ua0, uxa, uxl, uxc, uya, uyl, uyc, rfl, rfl, rfl⟩ := hG.shape
    have hz8 := hb8.size
    obtain ⟨W9, hW9⟩ : ∃ W9, W9 = w8.alloc (.cells #[.int .i64 ua0, .slice uxa uxl uxc, .slice uya uyl uyc] 26) := ⟨_, rfl⟩
    have hal : Below w8.heap.size w8 W9 := by rw [hW9]; exact (Below.refl _ _).alloc (Nat.le_refl _) _
    have hz9 : W9.heap.size = w8.heap.size + 1 := by rw [hW9]; simp
    have hx9 : Box3 W9 w8.heap.size (.int .i64 ua0) (.slice uxa uxl uxc) (.slice uya uyl uyc) := by rw [hW9]; exact Box3.new w8 _ _ _ 26
    have hb79 : Below W6.heap.size W6 W9 := below_step hb8 hb8.size hal
    have hgt : GotJ2 M W6.heap.size w8.heap.size L3 L4 (.slice uxa uxl uxc) (.slice uya uyl uyc) W9 := ⟨hN.below hal, hR.below hal, hO, hL⟩
    have hga : AnsJ r W6.heap.size W9.heap.size w8.heap.size (.int .i64 ua0) (.slice uxa uxl uxc) (.slice uya uyl uyc) W9 := ⟨hx9, hG.keep (fun b hb => hal.block b hb.2) (fun b hb => ⟨hb.1, by omega⟩), by omega, by omega, Nat.le_refl _⟩
    have HA9 : Hid (ArgJ S a b (.int .i64 x0) (.slice xxa xxl xxc) (.slice xya xyl xyc) (.int .i64 z0) (.slice zxa zxl zxc) (.slice zya zyl zyc) w W9) := HA6.out.keep hb79
    have HN9 : Hid (AnsJ r w2.heap.size W4.heap.size A (.int .i64 s0) (.slice sxa sxl sxc) (.slice sya syl syc) W9) := HN6.out.keep hb79
    have HC9 : Hid (CopJ a b W4.heap.size wx.heap.size wy.heap.size (.int .i64 fa0) (.slice fxa fxl fxc) (.slice fya fyl fyc) (.int .i64 fb0) (.slice gxa gxl gxc) (.slice gya gyl gyc) W9) := HC6.out.keep hb79
    have HG9 : Hid (AnsJ r W6.heap.size W9.heap.size w8.heap.size (.int .i64 ua0) (.slice uxa uxl uxc) (.slice uya uyl uyc) W9) := hga
    have HO9 : Hid (GotJ2 M W6.heap.size w8.heap.size L3 L4 (.slice uxa uxl uxc) (.slice uya uyl uyc) W9) := hgt
    have hzA := HN6.out.lt
    have hzA' := HA9.out.size
    have HE9 : Hid (Calls Tryz.prog 14 #[.agg #[.int .i64 ua0, .slice uxa uxl uxc, .slice uya uyl uyc], .agg #[.int .i64 s0, .slice sxa sxl sxc, .slice sya syl syc]] W9 _) := eqKind_same M _ _ r _ _ _ _ _ _ W9 hga.kind HN9.out.kind (fun b hb => by omega) (fun b hb => by omega)
    clear HA6 HN6 HC6 HI i0 i1 i2 j0 j1 j2
    obtain ⟨m0, m1, m2⟩ := id HN9.out.box
    obtain ⟨b0, b1, b2⟩ := id hx9
    rw [hW9] at m0 m1 m2 b0 b1 b2
    have hne : (ok != ok) = false := by simp
    clear hb8 hG hN hR hO hL hal hx9 hb79 hgt hga
    go_wp2_with fail
    rw [← hW9]
    clear hW9
    refine HE9.out.mono ?_
    rintro e u1 ⟨rfl, hb1⟩
    clear HE9 m0 m1 m2 b0 b1 b2
    have HKb : Hid (∀ W, Below u1.heap.size u1 W → Below W9.heap.size W9 W) := fun W hW => below_step hb1 hb1.size hW
    have hdb : Below u1.heap.size u1 u1.drew := (Below.refl _ _).drew
    have HD1 : Hid (Calls Tryz.prog 13 #[.agg #[.int .i64 x0, .slice xxa xxl xxc, .slice xya xyl xyc]] u1.drew fun e w' => ∃ g0 g1 g2, e = .returned (.agg #[g0, g1, g2]) ∧ KindIn (fun b => b < w'.heap.size) w' n a g0 g1 g2 ∧ Below u1.heap.size u1 w') := by
      have h := HA9.out.keep (HKb.out _ hdb)
      refine (toKind_any n S a _ _ _ u1.drew h.argA h.ltu HSZ.out.1).mono ?_
      rintro e w' ⟨g0, g1, g2, rfl, hg, hbg⟩
      exact ⟨g0, g1, g2, rfl, hg.keep (fun _ _ => rfl) (fun b hb => hb.2), hdb.trans hbg⟩
    have HD2 : Hid (∀ (W : World) (g0 g1 g2 : Value), KindIn (fun b => b < W.heap.size) W n a g0 g1 g2 → Below u1.heap.size u1 W → Calls Tryz.prog 14 #[.agg #[.int .i64 fa0, .slice fxa fxl fxc, .slice fya fyl fyc], .agg #[g0, g1, g2]] W fun e w' => e = .returned (.bool true) ∧ Below u1.heap.size u1 w') := by
      intro W g0 g1 g2 hg hW
      have h := HC9.out.keep (HKb.out W hW)
      have h0 := h.c0
      have h1 := h.x01
      have h3 := h.xu
      refine (eqKind_same n _ _ a _ _ _ _ _ _ W h.inA hg (fun b hb => by omega) (fun b hb => hb)).mono ?_
      rintro e w' ⟨rfl, hb'⟩
      exact ⟨rfl, below_step hW hW.size hb'⟩
    have HS1 : Hid (∀ W, Below u1.heap.size u1 W → (W.cell? ⟨wx.heap.size, 0, none⟩ = some (.int .i64 fa0) ∧ W.cell? ⟨wx.heap.size, 1, none⟩ = some (.slice fxa fxl fxc) ∧ W.cell? ⟨wx.heap.size, 2, none⟩ = some (.slice fya fyl fyc)) ∧ W.cell? ⟨w.heap.size, 0, none⟩ = some (.int .i64 x0) ∧ W.cell? ⟨w.heap.size, 1, none⟩ = some (.slice xxa xxl xxc) ∧ W.cell? ⟨w.heap.size, 2, none⟩ = some (.slice xya xyl xyc)) := fun W hW => by
      have h := HC9.out.keep (HKb.out W hW)
      have h' := HA9.out.keep (HKb.out W hW)
      exact ⟨⟨h.boxA.c0, h.boxA.c1, h.boxA.c2⟩, h'.boxA.c0, h'.boxA.c1, h'.boxA.c2⟩
    obtain ⟨⟨i0, i1, i2⟩, j0, j1, j2⟩ := HS1.out u1 (Below.refl _ _)
    clear hdb hb1
    go_upto_region 14 with fail
    go_cut [58] from 17 to 119 (fun v wx => v = .bool false ∧ Below u1.heap.size u1 wx)
    case first =>
      go_region_held (fun w' => (w'.cell? ⟨wx.heap.size, 0, none⟩ = some (.int .i64 fa0) ∧ w'.cell? ⟨wx.heap.size, 1, none⟩ = some (.slice fxa fxl fxc) ∧ w'.cell? ⟨wx.heap.size, 2, none⟩ = some (.slice fya fyl fyc)) ∧ w'.cell? ⟨w.heap.size, 0, none⟩ = some (.int .i64 x0) ∧ w'.cell? ⟨w.heap.size, 1, none⟩ = some (.slice xxa xxl xxc) ∧ w'.cell? ⟨w.heap.size, 2, none⟩ = some (.slice xya xyl xyc)) (first | with_reducible assumption | go_keep) (first
        | (go_at_call 13; refine HD1.out.mono ?_; rintro e y1 ⟨g0, g1, g2, rfl, hg1, hy1⟩; obtain ⟨⟨ia0, ia1, ia2⟩, ja0, ja1, ja2⟩ := HS1.out y1 hy1)
        | (go_at_call 14; refine (HD2.out _ _ _ _ (by with_reducible assumption) (by with_reducible assumption)).mono ?_; rintro e y2 ⟨rfl, hy2⟩; obtain ⟨⟨la0, la1, la2⟩, lb0, lb1, lb2⟩ := HS1.out y2 hy2))
      all_goals
        go_wp2_with fail
        go_meet
        exact ⟨rfl, hy2⟩
    case rest =>
      obtain ⟨rfl, hbb⟩ := hcut
      obtain ⟨u2, rfl⟩ : ∃ x, x = wc := ⟨_, rfl⟩
      have hbu2 : Below W9.heap.size W9 u2 := HKb.out _ hbb
      clear hbb HKb HD1 HD2 HS1 i0 i1 i2 j0 j1 j2
      have HKb : Hid (∀ W, Below u2.heap.size u2 W → Below W9.heap.size W9 W) := fun W hW => below_step hbu2 hbu2.size hW
      have hdb : Below u2.heap.size u2 u2.drew := (Below.refl _ _).drew
      have HD1 : Hid (Calls Tryz.prog 13 #[.agg #[.int .i64 z0, .slice zxa zxl zxc, .slice zya zyl zyc]] u2.drew fun e w' => ∃ g0 g1 g2, e = .returned (.agg #[g0, g1, g2]) ∧ KindIn (fun b => b < w'.heap.size) w' m b g0 g1 g2 ∧ Below u2.heap.size u2 w') := by
        have h := HA9.out.keep (HKb.out _ hdb)
        refine (toKind_any m S b _ _ _ u2.drew h.argB h.ltu HSZ.out.2).mono ?_
        rintro e w' ⟨g0, g1, g2, rfl, hg, hbg⟩
        exact ⟨g0, g1, g2, rfl, hg.keep (fun _ _ => rfl) (fun b hb => hb.2), hdb.trans hbg⟩
      have HD2 : Hid (∀ (W : World) (g0 g1 g2 : Value), KindIn (fun b => b < W.heap.size) W m b g0 g1 g2 → Below u2.heap.size u2 W → Calls Tryz.prog 14 #[.agg #[.int .i64 fb0, .slice gxa gxl gxc, .slice gya gyl gyc], .agg #[g0, g1, g2]] W fun e w' => e = .returned (.bool true) ∧ Below u2.heap.size u2 w') := by
        intro W g0 g1 g2 hg hW
        have h := HC9.out.keep (HKb.out W hW)
        have h0 := h.c0
        have h1 := h.x01
        have h3 := h.xu
        refine (eqKind_same m _ _ b _ _ _ _ _ _ W h.inB hg (fun b hb => by omega) (fun b hb => hb)).mono ?_
        rintro e w' ⟨rfl, hb'⟩
        exact ⟨rfl, below_step hW hW.size hb'⟩
      have HS1 : Hid (∀ W, Below u2.heap.size u2 W → (W.cell? ⟨wy.heap.size, 0, none⟩ = some (.int .i64 fb0) ∧ W.cell? ⟨wy.heap.size, 1, none⟩ = some (.slice gxa gxl gxc) ∧ W.cell? ⟨wy.heap.size, 2, none⟩ = some (.slice gya gyl gyc)) ∧ W.cell? ⟨w.heap.size + 1, 0, none⟩ = some (.int .i64 z0) ∧ W.cell? ⟨w.heap.size + 1, 1, none⟩ = some (.slice zxa zxl zxc) ∧ W.cell? ⟨w.heap.size + 1, 2, none⟩ = some (.slice zya zyl zyc)) := fun W hW => by
        have h := HC9.out.keep (HKb.out W hW)
        have h' := HA9.out.keep (HKb.out W hW)
        exact ⟨⟨h.boxB.c0, h.boxB.c1, h.boxB.c2⟩, h'.boxB.c0, h'.boxB.c1, h'.boxB.c2⟩
      obtain ⟨⟨i0, i1, i2⟩, j0, j1, j2⟩ := HS1.out u2 (Below.refl _ _)
      clear hdb hbu2
      go_upto_region 16 with fail
      go_cut [63] from 17 to 119 (fun v wx => v = .bool false ∧ Below u2.heap.size u2 wx)
      case first =>
        go_region_held (fun w' => (w'.cell? ⟨wy.heap.size, 0, none⟩ = some (.int .i64 fb0) ∧ w'.cell? ⟨wy.heap.size, 1, none⟩ = some (.slice gxa gxl gxc) ∧ w'.cell? ⟨wy.heap.size, 2, none⟩ = some (.slice gya gyl gyc)) ∧ w'.cell? ⟨w.heap.size + 1, 0, none⟩ = some (.int .i64 z0) ∧ w'.cell? ⟨w.heap.size + 1, 1, none⟩ = some (.slice zxa zxl zxc) ∧ w'.cell? ⟨w.heap.size + 1, 2, none⟩ = some (.slice zya zyl zyc)) (first | with_reducible assumption | go_keep) (first
          | (go_at_call 13; refine HD1.out.mono ?_; rintro e y1 ⟨g0, g1, g2, rfl, hg1, hy1⟩; obtain ⟨⟨ia0, ia1, ia2⟩, ja0, ja1, ja2⟩ := HS1.out y1 hy1)
          | (go_at_call 14; refine (HD2.out _ _ _ _ (by with_reducible assumption) (by with_reducible assumption)).mono ?_; rintro e y2 ⟨rfl, hy2⟩; obtain ⟨⟨la0, la1, la2⟩, lb0, lb1, lb2⟩ := HS1.out y2 hy2))
        all_goals
          go_wp2_with fail
          go_meet
          exact ⟨rfl, hy2⟩
      case rest =>
        obtain ⟨rfl, hbb⟩ := hcut
        obtain ⟨u3, rfl⟩ : ∃ x, x = wc := ⟨_, rfl⟩
        have hbu3 : Below W9.heap.size W9 u3 := HKb.out _ hbb
        clear hbb HKb HD1 HD2 HS1 i0 i1 i2 j0 j1 j2
        have HBu : Hid (Below W9.heap.size W9 u3) := hbu3
        have HC6 : Hid (CopJ a b W4.heap.size wx.heap.size wy.heap.size (.int .i64 fa0) (.slice fxa fxl fxc) (.slice fya fyl fyc) (.int .i64 fb0) (.slice gxa gxl gxc) (.slice gya gyl gyc) u3) := HC9.out.keep hbu3
        have hzu := hbu3.size
        have c0 := HC6.out.c0
        have c1 := HC6.out.x01
        have c3 := HC6.out.xu
        clear hbu3
        -- marks in the copy of the first schema
        obtain ⟨M3, M4, r1, r2, r3, r4⟩ := kind_spots n a HC6.out.inA (fun b o hb => HC6.out.thaw b o (by omega) (by omega))
        rw [List.length_append] at r4
        have HSz1 : Hid (M3.length + M4.length ≤ szK n a) := r4
        have hsz1 := HSZ.out.1
        have HM1 : Hid (Calls Tryz.prog 15 #[.agg #[.int .i64 fa0, .slice fxa fxl fxc, .slice fya fyl fyc], .int .i64 1] u3 _) := markKind_any (n - 1) fa0 _ _ M3 M4 1 u3 r1 r2 (by omega) (by omega)
        have HMb1 : Hid (∀ s, s ∈ M3 ++ M4 → W4.heap.size ≤ s.b ∧ s.b < wx.heap.size) := r3
        obtain ⟨i0, i1, i2⟩ := id HC6.out.boxA
        generalize hk1 : (1 : Int) + M3.length + M4.length = k1 at HM1
        have hk1a : 1 ≤ k1 := by omega
        have hk1b : k1 ≤ 1048577 := by omega
        clear r1 r2 r3 r4 hk1 HSz1 hsz1
        go_wp2_with fail
        refine HM1.out.mono ?_
        rintro e v1 ⟨rfl, hW1⟩
        have hzv1 := hW1.size
        have hs1' : ∀ b : Nat, wx.heap.size ≤ b → b ≤ wy.heap.size → v1.heap[b]? = u3.heap[b]? := fun b h1 h2 => hW1.other (by omega) (fun s hs e => by have := HMb1.out s hs; omega)
        have HBv1 : Hid (Below w.heap.size w v1) := Wrote.below_of (HA9.out.keep HBu.out).below (by have := (HA9.out.keep HBu.out).size; omega) hW1 (fun s hs => by have := HMb1.out s hs; have := HN9.out.lt; omega)
        have HS1 : Hid (∀ b : Nat, b < u3.heap.size → ¬ (W4.heap.size ≤ b ∧ b < wy.heap.size) → v1.heap[b]? = u3.heap[b]?) := fun b hb hn => hW1.other hb (fun s hs e => hn (by have := HMb1.out s hs; omega))
        clear HM1 HMb1 hW1 i0 i1 i2
        -- marks in the copy of the second schema
        have hinB : KindIn (fun b => wx.heap.size < b ∧ b < wy.heap.size) v1 m b (.int .i64 fb0) (.slice gxa gxl gxc) (.slice gya gyl gyc) := HC6.out.inB.keep (fun b hb => hs1' b (by omega) (by omega)) (fun _ h => h)
        obtain ⟨M3, M4, r1, r2, r3, r4⟩ := kind_spots m b hinB (fun b o hb => (frozen_blockJ (hs1' b (by omega) (by omega)) o).trans (HC6.out.thaw b o (by omega) (by omega)))
        rw [List.length_append] at r4
        have HSz1 : Hid (M3.length + M4.length ≤ szK m b) := r4
        have hsz1 := HSZ.out.2
        have HM1 : Hid (Calls Tryz.prog 15 #[.agg #[.int .i64 fb0, .slice gxa gxl gxc, .slice gya gyl gyc], .int .i64 k1] v1 _) := markKind_any (m - 1) fb0 _ _ M3 M4 k1 v1 r1 r2 (by omega) (by omega)
        have HMb1 : Hid (∀ s, s ∈ M3 ++ M4 → wx.heap.size < s.b ∧ s.b < wy.heap.size) := r3
        obtain ⟨i0, i1, i2⟩ := HC6.out.boxB.eqj (hs1' wy.heap.size (by omega) (by omega))
        generalize hk1 : k1 + M3.length + M4.length = k2 at HM1
        have hk2 : ¬ k2 < 0 := by omega
        clear r1 r2 r3 r4 hk1 HSz1 hsz1 hinB
        go_wp2_with fail
        refine HM1.out.mono ?_
        rintro e v2 ⟨rfl, hW1⟩
        have hzv2 := hW1.size
        have HBv2 : Hid (Below w.heap.size w v2) := Wrote.below_of HBv1.out HBv1.out.size hW1 (fun s hs => by have := HMb1.out s hs; have := HN9.out.lt; have := HA9.out.size; omega)
        have hs3 : ∀ b : Nat, b < W9.heap.size → ¬ (W4.heap.size ≤ b ∧ b < wy.heap.size) → v2.heap[b]? = W9.heap[b]? := fun b hb hn => ((hW1.other (by omega) (fun s hs e => hn (by have := HMb1.out s hs; omega))).trans (HS1.out b (by omega) hn)).trans (HBu.out.block b hb)
        have hA1 := HA9.out.size
        have hN1 := HN9.out.lt
        have HA3 : Hid (ArgJ S a b (.int .i64 x0) (.slice xxa xxl xxc) (.slice xya xyl xyc) (.int .i64 z0) (.slice zxa zxl zxc) (.slice zya zyl zyc) w v2) := HA9.out.step HBv2.out (by omega) (fun b hb => hs3 b (by omega) (by omega))
        have HN3 : Hid (AnsJ r w2.heap.size W4.heap.size A (.int .i64 s0) (.slice sxa sxl sxc) (.slice sya syl syc) v2) := HN9.out.same (by omega) (fun b h1 h2 => hs3 b (by omega) (by omega))
        have HG3 : Hid (AnsJ r W6.heap.size W9.heap.size w8.heap.size (.int .i64 ua0) (.slice uxa uxl uxc) (.slice uya uyl uyc) v2) := HG9.out.same (by omega) (fun b h1 h2 => hs3 b (by omega) (by omega))
        have HO3 : Hid (GotJ2 M W6.heap.size w8.heap.size L3 L4 (.slice uxa uxl uxc) (.slice uya uyl uyc) v2) := HO9.out.same (fun b h1 h2 => hs3 b (by omega) (by omega))
        clear HM1 HMb1 hW1 i0 i1 i2 hs1' HS1 HBv2 hs3 HA9 HN9 HG9 HO9 HC9 HC6 HBu HBv1
        -- the answers once more
        have HE9 : Hid (Calls Tryz.prog 14 #[.agg #[.int .i64 ua0, .slice uxa uxl uxc, .slice uya uyl uyc], .agg #[.int .i64 s0, .slice sxa sxl sxc, .slice sya syl syc]] v2 _) := eqKind_same M _ _ r _ _ _ _ _ _ v2 HG3.out.kind HN3.out.kind (fun b hb => by omega) (fun b hb => by omega)
        obtain ⟨m0, m1, m2⟩ := id HN3.out.box
        obtain ⟨b0, b1, b2⟩ := id HG3.out.box
        go_wp2_with fail
        refine HE9.out.mono ?_
        rintro e v3 ⟨rfl, hbv⟩
        clear HE9 m0 m1 m2 b0 b1 b2
        have hzv4 := hbv.size
        have HA4 : Hid (ArgJ S a b (.int .i64 x0) (.slice xxa xxl xxc) (.slice xya xyl xyc) (.int .i64 z0) (.slice zxa zxl zxc) (.slice zya zyl zyc) w v3) := HA3.out.keep hbv
        have HN4 : Hid (AnsJ r w2.heap.size W4.heap.size A (.int .i64 s0) (.slice sxa sxl sxc) (.slice sya syl syc) v3) := HN3.out.keep hbv
        have HG4 : Hid (AnsJ r W6.heap.size W9.heap.size w8.heap.size (.int .i64 ua0) (.slice uxa uxl uxc) (.slice uya uyl uyc) v3) := HG3.out.keep hbv
        have HO4 : Hid (GotJ2 M W6.heap.size w8.heap.size L3 L4 (.slice uxa uxl uxc) (.slice uya uyl uyc) v3) := HO3.out.same (fun b h1 h2 => hbv.block b (by omega))
        clear hbv HA3 HN3 HG3 HO3
        -- marks in the answer
        have hll := HO4.out.len
        have HM1 : Hid (Calls Tryz.prog 15 #[.agg #[.int .i64 ua0, .slice uxa uxl uxc, .slice uya uyl uyc], .int .i64 1] v3 _) := markKind_any (M - 1) ua0 _ _ L3 L4 1 v3 HO4.out.spn HO4.out.spk (by omega) (by omega)
        obtain ⟨b0, b1, b2⟩ := id HG4.out.box
        go_wp2_with fail
        refine HM1.out.mono ?_
        rintro e v4 ⟨rfl, hW1⟩
        have hzv5 := hW1.size
        have hA1 := HA4.out.size
        have hN1 := HN4.out.lt
        have hs5 : ∀ b : Nat, b < v3.heap.size → ¬ (W6.heap.size ≤ b ∧ b < w8.heap.size) → v4.heap[b]? = v3.heap[b]? := fun b hb hn => hW1.other hb (fun s hs e => hn (by rw [← e]; exact HO4.out.own.1 s hs))
        have HBv5 : Hid (Below w.heap.size w v4) := Wrote.below_of HA4.out.below HA4.out.below.size hW1 (fun s hs => by have := HO4.out.own.1 s hs; omega)
        have HA5 : Hid (ArgJ S a b (.int .i64 x0) (.slice xxa xxl xxc) (.slice xya xyl xyc) (.int .i64 z0) (.slice zxa zxl zxc) (.slice zya zyl zyc) w v4) := HA4.out.step HBv5.out (by omega) (fun b hb => hs5 b (by omega) (by omega))
        have HN5 : Hid (AnsJ r w2.heap.size W4.heap.size A (.int .i64 s0) (.slice sxa sxl sxc) (.slice sya syl syc) v4) := HN4.out.same (by omega) (fun b h1 h2 => hs5 b (by omega) (by omega))
        have hbox5 : Box3 v4 w8.heap.size (.int .i64 ua0) (.slice uxa uxl uxc) (.slice uya uyl uyc) := HG4.out.box.eqj (hs5 _ (by omega) (by omega))
        have hok4 := HO4.out.ok
        have hh5 := hW1.holds hok4 HO4.out.own.2
        have hsim := hW1.sim hok4
        have H5 : Hid ((SpN v4 (.slice uxa uxl uxc) L3 ∧ SpK v4 (M - 1) (.slice uya uyl uyc) L4) ∧ Holds v4 (L3 ++ L4) 1 ∧ (∀ s, s ∈ L3 ++ L4 → s.ok v4) ∧ Box3 v4 w8.heap.size (.int .i64 ua0) (.slice uxa uxl uxc) (.slice uya uyl uyc)) := ⟨⟨HO4.out.spn.sim hsim, HO4.out.spk.sim hsim⟩, hh5, fun s hs => Spot.ok_sim (hok4 s hs) hsim, hbox5⟩
        have HH1 : Hid (Calls Tryz.prog 16 #[.agg #[.int .i64 ua0, .slice uxa uxl uxc, .slice uya uyl uyc], .int .i64 1] v4 _) := heldKind_any (M - 1) ua0 _ _ L3 L4 1 v4 H5.out.1.1 H5.out.1.2 hh5 (by omega) (by omega)
        clear b0 b1 b2 HM1 hW1 hs5 HBv5 HA4 HN4 HG4 HO4 hok4 hh5 hsim
        obtain ⟨b0, b1, b2⟩ := hbox5
        have e13 : ¬ (1 : Int) + (L3.length : Int) + (L4.length : Int) < 0 := by omega
        have ne13 : ((1 : Int) + (L3.length : Int) + (L4.length : Int) != 1 + (L3.length : Int) + (L4.length : Int)) = false := by simp
        go_wp2_with fail
        refine HH1.out.mono ?_
        rintro e v5 ⟨rfl, hbv6⟩
        have hzv6 := hbv6.size
        have HA : Hid (ArgJ S a b (.int .i64 x0) (.slice xxa xxl xxc) (.slice xya xyl xyc) (.int .i64 z0) (.slice zxa zxl zxc) (.slice zya zyl zyc) w v5) := HA5.out.keep hbv6
        have HN6 : Hid (AnsJ r w2.heap.size W4.heap.size A (.int .i64 s0) (.slice sxa sxl sxc) (.slice sya syl syc) v5) := HN5.out.keep hbv6
        have HB6 : Hid (Below v4.heap.size v4 v5) := hbv6
        clear HH1 b0 b1 b2 HA5 HN5 hbv6
        have HCa : Hid (∀ (W : World), Below v5.heap.size v5 W → Calls Tryz.prog 13 #[.agg #[.int .i64 x0, .slice xxa xxl xxc, .slice xya xyl xyc]] W fun e w' => ∃ g0 g1 g2, e = .returned (.agg #[g0, g1, g2]) ∧ KindIn (fun b => b < w'.heap.size) w' n a g0 g1 g2 ∧ (Below v5.heap.size v5 w' ∧ ∀ N, NewJ W N → NewJ w' N)) := by
          intro W hW
          have h := HA.out.keep hW
          refine (toKind_any n S a _ _ _ W h.argA h.ltu HSZ.out.1).mono ?_
          rintro e w' ⟨g0, g1, g2, rfl, hg, hbg⟩
          exact ⟨g0, g1, g2, rfl, hg.keep (fun _ _ => rfl) (fun b hb => hb.2), below_step hW hW.size hbg, fun N q => q.keep hbg⟩
        have HCb : Hid (∀ (W : World) (g0 g1 g2 : Value), Below v5.heap.size v5 W → KindIn (fun b => b < W.heap.size) W n a g0 g1 g2 → Calls Tryz.prog 13 #[.agg #[.int .i64 z0, .slice zxa zxl zxc, .slice zya zyl zyc]] W fun e w' => ∃ h0 h1 h2, e = .returned (.agg #[h0, h1, h2]) ∧ (KindIn (fun b => b < w'.heap.size) w' n a g0 g1 g2 ∧ KindIn (fun b => b < w'.heap.size) w' m b h0 h1 h2) ∧ (Below v5.heap.size v5 w' ∧ ∀ N, NewJ W N → NewJ w' N)) := by
          intro W g0 g1 g2 hW hg
          have h := HA.out.keep hW
          refine (toKind_any m S b _ _ _ W h.argB h.ltu HSZ.out.2).mono ?_
          rintro e w' ⟨h0, h1, h2, rfl, hh, hbh⟩
          exact ⟨h0, h1, h2, rfl, ⟨hg.keep (same_below hbh (fun b hb => hb)) (fun b hb => Nat.lt_of_lt_of_le hb hbh.size), hh.keep (fun _ _ => rfl) (fun b hb => hb.2)⟩, below_step hW hW.size hbh, fun N q => q.keep hbh⟩
        have HS : Hid (∀ W, Below v5.heap.size v5 W → CellsJ w.heap.size (w.heap.size + 1) (.int .i64 x0) (.slice xxa xxl xxc) (.slice xya xyl xyc) (.int .i64 z0) (.slice zxa zxl zxc) (.slice zya zyl zyc) W) := fun W hW => (HA.out.keep hW).cells
        have hs0 := HA.out.size
        have hd0 : Below v5.heap.size v5 v5.drew := (Below.refl _ _).drew
        have n0 : ¬ v5.heap.size = w.heap.size := by omega
        have n1 : ¬ v5.heap.size = w.heap.size + 1 := by omega
        have HCs : Hid (∀ (W : World) (g0 g1 g2 h0 h1 h2 : Value), Below v5.heap.size v5 W → KindIn (fun b => b < W.heap.size) W n a g0 g1 g2 → KindIn (fun b => b < W.heap.size) W m b h0 h1 h2 → Calls Tryz.prog 7 #[.agg #[g0, g1, g2], .agg #[h0, h1, h2]] W fun e w' => ∃ d0 d1 d2, e = .returned (.tuple #[.agg #[d0, d1, d2], .bool ok]) ∧ KindIn (fun b => W.heap.size ≤ b ∧ b < w'.heap.size) w' M r d0 d1 d2 ∧ (v5.heap.size ≤ W.heap.size ∧ Below v5.heap.size v5 w') ∧ ∀ N, NewJ W N → NewJ w' N ∧ N < W.heap.size) := by
          intro W g0 g1 g2 h0 h1 h2 hW q1 q2
          refine (HIm.out W _ _ _ _ _ _ (HA.out.keep hW).below q1 q2).mono ?_
          rintro e w' ⟨hb', d0, d1, d2, -, -, rfl, hd, -⟩
          exact ⟨d0, d1, d2, rfl, hd, ⟨hW.size, below_step hW hW.size hb'⟩, fun N q => ⟨q.keep hb', q.lt⟩⟩
        obtain ⟨⟨i0, i1, i2⟩, j0, j1, j2⟩ := HS.out v5 (Below.refl _ _)
        clear HIm
        go_upto_region 31 with fail
        go_cut [15, 16] from 17 to 119 (fun pv ov wx => ov = .bool ok ∧ ∃ A d0 d1 d2, pv = .pointer (some ⟨A, 0, none⟩) ∧ AnsJ r v5.heap.size wx.heap.size A d0 d1 d2 wx ∧ Below v5.heap.size v5 wx)
        case first =>
          go_region_held (fun w' => (w'.cell? ⟨w.heap.size, 0, none⟩ = some (.int .i64 x0) ∧ w'.cell? ⟨w.heap.size, 1, none⟩ = some (.slice xxa xxl xxc) ∧ w'.cell? ⟨w.heap.size, 2, none⟩ = some (.slice xya xyl xyc)) ∧ w'.cell? ⟨w.heap.size + 1, 0, none⟩ = some (.int .i64 z0) ∧ w'.cell? ⟨w.heap.size + 1, 1, none⟩ = some (.slice zxa zxl zxc) ∧ w'.cell? ⟨w.heap.size + 1, 2, none⟩ = some (.slice zya zyl zyc)) (first | with_reducible assumption | go_keep) (first
            | (go_at_call_of 13 (Value.agg #[.int .i64 x0, .slice xxa xxl xxc, .slice xya xyl xyc]); refine (HCa.out _ ?_).mono ?_; (first | with_reducible assumption | (with_reducible refine below_alloc ?_ _; with_reducible assumption) | (with_reducible refine below_allocD ?_ _; with_reducible assumption)); rintro e y1 ⟨g0, g1, g2, rfl, hg1, hy1, hq1⟩; obtain ⟨⟨ia0, ia1, ia2⟩, ja0, ja1, ja2⟩ := HS.out y1 hy1; have hz1 := hy1.size; have p1a : ¬ y1.heap.size = w.heap.size := (by omega); have p1b : ¬ y1.heap.size = w.heap.size + 1 := (by omega); (first | with_reducible (have q := hq1 _ (newJ_at _)) | with_reducible (have q := hq1 _ (newJ_atD _)) | with_reducible (have q := hq1 _ q) | skip))
            | (go_at_call_of 13 (Value.agg #[.int .i64 z0, .slice zxa zxl zxc, .slice zya zyl zyc]); refine (HCb.out _ _ _ _ (by (first | with_reducible assumption | (with_reducible refine below_alloc ?_ _; with_reducible assumption) | (with_reducible refine below_allocD ?_ _; with_reducible assumption))) (by (first | with_reducible assumption | (with_reducible apply ltJ_alloc; with_reducible assumption)))).mono ?_; rintro e y2 ⟨h0, h1, h2, rfl, ⟨hg2, hh2⟩, hy2, hq2⟩; obtain ⟨⟨ib0, ib1, ib2⟩, jb0, jb1, jb2⟩ := HS.out y2 hy2; have hz2 := hy2.size; have p2a : ¬ y2.heap.size = w.heap.size := (by omega); have p2b : ¬ y2.heap.size = w.heap.size + 1 := (by omega); (first | with_reducible (have q := hq2 _ (newJ_at _)) | with_reducible (have q := hq2 _ (newJ_atD _)) | with_reducible (have q := hq2 _ q) | skip))
            | (go_at_call 7; refine (HCs.out _ _ _ _ _ _ _ (by (first | with_reducible assumption | (with_reducible refine below_alloc ?_ _; with_reducible assumption) | (with_reducible refine below_allocD ?_ _; with_reducible assumption))) (by (first | with_reducible assumption | (with_reducible apply ltJ_alloc; with_reducible assumption))) (by (first | with_reducible assumption | (with_reducible apply ltJ_alloc; with_reducible assumption)))).mono ?_; rintro e y4 ⟨d0, d1, d2, rfl, hd4, ⟨hW4, hy4⟩, hq4⟩; obtain ⟨v0, vxa, vxl, vxc, vya, vyl, vyc, rfl, rfl, rfl⟩ := hd4.shape; obtain ⟨⟨id0, id1, id2⟩, jd0, jd1, jd2⟩ := HS.out y4 hy4; have hz4 := hy4.size; have p4a : ¬ y4.heap.size = w.heap.size := (by omega); have p4b : ¬ y4.heap.size = w.heap.size + 1 := (by omega); (first | with_reducible (have q := hq4 _ (newJ_at _)) | with_reducible (have q := hq4 _ (newJ_atD _)) | with_reducible (have q := hq4 _ q) | skip); (first | (obtain ⟨q, hN⟩ := q; obtain ⟨⟨r0, r1, r2⟩, f0, f1, f2⟩ := j3_cells q) | skip)))
          all_goals
            go_wp2_with fail
            go_meet
            first
              | with_reducible exact ⟨rfl, _, _, _, _, rfl, ansj_set q hd4 (by omega) (by omega), j3_below hy4 (by omega)⟩
              | with_reducible exact ⟨rfl, _, _, _, _, rfl, ansj_new hd4 (by omega) (by omega), below_alloc hy4 _⟩
        case rest =>
          obtain ⟨rfl, A2, d0, d1, d2, rfl, hd, hb68⟩ := hcut
          obtain ⟨V8, rfl⟩ : ∃ x, x = wc := ⟨_, rfl⟩
          obtain ⟨cv0, cxa, cxl, cxc, cya, cyl, cyc, rfl, rfl, rfl⟩ := hd.kind.shape
          clear HCa HCb HCs HS i0 i1 i2 j0 j1 j2 n0 n1 hd0
          have hA8 := HA.out.keep hb68
          have hN8 := HN6.out.keep hb68
          have HE : Hid (Calls Tryz.prog 14 #[.agg #[.int .i64 cv0, .slice cxa cxl cxc, .slice cya cyl cyc], .agg #[.int .i64 s0, .slice sxa sxl sxc, .slice sya syl syc]] V8 _) := eqKind_same M _ _ r _ _ _ _ _ _ V8 hd.kind hN8.kind (fun b hb => hb.2) (fun b hb => by have := hN8.lt; omega)
          have HB8 : Hid (Below w.heap.size w V8 ∧ Below v4.heap.size v4 V8) := ⟨hA8.below, below_step HB6.out HB6.out.size hb68⟩
          have hx8 := hd.box
          obtain ⟨b0, b1, b2⟩ := hx8
          obtain ⟨m0, m1, m2⟩ := id hN8.box
          clear hd hb68 hA8 hN8 HA HN6 HB6
          go_wp2_with fail
          refine HE.out.mono ?_
          rintro e v9 ⟨rfl, hb9⟩
          have hw9 := below_step HB8.out.1 HB8.out.1.size hb9
          have h59 := below_step HB8.out.2 HB8.out.2.size hb9
          clear HE b0 b1 b2 m0 m1 m2 HB8
          have HH1 : Hid (Calls Tryz.prog 16 #[.agg #[.int .i64 ua0, .slice uxa uxl uxc, .slice uya uyl uyc], .int .i64 1] v9 _) := heldKind_any (M - 1) ua0 _ _ L3 L4 1 v9 (H5.out.1.1.below h59) (H5.out.1.2.below h59) (H5.out.2.1.below H5.out.2.2.1 h59) (by omega) (by omega)
          obtain ⟨b0, b1, b2⟩ := H5.out.2.2.2.keep h59
          have HBF : Hid (Below w.heap.size w v9) := hw9
          clear hw9 h59 hb9 H5
          go_wp2_with fail
          refine HH1.out.mono ?_
          rintro e vA ⟨rfl, hbA⟩
          have HFin : Hid (Below w.heap.size w vA) := below_step HBF.out HBF.out.size hbA
          clear HH1 hbA HBF b0 b1 b2
          go_wp2_with fail
          go_ret
          exact ⟨rfl, HFin.out⟩

end Go.Proofs.YtdijbjhmjamagaaGreatDoor
