/-
  What the specification draws: DrawKindJoin, two schemas.
-/
import Derived.Test.YthcdeahobjhkbaaGreatDoorB17
import Derived.Test.YthcdeahobjhkbaaGreatDoorB15
namespace Go.Proofs.YthcdeahobjhkbaaGreatDoor
open Go.RowKit

/-- What drawing two schemas makes. -/
def JDraw (m : Nat) (w : World) (e : Ending) (w' : World) : Prop :=
  Below w.heap.size w w' ∧ ∃ (a b : K m) (a0 a1 a2 b0 b1 b2 : Value), e = .returned (.tuple #[.agg #[a0, a1, a2], .agg #[b0, b1, b2]]) ∧ KindIn (fun b => w.heap.size ≤ b ∧ b < w'.heap.size) w' m a a0 a1 a2 ∧ KindIn (fun b => w.heap.size ≤ b ∧ b < w'.heap.size) w' m b b0 b1 b2

theorem jd_exit {m : Nat} {w W : World} {a b : K m} {a0 a1 a2 b0 b1 b2 : Value} (hb : Below w.heap.size w W) (ha : KindIn (fun b => w.heap.size + 2 ≤ b ∧ b < W.heap.size) W m a a0 a1 a2) (hk : KindIn (fun b => w.heap.size + 2 ≤ b ∧ b < W.heap.size) W m b b0 b1 b2) :
    JDraw m w (.returned (.tuple #[.agg #[a0, a1, a2], .agg #[b0, b1, b2]])) (put3 (put3 W w.heap.size 0 a0 a1 a2) (w.heap.size + 1) 0 b0 b1 b2) := by
  have qq : ∀ b, b ≠ w.heap.size → b ≠ w.heap.size + 1 → (put3 (put3 W w.heap.size 0 a0 a1 a2) (w.heap.size + 1) 0 b0 b1 b2).heap[b]? = W.heap[b]? := fun b h h' => by rw [put3_other h', put3_other h]
  have hs : (put3 (put3 W w.heap.size 0 a0 a1 a2) (w.heap.size + 1) 0 b0 b1 b2).heap.size = W.heap.size := by
    rw [put3_size, put3_size]
  exact ⟨put3_below (put3_below hb (Nat.le_refl _)) (by omega), a, b, a0, a1, a2, b0, b1, b2, rfl, ha.keep (fun b hb => qq b (by omega) (by omega)) (fun b hb => ⟨by omega, by rw [hs]; exact hb.2⟩), hk.keep (fun b hb => qq b (by omega) (by omega)) (fun b hb => ⟨by omega, by rw [hs]; exact hb.2⟩)⟩

theorem JDraw.drew {m : Nat} {w w' : World} {e : Ending} (h : JDraw m w e w') : JDraw m w e w'.drew := by
  obtain ⟨hb, a, b, a0, a1, a2, b0, b1, b2, he, ha, hk⟩ := h
  exact ⟨hb.drew, a, b, a0, a1, a2, b0, b1, b2, he, KindIn.keep (w := w') (w' := w'.drew) (fun _ _ => rfl) (fun _ h => h) ha, KindIn.keep (w := w') (w' := w'.drew) (fun _ _ => rfl) (fun _ h => h) hk⟩

set_option maxRecDepth 20000 in
set_option maxHeartbeats 8000000 in
theorem drawKJoin_any (m : Nat) (hm : 18 ≤ m) (S : Nat → Prop) (w : World) (ao : Option Addr) (L cap : Nat) (h : CodeIn S w ao L cap) (hS : ∀ b, S b → b < w.heap.size) :
    Calls Tryz.prog 4 #[.slice ao L cap] w (JDraw m w) := by
  obtain ⟨W1, hW1⟩ : ∃ W1, W1 = (w.alloc (.cells #[.int .i64 0, .slice none 0 0, .slice none 0 0] 26)).alloc (.cells #[.int .i64 0, .slice none 0 0, .slice none 0 0] 26) := ⟨_, rfl⟩
  have hz1 : W1.heap.size = w.heap.size + 2 := by rw [hW1]; simp
  have hb1 : Below w.heap.size w W1 := by rw [hW1]; exact ((Below.refl _ _).alloc (Nat.le_refl _) _).alloc (by simp) _
  have hq1 : W1.heap[w.heap.size]? = some (.cells #[.int .i64 0, .slice none 0 0, .slice none 0 0] 26 (0, 0)) := by
    rw [hW1]
    have hb : Below (w.heap.size + 1) (w.alloc (.cells #[.int .i64 0, .slice none 0 0, .slice none 0 0] 26)) ((w.alloc (.cells #[.int .i64 0, .slice none 0 0, .slice none 0 0] 26)).alloc (.cells #[.int .i64 0, .slice none 0 0, .slice none 0 0] 26)) := (Below.refl _ _).alloc (by simp) _
    exact (hb.block _ (Nat.lt_succ_self _)).trans (heap_alloc_new _ _)
  have hq2 : W1.heap[w.heap.size + 1]? = some (.cells #[.int .i64 0, .slice none 0 0, .slice none 0 0] 26 (0, 0)) := by
    rw [hW1]
    have := heap_alloc_new (w.alloc (.cells #[.int .i64 0, .slice none 0 0, .slice none 0 0] 26)) (.cells #[.int .i64 0, .slice none 0 0, .slice none 0 0] 26)
    rw [show (w.alloc (.cells #[.int .i64 0, .slice none 0 0, .slice none 0 0] 26)).heap.size = w.heap.size + 1 by simp] at this
    exact this
  have HO : Hid (Calls Tryz.prog 11 #[.slice ao L cap] W1 _) := l6Open_any S W1 ao L cap ⟨h.1, h.2.1, fun h0 => by
      obtain ⟨b, off, ha, hb, hc⟩ := h.2.2 h0
      exact ⟨b, off, ha, hb, fun j hj => by
        obtain ⟨u, hu, hcell⟩ := hc j hj
        exact ⟨u, hu, (World.cell?_of_block (hb1.block b (hS b hb))).trans hcell⟩⟩⟩ (fun b hb => by have := hS b hb; omega)
  have HZ1 : Hid (∀ W, Below W1.heap.size W1 W → Below w.heap.size w W ∧ W.heap[w.heap.size]? = some (.cells #[.int .i64 0, .slice none 0 0, .slice none 0 0] 26 (0, 0)) ∧ W.heap[w.heap.size + 1]? = some (.cells #[.int .i64 0, .slice none 0 0, .slice none 0 0] 26 (0, 0))) := fun W hW => ⟨below_step hb1 hb1.size hW, (hW.block _ (by omega)).trans hq1, (hW.block _ (by omega)).trans hq2⟩
  have hz1' : w.heap.size + 2 ≤ W1.heap.size := by omega
  clear h hb1 hq1 hq2 hz1
  go_enter Tryz.func4, Tryz.ntmps4
  go_wp2_with fail
  rw [← hW1]
  clear hW1
  refine HO.out.mono ?_
  rintro e w1 ⟨hb1, R, rfl, hR, L', hD1⟩
  have hs1 := hb1.size
  have hR1 := hD1.lt
  have HB1 := Lib.hid hb1
  have HPk : Hid (Calls Tryz.prog 13 #[.pointer (some ⟨R, 0, none⟩), .int .i64 3] w1 (PickPost w1 R ao L' cap 0 3)) := pick_any w1 R ao L' cap 0 3 hD1 (by omega) (by omega) (by omega)
  clear hb1 hD1 HO
  go_wp2_with fail
  refine HPk.out.mono ?_
  rintro e w2 ⟨yy, rfl, hyy, hn2, hD2, -⟩
  have hs2 := hn2.size
  have HK : Hid (∀ top, Calls Tryz.prog 12 #[.pointer (some ⟨R, 0, none⟩), .bool top] w2 (DSPost m w2 R ao L' cap (0 + 1) 21064)) := fun top => l5SomeOk_any m R ao L' cap (0 + 1) top w2 (by omega) hD2 (by omega)
  have HN2 : Hid (Near R w1 w2) := hn2
  clear HPk hD2 hn2
  go_wp2_with fail
  refine (HK.out _).mono ?_
  rintro e w3 ⟨hn3, p3, a, c0, c1, c2, hp3, hD3, rfl, hk, hdk, hok⟩
  obtain ⟨a0, axa, axl, axc, aya, ayl, ayc, rfl, rfl, rfl⟩ := hk.shape
  have hs3 := hn3.size
  obtain ⟨W3, hW3⟩ : ∃ W3, W3 = w3.alloc (.cells #[.int .i64 a0, .slice axa axl axc, .slice aya ayl ayc] 26) := ⟨_, rfl⟩
  have ha3 : Below w3.heap.size w3 W3 := by rw [hW3]; exact (Below.refl _ _).alloc (Nat.le_refl _) _
  have hx3 : Box3 W3 w3.heap.size (.int .i64 a0) (.slice axa axl axc) (.slice aya ayl ayc) := by rw [hW3]; exact Box3.new _ _ _ _ _
  have hzz3 : w3.heap.size + 1 ≤ W3.heap.size := by rw [hW3]; simp
  have hk3 : KindIn (fun b => w2.heap.size ≤ b ∧ b < w3.heap.size) W3 m a (.int .i64 a0) (.slice axa axl axc) (.slice aya ayl ayc) := hk.keep (fun b hb => ha3.block b hb.2) (fun _ h => h)
  have HA : Hid (∀ W, Near R W3 W → KindIn (fun b => w2.heap.size ≤ b ∧ b < w3.heap.size) W m a (.int .i64 a0) (.slice axa axl axc) (.slice aya ayl ayc) ∧ Box3 W w3.heap.size (.int .i64 a0) (.slice axa axl axc) (.slice aya ayl ayc)) := fun W hW => ⟨hk3.keep (fun b hb => hW.block b (by omega) (by omega)) (fun _ h => h), ⟨hW.cell hx3.c0 (by omega), hW.cell hx3.c1 (by omega), hW.cell hx3.c2 (by omega)⟩⟩
  have HN3 : Hid (Near R w1 W3) := (HN2.out.trans hn3).trans (Near.of_below ha3)
  have HDA : Hid (depK m a 4 ∧ okK m a = true) := ⟨hdk, hok⟩
  have hcnt := (okK_get hok).2
  have HWd : Hid (∀ W q, Near R W3 W → Dr W R ao L' cap q → q ≤ 100000 → Calls Tryz.prog 14 #[.pointer (some ⟨R, 0, none⟩), .agg #[.int .i64 a0, .slice axa axl axc, .slice aya ayl ayc]] W (DKPost m (2 * 4 + 3) W R ao L' cap q (700 * cntK m a))) := fun W q hW hq hq2 =>
    wider_any 4 m m R ao L' cap q _ a 1 _ _ _ W (by omega) HDA.out.1 (okK_get HDA.out.2).1 (okK_get HDA.out.2).2 (HA.out W hW).1 (fun b hb => ⟨by have := hW.size; omega, by omega⟩) hq (by omega)
  have HC3 := Lib.hid (HWd.out W3 p3 (Near.refl _ _) (hD3.same ha3) (by omega))
  obtain ⟨i0, i1, i2⟩ := hx3
  rw [hW3] at i0 i1 i2
  clear HK HN2 hn3 hD3 hk hdk hok ha3 hk3
  go_wp2_with fail
  rw [← hW3]
  clear hW3 i0 i1 i2
  refine HC3.out.mono ?_
  rintro e w5 ⟨hn5, p5, kx, d0, d1, d2, hp5, hD5, rfl, hkx, hdx⟩
  obtain ⟨x0, xxa, xxl, xxc, xya, xyl, xyc, rfl, rfl, rfl⟩ := hkx.shape
  have hz5 := hn5.size
  obtain ⟨W6, hW6⟩ : ∃ W6, W6 = w5.alloc (.cells #[.int .i64 x0, .slice xxa xxl xxc, .slice xya xyl xyc] 26) := ⟨_, rfl⟩
  have hb56 : Below w5.heap.size w5 W6 := by rw [hW6]; exact (Below.refl _ _).alloc (Nat.le_refl _) _
  have hx6 : Box3 W6 w5.heap.size (.int .i64 x0) (.slice xxa xxl xxc) (.slice xya xyl xyc) := by rw [hW6]; exact Box3.new _ _ _ _ _
  have hzz6 : w5.heap.size + 1 ≤ W6.heap.size := by rw [hW6]; simp
  have hn36 : Near R W3 W6 := hn5.trans (Near.of_below hb56)
  have hk6 : KindIn (fun b => W3.heap.size ≤ b ∧ b < w5.heap.size) W6 m kx (.int .i64 x0) (.slice xxa xxl xxc) (.slice xya xyl xyc) := hkx.keep (fun b hb => hb56.block b hb.2) (fun _ h => h)
  have HXX : Hid (∀ W, Near R W6 W → KindIn (fun b => W3.heap.size ≤ b ∧ b < w5.heap.size) W m kx (.int .i64 x0) (.slice xxa xxl xxc) (.slice xya xyl xyc) ∧ Box3 W w5.heap.size (.int .i64 x0) (.slice xxa xxl xxc) (.slice xya xyl xyc)) := fun W hW => ⟨hk6.keep (fun b hb => hW.block b (by omega) (by omega)) (fun _ h => h), ⟨hW.cell hx6.c0 (by omega), hW.cell hx6.c1 (by omega), hW.cell hx6.c2 (by omega)⟩⟩
  have HC6 := Lib.hid (HWd.out W6 p5 hn36 (hD5.same hb56) (by omega))
  have HN6 := Lib.hid hn36
  obtain ⟨i0, i1, i2⟩ := (HA.out W6 hn36).2
  rw [hW6] at i0 i1 i2
  clear HC3 hn5 hD5 hkx hb56 hx6 hk6 hn36
  go_wp2_with fail
  rw [← hW6]
  clear hW6 i0 i1 i2
  refine HC6.out.mono ?_
  rintro e w7 ⟨hn7, p7, ky, d0, d1, d2, hp7, hD7, rfl, hky, hdy⟩
  obtain ⟨y0, yxa, yxl, yxc, yya, yyl, yyc, rfl, rfl, rfl⟩ := hky.shape
  have hz7 := hn7.size
  obtain ⟨W8, hW8⟩ : ∃ W8, W8 = w7.alloc (.cells #[.int .i64 y0, .slice yxa yxl yxc, .slice yya yyl yyc] 26) := ⟨_, rfl⟩
  have hb78 : Below w7.heap.size w7 W8 := by rw [hW8]; exact (Below.refl _ _).alloc (Nat.le_refl _) _
  have hx8 : Box3 W8 w7.heap.size (.int .i64 y0) (.slice yxa yxl yxc) (.slice yya yyl yyc) := by rw [hW8]; exact Box3.new _ _ _ _ _
  have hzz8 : w7.heap.size + 1 ≤ W8.heap.size := by rw [hW8]; simp
  have hn68 : Near R W6 W8 := hn7.trans (Near.of_below hb78)
  have hk8 : KindIn (fun b => W6.heap.size ≤ b ∧ b < w7.heap.size) W8 m ky (.int .i64 y0) (.slice yxa yxl yxc) (.slice yya yyl yyc) := hky.keep (fun b hb => hb78.block b hb.2) (fun _ h => h)
  have HYY : Hid (∀ W, Near R W8 W → (KindIn (fun b => W3.heap.size ≤ b ∧ b < w5.heap.size) W m kx (.int .i64 x0) (.slice xxa xxl xxc) (.slice xya xyl xyc) ∧ Box3 W w5.heap.size (.int .i64 x0) (.slice xxa xxl xxc) (.slice xya xyl xyc)) ∧ (KindIn (fun b => W6.heap.size ≤ b ∧ b < w7.heap.size) W m ky (.int .i64 y0) (.slice yxa yxl yxc) (.slice yya yyl yyc) ∧ Box3 W w7.heap.size (.int .i64 y0) (.slice yxa yxl yxc) (.slice yya yyl yyc)) ∧ Below W1.heap.size W1 W) := fun W hW => ⟨HXX.out W (hn68.trans hW), ⟨hk8.keep (fun b hb => hW.block b (by omega) (by omega)) (fun _ h => h), ⟨hW.cell hx8.c0 (by omega), hW.cell hx8.c1 (by omega), hW.cell hx8.c2 (by omega)⟩⟩, near_new HB1.out hR (((HN3.out.trans HN6.out).trans hn68).trans hW)⟩
  have HPk : Hid (Calls Tryz.prog 13 #[.pointer (some ⟨R, 0, none⟩), .int .i64 10] W8 (PickPost W8 R ao L' cap p7 10)) := pick_any W8 R ao L' cap p7 10 (hD7.same hb78) (by omega) (by omega) (by omega)
  clear HC6 hn7 hD7 hky hb78 hx8 hk8 hn68 HXX HWd HA HN3 HN6
  go_wp2_with fail
  rw [← hW8]
  clear hW8
  refine HPk.out.mono ?_
  rintro e w9 ⟨pv, rfl, hpv, hn9, hD9, -⟩
  have hz9 := hn9.size
  obtain ⟨⟨hkx9, x0', x1', x2'⟩, ⟨hky9, y0', y1', y2'⟩, hb9⟩ := HYY.out w9 hn9
  obtain ⟨hbw9, q1, q2⟩ := HZ1.out w9 hb9
  obtain ⟨⟨r0, r1, r2⟩, f0, f1, f2⟩ := zeroD_cells q1
  obtain ⟨⟨s0, s1, s2⟩, g0, g1, g2⟩ := zeroD_cells q2
  have n1 : ¬ w.heap.size = w5.heap.size := by omega
  have n2 : ¬ w.heap.size = w7.heap.size := by omega
  have n3 : ¬ w.heap.size + 1 = w5.heap.size := by omega
  have n4 : ¬ w.heap.size + 1 = w7.heap.size := by omega
  have HD9 := Lib.hid hD9
  have HN9 := Lib.hid hn9
  have HKx := Lib.hid hkx9
  have HKy := Lib.hid hky9
  have HBw := Lib.hid hbw9
  have HDx := Lib.hid (And.intro hdx hdy)
  have hd9 : Near R w9 w9.drew := (Near.refl _ _).drew
  clear HPk hD9 hn9 hkx9 hky9 hb9 hbw9 q1 q2 hdx hdy
  have HY : Hid (∀ W, Near R w9 W → ((W.cell? ⟨w5.heap.size, 0, none⟩ = some (.int .i64 x0) ∧ W.cell? ⟨w5.heap.size, 1, none⟩ = some (.slice xxa xxl xxc) ∧ W.cell? ⟨w5.heap.size, 2, none⟩ = some (.slice xya xyl xyc)) ∧ W.cell? ⟨w7.heap.size, 0, none⟩ = some (.int .i64 y0) ∧ W.cell? ⟨w7.heap.size, 1, none⟩ = some (.slice yxa yxl yxc) ∧ W.cell? ⟨w7.heap.size, 2, none⟩ = some (.slice yya yyl yyc)) ∧ (W.heap[w.heap.size]? = some (.cells #[.int .i64 0, .slice none 0 0, .slice none 0 0] 26 (0, 0)) ∧ W.heap[w.heap.size + 1]? = some (.cells #[.int .i64 0, .slice none 0 0, .slice none 0 0] 26 (0, 0))) ∧ Below w.heap.size w W ∧ KindIn (fun b => w.heap.size + 2 ≤ b ∧ b < W.heap.size) W m kx (.int .i64 x0) (.slice xxa xxl xxc) (.slice xya xyl xyc) ∧ KindIn (fun b => w.heap.size + 2 ≤ b ∧ b < W.heap.size) W m ky (.int .i64 y0) (.slice yxa yxl yxc) (.slice yya yyl yyc)) := fun W hW => by
    obtain ⟨⟨k1, c0, c1, c2⟩, ⟨k2, e0, e1, e2⟩, hb⟩ := HYY.out W (HN9.out.trans hW)
    obtain ⟨hbw, z1, z2⟩ := HZ1.out W hb
    have hzW := hW.size
    exact ⟨⟨⟨c0, c1, c2⟩, e0, e1, e2⟩, ⟨z1, z2⟩, hbw, k1.keep (fun _ _ => rfl) (fun b hb => by omega), k2.keep (fun _ _ => rfl) (fun b hb => by omega)⟩
  by_cases h0 : pv = 0
  · subst h0
    have HCc := Lib.hid (((l5SomeOk_any m R ao L' cap (p7 + 1) true w9.drew (by omega) (HD9.out.same ((Below.refl _ _).drew)) (by omega))).mono (R' := fun e w' => Near R w9 w' ∧ ∃ (p' : Nat) (k : K m) (c0 c1 c2 : Value), p' ≤ p7 + 1 + 21064 ∧ Dr w' R ao L' cap p' ∧ e = .returned (.agg #[c0, c1, c2]) ∧ KindIn (fun b => w9.heap.size ≤ b ∧ b < w'.heap.size) w' m k c0 c1 c2 ∧ (depK m k 4 ∧ okK m k = true)) (fun e w' h => ⟨hd9.trans h.1, h.2⟩))
    clear HYY HZ1
    go_upto_region 7 with fail
    go_region_held (fun W => (W.cell? ⟨w5.heap.size, 0, none⟩ = some (.int .i64 x0) ∧ W.cell? ⟨w5.heap.size, 1, none⟩ = some (.slice xxa xxl xxc) ∧ W.cell? ⟨w5.heap.size, 2, none⟩ = some (.slice xya xyl xyc)) ∧ (W.cell? ⟨w7.heap.size, 0, none⟩ = some (.int .i64 y0) ∧ W.cell? ⟨w7.heap.size, 1, none⟩ = some (.slice yxa yxl yxc) ∧ W.cell? ⟨w7.heap.size, 2, none⟩ = some (.slice yya yyl yyc))) (first | with_reducible assumption | go_keep) (first
      | (go_at_call 12; refine HCc.out.mono ?_; rintro e y1 ⟨hy1, pz, kz, e0, e1, e2, -, -, rfl, hkz, -⟩; obtain ⟨s0, sxa, sxl, sxc, sya, syl, syc, rfl, rfl, rfl⟩ := hkz.shape; obtain ⟨⟨⟨u0, u1, u2⟩, u3, u4, u5⟩, ⟨z1, z2⟩, hbz, kz1, kz2⟩ := HY.out y1 hy1; obtain ⟨⟨m0, m1, m2⟩, mf0, mf1, mf2⟩ := zeroD_cells z1; obtain ⟨⟨o0, o1, o2⟩, of0, of1, of2⟩ := zeroD_cells z2))
    all_goals
      have HP : Hid (JDraw m w (.returned (.tuple #[.agg #[.int .i64 x0, .slice xxa xxl xxc, .slice xya xyl xyc], .agg #[.int .i64 s0, .slice sxa sxl sxc, .slice sya syl syc]])) (put3 (put3 y1 w.heap.size 0 (.int .i64 x0) (.slice xxa xxl xxc) (.slice xya xyl xyc)) (w.heap.size + 1) 0 (.int .i64 s0) (.slice sxa sxl sxc) (.slice sya syl syc))) := jd_exit hbz kz1 (hkz.keep (fun _ _ => rfl) (fun b hb => by omega))
      clear hkz hy1 kz1 kz2 hbz z1 z2
      go_wp2_with fail
      refine bodyPost_ret (v := .tuple #[.agg #[.int .i64 x0, .slice xxa xxl xxc, .slice xya xyl xyc], .agg #[.int .i64 s0, .slice sxa sxl sxc, .slice sya syl syc]]) (by simp [results, Tryz.results4, go_sem, m0, m1, m2, o0, o1, o2]) rfl ?_
      first
        | exact HP.out
        | exact HP.out.drew
  by_cases h1 : pv = 1
  · subst h1
    have HCc := Lib.hid ((spoil_any 11 m R ao L' cap (p7 + 1) (fun b => w.heap.size + 2 ≤ b ∧ b < w9.heap.size ∧ b ≠ R) kx _ _ _ w9.drew (by omega) HDx.out.1 (KindIn.keep (w := w9) (w' := w9.drew) (S' := fun b => w.heap.size + 2 ≤ b ∧ b < w9.heap.size ∧ b ≠ R) (fun _ _ => rfl) (fun b hb => ⟨by omega, by omega, by omega⟩) HKx.out) (fun b hb => ⟨hb.2.1, hb.2.2⟩) (HD9.out.same ((Below.refl _ _).drew)) (by omega)).mono (R' := fun e w' => Near R w9 w' ∧ ∃ (p' : Nat) (k : K m) (c0 c1 c2 : Value), p' ≤ p7 + 1 + 50 * 11 ∧ Dr w' R ao L' cap p' ∧ e = .returned (.agg #[c0, c1, c2]) ∧ KindIn (fun b => w.heap.size + 2 ≤ b ∧ b < w'.heap.size) w' m k c0 c1 c2) (fun e w' h => by
      obtain ⟨hn, p', k, c0, c1, c2, hp, hD, he, hk⟩ := h
      have hzn := hn.size
      have hzd : w9.drew.heap.size = w9.heap.size := rfl
      exact ⟨hd9.trans hn, p', k, c0, c1, c2, hp, hD, he, hk.keep (fun _ _ => rfl) (fun b hb => hb.elim (fun h => ⟨h.1, by omega⟩) (fun h => ⟨by omega, h.2⟩))⟩))
    clear HYY HZ1
    go_upto_region 9 with fail
    go_region_held (fun W => (W.cell? ⟨w5.heap.size, 0, none⟩ = some (.int .i64 x0) ∧ W.cell? ⟨w5.heap.size, 1, none⟩ = some (.slice xxa xxl xxc) ∧ W.cell? ⟨w5.heap.size, 2, none⟩ = some (.slice xya xyl xyc)) ∧ (W.cell? ⟨w7.heap.size, 0, none⟩ = some (.int .i64 y0) ∧ W.cell? ⟨w7.heap.size, 1, none⟩ = some (.slice yxa yxl yxc) ∧ W.cell? ⟨w7.heap.size, 2, none⟩ = some (.slice yya yyl yyc))) (first | with_reducible assumption | go_keep) (first
      | (go_at_call 15; refine HCc.out.mono ?_; rintro e y1 ⟨hy1, pz, kz, e0, e1, e2, -, -, rfl, hkz⟩; obtain ⟨s0, sxa, sxl, sxc, sya, syl, syc, rfl, rfl, rfl⟩ := hkz.shape; obtain ⟨⟨⟨u0, u1, u2⟩, u3, u4, u5⟩, ⟨z1, z2⟩, hbz, kz1, kz2⟩ := HY.out y1 hy1; obtain ⟨⟨m0, m1, m2⟩, mf0, mf1, mf2⟩ := zeroD_cells z1; obtain ⟨⟨o0, o1, o2⟩, of0, of1, of2⟩ := zeroD_cells z2))
    all_goals
      have HP : Hid (JDraw m w (.returned (.tuple #[.agg #[.int .i64 s0, .slice sxa sxl sxc, .slice sya syl syc], .agg #[.int .i64 y0, .slice yxa yxl yxc, .slice yya yyl yyc]])) (put3 (put3 y1 w.heap.size 0 (.int .i64 s0) (.slice sxa sxl sxc) (.slice sya syl syc)) (w.heap.size + 1) 0 (.int .i64 y0) (.slice yxa yxl yxc) (.slice yya yyl yyc))) := jd_exit hbz hkz kz2
      clear hkz hy1 kz1 kz2 hbz z1 z2
      go_wp2_with fail
      refine bodyPost_ret (v := .tuple #[.agg #[.int .i64 s0, .slice sxa sxl sxc, .slice sya syl syc], .agg #[.int .i64 y0, .slice yxa yxl yxc, .slice yya yyl yyc]]) (by simp [results, Tryz.results4, go_sem, m0, m1, m2, o0, o1, o2]) rfl ?_
      first
        | exact HP.out
        | exact HP.out.drew
  by_cases h2 : pv = 2
  · subst h2
    have HCc := Lib.hid ((spoil_any 11 m R ao L' cap (p7 + 1) (fun b => w.heap.size + 2 ≤ b ∧ b < w9.heap.size ∧ b ≠ R) ky _ _ _ w9.drew (by omega) HDx.out.2 (KindIn.keep (w := w9) (w' := w9.drew) (S' := fun b => w.heap.size + 2 ≤ b ∧ b < w9.heap.size ∧ b ≠ R) (fun _ _ => rfl) (fun b hb => ⟨by omega, by omega, by omega⟩) HKy.out) (fun b hb => ⟨hb.2.1, hb.2.2⟩) (HD9.out.same ((Below.refl _ _).drew)) (by omega)).mono (R' := fun e w' => Near R w9 w' ∧ ∃ (p' : Nat) (k : K m) (c0 c1 c2 : Value), p' ≤ p7 + 1 + 50 * 11 ∧ Dr w' R ao L' cap p' ∧ e = .returned (.agg #[c0, c1, c2]) ∧ KindIn (fun b => w.heap.size + 2 ≤ b ∧ b < w'.heap.size) w' m k c0 c1 c2) (fun e w' h => by
      obtain ⟨hn, p', k, c0, c1, c2, hp, hD, he, hk⟩ := h
      have hzn := hn.size
      have hzd : w9.drew.heap.size = w9.heap.size := rfl
      exact ⟨hd9.trans hn, p', k, c0, c1, c2, hp, hD, he, hk.keep (fun _ _ => rfl) (fun b hb => hb.elim (fun h => ⟨h.1, by omega⟩) (fun h => ⟨by omega, h.2⟩))⟩))
    clear HYY HZ1
    go_upto_region 11 with fail
    go_region_held (fun W => (W.cell? ⟨w5.heap.size, 0, none⟩ = some (.int .i64 x0) ∧ W.cell? ⟨w5.heap.size, 1, none⟩ = some (.slice xxa xxl xxc) ∧ W.cell? ⟨w5.heap.size, 2, none⟩ = some (.slice xya xyl xyc)) ∧ (W.cell? ⟨w7.heap.size, 0, none⟩ = some (.int .i64 y0) ∧ W.cell? ⟨w7.heap.size, 1, none⟩ = some (.slice yxa yxl yxc) ∧ W.cell? ⟨w7.heap.size, 2, none⟩ = some (.slice yya yyl yyc))) (first | with_reducible assumption | go_keep) (first
      | (go_at_call 15; refine HCc.out.mono ?_; rintro e y1 ⟨hy1, pz, kz, e0, e1, e2, -, -, rfl, hkz⟩; obtain ⟨s0, sxa, sxl, sxc, sya, syl, syc, rfl, rfl, rfl⟩ := hkz.shape; obtain ⟨⟨⟨u0, u1, u2⟩, u3, u4, u5⟩, ⟨z1, z2⟩, hbz, kz1, kz2⟩ := HY.out y1 hy1; obtain ⟨⟨m0, m1, m2⟩, mf0, mf1, mf2⟩ := zeroD_cells z1; obtain ⟨⟨o0, o1, o2⟩, of0, of1, of2⟩ := zeroD_cells z2))
    all_goals
      have HP : Hid (JDraw m w (.returned (.tuple #[.agg #[.int .i64 x0, .slice xxa xxl xxc, .slice xya xyl xyc], .agg #[.int .i64 s0, .slice sxa sxl sxc, .slice sya syl syc]])) (put3 (put3 y1 w.heap.size 0 (.int .i64 x0) (.slice xxa xxl xxc) (.slice xya xyl xyc)) (w.heap.size + 1) 0 (.int .i64 s0) (.slice sxa sxl sxc) (.slice sya syl syc))) := jd_exit hbz kz1 hkz
      clear hkz hy1 kz1 kz2 hbz z1 z2
      go_wp2_with fail
      refine bodyPost_ret (v := .tuple #[.agg #[.int .i64 x0, .slice xxa xxl xxc, .slice xya xyl xyc], .agg #[.int .i64 s0, .slice sxa sxl sxc, .slice sya syl syc]]) (by simp [results, Tryz.results4, go_sem, m0, m1, m2, o0, o1, o2]) rfl ?_
      first
        | exact HP.out
        | exact HP.out.drew
  obtain ⟨-, -, hbz, kz1, kz2⟩ := HY.out w9 (Near.refl _ _)
  have HP : Hid (JDraw m w (.returned (.tuple #[.agg #[.int .i64 x0, .slice xxa xxl xxc, .slice xya xyl xyc], .agg #[.int .i64 y0, .slice yxa yxl yxc, .slice yya yyl yyc]])) (put3 (put3 w9 w.heap.size 0 (.int .i64 x0) (.slice xxa xxl xxc) (.slice xya xyl xyc)) (w.heap.size + 1) 0 (.int .i64 y0) (.slice yxa yxl yxc) (.slice yya yyl yyc))) := jd_exit hbz kz1 kz2
  have e0 : ¬ (pv : Int) = 0 := by omega
  have e1 : ¬ (pv : Int) = 1 := by omega
  have e2 : ¬ (pv : Int) = 2 := by omega
  clear HYY HZ1 hbz kz1 kz2
  go_upto_region 12 with fail
  go_region_held (fun W => (W.cell? ⟨w5.heap.size, 0, none⟩ = some (.int .i64 x0) ∧ W.cell? ⟨w5.heap.size, 1, none⟩ = some (.slice xxa xxl xxc) ∧ W.cell? ⟨w5.heap.size, 2, none⟩ = some (.slice xya xyl xyc)) ∧ (W.cell? ⟨w7.heap.size, 0, none⟩ = some (.int .i64 y0) ∧ W.cell? ⟨w7.heap.size, 1, none⟩ = some (.slice yxa yxl yxc) ∧ W.cell? ⟨w7.heap.size, 2, none⟩ = some (.slice yya yyl yyc))) (first | with_reducible assumption | go_keep) (fail)
  all_goals
    go_wp2_with fail
    refine bodyPost_ret (v := .tuple #[.agg #[.int .i64 x0, .slice xxa xxl xxc, .slice xya xyl xyc], .agg #[.int .i64 y0, .slice yxa yxl yxc, .slice yya yyl yyc]]) (by simp [results, Tryz.results4, go_sem, r0, r1, r2, s0, s1, s2]) rfl ?_
    first
      | exact HP.out
      | exact HP.out.drew

end Go.Proofs.YthcdeahobjhkbaaGreatDoor
