/-
  What the specification draws: DrawKindHas, a schema and a tree.
-/
import Derived.Test.YtfbfchffnapnnaaGreatDoorDW2
import Derived.Test.YtfbfchffnapnnaaGreatDoorB27
import Derived.Test.YtfbfchffnapnnaaGreatDoorB20
import Derived.Deep.RegionHeld
namespace Go.Proofs.YtfbfchffnapnnaaGreatDoor
open Go.RowKit

/-- What drawing a schema and a tree out of a code makes. -/
def DrawnKT (n m : Nat) (w : World) (e : Ending) (w' : World) : Prop :=
  Below w.heap.size w w' ∧ ∃ (k : K n) (t : T m) (c0 c1 c2 d0 d1 d2 d3 d4 : Value), e = .returned (.tuple #[.agg #[c0, c1, c2], .agg #[d0, d1, d2, d3, d4]]) ∧ KindIn (fun b => w.heap.size ≤ b ∧ b < w'.heap.size) w' n k c0 c1 c2 ∧ TreeIn (fun b => w.heap.size ≤ b ∧ b < w'.heap.size) w' m t d0 d1 d2 d3 d4

theorem kt_exit {n m : Nat} {w W1 W : World} {k : K n} {t : T m} {c0 c1 c2 d0 d1 d2 d3 d4 : Value} (h1 : Below w.heap.size w W1) (hz : W1.heap.size = w.heap.size + 2) (hb : Below W1.heap.size W1 W)
    (hk : KindIn (fun b => W1.heap.size ≤ b ∧ b < W.heap.size) W n k c0 c1 c2) (ht : TreeIn (fun b => W1.heap.size ≤ b ∧ b < W.heap.size) W m t d0 d1 d2 d3 d4) :
    DrawnKT n m w (.returned (.tuple #[.agg #[c0, c1, c2], .agg #[d0, d1, d2, d3, d4]])) (put5 (put3 W w.heap.size 0 c0 c1 c2) (w.heap.size + 1) 0 d0 d1 d2 d3 d4) := by
  have hb2 : Below w.heap.size w W := below_step h1 h1.size hb
  have hs : (put5 (put3 W w.heap.size 0 c0 c1 c2) (w.heap.size + 1) 0 d0 d1 d2 d3 d4).heap.size = W.heap.size := by rw [put5_size, put3_size]
  have hq : ∀ b, W1.heap.size ≤ b → (put5 (put3 W w.heap.size 0 c0 c1 c2) (w.heap.size + 1) 0 d0 d1 d2 d3 d4).heap[b]? = W.heap[b]? := fun b h => (put5_other (by omega)).trans (put3_other (by omega))
  refine ⟨put5_below (put3_below hb2 (Nat.le_refl _)) (by omega), k, t, _, _, _, _, _, _, _, _, rfl, hk.keep (fun b hb => hq b hb.1) (fun b hb => ⟨by omega, by rw [hs]; exact hb.2⟩), ht.keep (fun b hb => hq b hb.1) (fun b hb => ⟨by omega, by rw [hs]; exact hb.2⟩)⟩

theorem DrawnKT.drew {n m : Nat} {w w' : World} {e : Ending} (h : DrawnKT n m w e w') : DrawnKT n m w e w'.drew := by
  obtain ⟨hb, k, t, c0, c1, c2, d0, d1, d2, d3, d4, he, hk, ht⟩ := h
  exact ⟨hb.drew, k, t, c0, c1, c2, d0, d1, d2, d3, d4, he, KindIn.keep (w := w') (w' := w'.drew) (fun _ _ => rfl) (fun _ h => h) hk, TreeIn.keep (w := w') (w' := w'.drew) (fun _ _ => rfl) (fun _ h => h) ht⟩

set_option maxRecDepth 20000 in
set_option maxHeartbeats 8000000 in
theorem drawKHas_any (m : Nat) (hm : 11 ≤ m) (S : Nat → Prop) (w : World) (ao : Option Addr) (L cap : Nat) (h : CodeIn S w ao L cap) (hS : ∀ b, S b → b < w.heap.size) :
    Calls Tryz.prog 4 #[.slice ao L cap] w (DrawnKT m m w) := by
  obtain ⟨W1, hW1⟩ : ∃ W1, W1 = (w.alloc (.cells #[.int .i64 0, .slice none 0 0, .slice none 0 0] 26)).alloc (.cells #[.int .i64 0, .int .i64 0, .string ⟨#[]⟩, .slice none 0 0, .slice none 0 0] 29) := ⟨_, rfl⟩
  have hz1 : W1.heap.size = w.heap.size + 2 := by rw [hW1]; simp
  have hb1 : Below w.heap.size w W1 := by rw [hW1]; exact ((Below.refl _ _).alloc (Nat.le_refl _) _).alloc (by simp) _
  have hzK : W1.heap[w.heap.size]? = some (.cells #[.int .i64 0, .slice none 0 0, .slice none 0 0] 26 (0, 0)) := by
    rw [hW1]
    have hb : Below (w.heap.size + 1) (w.alloc (.cells #[.int .i64 0, .slice none 0 0, .slice none 0 0] 26)) ((w.alloc (.cells #[.int .i64 0, .slice none 0 0, .slice none 0 0] 26)).alloc (.cells #[.int .i64 0, .int .i64 0, .string ⟨#[]⟩, .slice none 0 0, .slice none 0 0] 29)) := (Below.refl _ _).alloc (by simp) _
    exact (hb.block _ (Nat.lt_succ_self _)).trans (heap_alloc_new _ _)
  have hzT : W1.heap[w.heap.size + 1]? = some (.cells #[.int .i64 0, .int .i64 0, .string ⟨#[]⟩, .slice none 0 0, .slice none 0 0] 29 (0, 0)) := by
    rw [hW1]
    have := heap_alloc_new (w.alloc (.cells #[.int .i64 0, .slice none 0 0, .slice none 0 0] 26)) (.cells #[.int .i64 0, .int .i64 0, .string ⟨#[]⟩, .slice none 0 0, .slice none 0 0] 29)
    rw [show (w.alloc (.cells #[.int .i64 0, .slice none 0 0, .slice none 0 0] 26)).heap.size = w.heap.size + 1 by simp] at this
    exact this
  have HO : Hid (Calls Tryz.prog 12 #[.slice ao L cap] W1 _) := l6Open_any S W1 ao L cap ⟨h.1, h.2.1, fun h0 => by
      obtain ⟨b, off, ha, hb, hc⟩ := h.2.2 h0
      exact ⟨b, off, ha, hb, fun j hj => by
        obtain ⟨u, hu, hcell⟩ := hc j hj
        exact ⟨u, hu, (World.cell?_of_block (hb1.block b (hS b hb))).trans hcell⟩⟩⟩ (fun b hb => by have := hS b hb; omega)
  have HZ : Hid (∀ W, Below W1.heap.size W1 W → W.heap[w.heap.size]? = some (.cells #[.int .i64 0, .slice none 0 0, .slice none 0 0] 26 (0, 0)) ∧ W.heap[w.heap.size + 1]? = some (.cells #[.int .i64 0, .int .i64 0, .string ⟨#[]⟩, .slice none 0 0, .slice none 0 0] 29 (0, 0))) := fun W hW => ⟨(hW.block _ (by omega)).trans hzK, (hW.block _ (by omega)).trans hzT⟩
  have HX : Hid (Below w.heap.size w W1 ∧ W1.heap.size = w.heap.size + 2) := ⟨hb1, hz1⟩
  have hz1' : w.heap.size + 2 ≤ W1.heap.size := by omega
  clear h hb1 hzK hzT hz1
  go_enter Tryz.func4, Tryz.ntmps4
  go_wp2_with fail
  rw [← hW1]
  clear hW1
  refine HO.out.mono ?_
  rintro e w1 ⟨hb1, R, rfl, hR, L', hD⟩
  have hRl := hD.lt
  have HPk : Hid (Calls Tryz.prog 14 #[.pointer (some ⟨R, 0, none⟩), .int .i64 2] w1 (PickPost w1 R ao L' cap 0 2)) := pick_any w1 R ao L' cap 0 2 hD (by omega) (by omega) (by omega)
  have HB1 : Hid (Below W1.heap.size W1 w1) := hb1
  have hs1 := hb1.size
  clear HO hb1 hD
  go_wp2_with fail
  refine HPk.out.mono ?_
  rintro e w2 ⟨y, rfl, hy, hn2, hD2, -⟩
  have HK : Hid (∀ top, Calls Tryz.prog 13 #[.pointer (some ⟨R, 0, none⟩), .bool top] w2 (DSPost m w2 R ao L' cap (0 + 1) 21064)) := fun top => l5SomeOk_any m R ao L' cap (0 + 1) top w2 (by omega) hD2 (by omega)
  have hs2 := hn2.size
  have HB2 : Hid (Below W1.heap.size W1 w2) := near_new HB1.out hR hn2
  clear HPk HB1 hn2 hD2
  go_wp2_with fail
  refine (HK.out _).mono ?_
  rintro e w3 ⟨hn3, p3, k, c0, c1, c2, hp3, hD3, rfl, hk, hdk, hok⟩
  obtain ⟨u0, ua, ul, uc, ya, yl, yc, rfl, rfl, rfl⟩ := hk.shape
  have hs3 := hn3.size
  obtain ⟨W3, hW3⟩ : ∃ W3, W3 = w3.alloc (.cells #[.int .i64 u0, .slice ua ul uc, .slice ya yl yc] 26) := ⟨_, rfl⟩
  have ha3 : Below w3.heap.size w3 W3 := by rw [hW3]; exact (Below.refl _ _).alloc (Nat.le_refl _) _
  have hx3 : Box3 W3 w3.heap.size (.int .i64 u0) (.slice ua ul uc) (.slice ya yl yc) := by rw [hW3]; exact Box3.new _ _ _ _ _
  have hzz3 : w3.heap.size + 1 ≤ W3.heap.size := by rw [hW3]; simp
  have hk3 : KindIn (fun b => w2.heap.size ≤ b ∧ b < w3.heap.size) W3 m k (.int .i64 u0) (.slice ua ul uc) (.slice ya yl yc) := hk.keep (fun b hb => ha3.block b hb.2) (fun _ h => h)
  have HB3 : Hid (Below W1.heap.size W1 W3) := near_new HB2.out hR (hn3.trans (Near.of_below ha3))
  have HT : Hid (Calls Tryz.prog 15 #[.pointer (some ⟨R, 0, none⟩), .agg #[.int .i64 u0, .slice ua ul uc, .slice ya yl yc]] W3 (DTPost m 4 W3 R ao L' cap p3 (pt 4))) := l5Tree_any 4 m R ao L' cap p3 k _ 1 _ _ _ W3 hdk (okK_get hok).1 (okK_get hok).2 hk3 (fun b hb => ⟨by omega, by omega⟩) (hD3.same ha3) (by rw [pt4]; omega)
  have H3 : Hid (KindIn (fun b => w2.heap.size ≤ b ∧ b < w3.heap.size) W3 m k (.int .i64 u0) (.slice ua ul uc) (.slice ya yl yc) ∧ Box3 W3 w3.heap.size (.int .i64 u0) (.slice ua ul uc) (.slice ya yl yc) ∧ depK m k 4 ∧ okK m k = true) := ⟨hk3, hx3, hdk, hok⟩
  obtain ⟨i0, i1, i2⟩ := hx3
  rw [hW3] at i0 i1 i2
  clear HK HB2 hn3 hD3 hk hdk hok ha3 hk3
  go_wp2_with fail
  rw [← hW3]
  clear hW3
  refine HT.out.mono ?_
  rintro e w4 ⟨hn4, p4, t, e0, e1, e2, e3, e4, hp4, hD4, rfl, ht, hdt⟩
  rw [pt4] at hp4
  obtain ⟨t0, t1, t2, ta, tl, tc, va, vl, vc, rfl, rfl, rfl, rfl, rfl⟩ := ht.shape
  have hs4 := hn4.size
  clear i0 i1 i2
  obtain ⟨W4, hW4⟩ : ∃ W4, W4 = w4.alloc (.cells #[.int .i64 t0, .int .i64 t1, .string t2, .slice ta tl tc, .slice va vl vc] 29) := ⟨_, rfl⟩
  have ha4 : Below w4.heap.size w4 W4 := by rw [hW4]; exact (Below.refl _ _).alloc (Nat.le_refl _) _
  have hx4 : Box5 W4 w4.heap.size (.int .i64 t0) (.int .i64 t1) (.string t2) (.slice ta tl tc) (.slice va vl vc) := by rw [hW4]; exact Box5.new _ _ _ _ _ _ _
  have hzz4 : w4.heap.size + 1 ≤ W4.heap.size := by rw [hW4]; simp
  have hn34 : Near R W3 W4 := hn4.trans (Near.of_below ha4)
  have HPk : Hid (Calls Tryz.prog 14 #[.pointer (some ⟨R, 0, none⟩), .int .i64 8] W4 (PickPost W4 R ao L' cap p4 8)) := pick_any W4 R ao L' cap p4 8 (hD4.same ha4) (by omega) (by omega) (by omega)
  have H4 : Hid (Near R W3 W4 ∧ TreeIn (fun b => W3.heap.size ≤ b ∧ b < w4.heap.size) W4 m t (.int .i64 t0) (.int .i64 t1) (.string t2) (.slice ta tl tc) (.slice va vl vc) ∧ Box5 W4 w4.heap.size (.int .i64 t0) (.int .i64 t1) (.string t2) (.slice ta tl tc) (.slice va vl vc) ∧ depT m t 4) := ⟨hn34, ht.keep (fun b hb => ha4.block b hb.2) (fun _ h => h), hx4, hdt⟩
  clear HT hn4 hD4 ht hdt ha4 hn34 hx4
  go_wp2_with fail
  rw [← hW4]
  clear hW4
  refine HPk.out.mono ?_
  rintro e w5 ⟨z, rfl, hz, hn5, hD5, -⟩
  have hs5 := hn5.size
  have hn35 : Near R W3 w5.drew := (H4.out.1.trans hn5).drew
  have hn45 : Near R W4 w5.drew := hn5.drew
  have hk5 : KindIn (fun b => w2.heap.size ≤ b ∧ b < w3.heap.size) w5.drew m k (.int .i64 u0) (.slice ua ul uc) (.slice ya yl yc) := H3.out.1.keep (fun b hb => hn35.block b (by omega) (by omega)) (fun _ h => h)
  have ht5 : TreeIn (fun b => W3.heap.size ≤ b ∧ b < w4.heap.size) w5.drew m t (.int .i64 t0) (.int .i64 t1) (.string t2) (.slice ta tl tc) (.slice va vl vc) := H4.out.2.1.keep (fun b hb => hn45.block b (by omega) (by omega)) (fun _ h => h)
  have hb5 : Below W1.heap.size W1 w5.drew := near_new HB3.out hR hn35
  have hD5' : Dr w5.drew R ao L' cap (p4 + 1) := hD5.same ((Below.refl _ _).drew)
  have hbox3 : Box3 w5 w3.heap.size (.int .i64 u0) (.slice ua ul uc) (.slice ya yl yc) := ⟨(H4.out.1.trans hn5).cell H3.out.2.1.c0 (by omega), (H4.out.1.trans hn5).cell H3.out.2.1.c1 (by omega), (H4.out.1.trans hn5).cell H3.out.2.1.c2 (by omega)⟩
  have hbox5 : Box5 w5 w4.heap.size (.int .i64 t0) (.int .i64 t1) (.string t2) (.slice ta tl tc) (.slice va vl vc) := ⟨hn5.cell H4.out.2.2.1.c0 (by omega), hn5.cell H4.out.2.2.1.c1 (by omega), hn5.cell H4.out.2.2.1.c2 (by omega), hn5.cell H4.out.2.2.1.c3 (by omega), hn5.cell H4.out.2.2.1.c4 (by omega)⟩
  have H5 : Hid (KindIn (fun b => w2.heap.size ≤ b ∧ b < w3.heap.size) w5.drew m k (.int .i64 u0) (.slice ua ul uc) (.slice ya yl yc) ∧ TreeIn (fun b => W3.heap.size ≤ b ∧ b < w4.heap.size) w5.drew m t (.int .i64 t0) (.int .i64 t1) (.string t2) (.slice ta tl tc) (.slice va vl vc) ∧ Below W1.heap.size W1 w5.drew) := ⟨hk5, ht5, hb5⟩
  have hsd : w5.drew.heap.size = w5.heap.size := rfl
  have H6 : Hid (Below W1.heap.size W1 w5) := near_new HB3.out hR (H4.out.1.trans hn5)
  have HN : Hid (∀ W, Near R w5.drew W → (Box3 W w3.heap.size (.int .i64 u0) (.slice ua ul uc) (.slice ya yl yc) ∧ Box5 W w4.heap.size (.int .i64 t0) (.int .i64 t1) (.string t2) (.slice ta tl tc) (.slice va vl vc)) ∧ Below W1.heap.size W1 W) := fun W hW => ⟨⟨⟨hW.cell hbox3.c0 (by omega), hW.cell hbox3.c1 (by omega), hW.cell hbox3.c2 (by omega)⟩, ⟨hW.cell hbox5.c0 (by omega), hW.cell hbox5.c1 (by omega), hW.cell hbox5.c2 (by omega), hW.cell hbox5.c3 (by omega), hW.cell hbox5.c4 (by omega)⟩⟩, near_new H5.out.2.2 hR hW⟩
  obtain ⟨i0, i1, i2⟩ := hbox3
  obtain ⟨j0, j1, j2, j3, j4⟩ := hbox5
  have n1 : ¬ w.heap.size = w3.heap.size := by omega
  have n2 : ¬ w.heap.size = w4.heap.size := by omega
  have n3 : ¬ w.heap.size + 1 = w3.heap.size := by omega
  have n4 : ¬ w.heap.size + 1 = w4.heap.size := by omega
  clear hk5 ht5 hb5 hn35 hn45 hn5 hD5
  by_cases z0 : z = 0
  · subst z0
    have HS : Hid (Calls Tryz.prog 16 #[.pointer (some ⟨R, 0, none⟩), .agg #[.int .i64 t0, .int .i64 t1, .string t2, .slice ta tl tc, .slice va vl vc]] w5.drew (SpoilPostT m (fun b => W3.heap.size ≤ b ∧ b < w4.heap.size) w5.drew R ao L' cap (p4 + 1) (10 * 4))) :=
      spoilT_any 4 m R ao L' cap (p4 + 1) _ t _ _ _ _ _ w5.drew (by omega) H4.out.2.2.2 H5.out.2.1 (fun b hb => ⟨by omega, by omega⟩) hD5' (by omega)
    clear HPk H3 H4 hD5'
    go_upto_region 6 with fail
    go_region_held (fun w' => (w'.cell? ⟨w3.heap.size, 0, none⟩ = some (.int .i64 u0) ∧ w'.cell? ⟨w3.heap.size, 1, none⟩ = some (.slice ua ul uc) ∧ w'.cell? ⟨w3.heap.size, 2, none⟩ = some (.slice ya yl yc)) ∧ w'.cell? ⟨w4.heap.size, 0, none⟩ = some (.int .i64 t0) ∧ w'.cell? ⟨w4.heap.size, 1, none⟩ = some (.int .i64 t1) ∧ w'.cell? ⟨w4.heap.size, 2, none⟩ = some (.string t2) ∧ w'.cell? ⟨w4.heap.size, 3, none⟩ = some (.slice ta tl tc) ∧ w'.cell? ⟨w4.heap.size, 4, none⟩ = some (.slice va vl vc)) (first | with_reducible assumption | go_keep) (first | (go_at_call 16; refine HS.out.mono ?_; rintro e w6 ⟨hn6, p6, t6, d0, d1, d2, d3, d4, hp6, hD6, rfl, ht6⟩; obtain ⟨v0, v1, v2, ra, rl, rc, sa, sl, sc, rfl, rfl, rfl, rfl, rfl⟩ := ht6.shape; obtain ⟨⟨⟨a0, a1, a2⟩, b0, b1, b2, b3, b4⟩, hb6⟩ := HN.out w6 hn6; obtain ⟨q1, q2⟩ := HZ.out w6 hb6; have hz6 := hn6.size; have HP : Hid (DrawnKT m m w (.returned (.tuple #[.agg #[.int .i64 u0, .slice ua ul uc, .slice ya yl yc], .agg #[.int .i64 v0, .int .i64 v1, .string v2, .slice ra rl rc, .slice sa sl sc]])) (put5 (put3 w6 w.heap.size 0 (.int .i64 u0) (.slice ua ul uc) (.slice ya yl yc)) (w.heap.size + 1) 0 (.int .i64 v0) (.int .i64 v1) (.string v2) (.slice ra rl rc) (.slice sa sl sc))) := kt_exit HX.out.1 HX.out.2 hb6 (H5.out.1.keep (fun b hb => hn6.block b (by omega) (by omega)) (fun b hb => ⟨by omega, by omega⟩)) (ht6.keep (fun _ _ => rfl) (fun b hb => hb.elim (fun h => ⟨by omega, by omega⟩) (fun h => ⟨by omega, h.2⟩))); obtain ⟨⟨r0, r1, r2⟩, f0, f1, f2⟩ := zeroD_cells q1; obtain ⟨⟨s0, s1, s2, s3, s4⟩, k0, k1, k2, k3, k4⟩ := five_cells q2; clear hn6 hD6 ht6 hb6 q1 q2))
    all_goals
      go_wp2_with fail
      refine bodyPost_ret (v := .tuple #[.agg #[.int .i64 u0, .slice ua ul uc, .slice ya yl yc], .agg #[.int .i64 v0, .int .i64 v1, .string v2, .slice ra rl rc, .slice sa sl sc]]) (by simp [results, Tryz.results4, go_sem, r0, r1, r2, s0, s1, s2, s3, s4]) rfl ?_
      exact HP.out
  have z0i : ¬ (z : Int) = 0 := by omega
  by_cases z1 : z = 1
  · subst z1
    have HS : Hid (Calls Tryz.prog 17 #[.pointer (some ⟨R, 0, none⟩), .agg #[.int .i64 u0, .slice ua ul uc, .slice ya yl yc]] w5.drew (SpoilPost m (fun b => w2.heap.size ≤ b ∧ b < w3.heap.size) w5.drew R ao L' cap (p4 + 1) (50 * 4))) :=
      spoil_any 4 m R ao L' cap (p4 + 1) _ k _ _ _ w5.drew (by omega) H3.out.2.2.1 H5.out.1 (fun b hb => ⟨by omega, by omega⟩) hD5' (by omega)
    clear HPk H3 H4 hD5'
    go_upto_region 8 with fail
    go_region_held (fun w' => (w'.cell? ⟨w3.heap.size, 0, none⟩ = some (.int .i64 u0) ∧ w'.cell? ⟨w3.heap.size, 1, none⟩ = some (.slice ua ul uc) ∧ w'.cell? ⟨w3.heap.size, 2, none⟩ = some (.slice ya yl yc)) ∧ w'.cell? ⟨w4.heap.size, 0, none⟩ = some (.int .i64 t0) ∧ w'.cell? ⟨w4.heap.size, 1, none⟩ = some (.int .i64 t1) ∧ w'.cell? ⟨w4.heap.size, 2, none⟩ = some (.string t2) ∧ w'.cell? ⟨w4.heap.size, 3, none⟩ = some (.slice ta tl tc) ∧ w'.cell? ⟨w4.heap.size, 4, none⟩ = some (.slice va vl vc)) (first | with_reducible assumption | go_keep) (first | (go_at_call 17; refine HS.out.mono ?_; rintro e w6 ⟨hn6, p6, k6, d0, d1, d2, hp6, hD6, rfl, hk6⟩; obtain ⟨v0, ra, rl, rc, sa, sl, sc, rfl, rfl, rfl⟩ := hk6.shape; obtain ⟨⟨⟨a0, a1, a2⟩, b0, b1, b2, b3, b4⟩, hb6⟩ := HN.out w6 hn6; obtain ⟨q1, q2⟩ := HZ.out w6 hb6; have hz6 := hn6.size; have HP : Hid (DrawnKT m m w (.returned (.tuple #[.agg #[.int .i64 v0, .slice ra rl rc, .slice sa sl sc], .agg #[.int .i64 t0, .int .i64 t1, .string t2, .slice ta tl tc, .slice va vl vc]])) (put5 (put3 w6 w.heap.size 0 (.int .i64 v0) (.slice ra rl rc) (.slice sa sl sc)) (w.heap.size + 1) 0 (.int .i64 t0) (.int .i64 t1) (.string t2) (.slice ta tl tc) (.slice va vl vc))) := kt_exit HX.out.1 HX.out.2 hb6 (hk6.keep (fun _ _ => rfl) (fun b hb => hb.elim (fun h => ⟨by omega, by omega⟩) (fun h => ⟨by omega, h.2⟩))) (H5.out.2.1.keep (fun b hb => hn6.block b (by omega) (by omega)) (fun b hb => ⟨by omega, by omega⟩)); obtain ⟨⟨r0, r1, r2⟩, f0, f1, f2⟩ := zeroD_cells q1; obtain ⟨⟨s0, s1, s2, s3, s4⟩, k0, k1, k2, k3, k4⟩ := five_cells q2; clear hn6 hD6 hk6 hb6 q1 q2))
    all_goals
      go_wp2_with fail
      refine bodyPost_ret (v := .tuple #[.agg #[.int .i64 v0, .slice ra rl rc, .slice sa sl sc], .agg #[.int .i64 t0, .int .i64 t1, .string t2, .slice ta tl tc, .slice va vl vc]]) (by simp [results, Tryz.results4, go_sem, r0, r1, r2, s0, s1, s2, s3, s4]) rfl ?_
      exact HP.out
  have z1i : ¬ (z : Int) = 1 := by omega
  by_cases z2 : z = 2
  · subst z2
    have HS : Hid (Calls Tryz.prog 18 #[.pointer (some ⟨R, 0, none⟩), .agg #[.int .i64 u0, .slice ua ul uc, .slice ya yl yc]] w5.drew (DKPost m (2 * 4 + 3) w5.drew R ao L' cap (p4 + 1) (700 * cntK m k))) :=
      wider_any 4 m m R ao L' cap (p4 + 1) _ k 1 _ _ _ w5.drew (by omega) H3.out.2.2.1 (okK_get H3.out.2.2.2).1 (okK_get H3.out.2.2.2).2 H5.out.1 (fun b hb => ⟨by omega, by omega⟩) hD5' (by have := (okK_get H3.out.2.2.2).2; omega)
    clear HPk H3 H4 hD5'
    go_upto_region 10 with fail
    go_region_held (fun w' => (w'.cell? ⟨w3.heap.size, 0, none⟩ = some (.int .i64 u0) ∧ w'.cell? ⟨w3.heap.size, 1, none⟩ = some (.slice ua ul uc) ∧ w'.cell? ⟨w3.heap.size, 2, none⟩ = some (.slice ya yl yc)) ∧ w'.cell? ⟨w4.heap.size, 0, none⟩ = some (.int .i64 t0) ∧ w'.cell? ⟨w4.heap.size, 1, none⟩ = some (.int .i64 t1) ∧ w'.cell? ⟨w4.heap.size, 2, none⟩ = some (.string t2) ∧ w'.cell? ⟨w4.heap.size, 3, none⟩ = some (.slice ta tl tc) ∧ w'.cell? ⟨w4.heap.size, 4, none⟩ = some (.slice va vl vc)) (first | with_reducible assumption | go_keep) (first | (go_at_call 18; refine HS.out.mono ?_; rintro e w6 ⟨hn6, p6, k6, d0, d1, d2, hp6, hD6, rfl, hk6, hdk6⟩; obtain ⟨v0, ra, rl, rc, sa, sl, sc, rfl, rfl, rfl⟩ := hk6.shape; obtain ⟨⟨⟨a0, a1, a2⟩, b0, b1, b2, b3, b4⟩, hb6⟩ := HN.out w6 hn6; obtain ⟨q1, q2⟩ := HZ.out w6 hb6; have hz6 := hn6.size; have HP : Hid (DrawnKT m m w (.returned (.tuple #[.agg #[.int .i64 v0, .slice ra rl rc, .slice sa sl sc], .agg #[.int .i64 t0, .int .i64 t1, .string t2, .slice ta tl tc, .slice va vl vc]])) (put5 (put3 w6 w.heap.size 0 (.int .i64 v0) (.slice ra rl rc) (.slice sa sl sc)) (w.heap.size + 1) 0 (.int .i64 t0) (.int .i64 t1) (.string t2) (.slice ta tl tc) (.slice va vl vc))) := kt_exit HX.out.1 HX.out.2 hb6 (hk6.keep (fun _ _ => rfl) (fun b hb => ⟨by omega, hb.2⟩)) (H5.out.2.1.keep (fun b hb => hn6.block b (by omega) (by omega)) (fun b hb => ⟨by omega, by omega⟩)); obtain ⟨⟨r0, r1, r2⟩, f0, f1, f2⟩ := zeroD_cells q1; obtain ⟨⟨s0, s1, s2, s3, s4⟩, k0, k1, k2, k3, k4⟩ := five_cells q2; clear hn6 hD6 hk6 hdk6 hb6 q1 q2))
    all_goals
      go_wp2_with fail
      refine bodyPost_ret (v := .tuple #[.agg #[.int .i64 v0, .slice ra rl rc, .slice sa sl sc], .agg #[.int .i64 t0, .int .i64 t1, .string t2, .slice ta tl tc, .slice va vl vc]]) (by simp [results, Tryz.results4, go_sem, r0, r1, r2, s0, s1, s2, s3, s4]) rfl ?_
      exact HP.out
  have z2i : ¬ (z : Int) = 2 := by omega
  obtain ⟨q1, q2⟩ := HZ.out w5 H6.out
  have HP : Hid (DrawnKT m m w (.returned (.tuple #[.agg #[.int .i64 u0, .slice ua ul uc, .slice ya yl yc], .agg #[.int .i64 t0, .int .i64 t1, .string t2, .slice ta tl tc, .slice va vl vc]])) (put5 (put3 w5 w.heap.size 0 (.int .i64 u0) (.slice ua ul uc) (.slice ya yl yc)) (w.heap.size + 1) 0 (.int .i64 t0) (.int .i64 t1) (.string t2) (.slice ta tl tc) (.slice va vl vc)).drew) := (kt_exit HX.out.1 HX.out.2 H6.out (KindIn.keep (w := w5.drew) (w' := w5) (fun _ _ => rfl) (fun b hb => ⟨by omega, by omega⟩) H5.out.1) (TreeIn.keep (w := w5.drew) (w' := w5) (fun _ _ => rfl) (fun b hb => ⟨by omega, by omega⟩) H5.out.2.1)).drew
  obtain ⟨⟨r0, r1, r2⟩, f0, f1, f2⟩ := zeroD_cells (w := w5) q1
  obtain ⟨⟨s0, s1, s2, s3, s4⟩, k0, k1, k2, k3, k4⟩ := five_cells (w := w5) q2
  clear HPk H3 H4 H5 H6 HN HZ HX hD5' q1 q2
  go_upto_region 11 with fail
  go_region_held (fun w' => (w'.cell? ⟨w3.heap.size, 0, none⟩ = some (.int .i64 u0) ∧ w'.cell? ⟨w3.heap.size, 1, none⟩ = some (.slice ua ul uc) ∧ w'.cell? ⟨w3.heap.size, 2, none⟩ = some (.slice ya yl yc)) ∧ w'.cell? ⟨w4.heap.size, 0, none⟩ = some (.int .i64 t0) ∧ w'.cell? ⟨w4.heap.size, 1, none⟩ = some (.int .i64 t1) ∧ w'.cell? ⟨w4.heap.size, 2, none⟩ = some (.string t2) ∧ w'.cell? ⟨w4.heap.size, 3, none⟩ = some (.slice ta tl tc) ∧ w'.cell? ⟨w4.heap.size, 4, none⟩ = some (.slice va vl vc)) (first | with_reducible assumption | go_keep) (fail)
  all_goals
      go_wp2_with fail
      refine bodyPost_ret (v := .tuple #[.agg #[.int .i64 u0, .slice ua ul uc, .slice ya yl yc], .agg #[.int .i64 t0, .int .i64 t1, .string t2, .slice ta tl tc, .slice va vl vc]]) (by simp [results, Tryz.results4, go_sem, r0, r1, r2, s0, s1, s2, s3, s4]) rfl ?_
      exact HP.out

end Go.Proofs.YtfbfchffnapnnaaGreatDoor
