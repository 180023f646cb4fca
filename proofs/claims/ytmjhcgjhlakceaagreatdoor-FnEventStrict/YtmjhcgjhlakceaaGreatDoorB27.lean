/-
  Several texts in one, in their order.
-/
import Derived.Test.YtmjhcgjhlakceaaGreatDoorDP1
import Derived.Test.YtmjhcgjhlakceaaGreatDoorB26
import Derived.Test.YtmjhcgjhlakceaaGreatDoorDF1
import Derived.Test.YtmjhcgjhlakceaaGreatDoorB24
import Derived.Test.YtmjhcgjhlakceaaGreatDoorB10
import Derived.Deep.RegionLaw
import Derived.Deep.Cut
import Derived.Deep.CutRange
import Derived.Lib.Hide
import Derived.WalkSmall
import Derived.LoopTactic
import Derived.Test.YtmjhcgjhlakceaaGreatDoorB25

namespace Go.Proofs.YtmjhcgjhlakceaaGreatDoor
open Go.RowKit
theorem spoilT_any : ∀ d, SpoilTSaid d := by
 intro d
 induction d with
 | zero =>
  intro m R ao L cap p S t c0 c1 c2 c3 c4 w hm hdt
  obtain ⟨m, rfl⟩ : ∃ m', m = m' + 1 := ⟨m - 1, by omega⟩
  exact absurd hdt.1 (by omega)
 | succ d ih => exact spoilT_step d ih
def AnyPostT (m : Nat) (w : World) (R : Nat) (ao : Option Addr) (L cap p q : Nat) (e : Ending) (w' : World) : Prop :=
 Near R w w' /\ ∃ (p' : Nat) (t : T m) (c0 c1 c2 c3 c4 : Value), p' <= p + q /\ Dr w' R ao L cap p' /\ e = .returned (.agg #[c0, c1, c2, c3, c4]) /\ TreeIn (fun b => w.heap.size <= b /\ b < w'.heap.size) w' m t c0 c1 c2 c3 c4
theorem anyT_exit {m R L cap p p' q : Nat} {ao : Option Addr} {w W : World} {t : T m} {g0 g1 g2 g3 g4 : Value} (h : Dr w R ao L cap p) (hn : Near R w W) (hb : W.heap[R]? = some (.cells #[.slice ao L cap, .int .i64 (p' : Int)] 79 (0, 0))) (hp : p' <= p + q) (hk : TreeIn (fun b => w.heap.size + 1 <= b /\ b < W.heap.size) W m t g0 g1 g2 g3 g4) :
  AnyPostT m w R ao L cap p q (.returned (.agg #[g0, g1, g2, g3, g4])) (put5 W w.heap.size 0 g0 g1 g2 g3 g4) := by
 have hR := h.lt
 have qq : ∀ b, b ≠ w.heap.size -> (put5 W w.heap.size 0 g0 g1 g2 g3 g4).heap[b]? = W.heap[b]? := fun b h => put5_other h
 have hz : (put5 W w.heap.size 0 g0 g1 g2 g3 g4).heap.size = W.heap.size := put5_size
 have hbl : Below 0 W (put5 W w.heap.size 0 g0 g1 g2 g3 g4) := put5_below (Below.refl 0 W) (Nat.zero_le _)
 have hn' : Near R w (put5 W w.heap.size 0 g0 g1 g2 g3 g4) := ⟨by rw [hbl.os]; exact hn.os, by rw [hbl.tape]; exact hn.tape, by rw [hbl.output]; exact hn.output, by rw [hz]; exact hn.size, fun b hb hne => (qq b (by omega)).trans (hn.block b hb hne)⟩
 exact ⟨hn', p', t, _, _, _, _, _, hp, h.keep hn' ((qq R (by omega)).trans hb), rfl, hk.keep (fun b hb => qq b (by omega)) (fun b hb => ⟨by omega, by rw [hz]; exact hb.2⟩)⟩
theorem pt4 : pt 4 = 262564 := by decide
set_option maxRecDepth 20000 in
set_option maxHeartbeats 4000000 in
theorem l5Any_any (m R : Nat) (ao : Option Addr) (L cap p : Nat) (w : World) (hm : 8 <= m) (h : Dr w R ao L cap p) (hp : p <= 500000) :
  Calls Tryz.prog 45 #[.pointer (some ⟨R, 0, none⟩)] w (AnyPostT m w R ao L cap p 300000) := by
 have hR := h.lt
 have HD0 : Hid (Dr w R ao L cap p) := h
 obtain ⟨W1, hW1⟩ : ∃ W1, W1 = w.alloc (.cells #[.int .i64 0, .int .i64 0, .string ⟨#[]⟩, .slice none 0 0, .slice none 0 0] 27) := ⟨_, rfl⟩
 have hz1 : W1.heap.size = w.heap.size + 1 := by rw [hW1]; simp
 have hb1 : Below w.heap.size w W1 := by rw [hW1]; exact (Below.refl _ _).alloc (Nat.le_refl _) _
 have hzero : W1.heap[w.heap.size]? = some (.cells #[.int .i64 0, .int .i64 0, .string ⟨#[]⟩, .slice none 0 0, .slice none 0 0] 27 (0, 0)) := by rw [hW1]; exact heap_alloc_new _ _
 have HZ : Hid (∀ W, Near R W1 W -> Near R w W /\ W.heap[w.heap.size]? = some (.cells #[.int .i64 0, .int .i64 0, .string ⟨#[]⟩, .slice none 0 0, .slice none 0 0] 27 (0, 0))) := fun W hW =>
  ⟨(Near.of_below hb1).trans hW, (hW.block _ (by omega) (by omega)).trans hzero⟩
 have HPk : Hid (Calls Tryz.prog 17 #[.pointer (some ⟨R, 0, none⟩), .int .i64 24] W1 (PickPost W1 R ao L cap p 24)) := pick_any W1 R ao L cap p 24 (h.same hb1) (by omega) (by omega) (by omega)
 clear h hb1 hzero
 go_enter Tryz.func45, Tryz.ntmps45
 go_wp2_with fail
 rw [<- hW1]
 clear hW1
 refine HPk.out.mono ?_
 rintro e w2 ⟨y, rfl, hy, hn2, hD2, -⟩
 have HN2 : Hid (Near R W1 w2 /\ Dr w2 R ao L cap (p + 1)) := ⟨hn2, hD2⟩
 have hz2 := hn2.size
 clear HPk hn2 hD2
 have HMade : Hid (∀ (d : Nat) (w3 w4 : World) (c0 c1 c2 c3 c4 : Value), d <= 8 -> Near R w2 w3 -> Dr w3 R ao L cap (p + 1 + 1) -> Below w3.heap.size w3 w4 -> (∀ m, d <= m -> ∃ t : T m, TreeIn (fun b => w3.heap.size <= b /\ b < w4.heap.size) w4 m t c0 c1 c2 c3 c4 /\ depT m t d) -> AnyPostT m w R ao L cap p 300000 (.returned (.agg #[c0, c1, c2, c3, c4])) (put5 w4 w.heap.size 0 c0 c1 c2 c3 c4)) := fun d w3 w4 c0 c1 c2 c3 c4 hd hn3 hD3 hb4 ht => by
  obtain ⟨t, ht, -⟩ := ht m (by omega)
  have hs3 := hn3.size
  have hn4 := (HN2.out.1.trans hn3).trans (Near.of_below hb4)
  exact anyT_exit HD0.out (HZ.out _ hn4).1 (hD3.same hb4).box (by omega) (ht.keep (fun _ _ => rfl) (fun b hb => ⟨by omega, hb.2⟩))
 by_cases y0 : y = 0
 ·subst y0
  have HP2 : Hid (Calls Tryz.prog 17 #[.pointer (some ⟨R, 0, none⟩), .int .i64 2] w2 (PickPost w2 R ao L cap (p + 1) 2)) := pick_any w2 R ao L cap (p + 1) 2 HN2.out.2 (by omega) (by omega) (by omega)
  go_wp2_with fail
  refine HP2.out.mono ?_
  rintro e w3 ⟨a, rfl, ha, hn3, hD3, -⟩
  have hw : IntKind.i64.wrap (120 + (a : Int)) = ((120 + a : Nat) : Int) := by rw [IntKind.wrap_i64]; omega
  have HF : Hid (Calls Tryz.prog 46 #[.int .i64 (120 + (a : Int))] w3 (MadeT 4 w3)) := by
   have := l5Full_any (120 + a) w3 (by omega) (by omega)
   rw [show ((120 + a : Nat) : Int) = 120 + (a : Int) by omega] at this; exact this
  rw [show ((120 + a : Nat) : Int) = 120 + (a : Int) by omega] at hw
  clear HP2
  go_wp2_with fail
  refine HF.out.mono ?_
  rintro e w4 ⟨hb4, c0, c1, c2, c3, c4, rfl, ht⟩
  obtain ⟨t4, ht4, -⟩ := ht 4 (Nat.le_refl _)
  obtain ⟨t0, t1, t2, ta, tl, tc, ua, ul, uc, rfl, rfl, rfl, rfl, rfl⟩ := ht4.shape
  have HP : Hid (AnyPostT m w R ao L cap p 300000 (.returned (.agg #[.int .i64 t0, .int .i64 t1, .string t2, .slice ta tl tc, .slice ua ul uc])) (put5 w4 w.heap.size 0 (.int .i64 t0) (.int .i64 t1) (.string t2) (.slice ta tl tc) (.slice ua ul uc))) := HMade.out 4 w3 w4 _ _ _ _ _ (by omega) hn3 hD3 hb4 ht
  obtain ⟨⟨r0, r1, r2, r3, r4⟩, f0, f1, f2, f3, f4⟩ := five_cells (HZ.out w4 ((HN2.out.1.trans hn3).trans (Near.of_below hb4))).2
  clear HF ht ht4 hb4 hn3 hD3 HMade
  go_wp2_with fail
  refine bodyPost_ret (v := .agg #[.int .i64 t0, .int .i64 t1, .string t2, .slice ta tl tc, .slice ua ul uc]) (by simp [results, Tryz.results45, go_sem, r0, r1, r2, r3, r4]) rfl ?_
  exact HP.out
 by_cases y1 : y = 1
 ·subst y1
  have HP2 : Hid (Calls Tryz.prog 17 #[.pointer (some ⟨R, 0, none⟩), .int .i64 2] w2 (PickPost w2 R ao L cap (p + 1) 2)) := pick_any w2 R ao L cap (p + 1) 2 HN2.out.2 (by omega) (by omega) (by omega)
  go_wp2_with fail
  refine HP2.out.mono ?_
  rintro e w3 ⟨a, rfl, ha, hn3, hD3, -⟩
  have hw : IntKind.i64.wrap (6 + (a : Int)) = 6 + (a : Int) := by rw [IntKind.wrap_i64]; omega
  have HF : Hid (Calls Tryz.prog 89 #[.int .i64 (6 + (a : Int))] w3 (MadeT (6 + a) w3)) := by
   have := l5Deep_any (6 + a) w3 (by omega) (by omega)
   rw [show ((6 + a : Nat) : Int) = 6 + (a : Int) by omega] at this; exact this
  clear HP2
  go_wp2_with fail
  refine HF.out.mono ?_
  rintro e w4 ⟨hb4, c0, c1, c2, c3, c4, rfl, ht⟩
  obtain ⟨t4, ht4, -⟩ := ht (6 + a) (Nat.le_refl _)
  obtain ⟨t0, t1, t2, ta, tl, tc, ua, ul, uc, rfl, rfl, rfl, rfl, rfl⟩ := ht4.shape
  have HP : Hid (AnyPostT m w R ao L cap p 300000 (.returned (.agg #[.int .i64 t0, .int .i64 t1, .string t2, .slice ta tl tc, .slice ua ul uc])) (put5 w4 w.heap.size 0 (.int .i64 t0) (.int .i64 t1) (.string t2) (.slice ta tl tc) (.slice ua ul uc))) := HMade.out (6 + a) w3 w4 _ _ _ _ _ (by omega) hn3 hD3 hb4 ht
  obtain ⟨⟨r0, r1, r2, r3, r4⟩, f0, f1, f2, f3, f4⟩ := five_cells (HZ.out w4 ((HN2.out.1.trans hn3).trans (Near.of_below hb4))).2
  clear HF ht ht4 hb4 hn3 hD3 HMade
  go_wp2_with fail
  refine bodyPost_ret (v := .agg #[.int .i64 t0, .int .i64 t1, .string t2, .slice ta tl tc, .slice ua ul uc]) (by simp [results, Tryz.results45, go_sem, r0, r1, r2, r3, r4]) rfl ?_
  exact HP.out
 clear HMade
 have e0 : ((y : Int) == 0) = false := by simp; omega
 have e1 : ((y : Int) == 1) = false := by simp; omega
 have HTree : Hid (∀ (p4 : Nat) (w3 w4 : World) (k : K m) (c0 c1 c2 : Value), p4 <= p + 21070 -> Near R w2 w3 -> Near R w3 w4 -> Dr w4 R ao L cap p4 -> KindIn (fun b => w3.heap.size <= b /\ b < w4.heap.size) w4 m k c0 c1 c2 -> depK m k 4 -> okK m k = true ->
   Calls Tryz.prog 43 #[.pointer (some ⟨R, 0, none⟩), .agg #[c0, c1, c2]] w4 (DTPost m 4 w4 R ao L cap p4 262564)) := fun p4 w3 w4 k c0 c1 c2 hq h23 h34 hD4 hk hdk hok => by
  have hs := h23.size
  simp only [okK, Bool.and_eq_true, decide_eq_true_eq] at hok
  have := l5Tree_any 4 m R ao L cap p4 k _ 1 c0 c1 c2 w4 hdk hok.1 hok.2 hk (fun b hb => ⟨hb.2, by omega⟩) hD4 (by rw [pt4]; omega)
  rw [pt4] at this; exact this
 by_cases y23 : y = 2 ∨ y = 3
 ·have HSm : Hid (Calls Tryz.prog 44 #[.pointer (some ⟨R, 0, none⟩), .bool true] w2 (DSPost m w2 R ao L cap (p + 1) 21064)) := l5SomeOk_any m R ao L cap (p + 1) true w2 (by omega) HN2.out.2 (by omega)
  rcases y23 with rfl | rfl
  all_goals
   clear e0 e1 y0 y1
   go_wp2_with fail
   refine HSm.out.mono ?_
   rintro e w4 ⟨hn4, p4, k, c0, c1, c2, hp4, hD4, rfl, hk, hdk, hok⟩
   obtain ⟨u0, ua, ul, uc, ya, yl, yc, rfl, rfl, rfl⟩ := hk.shape
   have HT : Hid (Calls Tryz.prog 43 #[.pointer (some ⟨R, 0, none⟩), .agg #[.int .i64 u0, .slice ua ul uc, .slice ya yl yc]] w4 (DTPost m 4 w4 R ao L cap p4 262564)) := HTree.out p4 w2 w4 k _ _ _ (by omega) (Near.refl _ _) hn4 hD4 hk hdk hok
   have HN4 : Hid (Near R W1 w4) := HN2.out.1.trans hn4
   have hz4 := hn4.size
   clear HSm hn4 hD4 hk hdk hok
   go_wp2_with fail
   refine HT.out.mono ?_
   rintro e w5 ⟨hn5, p5, t5, d0, d1, d2, d3, d4, hp5, hD5, rfl, ht5, hdt⟩
   obtain ⟨s0, s1, s2, sa, sl, sc, sb, sm, sd, rfl, rfl, rfl, rfl, rfl⟩ := ht5.shape
   have hz5 := hn5.size
   have HSp : Hid (Calls Tryz.prog 90 #[.pointer (some ⟨R, 0, none⟩), .agg #[.int .i64 s0, .int .i64 s1, .string s2, .slice sa sl sc, .slice sb sm sd]] w5 (SpoilPostT m (fun b => w4.heap.size <= b /\ b < w5.heap.size) w5 R ao L cap p5 (10 * 4))) :=
    spoilT_any 4 m R ao L cap p5 _ t5 _ _ _ _ _ w5 (by omega) hdt ht5 (fun b hb => ⟨hb.2, by omega⟩) hD5 (by omega)
   have HN5 : Hid (Near R W1 w5) := HN4.out.trans hn5
   clear HT hn5 hD5 ht5 hdt
   go_wp2_with fail
   refine HSp.out.mono ?_
   rintro e w6 ⟨hn6, p6, t6, c0, c1, c2, c3, c4, hp6, hD6, rfl, ht6⟩
   obtain ⟨t0, t1, t2, ta, tl, tc, va, vl, vc, rfl, rfl, rfl, rfl, rfl⟩ := ht6.shape
   have hz6 := hn6.size
   have hnn := HZ.out w6 (HN5.out.trans hn6)
   have HP : Hid (AnyPostT m w R ao L cap p 300000 (.returned (.agg #[.int .i64 t0, .int .i64 t1, .string t2, .slice ta tl tc, .slice va vl vc])) (put5 w6 w.heap.size 0 (.int .i64 t0) (.int .i64 t1) (.string t2) (.slice ta tl tc) (.slice va vl vc))) :=
    anyT_exit HD0.out hnn.1 hD6.box (by omega) (ht6.keep (fun _ _ => rfl) (fun b hb => hb.elim (fun h => ⟨by omega, by omega⟩) (fun h => ⟨by omega, h.2⟩)))
   obtain ⟨⟨r0, r1, r2, r3, r4⟩, f0, f1, f2, f3, f4⟩ := five_cells hnn.2
   clear HSp hn6 hD6 ht6 hnn HTree
   go_wp2_with fail
   refine bodyPost_ret (v := .agg #[.int .i64 t0, .int .i64 t1, .string t2, .slice ta tl tc, .slice va vl vc]) (by simp [results, Tryz.results45, go_sem, r0, r1, r2, r3, r4]) rfl ?_
   exact HP.out
 ·have e2 : ((y : Int) == 2) = false := by simp; omega
  have e3 : ((y : Int) == 3) = false := by simp; omega
  have HP2 : Hid (Calls Tryz.prog 17 #[.pointer (some ⟨R, 0, none⟩), .int .i64 2] w2 (PickPost w2 R ao L cap (p + 1) 2)) := pick_any w2 R ao L cap (p + 1) 2 HN2.out.2 (by omega) (by omega) (by omega)
  go_wp2_with fail
  refine HP2.out.mono ?_
  rintro e w3 ⟨a, rfl, ha, hn3, hD3, -⟩
  have HSm : Hid (∀ top, Calls Tryz.prog 44 #[.pointer (some ⟨R, 0, none⟩), .bool top] w3 (DSPost m w3 R ao L cap (p + 1 + 1) 21064)) := fun top => l5SomeOk_any m R ao L cap (p + 1 + 1) top w3 (by omega) hD3 (by omega)
  have HN3 : Hid (Near R w2 w3) := hn3
  have hz3 := hn3.size
  clear HP2 hn3 hD3
  go_wp2_with fail
  refine (HSm.out _).mono ?_
  rintro e w4 ⟨hn4, p4, k, c0, c1, c2, hp4, hD4, rfl, hk, hdk, hok⟩
  obtain ⟨u0, ua, ul, uc, ya, yl, yc, rfl, rfl, rfl⟩ := hk.shape
  have HT : Hid (Calls Tryz.prog 43 #[.pointer (some ⟨R, 0, none⟩), .agg #[.int .i64 u0, .slice ua ul uc, .slice ya yl yc]] w4 (DTPost m 4 w4 R ao L cap p4 262564)) := HTree.out p4 w3 w4 k _ _ _ (by omega) HN3.out hn4 hD4 hk hdk hok
  have HN4 : Hid (Near R W1 w4) := (HN2.out.1.trans HN3.out).trans hn4
  have hz4 := hn4.size
  clear HSm hn4 hD4 hk hdk hok
  go_wp2_with fail
  refine HT.out.mono ?_
  rintro e w5 ⟨hn5, p5, t5, d0, d1, d2, d3, d4, hp5, hD5, rfl, ht5, hdt⟩
  obtain ⟨t0, t1, t2, ta, tl, tc, va, vl, vc, rfl, rfl, rfl, rfl, rfl⟩ := ht5.shape
  have hnn := HZ.out w5 (HN4.out.trans hn5)
  have HP : Hid (AnyPostT m w R ao L cap p 300000 (.returned (.agg #[.int .i64 t0, .int .i64 t1, .string t2, .slice ta tl tc, .slice va vl vc])) (put5 w5 w.heap.size 0 (.int .i64 t0) (.int .i64 t1) (.string t2) (.slice ta tl tc) (.slice va vl vc))) :=
   anyT_exit HD0.out hnn.1 hD5.box (by omega) (ht5.keep (fun _ _ => rfl) (fun b hb => ⟨by omega, hb.2⟩))
  obtain ⟨⟨r0, r1, r2, r3, r4⟩, f0, f1, f2, f3, f4⟩ := five_cells hnn.2
  clear HT hn5 hD5 ht5 hdt hnn HTree
  go_wp2_with fail
  refine bodyPost_ret (v := .agg #[.int .i64 t0, .int .i64 t1, .string t2, .slice ta tl tc, .slice va vl vc]) (by simp [results, Tryz.results45, go_sem, r0, r1, r2, r3, r4]) rfl ?_
  exact HP.out
end Go.Proofs.YtmjhcgjhlakceaaGreatDoor

namespace Go.Proofs.YtmjhcgjhlakceaaGreatDoor
open Go.RowKit
def CodeIn (S : Nat -> Prop) (w : World) (ao : Option Addr) (L cap : Nat) : Prop :=
 L <= cap /\ cap <= maxLen /\ (0 < L -> ∃ b off, ao = some ⟨b, off, none⟩ /\ S b /\ ∀ j, j < L -> ∃ u : Nat, u <= 255 /\ w.cell? ⟨b, off + j, none⟩ = some (.int .u8 (u : Int)))
theorem dr_new {S : Nat -> Prop} {w : World} {ao : Option Addr} {L L' cap : Nat} (h : CodeIn S w ao L cap) (hS : ∀ b, S b -> b < w.heap.size) (hl : L' <= L) (hl2 : L' <= 2000) :
  Dr (w.alloc (.cells #[.slice ao L' cap, .int .i64 0] 79)) w.heap.size ao L' cap 0 := by
 refine ⟨heap_alloc_new _ _, hl2, fun h0 => ?_⟩
 obtain ⟨b, off, ha, hb, hc⟩ := h.2.2 (by omega)
 have := hS b hb
 refine ⟨b, off, ha, by omega, fun j hj => ?_⟩
 obtain ⟨u, hu, hcell⟩ := hc j (by omega)
 exact ⟨u, hu, (World.cell?_of_block (Below.heap_alloc _ _ _ (by show b < _; omega))).trans hcell⟩
set_option maxRecDepth 20000 in
set_option maxHeartbeats 4000000 in
theorem l6Open_any (S : Nat -> Prop) (w : World) (ao : Option Addr) (L cap : Nat) (h : CodeIn S w ao L cap) (hS : ∀ b, S b -> b < w.heap.size) :
  Calls Tryz.prog 14 #[.slice ao L cap] w fun e w' => Below w.heap.size w w' /\ ∃ R, e = .returned (.pointer (some ⟨R, 0, none⟩)) /\ w.heap.size <= R /\ ∃ L', Dr w' R ao L' cap 0 := by
 by_cases hL : 2000 < L
 ·have hLi : (2000 : Int) < (L : Int) := by omega
  have hci : ¬ (cap : Int) < 2000 := by have := h.1; omega
  have hcap := h.1
  have HC : Hid (CodeIn S w ao L cap) := h
  clear h
  go_enter Tryz.func14, Tryz.ntmps14
  go_wp2_with fail
  go_ret
  exact ⟨(Below.refl _ _).alloc (Nat.le_refl _) _, w.heap.size, ⟨rfl, Nat.le_refl _, 2000, dr_new HC.out hS (by omega) (by omega)⟩⟩
 ·have hLi : ¬ (2000 : Int) < (L : Int) := by omega
  have HC : Hid (CodeIn S w ao L cap) := h
  clear h
  go_enter Tryz.func14, Tryz.ntmps14
  go_wp2_with fail
  go_ret
  exact ⟨(Below.refl _ _).alloc (Nat.le_refl _) _, w.heap.size, ⟨rfl, Nat.le_refl _, L, dr_new HC.out hS (Nat.le_refl _) (by omega)⟩⟩
theorem near_new {R : Nat} {w w1 w' : World} (hb : Below w.heap.size w w1) (hR : w.heap.size <= R) (hn : Near R w1 w') : Below w.heap.size w w' :=
 ⟨hn.os.trans hb.os, hn.tape.trans hb.tape, hn.output.trans hb.output, by have := hb.size; have := hn.size; omega, fun b hbl => (hn.block b (by have := hb.size; omega) (by omega)).trans (hb.block b hbl)⟩
end Go.Proofs.YtmjhcgjhlakceaaGreatDoor

namespace Go.Proofs.YtmjhcgjhlakceaaGreatDoor
open Go.RowKit
theorem ext_le (s : ByteArray) (i j : Nat) : (s.extract i j).size <= s.size := by rw [ByteArray.size_extract]; omega
set_option maxRecDepth 20000 in
set_option maxHeartbeats 8000000 in
theorem l5Bend_any (w : World) (R : Nat) (ao : Option Addr) (L cap p : Nat) (s : ByteArray) (h : Dr w R ao L cap p) (hp : p <= 900000) (hs : s.size <= 10000) :
  Calls Tryz.prog 32 #[.pointer (some ⟨R, 0, none⟩), .string s] w fun e w' => ∃ x : ByteArray, e = .returned (.string x) /\ x.size <= 30000 /\ Near R w w' /\ ∃ p', p' <= p + 3 /\ Dr w' R ao L cap p' := by
 by_cases h0 : s.size = 0
 ·have h0i : (s.size : Int) = 0 := by omega
  have HOf : Hid (Calls Tryz.prog 30 #[.pointer (some ⟨R, 0, none⟩), .slice (some ⟨w.heap.size, 0, none⟩) 3 3] (w.alloc (.cells #[.string ⟨#[32]⟩, .string ⟨#[48]⟩, .string ⟨#[123, 125]⟩] 9)) fun e w' => ∃ s : ByteArray, e = .returned (.string s) /\ s.size <= 10000 /\ Near R w w' /\ Dr w' R ao L cap (p + 1)) := of_lit w R ao L cap p h (by omega) _ 3 rfl (by omega) (by omega) (by decide)
  clear h
  go_enter Tryz.func32, Tryz.ntmps32
  go_wp2_with fail
  refine HOf.out.mono ?_
  rintro e w1 ⟨x, rfl, hx, hn1, hD1⟩
  have HP : Hid (Near R w w1 /\ Dr w1 R ao L cap (p + 1)) := ⟨hn1, hD1⟩
  clear HOf hn1 hD1
  go_wp2_with fail
  go_ret
  exact ⟨x, rfl, by omega, HP.out.1, p + 1, by omega, HP.out.2⟩
 ·have h0i : ¬ (s.size : Int) = 0 := by omega
  have HPk : Hid (Calls Tryz.prog 17 #[.pointer (some ⟨R, 0, none⟩), .int .i64 (s.size : Int)] w (PickPost w R ao L cap p s.size)) := pick_any w R ao L cap p s.size h (by omega) (by omega) (by omega)
  clear h
  go_enter Tryz.func32, Tryz.ntmps32
  go_wp2_with fail
  refine HPk.out.mono ?_
  rintro e w1 ⟨i, rfl, hi, hn1, hD1, -⟩
  have HPk2 : Hid (Calls Tryz.prog 17 #[.pointer (some ⟨R, 0, none⟩), .int .i64 6] w1 (PickPost w1 R ao L cap (p + 1) 6)) := pick_any w1 R ao L cap (p + 1) 6 hD1 (by omega) (by omega) (by omega)
  have HN1 : Hid (Near R w w1) := hn1
  clear HPk hn1 hD1
  go_wp2_with fail
  refine HPk2.out.mono ?_
  rintro e w2 ⟨v, rfl, hv, hn2, hD2, -⟩
  have HN2 : Hid (Near R w w2 /\ Dr w2 R ao L cap (p + 1 + 1)) := ⟨HN1.out.trans hn2, hD2⟩
  have HD2' : Hid (Dr w2.drew R ao L cap (p + 1 + 1)) := hD2.drewN 1
  clear HPk2 HN1 hn2 hD2
  have hii : (i : Int) < (s.size : Int) := by omega
  have hi1 : (i : Int) + 1 <= (s.size : Int) := by omega
  have hil : i <= s.size := by omega
  have hwr : IntKind.i64.wrap ((i : Int) + 1) = (i : Int) + 1 := by rw [IntKind.wrap_i64]; omega
  have hnn : (0 : Int) <= (i : Int) + 1 := by omega
  have hil1 : i + 1 <= s.size := by omega
  obtain ⟨A, hA⟩ : ∃ A, s.extract 0 i = A := ⟨_, rfl⟩
  obtain ⟨B, hB⟩ : ∃ B, s.extract i s.size = B := ⟨_, rfl⟩
  obtain ⟨C, hC⟩ : ∃ C, s.extract (i + 1) s.size = C := ⟨_, rfl⟩
  have hAs : A.size <= 10000 := by rw [<- hA]; have := ext_le s 0 i; omega
  have hBs : B.size <= 10000 := by rw [<- hB]; have := ext_le s i s.size; omega
  have hCs : C.size <= 10000 := by rw [<- hC]; have := ext_le s (i + 1) s.size; omega
  have hcase : v = 0 ∨ v = 1 ∨ v = 2 ∨ v = 3 ∨ v = 4 ∨ v = 5 := by omega
  rcases hcase with rfl | rfl | rfl | rfl | rfl | rfl
  ·go_wp2_with fail
   go_ret
   exact ⟨_, rfl, by omega, HN2.out.1, p + 1 + 1, by omega, HN2.out.2⟩
  ·have hc1 : ¬ 9223372036854775807 < A.size + C.size := by omega
   go_wp2_with fail
   go_region
   all_goals
    go_wp2_with fail
    go_ret
    exact ⟨_, rfl, by rw [ByteArray.size_append]; omega, HN2.out.1.trans ((Near.refl R w2).drew), p + 1 + 1, by omega, HD2'.out⟩
  ·have HOf : Hid (Calls Tryz.prog 30 #[.pointer (some ⟨R, 0, none⟩), .slice (some ⟨w2.heap.size, 0, none⟩) 10 10] (w2.drew.alloc (.cells #[.string ⟨#[32]⟩, .string ⟨#[44]⟩, .string ⟨#[48]⟩, .string ⟨#[45]⟩, .string ⟨#[34]⟩, .string ⟨#[126]⟩, .string ⟨#[63]⟩, .string ⟨#[93]⟩, .string ⟨#[125]⟩, .string ⟨#[97]⟩] 9)) fun e w' => ∃ s : ByteArray, e = .returned (.string s) /\ s.size <= 10000 /\ Near R w2.drew w' /\ Dr w' R ao L cap (p + 1 + 1 + 1)) := of_lit w2.drew R ao L cap (p + 1 + 1) HD2'.out (by omega) _ 10 rfl (by omega) (by omega) (by decide)
   go_wp2_with fail
   go_region_law (go_simp; go_at_call 30; refine HOf.out.mono ?_; rintro e w3 ⟨x, rfl, hx, hn3, hD3⟩; have hc1 : ¬ 9223372036854775807 < A.size + x.size := (by omega); have hc2 : ¬ 9223372036854775807 < A.size + x.size + B.size := (by omega))
   all_goals
    have HP : Hid (Near R w w3 /\ Dr w3 R ao L cap (p + 1 + 1 + 1)) := ⟨(HN2.out.1.trans ((Near.refl R w2).drew)).trans hn3, hD3⟩
    clear HOf hn3 hD3
    go_wp2_with fail
    go_ret
    exact ⟨_, rfl, by rw [ByteArray.size_append, ByteArray.size_append]; omega, HP.out.1, p + 1 + 1 + 1, by omega, HP.out.2⟩
  ·have HOf : Hid (Calls Tryz.prog 30 #[.pointer (some ⟨R, 0, none⟩), .slice (some ⟨w2.heap.size, 0, none⟩) 11 11] (w2.drew.alloc (.cells #[.string ⟨#[32]⟩, .string ⟨#[44]⟩, .string ⟨#[48]⟩, .string ⟨#[45]⟩, .string ⟨#[34]⟩, .string ⟨#[126]⟩, .string ⟨#[63]⟩, .string ⟨#[91]⟩, .string ⟨#[123]⟩, .string ⟨#[97]⟩, .string ⟨#[57]⟩] 9)) fun e w' => ∃ s : ByteArray, e = .returned (.string s) /\ s.size <= 10000 /\ Near R w2.drew w' /\ Dr w' R ao L cap (p + 1 + 1 + 1)) := of_lit w2.drew R ao L cap (p + 1 + 1) HD2'.out (by omega) _ 11 rfl (by omega) (by omega) (by decide)
   go_wp2_with fail
   go_region_law (go_simp; go_at_call 30; refine HOf.out.mono ?_; rintro e w3 ⟨x, rfl, hx, hn3, hD3⟩; have hc1 : ¬ 9223372036854775807 < A.size + x.size := (by omega); have hc2 : ¬ 9223372036854775807 < A.size + x.size + C.size := (by omega))
   all_goals
    have HP : Hid (Near R w w3 /\ Dr w3 R ao L cap (p + 1 + 1 + 1)) := ⟨(HN2.out.1.trans ((Near.refl R w2).drew)).trans hn3, hD3⟩
    clear HOf hn3 hD3
    go_wp2_with fail
    go_ret
    exact ⟨_, rfl, by rw [ByteArray.size_append, ByteArray.size_append]; omega, HP.out.1, p + 1 + 1 + 1, by omega, HP.out.2⟩
  ·have HOf : Hid (Calls Tryz.prog 30 #[.pointer (some ⟨R, 0, none⟩), .slice (some ⟨w2.heap.size, 0, none⟩) 5 5] (w2.alloc (.cells #[.string ⟨#[32]⟩, .string ⟨#[44]⟩, .string ⟨#[48]⟩, .string ⟨#[125]⟩, .string ⟨#[10]⟩] 9)) fun e w' => ∃ s : ByteArray, e = .returned (.string s) /\ s.size <= 10000 /\ Near R w2 w' /\ Dr w' R ao L cap (p + 1 + 1 + 1)) := of_lit w2 R ao L cap (p + 1 + 1) HN2.out.2 (by omega) _ 5 rfl (by omega) (by omega) (by decide)
   go_wp2_with fail
   refine HOf.out.mono ?_
   rintro e w3 ⟨x, rfl, hx, hn3, hD3⟩
   have HP : Hid (Near R w w3 /\ Dr w3 R ao L cap (p + 1 + 1 + 1)) := ⟨HN2.out.1.trans hn3, hD3⟩
   have hc1 : ¬ 9223372036854775807 < s.size + x.size := by omega
   clear HOf hn3 hD3
   go_wp2_with fail
   go_ret
   exact ⟨_, rfl, by rw [ByteArray.size_append]; omega, HP.out.1, p + 1 + 1 + 1, by omega, HP.out.2⟩
  ·have HOf : Hid (Calls Tryz.prog 30 #[.pointer (some ⟨R, 0, none⟩), .slice (some ⟨w2.heap.size, 0, none⟩) 3 3] (w2.alloc (.cells #[.string ⟨#[32]⟩, .string ⟨#[43]⟩, .string ⟨#[48]⟩] 9)) fun e w' => ∃ s : ByteArray, e = .returned (.string s) /\ s.size <= 10000 /\ Near R w2 w' /\ Dr w' R ao L cap (p + 1 + 1 + 1)) := of_lit w2 R ao L cap (p + 1 + 1) HN2.out.2 (by omega) _ 3 rfl (by omega) (by omega) (by decide)
   go_wp2_with fail
   refine HOf.out.mono ?_
   rintro e w3 ⟨x, rfl, hx, hn3, hD3⟩
   have HP : Hid (Near R w w3 /\ Dr w3 R ao L cap (p + 1 + 1 + 1)) := ⟨HN2.out.1.trans hn3, hD3⟩
   have hc1 : ¬ 9223372036854775807 < x.size + s.size := by omega
   clear HOf hn3 hD3
   go_wp2_with fail
   go_ret
   exact ⟨_, rfl, by rw [ByteArray.size_append]; omega, HP.out.1, p + 1 + 1 + 1, by omega, HP.out.2⟩
end Go.Proofs.YtmjhcgjhlakceaaGreatDoor
