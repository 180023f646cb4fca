import Derived.Test.YtmjhcgjhlakceaaGreatDoorB27
import Derived.Test.YtmjhcgjhlakceaaGreatDoorB8
namespace Go.Proofs.YtmjhcgjhlakceaaGreatDoor
open Go.RowKit
def DrawnE (m : Nat) (w : World) (R : Nat) (ao : Option Addr) (L cap : Nat) (e : Ending) (w' : World) : Prop :=
 Near R w w' /\ ∃ (p' : Nat) (x : ByteArray) (v : Int) (t : T m) (c0 c1 c2 c3 c4 : Value), p' <= 700000 /\ Dr w' R ao L cap p' /\ e = .returned (.agg #[.string x, .int .i64 v, c0, c1, c2, c3, c4]) /\ x.size <= 10000 /\ (-1000 <= v /\ v <= 1000) /\ TreeIn (fun b => w.heap.size <= b /\ b < w'.heap.size) w' m t c0 c1 c2 c3 c4
structure ED (w W : World) (R : Nat) (ao : Option Addr) (L cap p0 p : Nat) (X : Nat) (a0 a1 a2 a3 a4 a5 a6 : Value) : Prop where
 dr0 : Dr w R ao L cap p0
 near : Near R w W
 zero : W.heap[w.heap.size]? = some (.cells #[.string ⟨#[]⟩, .int .i64 0, .int .i64 0, .int .i64 0, .string ⟨#[]⟩, .slice none 0 0, .slice none 0 0] 29 (0, 0))
 lt : w.heap.size < X
 box : W.heap[X]? = some (.cells #[a0, a1, a2, a3, a4, a5, a6] 29 (0, 0))
 dr : Dr W R ao L cap p
theorem ED.ltX {w W : World} {R : Nat} {ao : Option Addr} {L cap p0 p X : Nat} {a0 a1 a2 a3 a4 a5 a6 : Value} (h : ED w W R ao L cap p0 p X a0 a1 a2 a3 a4 a5 a6) : X < W.heap.size := (Array.getElem?_eq_some_iff.1 h.box).1
theorem ED.step {w W W' : World} {R : Nat} {ao : Option Addr} {L cap p0 p q X : Nat} {a0 a1 a2 a3 a4 a5 a6 : Value} (h : ED w W R ao L cap p0 p X a0 a1 a2 a3 a4 a5 a6) (hn : Near R W W') (hd : Dr W' R ao L cap q) : ED w W' R ao L cap p0 q X a0 a1 a2 a3 a4 a5 a6 := by
 have hR := h.dr0.lt
 have hX := h.ltX
 have hl := h.lt
 exact ⟨h.dr0, h.near.trans hn, (hn.block _ (by omega) (by omega)).trans h.zero, hl, (hn.block X hX (by omega)).trans h.box, hd⟩
theorem ED.change {w W W' : World} {R : Nat} {ao : Option Addr} {L cap p0 p X : Nat} {a0 a1 a2 a3 a4 a5 a6 b0 b1 b2 b3 b4 b5 b6 : Value} (h : ED w W R ao L cap p0 p X a0 a1 a2 a3 a4 a5 a6) (hb : Below 0 W W') (qq : ∀ b, b ≠ X -> W'.heap[b]? = W.heap[b]?) (hx : W'.heap[X]? = some (.cells #[b0, b1, b2, b3, b4, b5, b6] 29 (0, 0))) : ED w W' R ao L cap p0 p X b0 b1 b2 b3 b4 b5 b6 := by
 have hR := h.dr0.lt
 have hl := h.lt
 have hs := h.near.size
 have hn : Near R w W' := ⟨hb.os.trans h.near.os, hb.tape.trans h.near.tape, hb.output.trans h.near.output, Nat.le_trans hs hb.size, fun b hb' hne => (qq b (by omega)).trans (h.near.block b hb' hne)⟩
 exact ⟨h.dr0, hn, (qq _ (by omega)).trans h.zero, hl, hx, h.dr0.keep hn ((qq R (by omega)).trans h.dr.box)⟩
theorem ED.set0 {w W : World} {R : Nat} {ao : Option Addr} {L cap p0 p X : Nat} {a0 a1 a2 a3 a4 a5 a6 : Value} (h : ED w W R ao L cap p0 p X a0 a1 a2 a3 a4 a5 a6) (u : Value) : ED w (W.setCell ⟨X, 0, none⟩ u) R ao L cap p0 p X u a1 a2 a3 a4 a5 a6 :=
 h.change ((Below.refl _ _).setCell (Nat.zero_le _) u) (fun b hb => Below.heap_setCell _ _ _ _ hb) (by simp [World.setCell, Array.getElem?_modify, h.box])
theorem ED.set1 {w W : World} {R : Nat} {ao : Option Addr} {L cap p0 p X : Nat} {a0 a1 a2 a3 a4 a5 a6 : Value} (h : ED w W R ao L cap p0 p X a0 a1 a2 a3 a4 a5 a6) (u : Value) : ED w (W.setCell ⟨X, 1, none⟩ u) R ao L cap p0 p X a0 u a2 a3 a4 a5 a6 :=
 h.change ((Below.refl _ _).setCell (Nat.zero_le _) u) (fun b hb => Below.heap_setCell _ _ _ _ hb) (by simp [World.setCell, Array.getElem?_modify, h.box])
theorem ED.put {w W : World} {R : Nat} {ao : Option Addr} {L cap p0 p X : Nat} {a0 a1 a2 a3 a4 a5 a6 : Value} (h : ED w W R ao L cap p0 p X a0 a1 a2 a3 a4 a5 a6) (g0 g1 g2 g3 g4 : Value) : ED w (put5 W X 2 g0 g1 g2 g3 g4) R ao L cap p0 p X a0 a1 g0 g1 g2 g3 g4 :=
 h.change (put5_below (Below.refl _ _) (Nat.zero_le _)) (fun b hb => put5_other hb) (by simp [put5, World.setCell, Array.getElem?_modify, h.box])
theorem ed_out {m : Nat} {w W : World} {R : Nat} {ao : Option Addr} {L cap p0 p X : Nat} {x : ByteArray} {v : Int} {t : T m} {c0 c1 c2 c3 c4 : Value} (h : ED w W R ao L cap p0 p X (.string x) (.int .i64 v) c0 c1 c2 c3 c4) (hx : x.size <= 10000) (hv : -1000 <= v /\ v <= 1000) (ht : TreeIn (fun b => w.heap.size + 1 <= b /\ b < W.heap.size) W m t c0 c1 c2 c3 c4) (hp : p <= 700000) :
  DrawnE m w R ao L cap (.returned (.agg #[.string x, .int .i64 v, c0, c1, c2, c3, c4])) (put7 W w.heap.size (.string x) (.int .i64 v) c0 c1 c2 c3 c4) := by
 have hR := h.dr0.lt
 have hbl : Below 0 W (put7 W w.heap.size (.string x) (.int .i64 v) c0 c1 c2 c3 c4) := put7_below (Below.refl 0 W) (Nat.zero_le _)
 have hn : Near R w (put7 W w.heap.size (.string x) (.int .i64 v) c0 c1 c2 c3 c4) := ⟨hbl.os.trans h.near.os, hbl.tape.trans h.near.tape, hbl.output.trans h.near.output, by rw [put7_size]; exact h.near.size, fun b hb hne => (put7_other (by omega)).trans (h.near.block b hb hne)⟩
 exact ⟨hn, p, x, v, t, _, _, _, _, _, hp, h.dr0.keep hn ((put7_other (by omega)).trans h.dr.box), rfl, hx, hv, ht.keep (fun b hb => put7_other (by omega)) (fun b hb => ⟨by omega, by rw [put7_size]; exact hb.2⟩)⟩
set_option maxRecDepth 20000 in
set_option maxHeartbeats 4000000 in
theorem l5Event_any (m R : Nat) (ao : Option Addr) (L cap p : Nat) (w : World) (hm : 8 <= m) (h : Dr w R ao L cap p) (hp : p <= 1000) :
  Calls Tryz.prog 16 #[.pointer (some ⟨R, 0, none⟩)] w (DrawnE m w R ao L cap) := by
 have hR := h.lt
 have HD0 := Lib.hid h
 obtain ⟨W1, hW1⟩ : ∃ W1, W1 = w.alloc (.cells #[.string ⟨#[]⟩, .int .i64 0, .int .i64 0, .int .i64 0, .string ⟨#[]⟩, .slice none 0 0, .slice none 0 0] 29) := ⟨_, rfl⟩
 have hz1 : W1.heap.size = w.heap.size + 1 := by rw [hW1]; simp
 have hb1 : Below w.heap.size w W1 := by rw [hW1]; exact (Below.refl _ _).alloc (Nat.le_refl _) _
 have HZ1 : Hid (W1.heap[w.heap.size]? = some (.cells #[.string ⟨#[]⟩, .int .i64 0, .int .i64 0, .int .i64 0, .string ⟨#[]⟩, .slice none 0 0, .slice none 0 0] 29 (0, 0))) := by rw [hW1]; exact heap_alloc_new _ _
 have HN1 : Hid (Near R w W1) := Near.of_below hb1
 have HOf : Hid (∀ (cs : Array Value), cs.size = 5 -> cs.toList.all okLit = true -> Calls Tryz.prog 30 #[.pointer (some ⟨R, 0, none⟩), .slice (some ⟨W1.heap.size, 0, none⟩) 5 5] (W1.alloc (.cells cs 9)) _) := fun cs h1 h2 => of_lit W1 R ao L cap p (h.same hb1) (by omega) cs 5 h1 (by omega) (by omega) h2
 clear h hb1
 go_enter Tryz.func16, Tryz.ntmps16
 go_wp2_with fail
 rw [<- hW1]
 clear hW1
 try rw [<- hz1]
 have hz1a : w.heap.size + 1 <= W1.heap.size := by omega
 clear hz1
 refine (HOf.out _ rfl rfl).mono ?_
 rintro e w2 ⟨x, rfl, hx, hn2, hD2⟩
 have HPk := Lib.hid (pick_any w2 R ao L cap (p + 1) 12 hD2 (by omega) (by omega) (by omega))
 have HN2 := Lib.hid (HN1.out.trans hn2)
 have HZ2 := Lib.hid ((hn2.block w.heap.size (by omega) (by omega)).trans HZ1.out)
 have hz2 := hn2.size
 clear HOf hn2 hD2 HN1 HZ1
 go_wp2_with fail
 refine HPk.out.mono ?_
 rintro e w3 ⟨a, rfl, ha, hn3, hD3, -⟩
 have HSm := Lib.hid (l5SomeOk_any m R ao L cap (p + 1 + 1) true w3 (by omega) hD3 (by omega))
 have HN3 := Lib.hid (HN2.out.trans hn3)
 have HZ3 := Lib.hid ((hn3.block w.heap.size (by omega) (by omega)).trans HZ2.out)
 have hz3 := hn3.size
 have hwa : IntKind.i64.wrap (1 + (a : Int)) = 1 + (a : Int) := by rw [IntKind.wrap_i64]; omega
 clear HPk hn3 hD3 HN2 HZ2
 go_wp2_with fail
 refine HSm.out.mono ?_
 rintro e w4 ⟨hn4, p4, k, q0, q1, q2, hp4, hD4, rfl, hk, hdk, hok⟩
 obtain ⟨y0, ya, yl, yc, za, zl, zc, rfl, rfl, rfl⟩ := hk.shape
 have hz4 := hn4.size
 have HT : Hid (Calls Tryz.prog 43 #[.pointer (some ⟨R, 0, none⟩), .agg #[.int .i64 y0, .slice ya yl yc, .slice za zl zc]] w4 (DTPost m 4 w4 R ao L cap p4 262564)) := by
  simp only [okK, Bool.and_eq_true, decide_eq_true_eq] at hok
  have := l5Tree_any 4 m R ao L cap p4 k _ 1 _ _ _ w4 hdk hok.1 hok.2 hk (fun b hb => ⟨hb.2, by omega⟩) hD4 (by rw [pt4]; omega)
  rw [pt4] at this; exact this
 have HN4 := Lib.hid (HN3.out.trans hn4)
 have HZ4 := Lib.hid ((hn4.block w.heap.size (by omega) (by omega)).trans HZ3.out)
 clear HSm hn4 hD4 hk hdk hok HN3 HZ3
 go_wp2_with fail
 refine HT.out.mono ?_
 rintro e w5 ⟨hn5, p5, t, c0, c1, c2, c3, c4, hp5, hD5, rfl, ht, -⟩
 obtain ⟨t0, t1, t2, ta, tl, tc, ua, ul, uc, rfl, rfl, rfl, rfl, rfl⟩ := ht.shape
 have hz5 := hn5.size
 obtain ⟨X, hX⟩ : ∃ X, w5.heap.size = X := ⟨_, rfl⟩
 obtain ⟨W6, hW6⟩ : ∃ W6, W6 = w5.alloc (.cells #[.string x, .int .i64 (1 + (a : Int)), .int .i64 t0, .int .i64 t1, .string t2, .slice ta tl tc, .slice ua ul uc] 29) := ⟨_, rfl⟩
 have hb6 : Below w5.heap.size w5 W6 := by rw [hW6]; exact (Below.refl _ _).alloc (Nat.le_refl _) _
 have hE6 : ED w W6 R ao L cap p p5 X (.string x) (.int .i64 (1 + (a : Int))) (.int .i64 t0) (.int .i64 t1) (.string t2) (.slice ta tl tc) (.slice ua ul uc) := by
  refine ⟨HD0.out, (HN4.out.trans hn5).trans (Near.of_below hb6), (hb6.block _ (by omega)).trans ((hn5.block _ (by omega) (by omega)).trans HZ4.out), by omega, by rw [hW6, <- hX]; exact heap_alloc_new _ _, hD5.same hb6⟩
 have HIn : Hid (TreeIn (fun b => w.heap.size + 1 <= b /\ b < X) W6 m t (.int .i64 t0) (.int .i64 t1) (.string t2) (.slice ta tl tc) (.slice ua ul uc)) := ht.keep (fun b hb => hb6.block b hb.2) (fun b hb => ⟨by omega, by omega⟩)
 have HE6 := Lib.hid hE6
 have HPk := Lib.hid (pick_any W6 R ao L cap p5 20 hE6.dr (by omega) (by omega) (by omega))
 clear HT hn5 hD5 ht hb6 hE6 HN4 HZ4
 go_wp2_with fail
 rw [<- hW6]
 try rw [hX]
 clear hW6
 refine HPk.out.mono ?_
 rintro e w7 ⟨y, rfl, hy, hn7, hD7, -⟩
 have hE7 := HE6.out.step hn7 hD7
 have hXl := HE6.out.ltX
 have hz7 := hn7.size
 have HI7 : Hid (TreeIn (fun b => w.heap.size + 1 <= b /\ b < X) w7 m t (.int .i64 t0) (.int .i64 t1) (.string t2) (.slice ta tl tc) (.slice ua ul uc)) := HIn.out.keep (fun b hb => hn7.block b (by omega) (by omega)) (fun _ h => h)
 have HE7 := Lib.hid hE7
 clear HPk hn7 hD7 hE7 HE6 HIn HD0
 obtain ⟨⟨s0, s1, s2, s3, s4, s5, s6⟩, g0, g1, g2, g3, g4, g5, g6⟩ := ev7_cells HE7.out.box
 by_cases y0 : y = 0
 ·subst y0
  have HOf : Hid (∀ (cs : Array Value), cs.size = 4 -> cs.toList.all okLit = true -> Calls Tryz.prog 30 #[.pointer (some ⟨R, 0, none⟩), .slice (some ⟨w7.heap.size, 0, none⟩) 4 4] (w7.alloc (.cells cs 9)) _) := fun cs h1 h2 => of_lit w7 R ao L cap (p5 + 1) HE7.out.dr (by omega) cs 4 h1 (by omega) (by omega) h2
  clear s0 s1 s2 s3 s4 s5 s6 g0 g1 g2 g3 g4 g5 g6
  go_wp2_with fail
  refine (HOf.out _ rfl rfl).mono ?_
  rintro e w8 ⟨x8, rfl, hx8, hn8, hD8⟩
  have hE8 := HE7.out.step hn8 hD8
  have hz8 := hn8.size
  obtain ⟨⟨s0, s1, s2, s3, s4, s5, s6⟩, g0, g1, g2, g3, g4, g5, g6⟩ := ev7_cells hE8.box
  obtain ⟨W9, hW9⟩ : ∃ W9, W9 = w8.setCell ⟨X, 0, none⟩ (.string x8) := ⟨_, rfl⟩
  have hE9 := hE8.set0 (.string x8)
  rw [<- hW9] at hE9
  have hz9 : W9.heap.size = w8.heap.size := by rw [hW9]; simp
  have hI9 : TreeIn (fun b => w.heap.size + 1 <= b /\ b < W9.heap.size) W9 m t (.int .i64 t0) (.int .i64 t1) (.string t2) (.slice ta tl tc) (.slice ua ul uc) := HI7.out.keep (fun b hb => by rw [hW9, Below.heap_setCell _ _ _ _ (by show b ≠ X; omega)]; exact hn8.block b (by omega) (by have := HE7.out.dr0.lt; omega)) (fun b hb => ⟨hb.1, by omega⟩)
  have HP : Hid (DrawnE m w R ao L cap (.returned (.agg #[.string x8, .int .i64 (1 + (a : Int)), .int .i64 t0, .int .i64 t1, .string t2, .slice ta tl tc, .slice ua ul uc])) (put7 W9 w.heap.size (.string x8) (.int .i64 (1 + (a : Int))) (.int .i64 t0) (.int .i64 t1) (.string t2) (.slice ta tl tc) (.slice ua ul uc))) := ed_out hE9 hx8 (by omega) hI9 (by omega)
  obtain ⟨⟨z0, z1, z2, z3, z4, z5, z6⟩, f0, f1, f2, f3, f4, f5, f6⟩ := ev7_cells (hE9).zero
  have HW9 : Hid (w8.setCell ⟨X, 0, none⟩ (.string x8) = W9) := hW9.symm
  have hbx := hE9.box
  clear HOf hn8 hD8 hE8 hE9 hI9 HE7 HI7 hW9
  go_upto_region 11 with fail
  rw [HW9.out]
  clear HW9 s0 s1 s2 s3 s4 s5 s6 g0 g1 g2 g3 g4 g5 g6
  obtain ⟨⟨s0, s1, s2, s3, s4, s5, s6⟩, -⟩ := ev7_cells hbx
  clear hbx
  go_wp2_with fail
  refine bodyPost_ret (v := .agg #[.string x8, .int .i64 (1 + (a : Int)), .int .i64 t0, .int .i64 t1, .string t2, .slice ta tl tc, .slice ua ul uc]) (by simp [results, Tryz.results16, go_sem, z0, z1, z2, z3, z4, z5, z6]) rfl ?_
  exact HP.out
 by_cases y1 : y = 1
 ·subst y1
  obtain ⟨W8, hW8⟩ : ∃ W8, W8 = w7.alloc (.cells #[.int .i64 0, .int .i64 (-1), .int .i64 13, .int .i64 256] 3) := ⟨_, rfl⟩
  have hb8 : Below w7.heap.size w7 W8 := by rw [hW8]; exact (Below.refl _ _).alloc (Nat.le_refl _) _
  have hr8 : W8.heap[w7.heap.size]? = some (.cells #[.int .i64 0, .int .i64 (-1), .int .i64 13, .int .i64 256] 3 (0, 0)) := by rw [hW8]; exact heap_alloc_new _ _
  have hz8 : W8.heap.size = w7.heap.size + 1 := by rw [hW8]; simp
  have hE8 := HE7.out.step (Near.of_below hb8) (HE7.out.dr.same hb8)
  have HE8 := Lib.hid hE8
  have HPk := Lib.hid (pick_any W8 R ao L cap (p5 + 1) 4 hE8.dr (by omega) (by omega) (by omega))
  have HI8 : Hid (TreeIn (fun b => w.heap.size + 1 <= b /\ b < X) W8 m t (.int .i64 t0) (.int .i64 t1) (.string t2) (.slice ta tl tc) (.slice ua ul uc)) := HI7.out.keep (fun b hb => hb8.block b (by omega)) (fun _ h => h)
  obtain ⟨r, hr⟩ : ∃ r, w7.heap.size = r := ⟨_, rfl⟩
  clear hE8 hb8 HE7 HI7 s0 s1 s2 s3 s4 s5 s6 g0 g1 g2 g3 g4 g5 g6
  go_wp2_with fail
  rw [<- hW8]
  try rw [hr]
  rw [hr] at hr8
  clear hW8
  refine HPk.out.mono ?_
  rintro e w9 ⟨b, rfl, hb, hn9, hD9, -⟩
  have hE9 := HE8.out.step hn9 hD9
  have hRr : R < w.heap.size := hE9.dr0.lt
  have hr9 := (hn9.block r (by omega) (by omega)).trans hr8
  have hz9 := hn9.size
  obtain ⟨vb, hvb, hcb⟩ : ∃ vb : Int, (-1000 <= vb /\ vb <= 1000) /\ w9.cell? ⟨r, b, none⟩ = some (.int .i64 vb) := by
   have hb4 : b = 0 ∨ b = 1 ∨ b = 2 ∨ b = 3 := by omega
   rcases hb4 with rfl | rfl | rfl | rfl
   ·exact ⟨0, by omega, by simp [World.cell?, hr9]⟩
   ·exact ⟨-1, by omega, by simp [World.cell?, hr9]⟩
   ·exact ⟨13, by omega, by simp [World.cell?, hr9]⟩
   ·exact ⟨256, by omega, by simp [World.cell?, hr9]⟩
  have hbi : (b : Int) < 4 := by omega
  obtain ⟨⟨s0, s1, s2, s3, s4, s5, s6⟩, g0, g1, g2, g3, g4, g5, g6⟩ := ev7_cells hE9.box
  obtain ⟨W10, hW10⟩ : ∃ W10, W10 = w9.setCell ⟨X, 1, none⟩ (.int .i64 vb) := ⟨_, rfl⟩
  have hE10 := hE9.set1 (.int .i64 vb)
  rw [<- hW10] at hE10
  have hz10 : W10.heap.size = w9.heap.size := by rw [hW10]; simp
  have hI10 : TreeIn (fun b => w.heap.size + 1 <= b /\ b < W10.heap.size) W10 m t (.int .i64 t0) (.int .i64 t1) (.string t2) (.slice ta tl tc) (.slice ua ul uc) := HI8.out.keep (fun b hb => by rw [hW10, Below.heap_setCell _ _ _ _ (by show b ≠ X; omega)]; exact hn9.block b (by omega) (by omega)) (fun b hb => ⟨hb.1, by omega⟩)
  have HP : Hid (DrawnE m w R ao L cap (.returned (.agg #[.string x, .int .i64 vb, .int .i64 t0, .int .i64 t1, .string t2, .slice ta tl tc, .slice ua ul uc])) (put7 W10 w.heap.size (.string x) (.int .i64 vb) (.int .i64 t0) (.int .i64 t1) (.string t2) (.slice ta tl tc) (.slice ua ul uc))) := ed_out hE10 hx hvb hI10 (by omega)
  obtain ⟨⟨z0, z1, z2, z3, z4, z5, z6⟩, f0, f1, f2, f3, f4, f5, f6⟩ := ev7_cells (hE10).zero
  have HW10 : Hid (w9.setCell ⟨X, 1, none⟩ (.int .i64 vb) = W10) := hW10.symm
  have hbx := hE10.box
  clear HPk hn9 hD9 hE9 hE10 hI10 HE8 HI8 hW10 hr9 hr8
  go_upto_region 11 with fail
  rw [HW10.out]
  clear HW10 s0 s1 s2 s3 s4 s5 s6 g0 g1 g2 g3 g4 g5 g6 hcb
  obtain ⟨⟨s0, s1, s2, s3, s4, s5, s6⟩, -⟩ := ev7_cells hbx
  clear hbx
  go_wp2_with fail
  refine bodyPost_ret (v := .agg #[.string x, .int .i64 vb, .int .i64 t0, .int .i64 t1, .string t2, .slice ta tl tc, .slice ua ul uc]) (by simp [results, Tryz.results16, go_sem, z0, z1, z2, z3, z4, z5, z6]) rfl ?_
  exact HP.out
 by_cases y2 : y = 2
 ·subst y2
  have HA := Lib.hid (l5Any_any m R ao L cap (p5 + 1) w7 hm HE7.out.dr (by omega))
  clear s0 s1 s2 s3 s4 s5 s6 g0 g1 g2 g3 g4 g5 g6 HI7
  go_wp2_with fail
  refine HA.out.mono ?_
  rintro e w8 ⟨hn8, p8, u, d0, d1, d2, d3, d4, hp8, hD8, rfl, hu⟩
  obtain ⟨e0, e1, e2, ea, el, ec, ja, jl, jc, rfl, rfl, rfl, rfl, rfl⟩ := hu.shape
  have hE8 := HE7.out.step hn8 hD8
  have hz8 := hn8.size
  obtain ⟨⟨s0, s1, s2, s3, s4, s5, s6⟩, g0, g1, g2, g3, g4, g5, g6⟩ := ev7_cells hE8.box
  obtain ⟨W9, hW9⟩ : ∃ W9, W9 = put5 w8 X 2 (.int .i64 e0) (.int .i64 e1) (.string e2) (.slice ea el ec) (.slice ja jl jc) := ⟨_, rfl⟩
  have hE9 := hE8.put (.int .i64 e0) (.int .i64 e1) (.string e2) (.slice ea el ec) (.slice ja jl jc)
  rw [<- hW9] at hE9
  have hz9 : W9.heap.size = w8.heap.size := by rw [hW9]; exact put5_size
  have hI9 : TreeIn (fun b => w.heap.size + 1 <= b /\ b < W9.heap.size) W9 m u (.int .i64 e0) (.int .i64 e1) (.string e2) (.slice ea el ec) (.slice ja jl jc) := hu.keep (fun b hb => by rw [hW9]; exact put5_other (by omega)) (fun b hb => ⟨by have := HE7.out.lt; omega, by omega⟩)
  have HP : Hid (DrawnE m w R ao L cap (.returned (.agg #[.string x, .int .i64 (1 + (a : Int)), .int .i64 e0, .int .i64 e1, .string e2, .slice ea el ec, .slice ja jl jc])) (put7 W9 w.heap.size (.string x) (.int .i64 (1 + (a : Int))) (.int .i64 e0) (.int .i64 e1) (.string e2) (.slice ea el ec) (.slice ja jl jc))) := ed_out hE9 hx (by omega) hI9 (by omega)
  obtain ⟨⟨z0, z1, z2, z3, z4, z5, z6⟩, f0, f1, f2, f3, f4, f5, f6⟩ := ev7_cells (hE9).zero
  have HW9 : Hid (put5 w8 X 2 (.int .i64 e0) (.int .i64 e1) (.string e2) (.slice ea el ec) (.slice ja jl jc) = W9) := hW9.symm
  have hbx := hE9.box
  clear HA hn8 hD8 hE8 hE9 hI9 hu HE7 hW9
  go_upto_region 11 with fail
  have HV := HW9.out
  unfold put5 at HV
  try rw [HV]
  clear HW9 HV s0 s1 s2 s3 s4 s5 s6 g0 g1 g2 g3 g4 g5 g6
  obtain ⟨⟨s0, s1, s2, s3, s4, s5, s6⟩, -⟩ := ev7_cells hbx
  clear hbx
  go_wp2_with fail
  refine bodyPost_ret (v := .agg #[.string x, .int .i64 (1 + (a : Int)), .int .i64 e0, .int .i64 e1, .string e2, .slice ea el ec, .slice ja jl jc]) (by simp [results, Tryz.results16, go_sem, z0, z1, z2, z3, z4, z5, z6]) rfl ?_
  exact HP.out
 by_cases y3 : y = 3
 ·subst y3
  have HA := Lib.hid (l5Full_any 120 w7 (by omega) (by omega))
  clear s0 s1 s2 s3 s4 s5 s6 g0 g1 g2 g3 g4 g5 g6 HI7
  go_wp2_with fail
  refine HA.out.mono ?_
  rintro e w8 ⟨hb8, d0, d1, d2, d3, d4, rfl, hall⟩
  obtain ⟨u, hu, -⟩ := hall m (by omega)
  obtain ⟨e0, e1, e2, ea, el, ec, ja, jl, jc, rfl, rfl, rfl, rfl, rfl⟩ := hu.shape
  have hE8 := HE7.out.step (Near.of_below hb8) (HE7.out.dr.same hb8)
  have hz8 := hb8.size
  obtain ⟨⟨s0, s1, s2, s3, s4, s5, s6⟩, g0, g1, g2, g3, g4, g5, g6⟩ := ev7_cells hE8.box
  obtain ⟨W9, hW9⟩ : ∃ W9, W9 = put5 w8 X 2 (.int .i64 e0) (.int .i64 e1) (.string e2) (.slice ea el ec) (.slice ja jl jc) := ⟨_, rfl⟩
  have hE9 := hE8.put (.int .i64 e0) (.int .i64 e1) (.string e2) (.slice ea el ec) (.slice ja jl jc)
  rw [<- hW9] at hE9
  have hz9 : W9.heap.size = w8.heap.size := by rw [hW9]; exact put5_size
  have hI9 : TreeIn (fun b => w.heap.size + 1 <= b /\ b < W9.heap.size) W9 m u (.int .i64 e0) (.int .i64 e1) (.string e2) (.slice ea el ec) (.slice ja jl jc) := hu.keep (fun b hb => by rw [hW9]; exact put5_other (by omega)) (fun b hb => ⟨by have := HE7.out.lt; omega, by omega⟩)
  have HP : Hid (DrawnE m w R ao L cap (.returned (.agg #[.string x, .int .i64 (1 + (a : Int)), .int .i64 e0, .int .i64 e1, .string e2, .slice ea el ec, .slice ja jl jc])) (put7 W9 w.heap.size (.string x) (.int .i64 (1 + (a : Int))) (.int .i64 e0) (.int .i64 e1) (.string e2) (.slice ea el ec) (.slice ja jl jc))) := ed_out hE9 hx (by omega) hI9 (by omega)
  obtain ⟨⟨z0, z1, z2, z3, z4, z5, z6⟩, f0, f1, f2, f3, f4, f5, f6⟩ := ev7_cells (hE9).zero
  have HW9 : Hid (put5 w8 X 2 (.int .i64 e0) (.int .i64 e1) (.string e2) (.slice ea el ec) (.slice ja jl jc) = W9) := hW9.symm
  have hbx := hE9.box
  clear HA hb8 hall hE8 hE9 hI9 hu HE7 hW9
  go_upto_region 11 with fail
  have HV := HW9.out
  unfold put5 at HV
  try rw [HV]
  clear HW9 HV s0 s1 s2 s3 s4 s5 s6 g0 g1 g2 g3 g4 g5 g6
  obtain ⟨⟨s0, s1, s2, s3, s4, s5, s6⟩, -⟩ := ev7_cells hbx
  clear hbx
  go_wp2_with fail
  refine bodyPost_ret (v := .agg #[.string x, .int .i64 (1 + (a : Int)), .int .i64 e0, .int .i64 e1, .string e2, .slice ea el ec, .slice ja jl jc]) (by simp [results, Tryz.results16, go_sem, z0, z1, z2, z3, z4, z5, z6]) rfl ?_
  exact HP.out
 have n0 : ¬ (y : Int) = 0 := by omega
 have n1 : ¬ (y : Int) = 1 := by omega
 have n2 : ¬ (y : Int) = 2 := by omega
 have n3 : ¬ (y : Int) = 3 := by omega
 have hI9 : TreeIn (fun b => w.heap.size + 1 <= b /\ b < w7.heap.size) w7 m t (.int .i64 t0) (.int .i64 t1) (.string t2) (.slice ta tl tc) (.slice ua ul uc) := HI7.out.keep (fun _ _ => rfl) (fun b hb => ⟨hb.1, by omega⟩)
 have HP : Hid (DrawnE m w R ao L cap (.returned (.agg #[.string x, .int .i64 (1 + (a : Int)), .int .i64 t0, .int .i64 t1, .string t2, .slice ta tl tc, .slice ua ul uc])) (put7 w7 w.heap.size (.string x) (.int .i64 (1 + (a : Int))) (.int .i64 t0) (.int .i64 t1) (.string t2) (.slice ta tl tc) (.slice ua ul uc))) := ed_out HE7.out hx (by omega) hI9 (by omega)
 obtain ⟨⟨z0, z1, z2, z3, z4, z5, z6⟩, f0, f1, f2, f3, f4, f5, f6⟩ := ev7_cells (HE7.out).zero
 clear HE7 HI7 hI9
 go_wp2_with fail
 refine bodyPost_ret (v := .agg #[.string x, .int .i64 (1 + (a : Int)), .int .i64 t0, .int .i64 t1, .string t2, .slice ta tl tc, .slice ua ul uc]) (by simp [results, Tryz.results16, go_sem, z0, z1, z2, z3, z4, z5, z6]) rfl ?_
 exact HP.out
end Go.Proofs.YtmjhcgjhlakceaaGreatDoor
