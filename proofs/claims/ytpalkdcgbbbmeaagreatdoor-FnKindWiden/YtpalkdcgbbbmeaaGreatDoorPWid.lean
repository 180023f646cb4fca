/-
 The law of drawn schemas and of trees that are widened, walked.
-/
import Derived.Test.YtpalkdcgbbbmeaaGreatDoorDWid
import Derived.Test.YtpalkdcgbbbmeaaGreatDoorB28
import Derived.Test.YtpalkdcgbbbmeaaGreatDoorB26
import Derived.Test.YtpalkdcgbbbmeaaGreatDoorB10
import Derived.Test.YtpalkdcgbbbmeaaGreatDoorB20
import Derived.Test.YtpalkdcgbbbmeaaGreatDoorKWb
import Derived.Test.YtpalkdcgbbbmeaaGreatDoorPWalk
import Derived.Test.YtpalkdcgbbbmeaaGreatDoorTtt
import Derived.Test.YtpalkdcgbbbmeaaGreatDoorB1
import Derived.Test.YtpalkdcgbbbmeaaGreatDoorB25
import Derived.Deep.RegionHeld
namespace Go.Proofs.YtpalkdcgbbbmeaaGreatDoor
open Go.RowKit

theorem ok_good {n : Nat} {t : T n} (h : okT n t = true) : goodT n t 1 = true := by
 simp only [okT, Bool.and_eq_true] at h
 exact h.1

theorem widB_get {n m p : Nat} {a : K n} {b : K m} {t : T p} (h : widB n a m b p t = true) : fitsF n a m b = true ∧ hasF n a p t = true ∧ okT m (widT m b n a p t) = true ∧ widA n a m b p t = widT m b n a p t := by
 have h' := h
 unfold widB at h'
 simp only [Bool.and_eq_true] at h'
 exact ⟨h'.1.1, h'.1.2, h'.2, if_pos h⟩

theorem wid_hasF {n m p : Nat} {a : K n} {b : K m} {t : T p} (h : widB n a m b p t = true) : hasF m b m (widA n a m b p t) = true := by
 obtain ⟨h1, h2, h3, h4⟩ := widB_get h
 unfold fitsF hasF at *
 simp only [Bool.and_eq_true] at h1 h2
 rw [h4, h1.1.2, h3, has_wid m b n a p t 1 1 1 (okK_get h1.1.2).1 (okK_get h1.1.1).1 (ok_good h2.1.2) h1.2 h2.2]
 rfl

theorem wid_cntF {n m p : Nat} {a : K n} {b : K m} {t : T p} (h : widB n a m b p t = true) : cntF p t ≤ cntF m (widA n a m b p t) := by
 obtain ⟨h1, h2, h3, h4⟩ := widB_get h
 unfold fitsF hasF at *
 simp only [Bool.and_eq_true] at h1 h2
 unfold cntF
 rw [h4, if_pos h2.1.2, if_pos h3]
 exact Int.ofNat_le.2 (cnt_wid m b n a p t 1 1 1 (okK_get h1.1.2).1 (okK_get h1.1.1).1 (ok_good h2.1.2) h1.2 h2.2)

theorem wid_selfB {m : Nat} {a : K m} {t : T m} (h : hasF m a m t = true) : widB m a m a m t = true ∧ widA m a m a m t = t := by
 have h' := h
 unfold hasF at h'
 simp only [Bool.and_eq_true] at h'
 have e := wid_self m a t 1 1 (okK_get h'.1.1).1 (ok_good h'.1.2) h'.2
 have hB : widB m a m a m t = true := by
  unfold widB fitsF
  rw [h, e, h'.1.1, h'.1.2, fitsK_self m a 1 (okK_get h'.1.1).1]
  rfl
 exact ⟨hB, (if_pos hB).trans e⟩


set_option maxRecDepth 100000 in
set_option maxHeartbeats 8000000 in
theorem lawPWid_any (m : Nat) (hm : 18 ≤ m) (S : Nat → Prop) (w : World) (ao : Option Addr) (L cap : Nat) (h : CodeIn S w ao L cap) (hS : ∀ b, S b → b < w.heap.size) (hg : HandleIn w) :
  Calls Tryz.prog 3 #[.slice ao L cap] w fun e w' => e = .returned (.bool true) ∧ Below w.heap.size w w' := by
 by_cases hL : 1048576 < L
 ·
  have hLi : (1048576 : Int) < (L : Int) := by omega
  clear h hg
  go_enter Tryz.func3, Tryz.ntmps3
  go_wp2_with fail
  go_ret
  exact ⟨rfl, Below.refl _ _⟩
 have hLi : ¬ (1048576 : Int) < (L : Int) := by omega
 have HD : Hid (Calls Tryz.prog 5 #[.slice ao L cap] w (DrawnKKT m w)) := drawKWiden_any m hm S w ao L cap h hS
 have HG : Hid (HandleIn w) := hg
 clear h hg
 go_enter Tryz.func3, Tryz.ntmps3
 go_wp2_with fail
 refine HD.out.mono ?_
 rintro e w1 ⟨hb1, a, b, t, a0, a1, a2, b0, b1, b2, d0, d1, d2, d3, d4, rfl, hka, hkb, hkt⟩
 obtain ⟨u0, uxa, uxl, uxc, uya, uyl, uyc, rfl, rfl, rfl⟩ := hka.shape
 obtain ⟨v0, vxa, vxl, vxc, vya, vyl, vyc, rfl, rfl, rfl⟩ := hkb.shape
 obtain ⟨t0, t1, t2, txa, txl, txc, tya, tyl, tyc, rfl, rfl, rfl, rfl, rfl⟩ := hkt.shape
 obtain ⟨r, hr⟩ : ∃ r, r = widA m a m b m t := ⟨_, rfl⟩
 obtain ⟨ok, hok⟩ : ∃ ok, ok = widB m a m b m t := ⟨_, rfl⟩
 have HOK : Hid (r = widA m a m b m t ∧ ok = widB m a m b m t) := ⟨hr, hok⟩
 obtain ⟨W1, hW1⟩ : ∃ W1, W1 = ((w1.alloc (.cells #[.int .i64 u0, .slice uxa uxl uxc, .slice uya uyl uyc] 26)).alloc (.cells #[.int .i64 v0, .slice vxa vxl vxc, .slice vya vyl vyc] 26)).alloc (.cells #[.int .i64 t0, .int .i64 t1, .string t2, .slice txa txl txc, .slice tya tyl tyc] 29) := ⟨_, rfl⟩
 have ha1 : Below w1.heap.size w1 W1 := by rw [hW1]; exact (((Below.refl _ _).alloc (Nat.le_refl _) _).alloc (by simp) _).alloc (by simp; omega) _
 have bx : BoxKKT w1.heap.size W1 m a b t w1.heap.size (.int .i64 u0) (.slice uxa uxl uxc) (.slice uya uyl uyc) (.int .i64 v0) (.slice vxa vxl vxc) (.slice vya vyl vyc) (.int .i64 t0) (.int .i64 t1) (.string t2) (.slice txa txl txc) (.slice tya tyl tyc) := by rw [hW1]; exact kkt_new w.heap.size hka hkb hkt
 have HB1 : Hid (Below w.heap.size w W1) := below_step hb1 hb1.size ha1
 have HX1 := hidF bx
 have HC : Hid (Calls Tryz.prog 6 #[.agg #[.int .i64 u0, .slice uxa uxl uxc, .slice uya uyl uyc], .agg #[.int .i64 v0, .slice vxa vxl vxc, .slice vya vyl vyc], .agg #[.int .i64 t0, .int .i64 t1, .string t2, .slice txa txl txc, .slice tya tyl tyc]] W1 (SWidPost m r ok W1)) := by
  rw [hr, hok]
  exact specKWiden_any m m m (fun b => b < w1.heap.size) a b t _ _ _ _ _ _ _ _ _ _ _ W1 bx.a.kind bx.b.kind bx.t.tree (fun b hb => Nat.lt_of_lt_of_le hb bx.a.lt)
 obtain ⟨i0, i1, i2⟩ := bx.a.box
 obtain ⟨j0, j1, j2⟩ := bx.b.box
 obtain ⟨k0, k1, k2, k3, k4⟩ := bx.t.box
 rw [hW1] at i0 i1 i2 j0 j1 j2 k0 k1 k2 k3 k4
 clear HD hb1 hka hkb hkt ha1 bx hr hok
 go_wp2_with fail
 rw [← hW1] at i0 i1 i2 j0 j1 j2 k0 k1 k2 k3 k4 ⊢
 clear hW1
 refine HC.out.mono ?_
 rintro e w2 ⟨hb2, d0, d1, d2, d3, d4, rfl, hd⟩
 obtain ⟨s0, s1, s2, sxa, sxl, sxc, sya, syl, syc, rfl, rfl, rfl, rfl, rfl⟩ := hd.shape
 obtain ⟨W2, hW2⟩ : ∃ W2, W2 = w2.alloc (.cells #[.int .i64 s0, .int .i64 s1, .string s2, .slice sxa sxl sxc, .slice sya syl syc] 29) := ⟨_, rfl⟩
 have ha2 : Below w2.heap.size w2 W2 := by rw [hW2]; exact (Below.refl _ _).alloc (Nat.le_refl _) _
 have hb12 : Below W1.heap.size W1 W2 := below_step hb2 hb2.size ha2
 have HB2 : Hid (Below w.heap.size w W2) := below_step HB1.out HB1.out.size hb12
 have bx := HX1.out.keep hb12
 have HX2 := hidF bx
 have HW2 : Hid (BoxT w2.heap.size W2 m r w2.heap.size (.int .i64 s0) (.int .i64 s1) (.string s2) (.slice sxa sxl sxc) (.slice sya syl syc)) := by show BoxT _ _ _ _ _ _ _ _ _ _; rw [hW2]; exact boxT_new W1.heap.size hd
 have HC3 : Hid (Calls Tryz.prog 7 #[.agg #[.int .i64 u0, .slice uxa uxl uxc, .slice uya uyl uyc], .agg #[.int .i64 t0, .int .i64 t1, .string t2, .slice txa txl txc, .slice tya tyl tyc]] W2 _) := specKHas_any m m _ _ a t _ _ _ _ _ _ _ _ W2 bx.a.kind bx.t.tree (fun b hb => Nat.lt_of_lt_of_le hb bx.a.lt) (fun b hb => Nat.lt_of_lt_of_le hb bx.t.lt)
 clear i0 i1 i2 j0 j1 j2 k0 k1 k2 k3 k4
 obtain ⟨i0, i1, i2⟩ := bx.a.box
 obtain ⟨j0, j1, j2⟩ := bx.b.box
 obtain ⟨k0, k1, k2, k3, k4⟩ := bx.t.box
 rw [hW2] at i0 i1 i2 j0 j1 j2 k0 k1 k2 k3 k4
 clear HC HB1 HX1 hb2 hd ha2 hb12 bx
 go_wp2_with fail
 rw [← hW2] at i0 i1 i2 j0 j1 j2 k0 k1 k2 k3 k4 ⊢
 clear hW2
 refine HC3.out.mono ?_
 rintro e w3 ⟨rfl, hb3⟩
 have HB3 : Hid (Below w.heap.size w w3) := below_step HB2.out HB2.out.size hb3
 have bx := HX2.out.keep hb3
 have HX3 := hidF bx
 have HW3 : Hid (BoxT w2.heap.size w3 m r w2.heap.size (.int .i64 s0) (.int .i64 s1) (.string s2) (.slice sxa sxl sxc) (.slice sya syl syc)) := HW2.out.keep hb3
 have HC4 : Hid (Calls Tryz.prog 8 #[.agg #[.int .i64 u0, .slice uxa uxl uxc, .slice uya uyl uyc], .agg #[.int .i64 v0, .slice vxa vxl vxc, .slice vya vyl vyc], .agg #[.int .i64 t0, .int .i64 t1, .string t2, .slice txa txl txc, .slice tya tyl tyc]] w3 (WidPost m r ok w3)) := by
  rw [HOK.out.1, HOK.out.2]
  exact implKWiden_any m m m (fun b => b < w1.heap.size) a b t _ _ _ _ _ _ _ _ _ _ _ w3 bx.a.kind bx.b.kind bx.t.tree (fun b hb => Nat.lt_of_lt_of_le hb bx.a.lt) (HG.out.step HB3.out)
 clear i0 i1 i2 j0 j1 j2 k0 k1 k2 k3 k4
 obtain ⟨i0, i1, i2⟩ := bx.a.box
 obtain ⟨j0, j1, j2⟩ := bx.b.box
 obtain ⟨k0, k1, k2, k3, k4⟩ := bx.t.box
 clear HC3 HB2 HX2 HW2 hb3 bx
 go_wp2_with fail
 refine HC4.out.mono ?_
 rintro e w4 ⟨hb4, d0, d1, d2, d3, d4, L3, L4, rfl, hd, -, -, -, -⟩
 obtain ⟨r0, r1, r2, rxa, rxl, rxc, rya, ryl, ryc, rfl, rfl, rfl, rfl, rfl⟩ := hd.shape
 obtain ⟨W4, hW4⟩ : ∃ W4, W4 = w4.alloc (.cells #[.int .i64 r0, .int .i64 r1, .string r2, .slice rxa rxl rxc, .slice rya ryl ryc] 29) := ⟨_, rfl⟩
 have ha4 : Below w4.heap.size w4 W4 := by rw [hW4]; exact (Below.refl _ _).alloc (Nat.le_refl _) _
 have hb34 : Below w3.heap.size w3 W4 := below_step hb4 hb4.size ha4
 have HB4 : Hid (Below w.heap.size w W4) := below_step HB3.out HB3.out.size hb34
 have HX4 : Hid (BoxKKT w1.heap.size W4 m a b t w1.heap.size (.int .i64 u0) (.slice uxa uxl uxc) (.slice uya uyl uyc) (.int .i64 v0) (.slice vxa vxl vxc) (.slice vya vyl vyc) (.int .i64 t0) (.int .i64 t1) (.string t2) (.slice txa txl txc) (.slice tya tyl tyc)) := HX3.out.keep hb34
 have bw := HW3.out.keep hb34
 have bu : BoxT w4.heap.size W4 m r w4.heap.size (.int .i64 r0) (.int .i64 r1) (.string r2) (.slice rxa rxl rxc) (.slice rya ryl ryc) := by rw [hW4]; exact boxT_new w3.heap.size hd
 have HU4 := hidF bu
 have HC5 : Hid (Calls Tryz.prog 9 #[.agg #[.int .i64 r0, .int .i64 r1, .string r2, .slice rxa rxl rxc, .slice rya ryl ryc], .agg #[.int .i64 s0, .int .i64 s1, .string s2, .slice sxa sxl sxc, .slice sya syl syc]] W4 _) := ttTree_same m _ _ r _ _ _ _ _ _ _ _ _ _ W4 bu.tree bw.tree (fun b hb => Nat.lt_of_lt_of_le hb bu.lt) (fun b hb => Nat.lt_of_lt_of_le hb bw.lt)
 clear i0 i1 i2 j0 j1 j2 k0 k1 k2 k3 k4
 obtain ⟨i0, i1, i2, i3, i4⟩ := bu.box
 obtain ⟨j0, j1, j2, j3, j4⟩ := bw.box
 rw [hW4] at i0 i1 i2 i3 i4 j0 j1 j2 j3 j4
 have hne : (ok != ok) = false := by simp
 clear HC4 HB3 HX3 HW3 hb4 hd ha4 hb34 bu bw
 go_wp2_with fail
 rw [← hW4] at i0 i1 i2 i3 i4 j0 j1 j2 j3 j4 ⊢
 clear hW4
 refine HC5.out.mono ?_
 rintro e w5 ⟨rfl, hb5⟩
 have HB5 : Hid (Below w.heap.size w w5) := below_step HB4.out HB4.out.size hb5
 have HX5 : Hid (BoxKKT w1.heap.size w5 m a b t w1.heap.size (.int .i64 u0) (.slice uxa uxl uxc) (.slice uya uyl uyc) (.int .i64 v0) (.slice vxa vxl vxc) (.slice vya vyl vyc) (.int .i64 t0) (.int .i64 t1) (.string t2) (.slice txa txl txc) (.slice tya tyl tyc)) := HX4.out.keep hb5
 have HU5 : Hid (BoxT w4.heap.size w5 m r w4.heap.size (.int .i64 r0) (.int .i64 r1) (.string r2) (.slice rxa rxl rxc) (.slice rya ryl ryc)) := HU4.out.keep hb5
 clear i0 i1 i2 i3 i4 j0 j1 j2 j3 j4 HC5 HB4 HX4 HU4 hb5
 cases hH : hasF m a m t
 ·
  clear hH
  have hs1 := HX5.out
  have hub := HU5.out
  cases ok with
  | false =>
   have hz : r0 = 0 := by
    have h1 := hub.tree
    have h2 : r = nilT m b := by rw [HOK.out.1]; exact if_neg (by rw [← HOK.out.2]; simp)
    rw [h2] at h1
    exact nil_sort h1
   subst hz
   obtain ⟨i0, i1, i2, i3, i4⟩ := hub.box
   clear hub hs1
   go_wp2_with fail
   go_ret
   exact ⟨rfl, HB5.out⟩
  | true =>
   have hB : widB m a m b m t = true := HOK.out.2.symm
   have HQ : Hid (fitsF m a m b = true ∧ hasF m b m r = true ∧ cntF m t ≤ cntF m r) := ⟨(widB_get hB).1, by rw [HOK.out.1]; exact wid_hasF hB, by rw [HOK.out.1]; exact wid_cntF hB⟩
   have HK : Hid (∀ W, Below w5.heap.size w5 W → (BoxKKT w1.heap.size W m a b t w1.heap.size (.int .i64 u0) (.slice uxa uxl uxc) (.slice uya uyl uyc) (.int .i64 v0) (.slice vxa vxl vxc) (.slice vya vyl vyc) (.int .i64 t0) (.int .i64 t1) (.string t2) (.slice txa txl txc) (.slice tya tyl tyc) ∧ BoxT w4.heap.size W m r w4.heap.size (.int .i64 r0) (.int .i64 r1) (.string r2) (.slice rxa rxl rxc) (.slice rya ryl ryc)) ∧ Below w.heap.size w W) := fun W hW => ⟨⟨HX5.out.keep hW, HU5.out.keep hW⟩, below_step HB5.out HB5.out.size hW⟩
   have HS : Hid (∀ W, Below w5.heap.size w5 W → (W.cell? ⟨w1.heap.size, 0, none⟩ = some (.int .i64 u0) ∧ W.cell? ⟨w1.heap.size, 1, none⟩ = some (.slice uxa uxl uxc) ∧ W.cell? ⟨w1.heap.size, 2, none⟩ = some (.slice uya uyl uyc)) ∧ (W.cell? ⟨w1.heap.size + 1, 0, none⟩ = some (.int .i64 v0) ∧ W.cell? ⟨w1.heap.size + 1, 1, none⟩ = some (.slice vxa vxl vxc) ∧ W.cell? ⟨w1.heap.size + 1, 2, none⟩ = some (.slice vya vyl vyc)) ∧ (W.cell? ⟨w1.heap.size + 1 + 1, 0, none⟩ = some (.int .i64 t0) ∧ W.cell? ⟨w1.heap.size + 1 + 1, 1, none⟩ = some (.int .i64 t1) ∧ W.cell? ⟨w1.heap.size + 1 + 1, 2, none⟩ = some (.string t2) ∧ W.cell? ⟨w1.heap.size + 1 + 1, 3, none⟩ = some (.slice txa txl txc) ∧ W.cell? ⟨w1.heap.size + 1 + 1, 4, none⟩ = some (.slice tya tyl tyc)) ∧ W.cell? ⟨w4.heap.size, 0, none⟩ = some (.int .i64 r0) ∧ W.cell? ⟨w4.heap.size, 1, none⟩ = some (.int .i64 r1) ∧ W.cell? ⟨w4.heap.size, 2, none⟩ = some (.string r2) ∧ W.cell? ⟨w4.heap.size, 3, none⟩ = some (.slice rxa rxl rxc) ∧ W.cell? ⟨w4.heap.size, 4, none⟩ = some (.slice rya ryl ryc)) := fun W hW => by
    have h := (HK.out W hW).1
    exact ⟨⟨h.1.a.box.c0, h.1.a.box.c1, h.1.a.box.c2⟩, ⟨h.1.b.box.c0, h.1.b.box.c1, h.1.b.box.c2⟩, ⟨h.1.t.box.c0, h.1.t.box.c1, h.1.t.box.c2, h.1.t.box.c3, h.1.t.box.c4⟩, h.2.box.c0, h.2.box.c1, h.2.box.c2, h.2.box.c3, h.2.box.c4⟩
   have HF1 : Hid (∀ W, Below w5.heap.size w5 W → Calls Tryz.prog 10 #[.agg #[.int .i64 u0, .slice uxa uxl uxc, .slice uya uyl uyc], .agg #[.int .i64 v0, .slice vxa vxl vxc, .slice vya vyl vyc]] W fun e w' => e = .returned (.bool true) ∧ Below w5.heap.size w5 w') := fun W hW => by
    have h := (HK.out W hW)
    have := implKFits_any m m (fun b => b < w1.heap.size) a b _ _ _ _ _ _ W h.1.1.a.kind h.1.1.b.kind (fun b hb => Nat.lt_of_lt_of_le hb h.1.1.a.lt) (HG.out.step h.2)
    rw [HQ.out.1] at this
    refine this.mono ?_
    rintro e w' ⟨rfl, hb'⟩
    exact ⟨rfl, below_step hW hW.size hb'⟩
   have HF2 : Hid (∀ W, Below w5.heap.size w5 W → Calls Tryz.prog 11 #[.agg #[.int .i64 v0, .slice vxa vxl vxc, .slice vya vyl vyc], .agg #[.int .i64 r0, .int .i64 r1, .string r2, .slice rxa rxl rxc, .slice rya ryl ryc]] W fun e w' => e = .returned (.bool true) ∧ Below w5.heap.size w5 w') := fun W hW => by
    have h := (HK.out W hW)
    have := implKHas_any m m _ _ b r _ _ _ _ _ _ _ _ W h.1.1.b.kind h.1.2.tree (fun b hb => Nat.lt_of_lt_of_le hb h.1.1.b.lt) (fun b hb => Nat.lt_of_lt_of_le hb h.1.2.lt)
    rw [HQ.out.2.1] at this
    refine this.mono ?_
    rintro e w' ⟨rfl, hb'⟩
    exact ⟨rfl, below_step hW hW.size hb'⟩
   have HF3 : Hid (∀ W, Below w5.heap.size w5 W → Calls Tryz.prog 12 #[.agg #[.int .i64 r0, .int .i64 r1, .string r2, .slice rxa rxl rxc, .slice rya ryl ryc]] W fun e w' => e = .returned (.int .i64 (cntF m r)) ∧ Below w5.heap.size w5 w') := fun W hW => by
    have h := (HK.out W hW)
    refine (implParts_any m _ r _ _ _ _ _ W h.1.2.tree (fun b hb => Nat.lt_of_lt_of_le hb h.1.2.lt)).mono ?_
    rintro e w' ⟨rfl, hb'⟩
    exact ⟨rfl, below_step hW hW.size hb'⟩
   have HF4 : Hid (∀ W, Below w5.heap.size w5 W → Calls Tryz.prog 12 #[.agg #[.int .i64 t0, .int .i64 t1, .string t2, .slice txa txl txc, .slice tya tyl tyc]] W fun e w' => e = .returned (.int .i64 (cntF m t)) ∧ Below w5.heap.size w5 w') := fun W hW => by
    have h := (HK.out W hW)
    refine (implParts_any m _ t _ _ _ _ _ W h.1.1.t.tree (fun b hb => Nat.lt_of_lt_of_le hb h.1.1.t.lt)).mono ?_
    rintro e w' ⟨rfl, hb'⟩
    exact ⟨rfl, below_step hW hW.size hb'⟩
   have hbd : Below w5.heap.size w5 w5.drew := (Below.refl _ _).drew
   have hge : decide (cntF m r ≥ cntF m t) = true := decide_eq_true HQ.out.2.2
   have hge2 : cntF m t ≤ cntF m r := HQ.out.2.2
   obtain ⟨⟨i0, i1, i2⟩, ⟨j0, j1, j2⟩, ⟨k0, k1, k2, k3, k4⟩, l0, l1, l2, l3, l4⟩ := HS.out w5 (Below.refl _ _)
   clear hs1 hub
   go_upto_region 15 with fail
   go_region_held (fun w' => (w'.cell? ⟨w1.heap.size, 0, none⟩ = some (.int .i64 u0) ∧ w'.cell? ⟨w1.heap.size, 1, none⟩ = some (.slice uxa uxl uxc) ∧ w'.cell? ⟨w1.heap.size, 2, none⟩ = some (.slice uya uyl uyc)) ∧ (w'.cell? ⟨w1.heap.size + 1, 0, none⟩ = some (.int .i64 v0) ∧ w'.cell? ⟨w1.heap.size + 1, 1, none⟩ = some (.slice vxa vxl vxc) ∧ w'.cell? ⟨w1.heap.size + 1, 2, none⟩ = some (.slice vya vyl vyc)) ∧ (w'.cell? ⟨w1.heap.size + 1 + 1, 0, none⟩ = some (.int .i64 t0) ∧ w'.cell? ⟨w1.heap.size + 1 + 1, 1, none⟩ = some (.int .i64 t1) ∧ w'.cell? ⟨w1.heap.size + 1 + 1, 2, none⟩ = some (.string t2) ∧ w'.cell? ⟨w1.heap.size + 1 + 1, 3, none⟩ = some (.slice txa txl txc) ∧ w'.cell? ⟨w1.heap.size + 1 + 1, 4, none⟩ = some (.slice tya tyl tyc)) ∧ w'.cell? ⟨w4.heap.size, 0, none⟩ = some (.int .i64 r0) ∧ w'.cell? ⟨w4.heap.size, 1, none⟩ = some (.int .i64 r1) ∧ w'.cell? ⟨w4.heap.size, 2, none⟩ = some (.string r2) ∧ w'.cell? ⟨w4.heap.size, 3, none⟩ = some (.slice rxa rxl rxc) ∧ w'.cell? ⟨w4.heap.size, 4, none⟩ = some (.slice rya ryl ryc)) (first | with_reducible assumption | go_keep) (first
    | (go_at_call 10; refine (HF1.out _ (by with_reducible assumption)).mono ?_; rintro e y1 ⟨rfl, hy1⟩; obtain ⟨⟨ia0, ia1, ia2⟩, ⟨ja0, ja1, ja2⟩, ⟨ka0, ka1, ka2, ka3, ka4⟩, la0, la1, la2, la3, la4⟩ := HS.out y1 hy1)
    | (go_at_call 11; refine (HF2.out _ (by with_reducible assumption)).mono ?_; rintro e y2 ⟨rfl, hy2⟩; obtain ⟨⟨ib0, ib1, ib2⟩, ⟨jb0, jb1, jb2⟩, ⟨kb0, kb1, kb2, kb3, kb4⟩, lb0, lb1, lb2, lb3, lb4⟩ := HS.out y2 hy2)
    | (go_at_call_of 12 (Value.agg #[.int .i64 r0, .int .i64 r1, .string r2, .slice rxa rxl rxc, .slice rya ryl ryc]); refine (HF3.out _ (by with_reducible assumption)).mono ?_; rintro e y3 ⟨rfl, hy3⟩; obtain ⟨⟨ic0, ic1, ic2⟩, ⟨jc0, jc1, jc2⟩, ⟨kc0, kc1, kc2, kc3, kc4⟩, lc0, lc1, lc2, lc3, lc4⟩ := HS.out y3 hy3)
    | (go_at_call_of 12 (Value.agg #[.int .i64 t0, .int .i64 t1, .string t2, .slice txa txl txc, .slice tya tyl tyc]); refine (HF4.out _ (by with_reducible assumption)).mono ?_; rintro e y4 ⟨rfl, hy4⟩; obtain ⟨⟨id0, id1, id2⟩, ⟨jd0, jd1, jd2⟩, ⟨kd0, kd1, kd2, kd3, kd4⟩, ld0, ld1, ld2, ld3, ld4⟩ := HS.out y4 hy4))
   all_goals
    have HZ : Hid (Below w.heap.size w y4) := (HK.out y4 hy4).2
    go_wp2_with fail
    go_ret
    exact ⟨rfl, HZ.out⟩
 have HS6 : Hid (widB m a m a m t = true ∧ widA m a m a m t = t) := wid_selfB hH
 clear hH
 have bx := HX5.out
 have HC6 : Hid (Calls Tryz.prog 8 #[.agg #[.int .i64 u0, .slice uxa uxl uxc, .slice uya uyl uyc], .agg #[.int .i64 u0, .slice uxa uxl uxc, .slice uya uyl uyc], .agg #[.int .i64 t0, .int .i64 t1, .string t2, .slice txa txl txc, .slice tya tyl tyc]] w5 (WidPost m t true w5)) := by
  have := implKWiden_any m m m (fun b => b < w1.heap.size) a a t _ _ _ _ _ _ _ _ _ _ _ w5 bx.a.kind bx.a.kind bx.t.tree (fun b hb => Nat.lt_of_lt_of_le hb bx.a.lt) (HG.out.step HB5.out)
  rw [HS6.out.1, HS6.out.2] at this
  exact this
 obtain ⟨i0, i1, i2⟩ := bx.a.box
 obtain ⟨j0, j1, j2⟩ := bx.b.box
 obtain ⟨k0, k1, k2, k3, k4⟩ := bx.t.box
 clear bx
 go_wp2_with fail
 refine HC6.out.mono ?_
 rintro e w6 ⟨hb6, d0, d1, d2, d3, d4, L3, L4, rfl, hd, -, -, -, -⟩
 obtain ⟨q0, q1, q2, qxa, qxl, qxc, qya, qyl, qyc, rfl, rfl, rfl, rfl, rfl⟩ := hd.shape
 obtain ⟨W6, hW6⟩ : ∃ W6, W6 = w6.alloc (.cells #[.int .i64 q0, .int .i64 q1, .string q2, .slice qxa qxl qxc, .slice qya qyl qyc] 29) := ⟨_, rfl⟩
 have ha6 : Below w6.heap.size w6 W6 := by rw [hW6]; exact (Below.refl _ _).alloc (Nat.le_refl _) _
 have hb56 : Below w5.heap.size w5 W6 := below_step hb6 hb6.size ha6
 have HB6 : Hid (Below w.heap.size w W6) := below_step HB5.out HB5.out.size hb56
 have bx := HX5.out.keep hb56
 have HX6 := hidF bx
 have HU6 : Hid (BoxT w4.heap.size W6 m r w4.heap.size (.int .i64 r0) (.int .i64 r1) (.string r2) (.slice rxa rxl rxc) (.slice rya ryl ryc)) := HU5.out.keep hb56
 have bs : BoxT w6.heap.size W6 m t w6.heap.size (.int .i64 q0) (.int .i64 q1) (.string q2) (.slice qxa qxl qxc) (.slice qya qyl qyc) := by rw [hW6]; exact boxT_new w5.heap.size hd
 have HC7 : Hid (Calls Tryz.prog 9 #[.agg #[.int .i64 q0, .int .i64 q1, .string q2, .slice qxa qxl qxc, .slice qya qyl qyc], .agg #[.int .i64 t0, .int .i64 t1, .string t2, .slice txa txl txc, .slice tya tyl tyc]] W6 _) := ttTree_same m _ _ t _ _ _ _ _ _ _ _ _ _ W6 bs.tree bx.t.tree (fun b hb => Nat.lt_of_lt_of_le hb bs.lt) (fun b hb => Nat.lt_of_lt_of_le hb bx.t.lt)
 clear i0 i1 i2 j0 j1 j2 k0 k1 k2 k3 k4
 obtain ⟨i0, i1, i2, i3, i4⟩ := bs.box
 obtain ⟨k0, k1, k2, k3, k4⟩ := bx.t.box
 rw [hW6] at i0 i1 i2 i3 i4 k0 k1 k2 k3 k4
 clear HC6 HB5 HX5 HU5 hb6 hd ha6 hb56 bs bx HS6
 go_wp2_with fail
 rw [← hW6] at i0 i1 i2 i3 i4 k0 k1 k2 k3 k4 ⊢
 clear hW6
 refine HC7.out.mono ?_
 rintro e w7 ⟨rfl, hb7⟩
 have HB7 : Hid (Below w.heap.size w w7) := below_step HB6.out HB6.out.size hb7
 have HX7 : Hid (BoxKKT w1.heap.size w7 m a b t w1.heap.size (.int .i64 u0) (.slice uxa uxl uxc) (.slice uya uyl uyc) (.int .i64 v0) (.slice vxa vxl vxc) (.slice vya vyl vyc) (.int .i64 t0) (.int .i64 t1) (.string t2) (.slice txa txl txc) (.slice tya tyl tyc)) := HX6.out.keep hb7
 have HU7 : Hid (BoxT w4.heap.size w7 m r w4.heap.size (.int .i64 r0) (.int .i64 r1) (.string r2) (.slice rxa rxl rxc) (.slice rya ryl ryc)) := HU6.out.keep hb7
 clear i0 i1 i2 i3 i4 k0 k1 k2 k3 k4 HC7 HB6 HX6 HU6 hb7
 have hs1 := HX7.out
 have hub := HU7.out
 cases ok with
 | false =>
  have hz : r0 = 0 := by
   have h1 := hub.tree
   have h2 : r = nilT m b := by rw [HOK.out.1]; exact if_neg (by rw [← HOK.out.2]; simp)
   rw [h2] at h1
   exact nil_sort h1
  subst hz
  obtain ⟨i0, i1, i2, i3, i4⟩ := hub.box
  clear hub hs1
  go_wp2_with fail
  go_ret
  exact ⟨rfl, HB7.out⟩
 | true =>
  have hB : widB m a m b m t = true := HOK.out.2.symm
  have HQ : Hid (fitsF m a m b = true ∧ hasF m b m r = true ∧ cntF m t ≤ cntF m r) := ⟨(widB_get hB).1, by rw [HOK.out.1]; exact wid_hasF hB, by rw [HOK.out.1]; exact wid_cntF hB⟩
  have HK : Hid (∀ W, Below w7.heap.size w7 W → (BoxKKT w1.heap.size W m a b t w1.heap.size (.int .i64 u0) (.slice uxa uxl uxc) (.slice uya uyl uyc) (.int .i64 v0) (.slice vxa vxl vxc) (.slice vya vyl vyc) (.int .i64 t0) (.int .i64 t1) (.string t2) (.slice txa txl txc) (.slice tya tyl tyc) ∧ BoxT w4.heap.size W m r w4.heap.size (.int .i64 r0) (.int .i64 r1) (.string r2) (.slice rxa rxl rxc) (.slice rya ryl ryc)) ∧ Below w.heap.size w W) := fun W hW => ⟨⟨HX7.out.keep hW, HU7.out.keep hW⟩, below_step HB7.out HB7.out.size hW⟩
  have HS : Hid (∀ W, Below w7.heap.size w7 W → (W.cell? ⟨w1.heap.size, 0, none⟩ = some (.int .i64 u0) ∧ W.cell? ⟨w1.heap.size, 1, none⟩ = some (.slice uxa uxl uxc) ∧ W.cell? ⟨w1.heap.size, 2, none⟩ = some (.slice uya uyl uyc)) ∧ (W.cell? ⟨w1.heap.size + 1, 0, none⟩ = some (.int .i64 v0) ∧ W.cell? ⟨w1.heap.size + 1, 1, none⟩ = some (.slice vxa vxl vxc) ∧ W.cell? ⟨w1.heap.size + 1, 2, none⟩ = some (.slice vya vyl vyc)) ∧ (W.cell? ⟨w1.heap.size + 1 + 1, 0, none⟩ = some (.int .i64 t0) ∧ W.cell? ⟨w1.heap.size + 1 + 1, 1, none⟩ = some (.int .i64 t1) ∧ W.cell? ⟨w1.heap.size + 1 + 1, 2, none⟩ = some (.string t2) ∧ W.cell? ⟨w1.heap.size + 1 + 1, 3, none⟩ = some (.slice txa txl txc) ∧ W.cell? ⟨w1.heap.size + 1 + 1, 4, none⟩ = some (.slice tya tyl tyc)) ∧ W.cell? ⟨w4.heap.size, 0, none⟩ = some (.int .i64 r0) ∧ W.cell? ⟨w4.heap.size, 1, none⟩ = some (.int .i64 r1) ∧ W.cell? ⟨w4.heap.size, 2, none⟩ = some (.string r2) ∧ W.cell? ⟨w4.heap.size, 3, none⟩ = some (.slice rxa rxl rxc) ∧ W.cell? ⟨w4.heap.size, 4, none⟩ = some (.slice rya ryl ryc)) := fun W hW => by
   have h := (HK.out W hW).1
   exact ⟨⟨h.1.a.box.c0, h.1.a.box.c1, h.1.a.box.c2⟩, ⟨h.1.b.box.c0, h.1.b.box.c1, h.1.b.box.c2⟩, ⟨h.1.t.box.c0, h.1.t.box.c1, h.1.t.box.c2, h.1.t.box.c3, h.1.t.box.c4⟩, h.2.box.c0, h.2.box.c1, h.2.box.c2, h.2.box.c3, h.2.box.c4⟩
  have HF1 : Hid (∀ W, Below w7.heap.size w7 W → Calls Tryz.prog 10 #[.agg #[.int .i64 u0, .slice uxa uxl uxc, .slice uya uyl uyc], .agg #[.int .i64 v0, .slice vxa vxl vxc, .slice vya vyl vyc]] W fun e w' => e = .returned (.bool true) ∧ Below w7.heap.size w7 w') := fun W hW => by
   have h := (HK.out W hW)
   have := implKFits_any m m (fun b => b < w1.heap.size) a b _ _ _ _ _ _ W h.1.1.a.kind h.1.1.b.kind (fun b hb => Nat.lt_of_lt_of_le hb h.1.1.a.lt) (HG.out.step h.2)
   rw [HQ.out.1] at this
   refine this.mono ?_
   rintro e w' ⟨rfl, hb'⟩
   exact ⟨rfl, below_step hW hW.size hb'⟩
  have HF2 : Hid (∀ W, Below w7.heap.size w7 W → Calls Tryz.prog 11 #[.agg #[.int .i64 v0, .slice vxa vxl vxc, .slice vya vyl vyc], .agg #[.int .i64 r0, .int .i64 r1, .string r2, .slice rxa rxl rxc, .slice rya ryl ryc]] W fun e w' => e = .returned (.bool true) ∧ Below w7.heap.size w7 w') := fun W hW => by
   have h := (HK.out W hW)
   have := implKHas_any m m _ _ b r _ _ _ _ _ _ _ _ W h.1.1.b.kind h.1.2.tree (fun b hb => Nat.lt_of_lt_of_le hb h.1.1.b.lt) (fun b hb => Nat.lt_of_lt_of_le hb h.1.2.lt)
   rw [HQ.out.2.1] at this
   refine this.mono ?_
   rintro e w' ⟨rfl, hb'⟩
   exact ⟨rfl, below_step hW hW.size hb'⟩
  have HF3 : Hid (∀ W, Below w7.heap.size w7 W → Calls Tryz.prog 12 #[.agg #[.int .i64 r0, .int .i64 r1, .string r2, .slice rxa rxl rxc, .slice rya ryl ryc]] W fun e w' => e = .returned (.int .i64 (cntF m r)) ∧ Below w7.heap.size w7 w') := fun W hW => by
   have h := (HK.out W hW)
   refine (implParts_any m _ r _ _ _ _ _ W h.1.2.tree (fun b hb => Nat.lt_of_lt_of_le hb h.1.2.lt)).mono ?_
   rintro e w' ⟨rfl, hb'⟩
   exact ⟨rfl, below_step hW hW.size hb'⟩
  have HF4 : Hid (∀ W, Below w7.heap.size w7 W → Calls Tryz.prog 12 #[.agg #[.int .i64 t0, .int .i64 t1, .string t2, .slice txa txl txc, .slice tya tyl tyc]] W fun e w' => e = .returned (.int .i64 (cntF m t)) ∧ Below w7.heap.size w7 w') := fun W hW => by
   have h := (HK.out W hW)
   refine (implParts_any m _ t _ _ _ _ _ W h.1.1.t.tree (fun b hb => Nat.lt_of_lt_of_le hb h.1.1.t.lt)).mono ?_
   rintro e w' ⟨rfl, hb'⟩
   exact ⟨rfl, below_step hW hW.size hb'⟩
  have hbd : Below w7.heap.size w7 w7.drew := (Below.refl _ _).drew
  have hge : decide (cntF m r ≥ cntF m t) = true := decide_eq_true HQ.out.2.2
  have hge2 : cntF m t ≤ cntF m r := HQ.out.2.2
  obtain ⟨⟨i0, i1, i2⟩, ⟨j0, j1, j2⟩, ⟨k0, k1, k2, k3, k4⟩, l0, l1, l2, l3, l4⟩ := HS.out w7 (Below.refl _ _)
  clear hs1 hub
  go_upto_region 15 with fail
  go_region_held (fun w' => (w'.cell? ⟨w1.heap.size, 0, none⟩ = some (.int .i64 u0) ∧ w'.cell? ⟨w1.heap.size, 1, none⟩ = some (.slice uxa uxl uxc) ∧ w'.cell? ⟨w1.heap.size, 2, none⟩ = some (.slice uya uyl uyc)) ∧ (w'.cell? ⟨w1.heap.size + 1, 0, none⟩ = some (.int .i64 v0) ∧ w'.cell? ⟨w1.heap.size + 1, 1, none⟩ = some (.slice vxa vxl vxc) ∧ w'.cell? ⟨w1.heap.size + 1, 2, none⟩ = some (.slice vya vyl vyc)) ∧ (w'.cell? ⟨w1.heap.size + 1 + 1, 0, none⟩ = some (.int .i64 t0) ∧ w'.cell? ⟨w1.heap.size + 1 + 1, 1, none⟩ = some (.int .i64 t1) ∧ w'.cell? ⟨w1.heap.size + 1 + 1, 2, none⟩ = some (.string t2) ∧ w'.cell? ⟨w1.heap.size + 1 + 1, 3, none⟩ = some (.slice txa txl txc) ∧ w'.cell? ⟨w1.heap.size + 1 + 1, 4, none⟩ = some (.slice tya tyl tyc)) ∧ w'.cell? ⟨w4.heap.size, 0, none⟩ = some (.int .i64 r0) ∧ w'.cell? ⟨w4.heap.size, 1, none⟩ = some (.int .i64 r1) ∧ w'.cell? ⟨w4.heap.size, 2, none⟩ = some (.string r2) ∧ w'.cell? ⟨w4.heap.size, 3, none⟩ = some (.slice rxa rxl rxc) ∧ w'.cell? ⟨w4.heap.size, 4, none⟩ = some (.slice rya ryl ryc)) (first | with_reducible assumption | go_keep) (first
   | (go_at_call 10; refine (HF1.out _ (by with_reducible assumption)).mono ?_; rintro e y1 ⟨rfl, hy1⟩; obtain ⟨⟨ia0, ia1, ia2⟩, ⟨ja0, ja1, ja2⟩, ⟨ka0, ka1, ka2, ka3, ka4⟩, la0, la1, la2, la3, la4⟩ := HS.out y1 hy1)
   | (go_at_call 11; refine (HF2.out _ (by with_reducible assumption)).mono ?_; rintro e y2 ⟨rfl, hy2⟩; obtain ⟨⟨ib0, ib1, ib2⟩, ⟨jb0, jb1, jb2⟩, ⟨kb0, kb1, kb2, kb3, kb4⟩, lb0, lb1, lb2, lb3, lb4⟩ := HS.out y2 hy2)
   | (go_at_call_of 12 (Value.agg #[.int .i64 r0, .int .i64 r1, .string r2, .slice rxa rxl rxc, .slice rya ryl ryc]); refine (HF3.out _ (by with_reducible assumption)).mono ?_; rintro e y3 ⟨rfl, hy3⟩; obtain ⟨⟨ic0, ic1, ic2⟩, ⟨jc0, jc1, jc2⟩, ⟨kc0, kc1, kc2, kc3, kc4⟩, lc0, lc1, lc2, lc3, lc4⟩ := HS.out y3 hy3)
   | (go_at_call_of 12 (Value.agg #[.int .i64 t0, .int .i64 t1, .string t2, .slice txa txl txc, .slice tya tyl tyc]); refine (HF4.out _ (by with_reducible assumption)).mono ?_; rintro e y4 ⟨rfl, hy4⟩; obtain ⟨⟨id0, id1, id2⟩, ⟨jd0, jd1, jd2⟩, ⟨kd0, kd1, kd2, kd3, kd4⟩, ld0, ld1, ld2, ld3, ld4⟩ := HS.out y4 hy4))
  all_goals
   have HZ : Hid (Below w.heap.size w y4) := (HK.out y4 hy4).2
   go_wp2_with fail
   go_ret
   exact ⟨rfl, HZ.out⟩

end Go.Proofs.YtpalkdcgbbbmeaaGreatDoor
