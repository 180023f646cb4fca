/-
  The law of widening by any way, walked.
-/
import Derived.Test.YtdgepmgkhfkmcaaGreatDoorDWid
import Derived.Test.YtdgepmgkhfkmcaaGreatDoorB18
import Derived.Test.YtdgepmgkhfkmcaaGreatDoorB24
import Derived.Test.YtdgepmgkhfkmcaaGreatDoorB28
import Derived.Test.YtdgepmgkhfkmcaaGreatDoorB23
import Derived.Test.YtdgepmgkhfkmcaaGreatDoorKWb
import Derived.Test.YtdgepmgkhfkmcaaGreatDoorTtt
import Derived.Test.YtdgepmgkhfkmcaaGreatDoorB1
namespace Go.Proofs.YtdgepmgkhfkmcaaGreatDoor
open Go.RowKit

set_option maxRecDepth 100000 in
set_option maxHeartbeats 8000000 in
theorem lawPWay_any (m : Nat) (hm : 18 ≤ m) (S : Nat → Prop) (w : World) (ao ao2 : Option Addr) (L cap L2 cap2 : Nat) (h : CodeIn S w ao L cap) (h2 : CodeIn S w ao2 L2 cap2) (hS : ∀ b, S b → b < w.heap.size) (hg : HandleIn w) :
    Calls Tryz.prog 3 #[.slice ao L cap, .slice ao2 L2 cap2] w fun e w' => e = .returned (.bool true) ∧ Below w.heap.size w w' := by
  by_cases hL : 1048576 < L
  · have hLi : (1048576 : Int) < (L : Int) := by omega
    clear h h2 hg
    go_enter Tryz.func3, Tryz.ntmps3
    go_wp2_with fail
    go_ret
    exact ⟨rfl, Below.refl _ _⟩
  have hLi : ¬ (1048576 : Int) < (L : Int) := by omega
  by_cases hL2 : 1048576 < L2
  · have hL2i : (1048576 : Int) < (L2 : Int) := by omega
    clear h h2 hg
    go_enter Tryz.func3, Tryz.ntmps3
    go_wp2_with fail
    go_ret
    exact ⟨rfl, Below.refl _ _⟩
  have hL2i : ¬ (1048576 : Int) < (L2 : Int) := by omega
  have HD : Hid (Calls Tryz.prog 5 #[.slice ao L cap] w (DrawnKKT m w)) := drawKWiden_any m hm S w ao L cap h hS
  have HG : Hid (HandleIn w) := hg
  have HC2 : Hid (CodeIn S w ao2 L2 cap2) := h2
  clear h h2 hg
  go_enter Tryz.func3, Tryz.ntmps3
  go_wp2_with fail
  refine HD.out.mono ?_
  rintro e w1 ⟨hb1, a, b, t, a0, a1, a2, b0, b1, b2, d0, d1, d2, d3, d4, rfl, hka, hkb, hkt⟩
  obtain ⟨u0, uxa, uxl, uxc, uya, uyl, uyc, rfl, rfl, rfl⟩ := hka.shape
  obtain ⟨v0, vxa, vxl, vxc, vya, vyl, vyc, rfl, rfl, rfl⟩ := hkb.shape
  obtain ⟨t0, t1, t2, txa, txl, txc, tya, tyl, tyc, rfl, rfl, rfl, rfl, rfl⟩ := hkt.shape
  obtain ⟨W1, hW1⟩ : ∃ W1, W1 = ((w1.alloc (.cells #[.int .i64 u0, .slice uxa uxl uxc, .slice uya uyl uyc] 26)).alloc (.cells #[.int .i64 v0, .slice vxa vxl vxc, .slice vya vyl vyc] 26)).alloc (.cells #[.int .i64 t0, .int .i64 t1, .string t2, .slice txa txl txc, .slice tya tyl tyc] 29) := ⟨_, rfl⟩
  have ha1 : Below w1.heap.size w1 W1 := by rw [hW1]; exact (((Below.refl _ _).alloc (Nat.le_refl _) _).alloc (by simp) _).alloc (by simp; omega) _
  have bx : BoxKKT w1.heap.size W1 m a b t w1.heap.size (.int .i64 u0) (.slice uxa uxl uxc) (.slice uya uyl uyc) (.int .i64 v0) (.slice vxa vxl vxc) (.slice vya vyl vyc) (.int .i64 t0) (.int .i64 t1) (.string t2) (.slice txa txl txc) (.slice tya tyl tyc) := by rw [hW1]; exact kkt_new w.heap.size hka hkb hkt
  have HB1 : Hid (Below w.heap.size w W1) := below_step hb1 hb1.size ha1
  have HX1 : Hid (BoxKKT w1.heap.size W1 m a b t w1.heap.size (.int .i64 u0) (.slice uxa uxl uxc) (.slice uya uyl uyc) (.int .i64 v0) (.slice vxa vxl vxc) (.slice vya vyl vyc) (.int .i64 t0) (.int .i64 t1) (.string t2) (.slice txa txl txc) (.slice tya tyl tyc)) := bx
  have hs0 := hb1.size
  have hs1 := ha1.size
  have HW : Hid (Calls Tryz.prog 6 #[.agg #[.int .i64 v0, .slice vxa vxl vxc, .slice vya vyl vyc], .slice ao2 L2 cap2] W1 (WayPost (fun b => b < w1.heap.size) W1)) := drawKWay_any m S _ b _ _ _ W1 ao2 L2 cap2 bx.b.kind (fun b hb => Nat.lt_of_lt_of_le hb bx.b.lt) ⟨HC2.out.1, HC2.out.2.1, fun h0 => by
      obtain ⟨b, off, ha, hb, hc⟩ := HC2.out.2.2 h0
      exact ⟨b, off, ha, hb, fun j hj => by
        obtain ⟨u, hu, hcell⟩ := hc j hj
        exact ⟨u, hu, (World.cell?_of_block (HB1.out.block b (hS b hb))).trans hcell⟩⟩⟩ (fun b hb => by have := hS b hb; omega)
  obtain ⟨j0, j1, j2⟩ := bx.b.box
  rw [hW1] at j0 j1 j2
  clear HD hb1 hka hkb hkt ha1 bx HC2
  go_wp2_with fail
  rw [← hW1] at j0 j1 j2 ⊢
  clear hW1
  refine HW.out.mono ?_
  rintro e w2 ⟨hb2, l, c, d0, d1, d2, rfl, hkc⟩
  obtain ⟨s0, sxa, sxl, sxc, sya, syl, syc, rfl, rfl, rfl⟩ := hkc.shape
  obtain ⟨W2, hW2⟩ : ∃ W2, W2 = w2.alloc (.cells #[.int .i64 s0, .slice sxa sxl sxc, .slice sya syl syc] 26) := ⟨_, rfl⟩
  have ha2 : Below w2.heap.size w2 W2 := by rw [hW2]; exact (Below.refl _ _).alloc (Nat.le_refl _) _
  have hs2 := hb2.size
  have hb12 : Below W1.heap.size W1 W2 := below_step hb2 hb2.size ha2
  have bc : BoxK w2.heap.size W2 l c w2.heap.size (.int .i64 s0) (.slice sxa sxl sxc) (.slice sya syl syc) := by
    refine ⟨by rw [hW2]; exact Box3.new _ _ _ _ _, hkc.keep (fun b hb => ha2.block b (hb.elim (fun h => by omega) (fun h => h.2))) (fun b hb => hb.elim (fun h => by omega) (fun h => h.2)), ha2.size⟩
  have HK : Hid (∀ W, Below W2.heap.size W2 W → (BoxKKT w1.heap.size W m a b t w1.heap.size (.int .i64 u0) (.slice uxa uxl uxc) (.slice uya uyl uyc) (.int .i64 v0) (.slice vxa vxl vxc) (.slice vya vyl vyc) (.int .i64 t0) (.int .i64 t1) (.string t2) (.slice txa txl txc) (.slice tya tyl tyc) ∧ BoxK w2.heap.size W l c w2.heap.size (.int .i64 s0) (.slice sxa sxl sxc) (.slice sya syl syc)) ∧ Below w.heap.size w W) := fun W hW => ⟨⟨(HX1.out.keep hb12).keep hW, bc.keep hW⟩, below_step (below_step HB1.out HB1.out.size hb12) (below_step HB1.out HB1.out.size hb12).size hW⟩
  have HS : Hid (∀ W, Below W2.heap.size W2 W → (W.cell? ⟨w1.heap.size, 0, none⟩ = some (.int .i64 u0) ∧ W.cell? ⟨w1.heap.size, 1, none⟩ = some (.slice uxa uxl uxc) ∧ W.cell? ⟨w1.heap.size, 2, none⟩ = some (.slice uya uyl uyc)) ∧ (W.cell? ⟨w1.heap.size + 1, 0, none⟩ = some (.int .i64 v0) ∧ W.cell? ⟨w1.heap.size + 1, 1, none⟩ = some (.slice vxa vxl vxc) ∧ W.cell? ⟨w1.heap.size + 1, 2, none⟩ = some (.slice vya vyl vyc)) ∧ (W.cell? ⟨w1.heap.size + 1 + 1, 0, none⟩ = some (.int .i64 t0) ∧ W.cell? ⟨w1.heap.size + 1 + 1, 1, none⟩ = some (.int .i64 t1) ∧ W.cell? ⟨w1.heap.size + 1 + 1, 2, none⟩ = some (.string t2) ∧ W.cell? ⟨w1.heap.size + 1 + 1, 3, none⟩ = some (.slice txa txl txc) ∧ W.cell? ⟨w1.heap.size + 1 + 1, 4, none⟩ = some (.slice tya tyl tyc)) ∧ W.cell? ⟨w2.heap.size, 0, none⟩ = some (.int .i64 s0) ∧ W.cell? ⟨w2.heap.size, 1, none⟩ = some (.slice sxa sxl sxc) ∧ W.cell? ⟨w2.heap.size, 2, none⟩ = some (.slice sya syl syc)) := fun W hW => by
    have h := (HK.out W hW).1
    exact ⟨⟨h.1.a.box.c0, h.1.a.box.c1, h.1.a.box.c2⟩, ⟨h.1.b.box.c0, h.1.b.box.c1, h.1.b.box.c2⟩, ⟨h.1.t.box.c0, h.1.t.box.c1, h.1.t.box.c2, h.1.t.box.c3, h.1.t.box.c4⟩, h.2.box.c0, h.2.box.c1, h.2.box.c2⟩
  obtain ⟨f1, hf1⟩ : ∃ f1, f1 = fitsF m a m b := ⟨_, rfl⟩
  obtain ⟨f2, hf2⟩ : ∃ f2, f2 = fitsF m b l c := ⟨_, rfl⟩
  obtain ⟨f3, hf3⟩ : ∃ f3, f3 = fitsF m a l c := ⟨_, rfl⟩
  have HFF : Hid (f1 = fitsF m a m b ∧ f2 = fitsF m b l c ∧ f3 = fitsF m a l c) := ⟨hf1, hf2, hf3⟩
  have HS1 : Hid (∀ W, Below W2.heap.size W2 W → Calls Tryz.prog 7 #[.agg #[.int .i64 u0, .slice uxa uxl uxc, .slice uya uyl uyc], .agg #[.int .i64 v0, .slice vxa vxl vxc, .slice vya vyl vyc]] W fun e w' => e = .returned (.bool f1) ∧ Below W2.heap.size W2 w') := fun W hW => by
    have h := HK.out W hW
    have := specKFits_any m m _ _ a b _ _ _ _ _ _ W h.1.1.a.kind h.1.1.b.kind (fun b hb => Nat.lt_of_lt_of_le hb h.1.1.a.lt) (fun b hb => Nat.lt_of_lt_of_le hb h.1.1.b.lt)
    rw [← hf1] at this
    refine this.mono ?_
    rintro e w' ⟨rfl, hb'⟩
    exact ⟨rfl, below_step hW hW.size hb'⟩
  have HS2 : Hid (∀ W, Below W2.heap.size W2 W → Calls Tryz.prog 7 #[.agg #[.int .i64 v0, .slice vxa vxl vxc, .slice vya vyl vyc], .agg #[.int .i64 s0, .slice sxa sxl sxc, .slice sya syl syc]] W fun e w' => e = .returned (.bool f2) ∧ Below W2.heap.size W2 w') := fun W hW => by
    have h := HK.out W hW
    have := specKFits_any m l _ _ b c _ _ _ _ _ _ W h.1.1.b.kind h.1.2.kind (fun b hb => Nat.lt_of_lt_of_le hb h.1.1.b.lt) (fun b hb => Nat.lt_of_lt_of_le hb h.1.2.lt)
    rw [← hf2] at this
    refine this.mono ?_
    rintro e w' ⟨rfl, hb'⟩
    exact ⟨rfl, below_step hW hW.size hb'⟩
  have HI1 : Hid (∀ W, Below W2.heap.size W2 W → Calls Tryz.prog 8 #[.agg #[.int .i64 u0, .slice uxa uxl uxc, .slice uya uyl uyc], .agg #[.int .i64 v0, .slice vxa vxl vxc, .slice vya vyl vyc]] W fun e w' => e = .returned (.bool f1) ∧ Below W2.heap.size W2 w') := fun W hW => by
    have h := HK.out W hW
    have := implKFits_any m m (fun b => b < W.heap.size) a b _ _ _ _ _ _ W (h.1.1.a.kind.keep (fun _ _ => rfl) (fun b hb => Nat.lt_of_lt_of_le hb h.1.1.a.lt)) (h.1.1.b.kind.keep (fun _ _ => rfl) (fun b hb => Nat.lt_of_lt_of_le hb h.1.1.b.lt)) (fun _ h => h) (HG.out.step h.2)
    rw [← hf1] at this
    refine this.mono ?_
    rintro e w' ⟨rfl, hb'⟩
    exact ⟨rfl, below_step hW hW.size hb'⟩
  have HI2 : Hid (∀ W, Below W2.heap.size W2 W → Calls Tryz.prog 8 #[.agg #[.int .i64 v0, .slice vxa vxl vxc, .slice vya vyl vyc], .agg #[.int .i64 s0, .slice sxa sxl sxc, .slice sya syl syc]] W fun e w' => e = .returned (.bool f2) ∧ Below W2.heap.size W2 w') := fun W hW => by
    have h := HK.out W hW
    have := implKFits_any m l (fun b => b < W.heap.size) b c _ _ _ _ _ _ W (h.1.1.b.kind.keep (fun _ _ => rfl) (fun b hb => Nat.lt_of_lt_of_le hb h.1.1.b.lt)) (h.1.2.kind.keep (fun _ _ => rfl) (fun b hb => Nat.lt_of_lt_of_le hb h.1.2.lt)) (fun _ h => h) (HG.out.step h.2)
    rw [← hf2] at this
    refine this.mono ?_
    rintro e w' ⟨rfl, hb'⟩
    exact ⟨rfl, below_step hW hW.size hb'⟩
  have HI3 : Hid (∀ W, Below W2.heap.size W2 W → Calls Tryz.prog 8 #[.agg #[.int .i64 u0, .slice uxa uxl uxc, .slice uya uyl uyc], .agg #[.int .i64 s0, .slice sxa sxl sxc, .slice sya syl syc]] W fun e w' => e = .returned (.bool f3) ∧ Below W2.heap.size W2 w') := fun W hW => by
    have h := HK.out W hW
    have := implKFits_any m l (fun b => b < W.heap.size) a c _ _ _ _ _ _ W (h.1.1.a.kind.keep (fun _ _ => rfl) (fun b hb => Nat.lt_of_lt_of_le hb h.1.1.a.lt)) (h.1.2.kind.keep (fun _ _ => rfl) (fun b hb => Nat.lt_of_lt_of_le hb h.1.2.lt)) (fun _ h => h) (HG.out.step h.2)
    rw [← hf3] at this
    refine this.mono ?_
    rintro e w' ⟨rfl, hb'⟩
    exact ⟨rfl, below_step hW hW.size hb'⟩
  have hz2 : Below W2.heap.size W2 W2 := Below.refl _ _
  obtain ⟨⟨i0, i1, i2⟩, ⟨j0, j1, j2⟩, ⟨k0, k1, k2, k3, k4⟩, n0, n1, n2⟩ := HS.out W2 hz2
  rw [hW2] at i0 i1 i2 j0 j1 j2 k0 k1 k2 k3 k4 n0 n1 n2
  clear HX1 HB1 HW hb2 hkc ha2 hb12 bc hf1 hf2 hf3
  go_wp2_with fail
  rw [← hW2] at i0 i1 i2 j0 j1 j2 k0 k1 k2 k3 k4 n0 n1 n2 ⊢
  clear hW2
  refine (HS1.out W2 hz2).mono ?_
  rintro e w3 ⟨rfl, h3⟩
  clear i0 i1 i2 j0 j1 j2 k0 k1 k2 k3 k4 n0 n1 n2
  obtain ⟨⟨i0, i1, i2⟩, ⟨j0, j1, j2⟩, ⟨k0, k1, k2, k3, k4⟩, n0, n1, n2⟩ := HS.out w3 h3
  cases f1 with
  | false =>
    go_wp2_with fail
    refine (HI1.out w3 h3).mono ?_
    rintro e w4 ⟨rfl, h4⟩
    clear i0 i1 i2 j0 j1 j2 k0 k1 k2 k3 k4 n0 n1 n2
    obtain ⟨⟨i0, i1, i2⟩, ⟨j0, j1, j2⟩, ⟨k0, k1, k2, k3, k4⟩, n0, n1, n2⟩ := HS.out w4 h4
    have HZ : Hid (Below w.heap.size w w4) := (HK.out w4 h4).2
    go_wp2_with fail
    go_ret
    exact ⟨rfl, HZ.out⟩
  | true =>
    go_wp2_with fail
    refine (HS2.out w3 h3).mono ?_
    rintro e w4 ⟨rfl, h4⟩
    clear i0 i1 i2 j0 j1 j2 k0 k1 k2 k3 k4 n0 n1 n2
    obtain ⟨⟨i0, i1, i2⟩, ⟨j0, j1, j2⟩, ⟨k0, k1, k2, k3, k4⟩, n0, n1, n2⟩ := HS.out w4 h4
    cases f2 with
    | false =>
      go_wp2_with fail
      refine (HI1.out w4 h4).mono ?_
      rintro e w5 ⟨rfl, h5⟩
      clear i0 i1 i2 j0 j1 j2 k0 k1 k2 k3 k4 n0 n1 n2
      obtain ⟨⟨i0, i1, i2⟩, ⟨j0, j1, j2⟩, ⟨k0, k1, k2, k3, k4⟩, n0, n1, n2⟩ := HS.out w5 h5
      go_wp2_with fail
      refine (HI2.out w5 h5).mono ?_
      rintro e w6 ⟨rfl, h6⟩
      clear i0 i1 i2 j0 j1 j2 k0 k1 k2 k3 k4 n0 n1 n2
      obtain ⟨⟨i0, i1, i2⟩, ⟨j0, j1, j2⟩, ⟨k0, k1, k2, k3, k4⟩, n0, n1, n2⟩ := HS.out w6 h6
      have HZ : Hid (Below w.heap.size w w6) := (HK.out w6 h6).2
      go_wp2_with fail
      go_ret
      exact ⟨rfl, HZ.out⟩
    | true =>
      have hf3 : f3 = true := by rw [HFF.out.2.2]; exact way_fits HFF.out.1.symm HFF.out.2.1.symm
      subst hf3
      go_wp2_with fail
      refine (HI1.out w4 h4).mono ?_
      rintro e w5 ⟨rfl, h5⟩
      clear i0 i1 i2 j0 j1 j2 k0 k1 k2 k3 k4 n0 n1 n2
      obtain ⟨⟨i0, i1, i2⟩, ⟨j0, j1, j2⟩, ⟨k0, k1, k2, k3, k4⟩, n0, n1, n2⟩ := HS.out w5 h5
      go_wp2_with fail
      refine (HI2.out w5 h5).mono ?_
      rintro e w6 ⟨rfl, h6⟩
      clear i0 i1 i2 j0 j1 j2 k0 k1 k2 k3 k4 n0 n1 n2
      obtain ⟨⟨i0, i1, i2⟩, ⟨j0, j1, j2⟩, ⟨k0, k1, k2, k3, k4⟩, n0, n1, n2⟩ := HS.out w6 h6
      go_wp2_with fail
      refine (HI3.out w6 h6).mono ?_
      rintro e w7 ⟨rfl, h7⟩
      clear i0 i1 i2 j0 j1 j2 k0 k1 k2 k3 k4 n0 n1 n2
      obtain ⟨⟨i0, i1, i2⟩, ⟨j0, j1, j2⟩, ⟨k0, k1, k2, k3, k4⟩, n0, n1, n2⟩ := HS.out w7 h7
      obtain ⟨r1, hr1⟩ : ∃ r, r = widA m a l c m t := ⟨_, rfl⟩
      obtain ⟨r2, hr2⟩ : ∃ r, r = widA m a m b m t := ⟨_, rfl⟩
      obtain ⟨r3, hr3⟩ : ∃ r, r = widA m b l c m r2 := ⟨_, rfl⟩
      obtain ⟨o1, ho1⟩ : ∃ o, o = widB m a l c m t := ⟨_, rfl⟩
      obtain ⟨o2, ho2⟩ : ∃ o, o = widB m a m b m t := ⟨_, rfl⟩
      obtain ⟨o3, ho3⟩ : ∃ o, o = widB m b l c m r2 := ⟨_, rfl⟩
      have HE : Hid (o1 = (o2 && o3) ∧ r1 = r3) := by
        have := way_wid (t := t) HFF.out.1.symm HFF.out.2.1.symm
        show _ ∧ _
        rw [ho1, ho2, ho3, hr1, hr3, hr2]
        exact this
      have HQ : Hid ((r1 = widA m a l c m t ∧ o1 = widB m a l c m t) ∧ (r2 = widA m a m b m t ∧ o2 = widB m a m b m t) ∧ r3 = widA m b l c m r2 ∧ o3 = widB m b l c m r2) := ⟨⟨hr1, ho1⟩, ⟨hr2, ho2⟩, hr3, ho3⟩
      clear hr1 hr2 hr3 ho1 ho2 ho3
      have h := HK.out w7 h7
      have HC8 : Hid (Calls Tryz.prog 9 #[.agg #[.int .i64 u0, .slice uxa uxl uxc, .slice uya uyl uyc], .agg #[.int .i64 s0, .slice sxa sxl sxc, .slice sya syl syc], .agg #[.int .i64 t0, .int .i64 t1, .string t2, .slice txa txl txc, .slice tya tyl tyc]] w7 (WidPost l r1 o1 w7)) := by
        rw [HQ.out.1.1, HQ.out.1.2]
        exact implKWiden_any m l m (fun b => b < w7.heap.size) a c t _ _ _ _ _ _ _ _ _ _ _ w7 (h.1.1.a.kind.keep (fun _ _ => rfl) (fun b hb => Nat.lt_of_lt_of_le hb h.1.1.a.lt)) (h.1.2.kind.keep (fun _ _ => rfl) (fun b hb => Nat.lt_of_lt_of_le hb h.1.2.lt)) (h.1.1.t.tree.keep (fun _ _ => rfl) (fun b hb => Nat.lt_of_lt_of_le hb h.1.1.t.lt)) (fun _ h => h) (HG.out.step h.2)
      clear h
      go_wp2_with fail
      refine HC8.out.mono ?_
      rintro e w8 ⟨hb8, d0, d1, d2, d3, d4, L3, L4, rfl, hd, -, -, -, -⟩
      obtain ⟨x0, x1, x2, xxa, xxl, xxc, xya, xyl, xyc, rfl, rfl, rfl, rfl, rfl⟩ := hd.shape
      obtain ⟨W8, hW8⟩ : ∃ W8, W8 = w8.alloc (.cells #[.int .i64 x0, .int .i64 x1, .string x2, .slice xxa xxl xxc, .slice xya xyl xyc] 29) := ⟨_, rfl⟩
      have ha8 : Below w8.heap.size w8 W8 := by rw [hW8]; exact (Below.refl _ _).alloc (Nat.le_refl _) _
      have hb78 : Below w7.heap.size w7 W8 := below_step hb8 hb8.size ha8
      have h8 : Below W2.heap.size W2 W8 := below_step h7 h7.size hb78
      have HX8 : Hid (BoxT w8.heap.size W8 l r1 w8.heap.size (.int .i64 x0) (.int .i64 x1) (.string x2) (.slice xxa xxl xxc) (.slice xya xyl xyc)) := by show BoxT _ _ _ _ _ _ _ _ _ _; rw [hW8]; exact boxT_new w7.heap.size hd
      have h := HK.out W8 h8
      have HC9 : Hid (Calls Tryz.prog 9 #[.agg #[.int .i64 u0, .slice uxa uxl uxc, .slice uya uyl uyc], .agg #[.int .i64 v0, .slice vxa vxl vxc, .slice vya vyl vyc], .agg #[.int .i64 t0, .int .i64 t1, .string t2, .slice txa txl txc, .slice tya tyl tyc]] W8 (WidPost m r2 o2 W8)) := by
        rw [HQ.out.2.1.1, HQ.out.2.1.2]
        exact implKWiden_any m m m (fun b => b < W8.heap.size) a b t _ _ _ _ _ _ _ _ _ _ _ W8 (h.1.1.a.kind.keep (fun _ _ => rfl) (fun b hb => Nat.lt_of_lt_of_le hb h.1.1.a.lt)) (h.1.1.b.kind.keep (fun _ _ => rfl) (fun b hb => Nat.lt_of_lt_of_le hb h.1.1.b.lt)) (h.1.1.t.tree.keep (fun _ _ => rfl) (fun b hb => Nat.lt_of_lt_of_le hb h.1.1.t.lt)) (fun _ h => h) (HG.out.step h.2)
      clear i0 i1 i2 j0 j1 j2 k0 k1 k2 k3 k4 n0 n1 n2
      obtain ⟨⟨i0, i1, i2⟩, ⟨j0, j1, j2⟩, ⟨k0, k1, k2, k3, k4⟩, n0, n1, n2⟩ := HS.out W8 h8
      rw [hW8] at i0 i1 i2 j0 j1 j2 k0 k1 k2 k3 k4 n0 n1 n2
      clear h HC8 hb8 hd ha8 hb78
      go_wp2_with fail
      rw [← hW8] at i0 i1 i2 j0 j1 j2 k0 k1 k2 k3 k4 n0 n1 n2 ⊢
      clear hW8
      refine HC9.out.mono ?_
      rintro e w9 ⟨hb9, d0, d1, d2, d3, d4, L3, L4, rfl, hd, -, -, -, -⟩
      obtain ⟨y0, y1, y2, yxa, yxl, yxc, yya, yyl, yyc, rfl, rfl, rfl, rfl, rfl⟩ := hd.shape
      obtain ⟨W9, hW9⟩ : ∃ W9, W9 = w9.alloc (.cells #[.int .i64 y0, .int .i64 y1, .string y2, .slice yxa yxl yxc, .slice yya yyl yyc] 29) := ⟨_, rfl⟩
      have ha9 : Below w9.heap.size w9 W9 := by rw [hW9]; exact (Below.refl _ _).alloc (Nat.le_refl _) _
      have hb89 : Below W8.heap.size W8 W9 := below_step hb9 hb9.size ha9
      have h9 : Below W2.heap.size W2 W9 := below_step h8 h8.size hb89
      have HX9 : Hid (BoxT w8.heap.size W9 l r1 w8.heap.size (.int .i64 x0) (.int .i64 x1) (.string x2) (.slice xxa xxl xxc) (.slice xya xyl xyc)) := HX8.out.keep hb89
      have by9 : BoxT w9.heap.size W9 m r2 w9.heap.size (.int .i64 y0) (.int .i64 y1) (.string y2) (.slice yxa yxl yxc) (.slice yya yyl yyc) := by rw [hW9]; exact boxT_new W8.heap.size hd
      have h := HK.out W9 h9
      have HC10 : Hid (Calls Tryz.prog 9 #[.agg #[.int .i64 v0, .slice vxa vxl vxc, .slice vya vyl vyc], .agg #[.int .i64 s0, .slice sxa sxl sxc, .slice sya syl syc], .agg #[.int .i64 y0, .int .i64 y1, .string y2, .slice yxa yxl yxc, .slice yya yyl yyc]] W9 (WidPost l r3 o3 W9)) := by
        rw [HQ.out.2.2.1, HQ.out.2.2.2]
        exact implKWiden_any m l m (fun b => b < W9.heap.size) b c r2 _ _ _ _ _ _ _ _ _ _ _ W9 (h.1.1.b.kind.keep (fun _ _ => rfl) (fun b hb => Nat.lt_of_lt_of_le hb h.1.1.b.lt)) (h.1.2.kind.keep (fun _ _ => rfl) (fun b hb => Nat.lt_of_lt_of_le hb h.1.2.lt)) (by9.tree.keep (fun _ _ => rfl) (fun b hb => Nat.lt_of_lt_of_le hb by9.lt)) (fun _ h => h) (HG.out.step h.2)
      clear i0 i1 i2 j0 j1 j2 k0 k1 k2 k3 k4 n0 n1 n2
      obtain ⟨⟨i0, i1, i2⟩, ⟨j0, j1, j2⟩, ⟨k0, k1, k2, k3, k4⟩, n0, n1, n2⟩ := HS.out W9 h9
      obtain ⟨q0, q1, q2, q3, q4⟩ := by9.box
      rw [hW9] at i0 i1 i2 j0 j1 j2 k0 k1 k2 k3 k4 n0 n1 n2 q0 q1 q2 q3 q4
      clear h HC9 hb9 hd ha9 hb89 HX8 by9 HQ
      go_wp2_with fail
      rw [← hW9] at q0 q1 q2 q3 q4 ⊢
      clear hW9
      refine HC10.out.mono ?_
      rintro e w10 ⟨hb10, d0, d1, d2, d3, d4, L3, L4, rfl, hd, -, -, -, -⟩
      obtain ⟨z0, z1, z2, zxa, zxl, zxc, zya, zyl, zyc, rfl, rfl, rfl, rfl, rfl⟩ := hd.shape
      obtain ⟨W10, hW10⟩ : ∃ W10, W10 = w10.alloc (.cells #[.int .i64 z0, .int .i64 z1, .string z2, .slice zxa zxl zxc, .slice zya zyl zyc] 29) := ⟨_, rfl⟩
      have ha10 : Below w10.heap.size w10 W10 := by rw [hW10]; exact (Below.refl _ _).alloc (Nat.le_refl _) _
      have hb910 : Below W9.heap.size W9 W10 := below_step hb10 hb10.size ha10
      have h10 : Below W2.heap.size W2 W10 := below_step h9 h9.size hb910
      have bx10 : BoxT w8.heap.size W10 l r1 w8.heap.size (.int .i64 x0) (.int .i64 x1) (.string x2) (.slice xxa xxl xxc) (.slice xya xyl xyc) := HX9.out.keep hb910
      have bz10 : BoxT w10.heap.size W10 l r3 w10.heap.size (.int .i64 z0) (.int .i64 z1) (.string z2) (.slice zxa zxl zxc) (.slice zya zyl zyc) := by rw [hW10]; exact boxT_new W9.heap.size hd
      have HC11 : Hid (Calls Tryz.prog 10 #[.agg #[.int .i64 x0, .int .i64 x1, .string x2, .slice xxa xxl xxc, .slice xya xyl xyc], .agg #[.int .i64 z0, .int .i64 z1, .string z2, .slice zxa zxl zxc, .slice zya zyl zyc]] W10 fun e w' => e = .returned (.bool true) ∧ Below W10.heap.size W10 w') := by
        have e := HE.out.2
        subst e
        exact ttTree_same l _ _ r1 _ _ _ _ _ _ _ _ _ _ W10 bx10.tree bz10.tree (fun b hb => Nat.lt_of_lt_of_le hb bx10.lt) (fun b hb => Nat.lt_of_lt_of_le hb bz10.lt)
      have HZ : Hid (∀ W, Below W10.heap.size W10 W → Below w.heap.size w W) := fun W hW => below_step (HK.out W10 h10).2 (HK.out W10 h10).2.size hW
      clear i0 i1 i2 j0 j1 j2 k0 k1 k2 k3 k4 n0 n1 n2 q0 q1 q2 q3 q4
      obtain ⟨i0, i1, i2, i3, i4⟩ := bx10.box
      obtain ⟨j0, j1, j2, j3, j4⟩ := bz10.box
      rw [hW10] at i0 i1 i2 i3 i4 j0 j1 j2 j3 j4
      have ho := HE.out.1
      clear HC10 hb10 hd ha10 hb910 HX9 bx10 bz10 HE
      cases o2 <;> cases o3 <;> first | (obtain rfl : o1 = false := ho) | (obtain rfl : o1 = true := ho)
      all_goals
        go_wp2_with fail
        rw [← hW10] at i0 i1 i2 i3 i4 j0 j1 j2 j3 j4 ⊢
        clear hW10
        refine HC11.out.mono ?_
        rintro e w11 ⟨rfl, hb11⟩
        have HZZ : Hid (Below w.heap.size w w11) := HZ.out w11 hb11
        clear i0 i1 i2 i3 i4 j0 j1 j2 j3 j4 HC11 hb11 HZ
        go_wp2_with fail
        go_ret
        exact ⟨rfl, HZZ.out⟩

end Go.Proofs.YtdgepmgkhfkmcaaGreatDoor
