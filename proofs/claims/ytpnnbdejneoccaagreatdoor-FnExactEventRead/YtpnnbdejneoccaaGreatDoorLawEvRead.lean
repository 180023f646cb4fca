/-
  The law of EventRead, walked: what the two readers answer is given as hypotheses here.
-/
import Derived.Test.YtpnnbdejneoccaaGreatDoorEQ3
import Derived.Test.YtpnnbdejneoccaaGreatDoorEQ4
import Derived.Test.YtpnnbdejneoccaaGreatDoorB10
namespace Go.Proofs.YtpnnbdejneoccaaGreatDoor
open Go.RowKit

set_option maxRecDepth 20000 in
set_option maxHeartbeats 4000000 in
theorem lawERead_of (m : Nat) (s : ByteArray) (hSp : ∀ W, Calls Tryz.prog 4 #[.string s] W (ERPost m s.data.toList W)) (w : World) (hIm : ∀ W, Below w.heap.size w W → Calls Tryz.prog 5 #[.string s] W (ERPostI m s.data.toList W)) (hs : s.size ≤ 1048576) :
    Calls Tryz.prog 3 #[.string s] w fun e w' => e = .returned (.bool true) ∧ Below w.heap.size w w' := by
  have HSp := Lib.hid hSp
  have HIm := Lib.hid hIm
  have hlen : ¬ (1048576 : Int) < (s.size : Int) := by omega
  clear hSp hIm
  go_enter Tryz.func3, Tryz.ntmps3
  go_wp2_with fail
  refine (HSp.out w).mono ?_
  rintro e w2 ⟨hb2, ok, x, v, t, p0, p1, p2, p3, p4, rfl, hP2, hU2⟩
  obtain ⟨s0, s1, s2, sa, sl, sc, ra, rl, rc, rfl, rfl, rfl, rfl, rfl⟩ := hP2.shape
  have hz2 := hb2.size
  obtain ⟨WA, hWA⟩ : ∃ WA, WA = w2.alloc (.cells #[.string x, .int .i64 v, .int .i64 s0, .int .i64 s1, .string s2, .slice sa sl sc, .slice ra rl rc] 27) := ⟨_, rfl⟩
  have hbA : Below w2.heap.size w2 WA := by rw [hWA]; exact (Below.refl _ _).alloc (Nat.le_refl _) _
  have hzA0 : WA.heap.size = w2.heap.size + 1 := by rw [hWA]; simp
  have hzA : w2.heap.size + 1 ≤ WA.heap.size := by omega
  clear hzA0
  have hA : Box7 WA w2.heap.size (.string x) (.int .i64 v) (.int .i64 s0) (.int .i64 s1) (.string s2) (.slice sa sl sc) (.slice ra rl rc) := by rw [hWA]; exact Box7.new _ _ _ _ _ _ _ _ _
  have hbwA := below_step hb2 hz2 hbA
  have hPA : TreeIn (fun b => w.heap.size ≤ b ∧ b < w2.heap.size) WA (m + 1) t (.int .i64 s0) (.int .i64 s1) (.string s2) (.slice sa sl sc) (.slice ra rl rc) := hP2.keep (fun b hb => hbA.block b hb.2) (fun _ h => h)
  have HA : Hid (_ ∧ _ ∧ _) := ⟨hbwA, hA, hPA⟩
  have HU := Lib.hid hU2
  clear HSp hb2 hP2 hU2 hbA hA hbwA hPA
  go_upto_region 4 with fail
  rw [← hWA]
  clear hWA
  go_wp2_with fail
  refine (HIm.out WA HA.out.1).mono ?_
  rintro e w4 ⟨hb4, ok', x', v', t', g0, g1, g2, g3, g4, rfl, hG4, hW4, hU4⟩
  obtain ⟨rfl, rfl, rfl, rfl⟩ := erd_one HU.out hU4
  have HU0 := Lib.hid hU4
  obtain ⟨u0, u1, u2, ua, ul, uc, qa, ql, qc, rfl, rfl, rfl, rfl, rfl⟩ := hG4.shape
  obtain ⟨L3, L4, hN4, hR4, hOw, hll⟩ := hW4
  have hz4 := hb4.size
  obtain ⟨w5, hw5⟩ : ∃ w5, w5 = w4.alloc (.cells #[.string x', .int .i64 v', .int .i64 u0, .int .i64 u1, .string u2, .slice ua ul uc, .slice qa ql qc] 27) := ⟨_, rfl⟩
  have hb5 : Below w4.heap.size w4 w5 := by rw [hw5]; exact (Below.refl _ _).alloc (Nat.le_refl _) _
  have hz50 : w5.heap.size = w4.heap.size + 1 := by rw [hw5]; simp
  have hz5 : w4.heap.size + 1 ≤ w5.heap.size := by omega
  clear hz50
  have hg5 : Box7 w5 w4.heap.size (.string x') (.int .i64 v') (.int .i64 u0) (.int .i64 u1) (.string u2) (.slice ua ul uc) (.slice qa ql qc) := by rw [hw5]; exact Box7.new _ _ _ _ _ _ _ _ _
  have hbA5 : Below WA.heap.size WA w5 := below_step hb4 hz4 hb5
  have sit5 : SitE (m + 1) x' v' t' (fun b => w.heap.size ≤ b ∧ b < w2.heap.size) w2.heap.size w4.heap.size (.int .i64 s0) (.int .i64 s1) (.string s2) (.slice sa sl sc) (.slice ra rl rc) (.int .i64 u0) (.int .i64 u1) (.string u2) (.slice ua ul uc) (.slice qa ql qc) w w5 := ⟨below_step HA.out.1 HA.out.1.size hbA5, HA.out.2.1.keep hbA5, HA.out.2.2.keep (fun b hb => hbA5.block b (by omega)) (fun _ h => h), fun b hb => hb.2, hg5, by omega, by omega⟩
  have hG5 := (hG4.step (fun b hb => hb.2) hb5).1
  have HG5 : Hid (SpN w5 (.slice ua ul uc) L3 ∧ SpR w5 (m + 1 - 1) (.slice qa ql qc) L4) := ⟨hN4.below hb5, hR4.below hb5⟩
  have HOw : Hid (Own (fun b => WA.heap.size ≤ b ∧ b < w4.heap.size) (L3 ++ L4) ∧ (L3 ++ L4).length ≤ 1000) := ⟨hOw, hll⟩
  have HE1 := Lib.hid (eqEvent_same (m + 1) _ _ x' v' t' _ _ _ _ _ _ _ _ _ _ w5 hG5 sit5.ans (fun b hb => by omega) (fun b hb => by omega))
  have HS5 := Lib.hid sit5
  obtain ⟨a0, a1, a2, a3, a4, a5, a6⟩ := id sit5.ansBox
  obtain ⟨b0, b1, b2, b3, b4, b5, b6⟩ := id hg5
  have hbne : (ok' != ok') = false := by simp
  have HW5 : Hid (w4.alloc (.cells #[.string x', .int .i64 v', .int .i64 u0, .int .i64 u1, .string u2, .slice ua ul uc, .slice qa ql qc] 27) = w5) := hw5.symm
  clear HU hU4 hb4 hG4 hN4 hR4 hOw hll hb5 hg5 hbA5 sit5 hG5 HA hw5
  go_upto_region 5 with fail
  rw [HW5.out]
  clear HW5
  go_wp2_with fail
  refine HE1.out.mono ?_
  rintro e w10 ⟨rfl, hb10⟩
  have hz10 := hb10.size
  have s10 := HS5.out.keep hb10
  have hN10 := HG5.out.1.below hb10
  have hR10 := HG5.out.2.below hb10
  have hll := HOw.out.2
  rw [List.length_append] at hll
  have hok10 : ∀ s, s ∈ L3 ++ L4 → s.ok w10 := fun s hs => (List.mem_append.1 hs).elim (hN10.ok s) (hR10.ok s)
  have HM11 := Lib.hid (markEvent_any (m + 1 - 1) x' v' u0 u1 u2 ua qa ul uc ql qc L3 L4 1 w10 hN10 hR10 (by omega) (by omega))
  have HS10 := Lib.hid s10
  have H10 : Hid (SpN w10 (.slice ua ul uc) L3 ∧ SpR w10 (m + 1 - 1) (.slice qa ql qc) L4 ∧ ∀ s, s ∈ L3 ++ L4 → s.ok w10) := ⟨hN10, hR10, hok10⟩
  clear a0 a1 a2 a3 a4 a5 a6 b0 b1 b2 b3 b4 b5 b6
  obtain ⟨b0, b1, b2, b3, b4, b5, b6⟩ := id s10.gotBox
  clear s10 hN10 hR10 hok10 HS5 HG5 HE1 hb10
  -- marks in the answer
  go_wp2_with fail
  refine HM11.out.mono ?_
  rintro e w11 ⟨rfl, W10, hbW, hW11⟩
  have hzW := hbW.size
  have hz11 := hW11.size
  have hs11 : ∀ b : Nat, b < w10.heap.size → ¬ (WA.heap.size ≤ b ∧ b < w4.heap.size) → w11.heap[b]? = w10.heap[b]? := fun b hb hn => (hW11.other (by omega) (fun s hs e => hn (by rw [← e]; exact HOw.out.1.1 s hs))).trans (hbW.block b hb)
  have s11 := HS10.out.step (u' := w11) (Z := fun b => WA.heap.size ≤ b ∧ b < w4.heap.size) (Wrote.below_of (below_step HS10.out.below HS10.out.below.size hbW) (by have := HS10.out.below.size; omega) hW11 (fun s hs => by have := HOw.out.1.1 s hs; have := HS10.out.gu; omega)) (by omega) hs11 (fun b hb => by omega)
  have hokW : ∀ s, s ∈ L3 ++ L4 → s.ok W10 := fun s hs => Spot.ok_same (H10.out.2.2 s hs) (hbW.block _ (by have := HOw.out.1.1 s hs; have := HS10.out.gu; omega))
  have hh11 := hW11.holds hokW HOw.out.1.2
  have hsim := hW11.sim hokW
  have hN11 := (H10.out.1.below hbW).sim hsim
  have hR11 := SpR.sim hsim (H10.out.2.1.below hbW)
  have hok11 : ∀ s, s ∈ L3 ++ L4 → s.ok w11 := fun s hs => Spot.ok_sim (hokW s hs) hsim
  have HH12 := Lib.hid (heldEvent_any (m + 1 - 1) x' v' u0 u1 u2 ua qa ul uc ql qc L3 L4 1 w11 hN11 hR11 hh11 hok11 (by omega) (by omega))
  have HS11 := Lib.hid s11
  have H11 : Hid (SpN w11 (.slice ua ul uc) L3 ∧ SpR w11 (m + 1 - 1) (.slice qa ql qc) L4 ∧ Holds w11 (L3 ++ L4) 1 ∧ ∀ s, s ∈ L3 ++ L4 → s.ok w11) := ⟨hN11, hR11, hh11, hok11⟩
  clear b0 b1 b2 b3 b4 b5 b6
  obtain ⟨b0, b1, b2, b3, b4, b5, b6⟩ := id s11.gotBox
  clear s11 hh11 hsim hN11 hR11 hok11 hokW hs11 hW11 hbW HM11 HS10 H10
  have e13 : ¬ (1 : Int) + (L3.length : Int) + (L4.length : Int) < 0 := by omega
  have ne13 : ((1 : Int) + (L3.length : Int) + (L4.length : Int) != 1 + (L3.length : Int) + (L4.length : Int)) = false := by simp
  go_wp2_with fail
  refine HH12.out.mono ?_
  rintro e w12 ⟨rfl, hb12⟩
  have hz12 := hb12.size
  have HB12 := Lib.hid hb12
  have HBw := Lib.hid (below_step HS11.out.below HS11.out.below.size hb12)
  clear HH12 b0 b1 b2 b3 b4 b5 b6 hb12
  go_wp2_with fail
  refine (HIm.out w12 HBw.out).mono ?_
  rintro e w14 ⟨hb14, ok2, x2, v2, t2, h0, h1, h2, h3, h4, rfl, hH14, -, hU14⟩
  have HUU := Lib.hid hU14
  obtain ⟨c0, c1, c2, ea, el, ec, ja, jl, jc, rfl, rfl, rfl, rfl, rfl⟩ := hH14.shape
  have hz14 := hb14.size
  obtain ⟨w15, hw15⟩ : ∃ w15, w15 = w14.alloc (.cells #[.string x2, .int .i64 v2, .int .i64 c0, .int .i64 c1, .string c2, .slice ea el ec, .slice ja jl jc] 27) := ⟨_, rfl⟩
  have hb15 : Below w14.heap.size w14 w15 := by rw [hw15]; exact (Below.refl _ _).alloc (Nat.le_refl _) _
  have hz150 : w15.heap.size = w14.heap.size + 1 := by rw [hw15]; simp
  have hz15 : w14.heap.size + 1 ≤ w15.heap.size := by omega
  clear hz150
  have hx15 : Box7 w15 w14.heap.size (.string x2) (.int .i64 v2) (.int .i64 c0) (.int .i64 c1) (.string c2) (.slice ea el ec) (.slice ja jl jc) := by rw [hw15]; exact Box7.new _ _ _ _ _ _ _ _ _
  have hb1115 := below_step (below_step HB12.out hz12 hb14) (by omega) hb15
  have s15 := HS11.out.keep hb1115
  have hH15 := (hH14.step (fun b hb => hb.2) hb15).1
  obtain ⟨rfl, rfl, rfl, rfl⟩ := erd_one HUU.out HU0.out
  have HE16 := Lib.hid (eqEvent_same (m + 1) _ _ x' v' t' _ _ _ _ _ _ _ _ _ _ w15 hH15 s15.ans (fun b hb => by omega) (fun b hb => by have := s15.gu; omega))
  obtain ⟨a0, a1, a2, a3, a4, a5, a6⟩ := id s15.ansBox
  obtain ⟨k0, k1, k2, k3, k4, k5, k6⟩ := id hx15
  have HB15 := Lib.hid hb1115
  have HW15 : Hid (w14.alloc (.cells #[.string x', .int .i64 v', .int .i64 c0, .int .i64 c1, .string c2, .slice ea el ec, .slice ja jl jc] 27) = w15) := hw15.symm
  clear hb14 hH14 hU14 HUU hb15 hx15 hb1115 s15 hH15 HB12 HBw hw15
  go_upto_region 16 with fail
  rw [HW15.out]
  clear HW15
  go_wp2_with fail
  refine HE16.out.mono ?_
  rintro e w16 ⟨rfl, hb16⟩
  have hb1116 := below_step HB15.out (by have := HB15.out.size; omega) hb16
  have s16 := HS11.out.keep hb1116
  have HH17 := Lib.hid (heldEvent_any (m + 1 - 1) x' v' u0 u1 u2 ua qa ul uc ql qc L3 L4 1 w16 (H11.out.1.below hb1116) (H11.out.2.1.below hb1116) (H11.out.2.2.1.below H11.out.2.2.2 hb1116) (fun s hs => Spot.ok_same (H11.out.2.2.2 s hs) (hb1116.block _ (by have := HOw.out.1.1 s hs; have := HS11.out.gu; omega))) (by omega) (by omega))
  have HBF := Lib.hid s16.below
  obtain ⟨b0, b1, b2, b3, b4, b5, b6⟩ := id s16.gotBox
  clear HE16 a0 a1 a2 a3 a4 a5 a6 k0 k1 k2 k3 k4 k5 k6 hb16 hb1116 s16 HB15 H11 HS11
  go_wp2_with fail
  refine HH17.out.mono ?_
  rintro e w17 ⟨rfl, hb17⟩
  have hfin := below_step HBF.out HBF.out.size hb17
  clear HH17 b0 b1 b2 b3 b4 b5 b6 hb17 HBF
  go_wp2_with fail
  go_ret
  exact ⟨rfl, hfin⟩

end Go.Proofs.YtpnnbdejneoccaaGreatDoor
