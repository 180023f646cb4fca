/-
  The copies of trees that the laws make can be written to.
-/
import Derived.Test.YtpnnbdejneoccaaKThaw
namespace Go.Proofs.Ytpnnbdejneoccaa
open Go.RowKit

/-- toTree at trees of at most n levels. -/
def ToTSaid (n : Nat) : Prop := ∀ (S : Nat → Prop) (t : T n) (c0 c1 c2 c3 c4 : Value) (w : World), TreeIn S w n t c0 c1 c2 c3 c4 → (∀ b, S b → b < w.heap.size) → szT n t ≤ 1048576 →
  Calls Try.prog 22 #[.agg #[c0, c1, c2, c3, c4]] w fun e w' => ∃ d0 d1 d2 d3 d4, e = .returned (.agg #[d0, d1, d2, d3, d4]) ∧ TreeIn (fun b => w.heap.size ≤ b ∧ b < w'.heap.size) w' n t d0 d1 d2 d3 d4 ∧ Below w.heap.size w w' ∧ Thaw w.heap.size w'

set_option maxHeartbeats 400000 in
theorem toTreeT_any (n : Nat) (hn : ToTSaid n) (S : Nat → Prop) (l : List (T n)) (v : Value) (w : World) (hl : RowIn S w (TreeIn S w n) l v) (hB : ∀ b, S b → b < w.heap.size) (hsz : sumL (fun k => szT n k + 1) l ≤ 1048576) :
    Calls Try.prog 42 #[v] w fun e w' => ∃ v', e = .returned v' ∧ RowIn (fun b => w.heap.size ≤ b ∧ b < w'.heap.size) w' (TreeIn (fun b => w.heap.size ≤ b ∧ b < w'.heap.size) w' n) l v' ∧ Below w.heap.size w w' ∧ Thaw w.heap.size w' := by
  obtain ⟨ao, cap, rfl, hlen, hc⟩ := hl
  have hlN := sumL_length (szT n) l
  have hmk := make_trees l.length (by omega)
  go_enter Try.func42, Try.ntmps42
  go_wp2_with fail
  go_loopw [4] (fun i wr => ∃ (k : Nat) (F : Nat → Value), k ≤ l.length ∧ i = .int .i64 k ∧ wr.rowIs w.heap.size 33 (l.length * 5) F ∧ (Below w.heap.size w wr ∧ Thaw w.heap.size wr) ∧
      ∀ j (h : j < l.length), j < k → TreeIn (fun b => w.heap.size < b ∧ b < wr.heap.size) wr n l[j] (F (j * 5)) (F (j * 5 + 1)) (F (j * 5 + 2)) (F (j * 5 + 3)) (F (j * 5 + 4)))
    (fun i _ => l.length - (intOf i).toNat)
  case atStart =>
    obtain ⟨F, hF⟩ := rowIs_made_any w #[.int .i64 0, .int .i64 0, .string ByteArray.empty, .slice none 0 0, .slice none 0 0] (l.length * 5) 33
    exact ⟨0, F, Nat.zero_le _, rfl, hF, ⟨(Below.refl _ _).alloc (Nat.le_refl _) _, fun b o h1 h2 => by
      have : b = w.heap.size := by simp at h2; omega
      subst this; exact hF.frozen o⟩, fun j _ h => absurd h (Nat.not_lt_zero _)⟩
  case round =>
    obtain ⟨k, F, hk, rfl, hrow, ⟨hbel, hth⟩, hdone⟩ := hrel
    by_cases hlt : k < l.length
    · obtain ⟨b, off, rfl, hbB, hcell⟩ := hc (by intro h; rw [h] at hlt; simp at hlt)
      obtain ⟨d0, d1, d2, d3, d4, e0, e1, e2, e3, e4, hr⟩ := hcell k hlt
      have f0 := (hbel.cell (p := ⟨b, off + k * 5, none⟩) (hB b hbB)).trans e0
      have f1 := (hbel.cell (p := ⟨b, off + k * 5 + 1, none⟩) (hB b hbB)).trans e1
      have f2 := (hbel.cell (p := ⟨b, off + k * 5 + 2, none⟩) (hB b hbB)).trans e2
      have f3 := (hbel.cell (p := ⟨b, off + k * 5 + 3, none⟩) (hB b hbB)).trans e3
      have f4 := (hbel.cell (p := ⟨b, off + k * 5 + 4, none⟩) (hB b hbB)).trans e4
      clear hc hcell e0 e1 e2 e3 e4
      have hr' := hr.keep (same_below hbel hB) (fun _ h => h)
      have hsz' := hbel.size
      have hone := sumL_mono (fun k => szT n k + 1) l l[k] (List.getElem_mem hlt)
      clear hr hmk
      go_wp2_with fail
      refine (hn S l[k] d0 d1 d2 d3 d4 wr hr' (fun b hb => Nat.lt_of_lt_of_le (hB b hb) hsz') (by omega)).mono ?_
      rintro e w1 ⟨g0, g1, g2, g3, g4, rfl, hin, hb1, ht1⟩
      have hth1 := hth.step hb1 ht1 hsz'
      have hz1 := hb1.size
      have hlt1 := hrow.lt
      have hrow1 : w1.rowIs w.heap.size 33 (l.length * 5) F := hrow.of_block (hb1.block _ hlt1)
      have q0 := hrow1.cell (i := k * 5) (by omega)
      have q1 := hrow1.cell (i := k * 5 + 1) (by omega)
      have q2 := hrow1.cell (i := k * 5 + 2) (by omega)
      have q3 := hrow1.cell (i := k * 5 + 3) (by omega)
      have q4 := hrow1.cell (i := k * 5 + 4) (by omega)
      have r0 := hrow1.frozen (k * 5)
      have r1 := hrow1.frozen (k * 5 + 1)
      have r2 := hrow1.frozen (k * 5 + 2)
      have r3 := hrow1.frozen (k * 5 + 3)
      have r4 := hrow1.frozen (k * 5 + 4)
      obtain ⟨x0, x1, x2, xa, xl, xc, ya, yl, yc, rfl, rfl, rfl, rfl, rfl⟩ := hin.shape
      have HR : Hid (∀ j (h : j < l.length), j < k + 1 → TreeIn (fun b => w.heap.size < b ∧ b < (put5 w1 w.heap.size (k * 5) (.int .i64 x0) (.int .i64 x1) (.string x2) (.slice xa xl xc) (.slice ya yl yc)).heap.size)
          (put5 w1 w.heap.size (k * 5) (.int .i64 x0) (.int .i64 x1) (.string x2) (.slice xa xl xc) (.slice ya yl yc)) n l[j]
          (put5F (k * 5) F (.int .i64 x0) (.int .i64 x1) (.string x2) (.slice xa xl xc) (.slice ya yl yc) (j * 5)) (put5F (k * 5) F (.int .i64 x0) (.int .i64 x1) (.string x2) (.slice xa xl xc) (.slice ya yl yc) (j * 5 + 1))
          (put5F (k * 5) F (.int .i64 x0) (.int .i64 x1) (.string x2) (.slice xa xl xc) (.slice ya yl yc) (j * 5 + 2)) (put5F (k * 5) F (.int .i64 x0) (.int .i64 x1) (.string x2) (.slice xa xl xc) (.slice ya yl yc) (j * 5 + 3))
          (put5F (k * 5) F (.int .i64 x0) (.int .i64 x1) (.string x2) (.slice xa xl xc) (.slice ya yl yc) (j * 5 + 4))) := by
        intro j hj hjk
        by_cases hjk' : j < k
        · rw [put5F_other _ _ _ _ _ _ _ (j * 5) (by omega), put5F_other _ _ _ _ _ _ _ (j * 5 + 1) (by omega), put5F_other _ _ _ _ _ _ _ (j * 5 + 2) (by omega), put5F_other _ _ _ _ _ _ _ (j * 5 + 3) (by omega), put5F_other _ _ _ _ _ _ _ (j * 5 + 4) (by omega)]
          refine (hdone j hj hjk').keep (fun b hb => ?_) (fun b hb => ?_)
          · rw [put5_other (by omega)]; exact hb1.block b hb.2
          · rw [put5_size]; omega
        · have : j = k := by omega
          subst this
          rw [put5F_0, put5F_1, put5F_2, put5F_3, put5F_4]
          refine hin.keep (fun b hb => ?_) (fun b hb => ?_)
          · rw [put5_other (by omega)]
          · rw [put5_size]; omega
      have HW := put5_row hrow1 (k * 5) (.int .i64 x0) (.int .i64 x1) (.string x2) (.slice xa xl xc) (.slice ya yl yc)
      have HB := put5_below (o := k * 5) (g0 := .int .i64 x0) (g1 := .int .i64 x1) (g2 := .string x2) (g3 := .slice xa xl xc) (g4 := .slice ya yl yc) (below_step hbel hsz' hb1) (Nat.le_refl _)
      have HA : Hid (_ ∧ _ ∧ _ ∧ _) := ⟨HW, HB, HR.out, (((((hth1.set ⟨w.heap.size, k * 5, none⟩ (.int .i64 x0)).set ⟨w.heap.size, k * 5 + 1, none⟩ (.int .i64 x1)).set ⟨w.heap.size, k * 5 + 2, none⟩ (.string x2)).set ⟨w.heap.size, k * 5 + 3, none⟩ (.slice xa xl xc)).set ⟨w.heap.size, k * 5 + 4, none⟩ (.slice ya yl yc))⟩
      clear hth hth1 ht1
      clear HW HB HR hdone hrow hbel hb1 hin hn hrow1 f0 f1 f2 f3 f4 hr' hone
      go_wp2_with fail
      go_roundw
      case rel => exact ⟨k + 1, _, by omega, by go_num, HA.out.1, ⟨HA.out.2.1, HA.out.2.2.2⟩, HA.out.2.2.1⟩
      case measure => simp [intOf]; omega
    · have hkl : k = l.length := by omega
      have HF : Hid (RowIn (fun b => w.heap.size ≤ b ∧ b < wr.heap.size) wr (TreeIn (fun b => w.heap.size ≤ b ∧ b < wr.heap.size) wr n) l (.slice (some ⟨w.heap.size, 0, none⟩) l.length l.length)) := by
        refine ⟨_, _, rfl, hlen, fun _ => ⟨w.heap.size, 0, rfl, ⟨Nat.le_refl _, hrow.lt⟩, fun i hi => ?_⟩⟩
        refine ⟨_, _, _, _, _, ?_, ?_, ?_, ?_, ?_, (hdone i hi (by omega)).keep (fun _ _ => rfl) (fun b hb => ⟨by omega, hb.2⟩)⟩
        · simpa using hrow.cell (i := i * 5) (by omega)
        · simpa using hrow.cell (i := i * 5 + 1) (by omega)
        · simpa using hrow.cell (i := i * 5 + 2) (by omega)
        · simpa using hrow.cell (i := i * 5 + 3) (by omega)
        · simpa using hrow.cell (i := i * 5 + 4) (by omega)
      clear hkl hc hrow hmk hdone
      go_wp2_with fail
      go_ret
      exact ⟨_, rfl, HF.out, hbel, hth⟩

set_option maxHeartbeats 400000 in
theorem toTreeW_step (n : Nat) (hn : ToTSaid n) : ToTSaid (n + 1) := by
  intro S t c0 c1 c2 c3 c4 w ht hB hsz
  obtain ⟨rfl, rfl, rfl, hs, hw0, hw1, h3, h4⟩ := ht
  have hT : szT (n + 1) t = (Nd.text t).size + szN (Nd.names t) + sumL (fun k => szT n k + 1) (Nd.kids t) := rfl
  rw [hT] at hsz
  clear hT
  have hb3 : Below w.heap.size w (((w.alloc (.cells #[.int .i64 (Nd.sort t), .int .i64 (Nd.num t), .string (Nd.text t), c3, c4] 25)).alloc
      (.cells #[.int .i64 0, .int .i64 0, .string ⟨#[]⟩, .slice none 0 0, .slice none 0 0] 33)).alloc (.cells #[.int .i64 (Nd.sort t), .int .i64 (Nd.num t), .string (Nd.text t), .slice none 0 0, .slice none 0 0] 33)) :=
    (((Below.refl _ _).alloc (Nat.le_refl _) _).alloc (by simp) _).alloc (by simp; omega) _
  have h3' := h3.keep (same_below hb3 hB) (fun _ h => h)
  have HK : Hid (RowIn S _ (TreeIn S _ n) (Nd.kids t) c4) := h4.keepT (same_below hb3 hB) (fun _ h => h)
  obtain ⟨ka, kc, hk4, -⟩ := h4
  subst hk4
  clear h3
  go_enter Try.func22, Try.ntmps22
  go_wp2_with fail
  refine (toStringT_any S _ _ _ h3' (fun b hb => by have := hB b hb; simp; omega) (by omega)).mono ?_
  rintro e w1 ⟨v3, rfl, hv3, hb1, ht1⟩
  have hth1 : Thaw w.heap.size w1 := Thaw.step (((Thaw.base w).alloc _ _).alloc _ _ |>.alloc _ _) hb1 ht1 (by simp; omega)
  have hz1 := hb1.size
  simp at hz1
  obtain ⟨hc, hf⟩ := bcell hb1
  obtain ⟨na, nc, rfl, -⟩ := id hv3
  have HV3 : Hid (StrsIn _ w1 (Nd.names t) (.slice na (Nd.names t).length nc)) := hv3
  have hbw1 := below_step hb3 (by simp; omega) hb1
  have HK1 : Hid (RowIn S w1 (TreeIn S w1 n) (Nd.kids t) _) := HK.out.keepT (same_below hb1 (fun b hb => by have := hB b hb; simp; omega)) (fun _ h => h)
  clear hv3 HK h3' hb3
  have hfz : w1.frozen? ⟨w.heap.size + 1 + 1, 3, none⟩ = false := by rw [hf _ _ (by simp)]; simp [go_sem]
  have hSame : Same S w1 (w1.setCell ⟨w.heap.size + 1 + 1, 3, none⟩ (.slice na (Nd.names t).length nc)) := fun b hb => Below.heap_setCell _ _ _ _ (by have := hB b hb; show b ≠ w.heap.size + 1 + 1; omega)
  have HK2 : Hid (RowIn S _ (TreeIn S _ n) (Nd.kids t) _) := HK1.out.keepT hSame (fun _ h => h)
  have hbw2 : Below w.heap.size w (w1.setCell ⟨w.heap.size + 1 + 1, 3, none⟩ (.slice na (Nd.names t).length nc)) := hbw1.setCell (by show w.heap.size ≤ w.heap.size + 1 + 1; omega) _
  clear HK1 hSame hbw1
  go_wp2_with fail
  refine (toTreeT_any n hn S _ _ _ HK2.out (fun b hb => by have := hB b hb; simp; omega) (by omega)).mono ?_
  rintro e w2 ⟨v4, rfl, hv4, hb2, ht2⟩
  have hth2 : Thaw w.heap.size w2 := Thaw.step (hth1.set ⟨w.heap.size + 1 + 1, 3, none⟩ (.slice na (Nd.names t).length nc)) hb2 ht2 (by simp; omega)
  have hz2 := hb2.size
  simp at hz2
  obtain ⟨hc2, hf2⟩ := bcell hb2
  obtain ⟨ma, mc, rfl, -⟩ := id hv4
  have HV4 : Hid (RowIn _ w2 (TreeIn _ w2 n) (Nd.kids t) (.slice ma (Nd.kids t).length mc)) := hv4
  have hbw3 := below_step hbw2 (by simp; omega) hb2
  have HB2 : Hid (Below _ _ w2) := hb2
  have m0 : w2.cell? ⟨w.heap.size + 1 + 1, 0, none⟩ = some (.int .i64 (Nd.sort t)) := by rw [hc2 _ _ (by simp; omega)]; simp [go_sem, hc]
  have mf0 : w2.frozen? ⟨w.heap.size + 1 + 1, 0, none⟩ = false := by rw [hf2 _ _ (by simp; omega)]; simp [go_sem, hf]
  have m1 : w2.cell? ⟨w.heap.size + 1 + 1, 1, none⟩ = some (.int .i64 (Nd.num t)) := by rw [hc2 _ _ (by simp; omega)]; simp [go_sem, hc]
  have mf1 : w2.frozen? ⟨w.heap.size + 1 + 1, 1, none⟩ = false := by rw [hf2 _ _ (by simp; omega)]; simp [go_sem, hf]
  have m2 : w2.cell? ⟨w.heap.size + 1 + 1, 2, none⟩ = some (.string (Nd.text t)) := by rw [hc2 _ _ (by simp; omega)]; simp [go_sem, hc]
  have mf2 : w2.frozen? ⟨w.heap.size + 1 + 1, 2, none⟩ = false := by rw [hf2 _ _ (by simp; omega)]; simp [go_sem, hf]
  have m3 : w2.cell? ⟨w.heap.size + 1 + 1, 3, none⟩ = some (.slice na (Nd.names t).length nc) := by rw [hc2 _ _ (by simp; omega)]; simp [go_sem, hc]
  have mf3 : w2.frozen? ⟨w.heap.size + 1 + 1, 3, none⟩ = false := by rw [hf2 _ _ (by simp; omega)]; simp [go_sem, hf]
  have m4 : w2.cell? ⟨w.heap.size + 1 + 1, 4, none⟩ = some (.slice none 0 0) := by rw [hc2 _ _ (by simp; omega)]; simp [go_sem, hc]
  have mf4 : w2.frozen? ⟨w.heap.size + 1 + 1, 4, none⟩ = false := by rw [hf2 _ _ (by simp; omega)]; simp [go_sem, hf]
  have r0 : w2.cell? ⟨w.heap.size + 1, 0, none⟩ = some (.int .i64 0) := by rw [hc2 _ _ (by simp; omega)]; simp [go_sem, hc]
  have rf0 : w2.frozen? ⟨w.heap.size + 1, 0, none⟩ = false := by rw [hf2 _ _ (by simp; omega)]; simp [go_sem, hf]
  have r1 : w2.cell? ⟨w.heap.size + 1, 1, none⟩ = some (.int .i64 0) := by rw [hc2 _ _ (by simp; omega)]; simp [go_sem, hc]
  have rf1 : w2.frozen? ⟨w.heap.size + 1, 1, none⟩ = false := by rw [hf2 _ _ (by simp; omega)]; simp [go_sem, hf]
  have r2 : w2.cell? ⟨w.heap.size + 1, 2, none⟩ = some (.string ⟨#[]⟩) := by rw [hc2 _ _ (by simp; omega)]; simp [go_sem, hc]
  have rf2 : w2.frozen? ⟨w.heap.size + 1, 2, none⟩ = false := by rw [hf2 _ _ (by simp; omega)]; simp [go_sem, hf]
  have r3 : w2.cell? ⟨w.heap.size + 1, 3, none⟩ = some (.slice none 0 0) := by rw [hc2 _ _ (by simp; omega)]; simp [go_sem, hc]
  have rf3 : w2.frozen? ⟨w.heap.size + 1, 3, none⟩ = false := by rw [hf2 _ _ (by simp; omega)]; simp [go_sem, hf]
  have r4 : w2.cell? ⟨w.heap.size + 1, 4, none⟩ = some (.slice none 0 0) := by rw [hc2 _ _ (by simp; omega)]; simp [go_sem, hc]
  have rf4 : w2.frozen? ⟨w.heap.size + 1, 4, none⟩ = false := by rw [hf2 _ _ (by simp; omega)]; simp [go_sem, hf]
  clear hv4 HK2 hbw2 hb1 hb2 hc hf hc2 hf2
  have HF : Hid (TreeIn (fun b => w.heap.size ≤ b ∧ b < (put5 (w2.setCell ⟨w.heap.size + 1 + 1, 4, none⟩ (.slice ma (Nd.kids t).length mc)) (w.heap.size + 1) 0 (.int .i64 (Nd.sort t)) (.int .i64 (Nd.num t)) (.string (Nd.text t)) (.slice na (Nd.names t).length nc) (.slice ma (Nd.kids t).length mc)).heap.size)
      (put5 (w2.setCell ⟨w.heap.size + 1 + 1, 4, none⟩ (.slice ma (Nd.kids t).length mc)) (w.heap.size + 1) 0 (.int .i64 (Nd.sort t)) (.int .i64 (Nd.num t)) (.string (Nd.text t)) (.slice na (Nd.names t).length nc) (.slice ma (Nd.kids t).length mc))
      (n + 1) t (.int .i64 (Nd.sort t)) (.int .i64 (Nd.num t)) (.string (Nd.text t)) (.slice na (Nd.names t).length nc) (.slice ma (Nd.kids t).length mc)) := by
    refine ⟨rfl, rfl, rfl, hs, hw0, hw1, HV3.out.keep (fun b hb => ?_) (fun b hb => ?_), HV4.out.keepT (fun b hb => ?_) (fun b hb => ?_)⟩
    · simp at hb
      rw [put5_other (by omega), Below.heap_setCell _ _ _ _ (by show b ≠ w.heap.size + 1 + 1; omega), HB2.out.block b (by simp; omega), Below.heap_setCell _ _ _ _ (by show b ≠ w.heap.size + 1 + 1; omega)]
    · simp at hb; rw [put5_size]; simp; omega
    · simp at hb
      rw [put5_other (by omega), Below.heap_setCell _ _ _ _ (by show b ≠ w.heap.size + 1 + 1; omega)]
    · simp at hb; rw [put5_size]; simp; omega
  have HE : Hid (Below w.heap.size w (put5 (w2.setCell ⟨w.heap.size + 1 + 1, 4, none⟩ (.slice ma (Nd.kids t).length mc)) (w.heap.size + 1) 0 (.int .i64 (Nd.sort t)) (.int .i64 (Nd.num t)) (.string (Nd.text t)) (.slice na (Nd.names t).length nc) (.slice ma (Nd.kids t).length mc))) :=
    put5_below (hbw3.setCell (by show w.heap.size ≤ w.heap.size + 1 + 1; omega) _) (by omega)
  have HT : Hid (Thaw w.heap.size (put5 (w2.setCell ⟨w.heap.size + 1 + 1, 4, none⟩ (.slice ma (Nd.kids t).length mc)) (w.heap.size + 1) 0 (.int .i64 (Nd.sort t)) (.int .i64 (Nd.num t)) (.string (Nd.text t)) (.slice na (Nd.names t).length nc) (.slice ma (Nd.kids t).length mc))) :=
    ((((((hth2.set ⟨w.heap.size + 1 + 1, 4, none⟩ (.slice ma (Nd.kids t).length mc)).set ⟨w.heap.size + 1, 0, none⟩ (.int .i64 (Nd.sort t))).set ⟨w.heap.size + 1, 0 + 1, none⟩ (.int .i64 (Nd.num t))).set ⟨w.heap.size + 1, 0 + 2, none⟩ (.string (Nd.text t))).set ⟨w.heap.size + 1, 0 + 3, none⟩ (.slice na (Nd.names t).length nc)).set ⟨w.heap.size + 1, 0 + 4, none⟩ (.slice ma (Nd.kids t).length mc))
  clear HV3 HV4 HB2 hbw3 hw0 hw1 hs hth1 hth2 ht1 ht2
  go_wp2_with fail
  refine bodyPost_ret (v := .agg #[.int .i64 (Nd.sort t), .int .i64 (Nd.num t), .string (Nd.text t), .slice na (Nd.names t).length nc, .slice ma (Nd.kids t).length mc]) (by simp [results, Try.results22, go_sem, r0, r1, r2, r3, r4]) rfl ?_
  exact ⟨_, _, _, _, _, rfl, HF.out, HE.out, HT.out⟩

theorem toTreeW_any : ∀ n, ToTSaid n := by
  intro n
  induction n with
  | zero => intro S t c0 c1 c2 c3 c4 w ht; exact ht.elim
  | succ n ih => exact toTreeW_step n ih

end Go.Proofs.Ytpnnbdejneoccaa
