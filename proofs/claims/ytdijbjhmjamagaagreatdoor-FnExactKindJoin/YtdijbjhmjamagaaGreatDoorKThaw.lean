/-
  The copies of schemas that the laws make can be written to.
-/
import Derived.Test.YtdijbjhmjamagaaGreatDoorB7
namespace Go.Proofs.YtdijbjhmjamagaaGreatDoor
open Go.RowKit

/-- From block M on nothing is frozen. -/
def Thaw (M : Nat) (w : World) : Prop := ∀ b o, M ≤ b → b < w.heap.size → w.frozen? ⟨b, o, none⟩ = false

theorem Thaw.base (w : World) : Thaw w.heap.size w := fun b o h1 h2 => by omega
theorem Thaw.set {M : Nat} {w : World} (h : Thaw M w) (p : Addr) (v : Value) : Thaw M (w.setCell p v) := fun b o h1 h2 => by
  rw [World.frozen?_setCell]; exact h b o h1 (by simpa using h2)
theorem Thaw.alloc {M : Nat} {w : World} (h : Thaw M w) (c : Array Value) (t : TypeId) : Thaw M (w.alloc (.cells c t)) := fun b o h1 h2 => by
  by_cases hb : b < w.heap.size
  · have e := Below.heap_alloc w (.cells c t) b hb
    have := h b o h1 hb
    simp only [World.frozen?, e] at this ⊢
    exact this
  · have hb' : b = w.heap.size := by simp at h2; omega
    subst hb'
    have e := heap_alloc_new w (.cells c t)
    simp only [World.frozen?, e]; simp
theorem Thaw.step {M : Nat} {w w' : World} (h : Thaw M w) (hb : Below w.heap.size w w') (h' : Thaw w.heap.size w') (_hM : M ≤ w.heap.size) : Thaw M w' := fun b o h1 h2 => by
  by_cases hlt : b < w.heap.size
  · rw [hb.frozen (p := ⟨b, o, none⟩) hlt]; exact h b o h1 hlt
  · exact h' b o (by omega) h2

set_option maxHeartbeats 400000 in
theorem toStringT_any (S : Nat → Prop) (l : List ByteArray) (v : Value) (w : World) (hl : StrsIn S w l v) (hB : ∀ b, S b → b < w.heap.size) (hsz : szN l ≤ 1048576) :
    Calls Tryz.prog 34 #[v] w fun e w' => ∃ v', e = .returned v' ∧ StrsIn (fun b => w.heap.size ≤ b ∧ b < w'.heap.size) w' l v' ∧ Below w.heap.size w w' ∧ Thaw w.heap.size w' := by
  obtain ⟨ao, cap, rfl, hlen, hs, hc⟩ := hl
  have hlN := szN_length l
  have hmk := run_make_row' (P := Tryz.prog) 23 9 (.string ByteArray.empty) 16 Tryz.underlying23 Tryz.info_str rfl .i64 .i64 l.length (by omega) (by omega)
  go_enter Tryz.func34, Tryz.ntmps34
  go_wp2
  go_loopw [4] (fun i wr => ∃ k : Nat, k ≤ l.length ∧ i = .int .i64 k ∧ wr.rowIs w.heap.size 9 l.length (fun j => if j < k then .string (l.getD j ByteArray.empty) else .string ByteArray.empty) ∧ Below w.heap.size w wr ∧ wr.heap.size = w.heap.size + 1)
    (fun i _ => l.length - (intOf i).toNat)
  case atStart =>
    exact ⟨0, Nat.zero_le _, rfl, (World.rowIs_made _ _ _ _).congr (fun i _ => by simp), (Below.refl _ _).alloc (Nat.le_refl _) _, by simp⟩
  case round =>
    obtain ⟨k, hk, rfl, hrow, hbel, hone⟩ := hrel
    by_cases hlt : k < l.length
    · obtain ⟨b, off, rfl, hbB, hcell⟩ := hc (by intro h; rw [h] at hlt; simp at hlt)
      have f0 := (hbel.cell (p := ⟨b, off + k, none⟩) (hB b hbB)).trans (hcell k hlt)
      have f1 := hrow.cell hlt
      have f2 := hrow.frozen k
      have HR : Hid ((wr.setCell ⟨w.heap.size, k, none⟩ (.string l[k])).rowIs w.heap.size 9 l.length (fun j => if j < k + 1 then .string (l.getD j ByteArray.empty) else .string ByteArray.empty)) := by
        refine (hrow.set k (.string l[k])).congr fun i hi => ?_
        by_cases h1 : i = k
        · subst h1; simp [hlt]
        · by_cases h2 : i < k
          · rw [if_neg h1, if_pos h2, if_pos (by omega)]
          · rw [if_neg h1, if_neg h2, if_neg (by omega)]
      have HB : Hid (Below w.heap.size w (wr.setCell ⟨w.heap.size, k, none⟩ (.string l[k]))) := hbel.setCell (Nat.le_refl _) _
      clear hc hcell hrow hbel hmk
      go_wp2
      go_roundw
      case rel => exact ⟨k + 1, by omega, by go_num, HR.out, HB.out, by simpa using hone⟩
      case measure => simp [intOf]; omega
    · have hkl : k = l.length := by omega
      have HF : Hid (StrsIn (fun b => w.heap.size ≤ b ∧ b < wr.heap.size) wr l (.slice (some ⟨w.heap.size, 0, none⟩) l.length l.length)) := by
        refine ⟨_, _, rfl, hlen, hs, fun _ => ⟨w.heap.size, 0, rfl, ⟨Nat.le_refl _, hrow.lt⟩, fun i hi => ?_⟩⟩
        have := hrow.cell hi
        rw [if_pos (by omega)] at this
        simpa [List.getD, hi] using this
      have HT : Hid (Thaw w.heap.size wr) := fun b o h1 h2 => by
        have : b = w.heap.size := by omega
        subst this; exact hrow.frozen o
      clear hkl hc hs hrow hmk
      go_wp2
      go_ret
      exact ⟨_, rfl, HF.out, hbel, HT.out⟩

/-- toKind at schemas of at most n levels. -/
def ToKTSaid (n : Nat) : Prop := ∀ (S : Nat → Prop) (t : K n) (c0 c1 c2 : Value) (w : World), KindIn S w n t c0 c1 c2 → (∀ b, S b → b < w.heap.size) → szK n t ≤ 1048576 →
  Calls Tryz.prog 13 #[.agg #[c0, c1, c2]] w fun e w' => ∃ d0 d1 d2, e = .returned (.agg #[d0, d1, d2]) ∧ KindIn (fun b => w.heap.size ≤ b ∧ b < w'.heap.size) w' n t d0 d1 d2 ∧ Below w.heap.size w w' ∧ Thaw w.heap.size w'

set_option maxHeartbeats 400000 in
theorem toKindT_any (n : Nat) (hn : ToKTSaid n) (S : Nat → Prop) (l : List (K n)) (v : Value) (w : World) (hl : RowIn3 S w (KindIn S w n) l v) (hB : ∀ b, S b → b < w.heap.size) (hsz : sumL (fun k => szK n k + 1) l ≤ 1048576) :
    Calls Tryz.prog 35 #[v] w fun e w' => ∃ v', e = .returned v' ∧ RowIn3 (fun b => w.heap.size ≤ b ∧ b < w'.heap.size) w' (KindIn (fun b => w.heap.size ≤ b ∧ b < w'.heap.size) w' n) l v' ∧ Below w.heap.size w w' ∧ Thaw w.heap.size w' := by
  obtain ⟨ao, cap, rfl, hlen, hc⟩ := hl
  have hlN := sumL_length (szK n) l
  have hmk := make_kinds l.length (by omega)
  go_enter Tryz.func35, Tryz.ntmps35
  go_wp2_with fail
  go_loopw [4] (fun i wr => ∃ (k : Nat) (F : Nat → Value), k ≤ l.length ∧ i = .int .i64 k ∧ wr.rowIs w.heap.size 26 (l.length * 3) F ∧ (Below w.heap.size w wr ∧ Thaw w.heap.size wr) ∧
      ∀ j (h : j < l.length), j < k → KindIn (fun b => w.heap.size < b ∧ b < wr.heap.size) wr n l[j] (F (j * 3)) (F (j * 3 + 1)) (F (j * 3 + 2)))
    (fun i _ => l.length - (intOf i).toNat)
  case atStart =>
    obtain ⟨F, hF⟩ := rowIs_made_any w #[.int .i64 0, .slice none 0 0, .slice none 0 0] (l.length * 3) 26
    exact ⟨0, F, Nat.zero_le _, rfl, hF, ⟨(Below.refl _ _).alloc (Nat.le_refl _) _, fun b o h1 h2 => by
      have : b = w.heap.size := by simp at h2; omega
      subst this; exact hF.frozen o⟩, fun j _ h => absurd h (Nat.not_lt_zero _)⟩
  case round =>
    obtain ⟨k, F, hk, rfl, hrow, ⟨hbel, hth⟩, hdone⟩ := hrel
    by_cases hlt : k < l.length
    · obtain ⟨b, off, rfl, hbB, hcell⟩ := hc (by intro h; rw [h] at hlt; simp at hlt)
      obtain ⟨d0, d1, d2, e0, e1, e2, hr⟩ := hcell k hlt
      have f0 := (hbel.cell (p := ⟨b, off + k * 3, none⟩) (hB b hbB)).trans e0
      have f1 := (hbel.cell (p := ⟨b, off + k * 3 + 1, none⟩) (hB b hbB)).trans e1
      have f2 := (hbel.cell (p := ⟨b, off + k * 3 + 2, none⟩) (hB b hbB)).trans e2
      clear hc hcell e0 e1 e2
      have hr' := hr.keep (same_below hbel hB) (fun _ h => h)
      have hsz' := hbel.size
      have hone := sumL_mono (fun k => szK n k + 1) l l[k] (List.getElem_mem hlt)
      clear hr hmk
      go_wp2_with fail
      refine (hn S l[k] d0 d1 d2 wr hr' (fun b hb => Nat.lt_of_lt_of_le (hB b hb) hsz') (by omega)).mono ?_
      rintro e w1 ⟨g0, g1, g2, rfl, hin, hb1, ht1⟩
      have hth1 := hth.step hb1 ht1 hsz'
      have hz1 := hb1.size
      have hlt1 := hrow.lt
      have hrow1 : w1.rowIs w.heap.size 26 (l.length * 3) F := hrow.of_block (hb1.block _ hlt1)
      have q0 := hrow1.cell (i := k * 3) (by omega)
      have q1 := hrow1.cell (i := k * 3 + 1) (by omega)
      have q2 := hrow1.cell (i := k * 3 + 2) (by omega)
      have r0 := hrow1.frozen (k * 3)
      have r1 := hrow1.frozen (k * 3 + 1)
      have r2 := hrow1.frozen (k * 3 + 2)
      obtain ⟨x0, xa, xl, xc, ya, yl, yc, rfl, rfl, rfl⟩ := hin.shape
      have HR : Hid (∀ j (h : j < l.length), j < k + 1 → KindIn (fun b => w.heap.size < b ∧ b < (put3 w1 w.heap.size (k * 3) (.int .i64 x0) (.slice xa xl xc) (.slice ya yl yc)).heap.size)
          (put3 w1 w.heap.size (k * 3) (.int .i64 x0) (.slice xa xl xc) (.slice ya yl yc)) n l[j]
          (put3F (k * 3) F (.int .i64 x0) (.slice xa xl xc) (.slice ya yl yc) (j * 3)) (put3F (k * 3) F (.int .i64 x0) (.slice xa xl xc) (.slice ya yl yc) (j * 3 + 1))
          (put3F (k * 3) F (.int .i64 x0) (.slice xa xl xc) (.slice ya yl yc) (j * 3 + 2))) := by
        intro j hj hjk
        by_cases hjk' : j < k
        · rw [put3F_other _ _ _ _ _ (j * 3) (by omega), put3F_other _ _ _ _ _ (j * 3 + 1) (by omega), put3F_other _ _ _ _ _ (j * 3 + 2) (by omega)]
          refine (hdone j hj hjk').keep (fun b hb => ?_) (fun b hb => ?_)
          · rw [put3_other (by omega)]; exact hb1.block b hb.2
          · rw [put3_size]; omega
        · have : j = k := by omega
          subst this
          rw [put3F_0, put3F_1, put3F_2]
          refine hin.keep (fun b hb => ?_) (fun b hb => ?_)
          · rw [put3_other (by omega)]
          · rw [put3_size]; omega
      have HW := put3_row hrow1 (k * 3) (.int .i64 x0) (.slice xa xl xc) (.slice ya yl yc)
      have HB := put3_below (o := k * 3) (g0 := .int .i64 x0) (g1 := .slice xa xl xc) (g2 := .slice ya yl yc) (below_step hbel hsz' hb1) (Nat.le_refl _)
      have HA : Hid (_ ∧ _ ∧ _ ∧ _) := ⟨HW, HB, HR.out, ((hth1.set ⟨w.heap.size, k * 3, none⟩ (.int .i64 x0)).set ⟨w.heap.size, k * 3 + 1, none⟩ (.slice xa xl xc)).set ⟨w.heap.size, k * 3 + 2, none⟩ (.slice ya yl yc)⟩
      clear hth hth1 ht1
      clear HW HB HR hdone hrow hbel hb1 hin hn hrow1 f0 f1 f2 hr' hone
      go_wp2_with fail
      go_roundw
      case rel => exact ⟨k + 1, _, by omega, by go_num, HA.out.1, ⟨HA.out.2.1, HA.out.2.2.2⟩, HA.out.2.2.1⟩
      case measure => simp [intOf]; omega
    · have hkl : k = l.length := by omega
      have HF : Hid (RowIn3 (fun b => w.heap.size ≤ b ∧ b < wr.heap.size) wr (KindIn (fun b => w.heap.size ≤ b ∧ b < wr.heap.size) wr n) l (.slice (some ⟨w.heap.size, 0, none⟩) l.length l.length)) := by
        refine ⟨_, _, rfl, hlen, fun _ => ⟨w.heap.size, 0, rfl, ⟨Nat.le_refl _, hrow.lt⟩, fun i hi => ?_⟩⟩
        refine ⟨_, _, _, ?_, ?_, ?_, (hdone i hi (by omega)).keep (fun _ _ => rfl) (fun b hb => ⟨by omega, hb.2⟩)⟩
        · simpa using hrow.cell (i := i * 3) (by omega)
        · simpa using hrow.cell (i := i * 3 + 1) (by omega)
        · simpa using hrow.cell (i := i * 3 + 2) (by omega)
      clear hkl hc hrow hmk hdone
      go_wp2_with fail
      go_ret
      exact ⟨_, rfl, HF.out, hbel, hth⟩

set_option maxHeartbeats 400000 in
theorem toKindW_step (n : Nat) (hn : ToKTSaid n) : ToKTSaid (n + 1) := by
  intro S t c0 c1 c2 w ht hB hsz
  obtain ⟨rfl, hw0, h3, h4⟩ := ht
  have hT : szK (n + 1) t = szN (Kd.names t) + sumL (fun k => szK n k + 1) (Kd.kids t) := rfl
  rw [hT] at hsz
  clear hT
  have hb3 : Below w.heap.size w (((w.alloc (.cells #[.int .i64 (Kd.sort t), c1, c2] 36)).alloc
      (.cells #[.int .i64 0, .slice none 0 0, .slice none 0 0] 26)).alloc (.cells #[.int .i64 (Kd.sort t), .slice none 0 0, .slice none 0 0] 26)) :=
    (((Below.refl _ _).alloc (Nat.le_refl _) _).alloc (by simp) _).alloc (by simp; omega) _
  have h3' := h3.keep (same_below hb3 hB) (fun _ h => h)
  have HK : Hid (RowIn3 S _ (KindIn S _ n) (Kd.kids t) c2) := h4.keepK (same_below hb3 hB) (fun _ h => h)
  obtain ⟨ka, kc, hk4, -⟩ := h4
  subst hk4
  clear h3
  go_enter Tryz.func13, Tryz.ntmps13
  go_wp2_with fail
  refine (toStringT_any S _ _ _ h3' (fun b hb => by have := hB b hb; simp; omega) (by omega)).mono ?_
  rintro e w1 ⟨v3, rfl, hv3, hb1, ht1⟩
  have hth1 : Thaw w.heap.size w1 := Thaw.step (((Thaw.base w).alloc _ _).alloc _ _ |>.alloc _ _) hb1 ht1 (by simp; omega)
  have hz1 := hb1.size
  simp at hz1
  obtain ⟨hc, hf⟩ := bcell hb1
  obtain ⟨na, nc, rfl, -⟩ := id hv3
  have HV3 : Hid (StrsIn _ w1 (Kd.names t) (.slice na (Kd.names t).length nc)) := hv3
  have hbw1 := below_step hb3 (by simp; omega) hb1
  have HK1 : Hid (RowIn3 S w1 (KindIn S w1 n) (Kd.kids t) _) := HK.out.keepK (same_below hb1 (fun b hb => by have := hB b hb; simp; omega)) (fun _ h => h)
  clear hv3 HK h3' hb3
  have hfz : w1.frozen? ⟨w.heap.size + 1 + 1, 1, none⟩ = false := by rw [hf _ _ (by simp)]; simp [go_sem]
  have hSame : Same S w1 (w1.setCell ⟨w.heap.size + 1 + 1, 1, none⟩ (.slice na (Kd.names t).length nc)) := fun b hb => Below.heap_setCell _ _ _ _ (by have := hB b hb; show b ≠ w.heap.size + 1 + 1; omega)
  have HK2 : Hid (RowIn3 S _ (KindIn S _ n) (Kd.kids t) _) := HK1.out.keepK hSame (fun _ h => h)
  have hbw2 : Below w.heap.size w (w1.setCell ⟨w.heap.size + 1 + 1, 1, none⟩ (.slice na (Kd.names t).length nc)) := hbw1.setCell (by show w.heap.size ≤ w.heap.size + 1 + 1; omega) _
  clear HK1 hSame hbw1
  go_wp2_with fail
  refine (toKindT_any n hn S _ _ _ HK2.out (fun b hb => by have := hB b hb; simp; omega) (by omega)).mono ?_
  rintro e w2 ⟨v4, rfl, hv4, hb2, ht2⟩
  have hth2 : Thaw w.heap.size w2 := Thaw.step (hth1.set ⟨w.heap.size + 1 + 1, 1, none⟩ (.slice na (Kd.names t).length nc)) hb2 ht2 (by simp; omega)
  have hz2 := hb2.size
  simp at hz2
  obtain ⟨hc2, hf2⟩ := bcell hb2
  obtain ⟨ma, mc, rfl, -⟩ := id hv4
  have HV4 : Hid (RowIn3 _ w2 (KindIn _ w2 n) (Kd.kids t) (.slice ma (Kd.kids t).length mc)) := hv4
  have hbw3 := below_step hbw2 (by simp; omega) hb2
  have HB2 : Hid (Below _ _ w2) := hb2
  have m0 : w2.cell? ⟨w.heap.size + 1 + 1, 0, none⟩ = some (.int .i64 (Kd.sort t)) := by rw [hc2 _ _ (by simp; omega)]; simp [go_sem, hc]
  have mf0 : w2.frozen? ⟨w.heap.size + 1 + 1, 0, none⟩ = false := by rw [hf2 _ _ (by simp; omega)]; simp [go_sem, hf]
  have m1 : w2.cell? ⟨w.heap.size + 1 + 1, 1, none⟩ = some (.slice na (Kd.names t).length nc) := by rw [hc2 _ _ (by simp; omega)]; simp [go_sem, hc]
  have mf1 : w2.frozen? ⟨w.heap.size + 1 + 1, 1, none⟩ = false := by rw [hf2 _ _ (by simp; omega)]; simp [go_sem, hf]
  have m2 : w2.cell? ⟨w.heap.size + 1 + 1, 2, none⟩ = some (.slice none 0 0) := by rw [hc2 _ _ (by simp; omega)]; simp [go_sem, hc]
  have mf2 : w2.frozen? ⟨w.heap.size + 1 + 1, 2, none⟩ = false := by rw [hf2 _ _ (by simp; omega)]; simp [go_sem, hf]
  have r0 : w2.cell? ⟨w.heap.size + 1, 0, none⟩ = some (.int .i64 0) := by rw [hc2 _ _ (by simp; omega)]; simp [go_sem, hc]
  have rf0 : w2.frozen? ⟨w.heap.size + 1, 0, none⟩ = false := by rw [hf2 _ _ (by simp; omega)]; simp [go_sem, hf]
  have r1 : w2.cell? ⟨w.heap.size + 1, 1, none⟩ = some (.slice none 0 0) := by rw [hc2 _ _ (by simp; omega)]; simp [go_sem, hc]
  have rf1 : w2.frozen? ⟨w.heap.size + 1, 1, none⟩ = false := by rw [hf2 _ _ (by simp; omega)]; simp [go_sem, hf]
  have r2 : w2.cell? ⟨w.heap.size + 1, 2, none⟩ = some (.slice none 0 0) := by rw [hc2 _ _ (by simp; omega)]; simp [go_sem, hc]
  have rf2 : w2.frozen? ⟨w.heap.size + 1, 2, none⟩ = false := by rw [hf2 _ _ (by simp; omega)]; simp [go_sem, hf]
  clear hv4 HK2 hbw2 hb1 hb2 hc hf hc2 hf2
  have HF : Hid (KindIn (fun b => w.heap.size ≤ b ∧ b < (put3 (w2.setCell ⟨w.heap.size + 1 + 1, 2, none⟩ (.slice ma (Kd.kids t).length mc)) (w.heap.size + 1) 0 (.int .i64 (Kd.sort t)) (.slice na (Kd.names t).length nc) (.slice ma (Kd.kids t).length mc)).heap.size)
      (put3 (w2.setCell ⟨w.heap.size + 1 + 1, 2, none⟩ (.slice ma (Kd.kids t).length mc)) (w.heap.size + 1) 0 (.int .i64 (Kd.sort t)) (.slice na (Kd.names t).length nc) (.slice ma (Kd.kids t).length mc))
      (n + 1) t (.int .i64 (Kd.sort t)) (.slice na (Kd.names t).length nc) (.slice ma (Kd.kids t).length mc)) := by
    refine ⟨rfl, hw0, HV3.out.keep (fun b hb => ?_) (fun b hb => ?_), HV4.out.keepK (fun b hb => ?_) (fun b hb => ?_)⟩
    · simp at hb
      rw [put3_other (by omega), Below.heap_setCell _ _ _ _ (by show b ≠ w.heap.size + 1 + 1; omega), HB2.out.block b (by simp; omega), Below.heap_setCell _ _ _ _ (by show b ≠ w.heap.size + 1 + 1; omega)]
    · simp at hb; rw [put3_size]; simp; omega
    · simp at hb
      rw [put3_other (by omega), Below.heap_setCell _ _ _ _ (by show b ≠ w.heap.size + 1 + 1; omega)]
    · simp at hb; rw [put3_size]; simp; omega
  have HE : Hid (Below w.heap.size w (put3 (w2.setCell ⟨w.heap.size + 1 + 1, 2, none⟩ (.slice ma (Kd.kids t).length mc)) (w.heap.size + 1) 0 (.int .i64 (Kd.sort t)) (.slice na (Kd.names t).length nc) (.slice ma (Kd.kids t).length mc))) :=
    put3_below (hbw3.setCell (by show w.heap.size ≤ w.heap.size + 1 + 1; omega) _) (by omega)
  have HT : Hid (Thaw w.heap.size (put3 (w2.setCell ⟨w.heap.size + 1 + 1, 2, none⟩ (.slice ma (Kd.kids t).length mc)) (w.heap.size + 1) 0 (.int .i64 (Kd.sort t)) (.slice na (Kd.names t).length nc) (.slice ma (Kd.kids t).length mc))) :=
    (((hth2.set ⟨w.heap.size + 1 + 1, 2, none⟩ (.slice ma (Kd.kids t).length mc)).set ⟨w.heap.size + 1, 0, none⟩ (.int .i64 (Kd.sort t))).set ⟨w.heap.size + 1, 0 + 1, none⟩ (.slice na (Kd.names t).length nc)).set ⟨w.heap.size + 1, 0 + 2, none⟩ (.slice ma (Kd.kids t).length mc)
  clear HV3 HV4 HB2 hbw3 hw0 hth1 hth2 ht1 ht2
  go_wp2_with fail
  refine bodyPost_ret (v := .agg #[.int .i64 (Kd.sort t), .slice na (Kd.names t).length nc, .slice ma (Kd.kids t).length mc]) (by simp [results, Tryz.results13, go_sem, r0, r1, r2]) rfl ?_
  exact ⟨_, _, _, rfl, HF.out, HE.out, HT.out⟩

theorem toKindW_any : ∀ n, ToKTSaid n := by
  intro n
  induction n with
  | zero => intro S t c0 c1 c2 w ht; exact ht.elim
  | succ n ih => exact toKindW_step n ih

end Go.Proofs.YtdijbjhmjamagaaGreatDoor
