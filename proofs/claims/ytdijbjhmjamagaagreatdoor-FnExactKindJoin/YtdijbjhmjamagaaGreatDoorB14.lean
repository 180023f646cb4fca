/-
  Several texts in one, in their order.
-/
import Derived.Test.YtdijbjhmjamagaaGreatDoorB4
import Derived.Test.YtdijbjhmjamagaaGreatDoorB1

/-
  The copies of schemas that the laws make: what toKindS and toKind answer.
-/
namespace Go.Proofs.YtdijbjhmjamagaaGreatDoor
open Go.RowKit

theorem Tryz.info_kind : (Tryz.prog.info? 26).map (fun i => (i.zero, i.size, i.bytes)) = some (some (.agg #[.int .i64 0, .slice none 0 0, .slice none 0 0]), 3, 56) := by kernel_rfl

theorem make_kinds (n : Nat) (hn : n ≤ 1048576) (w : World) : (Instr.makeSlice 24 (.int .i64 (n : Int)) (.int .i64 (n : Int))).run Tryz.prog w =
    .ok (.slice (some ⟨w.heap.size, 0, none⟩) n n) (w.alloc (.cells (madeCells #[.int .i64 0, .slice none 0 0, .slice none 0 0] (n * 3)) 26)) := by
  obtain ⟨i0, hi, hz0, hz1, hz2⟩ := info_parts Tryz.info_kind
  have := run_make (P := Tryz.prog) w 24 26 i0 _ Tryz.underlying24 hi hz0 .i64 .i64 (n : Int) (n : Int) (by omega) (by omega) (by rw [hz2]; omega) (by omega)
  rw [hz1] at this
  simpa [Value.cells] using this

/-- toKind at schemas of at most n levels. -/
def ToKSaid (n : Nat) : Prop := ∀ (S : Nat → Prop) (t : K n) (c0 c1 c2 : Value) (w : World), KindIn S w n t c0 c1 c2 → (∀ b, S b → b < w.heap.size) → szK n t ≤ 1048576 →
  Calls Tryz.prog 13 #[.agg #[c0, c1, c2]] w fun e w' => ∃ d0 d1 d2, e = .returned (.agg #[d0, d1, d2]) ∧ KindIn (fun b => w.heap.size ≤ b ∧ b < w'.heap.size) w' n t d0 d1 d2 ∧ Below w.heap.size w w'

set_option maxHeartbeats 400000 in
theorem toKindS_any (n : Nat) (hn : ToKSaid n) (S : Nat → Prop) (l : List (K n)) (v : Value) (w : World) (hl : RowIn3 S w (KindIn S w n) l v) (hB : ∀ b, S b → b < w.heap.size) (hsz : sumL (fun k => szK n k + 1) l ≤ 1048576) :
    Calls Tryz.prog 35 #[v] w fun e w' => ∃ v', e = .returned v' ∧ RowIn3 (fun b => w.heap.size ≤ b ∧ b < w'.heap.size) w' (KindIn (fun b => w.heap.size ≤ b ∧ b < w'.heap.size) w' n) l v' ∧ Below w.heap.size w w' := by
  obtain ⟨ao, cap, rfl, hlen, hc⟩ := hl
  have hlN := sumL_length (szK n) l
  have hmk := make_kinds l.length (by omega)
  go_enter Tryz.func35, Tryz.ntmps35
  go_wp2_with fail
  go_loopw [4] (fun i wr => ∃ (k : Nat) (F : Nat → Value), k ≤ l.length ∧ i = .int .i64 k ∧ wr.rowIs w.heap.size 26 (l.length * 3) F ∧ Below w.heap.size w wr ∧
      ∀ j (h : j < l.length), j < k → KindIn (fun b => w.heap.size < b ∧ b < wr.heap.size) wr n l[j] (F (j * 3)) (F (j * 3 + 1)) (F (j * 3 + 2)))
    (fun i _ => l.length - (intOf i).toNat)
  case atStart =>
    obtain ⟨F, hF⟩ := rowIs_made_any w #[.int .i64 0, .slice none 0 0, .slice none 0 0] (l.length * 3) 26
    exact ⟨0, F, Nat.zero_le _, rfl, hF, (Below.refl _ _).alloc (Nat.le_refl _) _, fun j _ h => absurd h (Nat.not_lt_zero _)⟩
  case round =>
    obtain ⟨k, F, hk, rfl, hrow, hbel, hdone⟩ := hrel
    by_cases hlt : k < l.length
    · obtain ⟨b, off, rfl, hbB, hcell⟩ := hc (by intro h; rw [h] at hlt; simp at hlt)
      obtain ⟨d0, d1, d2, e0, e1, e2, hr⟩ := hcell k hlt
      have f0 := (hbel.cell (p := ⟨b, off + k * 3, none⟩) (hB b hbB)).trans e0
      have f1 := (hbel.cell (p := ⟨b, off + k * 3 + 1, none⟩) (hB b hbB)).trans e1
      have f2 := (hbel.cell (p := ⟨b, off + k * 3 + 2, none⟩) (hB b hbB)).trans e2
      clear hc hcell e0 e1 e2
      have hr' := hr.keep (same_below hbel hB) (fun _ h => h)
      have hsz' := hbel.size
      have hone := sumL_mono (fun k => szK n k + 1) l l[k] (List.getElem_mem hlt)
      clear hr hmk
      go_wp2_with fail
      refine (hn S l[k] d0 d1 d2 wr hr' (fun b hb => Nat.lt_of_lt_of_le (hB b hb) hsz') (by omega)).mono ?_
      rintro e w1 ⟨g0, g1, g2, rfl, hin, hb1⟩
      have hz1 := hb1.size
      have hlt1 := hrow.lt
      have hrow1 : w1.rowIs w.heap.size 26 (l.length * 3) F := hrow.of_block (hb1.block _ hlt1)
      have q0 := hrow1.cell (i := k * 3) (by omega)
      have q1 := hrow1.cell (i := k * 3 + 1) (by omega)
      have q2 := hrow1.cell (i := k * 3 + 2) (by omega)
      have r0 := hrow1.frozen (k * 3)
      have r1 := hrow1.frozen (k * 3 + 1)
      have r2 := hrow1.frozen (k * 3 + 2)
      obtain ⟨x0, xa, xl, xc, ya, yl, yc, rfl, rfl, rfl⟩ := hin.shape
      have HR : Hid (∀ j (h : j < l.length), j < k + 1 → KindIn (fun b => w.heap.size < b ∧ b < (put3 w1 w.heap.size (k * 3) (.int .i64 x0) (.slice xa xl xc) (.slice ya yl yc)).heap.size)
          (put3 w1 w.heap.size (k * 3) (.int .i64 x0) (.slice xa xl xc) (.slice ya yl yc)) n l[j]
          (put3F (k * 3) F (.int .i64 x0) (.slice xa xl xc) (.slice ya yl yc) (j * 3)) (put3F (k * 3) F (.int .i64 x0) (.slice xa xl xc) (.slice ya yl yc) (j * 3 + 1))
          (put3F (k * 3) F (.int .i64 x0) (.slice xa xl xc) (.slice ya yl yc) (j * 3 + 2))) := by
        intro j hj hjk
        by_cases hjk' : j < k
        · rw [put3F_other _ _ _ _ _ (j * 3) (by omega), put3F_other _ _ _ _ _ (j * 3 + 1) (by omega), put3F_other _ _ _ _ _ (j * 3 + 2) (by omega)]
          refine (hdone j hj hjk').keep (fun b hb => ?_) (fun b hb => ?_)
          · rw [put3_other (by omega)]; exact hb1.block b hb.2
          · rw [put3_size]; omega
        · have : j = k := by omega
          subst this
          rw [put3F_0, put3F_1, put3F_2]
          refine hin.keep (fun b hb => ?_) (fun b hb => ?_)
          · rw [put3_other (by omega)]
          · rw [put3_size]; omega
      have HW := put3_row hrow1 (k * 3) (.int .i64 x0) (.slice xa xl xc) (.slice ya yl yc)
      have HB := put3_below (o := k * 3) (g0 := .int .i64 x0) (g1 := .slice xa xl xc) (g2 := .slice ya yl yc) (below_step hbel hsz' hb1) (Nat.le_refl _)
      have HA : Hid (_ ∧ _ ∧ _) := ⟨HW, HB, HR.out⟩
      clear HW HB HR hdone hrow hbel hb1 hin hn hrow1 f0 f1 f2 hr' hone
      go_wp2_with fail
      go_roundw
      case rel => exact ⟨k + 1, _, by omega, by go_num, HA.out.1, HA.out.2.1, HA.out.2.2⟩
      case measure => simp [intOf]; omega
    · have hkl : k = l.length := by omega
      have HF : Hid (RowIn3 (fun b => w.heap.size ≤ b ∧ b < wr.heap.size) wr (KindIn (fun b => w.heap.size ≤ b ∧ b < wr.heap.size) wr n) l (.slice (some ⟨w.heap.size, 0, none⟩) l.length l.length)) := by
        refine ⟨_, _, rfl, hlen, fun _ => ⟨w.heap.size, 0, rfl, ⟨Nat.le_refl _, hrow.lt⟩, fun i hi => ?_⟩⟩
        refine ⟨_, _, _, ?_, ?_, ?_, (hdone i hi (by omega)).keep (fun _ _ => rfl) (fun b hb => ⟨by omega, hb.2⟩)⟩
        · simpa using hrow.cell (i := i * 3) (by omega)
        · simpa using hrow.cell (i := i * 3 + 1) (by omega)
        · simpa using hrow.cell (i := i * 3 + 2) (by omega)
      clear hkl hc hrow hmk hdone
      go_wp2_with fail
      go_ret
      exact ⟨_, rfl, HF.out, hbel⟩

set_option maxHeartbeats 400000 in
theorem toKind_step (n : Nat) (hn : ToKSaid n) : ToKSaid (n + 1) := by
  intro S t c0 c1 c2 w ht hB hsz
  obtain ⟨rfl, hw0, h3, h4⟩ := ht
  have hT : szK (n + 1) t = szN (Kd.names t) + sumL (fun k => szK n k + 1) (Kd.kids t) := rfl
  rw [hT] at hsz
  clear hT
  have hb3 : Below w.heap.size w (((w.alloc (.cells #[.int .i64 (Kd.sort t), c1, c2] 36)).alloc
      (.cells #[.int .i64 0, .slice none 0 0, .slice none 0 0] 26)).alloc (.cells #[.int .i64 (Kd.sort t), .slice none 0 0, .slice none 0 0] 26)) :=
    (((Below.refl _ _).alloc (Nat.le_refl _) _).alloc (by simp) _).alloc (by simp; omega) _
  have h3' := h3.keep (same_below hb3 hB) (fun _ h => h)
  have HK : Hid (RowIn3 S _ (KindIn S _ n) (Kd.kids t) c2) := h4.keepK (same_below hb3 hB) (fun _ h => h)
  obtain ⟨ka, kc, hk4, -⟩ := h4
  subst hk4
  clear h3
  go_enter Tryz.func13, Tryz.ntmps13
  go_wp2_with fail
  refine (toStringS_any S _ _ _ h3' (fun b hb => by have := hB b hb; simp; omega) (by omega)).mono ?_
  rintro e w1 ⟨v3, rfl, hv3, hb1⟩
  have hz1 := hb1.size
  simp at hz1
  obtain ⟨hc, hf⟩ := bcell hb1
  obtain ⟨na, nc, rfl, -⟩ := id hv3
  have HV3 : Hid (StrsIn _ w1 (Kd.names t) (.slice na (Kd.names t).length nc)) := hv3
  have hbw1 := below_step hb3 (by simp; omega) hb1
  have HK1 : Hid (RowIn3 S w1 (KindIn S w1 n) (Kd.kids t) _) := HK.out.keepK (same_below hb1 (fun b hb => by have := hB b hb; simp; omega)) (fun _ h => h)
  clear hv3 HK h3' hb3
  have hfz : w1.frozen? ⟨w.heap.size + 1 + 1, 1, none⟩ = false := by rw [hf _ _ (by simp)]; simp [go_sem]
  have hSame : Same S w1 (w1.setCell ⟨w.heap.size + 1 + 1, 1, none⟩ (.slice na (Kd.names t).length nc)) := fun b hb => Below.heap_setCell _ _ _ _ (by have := hB b hb; show b ≠ w.heap.size + 1 + 1; omega)
  have HK2 : Hid (RowIn3 S _ (KindIn S _ n) (Kd.kids t) _) := HK1.out.keepK hSame (fun _ h => h)
  have hbw2 : Below w.heap.size w (w1.setCell ⟨w.heap.size + 1 + 1, 1, none⟩ (.slice na (Kd.names t).length nc)) := hbw1.setCell (by show w.heap.size ≤ w.heap.size + 1 + 1; omega) _
  clear HK1 hSame hbw1
  go_wp2_with fail
  refine (toKindS_any n hn S _ _ _ HK2.out (fun b hb => by have := hB b hb; simp; omega) (by omega)).mono ?_
  rintro e w2 ⟨v4, rfl, hv4, hb2⟩
  have hz2 := hb2.size
  simp at hz2
  obtain ⟨hc2, hf2⟩ := bcell hb2
  obtain ⟨ma, mc, rfl, -⟩ := id hv4
  have HV4 : Hid (RowIn3 _ w2 (KindIn _ w2 n) (Kd.kids t) (.slice ma (Kd.kids t).length mc)) := hv4
  have hbw3 := below_step hbw2 (by simp; omega) hb2
  have HB2 : Hid (Below _ _ w2) := hb2
  have m0 : w2.cell? ⟨w.heap.size + 1 + 1, 0, none⟩ = some (.int .i64 (Kd.sort t)) := by rw [hc2 _ _ (by simp; omega)]; simp [go_sem, hc]
  have mf0 : w2.frozen? ⟨w.heap.size + 1 + 1, 0, none⟩ = false := by rw [hf2 _ _ (by simp; omega)]; simp [go_sem, hf]
  have m1 : w2.cell? ⟨w.heap.size + 1 + 1, 1, none⟩ = some (.slice na (Kd.names t).length nc) := by rw [hc2 _ _ (by simp; omega)]; simp [go_sem, hc]
  have mf1 : w2.frozen? ⟨w.heap.size + 1 + 1, 1, none⟩ = false := by rw [hf2 _ _ (by simp; omega)]; simp [go_sem, hf]
  have m2 : w2.cell? ⟨w.heap.size + 1 + 1, 2, none⟩ = some (.slice none 0 0) := by rw [hc2 _ _ (by simp; omega)]; simp [go_sem, hc]
  have mf2 : w2.frozen? ⟨w.heap.size + 1 + 1, 2, none⟩ = false := by rw [hf2 _ _ (by simp; omega)]; simp [go_sem, hf]
  have r0 : w2.cell? ⟨w.heap.size + 1, 0, none⟩ = some (.int .i64 0) := by rw [hc2 _ _ (by simp; omega)]; simp [go_sem, hc]
  have rf0 : w2.frozen? ⟨w.heap.size + 1, 0, none⟩ = false := by rw [hf2 _ _ (by simp; omega)]; simp [go_sem, hf]
  have r1 : w2.cell? ⟨w.heap.size + 1, 1, none⟩ = some (.slice none 0 0) := by rw [hc2 _ _ (by simp; omega)]; simp [go_sem, hc]
  have rf1 : w2.frozen? ⟨w.heap.size + 1, 1, none⟩ = false := by rw [hf2 _ _ (by simp; omega)]; simp [go_sem, hf]
  have r2 : w2.cell? ⟨w.heap.size + 1, 2, none⟩ = some (.slice none 0 0) := by rw [hc2 _ _ (by simp; omega)]; simp [go_sem, hc]
  have rf2 : w2.frozen? ⟨w.heap.size + 1, 2, none⟩ = false := by rw [hf2 _ _ (by simp; omega)]; simp [go_sem, hf]
  clear hv4 HK2 hbw2 hb1 hb2 hc hf hc2 hf2
  have HF : Hid (KindIn (fun b => w.heap.size ≤ b ∧ b < (put3 (w2.setCell ⟨w.heap.size + 1 + 1, 2, none⟩ (.slice ma (Kd.kids t).length mc)) (w.heap.size + 1) 0 (.int .i64 (Kd.sort t)) (.slice na (Kd.names t).length nc) (.slice ma (Kd.kids t).length mc)).heap.size)
      (put3 (w2.setCell ⟨w.heap.size + 1 + 1, 2, none⟩ (.slice ma (Kd.kids t).length mc)) (w.heap.size + 1) 0 (.int .i64 (Kd.sort t)) (.slice na (Kd.names t).length nc) (.slice ma (Kd.kids t).length mc))
      (n + 1) t (.int .i64 (Kd.sort t)) (.slice na (Kd.names t).length nc) (.slice ma (Kd.kids t).length mc)) := by
    refine ⟨rfl, hw0, HV3.out.keep (fun b hb => ?_) (fun b hb => ?_), HV4.out.keepK (fun b hb => ?_) (fun b hb => ?_)⟩
    · simp at hb
      rw [put3_other (by omega), Below.heap_setCell _ _ _ _ (by show b ≠ w.heap.size + 1 + 1; omega), HB2.out.block b (by simp; omega), Below.heap_setCell _ _ _ _ (by show b ≠ w.heap.size + 1 + 1; omega)]
    · simp at hb; rw [put3_size]; simp; omega
    · simp at hb
      rw [put3_other (by omega), Below.heap_setCell _ _ _ _ (by show b ≠ w.heap.size + 1 + 1; omega)]
    · simp at hb; rw [put3_size]; simp; omega
  have HE : Hid (Below w.heap.size w (put3 (w2.setCell ⟨w.heap.size + 1 + 1, 2, none⟩ (.slice ma (Kd.kids t).length mc)) (w.heap.size + 1) 0 (.int .i64 (Kd.sort t)) (.slice na (Kd.names t).length nc) (.slice ma (Kd.kids t).length mc))) :=
    put3_below (hbw3.setCell (by show w.heap.size ≤ w.heap.size + 1 + 1; omega) _) (by omega)
  clear HV3 HV4 HB2 hbw3 hw0
  go_wp2_with fail
  refine bodyPost_ret (v := .agg #[.int .i64 (Kd.sort t), .slice na (Kd.names t).length nc, .slice ma (Kd.kids t).length mc]) (by simp [results, Tryz.results13, go_sem, r0, r1, r2]) rfl ?_
  exact ⟨_, _, _, rfl, HF.out, HE.out⟩

theorem toKind_any : ∀ n, ToKSaid n := by
  intro n
  induction n with
  | zero => intro S t c0 c1 c2 w ht; exact ht.elim
  | succ n ih => exact toKind_step n ih

end Go.Proofs.YtdijbjhmjamagaaGreatDoor

/-
  The copies of schemas that the laws make can be written to.
-/
namespace Go.Proofs.YtdijbjhmjamagaaGreatDoor
open Go.RowKit

/-- From block M on nothing is frozen. -/
def Thaw (M : Nat) (w : World) : Prop := ∀ b o, M ≤ b → b < w.heap.size → w.frozen? ⟨b, o, none⟩ = false

theorem Thaw.base (w : World) : Thaw w.heap.size w := fun b o h1 h2 => by omega
theorem Thaw.set {M : Nat} {w : World} (h : Thaw M w) (p : Addr) (v : Value) : Thaw M (w.setCell p v) := fun b o h1 h2 => by
  rw [World.frozen?_setCell]; exact h b o h1 (by simpa using h2)
theorem Thaw.alloc {M : Nat} {w : World} (h : Thaw M w) (c : Array Value) (t : TypeId) : Thaw M (w.alloc (.cells c t)) := fun b o h1 h2 => by
  by_cases hb : b < w.heap.size
  · have e := Below.heap_alloc w (.cells c t) b hb
    have := h b o h1 hb
    simp only [World.frozen?, e] at this ⊢
    exact this
  · have hb' : b = w.heap.size := by simp at h2; omega
    subst hb'
    have e := heap_alloc_new w (.cells c t)
    simp only [World.frozen?, e]; simp
theorem Thaw.step {M : Nat} {w w' : World} (h : Thaw M w) (hb : Below w.heap.size w w') (h' : Thaw w.heap.size w') (_hM : M ≤ w.heap.size) : Thaw M w' := fun b o h1 h2 => by
  by_cases hlt : b < w.heap.size
  · rw [hb.frozen (p := ⟨b, o, none⟩) hlt]; exact h b o h1 hlt
  · exact h' b o (by omega) h2

set_option maxHeartbeats 400000 in
theorem toStringT_any (S : Nat → Prop) (l : List ByteArray) (v : Value) (w : World) (hl : StrsIn S w l v) (hB : ∀ b, S b → b < w.heap.size) (hsz : szN l ≤ 1048576) :
    Calls Tryz.prog 34 #[v] w fun e w' => ∃ v', e = .returned v' ∧ StrsIn (fun b => w.heap.size ≤ b ∧ b < w'.heap.size) w' l v' ∧ Below w.heap.size w w' ∧ Thaw w.heap.size w' := by
  obtain ⟨ao, cap, rfl, hlen, hs, hc⟩ := hl
  have hlN := szN_length l
  have hmk := run_make_row' (P := Tryz.prog) 23 9 (.string ByteArray.empty) 16 Tryz.underlying23 Tryz.info_str rfl .i64 .i64 l.length (by omega) (by omega)
  go_enter Tryz.func34, Tryz.ntmps34
  go_wp2
  go_loopw [4] (fun i wr => ∃ k : Nat, k ≤ l.length ∧ i = .int .i64 k ∧ wr.rowIs w.heap.size 9 l.length (fun j => if j < k then .string (l.getD j ByteArray.empty) else .string ByteArray.empty) ∧ Below w.heap.size w wr ∧ wr.heap.size = w.heap.size + 1)
    (fun i _ => l.length - (intOf i).toNat)
  case atStart =>
    exact ⟨0, Nat.zero_le _, rfl, (World.rowIs_made _ _ _ _).congr (fun i _ => by simp), (Below.refl _ _).alloc (Nat.le_refl _) _, by simp⟩
  case round =>
    obtain ⟨k, hk, rfl, hrow, hbel, hone⟩ := hrel
    by_cases hlt : k < l.length
    · obtain ⟨b, off, rfl, hbB, hcell⟩ := hc (by intro h; rw [h] at hlt; simp at hlt)
      have f0 := (hbel.cell (p := ⟨b, off + k, none⟩) (hB b hbB)).trans (hcell k hlt)
      have f1 := hrow.cell hlt
      have f2 := hrow.frozen k
      have HR : Hid ((wr.setCell ⟨w.heap.size, k, none⟩ (.string l[k])).rowIs w.heap.size 9 l.length (fun j => if j < k + 1 then .string (l.getD j ByteArray.empty) else .string ByteArray.empty)) := by
        refine (hrow.set k (.string l[k])).congr fun i hi => ?_
        by_cases h1 : i = k
        · subst h1; simp [hlt]
        · by_cases h2 : i < k
          · rw [if_neg h1, if_pos h2, if_pos (by omega)]
          · rw [if_neg h1, if_neg h2, if_neg (by omega)]
      have HB : Hid (Below w.heap.size w (wr.setCell ⟨w.heap.size, k, none⟩ (.string l[k]))) := hbel.setCell (Nat.le_refl _) _
      clear hc hcell hrow hbel hmk
      go_wp2
      go_roundw
      case rel => exact ⟨k + 1, by omega, by go_num, HR.out, HB.out, by simpa using hone⟩
      case measure => simp [intOf]; omega
    · have hkl : k = l.length := by omega
      have HF : Hid (StrsIn (fun b => w.heap.size ≤ b ∧ b < wr.heap.size) wr l (.slice (some ⟨w.heap.size, 0, none⟩) l.length l.length)) := by
        refine ⟨_, _, rfl, hlen, hs, fun _ => ⟨w.heap.size, 0, rfl, ⟨Nat.le_refl _, hrow.lt⟩, fun i hi => ?_⟩⟩
        have := hrow.cell hi
        rw [if_pos (by omega)] at this
        simpa [List.getD, hi] using this
      have HT : Hid (Thaw w.heap.size wr) := fun b o h1 h2 => by
        have : b = w.heap.size := by omega
        subst this; exact hrow.frozen o
      clear hkl hc hs hrow hmk
      go_wp2
      go_ret
      exact ⟨_, rfl, HF.out, hbel, HT.out⟩

/-- toKind at schemas of at most n levels. -/
def ToKTSaid (n : Nat) : Prop := ∀ (S : Nat → Prop) (t : K n) (c0 c1 c2 : Value) (w : World), KindIn S w n t c0 c1 c2 → (∀ b, S b → b < w.heap.size) → szK n t ≤ 1048576 →
  Calls Tryz.prog 13 #[.agg #[c0, c1, c2]] w fun e w' => ∃ d0 d1 d2, e = .returned (.agg #[d0, d1, d2]) ∧ KindIn (fun b => w.heap.size ≤ b ∧ b < w'.heap.size) w' n t d0 d1 d2 ∧ Below w.heap.size w w' ∧ Thaw w.heap.size w'

set_option maxHeartbeats 400000 in
theorem toKindT_any (n : Nat) (hn : ToKTSaid n) (S : Nat → Prop) (l : List (K n)) (v : Value) (w : World) (hl : RowIn3 S w (KindIn S w n) l v) (hB : ∀ b, S b → b < w.heap.size) (hsz : sumL (fun k => szK n k + 1) l ≤ 1048576) :
    Calls Tryz.prog 35 #[v] w fun e w' => ∃ v', e = .returned v' ∧ RowIn3 (fun b => w.heap.size ≤ b ∧ b < w'.heap.size) w' (KindIn (fun b => w.heap.size ≤ b ∧ b < w'.heap.size) w' n) l v' ∧ Below w.heap.size w w' ∧ Thaw w.heap.size w' := by
  obtain ⟨ao, cap, rfl, hlen, hc⟩ := hl
  have hlN := sumL_length (szK n) l
  have hmk := make_kinds l.length (by omega)
  go_enter Tryz.func35, Tryz.ntmps35
  go_wp2_with fail
  go_loopw [4] (fun i wr => ∃ (k : Nat) (F : Nat → Value), k ≤ l.length ∧ i = .int .i64 k ∧ wr.rowIs w.heap.size 26 (l.length * 3) F ∧ (Below w.heap.size w wr ∧ Thaw w.heap.size wr) ∧
      ∀ j (h : j < l.length), j < k → KindIn (fun b => w.heap.size < b ∧ b < wr.heap.size) wr n l[j] (F (j * 3)) (F (j * 3 + 1)) (F (j * 3 + 2)))
    (fun i _ => l.length - (intOf i).toNat)
  case atStart =>
    obtain ⟨F, hF⟩ := rowIs_made_any w #[.int .i64 0, .slice none 0 0, .slice none 0 0] (l.length * 3) 26
    exact ⟨0, F, Nat.zero_le _, rfl, hF, ⟨(Below.refl _ _).alloc (Nat.le_refl _) _, fun b o h1 h2 => by
      have : b = w.heap.size := by simp at h2; omega
      subst this; exact hF.frozen o⟩, fun j _ h => absurd h (Nat.not_lt_zero _)⟩
  case round =>
    obtain ⟨k, F, hk, rfl, hrow, ⟨hbel, hth⟩, hdone⟩ := hrel
    by_cases hlt : k < l.length
    · obtain ⟨b, off, rfl, hbB, hcell⟩ := hc (by intro h; rw [h] at hlt; simp at hlt)
      obtain ⟨d0, d1, d2, e0, e1, e2, hr⟩ := hcell k hlt
      have f0 := (hbel.cell (p := ⟨b, off + k * 3, none⟩) (hB b hbB)).trans e0
      have f1 := (hbel.cell (p := ⟨b, off + k * 3 + 1, none⟩) (hB b hbB)).trans e1
      have f2 := (hbel.cell (p := ⟨b, off + k * 3 + 2, none⟩) (hB b hbB)).trans e2
      clear hc hcell e0 e1 e2
      have hr' := hr.keep (same_below hbel hB) (fun _ h => h)
      have hsz' := hbel.size
      have hone := sumL_mono (fun k => szK n k + 1) l l[k] (List.getElem_mem hlt)
      clear hr hmk
      go_wp2_with fail
      refine (hn S l[k] d0 d1 d2 wr hr' (fun b hb => Nat.lt_of_lt_of_le (hB b hb) hsz') (by omega)).mono ?_
      rintro e w1 ⟨g0, g1, g2, rfl, hin, hb1, ht1⟩
      have hth1 := hth.step hb1 ht1 hsz'
      have hz1 := hb1.size
      have hlt1 := hrow.lt
      have hrow1 : w1.rowIs w.heap.size 26 (l.length * 3) F := hrow.of_block (hb1.block _ hlt1)
      have q0 := hrow1.cell (i := k * 3) (by omega)
      have q1 := hrow1.cell (i := k * 3 + 1) (by omega)
      have q2 := hrow1.cell (i := k * 3 + 2) (by omega)
      have r0 := hrow1.frozen (k * 3)
      have r1 := hrow1.frozen (k * 3 + 1)
      have r2 := hrow1.frozen (k * 3 + 2)
      obtain ⟨x0, xa, xl, xc, ya, yl, yc, rfl, rfl, rfl⟩ := hin.shape
      have HR : Hid (∀ j (h : j < l.length), j < k + 1 → KindIn (fun b => w.heap.size < b ∧ b < (put3 w1 w.heap.size (k * 3) (.int .i64 x0) (.slice xa xl xc) (.slice ya yl yc)).heap.size)
          (put3 w1 w.heap.size (k * 3) (.int .i64 x0) (.slice xa xl xc) (.slice ya yl yc)) n l[j]
          (put3F (k * 3) F (.int .i64 x0) (.slice xa xl xc) (.slice ya yl yc) (j * 3)) (put3F (k * 3) F (.int .i64 x0) (.slice xa xl xc) (.slice ya yl yc) (j * 3 + 1))
          (put3F (k * 3) F (.int .i64 x0) (.slice xa xl xc) (.slice ya yl yc) (j * 3 + 2))) := by
        intro j hj hjk
        by_cases hjk' : j < k
        · rw [put3F_other _ _ _ _ _ (j * 3) (by omega), put3F_other _ _ _ _ _ (j * 3 + 1) (by omega), put3F_other _ _ _ _ _ (j * 3 + 2) (by omega)]
          refine (hdone j hj hjk').keep (fun b hb => ?_) (fun b hb => ?_)
          · rw [put3_other (by omega)]; exact hb1.block b hb.2
          · rw [put3_size]; omega
        · have : j = k := by omega
          subst this
          rw [put3F_0, put3F_1, put3F_2]
          refine hin.keep (fun b hb => ?_) (fun b hb => ?_)
          · rw [put3_other (by omega)]
          · rw [put3_size]; omega
      have HW := put3_row hrow1 (k * 3) (.int .i64 x0) (.slice xa xl xc) (.slice ya yl yc)
      have HB := put3_below (o := k * 3) (g0 := .int .i64 x0) (g1 := .slice xa xl xc) (g2 := .slice ya yl yc) (below_step hbel hsz' hb1) (Nat.le_refl _)
      have HA : Hid (_ ∧ _ ∧ _ ∧ _) := ⟨HW, HB, HR.out, ((hth1.set ⟨w.heap.size, k * 3, none⟩ (.int .i64 x0)).set ⟨w.heap.size, k * 3 + 1, none⟩ (.slice xa xl xc)).set ⟨w.heap.size, k * 3 + 2, none⟩ (.slice ya yl yc)⟩
      clear hth hth1 ht1
      clear HW HB HR hdone hrow hbel hb1 hin hn hrow1 f0 f1 f2 hr' hone
      go_wp2_with fail
      go_roundw
      case rel => exact ⟨k + 1, _, by omega, by go_num, HA.out.1, ⟨HA.out.2.1, HA.out.2.2.2⟩, HA.out.2.2.1⟩
      case measure => simp [intOf]; omega
    · have hkl : k = l.length := by omega
      have HF : Hid (RowIn3 (fun b => w.heap.size ≤ b ∧ b < wr.heap.size) wr (KindIn (fun b => w.heap.size ≤ b ∧ b < wr.heap.size) wr n) l (.slice (some ⟨w.heap.size, 0, none⟩) l.length l.length)) := by
        refine ⟨_, _, rfl, hlen, fun _ => ⟨w.heap.size, 0, rfl, ⟨Nat.le_refl _, hrow.lt⟩, fun i hi => ?_⟩⟩
        refine ⟨_, _, _, ?_, ?_, ?_, (hdone i hi (by omega)).keep (fun _ _ => rfl) (fun b hb => ⟨by omega, hb.2⟩)⟩
        · simpa using hrow.cell (i := i * 3) (by omega)
        · simpa using hrow.cell (i := i * 3 + 1) (by omega)
        · simpa using hrow.cell (i := i * 3 + 2) (by omega)
      clear hkl hc hrow hmk hdone
      go_wp2_with fail
      go_ret
      exact ⟨_, rfl, HF.out, hbel, hth⟩

set_option maxHeartbeats 400000 in
theorem toKindW_step (n : Nat) (hn : ToKTSaid n) : ToKTSaid (n + 1) := by
  intro S t c0 c1 c2 w ht hB hsz
  obtain ⟨rfl, hw0, h3, h4⟩ := ht
  have hT : szK (n + 1) t = szN (Kd.names t) + sumL (fun k => szK n k + 1) (Kd.kids t) := rfl
  rw [hT] at hsz
  clear hT
  have hb3 : Below w.heap.size w (((w.alloc (.cells #[.int .i64 (Kd.sort t), c1, c2] 36)).alloc
      (.cells #[.int .i64 0, .slice none 0 0, .slice none 0 0] 26)).alloc (.cells #[.int .i64 (Kd.sort t), .slice none 0 0, .slice none 0 0] 26)) :=
    (((Below.refl _ _).alloc (Nat.le_refl _) _).alloc (by simp) _).alloc (by simp; omega) _
  have h3' := h3.keep (same_below hb3 hB) (fun _ h => h)
  have HK : Hid (RowIn3 S _ (KindIn S _ n) (Kd.kids t) c2) := h4.keepK (same_below hb3 hB) (fun _ h => h)
  obtain ⟨ka, kc, hk4, -⟩ := h4
  subst hk4
  clear h3
  go_enter Tryz.func13, Tryz.ntmps13
  go_wp2_with fail
  refine (toStringT_any S _ _ _ h3' (fun b hb => by have := hB b hb; simp; omega) (by omega)).mono ?_
  rintro e w1 ⟨v3, rfl, hv3, hb1, ht1⟩
  have hth1 : Thaw w.heap.size w1 := Thaw.step (((Thaw.base w).alloc _ _).alloc _ _ |>.alloc _ _) hb1 ht1 (by simp; omega)
  have hz1 := hb1.size
  simp at hz1
  obtain ⟨hc, hf⟩ := bcell hb1
  obtain ⟨na, nc, rfl, -⟩ := id hv3
  have HV3 : Hid (StrsIn _ w1 (Kd.names t) (.slice na (Kd.names t).length nc)) := hv3
  have hbw1 := below_step hb3 (by simp; omega) hb1
  have HK1 : Hid (RowIn3 S w1 (KindIn S w1 n) (Kd.kids t) _) := HK.out.keepK (same_below hb1 (fun b hb => by have := hB b hb; simp; omega)) (fun _ h => h)
  clear hv3 HK h3' hb3
  have hfz : w1.frozen? ⟨w.heap.size + 1 + 1, 1, none⟩ = false := by rw [hf _ _ (by simp)]; simp [go_sem]
  have hSame : Same S w1 (w1.setCell ⟨w.heap.size + 1 + 1, 1, none⟩ (.slice na (Kd.names t).length nc)) := fun b hb => Below.heap_setCell _ _ _ _ (by have := hB b hb; show b ≠ w.heap.size + 1 + 1; omega)
  have HK2 : Hid (RowIn3 S _ (KindIn S _ n) (Kd.kids t) _) := HK1.out.keepK hSame (fun _ h => h)
  have hbw2 : Below w.heap.size w (w1.setCell ⟨w.heap.size + 1 + 1, 1, none⟩ (.slice na (Kd.names t).length nc)) := hbw1.setCell (by show w.heap.size ≤ w.heap.size + 1 + 1; omega) _
  clear HK1 hSame hbw1
  go_wp2_with fail
  refine (toKindT_any n hn S _ _ _ HK2.out (fun b hb => by have := hB b hb; simp; omega) (by omega)).mono ?_
  rintro e w2 ⟨v4, rfl, hv4, hb2, ht2⟩
  have hth2 : Thaw w.heap.size w2 := Thaw.step (hth1.set ⟨w.heap.size + 1 + 1, 1, none⟩ (.slice na (Kd.names t).length nc)) hb2 ht2 (by simp; omega)
  have hz2 := hb2.size
  simp at hz2
  obtain ⟨hc2, hf2⟩ := bcell hb2
  obtain ⟨ma, mc, rfl, -⟩ := id hv4
  have HV4 : Hid (RowIn3 _ w2 (KindIn _ w2 n) (Kd.kids t) (.slice ma (Kd.kids t).length mc)) := hv4
  have hbw3 := below_step hbw2 (by simp; omega) hb2
  have HB2 : Hid (Below _ _ w2) := hb2
  have m0 : w2.cell? ⟨w.heap.size + 1 + 1, 0, none⟩ = some (.int .i64 (Kd.sort t)) := by rw [hc2 _ _ (by simp; omega)]; simp [go_sem, hc]
  have mf0 : w2.frozen? ⟨w.heap.size + 1 + 1, 0, none⟩ = false := by rw [hf2 _ _ (by simp; omega)]; simp [go_sem, hf]
  have m1 : w2.cell? ⟨w.heap.size + 1 + 1, 1, none⟩ = some (.slice na (Kd.names t).length nc) := by rw [hc2 _ _ (by simp; omega)]; simp [go_sem, hc]
  have mf1 : w2.frozen? ⟨w.heap.size + 1 + 1, 1, none⟩ = false := by rw [hf2 _ _ (by simp; omega)]; simp [go_sem, hf]
  have m2 : w2.cell? ⟨w.heap.size + 1 + 1, 2, none⟩ = some (.slice none 0 0) := by rw [hc2 _ _ (by simp; omega)]; simp [go_sem, hc]
  have mf2 : w2.frozen? ⟨w.heap.size + 1 + 1, 2, none⟩ = false := by rw [hf2 _ _ (by simp; omega)]; simp [go_sem, hf]
  have r0 : w2.cell? ⟨w.heap.size + 1, 0, none⟩ = some (.int .i64 0) := by rw [hc2 _ _ (by simp; omega)]; simp [go_sem, hc]
  have rf0 : w2.frozen? ⟨w.heap.size + 1, 0, none⟩ = false := by rw [hf2 _ _ (by simp; omega)]; simp [go_sem, hf]
  have r1 : w2.cell? ⟨w.heap.size + 1, 1, none⟩ = some (.slice none 0 0) := by rw [hc2 _ _ (by simp; omega)]; simp [go_sem, hc]
  have rf1 : w2.frozen? ⟨w.heap.size + 1, 1, none⟩ = false := by rw [hf2 _ _ (by simp; omega)]; simp [go_sem, hf]
  have r2 : w2.cell? ⟨w.heap.size + 1, 2, none⟩ = some (.slice none 0 0) := by rw [hc2 _ _ (by simp; omega)]; simp [go_sem, hc]
  have rf2 : w2.frozen? ⟨w.heap.size + 1, 2, none⟩ = false := by rw [hf2 _ _ (by simp; omega)]; simp [go_sem, hf]
  clear hv4 HK2 hbw2 hb1 hb2 hc hf hc2 hf2
  have HF : Hid (KindIn (fun b => w.heap.size ≤ b ∧ b < (put3 (w2.setCell ⟨w.heap.size + 1 + 1, 2, none⟩ (.slice ma (Kd.kids t).length mc)) (w.heap.size + 1) 0 (.int .i64 (Kd.sort t)) (.slice na (Kd.names t).length nc) (.slice ma (Kd.kids t).length mc)).heap.size)
      (put3 (w2.setCell ⟨w.heap.size + 1 + 1, 2, none⟩ (.slice ma (Kd.kids t).length mc)) (w.heap.size + 1) 0 (.int .i64 (Kd.sort t)) (.slice na (Kd.names t).length nc) (.slice ma (Kd.kids t).length mc))
      (n + 1) t (.int .i64 (Kd.sort t)) (.slice na (Kd.names t).length nc) (.slice ma (Kd.kids t).length mc)) := by
    refine ⟨rfl, hw0, HV3.out.keep (fun b hb => ?_) (fun b hb => ?_), HV4.out.keepK (fun b hb => ?_) (fun b hb => ?_)⟩
    · simp at hb
      rw [put3_other (by omega), Below.heap_setCell _ _ _ _ (by show b ≠ w.heap.size + 1 + 1; omega), HB2.out.block b (by simp; omega), Below.heap_setCell _ _ _ _ (by show b ≠ w.heap.size + 1 + 1; omega)]
    · simp at hb; rw [put3_size]; simp; omega
    · simp at hb
      rw [put3_other (by omega), Below.heap_setCell _ _ _ _ (by show b ≠ w.heap.size + 1 + 1; omega)]
    · simp at hb; rw [put3_size]; simp; omega
  have HE : Hid (Below w.heap.size w (put3 (w2.setCell ⟨w.heap.size + 1 + 1, 2, none⟩ (.slice ma (Kd.kids t).length mc)) (w.heap.size + 1) 0 (.int .i64 (Kd.sort t)) (.slice na (Kd.names t).length nc) (.slice ma (Kd.kids t).length mc))) :=
    put3_below (hbw3.setCell (by show w.heap.size ≤ w.heap.size + 1 + 1; omega) _) (by omega)
  have HT : Hid (Thaw w.heap.size (put3 (w2.setCell ⟨w.heap.size + 1 + 1, 2, none⟩ (.slice ma (Kd.kids t).length mc)) (w.heap.size + 1) 0 (.int .i64 (Kd.sort t)) (.slice na (Kd.names t).length nc) (.slice ma (Kd.kids t).length mc))) :=
    (((hth2.set ⟨w.heap.size + 1 + 1, 2, none⟩ (.slice ma (Kd.kids t).length mc)).set ⟨w.heap.size + 1, 0, none⟩ (.int .i64 (Kd.sort t))).set ⟨w.heap.size + 1, 0 + 1, none⟩ (.slice na (Kd.names t).length nc)).set ⟨w.heap.size + 1, 0 + 2, none⟩ (.slice ma (Kd.kids t).length mc)
  clear HV3 HV4 HB2 hbw3 hw0 hth1 hth2 ht1 ht2
  go_wp2_with fail
  refine bodyPost_ret (v := .agg #[.int .i64 (Kd.sort t), .slice na (Kd.names t).length nc, .slice ma (Kd.kids t).length mc]) (by simp [results, Tryz.results13, go_sem, r0, r1, r2]) rfl ?_
  exact ⟨_, _, _, rfl, HF.out, HE.out, HT.out⟩

theorem toKindW_any : ∀ n, ToKTSaid n := by
  intro n
  induction n with
  | zero => intro S t c0 c1 c2 w ht; exact ht.elim
  | succ n ih => exact toKindW_step n ih

end Go.Proofs.YtdijbjhmjamagaaGreatDoor

/-
  The program's walker at schemas, with the closure by which isOk asks each part; isOk; KindOk.
-/
namespace Go.Proofs.YtdijbjhmjamagaaGreatDoor
open Go.RowKit

set_option maxHeartbeats 1000000 in
theorem accK_any (S : Nat → Prop) (s : Int) (l : List ByteArray) (na ka : Option Addr) (nc kl kc pb mb ab : Nat) (d p : Int) (w : World) (hl : StrsIn S w l (.slice na l.length nc)) (hB : ∀ b, S b → b < w.heap.size ∧ b ≠ pb)
    (hp : Cap w pb mb ab p 40 57) (hp0 : 0 ≤ p) (hp1 : p ≤ 40) :
    Calls Tryz.prog 81 #[.agg #[.int .i64 s, .slice na l.length nc, .slice ka kl kc], .int .i64 d, .pointer (some ⟨pb, 0, none⟩), .pointer (some ⟨mb, 0, none⟩), .pointer (some ⟨ab, 0, none⟩)] w
      fun e w' => e = .returned (.bool (decide (p + 1 ≤ 40) && decide (d ≤ 6) && aloneKF s l kl)) ∧ Prt w' pb (p + 1) ∧ Near pb w w' := by
  have hlt := hp.parts.lt
  have hn0 : Near pb w (w.setCell ⟨pb, 0, none⟩ (.int .i64 (p + 1))) := Near.set pb 0 _ (.int .i64 (p + 1))
  have hn1 := hn0.trans (Near.alloc pb _ (.cells #[.int .i64 s, .slice na l.length nc, .slice ka kl kc] 26))
  have hp' : Prt ((w.setCell ⟨pb, 0, none⟩ (.int .i64 (p + 1))).alloc (.cells #[.int .i64 s, .slice na l.length nc, .slice ka kl kc] 26)) pb (p + 1) := (hp.parts.set (p + 1)).keep ((Below.refl _ _).alloc (Nat.le_refl _) _)
  have hl' := hl.keep (hn1.same hB) (fun _ h => h)
  have HC : Hid (Calls Tryz.prog 57 _ _ _) := justK_any s l ka kl kc _ na nc S hl' (fun b hb => by have := (hB b hb).1; simp; omega)
  have c0 := hp.parts.cell
  have f0 := hp.parts.free
  have m0 := hp.max
  have a0 := hp.acc
  have nm := hp.nm
  have na' := hp.na
  have hm : mb < w.heap.size := cell_lt0 m0
  have ha : ab < w.heap.size := cell_lt0 a0
  have hne : w.heap.size ≠ pb := by omega
  clear hl hl' hp hn0 hB
  by_cases h1 : p + 1 ≤ 40
  · by_cases h2 : d ≤ 6
    · go_enter Tryz.func81, Tryz.ntmps81
      go_wp2_with fail
      refine HC.out.mono ?_
      rintro e w' ⟨rfl, hb1⟩
      have hp2 : Prt w' pb (p + 1) := (hb1.block pb (by simp; omega)).trans hp'
      have hn2 := hn1.trans (Near.of_below (bb := pb) hb1)
      clear hb1 HC
      go_wp2_with fail
      go_ret
      exact ⟨bool_ret (by simp [h1, h2]), hp2, hn2⟩
    · go_enter Tryz.func81, Tryz.ntmps81
      go_wp2_with fail
      go_ret
      exact ⟨bool_ret (by rw [decide_eq_false (show ¬ d ≤ 6 by omega)]; simp), hp', hn1⟩
  · go_enter Tryz.func81, Tryz.ntmps81
    go_wp2_with fail
    go_ret
    exact ⟨bool_ret (by rw [decide_eq_false (show ¬ p + 1 ≤ 40 by omega)]; simp), hp', hn1⟩

/-- What walk does with a schema. -/
def WalkKPost (n : Nat) (t : K n) (d p : Int) (pb : Nat) (w : World) (e : Ending) (w' : World) : Prop :=
  Near pb w w' ∧ ∃ r, e = .returned (.bool r) ∧ (r = true → goodK n t d = true ∧ p + (cntK n t : Int) ≤ 40 ∧ Prt w' pb (p + cntK n t)) ∧ (r = false → ¬ (goodK n t d = true ∧ p + (cntK n t : Int) ≤ 40))

/-- The closure of isOk. -/
def clK (pb mb ab : Nat) : Value := .func (.func 81) #[] #[.pointer (some ⟨pb, 0, none⟩), .pointer (some ⟨mb, 0, none⟩), .pointer (some ⟨ab, 0, none⟩)]

/-- walk at schemas of at most n levels. -/
def WalkKSaid (n : Nat) : Prop := ∀ (S : Nat → Prop) (t : K n) (c0 c1 c2 : Value) (d p : Int) (pb mb ab : Nat) (w : World), KindIn S w n t c0 c1 c2 → (∀ b, S b → b < w.heap.size ∧ b ≠ pb) → Cap w pb mb ab p 40 57 → 0 ≤ p → p ≤ 40 → 1 ≤ d → d ≤ 7 →
  Calls Tryz.prog 80 #[.agg #[c0, c1, c2], .int .i64 d, clK pb mb ab] w (WalkKPost n t d p pb w)

set_option maxHeartbeats 400000 in
theorem kidsK_any (a b c : Value) (ha : ∃ x l k, c = .slice x l k) (w : World) : Calls Tryz.prog 145 #[.agg #[a, b, c]] w fun e w' => e = .returned c ∧ Below w.heap.size w w' := by
  obtain ⟨x, l, k, rfl⟩ := ha
  have hb0 := (Below.refl w.heap.size w).alloc (Nat.le_refl _) (.cells #[a, b, .slice x l k] 26)
  go_enter Tryz.func145, Tryz.ntmps145
  go_wp2_with fail
  go_ret
  exact ⟨rfl, hb0⟩

theorem walkK_bad {n : Nat} {t : K (n + 1)} {d p : Int} (k : Nat) (hk : k < (Kd.kids t).length)
    (h : ¬ (goodK n (Kd.kids t)[k] (d + 1) = true ∧ p + 1 + (sumL (fun x => cntK n x) ((Kd.kids t).take k) : Int) + (cntK n (Kd.kids t)[k] : Int) ≤ 40)) : ¬ (goodK (n + 1) t d = true ∧ p + (cntK (n + 1) t : Int) ≤ 40) := by
  rintro ⟨h1, h2⟩
  apply h
  simp only [goodK, Bool.and_eq_true, List.all_eq_true] at h1
  refine ⟨h1.2 _ (List.getElem_mem hk), ?_⟩
  have e := sumL_take_succ (fun x => cntK n x) (Kd.kids t) k hk
  have e2 := sumL_append (fun x => cntK n x) ((Kd.kids t).take (k + 1)) ((Kd.kids t).drop (k + 1))
  rw [List.take_append_drop] at e2
  simp only [cntK] at h2
  omega

set_option maxRecDepth 100000 in
set_option maxHeartbeats 1000000 in
theorem walkK_step (n : Nat) (hn : WalkKSaid n) : WalkKSaid (n + 1) := by
  intro S t c0 c1 c2 d p pb mb ab w ht hB hcap hp0 hp1 hd1 hd7

  obtain ⟨rfl, -, h3, h4⟩ := ht
  obtain ⟨na, nc, rfl, -, -, -⟩ := id h3
  obtain ⟨ka, kc, rfl, hlen, -⟩ := id h4
  unfold maxLen at hlen
  have hlt := hcap.parts.lt
  generalize hs : Kd.sort t = s at *
  have hb0 := (Below.refl w.heap.size w).alloc (Nat.le_refl _) (.cells #[.int .i64 s, .slice na (Kd.names t).length nc, .slice ka (Kd.kids t).length kc] 26)
  have hn0 : Near pb w (w.alloc (.cells #[.int .i64 s, .slice na (Kd.names t).length nc, .slice ka (Kd.kids t).length kc] 26)) := Near.of_below hb0
  have h3' := h3.keep (hn0.same hB) (fun _ h => h)
  have HC : Hid (Calls Tryz.prog 81 _ _ _) := accK_any S s (Kd.names t) na ka nc (Kd.kids t).length kc pb mb ab d p _ h3' (fun b hb => by have := hB b hb; simp; omega) (hcap.keep hn0 (hcap.parts.keep hb0)) hp0 hp1
  unfold clK
  go_enter Tryz.func80, Tryz.ntmps80
  go_wp2_with fail
  refine HC.out.mono ?_
  rintro e w1 ⟨rfl, hp2, hn1⟩
  have hn2 := hn0.trans hn1
  have hcap2 := hcap.keep hn2 hp2
  have hz2 := hn2.size
  have hz1 : w.heap.size < w1.heap.size := by have := hn1.size; simp at this; omega
  have k0 : w1.cell? ⟨w.heap.size, 0, none⟩ = some (.int .i64 s) := hn1.cell (by simp [go_sem]) (by omega)
  have k1 : w1.cell? ⟨w.heap.size, 1, none⟩ = some (.slice na (Kd.names t).length nc) := hn1.cell (by simp [go_sem]) (by omega)
  have k2 : w1.cell? ⟨w.heap.size, 2, none⟩ = some (.slice ka (Kd.kids t).length kc) := hn1.cell (by simp [go_sem]) (by omega)
  have h4' := h4.keepK (hn2.same hB) (fun _ h => h)
  clear HC hn0 hb0 h3' hn1 h3 h4
  generalize hok : (decide (p + 1 ≤ 40) && decide (d ≤ 6) && aloneKF s (Kd.names t) (Kd.kids t).length) = ok
  cases ok with
  | false =>
    have HP : Hid (WalkKPost (n + 1) t d p pb w (.returned (.bool false)) w1) := by
      refine ⟨hn2, false, rfl, fun h => (by cases h), fun _ => ?_⟩
      rintro ⟨hg, hc⟩
      simp only [goodK, Bool.and_eq_true, decide_eq_true_eq] at hg
      have ha : aloneKF s (Kd.names t) (Kd.kids t).length = true := by rw [← hs]; exact hg.1.2
      have : p + 1 ≤ 40 := by simp only [cntK] at hc; omega
      rw [ha, decide_eq_true hg.1.1, decide_eq_true this] at hok
      cases hok
    clear hok hs
    go_wp2_with fail
    go_ret
    exact HP.out
  | true =>
    simp only [Bool.and_eq_true, decide_eq_true_eq] at hok
    have HAL : Hid ((decide (d ≤ 6) && aloneK (show Kd (K n) from t)) = true) := by show (_ && aloneKF (Kd.sort t) _ _) = _; rw [hs, hok.2, decide_eq_true hok.1.2]; rfl
    obtain ⟨⟨ho1, ho2⟩, -⟩ := hok
    clear hs
    go_wp2_with fail
    refine (kidsK_any _ _ _ ⟨_, _, _, rfl⟩ _).mono ?_
    rintro e w2 ⟨rfl, hb2⟩
    have hn3 : Near pb w w2 := hn2.trans (Near.of_below hb2)
    have hp3 : Prt w2 pb (p + 1) := hp2.keep hb2
    have hz3 := hb2.size
    have h5 := h4'.keepK ((Near.of_below (bb := pb) hb2).same (fun b hb => by have := hB b hb; omega)) (fun _ h => h)
    clear h4' hb2 hcap2 hn2 hp2 k0 k1 k2
    obtain ⟨_, _, hkv, -, hkids⟩ := h5
    cases hkv
    go_wp2_with fail
    go_loopw [18] (fun i wr => ∃ k : Nat, k ≤ (Kd.kids t).length ∧ i = .int .i64 k ∧ Near pb w2 wr ∧ Prt wr pb (p + 1 + (sumL (fun x => cntK n x) ((Kd.kids t).take k) : Int)) ∧
        p + 1 + (sumL (fun x => cntK n x) ((Kd.kids t).take k) : Int) ≤ 40 ∧ ((Kd.kids t).take k).all (fun x => goodK n x (d + 1)) = true) (fun i _ => (Kd.kids t).length - (intOf i).toNat)
    case atStart => exact ⟨0, Nat.zero_le _, rfl, Near.refl _ _, by simpa [sumL] using hp3, by simpa [sumL] using ho1, by simp⟩
    case round =>
      obtain ⟨k, hk, rfl, hnr, hpr, hfew, hall⟩ := hrel
      have HALL := hidF hall
      clear hall
      have hzr := hnr.size
      have hn4 := hn3.trans hnr
      have hltr := hpr.lt
      by_cases hlt : k < (Kd.kids t).length
      · obtain ⟨b, off, rfl, hbB, hcell⟩ := hkids (by intro h; rw [h] at hlt; simp at hlt)
        obtain ⟨x0, x1, x2, e0, e1, e2, hr⟩ := hcell k hlt
        have hbb := hB b hbB
        have f0 := hnr.cell e0 hbb.2
        have f1 := hnr.cell e1 hbb.2
        have f2 := hnr.cell e2 hbb.2
        have q := hr.keep (hnr.same (fun b hb => by have := hB b hb; omega)) (fun _ h => h)
        obtain ⟨y0, ya, yl, yc, za, zl, zc, rfl, rfl, rfl⟩ := q.shape
        clear hkids hcell e0 e1 e2 hr
        have hb5 := (Below.refl wr.heap.size wr).alloc (Nat.le_refl _) (.cells #[.int .i64 y0, .slice ya yl yc, .slice za zl zc] 26)
        have hn5 : Near pb wr (wr.alloc (.cells #[.int .i64 y0, .slice ya yl yc, .slice za zl zc] 26)) := Near.of_below hb5
        have q5 := q.keep (hn5.same (fun b hb => by have := hB b hb; omega)) (fun _ h => h)
        have hcap5 := hcap.keep (hn4.trans hn5) (hpr.keep hb5)
        have HC : Hid (Calls Tryz.prog 80 _ _ _) := hn S (Kd.kids t)[k] _ _ _ (d + 1) _ pb mb ab _ q5 (fun b hb => by have := hB b hb; simp; omega) hcap5 (by omega) hfew (by omega) (by omega)
        have HBad := @walkK_bad n t d p k hlt
        have HSum : Hid (sumL (fun x => cntK n x) ((Kd.kids t).take (k + 1)) = sumL (fun x => cntK n x) ((Kd.kids t).take k) + cntK n (Kd.kids t)[k]) := sumL_take_succ _ _ _ hlt
        clear q q5 hcap5 hb5
        unfold clK at HC
        go_wp2_with fail
        refine HC.out.mono ?_
        rintro e w3 ⟨hn6, r, rfl, hyes, hno⟩
        have hn7 := hnr.trans (hn5.trans hn6)
        cases r with
        | false =>
          have HP : Hid (WalkKPost (n + 1) t d p pb w (.returned (.bool false)) w3) := ⟨hn3.trans hn7, false, rfl, fun h => (by cases h), fun _ => HBad (hno rfl)⟩
          clear HBad hno hyes HSum HALL hn6 hn7 hn5 hn4
          go_wp2_with fail
          go_ret
          exact HP.out
        | true =>
          obtain ⟨hg, hc, hp6⟩ := hyes rfl
          have HR : Hid (Near pb w2 w3 ∧ Prt w3 pb (p + 1 + (sumL (fun x => cntK n x) ((Kd.kids t).take (k + 1)) : Int)) ∧ p + 1 + (sumL (fun x => cntK n x) ((Kd.kids t).take (k + 1)) : Int) ≤ 40 ∧ ((Kd.kids t).take (k + 1)).all (fun x => goodK n x (d + 1)) = true) := by
            refine ⟨hn7, ?_, ?_, all_take_kidK k hlt HALL.out hg⟩
            · rw [HSum.out, show p + 1 + ((sumL (fun x => cntK n x) ((Kd.kids t).take k) + cntK n (Kd.kids t)[k] : Nat) : Int) = p + 1 + (sumL (fun x => cntK n x) ((Kd.kids t).take k) : Int) + (cntK n (Kd.kids t)[k] : Int) by omega]
              exact hp6
            · rw [HSum.out]; omega
          clear HBad hno hyes HSum HALL hn6 hn7 hn5 hn4 hg hc hp6 hpr hfew
          go_wp2_with fail
          go_roundw
          case rel => exact ⟨k + 1, by omega, by go_num, HR.out.1, HR.out.2.1, HR.out.2.2.1, HR.out.2.2.2⟩
          case measure => simp [intOf]; omega
      · have hkl : k = (Kd.kids t).length := by omega
        have HP : Hid (WalkKPost (n + 1) t d p pb w (.returned (.bool true)) wr) := by
          have h1 := HALL.out
          rw [hkl, List.take_length] at h1 hpr hfew
          have e : p + 1 + (sumL (fun x => cntK n x) (Kd.kids t) : Int) = p + (cntK (n + 1) t : Int) := by simp only [cntK]; omega
          rw [e] at hpr hfew
          exact ⟨hn4, true, rfl, fun _ => ⟨by have := HAL.out; simp only [goodK, this, h1, Bool.and_self], hfew, hpr⟩, fun h => (by cases h)⟩
        clear hkl hkids HALL hn4 hpr hfew
        go_wp2_with fail
        go_ret
        exact HP.out

theorem walkK_any : ∀ n, WalkKSaid n := by
  intro n
  induction n with
  | zero => intro S t c0 c1 c2 d p pb mb ab w ht; exact ht.elim
  | succ n ih => exact walkK_step n ih

set_option maxRecDepth 100000 in
set_option maxHeartbeats 1000000 in
theorem isOkK_any (n : Nat) (S : Nat → Prop) (t : K n) (c0 c1 c2 : Value) (w : World) (ht : KindIn S w n t c0 c1 c2) (hB : ∀ b, S b → b < w.heap.size) :
    Calls Tryz.prog 56 #[.agg #[c0, c1, c2], .int .i64 40, .func (.func 57) #[] #[]] w fun e w' => e = .returned (.bool (okK n t)) ∧ Below w.heap.size w w' := by
  have hmf : ∀ (fn : Fn) (first cap : Array Value) (w : World), (Instr.makeFunc fn first cap).run Tryz.prog w = .ok (.func fn first cap) w := fun _ _ _ _ => rfl
  obtain ⟨x0, xa, xl, xc, ya, yl, yc, rfl, rfl, rfl⟩ := ht.shape
  have hb : Below w.heap.size w ((((w.alloc (.cells #[.int .i64 x0, .slice xa xl xc, .slice ya yl yc] 26)).alloc (.cells #[.int .i64 40] 3)).alloc (.cells #[.func (.func 57) #[] #[]] 46)).alloc (.cells #[.int .i64 0] 3)) :=
    ((((Below.refl _ _).alloc (Nat.le_refl _) _).alloc (by simp) _).alloc (by simp; omega) _).alloc (by simp; omega) _
  have ht' := ht.keep (same_below hb hB) (fun _ h => h)
  have HC : Hid (Calls Tryz.prog 80 _ _ _) := walkK_any n S t _ _ _ 1 0 (w.heap.size + 1 + 1 + 1) (w.heap.size + 1) (w.heap.size + 1 + 1) _ ht' (fun b hb => by have := hB b hb; simp; omega)
    ⟨by rw [show w.heap.size + 1 + 1 + 1 = (((w.alloc (.cells #[.int .i64 x0, .slice xa xl xc, .slice ya yl yc] 26)).alloc (.cells #[.int .i64 40] 3)).alloc (.cells #[.func (.func 57) #[] #[]] 46)).heap.size by simp]; exact Prt.new _ 0,
      by simp [go_sem], by simp [go_sem], by omega, by omega⟩ (by omega) (by omega) (by omega) (by omega)
  unfold clK at HC
  clear ht ht'
  go_enter Tryz.func56, Tryz.ntmps56
  go_wp2_with fail
  refine HC.out.mono ?_
  rintro e w1 ⟨hn, r, rfl, hyes, hno⟩
  have hb1 : Below w.heap.size w w1 := hb.trans (hn.below (by omega) (by simp; omega))
  have hr : r = okK n t := by
    cases r with
    | true =>
      obtain ⟨h1, h2, -⟩ := hyes rfl
      unfold okK; rw [h1, decide_eq_true (by omega)]; rfl
    | false =>
      symm
      rw [Bool.eq_false_iff]
      intro h
      simp only [okK, Bool.and_eq_true, decide_eq_true_eq] at h
      exact hno rfl ⟨h.1, by omega⟩
  clear hyes hno hn hb HC
  go_wp2_with fail
  go_ret
  exact ⟨rfl, hb1⟩

set_option maxRecDepth 100000 in
set_option maxHeartbeats 400000 in
theorem implKOk_any (n : Nat) (S : Nat → Prop) (t : K n) (c0 c1 c2 : Value) (w : World) (ht : KindIn S w n t c0 c1 c2) (hB : ∀ b, S b → b < w.heap.size) :
    Calls Tryz.prog 28 #[.agg #[c0, c1, c2]] w fun e w' => e = .returned (.bool (okK n t)) ∧ Below w.heap.size w w' := by
  obtain ⟨x0, xa, xl, xc, ya, yl, yc, rfl, rfl, rfl⟩ := ht.shape
  have hb0 := (Below.refl w.heap.size w).alloc (Nat.le_refl _) (.cells #[.int .i64 x0, .slice xa xl xc, .slice ya yl yc] 26)
  obtain ⟨ht0, hB0⟩ := ht.step hB hb0
  have HC : Hid (Calls Tryz.prog 56 _ _ _) := isOkK_any n S t _ _ _ _ ht0 hB0
  clear ht ht0
  go_enter Tryz.func28, Tryz.ntmps28
  go_wp2_with fail
  refine HC.out.mono ?_
  rintro e w1 ⟨rfl, hb1⟩
  have hb2 := below_step hb0 (by simp) hb1
  clear hb0 hb1 HC
  go_wp2_with fail
  go_ret
  exact ⟨rfl, hb2⟩

end Go.Proofs.YtdijbjhmjamagaaGreatDoor
