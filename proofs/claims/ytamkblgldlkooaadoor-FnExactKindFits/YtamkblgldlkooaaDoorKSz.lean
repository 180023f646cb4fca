/-
  The measure of the laws on schemas: what szKindS and szKind answer.
-/
import Derived.Test.YtamkblgldlkooaaDoorKRep
import Derived.Test.YtamkblgldlkooaaDoorSz
namespace Go.Proofs.YtamkblgldlkooaaDoor
open Go.RowKit

/-- szKind at schemas of at most n levels. -/
def SzKSaid (n : Nat) : Prop := ∀ (S : Nat → Prop) (t : K n) (c0 c1 c2 : Value) (left : Int) (w : World), KindIn S w n t c0 c1 c2 → (∀ b, S b → b < w.heap.size) → -1 ≤ left → left ≤ 1048576 →
  Calls Tryd.prog 4 #[.agg #[c0, c1, c2], .int .i64 left] w fun e w' => e = .returned (.int .i64 (leftB (szK n t) left)) ∧ Below w.heap.size w w'

set_option maxHeartbeats 400000 in
theorem szKindS_any (n : Nat) (hn : SzKSaid n) (S : Nat → Prop) (l : List (K n)) (v : Value) (left : Int) (w : World) (hl : RowIn3 S w (KindIn S w n) l v) (hB : ∀ b, S b → b < w.heap.size) (h0 : -1 ≤ left) (h1 : left ≤ 1048576) :
    Calls Tryd.prog 10 #[v, .int .i64 left] w fun e w' => e = .returned (.int .i64 (leftB (sumL (fun k => szK n k + 1) l) left)) ∧ Below w.heap.size w w' := by
  obtain ⟨ao, cap, rfl, hlen, hc⟩ := hl
  unfold maxLen at hlen
  by_cases hneg : left - l.length < 0
  · go_enter Tryd.func10, Tryd.ntmps10
    go_wp2
    go_ret
    exact ⟨ret_int (by rw [leftB, sumL_one, if_neg (by omega)]), Below.refl _ _⟩
  go_enter Tryd.func10, Tryd.ntmps10
  go_wp2
  go_loopw [1, 5] (fun a i wr => ∃ k : Nat, k ≤ l.length ∧ i = .int .i64 k ∧ a = .int .i64 (leftK (szK n) l k left) ∧ 0 ≤ leftK (szK n) l k left ∧ Below w.heap.size w wr) (fun _ i _ => l.length - (intOf i).toNat)
  case atStart =>
    have e : leftK (szK n) l 0 left = left - l.length := by simp [leftK, leftB, sumL]; omega
    exact ⟨0, Nat.zero_le _, rfl, by rw [e], by rw [e]; omega, Below.refl _ _⟩
  case round =>
    obtain ⟨k, hk, rfl, rfl, hpos, hbel⟩ := hrel
    have hub := (leftB_le (l.length + sumL (szK n) (l.take k)) left h1).2
    change leftK (szK n) l k left ≤ 1048576 at hub
    by_cases hlt : k < l.length
    · obtain ⟨b, off, rfl, hbB, hcell⟩ := hc (by intro h; rw [h] at hlt; simp at hlt)
      obtain ⟨d0, d1, d2, e0, e1, e2, hr⟩ := hcell k hlt
      have f0 := (hbel.cell (p := ⟨b, off + k * 3, none⟩) (hB b hbB)).trans e0
      have f1 := (hbel.cell (p := ⟨b, off + k * 3 + 1, none⟩) (hB b hbB)).trans e1
      have f2 := (hbel.cell (p := ⟨b, off + k * 3 + 2, none⟩) (hB b hbB)).trans e2
      clear hc hcell e0 e1 e2
      have hr' := hr.keep (same_below hbel hB) (fun _ h => h)
      have hsz := hbel.size
      have HL : Hid (leftK (szK n) l (k + 1) left = leftB (szK n l[k]) (leftK (szK n) l k left)) := leftK_succ _ _ _ _ hlt
      have HM : Hid (leftK (szK n) l (k + 1) left = -1 → leftB (sumL (fun k => szK n k + 1) l) left = -1) := by
        intro hm
        have := sumL_append (szK n) (l.take (k + 1)) (l.drop (k + 1))
        rw [List.take_append_drop] at this
        rw [sumL_one]
        unfold leftK leftB at hm
        unfold leftB
        rw [if_neg]
        intro hle
        rw [if_pos (by omega)] at hm
        omega
      clear hr
      go_wp2_with fail
      refine (hn S l[k] d0 d1 d2 _ wr hr' (fun b hb => Nat.lt_of_lt_of_le (hB b hb) hsz) (by omega) hub).mono ?_
      rintro e w1 ⟨rfl, hb1⟩
      rw [← HL.out]
      have hbd := leftB_le (szK n l[k]) (leftK (szK n) l k left) hub
      rw [← HL.out] at hbd
      have hbel1 := hbel.trans (hb1.mono hsz)
      clear HL hb1 f0 f1 f2 hr' hbel
      generalize hm : leftK (szK n) l (k + 1) left = m at *
      have Hm := hm
      have HM2 : Hid (m = -1 → leftB (sumL (fun k => szK n k + 1) l) left = -1) := HM
      have HE : Hid (leftK (szK n) l (k + 1) left = m) := hm
      clear HM hm Hm
      go_wp2_with fail
      · go_ret
        refine ⟨ret_int ?_, hbel1⟩
        rw [HM2.out (by omega)]
      · go_roundw
        case rel => exact ⟨k + 1, by omega, by go_num, by rw [HE.out], by rw [HE.out]; omega, hbel1⟩
        case measure => simp [intOf]; omega
    · have hkl : k = l.length := by omega
      have HE : Hid (leftK (szK n) l k left = leftB (sumL (fun k => szK n k + 1) l) left) := by
        show _ = _
        unfold leftK; rw [sumL_one, hkl, List.take_length]
      clear hkl hc
      go_wp2_with fail
      go_ret
      exact ⟨ret_int HE.out, hbel⟩

set_option maxHeartbeats 400000 in
theorem szKind_step (n : Nat) (hn : SzKSaid n) : SzKSaid (n + 1) := by
  intro S t c0 c1 c2 left w ht hB h0 h1
  obtain ⟨rfl, -, h3, h4⟩ := ht
  have HT : Hid (szK (n + 1) t = szN (Kd.names t) + sumL (fun k => szK n k + 1) (Kd.kids t)) := rfl
  have hb0 : Below w.heap.size w (w.alloc (.cells #[.int .i64 (Kd.sort t), c1, c2] 25)) := (Below.refl _ _).alloc (Nat.le_refl _) _
  have h3' := h3.keep (same_below hb0 hB) (fun _ h => h)
  have h4' := h4.keepK (same_below hb0 hB) (fun _ h => h)
  have hbd := leftB_le (szN (Kd.names t)) left (by omega)
  clear h3 h4
  go_enter Tryd.func4, Tryd.ntmps4
  go_wp2_with fail
  refine (szStringS_any S _ _ _ _ h3' (by omega) (by omega)).mono ?_
  rintro e w1 ⟨rfl, rfl⟩
  generalize hm : leftB (szN (Kd.names t)) left = m at *
  have HM : Hid (leftB (szN (Kd.names t)) left = m) := hm
  clear hm
  by_cases hm0 : m < 0
  · go_wp2_with fail
    go_ret
    refine ⟨ret_int ?_, hb0⟩
    rw [HT.out, ← leftB_add, HM.out, leftB, if_neg (by omega)]
  · go_wp2_with fail
    refine (szKindS_any n hn S _ _ _ _ h4' (fun b hb => by have := hB b hb; simp; omega) (by omega) (by omega)).mono ?_
    rintro e w1 ⟨rfl, hb1⟩
    have hb2 := below_step hb0 (by simp) hb1
    have hbd2 := leftB_le (sumL (fun k => szK n k + 1) (Kd.kids t)) m (by omega)
    have HF : Hid (leftB (sumL (fun k => szK n k + 1) (Kd.kids t)) m = leftB (szK (n + 1) t) left) := by
      show _ = _
      rw [HT.out, ← leftB_add, HM.out]
    clear hb0 hb1 h3' h4' HM HT
    rw [HF.out]
    rw [HF.out] at hbd2
    generalize hq : leftB (szK (n + 1) t) left = q at *
    have HQ : Hid (leftB (szK (n + 1) t) left = q) := hq
    clear hq HF
    go_wp2_with fail
    · go_ret
      exact ⟨ret_int (by rw [HQ.out]; omega), hb2⟩
    · go_ret
      exact ⟨ret_int HQ.out.symm, hb2⟩

theorem szKind_any : ∀ n, SzKSaid n := by
  intro n
  induction n with
  | zero => intro S t c0 c1 c2 left w ht; exact ht.elim
  | succ n ih => exact szKind_step n ih

end Go.Proofs.YtamkblgldlkooaaDoor
