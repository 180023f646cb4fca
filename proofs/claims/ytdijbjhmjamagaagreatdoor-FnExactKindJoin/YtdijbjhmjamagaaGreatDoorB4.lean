/-
  Several texts in one, in their order.
-/
import Derived.Test.YtdijbjhmjamagaaGreatDoorB1

/-
  The measure of the laws on schemas: what szKindS and szKind answer.
-/
namespace Go.Proofs.YtdijbjhmjamagaaGreatDoor
open Go.RowKit

/-- szKind at schemas of at most n levels. -/
def SzKSaid (n : Nat) : Prop := ∀ (S : Nat → Prop) (t : K n) (c0 c1 c2 : Value) (left : Int) (w : World), KindIn S w n t c0 c1 c2 → (∀ b, S b → b < w.heap.size) → -1 ≤ left → left ≤ 1048576 →
  Calls Tryz.prog 12 #[.agg #[c0, c1, c2], .int .i64 left] w fun e w' => e = .returned (.int .i64 (leftB (szK n t) left)) ∧ Below w.heap.size w w'

set_option maxHeartbeats 400000 in
theorem szKindS_any (n : Nat) (hn : SzKSaid n) (S : Nat → Prop) (l : List (K n)) (v : Value) (left : Int) (w : World) (hl : RowIn3 S w (KindIn S w n) l v) (hB : ∀ b, S b → b < w.heap.size) (h0 : -1 ≤ left) (h1 : left ≤ 1048576) :
    Calls Tryz.prog 33 #[v, .int .i64 left] w fun e w' => e = .returned (.int .i64 (leftB (sumL (fun k => szK n k + 1) l) left)) ∧ Below w.heap.size w w' := by
  obtain ⟨ao, cap, rfl, hlen, hc⟩ := hl
  unfold maxLen at hlen
  by_cases hneg : left - l.length < 0
  · go_enter Tryz.func33, Tryz.ntmps33
    go_wp2
    go_ret
    exact ⟨ret_int (by rw [leftB, sumL_one, if_neg (by omega)]), Below.refl _ _⟩
  go_enter Tryz.func33, Tryz.ntmps33
  go_wp2
  go_loopw [1, 5] (fun a i wr => ∃ k : Nat, k ≤ l.length ∧ i = .int .i64 k ∧ a = .int .i64 (leftK (szK n) l k left) ∧ 0 ≤ leftK (szK n) l k left ∧ Below w.heap.size w wr) (fun _ i _ => l.length - (intOf i).toNat)
  case atStart =>
    have e : leftK (szK n) l 0 left = left - l.length := by simp [leftK, leftB, sumL]; omega
    exact ⟨0, Nat.zero_le _, rfl, by rw [e], by rw [e]; omega, Below.refl _ _⟩
  case round =>
    obtain ⟨k, hk, rfl, rfl, hpos, hbel⟩ := hrel
    have hub := (leftB_le (l.length + sumL (szK n) (l.take k)) left h1).2
    change leftK (szK n) l k left ≤ 1048576 at hub
    by_cases hlt : k < l.length
    · obtain ⟨b, off, rfl, hbB, hcell⟩ := hc (by intro h; rw [h] at hlt; simp at hlt)
      obtain ⟨d0, d1, d2, e0, e1, e2, hr⟩ := hcell k hlt
      have f0 := (hbel.cell (p := ⟨b, off + k * 3, none⟩) (hB b hbB)).trans e0
      have f1 := (hbel.cell (p := ⟨b, off + k * 3 + 1, none⟩) (hB b hbB)).trans e1
      have f2 := (hbel.cell (p := ⟨b, off + k * 3 + 2, none⟩) (hB b hbB)).trans e2
      clear hc hcell e0 e1 e2
      have hr' := hr.keep (same_below hbel hB) (fun _ h => h)
      have hsz := hbel.size
      have HL : Hid (leftK (szK n) l (k + 1) left = leftB (szK n l[k]) (leftK (szK n) l k left)) := leftK_succ _ _ _ _ hlt
      have HM : Hid (leftK (szK n) l (k + 1) left = -1 → leftB (sumL (fun k => szK n k + 1) l) left = -1) := by
        intro hm
        have := sumL_append (szK n) (l.take (k + 1)) (l.drop (k + 1))
        rw [List.take_append_drop] at this
        rw [sumL_one]
        unfold leftK leftB at hm
        unfold leftB
        rw [if_neg]
        intro hle
        rw [if_pos (by omega)] at hm
        omega
      clear hr
      go_wp2_with fail
      refine (hn S l[k] d0 d1 d2 _ wr hr' (fun b hb => Nat.lt_of_lt_of_le (hB b hb) hsz) (by omega) hub).mono ?_
      rintro e w1 ⟨rfl, hb1⟩
      rw [← HL.out]
      have hbd := leftB_le (szK n l[k]) (leftK (szK n) l k left) hub
      rw [← HL.out] at hbd
      have hbel1 := hbel.trans (hb1.mono hsz)
      clear HL hb1 f0 f1 f2 hr' hbel
      generalize hm : leftK (szK n) l (k + 1) left = m at *
      have Hm := hm
      have HM2 : Hid (m = -1 → leftB (sumL (fun k => szK n k + 1) l) left = -1) := HM
      have HE : Hid (leftK (szK n) l (k + 1) left = m) := hm
      clear HM hm Hm
      go_wp2_with fail
      · go_ret
        refine ⟨ret_int ?_, hbel1⟩
        rw [HM2.out (by omega)]
      · go_roundw
        case rel => exact ⟨k + 1, by omega, by go_num, by rw [HE.out], by rw [HE.out]; omega, hbel1⟩
        case measure => simp [intOf]; omega
    · have hkl : k = l.length := by omega
      have HE : Hid (leftK (szK n) l k left = leftB (sumL (fun k => szK n k + 1) l) left) := by
        show _ = _
        unfold leftK; rw [sumL_one, hkl, List.take_length]
      clear hkl hc
      go_wp2_with fail
      go_ret
      exact ⟨ret_int HE.out, hbel⟩

set_option maxHeartbeats 400000 in
theorem szKind_step (n : Nat) (hn : SzKSaid n) : SzKSaid (n + 1) := by
  intro S t c0 c1 c2 left w ht hB h0 h1
  obtain ⟨rfl, -, h3, h4⟩ := ht
  have HT : Hid (szK (n + 1) t = szN (Kd.names t) + sumL (fun k => szK n k + 1) (Kd.kids t)) := rfl
  have hb0 : Below w.heap.size w (w.alloc (.cells #[.int .i64 (Kd.sort t), c1, c2] 36)) := (Below.refl _ _).alloc (Nat.le_refl _) _
  have h3' := h3.keep (same_below hb0 hB) (fun _ h => h)
  have h4' := h4.keepK (same_below hb0 hB) (fun _ h => h)
  have hbd := leftB_le (szN (Kd.names t)) left (by omega)
  clear h3 h4
  go_enter Tryz.func12, Tryz.ntmps12
  go_wp2_with fail
  refine (szStringS_any S _ _ _ _ h3' (by omega) (by omega)).mono ?_
  rintro e w1 ⟨rfl, rfl⟩
  generalize hm : leftB (szN (Kd.names t)) left = m at *
  have HM : Hid (leftB (szN (Kd.names t)) left = m) := hm
  clear hm
  by_cases hm0 : m < 0
  · go_wp2_with fail
    go_ret
    refine ⟨ret_int ?_, hb0⟩
    rw [HT.out, ← leftB_add, HM.out, leftB, if_neg (by omega)]
  · go_wp2_with fail
    refine (szKindS_any n hn S _ _ _ _ h4' (fun b hb => by have := hB b hb; simp; omega) (by omega) (by omega)).mono ?_
    rintro e w1 ⟨rfl, hb1⟩
    have hb2 := below_step hb0 (by simp) hb1
    have hbd2 := leftB_le (sumL (fun k => szK n k + 1) (Kd.kids t)) m (by omega)
    have HF : Hid (leftB (sumL (fun k => szK n k + 1) (Kd.kids t)) m = leftB (szK (n + 1) t) left) := by
      show _ = _
      rw [HT.out, ← leftB_add, HM.out]
    clear hb0 hb1 h3' h4' HM HT
    rw [HF.out]
    rw [HF.out] at hbd2
    generalize hq : leftB (szK (n + 1) t) left = q at *
    have HQ : Hid (leftB (szK (n + 1) t) left = q) := hq
    clear hq HF
    go_wp2_with fail
    · go_ret
      exact ⟨ret_int (by rw [HQ.out]; omega), hb2⟩
    · go_ret
      exact ⟨ret_int HQ.out.symm, hb2⟩

theorem szKind_any : ∀ n, SzKSaid n := by
  intro n
  induction n with
  | zero => intro S t c0 c1 c2 left w ht; exact ht.elim
  | succ n ih => exact szKind_step n ih

end Go.Proofs.YtdijbjhmjamagaaGreatDoor

/-
  The copies that the laws make: what toStringS, toTreeS and toTree answer.
-/
namespace Go.Proofs.YtdijbjhmjamagaaGreatDoor
open Go.RowKit

theorem Tryz.info_str : (Tryz.prog.info? 9).map (fun i => (i.zero, i.size, i.bytes)) = some (some (.string ByteArray.empty), 1, 16) := by kernel_rfl

set_option maxHeartbeats 400000 in
theorem toStringS_any (S : Nat → Prop) (l : List ByteArray) (v : Value) (w : World) (hl : StrsIn S w l v) (hB : ∀ b, S b → b < w.heap.size) (hsz : szN l ≤ 1048576) :
    Calls Tryz.prog 34 #[v] w fun e w' => ∃ v', e = .returned v' ∧ StrsIn (fun b => w.heap.size ≤ b ∧ b < w'.heap.size) w' l v' ∧ Below w.heap.size w w' := by
  obtain ⟨ao, cap, rfl, hlen, hs, hc⟩ := hl
  have hlN := szN_length l
  have hmk := run_make_row' (P := Tryz.prog) 23 9 (.string ByteArray.empty) 16 Tryz.underlying23 Tryz.info_str rfl .i64 .i64 l.length (by omega) (by omega)
  go_enter Tryz.func34, Tryz.ntmps34
  go_wp2
  go_loopw [4] (fun i wr => ∃ k : Nat, k ≤ l.length ∧ i = .int .i64 k ∧ wr.rowIs w.heap.size 9 l.length (fun j => if j < k then .string (l.getD j ByteArray.empty) else .string ByteArray.empty) ∧ Below w.heap.size w wr)
    (fun i _ => l.length - (intOf i).toNat)
  case atStart =>
    exact ⟨0, Nat.zero_le _, rfl, (World.rowIs_made _ _ _ _).congr (fun i _ => by simp), (Below.refl _ _).alloc (Nat.le_refl _) _⟩
  case round =>
    obtain ⟨k, hk, rfl, hrow, hbel⟩ := hrel
    by_cases hlt : k < l.length
    · obtain ⟨b, off, rfl, hbB, hcell⟩ := hc (by intro h; rw [h] at hlt; simp at hlt)
      have f0 := (hbel.cell (p := ⟨b, off + k, none⟩) (hB b hbB)).trans (hcell k hlt)
      have f1 := hrow.cell hlt
      have f2 := hrow.frozen k
      have HR : Hid ((wr.setCell ⟨w.heap.size, k, none⟩ (.string l[k])).rowIs w.heap.size 9 l.length (fun j => if j < k + 1 then .string (l.getD j ByteArray.empty) else .string ByteArray.empty)) := by
        refine (hrow.set k (.string l[k])).congr fun i hi => ?_
        by_cases h1 : i = k
        · subst h1; simp [hlt]
        · by_cases h2 : i < k
          · rw [if_neg h1, if_pos h2, if_pos (by omega)]
          · rw [if_neg h1, if_neg h2, if_neg (by omega)]
      have HB : Hid (Below w.heap.size w (wr.setCell ⟨w.heap.size, k, none⟩ (.string l[k]))) := hbel.setCell (Nat.le_refl _) _
      clear hc hcell hrow hbel hmk
      go_wp2
      go_roundw
      case rel => exact ⟨k + 1, by omega, by go_num, HR.out, HB.out⟩
      case measure => simp [intOf]; omega
    · have hkl : k = l.length := by omega
      have HF : Hid (StrsIn (fun b => w.heap.size ≤ b ∧ b < wr.heap.size) wr l (.slice (some ⟨w.heap.size, 0, none⟩) l.length l.length)) := by
        refine ⟨_, _, rfl, hlen, hs, fun _ => ⟨w.heap.size, 0, rfl, ⟨Nat.le_refl _, hrow.lt⟩, fun i hi => ?_⟩⟩
        have := hrow.cell hi
        rw [if_pos (by omega)] at this
        simpa [List.getD, hi] using this
      clear hkl hc hs hrow hmk
      go_wp2
      go_ret
      exact ⟨_, rfl, HF.out, hbel⟩

end Go.Proofs.YtdijbjhmjamagaaGreatDoor

/-
  The program's own function on a form's names: areFormNames.
-/
namespace Go.Proofs.YtdijbjhmjamagaaGreatDoor
open Go.RowKit

set_option maxHeartbeats 1000000 in
theorem areFormNames_any (S : Nat → Prop) (l : List ByteArray) (v : Value) (w : World) (hl : StrsIn S w l v) :
    Calls Tryz.prog 82 #[v] w fun e w' => e = .returned (.bool (riseB l)) ∧ w' = w := by
  obtain ⟨ao, cap, rfl, hlen, hs, hc⟩ := hl
  unfold maxLen at hlen
  go_enter Tryz.func82, Tryz.ntmps82
  go_wp2_with fail
  go_loop [7] (fun i => ∃ k : Nat, k ≤ l.length ∧ i = .int .i64 k ∧ riseTo l k = true) (fun i => l.length - (intOf i).toNat)
  case atStart => exact ⟨0, Nat.zero_le _, rfl, by simp [riseTo]⟩
  case round =>
    obtain ⟨k, hk, rfl, hall⟩ := hrel
    have HA : Hid (riseTo l k = true) := hall
    clear hall
    by_cases hlt : k < l.length
    · obtain ⟨b, off, rfl, hbB, hcell⟩ := hc (by intro h; rw [h] at hlt; simp at hlt)
      have f0 := hcell k hlt
      have hsk := hs l[k] (List.getElem_mem hlt)
      have hgk : l.getD k ByteArray.empty = l[k] := by simp [List.getD, hlt]
      cases hnm : nameB l[k] with
      | false =>
        have HF : Hid (riseB l = false) := riseTo_false l k hlt (by simp only [riseAt, hgk, hnm, Bool.false_and])
        have HC : Hid (∀ w, Calls Tryz.prog 102 #[.string l[k]] w fun e w' => e = .returned (.bool false) ∧ w' = w) := fun w => by rw [← hnm]; exact isName_any _ w hsk
        clear hc hs hcell hgk hnm
        generalize l[k] = s at *
        go_wp2_with (go_at_call 102; refine (HC.out _).mono ?_; rintro e w' ⟨rfl, rfl⟩)
        go_ret
        exact ⟨bool_ret HF.out.symm, rfl⟩
      | true =>
        have HC : Hid (∀ w, Calls Tryz.prog 102 #[.string l[k]] w fun e w' => e = .returned (.bool true) ∧ w' = w) := fun w => by rw [← hnm]; exact isName_any _ w hsk
        rcases Nat.eq_zero_or_pos k with rfl | hkp
        · have HR : Hid (riseTo l (0 + 1) = true) := by show _ = _; rw [riseTo_succ, HA.out, riseAt, hgk, hnm]; rfl
          clear hc hs hcell hgk hnm
          rw [Nat.add_zero] at f0
          generalize l[0] = s at *
          go_wp2_with (go_at_call 102; refine (HC.out _).mono ?_; rintro e w' ⟨rfl, rfl⟩)
          go_round
          case rel => exact ⟨0 + 1, by omega, by go_num, HR.out⟩
          case measure => simp [intOf]; omega
        · obtain ⟨j, rfl⟩ : ∃ j, k = j + 1 := ⟨k - 1, by omega⟩
          have f1 := hcell j (by omega)
          have hgj : l.getD j ByteArray.empty = l[j] := by simp [List.getD, show j < l.length by omega]
          cases hlt' : ltB l[j] l[j + 1] with
          | false =>
            have HF : Hid (riseB l = false) := riseTo_false l (j + 1) hlt (by simp only [riseAt, hgk, Nat.add_sub_cancel, hgj, hlt']; simp)
            unfold ltB at hlt'
            clear hc hs hcell hgk hgj hnm
            generalize l[j] = r at *
            generalize l[j + 1] = s at *
            go_wp2_with (go_at_call 102; refine (HC.out _).mono ?_; rintro e w' ⟨rfl, rfl⟩)
            go_ret
            exact ⟨bool_ret HF.out.symm, rfl⟩
          | true =>
            have HR : Hid (riseTo l (j + 1 + 1) = true) := by show _ = _; rw [riseTo_succ, HA.out, riseAt, hgk, hnm, Nat.add_sub_cancel, hgj, hlt']; simp
            unfold ltB at hlt'
            clear hc hs hcell hgk hgj hnm
            generalize l[j] = r at *
            generalize l[j + 1] = s at *
            go_wp2_with (go_at_call 102; refine (HC.out _).mono ?_; rintro e w' ⟨rfl, rfl⟩)
            go_round
            case rel => exact ⟨j + 1 + 1, by omega, by go_num, HR.out⟩
            case measure => simp [intOf]; omega
    · have HF : Hid (riseB l = true) := by show _ = _; rw [riseB, show l.length = k by omega]; exact HA.out
      clear hc hs
      go_wp2_with fail
      go_ret
      exact ⟨bool_ret HF.out.symm, rfl⟩

end Go.Proofs.YtdijbjhmjamagaaGreatDoor

/-
  The program's own function on one node of a schema: hasJustItsKids.
-/
namespace Go.Proofs.YtdijbjhmjamagaaGreatDoor
open Go.RowKit

set_option maxRecDepth 100000 in
set_option maxHeartbeats 2000000 in
theorem justK_leaf (s : Int) (l : List ByteArray) (ka : Option Addr) (kl kc : Nat) (w : World) (na : Option Addr) (nc : Nat) (hs : s = 1 ∨ s = 2 ∨ s = 3) :
    Calls Tryz.prog 57 #[.agg #[.int .i64 s, .slice na l.length nc, .slice ka kl kc]] w fun e w' => e = .returned (.bool (((l.length : Int) == 0) && ((kl : Int) == 0))) ∧ Below w.heap.size w w' := by
  rcases hs with rfl | rfl | rfl
  all_goals
    go_enter Tryz.func57, Tryz.ntmps57
    go_wp2_with fail
    all_goals
      go_ret
      exact ⟨bool_ret (by simp_all), (Below.refl _ _).alloc (Nat.le_refl _) _⟩

set_option maxRecDepth 100000 in
set_option maxHeartbeats 2000000 in
theorem justK_one (s : Int) (l : List ByteArray) (ka : Option Addr) (kl kc : Nat) (w : World) (na : Option Addr) (nc : Nat) (hs : s = 4 ∨ s = 6) :
    Calls Tryz.prog 57 #[.agg #[.int .i64 s, .slice na l.length nc, .slice ka kl kc]] w fun e w' => e = .returned (.bool (((l.length : Int) == 0) && ((kl : Int) == 1))) ∧ Below w.heap.size w w' := by
  rcases hs with rfl | rfl
  all_goals
    go_enter Tryz.func57, Tryz.ntmps57
    go_wp2_with fail
    all_goals
      go_ret
      exact ⟨bool_ret (by simp_all), (Below.refl _ _).alloc (Nat.le_refl _) _⟩

set_option maxRecDepth 100000 in
set_option maxHeartbeats 2000000 in
theorem justK_form (l : List ByteArray) (ka : Option Addr) (kl kc : Nat) (w : World) (na : Option Addr) (nc : Nat) (S : Nat → Prop) (hl : StrsIn S w l (.slice na l.length nc)) (hB : ∀ b, S b → b < w.heap.size) :
    Calls Tryz.prog 57 #[.agg #[.int .i64 5, .slice na l.length nc, .slice ka kl kc]] w fun e w' => e = .returned (.bool (((l.length : Int) == (kl : Int)) && riseB l)) ∧ Below w.heap.size w w' := by
  by_cases hk : l.length = kl
  · subst hk
    have hb0 := (Below.refl w.heap.size w).alloc (Nat.le_refl _) (.cells #[.int .i64 5, .slice na l.length nc, .slice ka l.length kc] 26)
    have hl' := hl.keep (same_below hb0 hB) (fun _ h => h)
    have HC : Hid (Calls Tryz.prog 82 #[.slice na l.length nc] _ _) := areFormNames_any S l _ _ hl'
    have hk : ((l.length : Int) == (l.length : Int)) = true := by simp
    clear hl hl' hB
    go_enter Tryz.func57, Tryz.ntmps57
    go_wp2_with fail
    refine HC.out.mono ?_
    rintro e w' ⟨rfl, rfl⟩
    go_wp2_with fail
    go_ret
    exact ⟨by simp, hb0⟩
  · have hk' : ((l.length : Int) == (kl : Int)) = false := by simp; omega
    rw [hk']
    clear hk
    go_enter Tryz.func57, Tryz.ntmps57
    go_wp2_with fail
    go_ret
    exact ⟨rfl, (Below.refl _ _).alloc (Nat.le_refl _) _⟩

set_option maxRecDepth 100000 in
set_option maxHeartbeats 2000000 in
theorem justK_other (s : Int) (l : List ByteArray) (ka : Option Addr) (kl kc : Nat) (w : World) (na : Option Addr) (nc : Nat)
    (h1 : (s == 1) = false) (h2 : (s == 2) = false) (h3 : (s == 3) = false) (h4 : (s == 4) = false) (h5 : (s == 5) = false) (h6 : (s == 6) = false) :
    Calls Tryz.prog 57 #[.agg #[.int .i64 s, .slice na l.length nc, .slice ka kl kc]] w fun e w' => e = .returned (.bool false) ∧ Below w.heap.size w w' := by
  have hb0 := (Below.refl w.heap.size w).alloc (Nat.le_refl _) (.cells #[.int .i64 s, .slice na l.length nc, .slice ka kl kc] 26)
  go_enter Tryz.func57, Tryz.ntmps57
  go_wp2_with fail
  go_ret
  exact ⟨rfl, hb0⟩

theorem justK_any (s : Int) (l : List ByteArray) (ka : Option Addr) (kl kc : Nat) (w : World) (na : Option Addr) (nc : Nat)
    (S : Nat → Prop) (hl : StrsIn S w l (.slice na l.length nc)) (hB : ∀ b, S b → b < w.heap.size) :
    Calls Tryz.prog 57 #[.agg #[.int .i64 s, .slice na l.length nc, .slice ka kl kc]] w fun e w' => e = .returned (.bool (aloneKF s l kl)) ∧ Below w.heap.size w w' := by
  unfold aloneKF
  by_cases h1 : s = 1
  · subst h1; rw [if_pos rfl]; exact justK_leaf 1 l ka kl kc w na nc (.inl rfl)
  rw [if_neg h1]
  by_cases h2 : s = 2
  · subst h2; rw [if_pos rfl]; exact justK_leaf 2 l ka kl kc w na nc (.inr (.inl rfl))
  rw [if_neg h2]
  by_cases h3 : s = 3
  · subst h3; rw [if_pos rfl]; exact justK_leaf 3 l ka kl kc w na nc (.inr (.inr rfl))
  rw [if_neg h3]
  by_cases h4 : s = 4
  · subst h4; rw [if_pos rfl]; exact justK_one 4 l ka kl kc w na nc (.inl rfl)
  rw [if_neg h4]
  by_cases h5 : s = 5
  · subst h5; rw [if_pos rfl]; exact justK_form l ka kl kc w na nc S hl hB
  rw [if_neg h5]
  by_cases h6 : s = 6
  · subst h6; rw [if_pos rfl]; exact justK_one 6 l ka kl kc w na nc (.inr rfl)
  rw [if_neg h6]
  exact justK_other s l ka kl kc w na nc (by simp [h1]) (by simp [h2]) (by simp [h3]) (by simp [h4]) (by simp [h5]) (by simp [h6])

end Go.Proofs.YtdijbjhmjamagaaGreatDoor
