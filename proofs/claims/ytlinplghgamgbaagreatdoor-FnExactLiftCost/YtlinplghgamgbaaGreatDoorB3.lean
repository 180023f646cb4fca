/-
  Several texts in one, in their order.
-/
import Derived.Test.YtlinplghgamgbaaGreatDoorB1
import Derived.Deep.RegionWith
import Derived.Deep.QuietTactic
import Derived.BigQuiet

/-
  The specification's own functions on names: l6In, l6NameOk, l1Rise.
-/
namespace Go.Proofs.YtlinplghgamgbaaGreatDoor
open Go.RowKit

theorem ret_bool {a b : Bool} (h : a = b) : Ending.returned (.bool a) = .returned (.bool b) := by rw [h]

set_option maxHeartbeats 400000 in
theorem l6In_any (x a b : Int) (w : World) : Calls Tryz.prog 45 #[.int .i64 x, .int .i64 a, .int .i64 b] w fun e w' => e = .returned (.bool (decide (a ≤ x ∧ x ≤ b))) ∧ w' = w := by
  by_cases h : a ≤ x <;> by_cases h2 : x ≤ b
  all_goals
    go_enter Tryz.func45, Tryz.ntmps45
    go_wp2
    go_ret
    exact ⟨ret_bool (by simp [h, h2]; try omega), rfl⟩

set_option maxHeartbeats 400000 in
theorem l6NameOk_any (s : ByteArray) (w : World) (hs : s.size ≤ maxLen) : Calls Tryz.prog 49 #[.string s] w fun e w' => e = .returned (.bool (nameB s)) ∧ w' = w := by
  unfold maxLen at hs
  by_cases hl : 1 ≤ s.size ∧ s.size ≤ 8
  · obtain ⟨hl1, hl2⟩ := hl
    have hd : decide ((1 : Int) ≤ (s.size : Int) ∧ (s.size : Int) ≤ 8) = true := decide_eq_true ⟨by omega, by omega⟩
    have hhd : s.data.toList.headD 0 = s[0] := by
      cases hx : s.data.toList with
      | nil => have := congrArg List.length hx; simp at this; simp [this] at hl1
      | cons a r => simp [ByteArray.getElem_eq_getElem_data, ← Array.getElem_toList, hx]
    cases hu : upByte s[0] with
    | false =>
      have HF : Hid (nameB s = false) := by show _ = _; rw [nameB, hhd, hu]; simp
      unfold upByte at hu
      rw [decide_eq_false_iff_not] at hu
      clear hhd
      go_enter Tryz.func49, Tryz.ntmps49
      go_wp2_with (go_at_call 45; refine (l6In_any _ _ _ _).mono ?_; rintro e w' ⟨rfl, rfl⟩; rw [hd])
      all_goals
        go_ret
        exact ⟨ret_bool HF.out.symm, rfl⟩
    | true =>
      have HH : Hid (s.data.toList.headD 0 = s[0] ∧ upByte s[0] = true) := ⟨hhd, hu⟩
      unfold upByte at hu
      rw [decide_eq_true_eq] at hu
      obtain ⟨hu1, hu2⟩ := hu
      clear hhd
      go_enter Tryz.func49, Tryz.ntmps49
      go_wp2_with (go_at_call 45; refine (l6In_any _ _ _ _).mono ?_; rintro e w' ⟨rfl, rfl⟩; rw [hd])
      go_loop [3] (fun i => ∃ k : Nat, k ≤ s.size ∧ i = .int .i64 k ∧ (s.data.toList.take k).all nmByte = true) (fun i => s.size - (intOf i).toNat)
      case atStart => exact ⟨0, Nat.zero_le _, rfl, by simp⟩
      case round =>
        obtain ⟨k, hk, rfl, hall⟩ := hrel
        have HA := hidF hall
        clear hall
        by_cases hlt : k < s.size
        · cases hb : nmByte s[k] with
          | true =>
            have HB : Hid (nmByte s[k] = true) := hb
            unfold nmByte at hb
            rw [decide_eq_true_eq] at hb
            rcases hb with ⟨h1, h2⟩ | ⟨h1, h2⟩
            all_goals
              go_wp2
              go_round
              case rel => exact ⟨k + 1, by omega, by go_num, all_take_succ k hlt HA.out HB.out⟩
              case measure => simp [intOf]; omega
          | false =>
            have HF : Hid (nameB s = false) := by show _ = _; rw [nameB, all_false_at k hlt hb]; simp
            unfold nmByte at hb
            rw [decide_eq_false_iff_not] at hb
            rcases (show (s[k].toNat : Int) < 48 ∨ (57 < (s[k].toNat : Int) ∧ (s[k].toNat : Int) < 97) ∨ 122 < (s[k].toNat : Int) by omega) with h1 | ⟨h1, h2⟩ | h1
            all_goals
              clear hb
              go_wp2
              all_goals first
                | (go_ret; exact ⟨ret_bool HF.out.symm, rfl⟩)
                | (exfalso; rename_i h; simp at h; omega)
        · have HF : Hid (nameB s = true) := by show _ = _; rw [nameB, HH.out.1, HH.out.2, all_take_all k (by omega) HA.out]; simp [hl1, hl2]
          go_wp2
          go_ret
          exact ⟨ret_bool HF.out.symm, rfl⟩
  · have hd : decide ((1 : Int) ≤ (s.size : Int) ∧ (s.size : Int) ≤ 8) = false := decide_eq_false (by omega)
    have HF : Hid (nameB s = false) := by show _ = _; rw [nameB, decide_eq_false hl]; simp
    go_enter Tryz.func49, Tryz.ntmps49
    go_wp2_with (go_at_call 45; refine (l6In_any _ _ _ _).mono ?_; rintro e w' ⟨rfl, rfl⟩; rw [hd])
    go_ret
    exact ⟨ret_bool HF.out.symm, rfl⟩

set_option maxHeartbeats 1000000 in
theorem l1Rise_any (S : Nat → Prop) (l : List ByteArray) (v : Value) (w : World) (hl : StrsIn S w l v) (hB : ∀ b, S b → b < w.heap.size) :
    Calls Tryz.prog 46 #[v] w fun e w' => e = .returned (.bool (riseB l)) ∧ Below w.heap.size w w' := by
  obtain ⟨ao, cap, rfl, hlen, hs, hc⟩ := hl
  unfold maxLen at hlen
  go_enter Tryz.func46, Tryz.ntmps46
  go_wp2_with fail
  go_loopw [3] (fun i wr => ∃ k : Nat, k ≤ l.length ∧ i = .int .i64 k ∧ riseTo l k = true ∧ Below w.heap.size w wr) (fun i _ => l.length - (intOf i).toNat)
  case atStart => exact ⟨0, Nat.zero_le _, rfl, by simp [riseTo], Below.refl _ _⟩
  case round =>
    obtain ⟨k, hk, rfl, hall, hbel⟩ := hrel
    have HA : Hid (riseTo l k = true) := hall
    clear hall
    by_cases hlt : k < l.length
    · obtain ⟨b, off, rfl, hbB, hcell⟩ := hc (by intro h; rw [h] at hlt; simp at hlt)
      have f0 := (hbel.cell (p := ⟨b, off + k, none⟩) (hB b hbB)).trans (hcell k hlt)
      have hsk := hs l[k] (List.getElem_mem hlt)
      have hgk : l.getD k ByteArray.empty = l[k] := by simp [List.getD, hlt]
      cases hnm : nameB l[k] with
      | false =>
        have HF : Hid (riseB l = false) := riseTo_false l k hlt (by simp only [riseAt, hgk, hnm, Bool.false_and])
        have HC : Hid (∀ w, Calls Tryz.prog 49 #[.string l[k]] w fun e w' => e = .returned (.bool false) ∧ w' = w) := fun w => by rw [← hnm]; exact l6NameOk_any _ w hsk
        clear hc hs hcell hgk hnm
        generalize l[k] = s at *
        go_wp2_with fail
        go_quiet ((go_at_call 49; exact Calls.quiet_of_same (HC.out _)))
        go_wp2_with fail
        go_ret
        exact ⟨ret_bool HF.out.symm, below_drewN hbel _⟩
      | true =>
        have HC : Hid (∀ w, Calls Tryz.prog 49 #[.string l[k]] w fun e w' => e = .returned (.bool true) ∧ w' = w) := fun w => by rw [← hnm]; exact l6NameOk_any _ w hsk
        rcases Nat.eq_zero_or_pos k with rfl | hkp
        · have HR : Hid (riseTo l (0 + 1) = true) := by show _ = _; rw [riseTo_succ, HA.out, riseAt, hgk, hnm]; rfl
          clear hc hs hcell hgk hnm
          rw [Nat.add_zero] at f0
          generalize l[0] = s at *
          go_wp2_with fail
          go_quiet ((go_at_call 49; exact Calls.quiet_of_same (HC.out _)))
          go_wp2_with fail
          go_roundw
          case rel => exact ⟨0 + 1, by omega, by go_num, HR.out, below_drewN hbel _⟩
          case measure => simp [intOf]; omega
        · obtain ⟨j, rfl⟩ : ∃ j, k = j + 1 := ⟨k - 1, by omega⟩
          have f1 := (hbel.cell (p := ⟨b, off + j, none⟩) (hB b hbB)).trans (hcell j (by omega))
          have hgj : l.getD j ByteArray.empty = l[j] := by simp [List.getD, show j < l.length by omega]
          have hg0 : decide ((0 : Int) < ((j + 1 : Nat) : Int)) = true := decide_eq_true (by omega)
          cases hlt' : ltB l[j] l[j + 1] with
          | false =>
            have HF : Hid (riseB l = false) := riseTo_false l (j + 1) hlt (by simp only [riseAt, hgk, Nat.add_sub_cancel, hgj, hlt']; simp)
            unfold ltB at hlt'
            clear hc hs hcell hgk hgj hnm
            generalize l[j] = r at *
            generalize l[j + 1] = s at *
            go_wp2_with fail
            go_quiet ((go_at_call 49; exact Calls.quiet_of_same (HC.out _)))
            go_wp2_with fail
            go_ret
            exact ⟨ret_bool HF.out.symm, below_drewN hbel _⟩
          | true =>
            have HR : Hid (riseTo l (j + 1 + 1) = true) := by show _ = _; rw [riseTo_succ, HA.out, riseAt, hgk, hnm, Nat.add_sub_cancel, hgj, hlt']; simp
            unfold ltB at hlt'
            clear hc hs hcell hgk hgj hnm
            generalize l[j] = r at *
            generalize l[j + 1] = s at *
            go_wp2_with fail
            go_quiet ((go_at_call 49; exact Calls.quiet_of_same (HC.out _)))
            go_wp2_with fail
            go_roundw
            case rel => exact ⟨j + 1 + 1, by omega, by go_num, HR.out, below_drewN hbel _⟩
            case measure => simp [intOf]; omega
    · have HF : Hid (riseB l = true) := by show _ = _; rw [riseB, show l.length = k by omega]; exact HA.out
      clear hc hs
      go_wp2_with fail
      go_ret
      exact ⟨ret_bool HF.out.symm, hbel⟩

end Go.Proofs.YtlinplghgamgbaaGreatDoor

/-
  The specification's own functions on texts of trees: l1TextOk.
-/
namespace Go.Proofs.YtlinplghgamgbaaGreatDoor
open Go.RowKit

set_option maxHeartbeats 400000 in
theorem l1TextOk_any (s : ByteArray) (w : World) (hs : s.size ≤ maxLen) : Calls Tryz.prog 57 #[.string s] w fun e w' => e = .returned (.bool (textB s)) ∧ w' = w := by
  unfold maxLen at hs
  by_cases hl : s.size ≤ 60
  · go_enter Tryz.func57, Tryz.ntmps57
    go_wp2
    go_loop [3] (fun i => ∃ k : Nat, k ≤ s.size ∧ i = .int .i64 k ∧ (s.data.toList.take k).all okByte = true) (fun i => s.size - (intOf i).toNat)
    case atStart => exact ⟨0, Nat.zero_le _, rfl, by simp⟩
    case round =>
      obtain ⟨k, hk, rfl, hall⟩ := hrel
      have HA := hidF hall
      clear hall
      by_cases hlt : k < s.size
      · cases hb : okByte s[k] with
        | true =>
          have HB : Hid (okByte s[k] = true) := hb
          unfold okByte at hb
          rw [decide_eq_true_eq] at hb
          obtain ⟨h1, h2, h3⟩ := hb
          have h3' : ((s[k].toNat : Int) == 34) = false := by simpa using h3
          clear h3
          go_wp2
          go_round
          case rel => exact ⟨k + 1, by omega, by go_num, all_take_succ k hlt HA.out HB.out⟩
          case measure => simp [intOf]; omega
        | false =>
          have HF : Hid (textB s = false) := by show _ = _; rw [textB, all_false_at k hlt hb]; simp
          unfold okByte at hb
          rw [decide_eq_false_iff_not] at hb
          go_wp2
          all_goals first
            | (go_ret; exact ⟨ret_bool HF.out.symm, rfl⟩)
            | (exfalso; apply hb; simp_all)
      · have HF : Hid (textB s = true) := by show _ = _; rw [textB, all_take_all k (by omega) HA.out]; simp [hl]
        go_wp2
        go_ret
        exact ⟨ret_bool HF.out.symm, rfl⟩
  · go_enter Tryz.func57, Tryz.ntmps57
    go_wp2
    go_ret
    exact ⟨ret_bool (by simp [textB, hl]), rfl⟩

end Go.Proofs.YtlinplghgamgbaaGreatDoor

/-
  The specification's own functions on trees, more: l1Alone, l1Parts, TreeOk, TreeParts.
-/
namespace Go.Proofs.YtlinplghgamgbaaGreatDoor
open Go.RowKit

set_option maxRecDepth 100000 in
set_option maxHeartbeats 1000000 in
theorem l1Alone_1 (m : Int) (x : ByteArray) (l : List ByteArray) (ka : Option Addr) (kl kc : Nat) (w : World) (na : Option Addr) (nc : Nat) :
    Calls Tryz.prog 52 #[.agg #[.int .i64 1, .int .i64 m, .string x, .slice na l.length nc, .slice ka kl kc]] w fun e w' => e = .returned (.bool (decide (-999999999 ≤ m ∧ m ≤ 999999999) && x.toList.isEmpty && ((l.length : Int) == 0) && ((kl : Int) == 0))) ∧ Below w.heap.size w w' := by
  generalize hd : decide (-999999999 ≤ m ∧ m ≤ 999999999) = A
  have HA := hidF hd
  clear hd
  go_enter Tryz.func52, Tryz.ntmps52
  go_wp2_with (go_at_call 45; refine (l6In_any _ _ _ _).mono ?_; rintro e w' ⟨rfl, rfl⟩; rw [HA.out])
  all_goals
    go_ret
    exact ⟨ret_bool (by simp_all), (Below.refl _ _).alloc (Nat.le_refl _) _⟩


set_option maxRecDepth 100000 in
set_option maxHeartbeats 1000000 in
theorem l1Alone_2 (m : Int) (x : ByteArray) (l : List ByteArray) (ka : Option Addr) (kl kc : Nat) (w : World) (na : Option Addr) (nc : Nat) (hx : x.size ≤ maxLen) :
    Calls Tryz.prog 52 #[.agg #[.int .i64 2, .int .i64 m, .string x, .slice na l.length nc, .slice ka kl kc]] w fun e w' => e = .returned (.bool ((m == 0) && textB x && ((l.length : Int) == 0) && ((kl : Int) == 0))) ∧ Below w.heap.size w w' := by
  generalize hd : textB x = A
  have HA : Hid (textB x = A) := hd
  clear hd
  go_enter Tryz.func52, Tryz.ntmps52
  go_wp2_with (go_at_call 57; refine (l1TextOk_any _ _ hx).mono ?_; rintro e w' ⟨rfl, rfl⟩; rw [HA.out])
  all_goals
    go_ret
    exact ⟨ret_bool (by simp_all), (Below.refl _ _).alloc (Nat.le_refl _) _⟩


set_option maxRecDepth 100000 in
set_option maxHeartbeats 1000000 in
theorem l1Alone_3 (m : Int) (x : ByteArray) (l : List ByteArray) (ka : Option Addr) (kl kc : Nat) (w : World) (na : Option Addr) (nc : Nat) :
    Calls Tryz.prog 52 #[.agg #[.int .i64 3, .int .i64 m, .string x, .slice na l.length nc, .slice ka kl kc]] w fun e w' => e = .returned (.bool (decide (0 ≤ m ∧ m ≤ 1) && x.toList.isEmpty && ((l.length : Int) == 0) && ((kl : Int) == 0))) ∧ Below w.heap.size w w' := by
  generalize hd : decide (0 ≤ m ∧ m ≤ 1) = A
  have HA := hidF hd
  clear hd
  go_enter Tryz.func52, Tryz.ntmps52
  go_wp2_with (go_at_call 45; refine (l6In_any _ _ _ _).mono ?_; rintro e w' ⟨rfl, rfl⟩; rw [HA.out])
  all_goals
    go_ret
    exact ⟨ret_bool (by simp_all), (Below.refl _ _).alloc (Nat.le_refl _) _⟩


set_option maxRecDepth 100000 in
set_option maxHeartbeats 1000000 in
theorem l1Alone_4 (m : Int) (x : ByteArray) (l : List ByteArray) (ka : Option Addr) (kl kc : Nat) (w : World) (na : Option Addr) (nc : Nat) :
    Calls Tryz.prog 52 #[.agg #[.int .i64 4, .int .i64 m, .string x, .slice na l.length nc, .slice ka kl kc]] w fun e w' => e = .returned (.bool ((m == 0) && x.toList.isEmpty && ((l.length : Int) == 0) && decide ((kl : Int) ≤ 20))) ∧ Below w.heap.size w w' := by
  go_enter Tryz.func52, Tryz.ntmps52
  go_wp2_with fail
  all_goals
    go_ret
    exact ⟨ret_bool (by simp_all), (Below.refl _ _).alloc (Nat.le_refl _) _⟩


set_option maxRecDepth 100000 in
set_option maxHeartbeats 1000000 in
theorem l1Alone_5 (m : Int) (x : ByteArray) (l : List ByteArray) (ka : Option Addr) (kl kc : Nat) (w : World) (na : Option Addr) (nc : Nat) (S : Nat → Prop) (hl : StrsIn S w l (.slice na l.length nc)) (hB : ∀ b, S b → b < w.heap.size) :
    Calls Tryz.prog 52 #[.agg #[.int .i64 5, .int .i64 m, .string x, .slice na l.length nc, .slice ka kl kc]] w fun e w' => e = .returned (.bool ((m == 0) && x.toList.isEmpty && ((l.length : Int) == (kl : Int)) && riseB l)) ∧ Below w.heap.size w w' := by
  by_cases hm : m = 0
  · subst hm
    cases hx : x.toList.isEmpty with
    | false =>
      go_enter Tryz.func52, Tryz.ntmps52
      go_wp2_with fail
      go_ret
      exact ⟨rfl, (Below.refl _ _).alloc (Nat.le_refl _) _⟩
    | true =>
      by_cases hk : l.length = kl
      · subst hk
        have hb0 := (Below.refl w.heap.size w).alloc (Nat.le_refl _) (.cells #[.int .i64 5, .int .i64 0, .string x, .slice na l.length nc, .slice ka l.length kc] 52)
        have hl' := hl.keep (same_below hb0 hB) (fun _ h => h)
        have HC : Hid (Calls Tryz.prog 46 #[.slice na l.length nc] _ _) := l1Rise_any S l _ _ hl' (fun b hb => by have := hB b hb; simp; omega)
        have hk : ((l.length : Int) == (l.length : Int)) = true := by simp
        clear hl hl' hB
        go_enter Tryz.func52, Tryz.ntmps52
        go_wp2_with fail
        refine HC.out.mono ?_
        rintro e w' ⟨rfl, hb1⟩
        go_wp2_with fail
        go_ret
        exact ⟨by simp, below_step hb0 (by simp) hb1⟩
      · have hk' : ((l.length : Int) == (kl : Int)) = false := by simp; omega
        go_enter Tryz.func52, Tryz.ntmps52
        go_wp2_with fail
        go_ret
        exact ⟨ret_bool (by simp [hk']), (Below.refl _ _).alloc (Nat.le_refl _) _⟩
  · have hm' : (m == 0) = false := by simpa using hm
    clear hm
    go_enter Tryz.func52, Tryz.ntmps52
    go_wp2_with fail
    go_ret
    exact ⟨ret_bool (by simp [hm']), (Below.refl _ _).alloc (Nat.le_refl _) _⟩

set_option maxRecDepth 100000 in
set_option maxHeartbeats 1000000 in
theorem l1Alone_6 (m : Int) (x : ByteArray) (l : List ByteArray) (ka : Option Addr) (kl kc : Nat) (w : World) (na : Option Addr) (nc : Nat) :
    Calls Tryz.prog 52 #[.agg #[.int .i64 6, .int .i64 m, .string x, .slice na l.length nc, .slice ka kl kc]] w fun e w' => e = .returned (.bool ((m == 0) && x.toList.isEmpty && ((l.length : Int) == 0) && decide ((kl : Int) ≤ 1))) ∧ Below w.heap.size w w' := by
  go_enter Tryz.func52, Tryz.ntmps52
  go_wp2_with fail
  all_goals
    go_ret
    exact ⟨ret_bool (by simp_all), (Below.refl _ _).alloc (Nat.le_refl _) _⟩


set_option maxRecDepth 100000 in
set_option maxHeartbeats 1000000 in
theorem l1Alone_other (s m : Int) (x : ByteArray) (l : List ByteArray) (ka : Option Addr) (kl kc : Nat) (w : World) (na : Option Addr) (nc : Nat)
    (h1 : (s == 1) = false) (h2 : (s == 2) = false) (h3 : (s == 3) = false) (h4 : (s == 4) = false) (h5 : (s == 5) = false) (h6 : (s == 6) = false) :
    Calls Tryz.prog 52 #[.agg #[.int .i64 s, .int .i64 m, .string x, .slice na l.length nc, .slice ka kl kc]] w fun e w' => e = .returned (.bool false) ∧ Below w.heap.size w w' := by
  have hb0 := (Below.refl w.heap.size w).alloc (Nat.le_refl _) (.cells #[.int .i64 s, .int .i64 m, .string x, .slice na l.length nc, .slice ka kl kc] 52)
  go_enter Tryz.func52, Tryz.ntmps52
  go_wp2_with fail
  go_ret
  exact ⟨rfl, hb0⟩

theorem l1Alone_any (s m : Int) (x : ByteArray) (l : List ByteArray) (ka : Option Addr) (kl kc : Nat) (w : World) (na : Option Addr) (nc : Nat) (hx : x.size ≤ maxLen)
    (S : Nat → Prop) (hl : StrsIn S w l (.slice na l.length nc)) (hB : ∀ b, S b → b < w.heap.size) :
    Calls Tryz.prog 52 #[.agg #[.int .i64 s, .int .i64 m, .string x, .slice na l.length nc, .slice ka kl kc]] w fun e w' => e = .returned (.bool (aloneF s m x l kl)) ∧ Below w.heap.size w w' := by
  unfold aloneF
  by_cases h1 : s = 1
  · subst h1; rw [if_pos rfl]; exact l1Alone_1 m x l ka kl kc w na nc
  rw [if_neg h1]
  by_cases h2 : s = 2
  · subst h2; rw [if_pos rfl]; exact l1Alone_2 m x l ka kl kc w na nc hx
  rw [if_neg h2]
  by_cases h3 : s = 3
  · subst h3; rw [if_pos rfl]; exact l1Alone_3 m x l ka kl kc w na nc
  rw [if_neg h3]
  by_cases h4 : s = 4
  · subst h4; rw [if_pos rfl]; exact l1Alone_4 m x l ka kl kc w na nc
  rw [if_neg h4]
  by_cases h5 : s = 5
  · subst h5; rw [if_pos rfl]; exact l1Alone_5 m x l ka kl kc w na nc S hl hB
  rw [if_neg h5]
  by_cases h6 : s = 6
  · subst h6; rw [if_pos rfl]; exact l1Alone_6 m x l ka kl kc w na nc
  rw [if_neg h6]
  exact l1Alone_other s m x l ka kl kc w na nc (by simp [h1]) (by simp [h2]) (by simp [h3]) (by simp [h4]) (by simp [h5]) (by simp [h6])

end Go.Proofs.YtlinplghgamgbaaGreatDoor

/-
  The specification's own functions on schemas: l2Parts, KindOk.
-/
namespace Go.Proofs.YtlinplghgamgbaaGreatDoor
open Go.RowKit

/-- l2Parts at schemas of at most n levels. -/
def PartsKSaid (n : Nat) : Prop := ∀ (S : Nat → Prop) (t : K n) (c0 c1 c2 : Value) (d : Int) (w : World), KindIn S w n t c0 c1 c2 → (∀ b, S b → b < w.heap.size) → 1 ≤ d → d ≤ 7 →
  Calls Tryz.prog 75 #[.agg #[c0, c1, c2], .int .i64 d] w fun e w' => e = .returned (.int .i64 (partsK n t d)) ∧ Below w.heap.size w w'

theorem aloneKF_cases (s : Int) (l : List ByteArray) (kl : Nat) : (aloneKF s l kl = true ∧ 1 ≤ s ∧ s ≤ 6 ∧ ((s < 4 ∧ l.length = 0 ∧ kl = 0) ∨ (s = 4 ∧ l.length = 0 ∧ kl = 1) ∨ (s = 6 ∧ l.length = 0 ∧ kl = 1) ∨ (s = 5 ∧ l.length = kl ∧ riseB l = true))) ∨
    (aloneKF s l kl = false ∧ (¬ (1 ≤ s ∧ s ≤ 6) ∨ (1 ≤ s ∧ s < 4 ∧ 0 < l.length) ∨ (1 ≤ s ∧ s < 4 ∧ l.length = 0 ∧ 0 < kl) ∨ (s = 4 ∧ 0 < l.length) ∨ (s = 6 ∧ 0 < l.length) ∨ (s = 4 ∧ l.length = 0 ∧ kl ≠ 1) ∨ (s = 6 ∧ l.length = 0 ∧ kl ≠ 1) ∨ (s = 5 ∧ l.length ≠ kl) ∨ (s = 5 ∧ l.length = kl ∧ riseB l = false))) := by
  cases h : aloneKF s l kl with
  | true =>
    refine .inl ⟨rfl, ?_⟩
    unfold aloneKF at h
    by_cases h1 : s = 1
    · subst h1; simp at h; exact ⟨by omega, by omega, .inl ⟨by omega, by simp [h.1], by omega⟩⟩
    rw [if_neg h1] at h
    by_cases h2 : s = 2
    · subst h2; simp at h; exact ⟨by omega, by omega, .inl ⟨by omega, by simp [h.1], by omega⟩⟩
    rw [if_neg h2] at h
    by_cases h3 : s = 3
    · subst h3; simp at h; exact ⟨by omega, by omega, .inl ⟨by omega, by simp [h.1], by omega⟩⟩
    rw [if_neg h3] at h
    by_cases h4 : s = 4
    · subst h4; simp at h; exact ⟨by omega, by omega, .inr (.inl ⟨rfl, by simp [h.1], by omega⟩)⟩
    rw [if_neg h4] at h
    by_cases h5 : s = 5
    · subst h5; simp at h; exact ⟨by omega, by omega, .inr (.inr (.inr ⟨rfl, by omega, h.2⟩))⟩
    rw [if_neg h5] at h
    by_cases h6 : s = 6
    · subst h6; simp at h; exact ⟨by omega, by omega, .inr (.inr (.inl ⟨rfl, by simp [h.1], by omega⟩))⟩
    rw [if_neg h6] at h
    cases h
  | false =>
    refine .inr ⟨rfl, ?_⟩
    by_cases hr : 1 ≤ s ∧ s ≤ 6
    · right
      unfold aloneKF at h
      rcases (show (s = 1 ∨ s = 2 ∨ s = 3) ∨ s = 4 ∨ s = 6 ∨ s = 5 by omega) with hs | hs | hs | hs
      · by_cases hl : l.length = 0
        · refine .inr (.inl ⟨by omega, by omega, hl, ?_⟩)
          rcases hs with hs | hs | hs <;> subst hs <;> simp at h <;> rcases Nat.eq_zero_or_pos kl with h0 | h0
          all_goals first
            | exact h0
            | (exfalso; apply h <;> first | (exact List.eq_nil_of_length_eq_zero hl) | omega)
        · exact .inl ⟨by omega, by omega, by omega⟩
      · subst hs; simp at h
        by_cases hl : l.length = 0
        · exact .inr (.inr (.inr (.inr (.inl ⟨rfl, hl, fun e => h (List.eq_nil_of_length_eq_zero hl) (by omega)⟩))))
        · exact .inr (.inr (.inl ⟨rfl, by omega⟩))
      · subst hs; simp at h
        by_cases hl : l.length = 0
        · exact .inr (.inr (.inr (.inr (.inr (.inl ⟨rfl, hl, fun e => h (List.eq_nil_of_length_eq_zero hl) (by omega)⟩)))))
        · exact .inr (.inr (.inr (.inl ⟨rfl, by omega⟩)))
      · subst hs; simp at h
        by_cases hl : l.length = kl
        · exact .inr (.inr (.inr (.inr (.inr (.inr (.inr ⟨rfl, hl, h (by omega)⟩))))))
        · exact .inr (.inr (.inr (.inr (.inr (.inr (.inl ⟨rfl, hl⟩))))))
    · exact .inl hr

set_option maxRecDepth 100000 in
set_option maxHeartbeats 4000000 in
theorem l2Parts_step (n : Nat) (hn : PartsKSaid n) : PartsKSaid (n + 1) := by
  intro S t c0 c1 c2 d w ht hB hd1 hd7
  obtain ⟨rfl, -, h3, h4⟩ := ht
  obtain ⟨na, nc, rfl, -, -, -⟩ := id h3
  obtain ⟨ka, kc, rfl, hlen, hkids⟩ := id h4
  unfold maxLen at hlen
  generalize hs : Kd.sort t = s at *
  have hb0 := (Below.refl w.heap.size w).alloc (Nat.le_refl _) (.cells #[.int .i64 s, .slice na (Kd.names t).length nc, .slice ka (Kd.kids t).length kc] 70)
  by_cases hd6 : d ≤ 6
  case neg =>
    have HF : Hid (partsK (n + 1) t d = -1) := partsK_no n t d (by simp [hd6])
    clear hs
    go_enter Tryz.func75, Tryz.ntmps75
    go_wp2_with fail
    go_ret
    exact ⟨ret_int HF.out.symm, hb0⟩
  have hl' := h3.keep (same_below hb0 hB) (fun _ h => h)
  have HC : Hid (Calls Tryz.prog 46 _ _ _) := l1Rise_any S (Kd.names t) (.slice na (Kd.names t).length nc) _ hl' (fun b hb => by have := hB b hb; simp; omega)
  have hK := h4.keepK (same_below hb0 hB) (fun _ h => h)
  rcases aloneKF_cases s (Kd.names t) (Kd.kids t).length with ⟨hal, hr1, hr6, hcase⟩ | ⟨hal, hcase⟩
  case inr =>
    have HF : Hid (partsK (n + 1) t d = -1) := partsK_no n t d (by show (_ && aloneKF _ _ _) = _; rw [show (Kd.sort t) = s from hs, hal]; simp)
    clear hal hs h3 h4 hkids hK hl' hn
    generalize (Kd.kids t).length = kl at *
    generalize hln : (Kd.names t).length = ln at *
    have H6 : Hid (∀ w, Calls Tryz.prog 45 #[.int .i64 s, .int .i64 1, .int .i64 6] w fun e w' => e = .returned (.bool (decide (1 ≤ s ∧ s ≤ 6))) ∧ w' = w) := fun w => l6In_any s 1 6 w
    rcases hcase with hc | ⟨hc0, hc1, hc2⟩ | ⟨hc0, hc1, hc2, hc3⟩ | ⟨rfl, hc2⟩ | ⟨rfl, hc2⟩ | ⟨rfl, hc2, hc3⟩ | ⟨rfl, hc2, hc3⟩ | ⟨rfl, hc2⟩ | ⟨rfl, hc2, hc3⟩
    · have hd : decide (1 ≤ s ∧ s ≤ 6) = false := decide_eq_false hc
      clear hc
      go_enter Tryz.func75, Tryz.ntmps75
      go_wp2_with (go_at_call 45; refine (H6.out _).mono ?_; rintro e w' ⟨rfl, rfl⟩; rw [hd])
      go_ret
      exact ⟨ret_int HF.out.symm, hb0⟩
    · have hd : decide (1 ≤ s ∧ s ≤ 6) = true := decide_eq_true (by omega)
      have he : (s == 5) = false := by simp; omega
      have he' : (s != 5) = true := by simp; omega
      go_enter Tryz.func75, Tryz.ntmps75
      go_wp2_with (go_at_call 45; refine (H6.out _).mono ?_; rintro e w' ⟨rfl, rfl⟩; rw [hd])
      go_ret
      exact ⟨ret_int HF.out.symm, hb0⟩
    · have hd : decide (1 ≤ s ∧ s ≤ 6) = true := decide_eq_true (by omega)
      have he : (s == 5) = false := by simp; omega
      have he' : (s != 5) = true := by simp; omega
      have hn0 : ¬ 0 < (ln : Int) := by omega
      clear hc2 HC
      go_enter Tryz.func75, Tryz.ntmps75
      go_wp2_with (go_at_call 45; refine (H6.out _).mono ?_; rintro e w' ⟨rfl, rfl⟩; rw [hd])
      go_ret
      exact ⟨ret_int HF.out.symm, hb0⟩
    iterate 2
      · go_enter Tryz.func75, Tryz.ntmps75
        go_wp2_with (go_at_call 45; refine (H6.out _).mono ?_; rintro e w' ⟨rfl, rfl⟩)
        go_ret
        exact ⟨ret_int HF.out.symm, hb0⟩
    iterate 2
      · have hn0 : ¬ 0 < (ln : Int) := by omega
        have hne : ((kl : Int) != 1) = true := by simp; omega
        clear hc2 HC
        go_enter Tryz.func75, Tryz.ntmps75
        go_wp2_with (go_at_call 45; refine (H6.out _).mono ?_; rintro e w' ⟨rfl, rfl⟩)
        go_ret
        exact ⟨ret_int HF.out.symm, hb0⟩
    · have hne : ((ln : Int) != (kl : Int)) = true := by simp; omega
      go_enter Tryz.func75, Tryz.ntmps75
      go_wp2_with (go_at_call 45; refine (H6.out _).mono ?_; rintro e w' ⟨rfl, rfl⟩)
      go_ret
      exact ⟨ret_int HF.out.symm, hb0⟩
    · subst hc2
      have hne : ((ln : Int) != (ln : Int)) = false := by simp
      go_enter Tryz.func75, Tryz.ntmps75
      go_wp2_with (go_at_call 45; refine (H6.out _).mono ?_; rintro e w' ⟨rfl, rfl⟩)
      refine HC.out.mono ?_
      rintro e w' ⟨rfl, hb1⟩
      rw [hc3]
      have hb2 := below_step hb0 (by simp) hb1
      go_wp2_with fail
      go_ret
      exact ⟨ret_int HF.out.symm, hb2⟩
  have HAL : Hid ((decide (d ≤ 6) && aloneK (show Kd (K n) from t)) = true) := by show (_ && aloneKF _ _ _) = _; rw [show (Kd.sort t) = s from hs, hal]; simp [hd6]
  have H6 : Hid (∀ w, Calls Tryz.prog 45 #[.int .i64 s, .int .i64 1, .int .i64 6] w fun e w' => e = .returned (.bool true) ∧ w' = w) := fun w => by rw [← decide_eq_true (⟨hr1, hr6⟩ : 1 ≤ s ∧ s ≤ 6)]; exact l6In_any s 1 6 w
  have hz0 : w.heap.size < (w.alloc (.cells #[.int .i64 s, .slice na (Kd.names t).length nc, .slice ka (Kd.kids t).length kc] 70)).heap.size := by simp
  have m2 : (w.alloc (.cells #[.int .i64 s, .slice na (Kd.names t).length nc, .slice ka (Kd.kids t).length kc] 70)).cell? ⟨w.heap.size, 2, none⟩ = some (.slice ka (Kd.kids t).length kc) := by simp [go_sem]
  clear hal hs h3 h4 hkids hl'
  have hb2 : Below w.heap.size w _ := hb0
  rcases hcase with ⟨hc1, hc2, hc3⟩ | ⟨rfl, hc2, hc3⟩ | ⟨rfl, hc2, hc3⟩ | ⟨rfl, hc2, hc3⟩
  · generalize hw1 : w.alloc (.cells #[.int .i64 s, .slice na (Kd.names t).length nc, .slice ka (Kd.kids t).length kc] 70) = w1 at *
    obtain ⟨_, _, hkv, -, hkids⟩ := hK
    cases hkv
    have HKL : Hid ((Kd.kids t).length = 0) := hc3
    rw [hc3] at m2
    rw [hc2, hc3] at hw1 ⊢
    have HW1 := hidF hw1
    have he : (s == 5) = false := by simp; omega
    have he' : (s != 5) = true := by simp; omega
    have he4 : (s == 4) = false := by simp; omega
    have he6 : (s == 6) = false := by simp; omega
    clear hc2 hc3 HC hb0 hw1
    go_enter Tryz.func75, Tryz.ntmps75
    go_wp2_with (go_at_call 45; refine (H6.out _).mono ?_; rintro e w' ⟨rfl, rfl⟩)
    rw [HW1.out]
    go_loopw [6, 7] (fun a i wr => ∃ k : Nat, k ≤ 0 ∧ i = .int .i64 k ∧ a = .int .i64 (1 + (sumL (fun k => cntK n k) ((Kd.kids t).take k) : Int)) ∧ 1 + sumL (fun k => cntK n k) ((Kd.kids t).take k) ≤ 40 ∧
        ((Kd.kids t).take k).all (fun k => goodK n k (d + 1)) = true ∧ Below w1.heap.size w1 wr) (fun _ i _ => 0 - (intOf i).toNat)
    case atStart => exact ⟨0, Nat.zero_le _, rfl, by simp [sumL], by simp [sumL], by simp, Below.refl _ _⟩
    case round =>
      obtain ⟨k, hk, rfl, rfl, hsum, hall, hbel⟩ := hrel
      have HALL := hidF hall
      clear hall
      have hsz := hbel.size
      have q4 : wr.cell? ⟨w.heap.size, 2, none⟩ = some (.slice ka 0 kc) := (hbel.cell (p := ⟨w.heap.size, 2, none⟩) hz0).trans m2
      generalize hgs : sumL (fun k => cntK n k) ((Kd.kids t).take k) = sm at *
      have HGS := hidF hgs
      clear hgs
      by_cases hlt : k < 0
      · exact absurd hlt (Nat.not_lt_zero _)
      · have hkl : k = (Kd.kids t).length := by have := HKL.out; omega
        have HF : Hid (partsK (n + 1) t d = 1 + (sm : Int)) := by
          show _ = _
          have h1 := HALL.out
          have h2 := HGS.out
          rw [hkl, List.take_length] at h1 h2
          rw [partsK_yes n t d HAL.out h1 (by rw [h2]; omega), h2]
        have hb5 := below_step hb2 (by omega) hbel
        clear hkl hkids
        go_wp2_with fail
        go_ret
        exact ⟨ret_int HF.out.symm, hb5⟩

  · generalize hw1 : w.alloc (.cells #[.int .i64 4, .slice na (Kd.names t).length nc, .slice ka (Kd.kids t).length kc] 70) = w1 at *
    obtain ⟨_, _, hkv, -, hkids⟩ := hK
    cases hkv
    have HKL : Hid ((Kd.kids t).length = 1) := hc3
    rw [hc3] at m2
    rw [hc2, hc3] at hw1 ⊢
    have HW1 := hidF hw1
    clear hc2 hc3 HC hb0 hw1
    go_enter Tryz.func75, Tryz.ntmps75
    go_wp2_with (go_at_call 45; refine (H6.out _).mono ?_; rintro e w' ⟨rfl, rfl⟩)
    rw [HW1.out]
    go_loopw [6, 7] (fun a i wr => ∃ k : Nat, k ≤ 1 ∧ i = .int .i64 k ∧ a = .int .i64 (1 + (sumL (fun k => cntK n k) ((Kd.kids t).take k) : Int)) ∧ 1 + sumL (fun k => cntK n k) ((Kd.kids t).take k) ≤ 40 ∧
        ((Kd.kids t).take k).all (fun k => goodK n k (d + 1)) = true ∧ Below w1.heap.size w1 wr) (fun _ i _ => 1 - (intOf i).toNat)
    case atStart => exact ⟨0, Nat.zero_le _, rfl, by simp [sumL], by simp [sumL], by simp, Below.refl _ _⟩
    case round =>
      obtain ⟨k, hk, rfl, rfl, hsum, hall, hbel⟩ := hrel
      have HALL := hidF hall
      clear hall
      have hsz := hbel.size
      have q4 : wr.cell? ⟨w.heap.size, 2, none⟩ = some (.slice ka 1 kc) := (hbel.cell (p := ⟨w.heap.size, 2, none⟩) hz0).trans m2
      generalize hgs : sumL (fun k => cntK n k) ((Kd.kids t).take k) = sm at *
      have HGS := hidF hgs
      clear hgs
      by_cases hlt : k < 1
      · have hlt' : k < (Kd.kids t).length := by have := HKL.out; omega
        obtain ⟨b, off, rfl, hbB, hcell⟩ := hkids (by intro h; rw [h] at hlt'; simp at hlt')
        obtain ⟨x0, x1, x2, e0, e1, e2, hr⟩ := hcell k hlt'
        have hbb := hB b hbB
        have f0 := (hbel.cell (p := ⟨b, off + k * 3, none⟩) (by show b < _; omega)).trans e0
        have f1 := (hbel.cell (p := ⟨b, off + k * 3 + 1, none⟩) (by show b < _; omega)).trans e1
        have f2 := (hbel.cell (p := ⟨b, off + k * 3 + 2, none⟩) (by show b < _; omega)).trans e2
        have q := hr.keep (same_below hbel (fun b hb => by have := hB b hb; omega)) (fun _ h => h)
        clear hkids hcell e0 e1 e2 hr
        have HCK : Hid (Calls Tryz.prog 75 _ _ _) := hn S (Kd.kids t)[k] x0 x1 x2 (d + 1) wr q (fun b hb => by have := hB b hb; omega) (by omega) (by omega)
        have hle := partsK_le n (Kd.kids t)[k] (d + 1)
        have HKid : Hid (partsK n (Kd.kids t)[k] (d + 1) < 0 → partsK (n + 1) t d = -1) := fun h => partsK_kid n t d k hlt' h
        have HGet : Hid (0 ≤ partsK n (Kd.kids t)[k] (d + 1) → partsK n (Kd.kids t)[k] (d + 1) = cntK n (Kd.kids t)[k] ∧ goodK n (Kd.kids t)[k] (d + 1) = true) := fun h => ⟨(partsK_get n _ _ h).1, (partsK_get n _ _ h).2.1⟩
        have HNext : Hid (sumL (fun k => cntK n k) ((Kd.kids t).take (k + 1)) = sm + cntK n (Kd.kids t)[k]) := by show _ = _; rw [sumL_take_succ _ _ _ hlt', HGS.out]
        have HAllN : Hid (goodK n (Kd.kids t)[k] (d + 1) = true → ((Kd.kids t).take (k + 1)).all (fun k => goodK n k (d + 1)) = true) := fun h => all_take_kidK k hlt' HALL.out h
        clear q
        generalize hkk : (Kd.kids t)[k] = kk at *
        clear hkk hlt'
        go_wp2_with fail
        refine HCK.out.mono ?_
        rintro e w2 ⟨rfl, hb3⟩
        have hb4 := below_step hbel hsz hb3
        have hb5 := below_step hb2 (by omega) hb4
        clear hb3 f0 f1 f2 hbel q4 HCK
        generalize hpr : partsK n kk (d + 1) = r at *
        clear hpr
        by_cases hr0 : r < 0
        · go_wp2_with fail
          go_ret
          exact ⟨ret_int (HKid.out hr0).symm, hb5⟩
        · by_cases hmany : 40 < 1 + (sm : Int) + r
          · go_wp2_with fail
            go_ret
            refine ⟨ret_int (partsK_many n t d (k + 1) ?_).symm, hb5⟩
            have := HGet.out (by omega)
            rw [HNext.out]; omega
          · go_wp2_with fail
            go_roundw
            case rel =>
              have hg := HGet.out (by omega)
              refine ⟨k + 1, by omega, by go_num, ?_, ?_, HAllN.out hg.2, hb4⟩
              · rw [HNext.out, hg.1]; go_num
              · rw [HNext.out]; omega
            case measure => simp [intOf]; omega
      · have hkl : k = (Kd.kids t).length := by have := HKL.out; omega
        have HF : Hid (partsK (n + 1) t d = 1 + (sm : Int)) := by
          show _ = _
          have h1 := HALL.out
          have h2 := HGS.out
          rw [hkl, List.take_length] at h1 h2
          rw [partsK_yes n t d HAL.out h1 (by rw [h2]; omega), h2]
        have hb5 := below_step hb2 (by omega) hbel
        clear hkl hkids
        go_wp2_with fail
        go_ret
        exact ⟨ret_int HF.out.symm, hb5⟩

  · generalize hw1 : w.alloc (.cells #[.int .i64 6, .slice na (Kd.names t).length nc, .slice ka (Kd.kids t).length kc] 70) = w1 at *
    obtain ⟨_, _, hkv, -, hkids⟩ := hK
    cases hkv
    have HKL : Hid ((Kd.kids t).length = 1) := hc3
    rw [hc3] at m2
    rw [hc2, hc3] at hw1 ⊢
    have HW1 := hidF hw1
    clear hc2 hc3 HC hb0 hw1
    go_enter Tryz.func75, Tryz.ntmps75
    go_wp2_with (go_at_call 45; refine (H6.out _).mono ?_; rintro e w' ⟨rfl, rfl⟩)
    rw [HW1.out]
    go_loopw [6, 7] (fun a i wr => ∃ k : Nat, k ≤ 1 ∧ i = .int .i64 k ∧ a = .int .i64 (1 + (sumL (fun k => cntK n k) ((Kd.kids t).take k) : Int)) ∧ 1 + sumL (fun k => cntK n k) ((Kd.kids t).take k) ≤ 40 ∧
        ((Kd.kids t).take k).all (fun k => goodK n k (d + 1)) = true ∧ Below w1.heap.size w1 wr) (fun _ i _ => 1 - (intOf i).toNat)
    case atStart => exact ⟨0, Nat.zero_le _, rfl, by simp [sumL], by simp [sumL], by simp, Below.refl _ _⟩
    case round =>
      obtain ⟨k, hk, rfl, rfl, hsum, hall, hbel⟩ := hrel
      have HALL := hidF hall
      clear hall
      have hsz := hbel.size
      have q4 : wr.cell? ⟨w.heap.size, 2, none⟩ = some (.slice ka 1 kc) := (hbel.cell (p := ⟨w.heap.size, 2, none⟩) hz0).trans m2
      generalize hgs : sumL (fun k => cntK n k) ((Kd.kids t).take k) = sm at *
      have HGS := hidF hgs
      clear hgs
      by_cases hlt : k < 1
      · have hlt' : k < (Kd.kids t).length := by have := HKL.out; omega
        obtain ⟨b, off, rfl, hbB, hcell⟩ := hkids (by intro h; rw [h] at hlt'; simp at hlt')
        obtain ⟨x0, x1, x2, e0, e1, e2, hr⟩ := hcell k hlt'
        have hbb := hB b hbB
        have f0 := (hbel.cell (p := ⟨b, off + k * 3, none⟩) (by show b < _; omega)).trans e0
        have f1 := (hbel.cell (p := ⟨b, off + k * 3 + 1, none⟩) (by show b < _; omega)).trans e1
        have f2 := (hbel.cell (p := ⟨b, off + k * 3 + 2, none⟩) (by show b < _; omega)).trans e2
        have q := hr.keep (same_below hbel (fun b hb => by have := hB b hb; omega)) (fun _ h => h)
        clear hkids hcell e0 e1 e2 hr
        have HCK : Hid (Calls Tryz.prog 75 _ _ _) := hn S (Kd.kids t)[k] x0 x1 x2 (d + 1) wr q (fun b hb => by have := hB b hb; omega) (by omega) (by omega)
        have hle := partsK_le n (Kd.kids t)[k] (d + 1)
        have HKid : Hid (partsK n (Kd.kids t)[k] (d + 1) < 0 → partsK (n + 1) t d = -1) := fun h => partsK_kid n t d k hlt' h
        have HGet : Hid (0 ≤ partsK n (Kd.kids t)[k] (d + 1) → partsK n (Kd.kids t)[k] (d + 1) = cntK n (Kd.kids t)[k] ∧ goodK n (Kd.kids t)[k] (d + 1) = true) := fun h => ⟨(partsK_get n _ _ h).1, (partsK_get n _ _ h).2.1⟩
        have HNext : Hid (sumL (fun k => cntK n k) ((Kd.kids t).take (k + 1)) = sm + cntK n (Kd.kids t)[k]) := by show _ = _; rw [sumL_take_succ _ _ _ hlt', HGS.out]
        have HAllN : Hid (goodK n (Kd.kids t)[k] (d + 1) = true → ((Kd.kids t).take (k + 1)).all (fun k => goodK n k (d + 1)) = true) := fun h => all_take_kidK k hlt' HALL.out h
        clear q
        generalize hkk : (Kd.kids t)[k] = kk at *
        clear hkk hlt'
        go_wp2_with fail
        refine HCK.out.mono ?_
        rintro e w2 ⟨rfl, hb3⟩
        have hb4 := below_step hbel hsz hb3
        have hb5 := below_step hb2 (by omega) hb4
        clear hb3 f0 f1 f2 hbel q4 HCK
        generalize hpr : partsK n kk (d + 1) = r at *
        clear hpr
        by_cases hr0 : r < 0
        · go_wp2_with fail
          go_ret
          exact ⟨ret_int (HKid.out hr0).symm, hb5⟩
        · by_cases hmany : 40 < 1 + (sm : Int) + r
          · go_wp2_with fail
            go_ret
            refine ⟨ret_int (partsK_many n t d (k + 1) ?_).symm, hb5⟩
            have := HGet.out (by omega)
            rw [HNext.out]; omega
          · go_wp2_with fail
            go_roundw
            case rel =>
              have hg := HGet.out (by omega)
              refine ⟨k + 1, by omega, by go_num, ?_, ?_, HAllN.out hg.2, hb4⟩
              · rw [HNext.out, hg.1]; go_num
              · rw [HNext.out]; omega
            case measure => simp [intOf]; omega
      · have hkl : k = (Kd.kids t).length := by have := HKL.out; omega
        have HF : Hid (partsK (n + 1) t d = 1 + (sm : Int)) := by
          show _ = _
          have h1 := HALL.out
          have h2 := HGS.out
          rw [hkl, List.take_length] at h1 h2
          rw [partsK_yes n t d HAL.out h1 (by rw [h2]; omega), h2]
        have hb5 := below_step hb2 (by omega) hbel
        clear hkl hkids
        go_wp2_with fail
        go_ret
        exact ⟨ret_int HF.out.symm, hb5⟩

  · have hk0 : (((Kd.names t).length : Int) != ((Kd.kids t).length : Int)) = false := by simp; omega
    have HRise := hidF hc3
    have HKL : Hid ((Kd.kids t).length = (Kd.kids t).length) := rfl
    clear hc2 hc3 hb0
    go_enter Tryz.func75, Tryz.ntmps75
    go_wp2_with (go_at_call 45; refine (H6.out _).mono ?_; rintro e w' ⟨rfl, rfl⟩)
    refine HC.out.mono ?_
    rintro e w1 ⟨rfl, hbr⟩
    rw [HRise.out]
    have m0' : w1.cell? ⟨w.heap.size, 0, none⟩ = some (.int .i64 5) := (hbr.cell (p := ⟨w.heap.size, 0, none⟩) hz0).trans (by simp [go_sem])
    replace m2 := (hbr.cell (p := ⟨w.heap.size, 2, none⟩) hz0).trans m2
    replace hK := hK.keepK (same_below hbr (fun b hb => by have := hB b hb; simp; omega)) (fun _ h => h)
    replace hb2 := below_step hb2 (by simp) hbr
    replace hz0 := Nat.lt_of_lt_of_le hz0 hbr.size
    clear hk0 HC hbr
    go_wp2_with fail
    clear m0'
    obtain ⟨_, _, hkv, -, hkids⟩ := hK
    cases hkv
    go_loopw [6, 7] (fun a i wr => ∃ k : Nat, k ≤ (Kd.kids t).length ∧ i = .int .i64 k ∧ a = .int .i64 (1 + (sumL (fun k => cntK n k) ((Kd.kids t).take k) : Int)) ∧ 1 + sumL (fun k => cntK n k) ((Kd.kids t).take k) ≤ 40 ∧
        ((Kd.kids t).take k).all (fun k => goodK n k (d + 1)) = true ∧ Below w1.heap.size w1 wr) (fun _ i _ => (Kd.kids t).length - (intOf i).toNat)
    case atStart => exact ⟨0, Nat.zero_le _, rfl, by simp [sumL], by simp [sumL], by simp, Below.refl _ _⟩
    case round =>
      obtain ⟨k, hk, rfl, rfl, hsum, hall, hbel⟩ := hrel
      have HALL := hidF hall
      clear hall
      have hsz := hbel.size
      have q4 : wr.cell? ⟨w.heap.size, 2, none⟩ = some (.slice ka (Kd.kids t).length kc) := (hbel.cell (p := ⟨w.heap.size, 2, none⟩) hz0).trans m2
      generalize hgs : sumL (fun k => cntK n k) ((Kd.kids t).take k) = sm at *
      have HGS := hidF hgs
      clear hgs
      by_cases hlt : k < (Kd.kids t).length
      · have hlt' : k < (Kd.kids t).length := by omega
        obtain ⟨b, off, rfl, hbB, hcell⟩ := hkids (by intro h; rw [h] at hlt'; simp at hlt')
        obtain ⟨x0, x1, x2, e0, e1, e2, hr⟩ := hcell k hlt'
        have hbb := hB b hbB
        have f0 := (hbel.cell (p := ⟨b, off + k * 3, none⟩) (by show b < _; omega)).trans e0
        have f1 := (hbel.cell (p := ⟨b, off + k * 3 + 1, none⟩) (by show b < _; omega)).trans e1
        have f2 := (hbel.cell (p := ⟨b, off + k * 3 + 2, none⟩) (by show b < _; omega)).trans e2
        have q := hr.keep (same_below hbel (fun b hb => by have := hB b hb; omega)) (fun _ h => h)
        clear hkids hcell e0 e1 e2 hr
        have HCK : Hid (Calls Tryz.prog 75 _ _ _) := hn S (Kd.kids t)[k] x0 x1 x2 (d + 1) wr q (fun b hb => by have := hB b hb; omega) (by omega) (by omega)
        have hle := partsK_le n (Kd.kids t)[k] (d + 1)
        have HKid : Hid (partsK n (Kd.kids t)[k] (d + 1) < 0 → partsK (n + 1) t d = -1) := fun h => partsK_kid n t d k hlt' h
        have HGet : Hid (0 ≤ partsK n (Kd.kids t)[k] (d + 1) → partsK n (Kd.kids t)[k] (d + 1) = cntK n (Kd.kids t)[k] ∧ goodK n (Kd.kids t)[k] (d + 1) = true) := fun h => ⟨(partsK_get n _ _ h).1, (partsK_get n _ _ h).2.1⟩
        have HNext : Hid (sumL (fun k => cntK n k) ((Kd.kids t).take (k + 1)) = sm + cntK n (Kd.kids t)[k]) := by show _ = _; rw [sumL_take_succ _ _ _ hlt', HGS.out]
        have HAllN : Hid (goodK n (Kd.kids t)[k] (d + 1) = true → ((Kd.kids t).take (k + 1)).all (fun k => goodK n k (d + 1)) = true) := fun h => all_take_kidK k hlt' HALL.out h
        clear q
        generalize hkk : (Kd.kids t)[k] = kk at *
        clear hkk hlt'
        go_wp2_with fail
        refine HCK.out.mono ?_
        rintro e w2 ⟨rfl, hb3⟩
        have hb4 := below_step hbel hsz hb3
        have hb5 := below_step hb2 (by omega) hb4
        clear hb3 f0 f1 f2 hbel q4 HCK
        generalize hpr : partsK n kk (d + 1) = r at *
        clear hpr
        by_cases hr0 : r < 0
        · go_wp2_with fail
          go_ret
          exact ⟨ret_int (HKid.out hr0).symm, hb5⟩
        · by_cases hmany : 40 < 1 + (sm : Int) + r
          · go_wp2_with fail
            go_ret
            refine ⟨ret_int (partsK_many n t d (k + 1) ?_).symm, hb5⟩
            have := HGet.out (by omega)
            rw [HNext.out]; omega
          · go_wp2_with fail
            go_roundw
            case rel =>
              have hg := HGet.out (by omega)
              refine ⟨k + 1, by omega, by go_num, ?_, ?_, HAllN.out hg.2, hb4⟩
              · rw [HNext.out, hg.1]; go_num
              · rw [HNext.out]; omega
            case measure => simp [intOf]; omega
      · have hkl : k = (Kd.kids t).length := by omega
        have HF : Hid (partsK (n + 1) t d = 1 + (sm : Int)) := by
          show _ = _
          have h1 := HALL.out
          have h2 := HGS.out
          rw [hkl, List.take_length] at h1 h2
          rw [partsK_yes n t d HAL.out h1 (by rw [h2]; omega), h2]
        have hb5 := below_step hb2 (by omega) hbel
        clear hkl hkids
        go_wp2_with fail
        go_ret
        exact ⟨ret_int HF.out.symm, hb5⟩

theorem l2Parts_any : ∀ n, PartsKSaid n := by
  intro n
  induction n with
  | zero => intro S t c0 c1 c2 d w ht; exact ht.elim
  | succ n ih => exact l2Parts_step n ih

set_option maxHeartbeats 400000 in
theorem specKOk_any (n : Nat) (S : Nat → Prop) (t : K n) (c0 c1 c2 : Value) (w : World) (ht : KindIn S w n t c0 c1 c2) (hB : ∀ b, S b → b < w.heap.size) :
    Calls Tryz.prog 59 #[.agg #[c0, c1, c2]] w fun e w' => e = .returned (.bool (okK n t)) ∧ Below w.heap.size w w' := by
  obtain ⟨x0, xa, xl, xc, ya, yl, yc, rfl, rfl, rfl⟩ := ht.shape
  have hb0 := (Below.refl w.heap.size w).alloc (Nat.le_refl _) (.cells #[.int .i64 x0, .slice xa xl xc, .slice ya yl yc] 70)
  have ht' := ht.keep (same_below hb0 hB) (fun _ h => h)
  have HE' : Hid (decide (0 < partsK n t 1) = okK n t) := okK_eq n t
  have HC : Hid (Calls Tryz.prog 75 _ _ _) := l2Parts_any n S t _ _ _ 1 _ ht' (fun b hb => by have := hB b hb; simp; omega) (by omega) (by omega)
  clear ht ht'
  go_enter Tryz.func59, Tryz.ntmps59
  go_wp2_with fail
  refine HC.out.mono ?_
  rintro e w1 ⟨rfl, hb1⟩
  have hb2 := below_step hb0 (by simp) hb1
  clear hb0 hb1 HC
  go_wp2_with fail
  go_ret
  exact ⟨ret_bool HE'.out, hb2⟩

end Go.Proofs.YtlinplghgamgbaaGreatDoor
