/-
  Several texts in one, in their order.
-/
import Derived.Test.YtpnnbdejneoccaaB1
import Derived.Deep.RegionWith
import Derived.Deep.QuietTactic
import Derived.BigQuiet

/-
  The specification's own functions on names: l6In, l6NameOk, l1Rise.
-/
namespace Go.Proofs.Ytpnnbdejneoccaa
open Go.RowKit

theorem ret_bool {a b : Bool} (h : a = b) : Ending.returned (.bool a) = .returned (.bool b) := by rw [h]

set_option maxHeartbeats 400000 in
theorem l6In_any (x a b : Int) (w : World) : Calls Try.prog 38 #[.int .i64 x, .int .i64 a, .int .i64 b] w fun e w' => e = .returned (.bool (decide (a ≤ x ∧ x ≤ b))) ∧ w' = w := by
  by_cases h : a ≤ x <;> by_cases h2 : x ≤ b
  all_goals
    go_enter Try.func38, Try.ntmps38
    go_wp2
    go_ret
    exact ⟨ret_bool (by simp [h, h2]; try omega), rfl⟩

set_option maxHeartbeats 400000 in
theorem l6NameOk_any (s : ByteArray) (w : World) (hs : s.size ≤ maxLen) : Calls Try.prog 37 #[.string s] w fun e w' => e = .returned (.bool (nameB s)) ∧ w' = w := by
  unfold maxLen at hs
  by_cases hl : 1 ≤ s.size ∧ s.size ≤ 8
  · obtain ⟨hl1, hl2⟩ := hl
    have hd : decide ((1 : Int) ≤ (s.size : Int) ∧ (s.size : Int) ≤ 8) = true := decide_eq_true ⟨by omega, by omega⟩
    have hhd : s.data.toList.headD 0 = s[0] := by
      cases hx : s.data.toList with
      | nil => have := congrArg List.length hx; simp at this; simp [this] at hl1
      | cons a r => simp [ByteArray.getElem_eq_getElem_data, ← Array.getElem_toList, hx]
    cases hu : upByte s[0] with
    | false =>
      have HF : Hid (nameB s = false) := by show _ = _; rw [nameB, hhd, hu]; simp
      unfold upByte at hu
      rw [decide_eq_false_iff_not] at hu
      clear hhd
      go_enter Try.func37, Try.ntmps37
      go_wp2_with (go_at_call 38; refine (l6In_any _ _ _ _).mono ?_; rintro e w' ⟨rfl, rfl⟩; rw [hd])
      all_goals
        go_ret
        exact ⟨ret_bool HF.out.symm, rfl⟩
    | true =>
      have HH : Hid (s.data.toList.headD 0 = s[0] ∧ upByte s[0] = true) := ⟨hhd, hu⟩
      unfold upByte at hu
      rw [decide_eq_true_eq] at hu
      obtain ⟨hu1, hu2⟩ := hu
      clear hhd
      go_enter Try.func37, Try.ntmps37
      go_wp2_with (go_at_call 38; refine (l6In_any _ _ _ _).mono ?_; rintro e w' ⟨rfl, rfl⟩; rw [hd])
      go_loop [3] (fun i => ∃ k : Nat, k ≤ s.size ∧ i = .int .i64 k ∧ (s.data.toList.take k).all nmByte = true) (fun i => s.size - (intOf i).toNat)
      case atStart => exact ⟨0, Nat.zero_le _, rfl, by simp⟩
      case round =>
        obtain ⟨k, hk, rfl, hall⟩ := hrel
        have HA := hidF hall
        clear hall
        by_cases hlt : k < s.size
        · cases hb : nmByte s[k] with
          | true =>
            have HB : Hid (nmByte s[k] = true) := hb
            unfold nmByte at hb
            rw [decide_eq_true_eq] at hb
            rcases hb with ⟨h1, h2⟩ | ⟨h1, h2⟩
            all_goals
              go_wp2
              go_round
              case rel => exact ⟨k + 1, by omega, by go_num, all_take_succ k hlt HA.out HB.out⟩
              case measure => simp [intOf]; omega
          | false =>
            have HF : Hid (nameB s = false) := by show _ = _; rw [nameB, all_false_at k hlt hb]; simp
            unfold nmByte at hb
            rw [decide_eq_false_iff_not] at hb
            rcases (show (s[k].toNat : Int) < 48 ∨ (57 < (s[k].toNat : Int) ∧ (s[k].toNat : Int) < 97) ∨ 122 < (s[k].toNat : Int) by omega) with h1 | ⟨h1, h2⟩ | h1
            all_goals
              clear hb
              go_wp2
              all_goals first
                | (go_ret; exact ⟨ret_bool HF.out.symm, rfl⟩)
                | (exfalso; rename_i h; simp at h; omega)
        · have HF : Hid (nameB s = true) := by show _ = _; rw [nameB, HH.out.1, HH.out.2, all_take_all k (by omega) HA.out]; simp [hl1, hl2]
          go_wp2
          go_ret
          exact ⟨ret_bool HF.out.symm, rfl⟩
  · have hd : decide ((1 : Int) ≤ (s.size : Int) ∧ (s.size : Int) ≤ 8) = false := decide_eq_false (by omega)
    have HF : Hid (nameB s = false) := by show _ = _; rw [nameB, decide_eq_false hl]; simp
    go_enter Try.func37, Try.ntmps37
    go_wp2_with (go_at_call 38; refine (l6In_any _ _ _ _).mono ?_; rintro e w' ⟨rfl, rfl⟩; rw [hd])
    go_ret
    exact ⟨ret_bool HF.out.symm, rfl⟩

set_option maxHeartbeats 1000000 in
theorem l1Rise_any (S : Nat → Prop) (l : List ByteArray) (v : Value) (w : World) (hl : StrsIn S w l v) (hB : ∀ b, S b → b < w.heap.size) :
    Calls Try.prog 82 #[v] w fun e w' => e = .returned (.bool (riseB l)) ∧ Below w.heap.size w w' := by
  obtain ⟨ao, cap, rfl, hlen, hs, hc⟩ := hl
  unfold maxLen at hlen
  go_enter Try.func82, Try.ntmps82
  go_wp2_with fail
  go_loopw [3] (fun i wr => ∃ k : Nat, k ≤ l.length ∧ i = .int .i64 k ∧ riseTo l k = true ∧ Below w.heap.size w wr) (fun i _ => l.length - (intOf i).toNat)
  case atStart => exact ⟨0, Nat.zero_le _, rfl, by simp [riseTo], Below.refl _ _⟩
  case round =>
    obtain ⟨k, hk, rfl, hall, hbel⟩ := hrel
    have HA : Hid (riseTo l k = true) := hall
    clear hall
    by_cases hlt : k < l.length
    · obtain ⟨b, off, rfl, hbB, hcell⟩ := hc (by intro h; rw [h] at hlt; simp at hlt)
      have f0 := (hbel.cell (p := ⟨b, off + k, none⟩) (hB b hbB)).trans (hcell k hlt)
      have hsk := hs l[k] (List.getElem_mem hlt)
      have hgk : l.getD k ByteArray.empty = l[k] := by simp [List.getD, hlt]
      cases hnm : nameB l[k] with
      | false =>
        have HF : Hid (riseB l = false) := riseTo_false l k hlt (by simp only [riseAt, hgk, hnm, Bool.false_and])
        have HC : Hid (∀ w, Calls Try.prog 37 #[.string l[k]] w fun e w' => e = .returned (.bool false) ∧ w' = w) := fun w => by rw [← hnm]; exact l6NameOk_any _ w hsk
        clear hc hs hcell hgk hnm
        generalize l[k] = s at *
        go_wp2_with fail
        go_quiet ((go_at_call 37; exact Calls.quiet_of_same (HC.out _)))
        go_wp2_with fail
        go_ret
        exact ⟨ret_bool HF.out.symm, below_drewN hbel _⟩
      | true =>
        have HC : Hid (∀ w, Calls Try.prog 37 #[.string l[k]] w fun e w' => e = .returned (.bool true) ∧ w' = w) := fun w => by rw [← hnm]; exact l6NameOk_any _ w hsk
        rcases Nat.eq_zero_or_pos k with rfl | hkp
        · have HR : Hid (riseTo l (0 + 1) = true) := by show _ = _; rw [riseTo_succ, HA.out, riseAt, hgk, hnm]; rfl
          clear hc hs hcell hgk hnm
          rw [Nat.add_zero] at f0
          generalize l[0] = s at *
          go_wp2_with fail
          go_quiet ((go_at_call 37; exact Calls.quiet_of_same (HC.out _)))
          go_wp2_with fail
          go_roundw
          case rel => exact ⟨0 + 1, by omega, by go_num, HR.out, below_drewN hbel _⟩
          case measure => simp [intOf]; omega
        · obtain ⟨j, rfl⟩ : ∃ j, k = j + 1 := ⟨k - 1, by omega⟩
          have f1 := (hbel.cell (p := ⟨b, off + j, none⟩) (hB b hbB)).trans (hcell j (by omega))
          have hgj : l.getD j ByteArray.empty = l[j] := by simp [List.getD, show j < l.length by omega]
          have hg0 : decide ((0 : Int) < ((j + 1 : Nat) : Int)) = true := decide_eq_true (by omega)
          cases hlt' : ltB l[j] l[j + 1] with
          | false =>
            have HF : Hid (riseB l = false) := riseTo_false l (j + 1) hlt (by simp only [riseAt, hgk, Nat.add_sub_cancel, hgj, hlt']; simp)
            unfold ltB at hlt'
            clear hc hs hcell hgk hgj hnm
            generalize l[j] = r at *
            generalize l[j + 1] = s at *
            go_wp2_with fail
            go_quiet ((go_at_call 37; exact Calls.quiet_of_same (HC.out _)))
            go_wp2_with fail
            go_ret
            exact ⟨ret_bool HF.out.symm, below_drewN hbel _⟩
          | true =>
            have HR : Hid (riseTo l (j + 1 + 1) = true) := by show _ = _; rw [riseTo_succ, HA.out, riseAt, hgk, hnm, Nat.add_sub_cancel, hgj, hlt']; simp
            unfold ltB at hlt'
            clear hc hs hcell hgk hgj hnm
            generalize l[j] = r at *
            generalize l[j + 1] = s at *
            go_wp2_with fail
            go_quiet ((go_at_call 37; exact Calls.quiet_of_same (HC.out _)))
            go_wp2_with fail
            go_roundw
            case rel => exact ⟨j + 1 + 1, by omega, by go_num, HR.out, below_drewN hbel _⟩
            case measure => simp [intOf]; omega
    · have HF : Hid (riseB l = true) := by show _ = _; rw [riseB, show l.length = k by omega]; exact HA.out
      clear hc hs
      go_wp2_with fail
      go_ret
      exact ⟨ret_bool HF.out.symm, hbel⟩

end Go.Proofs.Ytpnnbdejneoccaa

/-
  The specification's own functions on texts of trees: l1TextOk.
-/
namespace Go.Proofs.Ytpnnbdejneoccaa
open Go.RowKit

set_option maxHeartbeats 400000 in
theorem l1TextOk_any (s : ByteArray) (w : World) (hs : s.size ≤ maxLen) : Calls Try.prog 81 #[.string s] w fun e w' => e = .returned (.bool (textB s)) ∧ w' = w := by
  unfold maxLen at hs
  by_cases hl : s.size ≤ 60
  · go_enter Try.func81, Try.ntmps81
    go_wp2
    go_loop [3] (fun i => ∃ k : Nat, k ≤ s.size ∧ i = .int .i64 k ∧ (s.data.toList.take k).all okByte = true) (fun i => s.size - (intOf i).toNat)
    case atStart => exact ⟨0, Nat.zero_le _, rfl, by simp⟩
    case round =>
      obtain ⟨k, hk, rfl, hall⟩ := hrel
      have HA := hidF hall
      clear hall
      by_cases hlt : k < s.size
      · cases hb : okByte s[k] with
        | true =>
          have HB : Hid (okByte s[k] = true) := hb
          unfold okByte at hb
          rw [decide_eq_true_eq] at hb
          obtain ⟨h1, h2, h3⟩ := hb
          have h3' : ((s[k].toNat : Int) == 34) = false := by simpa using h3
          clear h3
          go_wp2
          go_round
          case rel => exact ⟨k + 1, by omega, by go_num, all_take_succ k hlt HA.out HB.out⟩
          case measure => simp [intOf]; omega
        | false =>
          have HF : Hid (textB s = false) := by show _ = _; rw [textB, all_false_at k hlt hb]; simp
          unfold okByte at hb
          rw [decide_eq_false_iff_not] at hb
          go_wp2
          all_goals first
            | (go_ret; exact ⟨ret_bool HF.out.symm, rfl⟩)
            | (exfalso; apply hb; simp_all)
      · have HF : Hid (textB s = true) := by show _ = _; rw [textB, all_take_all k (by omega) HA.out]; simp [hl]
        go_wp2
        go_ret
        exact ⟨ret_bool HF.out.symm, rfl⟩
  · go_enter Try.func81, Try.ntmps81
    go_wp2
    go_ret
    exact ⟨ret_bool (by simp [textB, hl]), rfl⟩

end Go.Proofs.Ytpnnbdejneoccaa

/-
  The specification's own functions on trees, more: l1Alone, l1Parts, TreeOk, TreeParts.
-/
namespace Go.Proofs.Ytpnnbdejneoccaa
open Go.RowKit

set_option maxRecDepth 100000 in
set_option maxHeartbeats 1000000 in
theorem l1Alone_1 (m : Int) (x : ByteArray) (l : List ByteArray) (ka : Option Addr) (kl kc : Nat) (w : World) (na : Option Addr) (nc : Nat) :
    Calls Try.prog 74 #[.agg #[.int .i64 1, .int .i64 m, .string x, .slice na l.length nc, .slice ka kl kc]] w fun e w' => e = .returned (.bool (decide (-999999999 ≤ m ∧ m ≤ 999999999) && x.toList.isEmpty && ((l.length : Int) == 0) && ((kl : Int) == 0))) ∧ Below w.heap.size w w' := by
  generalize hd : decide (-999999999 ≤ m ∧ m ≤ 999999999) = A
  have HA := hidF hd
  clear hd
  go_enter Try.func74, Try.ntmps74
  go_wp2_with (go_at_call 38; refine (l6In_any _ _ _ _).mono ?_; rintro e w' ⟨rfl, rfl⟩; rw [HA.out])
  all_goals
    go_ret
    exact ⟨ret_bool (by simp_all), (Below.refl _ _).alloc (Nat.le_refl _) _⟩


set_option maxRecDepth 100000 in
set_option maxHeartbeats 1000000 in
theorem l1Alone_2 (m : Int) (x : ByteArray) (l : List ByteArray) (ka : Option Addr) (kl kc : Nat) (w : World) (na : Option Addr) (nc : Nat) (hx : x.size ≤ maxLen) :
    Calls Try.prog 74 #[.agg #[.int .i64 2, .int .i64 m, .string x, .slice na l.length nc, .slice ka kl kc]] w fun e w' => e = .returned (.bool ((m == 0) && textB x && ((l.length : Int) == 0) && ((kl : Int) == 0))) ∧ Below w.heap.size w w' := by
  generalize hd : textB x = A
  have HA : Hid (textB x = A) := hd
  clear hd
  go_enter Try.func74, Try.ntmps74
  go_wp2_with (go_at_call 81; refine (l1TextOk_any _ _ hx).mono ?_; rintro e w' ⟨rfl, rfl⟩; rw [HA.out])
  all_goals
    go_ret
    exact ⟨ret_bool (by simp_all), (Below.refl _ _).alloc (Nat.le_refl _) _⟩


set_option maxRecDepth 100000 in
set_option maxHeartbeats 1000000 in
theorem l1Alone_3 (m : Int) (x : ByteArray) (l : List ByteArray) (ka : Option Addr) (kl kc : Nat) (w : World) (na : Option Addr) (nc : Nat) :
    Calls Try.prog 74 #[.agg #[.int .i64 3, .int .i64 m, .string x, .slice na l.length nc, .slice ka kl kc]] w fun e w' => e = .returned (.bool (decide (0 ≤ m ∧ m ≤ 1) && x.toList.isEmpty && ((l.length : Int) == 0) && ((kl : Int) == 0))) ∧ Below w.heap.size w w' := by
  generalize hd : decide (0 ≤ m ∧ m ≤ 1) = A
  have HA := hidF hd
  clear hd
  go_enter Try.func74, Try.ntmps74
  go_wp2_with (go_at_call 38; refine (l6In_any _ _ _ _).mono ?_; rintro e w' ⟨rfl, rfl⟩; rw [HA.out])
  all_goals
    go_ret
    exact ⟨ret_bool (by simp_all), (Below.refl _ _).alloc (Nat.le_refl _) _⟩


set_option maxRecDepth 100000 in
set_option maxHeartbeats 1000000 in
theorem l1Alone_4 (m : Int) (x : ByteArray) (l : List ByteArray) (ka : Option Addr) (kl kc : Nat) (w : World) (na : Option Addr) (nc : Nat) :
    Calls Try.prog 74 #[.agg #[.int .i64 4, .int .i64 m, .string x, .slice na l.length nc, .slice ka kl kc]] w fun e w' => e = .returned (.bool ((m == 0) && x.toList.isEmpty && ((l.length : Int) == 0) && decide ((kl : Int) ≤ 20))) ∧ Below w.heap.size w w' := by
  go_enter Try.func74, Try.ntmps74
  go_wp2_with fail
  all_goals
    go_ret
    exact ⟨ret_bool (by simp_all), (Below.refl _ _).alloc (Nat.le_refl _) _⟩


set_option maxRecDepth 100000 in
set_option maxHeartbeats 1000000 in
theorem l1Alone_5 (m : Int) (x : ByteArray) (l : List ByteArray) (ka : Option Addr) (kl kc : Nat) (w : World) (na : Option Addr) (nc : Nat) (S : Nat → Prop) (hl : StrsIn S w l (.slice na l.length nc)) (hB : ∀ b, S b → b < w.heap.size) :
    Calls Try.prog 74 #[.agg #[.int .i64 5, .int .i64 m, .string x, .slice na l.length nc, .slice ka kl kc]] w fun e w' => e = .returned (.bool ((m == 0) && x.toList.isEmpty && ((l.length : Int) == (kl : Int)) && riseB l)) ∧ Below w.heap.size w w' := by
  by_cases hm : m = 0
  · subst hm
    cases hx : x.toList.isEmpty with
    | false =>
      go_enter Try.func74, Try.ntmps74
      go_wp2_with fail
      go_ret
      exact ⟨rfl, (Below.refl _ _).alloc (Nat.le_refl _) _⟩
    | true =>
      by_cases hk : l.length = kl
      · subst hk
        have hb0 := (Below.refl w.heap.size w).alloc (Nat.le_refl _) (.cells #[.int .i64 5, .int .i64 0, .string x, .slice na l.length nc, .slice ka l.length kc] 33)
        have hl' := hl.keep (same_below hb0 hB) (fun _ h => h)
        have HC : Hid (Calls Try.prog 82 #[.slice na l.length nc] _ _) := l1Rise_any S l _ _ hl' (fun b hb => by have := hB b hb; simp; omega)
        have hk : ((l.length : Int) == (l.length : Int)) = true := by simp
        clear hl hl' hB
        go_enter Try.func74, Try.ntmps74
        go_wp2_with fail
        refine HC.out.mono ?_
        rintro e w' ⟨rfl, hb1⟩
        go_wp2_with fail
        go_ret
        exact ⟨by simp, below_step hb0 (by simp) hb1⟩
      · have hk' : ((l.length : Int) == (kl : Int)) = false := by simp; omega
        go_enter Try.func74, Try.ntmps74
        go_wp2_with fail
        go_ret
        exact ⟨ret_bool (by simp [hk']), (Below.refl _ _).alloc (Nat.le_refl _) _⟩
  · have hm' : (m == 0) = false := by simpa using hm
    clear hm
    go_enter Try.func74, Try.ntmps74
    go_wp2_with fail
    go_ret
    exact ⟨ret_bool (by simp [hm']), (Below.refl _ _).alloc (Nat.le_refl _) _⟩

set_option maxRecDepth 100000 in
set_option maxHeartbeats 1000000 in
theorem l1Alone_6 (m : Int) (x : ByteArray) (l : List ByteArray) (ka : Option Addr) (kl kc : Nat) (w : World) (na : Option Addr) (nc : Nat) :
    Calls Try.prog 74 #[.agg #[.int .i64 6, .int .i64 m, .string x, .slice na l.length nc, .slice ka kl kc]] w fun e w' => e = .returned (.bool ((m == 0) && x.toList.isEmpty && ((l.length : Int) == 0) && decide ((kl : Int) ≤ 1))) ∧ Below w.heap.size w w' := by
  go_enter Try.func74, Try.ntmps74
  go_wp2_with fail
  all_goals
    go_ret
    exact ⟨ret_bool (by simp_all), (Below.refl _ _).alloc (Nat.le_refl _) _⟩


set_option maxRecDepth 100000 in
set_option maxHeartbeats 1000000 in
theorem l1Alone_other (s m : Int) (x : ByteArray) (l : List ByteArray) (ka : Option Addr) (kl kc : Nat) (w : World) (na : Option Addr) (nc : Nat)
    (h1 : (s == 1) = false) (h2 : (s == 2) = false) (h3 : (s == 3) = false) (h4 : (s == 4) = false) (h5 : (s == 5) = false) (h6 : (s == 6) = false) :
    Calls Try.prog 74 #[.agg #[.int .i64 s, .int .i64 m, .string x, .slice na l.length nc, .slice ka kl kc]] w fun e w' => e = .returned (.bool false) ∧ Below w.heap.size w w' := by
  have hb0 := (Below.refl w.heap.size w).alloc (Nat.le_refl _) (.cells #[.int .i64 s, .int .i64 m, .string x, .slice na l.length nc, .slice ka kl kc] 33)
  go_enter Try.func74, Try.ntmps74
  go_wp2_with fail
  go_ret
  exact ⟨rfl, hb0⟩

theorem l1Alone_any (s m : Int) (x : ByteArray) (l : List ByteArray) (ka : Option Addr) (kl kc : Nat) (w : World) (na : Option Addr) (nc : Nat) (hx : x.size ≤ maxLen)
    (S : Nat → Prop) (hl : StrsIn S w l (.slice na l.length nc)) (hB : ∀ b, S b → b < w.heap.size) :
    Calls Try.prog 74 #[.agg #[.int .i64 s, .int .i64 m, .string x, .slice na l.length nc, .slice ka kl kc]] w fun e w' => e = .returned (.bool (aloneF s m x l kl)) ∧ Below w.heap.size w w' := by
  unfold aloneF
  by_cases h1 : s = 1
  · subst h1; rw [if_pos rfl]; exact l1Alone_1 m x l ka kl kc w na nc
  rw [if_neg h1]
  by_cases h2 : s = 2
  · subst h2; rw [if_pos rfl]; exact l1Alone_2 m x l ka kl kc w na nc hx
  rw [if_neg h2]
  by_cases h3 : s = 3
  · subst h3; rw [if_pos rfl]; exact l1Alone_3 m x l ka kl kc w na nc
  rw [if_neg h3]
  by_cases h4 : s = 4
  · subst h4; rw [if_pos rfl]; exact l1Alone_4 m x l ka kl kc w na nc
  rw [if_neg h4]
  by_cases h5 : s = 5
  · subst h5; rw [if_pos rfl]; exact l1Alone_5 m x l ka kl kc w na nc S hl hB
  rw [if_neg h5]
  by_cases h6 : s = 6
  · subst h6; rw [if_pos rfl]; exact l1Alone_6 m x l ka kl kc w na nc
  rw [if_neg h6]
  exact l1Alone_other s m x l ka kl kc w na nc (by simp [h1]) (by simp [h2]) (by simp [h3]) (by simp [h4]) (by simp [h5]) (by simp [h6])

end Go.Proofs.Ytpnnbdejneoccaa
