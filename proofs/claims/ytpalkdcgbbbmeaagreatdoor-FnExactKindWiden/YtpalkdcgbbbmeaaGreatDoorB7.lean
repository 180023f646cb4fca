/-
  Several texts in one, in their order.
-/
import Derived.Test.YtpalkdcgbbbmeaaGreatDoorB1

/-
  The program's own function on a form's names: areFormNames.
-/
namespace Go.Proofs.YtpalkdcgbbbmeaaGreatDoor
open Go.RowKit

set_option maxHeartbeats 1000000 in
theorem areFormNames_any (S : Nat → Prop) (l : List ByteArray) (v : Value) (w : World) (hl : StrsIn S w l v) :
    Calls Tryz.prog 115 #[v] w fun e w' => e = .returned (.bool (riseB l)) ∧ w' = w := by
  obtain ⟨ao, cap, rfl, hlen, hs, hc⟩ := hl
  unfold maxLen at hlen
  go_enter Tryz.func115, Tryz.ntmps115
  go_wp2_with fail
  go_loop [7] (fun i => ∃ k : Nat, k ≤ l.length ∧ i = .int .i64 k ∧ riseTo l k = true) (fun i => l.length - (intOf i).toNat)
  case atStart => exact ⟨0, Nat.zero_le _, rfl, by simp [riseTo]⟩
  case round =>
    obtain ⟨k, hk, rfl, hall⟩ := hrel
    have HA : Hid (riseTo l k = true) := hall
    clear hall
    by_cases hlt : k < l.length
    · obtain ⟨b, off, rfl, hbB, hcell⟩ := hc (by intro h; rw [h] at hlt; simp at hlt)
      have f0 := hcell k hlt
      have hsk := hs l[k] (List.getElem_mem hlt)
      have hgk : l.getD k ByteArray.empty = l[k] := by simp [List.getD, hlt]
      cases hnm : nameB l[k] with
      | false =>
        have HF : Hid (riseB l = false) := riseTo_false l k hlt (by simp only [riseAt, hgk, hnm, Bool.false_and])
        have HC : Hid (∀ w, Calls Tryz.prog 125 #[.string l[k]] w fun e w' => e = .returned (.bool false) ∧ w' = w) := fun w => by rw [← hnm]; exact isName_any _ w hsk
        clear hc hs hcell hgk hnm
        generalize l[k] = s at *
        go_wp2_with (go_at_call 125; refine (HC.out _).mono ?_; rintro e w' ⟨rfl, rfl⟩)
        go_ret
        exact ⟨bool_ret HF.out.symm, rfl⟩
      | true =>
        have HC : Hid (∀ w, Calls Tryz.prog 125 #[.string l[k]] w fun e w' => e = .returned (.bool true) ∧ w' = w) := fun w => by rw [← hnm]; exact isName_any _ w hsk
        rcases Nat.eq_zero_or_pos k with rfl | hkp
        · have HR : Hid (riseTo l (0 + 1) = true) := by show _ = _; rw [riseTo_succ, HA.out, riseAt, hgk, hnm]; rfl
          clear hc hs hcell hgk hnm
          rw [Nat.add_zero] at f0
          generalize l[0] = s at *
          go_wp2_with (go_at_call 125; refine (HC.out _).mono ?_; rintro e w' ⟨rfl, rfl⟩)
          go_round
          case rel => exact ⟨0 + 1, by omega, by go_num, HR.out⟩
          case measure => simp [intOf]; omega
        · obtain ⟨j, rfl⟩ : ∃ j, k = j + 1 := ⟨k - 1, by omega⟩
          have f1 := hcell j (by omega)
          have hgj : l.getD j ByteArray.empty = l[j] := by simp [List.getD, show j < l.length by omega]
          cases hlt' : ltB l[j] l[j + 1] with
          | false =>
            have HF : Hid (riseB l = false) := riseTo_false l (j + 1) hlt (by simp only [riseAt, hgk, Nat.add_sub_cancel, hgj, hlt']; simp)
            unfold ltB at hlt'
            clear hc hs hcell hgk hgj hnm
            generalize l[j] = r at *
            generalize l[j + 1] = s at *
            go_wp2_with (go_at_call 125; refine (HC.out _).mono ?_; rintro e w' ⟨rfl, rfl⟩)
            go_ret
            exact ⟨bool_ret HF.out.symm, rfl⟩
          | true =>
            have HR : Hid (riseTo l (j + 1 + 1) = true) := by show _ = _; rw [riseTo_succ, HA.out, riseAt, hgk, hnm, Nat.add_sub_cancel, hgj, hlt']; simp
            unfold ltB at hlt'
            clear hc hs hcell hgk hgj hnm
            generalize l[j] = r at *
            generalize l[j + 1] = s at *
            go_wp2_with (go_at_call 125; refine (HC.out _).mono ?_; rintro e w' ⟨rfl, rfl⟩)
            go_round
            case rel => exact ⟨j + 1 + 1, by omega, by go_num, HR.out⟩
            case measure => simp [intOf]; omega
    · have HF : Hid (riseB l = true) := by show _ = _; rw [riseB, show l.length = k by omega]; exact HA.out
      clear hc hs
      go_wp2_with fail
      go_ret
      exact ⟨bool_ret HF.out.symm, rfl⟩

end Go.Proofs.YtpalkdcgbbbmeaaGreatDoor

/-
  The program's own functions on names and texts: what they answer.
-/
namespace Go.Proofs.YtpalkdcgbbbmeaaGreatDoor
open Go.RowKit

set_option maxHeartbeats 400000 in
theorem isTreeNum_any (x : Int) (w : World) : Calls Tryz.prog 113 #[.int .i64 x] w fun e w' => e = .returned (.bool (decide (-999999999 ≤ x ∧ x ≤ 999999999))) ∧ w' = w := by
  by_cases h : -999999999 ≤ x <;> by_cases h2 : x ≤ 999999999
  all_goals
    go_enter Tryz.func113, Tryz.ntmps113
    go_wp2
    go_ret
    exact ⟨bool_ret (by simp [h, h2]; try omega), rfl⟩

set_option maxHeartbeats 400000 in
theorem isTreeText_any (s : ByteArray) (w : World) (hs : s.size ≤ maxLen) : Calls Tryz.prog 114 #[.string s] w fun e w' => e = .returned (.bool (textB s)) ∧ w' = w := by
  unfold maxLen at hs
  by_cases hl : s.size ≤ 60
  · go_enter Tryz.func114, Tryz.ntmps114
    go_wp2
    go_loop [9] (fun i => ∃ k : Nat, k ≤ s.size ∧ i = .int .i64 k ∧ (s.data.toList.take k).all okByte = true) (fun i => s.size - (intOf i).toNat)
    case atStart => exact ⟨0, Nat.zero_le _, rfl, by simp⟩
    case round =>
      obtain ⟨k, hk, rfl, hall⟩ := hrel
      have HA : Hid ((s.data.toList.take k).all okByte = true) := hall
      clear hall
      by_cases hlt : k < s.size
      · cases hb : okByte s[k] with
        | true =>
          have HB : Hid (okByte s[k] = true) := hb
          unfold okByte at hb
          rw [decide_eq_true_eq] at hb
          obtain ⟨h1, h2, h3⟩ := hb
          have h3' : ((s[k].toNat : Int) == 34) = false := by simpa using h3
          clear h3
          go_wp2
          go_round
          case rel => exact ⟨k + 1, by omega, by go_num, all_take_succ k hlt HA.out HB.out⟩
          case measure => simp [intOf]; omega
        | false =>
          have HF : Hid (textB s = false) := by show _ = _; rw [textB, all_false_at k hlt hb]; simp
          unfold okByte at hb
          rw [decide_eq_false_iff_not] at hb
          go_wp2
          all_goals first
            | (go_ret; exact ⟨bool_ret HF.out.symm, rfl⟩)
            | (exfalso; apply hb; simp_all)
      · have HF : Hid (textB s = true) := by show _ = _; rw [textB, all_take_all k (by omega) HA.out]; simp [hl]
        go_wp2
        go_ret
        exact ⟨bool_ret HF.out.symm, rfl⟩
  · go_enter Tryz.func114, Tryz.ntmps114
    go_wp2
    go_ret
    exact ⟨bool_ret (by simp [textB, hl]), rfl⟩

end Go.Proofs.YtpalkdcgbbbmeaaGreatDoor

/-
  The program's own functions on one node: hasJustItsSort.
-/
namespace Go.Proofs.YtpalkdcgbbbmeaaGreatDoor
open Go.RowKit

set_option maxRecDepth 100000 in
set_option maxHeartbeats 2000000 in
theorem just_1 (m : Int) (x : ByteArray) (l : List ByteArray) (ka : Option Addr) (kl kc : Nat) (w : World) (na : Option Addr) (nc : Nat) :
    Calls Tryz.prog 83 #[.agg #[.int .i64 1, .int .i64 m, .string x, .slice na l.length nc, .slice ka kl kc]] w fun e w' => e = .returned (.bool (decide (-999999999 ≤ m ∧ m ≤ 999999999) && x.toList.isEmpty && ((l.length : Int) == 0) && ((kl : Int) == 0))) ∧ Below w.heap.size w w' := by
  go_enter Tryz.func83, Tryz.ntmps83
  go_wp2_with (go_at_call 113; refine (isTreeNum_any _ _).mono ?_; rintro e w' ⟨rfl, rfl⟩)
  all_goals
    go_ret
    exact ⟨bool_ret (by simp_all), (Below.refl _ _).alloc (Nat.le_refl _) _⟩


set_option maxRecDepth 100000 in
set_option maxHeartbeats 2000000 in
theorem just_2 (m : Int) (x : ByteArray) (l : List ByteArray) (ka : Option Addr) (kl kc : Nat) (w : World) (na : Option Addr) (nc : Nat) (hx : x.size ≤ maxLen) :
    Calls Tryz.prog 83 #[.agg #[.int .i64 2, .int .i64 m, .string x, .slice na l.length nc, .slice ka kl kc]] w fun e w' => e = .returned (.bool ((m == 0) && textB x && ((l.length : Int) == 0) && ((kl : Int) == 0))) ∧ Below w.heap.size w w' := by
  go_enter Tryz.func83, Tryz.ntmps83
  go_wp2_with (go_at_call 114; refine (isTreeText_any _ _ hx).mono ?_; rintro e w' ⟨rfl, rfl⟩)
  all_goals
    go_ret
    exact ⟨bool_ret (by simp_all), (Below.refl _ _).alloc (Nat.le_refl _) _⟩


set_option maxRecDepth 100000 in
set_option maxHeartbeats 2000000 in
theorem just_3 (m : Int) (x : ByteArray) (l : List ByteArray) (ka : Option Addr) (kl kc : Nat) (w : World) (na : Option Addr) (nc : Nat) :
    Calls Tryz.prog 83 #[.agg #[.int .i64 3, .int .i64 m, .string x, .slice na l.length nc, .slice ka kl kc]] w fun e w' => e = .returned (.bool (decide (0 ≤ m ∧ m ≤ 1) && x.toList.isEmpty && ((l.length : Int) == 0) && ((kl : Int) == 0))) ∧ Below w.heap.size w w' := by
  by_cases h0 : m = 0
  · subst h0
    go_enter Tryz.func83, Tryz.ntmps83
    go_wp2_with fail
    all_goals
      go_ret
      exact ⟨bool_ret (by simp_all), (Below.refl _ _).alloc (Nat.le_refl _) _⟩
  by_cases h1 : m = 1
  · subst h1
    go_enter Tryz.func83, Tryz.ntmps83
    go_wp2_with fail
    all_goals
      go_ret
      exact ⟨bool_ret (by simp_all), (Below.refl _ _).alloc (Nat.le_refl _) _⟩
  have hd : decide (0 ≤ m ∧ m ≤ 1) = false := decide_eq_false (by omega)
  have hm0 : (m == 0) = false := by simpa using h0
  have hm1 : (m == 1) = false := by simpa using h1
  rw [hd]
  clear hd h0 h1
  go_enter Tryz.func83, Tryz.ntmps83
  go_wp2_with fail
  all_goals
    go_ret
    exact ⟨bool_ret (by simp_all), (Below.refl _ _).alloc (Nat.le_refl _) _⟩

set_option maxRecDepth 100000 in
set_option maxHeartbeats 2000000 in
theorem just_4 (m : Int) (x : ByteArray) (l : List ByteArray) (ka : Option Addr) (kl kc : Nat) (w : World) (na : Option Addr) (nc : Nat) :
    Calls Tryz.prog 83 #[.agg #[.int .i64 4, .int .i64 m, .string x, .slice na l.length nc, .slice ka kl kc]] w fun e w' => e = .returned (.bool ((m == 0) && x.toList.isEmpty && ((l.length : Int) == 0) && decide ((kl : Int) ≤ 20))) ∧ Below w.heap.size w w' := by
  go_enter Tryz.func83, Tryz.ntmps83
  go_wp2_with fail
  all_goals
    go_ret
    exact ⟨bool_ret (by simp_all), (Below.refl _ _).alloc (Nat.le_refl _) _⟩


set_option maxRecDepth 100000 in
set_option maxHeartbeats 2000000 in
theorem just_6 (m : Int) (x : ByteArray) (l : List ByteArray) (ka : Option Addr) (kl kc : Nat) (w : World) (na : Option Addr) (nc : Nat) :
    Calls Tryz.prog 83 #[.agg #[.int .i64 6, .int .i64 m, .string x, .slice na l.length nc, .slice ka kl kc]] w fun e w' => e = .returned (.bool ((m == 0) && x.toList.isEmpty && ((l.length : Int) == 0) && decide ((kl : Int) ≤ 1))) ∧ Below w.heap.size w w' := by
  go_enter Tryz.func83, Tryz.ntmps83
  go_wp2_with fail
  all_goals
    go_ret
    exact ⟨bool_ret (by simp_all), (Below.refl _ _).alloc (Nat.le_refl _) _⟩


end Go.Proofs.YtpalkdcgbbbmeaaGreatDoor

/-
  The program's own functions on one node, more: hasJustItsSort at forms, at other sorts, at all.
-/
namespace Go.Proofs.YtpalkdcgbbbmeaaGreatDoor
open Go.RowKit

set_option maxRecDepth 100000 in
set_option maxHeartbeats 2000000 in
theorem just_5 (m : Int) (x : ByteArray) (l : List ByteArray) (ka : Option Addr) (kl kc : Nat) (w : World) (na : Option Addr) (nc : Nat) (S : Nat → Prop) (hl : StrsIn S w l (.slice na l.length nc)) (hB : ∀ b, S b → b < w.heap.size) :
    Calls Tryz.prog 83 #[.agg #[.int .i64 5, .int .i64 m, .string x, .slice na l.length nc, .slice ka kl kc]] w fun e w' => e = .returned (.bool ((m == 0) && x.toList.isEmpty && ((l.length : Int) == (kl : Int)) && riseB l)) ∧ Below w.heap.size w w' := by
  by_cases hm : m = 0
  · subst hm
    cases hx : x.toList.isEmpty with
    | false =>
      go_enter Tryz.func83, Tryz.ntmps83
      go_wp2_with fail
      all_goals
        go_ret
        exact ⟨bool_ret (by simp_all), (Below.refl _ _).alloc (Nat.le_refl _) _⟩
    | true =>
      by_cases hk : l.length = kl
      · subst hk
        have hb0 := (Below.refl w.heap.size w).alloc (Nat.le_refl _) (.cells #[.int .i64 5, .int .i64 0, .string x, .slice na l.length nc, .slice ka l.length kc] 29)
        have hl' := hl.keep (same_below hb0 hB) (fun _ h => h)
        have HC : Hid (Calls Tryz.prog 115 #[.slice na l.length nc] _ _) := areFormNames_any S l _ _ hl'
        have hk : ((l.length : Int) == (l.length : Int)) = true := by simp
        clear hl hl' hB
        cases h0 : ((l.length : Int) == 0) with
        | true =>
          go_enter Tryz.func83, Tryz.ntmps83
          go_wp2_with fail
          refine HC.out.mono ?_
          rintro e w' ⟨rfl, rfl⟩
          go_wp2_with fail
          go_ret
          exact ⟨by simp, hb0⟩
        | false =>
          go_enter Tryz.func83, Tryz.ntmps83
          go_wp2_with fail
          refine HC.out.mono ?_
          rintro e w' ⟨rfl, rfl⟩
          go_wp2_with fail
          go_ret
          exact ⟨by simp, hb0⟩
      · have hk' : ((l.length : Int) == (kl : Int)) = false := by simp; omega
        rw [hk']
        clear hk
        cases h0 : ((l.length : Int) == 0) <;> cases h1 : ((kl : Int) == 0)
        all_goals
          go_enter Tryz.func83, Tryz.ntmps83
          go_wp2_with fail
          go_ret
          exact ⟨rfl, (Below.refl _ _).alloc (Nat.le_refl _) _⟩
  · have hm' : (m == 0) = false := by simpa using hm
    rw [hm']
    clear hm
    go_enter Tryz.func83, Tryz.ntmps83
    go_wp2_with fail
    all_goals
      go_ret
      exact ⟨bool_ret (by simp_all), (Below.refl _ _).alloc (Nat.le_refl _) _⟩

set_option maxRecDepth 100000 in
set_option maxHeartbeats 2000000 in
theorem just_other (s m : Int) (x : ByteArray) (l : List ByteArray) (ka : Option Addr) (kl kc : Nat) (w : World) (na : Option Addr) (nc : Nat)
    (h1 : (s == 1) = false) (h2 : (s == 2) = false) (h3 : (s == 3) = false) (h4 : (s == 4) = false) (h5 : (s == 5) = false) (h6 : (s == 6) = false) :
    Calls Tryz.prog 83 #[.agg #[.int .i64 s, .int .i64 m, .string x, .slice na l.length nc, .slice ka kl kc]] w fun e w' => e = .returned (.bool false) ∧ Below w.heap.size w w' := by
  go_enter Tryz.func83, Tryz.ntmps83
  go_wp2_with fail
  all_goals
    go_ret
    exact ⟨rfl, (Below.refl _ _).alloc (Nat.le_refl _) _⟩

theorem just_any (s m : Int) (x : ByteArray) (l : List ByteArray) (ka : Option Addr) (kl kc : Nat) (w : World) (na : Option Addr) (nc : Nat) (hx : x.size ≤ maxLen)
    (S : Nat → Prop) (hl : StrsIn S w l (.slice na l.length nc)) (hB : ∀ b, S b → b < w.heap.size) :
    Calls Tryz.prog 83 #[.agg #[.int .i64 s, .int .i64 m, .string x, .slice na l.length nc, .slice ka kl kc]] w fun e w' => e = .returned (.bool (aloneF s m x l kl)) ∧ Below w.heap.size w w' := by
  unfold aloneF
  by_cases h1 : s = 1
  · subst h1; rw [if_pos rfl]; exact just_1 m x l ka kl kc w na nc
  rw [if_neg h1]
  by_cases h2 : s = 2
  · subst h2; rw [if_pos rfl]; exact just_2 m x l ka kl kc w na nc hx
  rw [if_neg h2]
  by_cases h3 : s = 3
  · subst h3; rw [if_pos rfl]; exact just_3 m x l ka kl kc w na nc
  rw [if_neg h3]
  by_cases h4 : s = 4
  · subst h4; rw [if_pos rfl]; exact just_4 m x l ka kl kc w na nc
  rw [if_neg h4]
  by_cases h5 : s = 5
  · subst h5; rw [if_pos rfl]; exact just_5 m x l ka kl kc w na nc S hl hB
  rw [if_neg h5]
  by_cases h6 : s = 6
  · subst h6; rw [if_pos rfl]; exact just_6 m x l ka kl kc w na nc
  rw [if_neg h6]
  exact just_other s m x l ka kl kc w na nc (by simp [h1]) (by simp [h2]) (by simp [h3]) (by simp [h4]) (by simp [h5]) (by simp [h6])

end Go.Proofs.YtpalkdcgbbbmeaaGreatDoor

/-
  The program's own function on one node of a schema: hasJustItsKids.
-/
namespace Go.Proofs.YtpalkdcgbbbmeaaGreatDoor
open Go.RowKit

set_option maxRecDepth 100000 in
set_option maxHeartbeats 2000000 in
theorem justK_leaf (s : Int) (l : List ByteArray) (ka : Option Addr) (kl kc : Nat) (w : World) (na : Option Addr) (nc : Nat) (hs : s = 1 ∨ s = 2 ∨ s = 3) :
    Calls Tryz.prog 117 #[.agg #[.int .i64 s, .slice na l.length nc, .slice ka kl kc]] w fun e w' => e = .returned (.bool (((l.length : Int) == 0) && ((kl : Int) == 0))) ∧ Below w.heap.size w w' := by
  rcases hs with rfl | rfl | rfl
  all_goals
    go_enter Tryz.func117, Tryz.ntmps117
    go_wp2_with fail
    all_goals
      go_ret
      exact ⟨bool_ret (by simp_all), (Below.refl _ _).alloc (Nat.le_refl _) _⟩

set_option maxRecDepth 100000 in
set_option maxHeartbeats 2000000 in
theorem justK_one (s : Int) (l : List ByteArray) (ka : Option Addr) (kl kc : Nat) (w : World) (na : Option Addr) (nc : Nat) (hs : s = 4 ∨ s = 6) :
    Calls Tryz.prog 117 #[.agg #[.int .i64 s, .slice na l.length nc, .slice ka kl kc]] w fun e w' => e = .returned (.bool (((l.length : Int) == 0) && ((kl : Int) == 1))) ∧ Below w.heap.size w w' := by
  rcases hs with rfl | rfl
  all_goals
    go_enter Tryz.func117, Tryz.ntmps117
    go_wp2_with fail
    all_goals
      go_ret
      exact ⟨bool_ret (by simp_all), (Below.refl _ _).alloc (Nat.le_refl _) _⟩

set_option maxRecDepth 100000 in
set_option maxHeartbeats 2000000 in
theorem justK_form (l : List ByteArray) (ka : Option Addr) (kl kc : Nat) (w : World) (na : Option Addr) (nc : Nat) (S : Nat → Prop) (hl : StrsIn S w l (.slice na l.length nc)) (hB : ∀ b, S b → b < w.heap.size) :
    Calls Tryz.prog 117 #[.agg #[.int .i64 5, .slice na l.length nc, .slice ka kl kc]] w fun e w' => e = .returned (.bool (((l.length : Int) == (kl : Int)) && riseB l)) ∧ Below w.heap.size w w' := by
  by_cases hk : l.length = kl
  · subst hk
    have hb0 := (Below.refl w.heap.size w).alloc (Nat.le_refl _) (.cells #[.int .i64 5, .slice na l.length nc, .slice ka l.length kc] 26)
    have hl' := hl.keep (same_below hb0 hB) (fun _ h => h)
    have HC : Hid (Calls Tryz.prog 115 #[.slice na l.length nc] _ _) := areFormNames_any S l _ _ hl'
    have hk : ((l.length : Int) == (l.length : Int)) = true := by simp
    clear hl hl' hB
    go_enter Tryz.func117, Tryz.ntmps117
    go_wp2_with fail
    refine HC.out.mono ?_
    rintro e w' ⟨rfl, rfl⟩
    go_wp2_with fail
    go_ret
    exact ⟨by simp, hb0⟩
  · have hk' : ((l.length : Int) == (kl : Int)) = false := by simp; omega
    rw [hk']
    clear hk
    go_enter Tryz.func117, Tryz.ntmps117
    go_wp2_with fail
    go_ret
    exact ⟨rfl, (Below.refl _ _).alloc (Nat.le_refl _) _⟩

set_option maxRecDepth 100000 in
set_option maxHeartbeats 2000000 in
theorem justK_other (s : Int) (l : List ByteArray) (ka : Option Addr) (kl kc : Nat) (w : World) (na : Option Addr) (nc : Nat)
    (h1 : (s == 1) = false) (h2 : (s == 2) = false) (h3 : (s == 3) = false) (h4 : (s == 4) = false) (h5 : (s == 5) = false) (h6 : (s == 6) = false) :
    Calls Tryz.prog 117 #[.agg #[.int .i64 s, .slice na l.length nc, .slice ka kl kc]] w fun e w' => e = .returned (.bool false) ∧ Below w.heap.size w w' := by
  have hb0 := (Below.refl w.heap.size w).alloc (Nat.le_refl _) (.cells #[.int .i64 s, .slice na l.length nc, .slice ka kl kc] 26)
  go_enter Tryz.func117, Tryz.ntmps117
  go_wp2_with fail
  go_ret
  exact ⟨rfl, hb0⟩

theorem justK_any (s : Int) (l : List ByteArray) (ka : Option Addr) (kl kc : Nat) (w : World) (na : Option Addr) (nc : Nat)
    (S : Nat → Prop) (hl : StrsIn S w l (.slice na l.length nc)) (hB : ∀ b, S b → b < w.heap.size) :
    Calls Tryz.prog 117 #[.agg #[.int .i64 s, .slice na l.length nc, .slice ka kl kc]] w fun e w' => e = .returned (.bool (aloneKF s l kl)) ∧ Below w.heap.size w w' := by
  unfold aloneKF
  by_cases h1 : s = 1
  · subst h1; rw [if_pos rfl]; exact justK_leaf 1 l ka kl kc w na nc (.inl rfl)
  rw [if_neg h1]
  by_cases h2 : s = 2
  · subst h2; rw [if_pos rfl]; exact justK_leaf 2 l ka kl kc w na nc (.inr (.inl rfl))
  rw [if_neg h2]
  by_cases h3 : s = 3
  · subst h3; rw [if_pos rfl]; exact justK_leaf 3 l ka kl kc w na nc (.inr (.inr rfl))
  rw [if_neg h3]
  by_cases h4 : s = 4
  · subst h4; rw [if_pos rfl]; exact justK_one 4 l ka kl kc w na nc (.inl rfl)
  rw [if_neg h4]
  by_cases h5 : s = 5
  · subst h5; rw [if_pos rfl]; exact justK_form l ka kl kc w na nc S hl hB
  rw [if_neg h5]
  by_cases h6 : s = 6
  · subst h6; rw [if_pos rfl]; exact justK_one 6 l ka kl kc w na nc (.inr rfl)
  rw [if_neg h6]
  exact justK_other s l ka kl kc w na nc (by simp [h1]) (by simp [h2]) (by simp [h3]) (by simp [h4]) (by simp [h5]) (by simp [h6])

end Go.Proofs.YtpalkdcgbbbmeaaGreatDoor

/-
  What the program's type switches over its inner trees answer.
-/
namespace Go.Proofs.YtpalkdcgbbbmeaaGreatDoor
open Go.RowKit

theorem Tryz.yes_num (x : Value) (w : World) : (Instr.typeAssert (.iface 114 x) 71 114 true).run Tryz.prog w = .ok (.tuple #[x, .bool true]) w := by kernel_rfl
theorem Tryz.no_num_text (x : Value) (w : World) : (Instr.typeAssert (.iface 119 x) 71 114 true).run Tryz.prog w = .ok (.tuple #[.int .i64 0, .bool false]) w := by kernel_rfl
theorem Tryz.yes_text (x : Value) (w : World) : (Instr.typeAssert (.iface 119 x) 71 119 true).run Tryz.prog w = .ok (.tuple #[x, .bool true]) w := by kernel_rfl
theorem Tryz.no_num_flag (x : Value) (w : World) : (Instr.typeAssert (.iface 120 x) 71 114 true).run Tryz.prog w = .ok (.tuple #[.int .i64 0, .bool false]) w := by kernel_rfl
theorem Tryz.no_text_flag (x : Value) (w : World) : (Instr.typeAssert (.iface 120 x) 71 119 true).run Tryz.prog w = .ok (.tuple #[.string ByteArray.empty, .bool false]) w := by kernel_rfl
theorem Tryz.yes_flag (x : Value) (w : World) : (Instr.typeAssert (.iface 120 x) 71 120 true).run Tryz.prog w = .ok (.tuple #[x, .bool true]) w := by kernel_rfl
theorem Tryz.no_num_list (x : Value) (w : World) : (Instr.typeAssert (.iface 122 x) 71 114 true).run Tryz.prog w = .ok (.tuple #[.int .i64 0, .bool false]) w := by kernel_rfl
theorem Tryz.no_text_list (x : Value) (w : World) : (Instr.typeAssert (.iface 122 x) 71 119 true).run Tryz.prog w = .ok (.tuple #[.string ByteArray.empty, .bool false]) w := by kernel_rfl
theorem Tryz.no_flag_list (x : Value) (w : World) : (Instr.typeAssert (.iface 122 x) 71 120 true).run Tryz.prog w = .ok (.tuple #[.bool false, .bool false]) w := by kernel_rfl
theorem Tryz.yes_list (x : Value) (w : World) : (Instr.typeAssert (.iface 122 x) 71 122 true).run Tryz.prog w = .ok (.tuple #[x, .bool true]) w := by kernel_rfl
theorem Tryz.no_num_form (x : Value) (w : World) : (Instr.typeAssert (.iface 126 x) 71 114 true).run Tryz.prog w = .ok (.tuple #[.int .i64 0, .bool false]) w := by kernel_rfl
theorem Tryz.no_text_form (x : Value) (w : World) : (Instr.typeAssert (.iface 126 x) 71 119 true).run Tryz.prog w = .ok (.tuple #[.string ByteArray.empty, .bool false]) w := by kernel_rfl
theorem Tryz.no_flag_form (x : Value) (w : World) : (Instr.typeAssert (.iface 126 x) 71 120 true).run Tryz.prog w = .ok (.tuple #[.bool false, .bool false]) w := by kernel_rfl
theorem Tryz.no_list_form (x : Value) (w : World) : (Instr.typeAssert (.iface 126 x) 71 122 true).run Tryz.prog w = .ok (.tuple #[.slice none 0 0, .bool false]) w := by kernel_rfl
theorem Tryz.yes_form (x : Value) (w : World) : (Instr.typeAssert (.iface 126 x) 71 126 true).run Tryz.prog w = .ok (.tuple #[x, .bool true]) w := by kernel_rfl
theorem Tryz.no_num_maybe (x : Value) (w : World) : (Instr.typeAssert (.iface 128 x) 71 114 true).run Tryz.prog w = .ok (.tuple #[.int .i64 0, .bool false]) w := by kernel_rfl
theorem Tryz.no_text_maybe (x : Value) (w : World) : (Instr.typeAssert (.iface 128 x) 71 119 true).run Tryz.prog w = .ok (.tuple #[.string ByteArray.empty, .bool false]) w := by kernel_rfl
theorem Tryz.no_flag_maybe (x : Value) (w : World) : (Instr.typeAssert (.iface 128 x) 71 120 true).run Tryz.prog w = .ok (.tuple #[.bool false, .bool false]) w := by kernel_rfl
theorem Tryz.no_list_maybe (x : Value) (w : World) : (Instr.typeAssert (.iface 128 x) 71 122 true).run Tryz.prog w = .ok (.tuple #[.slice none 0 0, .bool false]) w := by kernel_rfl
theorem Tryz.no_form_maybe (x : Value) (w : World) : (Instr.typeAssert (.iface 128 x) 71 126 true).run Tryz.prog w = .ok (.tuple #[.agg #[.slice none 0 0, .slice none 0 0], .bool false]) w := by kernel_rfl
theorem Tryz.yes_maybe (x : Value) (w : World) : (Instr.typeAssert (.iface 128 x) 71 128 true).run Tryz.prog w = .ok (.tuple #[x, .bool true]) w := by kernel_rfl

end Go.Proofs.YtpalkdcgbbbmeaaGreatDoor

/-
  The copies that the laws make: what toStringS, toTreeS and toTree answer.
-/
namespace Go.Proofs.YtpalkdcgbbbmeaaGreatDoor
open Go.RowKit

theorem Tryz.info_str : (Tryz.prog.info? 9).map (fun i => (i.zero, i.size, i.bytes)) = some (some (.string ByteArray.empty), 1, 16) := by kernel_rfl

theorem Tryz.info_tree : (Tryz.prog.info? 29).map (fun i => (i.zero, i.size, i.bytes)) = some (some (.agg #[.int .i64 0, .int .i64 0, .string ByteArray.empty, .slice none 0 0, .slice none 0 0]), 5, 80) := by kernel_rfl

set_option maxHeartbeats 400000 in
theorem toStringS_any (S : Nat → Prop) (l : List ByteArray) (v : Value) (w : World) (hl : StrsIn S w l v) (hB : ∀ b, S b → b < w.heap.size) (hsz : szN l ≤ 1048576) :
    Calls Tryz.prog 47 #[v] w fun e w' => ∃ v', e = .returned v' ∧ StrsIn (fun b => w.heap.size ≤ b ∧ b < w'.heap.size) w' l v' ∧ Below w.heap.size w w' := by
  obtain ⟨ao, cap, rfl, hlen, hs, hc⟩ := hl
  have hlN := szN_length l
  have hmk := run_make_row' (P := Tryz.prog) 23 9 (.string ByteArray.empty) 16 Tryz.underlying23 Tryz.info_str rfl .i64 .i64 l.length (by omega) (by omega)
  go_enter Tryz.func47, Tryz.ntmps47
  go_wp2
  go_loopw [4] (fun i wr => ∃ k : Nat, k ≤ l.length ∧ i = .int .i64 k ∧ wr.rowIs w.heap.size 9 l.length (fun j => if j < k then .string (l.getD j ByteArray.empty) else .string ByteArray.empty) ∧ Below w.heap.size w wr)
    (fun i _ => l.length - (intOf i).toNat)
  case atStart =>
    exact ⟨0, Nat.zero_le _, rfl, (World.rowIs_made _ _ _ _).congr (fun i _ => by simp), (Below.refl _ _).alloc (Nat.le_refl _) _⟩
  case round =>
    obtain ⟨k, hk, rfl, hrow, hbel⟩ := hrel
    by_cases hlt : k < l.length
    · obtain ⟨b, off, rfl, hbB, hcell⟩ := hc (by intro h; rw [h] at hlt; simp at hlt)
      have f0 := (hbel.cell (p := ⟨b, off + k, none⟩) (hB b hbB)).trans (hcell k hlt)
      have f1 := hrow.cell hlt
      have f2 := hrow.frozen k
      have HR : Hid ((wr.setCell ⟨w.heap.size, k, none⟩ (.string l[k])).rowIs w.heap.size 9 l.length (fun j => if j < k + 1 then .string (l.getD j ByteArray.empty) else .string ByteArray.empty)) := by
        refine (hrow.set k (.string l[k])).congr fun i hi => ?_
        by_cases h1 : i = k
        · subst h1; simp [hlt]
        · by_cases h2 : i < k
          · rw [if_neg h1, if_pos h2, if_pos (by omega)]
          · rw [if_neg h1, if_neg h2, if_neg (by omega)]
      have HB : Hid (Below w.heap.size w (wr.setCell ⟨w.heap.size, k, none⟩ (.string l[k]))) := hbel.setCell (Nat.le_refl _) _
      clear hc hcell hrow hbel hmk
      go_wp2
      go_roundw
      case rel => exact ⟨k + 1, by omega, by go_num, HR.out, HB.out⟩
      case measure => simp [intOf]; omega
    · have hkl : k = l.length := by omega
      have HF : Hid (StrsIn (fun b => w.heap.size ≤ b ∧ b < wr.heap.size) wr l (.slice (some ⟨w.heap.size, 0, none⟩) l.length l.length)) := by
        refine ⟨_, _, rfl, hlen, hs, fun _ => ⟨w.heap.size, 0, rfl, ⟨Nat.le_refl _, hrow.lt⟩, fun i hi => ?_⟩⟩
        have := hrow.cell hi
        rw [if_pos (by omega)] at this
        simpa [List.getD, hi] using this
      clear hkl hc hs hrow hmk
      go_wp2
      go_ret
      exact ⟨_, rfl, HF.out, hbel⟩

theorem make_trees (n : Nat) (hn : n ≤ 1048576) (w : World) : (Instr.makeSlice 27 (.int .i64 (n : Int)) (.int .i64 (n : Int))).run Tryz.prog w =
    .ok (.slice (some ⟨w.heap.size, 0, none⟩) n n) (w.alloc (.cells (madeCells #[.int .i64 0, .int .i64 0, .string ByteArray.empty, .slice none 0 0, .slice none 0 0] (n * 5)) 29)) := by
  obtain ⟨i0, hi, hz0, hz1, hz2⟩ := info_parts Tryz.info_tree
  have := run_make (P := Tryz.prog) w 27 29 i0 _ Tryz.underlying27 hi hz0 .i64 .i64 (n : Int) (n : Int) (by omega) (by omega) (by rw [hz2]; omega) (by omega)
  rw [hz1] at this
  simpa [Value.cells] using this

/-- toTree at trees of at most n levels. -/
def ToSaid (n : Nat) : Prop := ∀ (S : Nat → Prop) (t : T n) (c0 c1 c2 c3 c4 : Value) (w : World), TreeIn S w n t c0 c1 c2 c3 c4 → (∀ b, S b → b < w.heap.size) → szT n t ≤ 1048576 →
  Calls Tryz.prog 16 #[.agg #[c0, c1, c2, c3, c4]] w fun e w' => ∃ d0 d1 d2 d3 d4, e = .returned (.agg #[d0, d1, d2, d3, d4]) ∧ TreeIn (fun b => w.heap.size ≤ b ∧ b < w'.heap.size) w' n t d0 d1 d2 d3 d4 ∧ Below w.heap.size w w'

set_option maxHeartbeats 400000 in
theorem toTreeS_any (n : Nat) (hn : ToSaid n) (S : Nat → Prop) (l : List (T n)) (v : Value) (w : World) (hl : RowIn S w (TreeIn S w n) l v) (hB : ∀ b, S b → b < w.heap.size) (hsz : sumL (fun k => szT n k + 1) l ≤ 1048576) :
    Calls Tryz.prog 49 #[v] w fun e w' => ∃ v', e = .returned v' ∧ RowIn (fun b => w.heap.size ≤ b ∧ b < w'.heap.size) w' (TreeIn (fun b => w.heap.size ≤ b ∧ b < w'.heap.size) w' n) l v' ∧ Below w.heap.size w w' := by
  obtain ⟨ao, cap, rfl, hlen, hc⟩ := hl
  have hlN := sumL_length (szT n) l
  have hmk := make_trees l.length (by omega)
  go_enter Tryz.func49, Tryz.ntmps49
  go_wp2_with fail
  go_loopw [4] (fun i wr => ∃ (k : Nat) (F : Nat → Value), k ≤ l.length ∧ i = .int .i64 k ∧ wr.rowIs w.heap.size 29 (l.length * 5) F ∧ Below w.heap.size w wr ∧
      ∀ j (h : j < l.length), j < k → TreeIn (fun b => w.heap.size < b ∧ b < wr.heap.size) wr n l[j] (F (j * 5)) (F (j * 5 + 1)) (F (j * 5 + 2)) (F (j * 5 + 3)) (F (j * 5 + 4)))
    (fun i _ => l.length - (intOf i).toNat)
  case atStart =>
    obtain ⟨F, hF⟩ := rowIs_made_any w #[.int .i64 0, .int .i64 0, .string ByteArray.empty, .slice none 0 0, .slice none 0 0] (l.length * 5) 29
    exact ⟨0, F, Nat.zero_le _, rfl, hF, (Below.refl _ _).alloc (Nat.le_refl _) _, fun j _ h => absurd h (Nat.not_lt_zero _)⟩
  case round =>
    obtain ⟨k, F, hk, rfl, hrow, hbel, hdone⟩ := hrel
    by_cases hlt : k < l.length
    · obtain ⟨b, off, rfl, hbB, hcell⟩ := hc (by intro h; rw [h] at hlt; simp at hlt)
      obtain ⟨d0, d1, d2, d3, d4, e0, e1, e2, e3, e4, hr⟩ := hcell k hlt
      have f0 := (hbel.cell (p := ⟨b, off + k * 5, none⟩) (hB b hbB)).trans e0
      have f1 := (hbel.cell (p := ⟨b, off + k * 5 + 1, none⟩) (hB b hbB)).trans e1
      have f2 := (hbel.cell (p := ⟨b, off + k * 5 + 2, none⟩) (hB b hbB)).trans e2
      have f3 := (hbel.cell (p := ⟨b, off + k * 5 + 3, none⟩) (hB b hbB)).trans e3
      have f4 := (hbel.cell (p := ⟨b, off + k * 5 + 4, none⟩) (hB b hbB)).trans e4
      clear hc hcell e0 e1 e2 e3 e4
      have hr' := hr.keep (same_below hbel hB) (fun _ h => h)
      have hsz' := hbel.size
      have hone := sumL_mono (fun k => szT n k + 1) l l[k] (List.getElem_mem hlt)
      clear hr hmk
      go_wp2_with fail
      refine (hn S l[k] d0 d1 d2 d3 d4 wr hr' (fun b hb => Nat.lt_of_lt_of_le (hB b hb) hsz') (by omega)).mono ?_
      rintro e w1 ⟨g0, g1, g2, g3, g4, rfl, hin, hb1⟩
      have hz1 := hb1.size
      have hlt1 := hrow.lt
      have hrow1 : w1.rowIs w.heap.size 29 (l.length * 5) F := hrow.of_block (hb1.block _ hlt1)
      have q0 := hrow1.cell (i := k * 5) (by omega)
      have q1 := hrow1.cell (i := k * 5 + 1) (by omega)
      have q2 := hrow1.cell (i := k * 5 + 2) (by omega)
      have q3 := hrow1.cell (i := k * 5 + 3) (by omega)
      have q4 := hrow1.cell (i := k * 5 + 4) (by omega)
      have r0 := hrow1.frozen (k * 5)
      have r1 := hrow1.frozen (k * 5 + 1)
      have r2 := hrow1.frozen (k * 5 + 2)
      have r3 := hrow1.frozen (k * 5 + 3)
      have r4 := hrow1.frozen (k * 5 + 4)
      obtain ⟨x0, x1, x2, xa, xl, xc, ya, yl, yc, rfl, rfl, rfl, rfl, rfl⟩ := hin.shape
      have HR : Hid (∀ j (h : j < l.length), j < k + 1 → TreeIn (fun b => w.heap.size < b ∧ b < (put5 w1 w.heap.size (k * 5) (.int .i64 x0) (.int .i64 x1) (.string x2) (.slice xa xl xc) (.slice ya yl yc)).heap.size)
          (put5 w1 w.heap.size (k * 5) (.int .i64 x0) (.int .i64 x1) (.string x2) (.slice xa xl xc) (.slice ya yl yc)) n l[j]
          (put5F (k * 5) F (.int .i64 x0) (.int .i64 x1) (.string x2) (.slice xa xl xc) (.slice ya yl yc) (j * 5)) (put5F (k * 5) F (.int .i64 x0) (.int .i64 x1) (.string x2) (.slice xa xl xc) (.slice ya yl yc) (j * 5 + 1))
          (put5F (k * 5) F (.int .i64 x0) (.int .i64 x1) (.string x2) (.slice xa xl xc) (.slice ya yl yc) (j * 5 + 2)) (put5F (k * 5) F (.int .i64 x0) (.int .i64 x1) (.string x2) (.slice xa xl xc) (.slice ya yl yc) (j * 5 + 3))
          (put5F (k * 5) F (.int .i64 x0) (.int .i64 x1) (.string x2) (.slice xa xl xc) (.slice ya yl yc) (j * 5 + 4))) := by
        intro j hj hjk
        by_cases hjk' : j < k
        · rw [put5F_other _ _ _ _ _ _ _ (j * 5) (by omega), put5F_other _ _ _ _ _ _ _ (j * 5 + 1) (by omega), put5F_other _ _ _ _ _ _ _ (j * 5 + 2) (by omega), put5F_other _ _ _ _ _ _ _ (j * 5 + 3) (by omega), put5F_other _ _ _ _ _ _ _ (j * 5 + 4) (by omega)]
          refine (hdone j hj hjk').keep (fun b hb => ?_) (fun b hb => ?_)
          · rw [put5_other (by omega)]; exact hb1.block b hb.2
          · rw [put5_size]; omega
        · have : j = k := by omega
          subst this
          rw [put5F_0, put5F_1, put5F_2, put5F_3, put5F_4]
          refine hin.keep (fun b hb => ?_) (fun b hb => ?_)
          · rw [put5_other (by omega)]
          · rw [put5_size]; omega
      have HW := put5_row hrow1 (k * 5) (.int .i64 x0) (.int .i64 x1) (.string x2) (.slice xa xl xc) (.slice ya yl yc)
      have HB := put5_below (o := k * 5) (g0 := .int .i64 x0) (g1 := .int .i64 x1) (g2 := .string x2) (g3 := .slice xa xl xc) (g4 := .slice ya yl yc) (below_step hbel hsz' hb1) (Nat.le_refl _)
      have HA : Hid (_ ∧ _ ∧ _) := ⟨HW, HB, HR.out⟩
      clear HW HB HR hdone hrow hbel hb1 hin hn hrow1 f0 f1 f2 f3 f4 hr' hone
      go_wp2_with fail
      go_roundw
      case rel => exact ⟨k + 1, _, by omega, by go_num, HA.out.1, HA.out.2.1, HA.out.2.2⟩
      case measure => simp [intOf]; omega
    · have hkl : k = l.length := by omega
      have HF : Hid (RowIn (fun b => w.heap.size ≤ b ∧ b < wr.heap.size) wr (TreeIn (fun b => w.heap.size ≤ b ∧ b < wr.heap.size) wr n) l (.slice (some ⟨w.heap.size, 0, none⟩) l.length l.length)) := by
        refine ⟨_, _, rfl, hlen, fun _ => ⟨w.heap.size, 0, rfl, ⟨Nat.le_refl _, hrow.lt⟩, fun i hi => ?_⟩⟩
        refine ⟨_, _, _, _, _, ?_, ?_, ?_, ?_, ?_, (hdone i hi (by omega)).keep (fun _ _ => rfl) (fun b hb => ⟨by omega, hb.2⟩)⟩
        · simpa using hrow.cell (i := i * 5) (by omega)
        · simpa using hrow.cell (i := i * 5 + 1) (by omega)
        · simpa using hrow.cell (i := i * 5 + 2) (by omega)
        · simpa using hrow.cell (i := i * 5 + 3) (by omega)
        · simpa using hrow.cell (i := i * 5 + 4) (by omega)
      clear hkl hc hrow hmk hdone
      go_wp2_with fail
      go_ret
      exact ⟨_, rfl, HF.out, hbel⟩

set_option maxHeartbeats 400000 in
theorem toTree_step (n : Nat) (hn : ToSaid n) : ToSaid (n + 1) := by
  intro S t c0 c1 c2 c3 c4 w ht hB hsz
  obtain ⟨rfl, rfl, rfl, hs, hw0, hw1, h3, h4⟩ := ht
  have hT : szT (n + 1) t = (Nd.text t).size + szN (Nd.names t) + sumL (fun k => szT n k + 1) (Nd.kids t) := rfl
  rw [hT] at hsz
  clear hT
  have hb3 : Below w.heap.size w (((w.alloc (.cells #[.int .i64 (Nd.sort t), .int .i64 (Nd.num t), .string (Nd.text t), c3, c4] 44)).alloc
      (.cells #[.int .i64 0, .int .i64 0, .string ⟨#[]⟩, .slice none 0 0, .slice none 0 0] 29)).alloc (.cells #[.int .i64 (Nd.sort t), .int .i64 (Nd.num t), .string (Nd.text t), .slice none 0 0, .slice none 0 0] 29)) :=
    (((Below.refl _ _).alloc (Nat.le_refl _) _).alloc (by simp) _).alloc (by simp; omega) _
  have h3' := h3.keep (same_below hb3 hB) (fun _ h => h)
  have HK : Hid (RowIn S _ (TreeIn S _ n) (Nd.kids t) c4) := h4.keepT (same_below hb3 hB) (fun _ h => h)
  obtain ⟨ka, kc, hk4, -⟩ := h4
  subst hk4
  clear h3
  go_enter Tryz.func16, Tryz.ntmps16
  go_wp2_with fail
  refine (toStringS_any S _ _ _ h3' (fun b hb => by have := hB b hb; simp; omega) (by omega)).mono ?_
  rintro e w1 ⟨v3, rfl, hv3, hb1⟩
  have hz1 := hb1.size
  simp at hz1
  obtain ⟨hc, hf⟩ := bcell hb1
  obtain ⟨na, nc, rfl, -⟩ := id hv3
  have HV3 : Hid (StrsIn _ w1 (Nd.names t) (.slice na (Nd.names t).length nc)) := hv3
  have hbw1 := below_step hb3 (by simp; omega) hb1
  have HK1 : Hid (RowIn S w1 (TreeIn S w1 n) (Nd.kids t) _) := HK.out.keepT (same_below hb1 (fun b hb => by have := hB b hb; simp; omega)) (fun _ h => h)
  clear hv3 HK h3' hb3
  have hfz : w1.frozen? ⟨w.heap.size + 1 + 1, 3, none⟩ = false := by rw [hf _ _ (by simp)]; simp [go_sem]
  have hSame : Same S w1 (w1.setCell ⟨w.heap.size + 1 + 1, 3, none⟩ (.slice na (Nd.names t).length nc)) := fun b hb => Below.heap_setCell _ _ _ _ (by have := hB b hb; show b ≠ w.heap.size + 1 + 1; omega)
  have HK2 : Hid (RowIn S _ (TreeIn S _ n) (Nd.kids t) _) := HK1.out.keepT hSame (fun _ h => h)
  have hbw2 : Below w.heap.size w (w1.setCell ⟨w.heap.size + 1 + 1, 3, none⟩ (.slice na (Nd.names t).length nc)) := hbw1.setCell (by show w.heap.size ≤ w.heap.size + 1 + 1; omega) _
  clear HK1 hSame hbw1
  go_wp2_with fail
  refine (toTreeS_any n hn S _ _ _ HK2.out (fun b hb => by have := hB b hb; simp; omega) (by omega)).mono ?_
  rintro e w2 ⟨v4, rfl, hv4, hb2⟩
  have hz2 := hb2.size
  simp at hz2
  obtain ⟨hc2, hf2⟩ := bcell hb2
  obtain ⟨ma, mc, rfl, -⟩ := id hv4
  have HV4 : Hid (RowIn _ w2 (TreeIn _ w2 n) (Nd.kids t) (.slice ma (Nd.kids t).length mc)) := hv4
  have hbw3 := below_step hbw2 (by simp; omega) hb2
  have HB2 : Hid (Below _ _ w2) := hb2
  have m0 : w2.cell? ⟨w.heap.size + 1 + 1, 0, none⟩ = some (.int .i64 (Nd.sort t)) := by rw [hc2 _ _ (by simp; omega)]; simp [go_sem, hc]
  have mf0 : w2.frozen? ⟨w.heap.size + 1 + 1, 0, none⟩ = false := by rw [hf2 _ _ (by simp; omega)]; simp [go_sem, hf]
  have m1 : w2.cell? ⟨w.heap.size + 1 + 1, 1, none⟩ = some (.int .i64 (Nd.num t)) := by rw [hc2 _ _ (by simp; omega)]; simp [go_sem, hc]
  have mf1 : w2.frozen? ⟨w.heap.size + 1 + 1, 1, none⟩ = false := by rw [hf2 _ _ (by simp; omega)]; simp [go_sem, hf]
  have m2 : w2.cell? ⟨w.heap.size + 1 + 1, 2, none⟩ = some (.string (Nd.text t)) := by rw [hc2 _ _ (by simp; omega)]; simp [go_sem, hc]
  have mf2 : w2.frozen? ⟨w.heap.size + 1 + 1, 2, none⟩ = false := by rw [hf2 _ _ (by simp; omega)]; simp [go_sem, hf]
  have m3 : w2.cell? ⟨w.heap.size + 1 + 1, 3, none⟩ = some (.slice na (Nd.names t).length nc) := by rw [hc2 _ _ (by simp; omega)]; simp [go_sem, hc]
  have mf3 : w2.frozen? ⟨w.heap.size + 1 + 1, 3, none⟩ = false := by rw [hf2 _ _ (by simp; omega)]; simp [go_sem, hf]
  have m4 : w2.cell? ⟨w.heap.size + 1 + 1, 4, none⟩ = some (.slice none 0 0) := by rw [hc2 _ _ (by simp; omega)]; simp [go_sem, hc]
  have mf4 : w2.frozen? ⟨w.heap.size + 1 + 1, 4, none⟩ = false := by rw [hf2 _ _ (by simp; omega)]; simp [go_sem, hf]
  have r0 : w2.cell? ⟨w.heap.size + 1, 0, none⟩ = some (.int .i64 0) := by rw [hc2 _ _ (by simp; omega)]; simp [go_sem, hc]
  have rf0 : w2.frozen? ⟨w.heap.size + 1, 0, none⟩ = false := by rw [hf2 _ _ (by simp; omega)]; simp [go_sem, hf]
  have r1 : w2.cell? ⟨w.heap.size + 1, 1, none⟩ = some (.int .i64 0) := by rw [hc2 _ _ (by simp; omega)]; simp [go_sem, hc]
  have rf1 : w2.frozen? ⟨w.heap.size + 1, 1, none⟩ = false := by rw [hf2 _ _ (by simp; omega)]; simp [go_sem, hf]
  have r2 : w2.cell? ⟨w.heap.size + 1, 2, none⟩ = some (.string ⟨#[]⟩) := by rw [hc2 _ _ (by simp; omega)]; simp [go_sem, hc]
  have rf2 : w2.frozen? ⟨w.heap.size + 1, 2, none⟩ = false := by rw [hf2 _ _ (by simp; omega)]; simp [go_sem, hf]
  have r3 : w2.cell? ⟨w.heap.size + 1, 3, none⟩ = some (.slice none 0 0) := by rw [hc2 _ _ (by simp; omega)]; simp [go_sem, hc]
  have rf3 : w2.frozen? ⟨w.heap.size + 1, 3, none⟩ = false := by rw [hf2 _ _ (by simp; omega)]; simp [go_sem, hf]
  have r4 : w2.cell? ⟨w.heap.size + 1, 4, none⟩ = some (.slice none 0 0) := by rw [hc2 _ _ (by simp; omega)]; simp [go_sem, hc]
  have rf4 : w2.frozen? ⟨w.heap.size + 1, 4, none⟩ = false := by rw [hf2 _ _ (by simp; omega)]; simp [go_sem, hf]
  clear hv4 HK2 hbw2 hb1 hb2 hc hf hc2 hf2
  have HF : Hid (TreeIn (fun b => w.heap.size ≤ b ∧ b < (put5 (w2.setCell ⟨w.heap.size + 1 + 1, 4, none⟩ (.slice ma (Nd.kids t).length mc)) (w.heap.size + 1) 0 (.int .i64 (Nd.sort t)) (.int .i64 (Nd.num t)) (.string (Nd.text t)) (.slice na (Nd.names t).length nc) (.slice ma (Nd.kids t).length mc)).heap.size)
      (put5 (w2.setCell ⟨w.heap.size + 1 + 1, 4, none⟩ (.slice ma (Nd.kids t).length mc)) (w.heap.size + 1) 0 (.int .i64 (Nd.sort t)) (.int .i64 (Nd.num t)) (.string (Nd.text t)) (.slice na (Nd.names t).length nc) (.slice ma (Nd.kids t).length mc))
      (n + 1) t (.int .i64 (Nd.sort t)) (.int .i64 (Nd.num t)) (.string (Nd.text t)) (.slice na (Nd.names t).length nc) (.slice ma (Nd.kids t).length mc)) := by
    refine ⟨rfl, rfl, rfl, hs, hw0, hw1, HV3.out.keep (fun b hb => ?_) (fun b hb => ?_), HV4.out.keepT (fun b hb => ?_) (fun b hb => ?_)⟩
    · simp at hb
      rw [put5_other (by omega), Below.heap_setCell _ _ _ _ (by show b ≠ w.heap.size + 1 + 1; omega), HB2.out.block b (by simp; omega), Below.heap_setCell _ _ _ _ (by show b ≠ w.heap.size + 1 + 1; omega)]
    · simp at hb; rw [put5_size]; simp; omega
    · simp at hb
      rw [put5_other (by omega), Below.heap_setCell _ _ _ _ (by show b ≠ w.heap.size + 1 + 1; omega)]
    · simp at hb; rw [put5_size]; simp; omega
  have HE : Hid (Below w.heap.size w (put5 (w2.setCell ⟨w.heap.size + 1 + 1, 4, none⟩ (.slice ma (Nd.kids t).length mc)) (w.heap.size + 1) 0 (.int .i64 (Nd.sort t)) (.int .i64 (Nd.num t)) (.string (Nd.text t)) (.slice na (Nd.names t).length nc) (.slice ma (Nd.kids t).length mc))) :=
    put5_below (hbw3.setCell (by show w.heap.size ≤ w.heap.size + 1 + 1; omega) _) (by omega)
  clear HV3 HV4 HB2 hbw3 hw0 hw1 hs
  go_wp2_with fail
  refine bodyPost_ret (v := .agg #[.int .i64 (Nd.sort t), .int .i64 (Nd.num t), .string (Nd.text t), .slice na (Nd.names t).length nc, .slice ma (Nd.kids t).length mc]) (by simp [results, Tryz.results16, go_sem, r0, r1, r2, r3, r4]) rfl ?_
  exact ⟨_, _, _, _, _, rfl, HF.out, HE.out⟩

theorem toTree_any : ∀ n, ToSaid n := by
  intro n
  induction n with
  | zero => intro S t c0 c1 c2 c3 c4 w ht; exact ht.elim
  | succ n ih => exact toTree_step n ih

end Go.Proofs.YtpalkdcgbbbmeaaGreatDoor

/-
  The copies of schemas that the laws make: what toKindS and toKind answer.
-/
namespace Go.Proofs.YtpalkdcgbbbmeaaGreatDoor
open Go.RowKit

theorem Tryz.info_kind : (Tryz.prog.info? 26).map (fun i => (i.zero, i.size, i.bytes)) = some (some (.agg #[.int .i64 0, .slice none 0 0, .slice none 0 0]), 3, 56) := by kernel_rfl

theorem make_kinds (n : Nat) (hn : n ≤ 1048576) (w : World) : (Instr.makeSlice 24 (.int .i64 (n : Int)) (.int .i64 (n : Int))).run Tryz.prog w =
    .ok (.slice (some ⟨w.heap.size, 0, none⟩) n n) (w.alloc (.cells (madeCells #[.int .i64 0, .slice none 0 0, .slice none 0 0] (n * 3)) 26)) := by
  obtain ⟨i0, hi, hz0, hz1, hz2⟩ := info_parts Tryz.info_kind
  have := run_make (P := Tryz.prog) w 24 26 i0 _ Tryz.underlying24 hi hz0 .i64 .i64 (n : Int) (n : Int) (by omega) (by omega) (by rw [hz2]; omega) (by omega)
  rw [hz1] at this
  simpa [Value.cells] using this

/-- toKind at schemas of at most n levels. -/
def ToKSaid (n : Nat) : Prop := ∀ (S : Nat → Prop) (t : K n) (c0 c1 c2 : Value) (w : World), KindIn S w n t c0 c1 c2 → (∀ b, S b → b < w.heap.size) → szK n t ≤ 1048576 →
  Calls Tryz.prog 15 #[.agg #[c0, c1, c2]] w fun e w' => ∃ d0 d1 d2, e = .returned (.agg #[d0, d1, d2]) ∧ KindIn (fun b => w.heap.size ≤ b ∧ b < w'.heap.size) w' n t d0 d1 d2 ∧ Below w.heap.size w w'

set_option maxHeartbeats 400000 in
theorem toKindS_any (n : Nat) (hn : ToKSaid n) (S : Nat → Prop) (l : List (K n)) (v : Value) (w : World) (hl : RowIn3 S w (KindIn S w n) l v) (hB : ∀ b, S b → b < w.heap.size) (hsz : sumL (fun k => szK n k + 1) l ≤ 1048576) :
    Calls Tryz.prog 48 #[v] w fun e w' => ∃ v', e = .returned v' ∧ RowIn3 (fun b => w.heap.size ≤ b ∧ b < w'.heap.size) w' (KindIn (fun b => w.heap.size ≤ b ∧ b < w'.heap.size) w' n) l v' ∧ Below w.heap.size w w' := by
  obtain ⟨ao, cap, rfl, hlen, hc⟩ := hl
  have hlN := sumL_length (szK n) l
  have hmk := make_kinds l.length (by omega)
  go_enter Tryz.func48, Tryz.ntmps48
  go_wp2_with fail
  go_loopw [4] (fun i wr => ∃ (k : Nat) (F : Nat → Value), k ≤ l.length ∧ i = .int .i64 k ∧ wr.rowIs w.heap.size 26 (l.length * 3) F ∧ Below w.heap.size w wr ∧
      ∀ j (h : j < l.length), j < k → KindIn (fun b => w.heap.size < b ∧ b < wr.heap.size) wr n l[j] (F (j * 3)) (F (j * 3 + 1)) (F (j * 3 + 2)))
    (fun i _ => l.length - (intOf i).toNat)
  case atStart =>
    obtain ⟨F, hF⟩ := rowIs_made_any w #[.int .i64 0, .slice none 0 0, .slice none 0 0] (l.length * 3) 26
    exact ⟨0, F, Nat.zero_le _, rfl, hF, (Below.refl _ _).alloc (Nat.le_refl _) _, fun j _ h => absurd h (Nat.not_lt_zero _)⟩
  case round =>
    obtain ⟨k, F, hk, rfl, hrow, hbel, hdone⟩ := hrel
    by_cases hlt : k < l.length
    · obtain ⟨b, off, rfl, hbB, hcell⟩ := hc (by intro h; rw [h] at hlt; simp at hlt)
      obtain ⟨d0, d1, d2, e0, e1, e2, hr⟩ := hcell k hlt
      have f0 := (hbel.cell (p := ⟨b, off + k * 3, none⟩) (hB b hbB)).trans e0
      have f1 := (hbel.cell (p := ⟨b, off + k * 3 + 1, none⟩) (hB b hbB)).trans e1
      have f2 := (hbel.cell (p := ⟨b, off + k * 3 + 2, none⟩) (hB b hbB)).trans e2
      clear hc hcell e0 e1 e2
      have hr' := hr.keep (same_below hbel hB) (fun _ h => h)
      have hsz' := hbel.size
      have hone := sumL_mono (fun k => szK n k + 1) l l[k] (List.getElem_mem hlt)
      clear hr hmk
      go_wp2_with fail
      refine (hn S l[k] d0 d1 d2 wr hr' (fun b hb => Nat.lt_of_lt_of_le (hB b hb) hsz') (by omega)).mono ?_
      rintro e w1 ⟨g0, g1, g2, rfl, hin, hb1⟩
      have hz1 := hb1.size
      have hlt1 := hrow.lt
      have hrow1 : w1.rowIs w.heap.size 26 (l.length * 3) F := hrow.of_block (hb1.block _ hlt1)
      have q0 := hrow1.cell (i := k * 3) (by omega)
      have q1 := hrow1.cell (i := k * 3 + 1) (by omega)
      have q2 := hrow1.cell (i := k * 3 + 2) (by omega)
      have r0 := hrow1.frozen (k * 3)
      have r1 := hrow1.frozen (k * 3 + 1)
      have r2 := hrow1.frozen (k * 3 + 2)
      obtain ⟨x0, xa, xl, xc, ya, yl, yc, rfl, rfl, rfl⟩ := hin.shape
      have HR : Hid (∀ j (h : j < l.length), j < k + 1 → KindIn (fun b => w.heap.size < b ∧ b < (put3 w1 w.heap.size (k * 3) (.int .i64 x0) (.slice xa xl xc) (.slice ya yl yc)).heap.size)
          (put3 w1 w.heap.size (k * 3) (.int .i64 x0) (.slice xa xl xc) (.slice ya yl yc)) n l[j]
          (put3F (k * 3) F (.int .i64 x0) (.slice xa xl xc) (.slice ya yl yc) (j * 3)) (put3F (k * 3) F (.int .i64 x0) (.slice xa xl xc) (.slice ya yl yc) (j * 3 + 1))
          (put3F (k * 3) F (.int .i64 x0) (.slice xa xl xc) (.slice ya yl yc) (j * 3 + 2))) := by
        intro j hj hjk
        by_cases hjk' : j < k
        · rw [put3F_other _ _ _ _ _ (j * 3) (by omega), put3F_other _ _ _ _ _ (j * 3 + 1) (by omega), put3F_other _ _ _ _ _ (j * 3 + 2) (by omega)]
          refine (hdone j hj hjk').keep (fun b hb => ?_) (fun b hb => ?_)
          · rw [put3_other (by omega)]; exact hb1.block b hb.2
          · rw [put3_size]; omega
        · have : j = k := by omega
          subst this
          rw [put3F_0, put3F_1, put3F_2]
          refine hin.keep (fun b hb => ?_) (fun b hb => ?_)
          · rw [put3_other (by omega)]
          · rw [put3_size]; omega
      have HW := put3_row hrow1 (k * 3) (.int .i64 x0) (.slice xa xl xc) (.slice ya yl yc)
      have HB := put3_below (o := k * 3) (g0 := .int .i64 x0) (g1 := .slice xa xl xc) (g2 := .slice ya yl yc) (below_step hbel hsz' hb1) (Nat.le_refl _)
      have HA : Hid (_ ∧ _ ∧ _) := ⟨HW, HB, HR.out⟩
      clear HW HB HR hdone hrow hbel hb1 hin hn hrow1 f0 f1 f2 hr' hone
      go_wp2_with fail
      go_roundw
      case rel => exact ⟨k + 1, _, by omega, by go_num, HA.out.1, HA.out.2.1, HA.out.2.2⟩
      case measure => simp [intOf]; omega
    · have hkl : k = l.length := by omega
      have HF : Hid (RowIn3 (fun b => w.heap.size ≤ b ∧ b < wr.heap.size) wr (KindIn (fun b => w.heap.size ≤ b ∧ b < wr.heap.size) wr n) l (.slice (some ⟨w.heap.size, 0, none⟩) l.length l.length)) := by
        refine ⟨_, _, rfl, hlen, fun _ => ⟨w.heap.size, 0, rfl, ⟨Nat.le_refl _, hrow.lt⟩, fun i hi => ?_⟩⟩
        refine ⟨_, _, _, ?_, ?_, ?_, (hdone i hi (by omega)).keep (fun _ _ => rfl) (fun b hb => ⟨by omega, hb.2⟩)⟩
        · simpa using hrow.cell (i := i * 3) (by omega)
        · simpa using hrow.cell (i := i * 3 + 1) (by omega)
        · simpa using hrow.cell (i := i * 3 + 2) (by omega)
      clear hkl hc hrow hmk hdone
      go_wp2_with fail
      go_ret
      exact ⟨_, rfl, HF.out, hbel⟩

set_option maxHeartbeats 400000 in
theorem toKind_step (n : Nat) (hn : ToKSaid n) : ToKSaid (n + 1) := by
  intro S t c0 c1 c2 w ht hB hsz
  obtain ⟨rfl, hw0, h3, h4⟩ := ht
  have hT : szK (n + 1) t = szN (Kd.names t) + sumL (fun k => szK n k + 1) (Kd.kids t) := rfl
  rw [hT] at hsz
  clear hT
  have hb3 : Below w.heap.size w (((w.alloc (.cells #[.int .i64 (Kd.sort t), c1, c2] 41)).alloc
      (.cells #[.int .i64 0, .slice none 0 0, .slice none 0 0] 26)).alloc (.cells #[.int .i64 (Kd.sort t), .slice none 0 0, .slice none 0 0] 26)) :=
    (((Below.refl _ _).alloc (Nat.le_refl _) _).alloc (by simp) _).alloc (by simp; omega) _
  have h3' := h3.keep (same_below hb3 hB) (fun _ h => h)
  have HK : Hid (RowIn3 S _ (KindIn S _ n) (Kd.kids t) c2) := h4.keepK (same_below hb3 hB) (fun _ h => h)
  obtain ⟨ka, kc, hk4, -⟩ := h4
  subst hk4
  clear h3
  go_enter Tryz.func15, Tryz.ntmps15
  go_wp2_with fail
  refine (toStringS_any S _ _ _ h3' (fun b hb => by have := hB b hb; simp; omega) (by omega)).mono ?_
  rintro e w1 ⟨v3, rfl, hv3, hb1⟩
  have hz1 := hb1.size
  simp at hz1
  obtain ⟨hc, hf⟩ := bcell hb1
  obtain ⟨na, nc, rfl, -⟩ := id hv3
  have HV3 : Hid (StrsIn _ w1 (Kd.names t) (.slice na (Kd.names t).length nc)) := hv3
  have hbw1 := below_step hb3 (by simp; omega) hb1
  have HK1 : Hid (RowIn3 S w1 (KindIn S w1 n) (Kd.kids t) _) := HK.out.keepK (same_below hb1 (fun b hb => by have := hB b hb; simp; omega)) (fun _ h => h)
  clear hv3 HK h3' hb3
  have hfz : w1.frozen? ⟨w.heap.size + 1 + 1, 1, none⟩ = false := by rw [hf _ _ (by simp)]; simp [go_sem]
  have hSame : Same S w1 (w1.setCell ⟨w.heap.size + 1 + 1, 1, none⟩ (.slice na (Kd.names t).length nc)) := fun b hb => Below.heap_setCell _ _ _ _ (by have := hB b hb; show b ≠ w.heap.size + 1 + 1; omega)
  have HK2 : Hid (RowIn3 S _ (KindIn S _ n) (Kd.kids t) _) := HK1.out.keepK hSame (fun _ h => h)
  have hbw2 : Below w.heap.size w (w1.setCell ⟨w.heap.size + 1 + 1, 1, none⟩ (.slice na (Kd.names t).length nc)) := hbw1.setCell (by show w.heap.size ≤ w.heap.size + 1 + 1; omega) _
  clear HK1 hSame hbw1
  go_wp2_with fail
  refine (toKindS_any n hn S _ _ _ HK2.out (fun b hb => by have := hB b hb; simp; omega) (by omega)).mono ?_
  rintro e w2 ⟨v4, rfl, hv4, hb2⟩
  have hz2 := hb2.size
  simp at hz2
  obtain ⟨hc2, hf2⟩ := bcell hb2
  obtain ⟨ma, mc, rfl, -⟩ := id hv4
  have HV4 : Hid (RowIn3 _ w2 (KindIn _ w2 n) (Kd.kids t) (.slice ma (Kd.kids t).length mc)) := hv4
  have hbw3 := below_step hbw2 (by simp; omega) hb2
  have HB2 : Hid (Below _ _ w2) := hb2
  have m0 : w2.cell? ⟨w.heap.size + 1 + 1, 0, none⟩ = some (.int .i64 (Kd.sort t)) := by rw [hc2 _ _ (by simp; omega)]; simp [go_sem, hc]
  have mf0 : w2.frozen? ⟨w.heap.size + 1 + 1, 0, none⟩ = false := by rw [hf2 _ _ (by simp; omega)]; simp [go_sem, hf]
  have m1 : w2.cell? ⟨w.heap.size + 1 + 1, 1, none⟩ = some (.slice na (Kd.names t).length nc) := by rw [hc2 _ _ (by simp; omega)]; simp [go_sem, hc]
  have mf1 : w2.frozen? ⟨w.heap.size + 1 + 1, 1, none⟩ = false := by rw [hf2 _ _ (by simp; omega)]; simp [go_sem, hf]
  have m2 : w2.cell? ⟨w.heap.size + 1 + 1, 2, none⟩ = some (.slice none 0 0) := by rw [hc2 _ _ (by simp; omega)]; simp [go_sem, hc]
  have mf2 : w2.frozen? ⟨w.heap.size + 1 + 1, 2, none⟩ = false := by rw [hf2 _ _ (by simp; omega)]; simp [go_sem, hf]
  have r0 : w2.cell? ⟨w.heap.size + 1, 0, none⟩ = some (.int .i64 0) := by rw [hc2 _ _ (by simp; omega)]; simp [go_sem, hc]
  have rf0 : w2.frozen? ⟨w.heap.size + 1, 0, none⟩ = false := by rw [hf2 _ _ (by simp; omega)]; simp [go_sem, hf]
  have r1 : w2.cell? ⟨w.heap.size + 1, 1, none⟩ = some (.slice none 0 0) := by rw [hc2 _ _ (by simp; omega)]; simp [go_sem, hc]
  have rf1 : w2.frozen? ⟨w.heap.size + 1, 1, none⟩ = false := by rw [hf2 _ _ (by simp; omega)]; simp [go_sem, hf]
  have r2 : w2.cell? ⟨w.heap.size + 1, 2, none⟩ = some (.slice none 0 0) := by rw [hc2 _ _ (by simp; omega)]; simp [go_sem, hc]
  have rf2 : w2.frozen? ⟨w.heap.size + 1, 2, none⟩ = false := by rw [hf2 _ _ (by simp; omega)]; simp [go_sem, hf]
  clear hv4 HK2 hbw2 hb1 hb2 hc hf hc2 hf2
  have HF : Hid (KindIn (fun b => w.heap.size ≤ b ∧ b < (put3 (w2.setCell ⟨w.heap.size + 1 + 1, 2, none⟩ (.slice ma (Kd.kids t).length mc)) (w.heap.size + 1) 0 (.int .i64 (Kd.sort t)) (.slice na (Kd.names t).length nc) (.slice ma (Kd.kids t).length mc)).heap.size)
      (put3 (w2.setCell ⟨w.heap.size + 1 + 1, 2, none⟩ (.slice ma (Kd.kids t).length mc)) (w.heap.size + 1) 0 (.int .i64 (Kd.sort t)) (.slice na (Kd.names t).length nc) (.slice ma (Kd.kids t).length mc))
      (n + 1) t (.int .i64 (Kd.sort t)) (.slice na (Kd.names t).length nc) (.slice ma (Kd.kids t).length mc)) := by
    refine ⟨rfl, hw0, HV3.out.keep (fun b hb => ?_) (fun b hb => ?_), HV4.out.keepK (fun b hb => ?_) (fun b hb => ?_)⟩
    · simp at hb
      rw [put3_other (by omega), Below.heap_setCell _ _ _ _ (by show b ≠ w.heap.size + 1 + 1; omega), HB2.out.block b (by simp; omega), Below.heap_setCell _ _ _ _ (by show b ≠ w.heap.size + 1 + 1; omega)]
    · simp at hb; rw [put3_size]; simp; omega
    · simp at hb
      rw [put3_other (by omega), Below.heap_setCell _ _ _ _ (by show b ≠ w.heap.size + 1 + 1; omega)]
    · simp at hb; rw [put3_size]; simp; omega
  have HE : Hid (Below w.heap.size w (put3 (w2.setCell ⟨w.heap.size + 1 + 1, 2, none⟩ (.slice ma (Kd.kids t).length mc)) (w.heap.size + 1) 0 (.int .i64 (Kd.sort t)) (.slice na (Kd.names t).length nc) (.slice ma (Kd.kids t).length mc))) :=
    put3_below (hbw3.setCell (by show w.heap.size ≤ w.heap.size + 1 + 1; omega) _) (by omega)
  clear HV3 HV4 HB2 hbw3 hw0
  go_wp2_with fail
  refine bodyPost_ret (v := .agg #[.int .i64 (Kd.sort t), .slice na (Kd.names t).length nc, .slice ma (Kd.kids t).length mc]) (by simp [results, Tryz.results15, go_sem, r0, r1, r2]) rfl ?_
  exact ⟨_, _, _, rfl, HF.out, HE.out⟩

theorem toKind_any : ∀ n, ToKSaid n := by
  intro n
  induction n with
  | zero => intro S t c0 c1 c2 w ht; exact ht.elim
  | succ n ih => exact toKind_step n ih

end Go.Proofs.YtpalkdcgbbbmeaaGreatDoor
