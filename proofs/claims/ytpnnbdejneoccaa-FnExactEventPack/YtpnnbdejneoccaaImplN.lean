/-
  The program's own functions on names: what they answer.
-/
import Derived.Test.YtpnnbdejneoccaaPlain2
import Derived.Test.YtpnnbdejneoccaaB1
namespace Go.Proofs.Ytpnnbdejneoccaa
open Go.RowKit

theorem bool_ret {a b : Bool} (h : a = b) : Ending.returned (.bool a) = .returned (.bool b) := by rw [h]

def digB (n : Int) : Bool := decide (48 ≤ n ∧ n ≤ 57)

set_option maxHeartbeats 400000 in
theorem isDigit_any (x : Int) (w : World) (_h0 : 0 ≤ x) (_h1 : x ≤ 255) : Calls Try.prog 62 #[.int .u8 x] w fun e w' => e = .returned (.bool (digB x)) ∧ w' = w := by
  by_cases h : 48 ≤ x <;> by_cases h2 : x ≤ 57
  all_goals
    go_enter Try.func62, Try.ntmps62
    go_wp2
    go_ret
    exact ⟨bool_ret (by simp [digB, h, h2]; try omega), rfl⟩

theorem head_eq (s : ByteArray) (h : 0 < s.size) : s.data.toList.headD 0 = s[0] := by
  cases hx : s.data.toList with
  | nil => have := congrArg List.length hx; simp at this; simp [this] at h
  | cons a r => simp [ByteArray.getElem_eq_getElem_data, ← Array.getElem_toList, hx]

theorem nmByte_dig (c : UInt8) (h : nmByte c = true) : upByte c = !digB c.toNat := by
  unfold nmByte at h
  rw [decide_eq_true_eq] at h
  unfold upByte digB
  rcases h with h | h
  · rw [decide_eq_true h, decide_eq_false (by omega)]; rfl
  · rw [decide_eq_false (by omega), decide_eq_true h]; rfl

/-- A name, as the program asks it: no digit ahead. -/
theorem nameB_eq (s : ByteArray) (h1 : 1 ≤ s.size) (h2 : s.size ≤ 8) : nameB s = (!digB (s[0].toNat : Int) && s.data.toList.all nmByte) := by
  unfold nameB
  rw [head_eq s (by omega)]
  cases hall : s.data.toList.all nmByte with
  | false => simp
  | true =>
    have h0 : nmByte s[0] = true := List.all_eq_true.1 hall _ (by simp [ByteArray.getElem_eq_getElem_data])
    rw [nmByte_dig _ h0]; simp [h1, h2]

set_option maxHeartbeats 400000 in
theorem isName_any (s : ByteArray) (w : World) (hs : s.size ≤ maxLen) : Calls Try.prog 43 #[.string s] w fun e w' => e = .returned (.bool (nameB s)) ∧ w' = w := by
  unfold maxLen at hs
  by_cases hl : 1 ≤ s.size ∧ s.size ≤ 8
  · obtain ⟨hl1, hl2⟩ := hl
    have HN : Hid (nameB s = (!digB (s[0].toNat : Int) && s.data.toList.all nmByte)) := nameB_eq s hl1 hl2
    have hu0 : ∀ k (h : k < s.size), (s[k].toNat : Int) ≤ 255 := fun k h => by have := s[k].toNat_lt; omega
    have hu00 := hu0 0 (by omega)
    cases hd : digB (s[0].toNat : Int) with
    | true =>
      have HF : Hid (nameB s = false) := by show _ = _; rw [HN.out, hd]; simp
      clear hu0
      go_enter Try.func43, Try.ntmps43
      go_wp2_with fail
      refine (isDigit_any _ _ (by omega) hu00).mono ?_
      rintro e w' ⟨rfl, rfl⟩
      rw [hd]
      go_wp2_with fail
      go_ret
      exact ⟨bool_ret HF.out.symm, rfl⟩
    | false =>
      have HD := hidF hd
      have HU := hidF hu0
      clear hu0 hd
      go_enter Try.func43, Try.ntmps43
      go_wp2_with fail
      refine (isDigit_any _ _ (by omega) hu00).mono ?_
      rintro e w' ⟨rfl, rfl⟩
      rw [HD.out]
      go_wp2_with fail
      go_loop [19] (fun i => ∃ k : Nat, k ≤ s.size ∧ i = .int .i64 k ∧ (s.data.toList.take k).all nmByte = true) (fun i => s.size - (intOf i).toNat)
      case atStart => exact ⟨0, Nat.zero_le _, rfl, by simp⟩
      case round =>
        obtain ⟨k, hk, rfl, hall⟩ := hrel
        have HA := hidF hall
        clear hall
        by_cases hlt : k < s.size
        · have huk := HU.out k hlt
          have HDig : Hid (digB (s[k].toNat : Int) = decide (48 ≤ (s[k].toNat : Int) ∧ (s[k].toNat : Int) ≤ 57)) := rfl
          cases hb : nmByte s[k] with
          | true =>
            have HB : Hid (nmByte s[k] = true) := hb
            unfold nmByte at hb
            rw [decide_eq_true_eq] at hb
            rcases hb with ⟨h1, h2⟩ | ⟨h1, h2⟩
            · have hdk : digB (s[k].toNat : Int) = false := by rw [HDig.out]; exact decide_eq_false (by omega)
              go_wp2_with (go_at_call 62; refine (isDigit_any _ _ (by omega) huk).mono ?_; rintro e w' ⟨rfl, rfl⟩; rw [hdk])
              go_round
              case rel => exact ⟨k + 1, by omega, by go_num, all_take_succ k hlt HA.out HB.out⟩
              case measure => simp [intOf]; omega
            · have hdk : digB (s[k].toNat : Int) = true := by rw [HDig.out]; exact decide_eq_true ⟨by omega, by omega⟩
              go_wp2_with (go_at_call 62; refine (isDigit_any _ _ (by omega) huk).mono ?_; rintro e w' ⟨rfl, rfl⟩; rw [hdk])
              go_round
              case rel => exact ⟨k + 1, by omega, by go_num, all_take_succ k hlt HA.out HB.out⟩
              case measure => simp [intOf]; omega
          | false =>
            have HF : Hid (nameB s = false) := by show _ = _; rw [nameB, all_false_at k hlt hb]; simp
            unfold nmByte at hb
            rw [decide_eq_false_iff_not] at hb
            have hdk : digB (s[k].toNat : Int) = false := by rw [HDig.out]; exact decide_eq_false (by omega)
            rcases (show (s[k].toNat : Int) < 97 ∨ 122 < (s[k].toNat : Int) by omega) with h1 | h1
            all_goals
              clear hb
              go_wp2_with (go_at_call 62; refine (isDigit_any _ _ (by omega) huk).mono ?_; rintro e w' ⟨rfl, rfl⟩; rw [hdk])
              go_ret
              exact ⟨bool_ret HF.out.symm, rfl⟩
        · have HF : Hid (nameB s = true) := by show _ = _; rw [HN.out, HD.out, all_take_all k (by omega) HA.out]; simp
          go_wp2_with fail
          go_ret
          exact ⟨bool_ret HF.out.symm, rfl⟩
  · have HF : Hid (nameB s = false) := by show _ = _; rw [nameB, decide_eq_false hl]; simp
    rcases (show s.size < 1 ∨ 8 < s.size by omega) with h1 | h1
    all_goals
      clear hl
      go_enter Try.func43, Try.ntmps43
      go_wp2_with fail
      go_ret
      exact ⟨bool_ret HF.out.symm, rfl⟩

end Go.Proofs.Ytpnnbdejneoccaa
