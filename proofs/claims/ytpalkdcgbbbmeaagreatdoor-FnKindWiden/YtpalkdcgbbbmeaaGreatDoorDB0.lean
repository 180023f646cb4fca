/-
  What the specification draws: l6Many.
-/
import Derived.Test.YtpalkdcgbbbmeaaGreatDoorDRd
namespace Go.Proofs.YtpalkdcgbbbmeaaGreatDoor
open Go.RowKit

set_option maxRecDepth 20000 in
set_option maxHeartbeats 4000000 in
theorem l6Many_any (s : ByteArray) (n : Nat) (w : World) (h : s.size * n ≤ 10000) (hn : n ≤ 10000) :
    Calls Tryz.prog 63 #[.string s, .int .i64 (n : Int)] w fun e w' => ∃ x : ByteArray, e = .returned (.string x) ∧ x.size ≤ 10000 ∧ w' = w := by
  go_enter Tryz.func63, Tryz.ntmps63
  go_wp2_with fail
  go_loopw [0, 1, 5] (fun sv nv ov wr => ∃ (s' : ByteArray) (n' : Nat) (o' : ByteArray), sv = .string s' ∧ nv = .int .i64 (n' : Int) ∧ ov = .string o' ∧ o'.size + s'.size * n' ≤ 10000 ∧ n' ≤ 10000 ∧ wr = w) (fun _ nv _ _ => (intOf nv).toNat)
  case atStart => exact ⟨s, n, ⟨#[]⟩, rfl, rfl, rfl, by show 0 + s.size * n ≤ 10000; rw [Nat.zero_add]; exact h, hn, rfl⟩
  case round =>
    obtain ⟨s', n', o', rfl, rfl, rfl, hle, hn', rfl⟩ := hrel
    clear h hn
    by_cases h0 : 0 < n'
    · have h0i : (0 : Int) < (n' : Int) := by omega
      have hs1 : s'.size ≤ 10000 := by have := Nat.le_mul_of_pos_right s'.size h0; omega
      have hc1 : ¬ 9223372036854775807 < s'.size + s'.size := by omega
      have hc2 : ¬ 9223372036854775807 < o'.size + s'.size := by omega
      have hq : n' = 2 * (n' / 2) + n' % 2 := by omega
      have hmul : s'.size * n' = 2 * (s'.size * (n' / 2)) + s'.size * (n' % 2) := by
        have : s'.size * n' = s'.size * (2 * (n' / 2) + n' % 2) := by rw [← hq]
        rw [this, Nat.mul_add, Nat.mul_left_comm]
      have hmul2 : (s'.size + s'.size) * (n' / 2) = 2 * (s'.size * (n' / 2)) := by rw [← Nat.two_mul, Nat.mul_assoc]
      have HM : Hid (s'.size * n' = 2 * (s'.size * (n' / 2)) + s'.size * (n' % 2) ∧ (s'.size + s'.size) * (n' / 2) = 2 * (s'.size * (n' / 2)) ∧ o'.size + s'.size * n' ≤ 10000) := ⟨hmul, hmul2, hle⟩
      clear hmul hmul2 hle hq
      have hr : n' % 2 = 0 ∨ n' % 2 = 1 := by omega
      rcases hr with hr | hr
      · have hri : ¬ (n' : Int) % 2 = 1 := by omega
        go_wp2_with fail
        go_roundw
        case rel => exact ⟨s' ++ s', n' / 2, o', rfl, by go_num, rfl, by rw [ByteArray.size_append, HM.out.2.1]; have := HM.out.1; rw [hr] at this; have := HM.out.2.2; omega, by omega, trivial⟩
        case measure => simp [intOf]; omega
      · have hri : (n' : Int) % 2 = 1 := by omega
        go_wp2_with fail
        go_roundw
        case rel => exact ⟨s' ++ s', n' / 2, o' ++ s', rfl, by go_num, rfl, by rw [ByteArray.size_append, ByteArray.size_append, HM.out.2.1]; have := HM.out.1; rw [hr] at this; have := HM.out.2.2; omega, by omega, trivial⟩
        case measure => simp [intOf]; omega
    · have h0i : ¬ (0 : Int) < (n' : Int) := by omega
      go_wp2_with fail
      go_ret
      exact ⟨o', rfl, by omega, rfl⟩

end Go.Proofs.YtpalkdcgbbbmeaaGreatDoor
