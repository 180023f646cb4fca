/-
  The program's own functions on one node: areFormNames, hasJustItsSort.
-/
import Derived.Test.YtbhemjedjnaajafDoorImpl
namespace Go.Proofs.YtbhemjedjnaajafDoor
open Go.RowKit

set_option maxHeartbeats 1000000 in
theorem areFormNames_any (S : Nat → Prop) (l : List ByteArray) (v : Value) (w : World) (hl : StrsIn S w l v) :
    Calls Tryd.prog 72 #[v] w fun e w' => e = .returned (.bool (riseB l)) ∧ w' = w := by
  obtain ⟨ao, cap, rfl, hlen, hs, hc⟩ := hl
  unfold maxLen at hlen
  go_enter Tryd.func72, Tryd.ntmps72
  go_wp2_with fail
  go_loop [7] (fun i => ∃ k : Nat, k ≤ l.length ∧ i = .int .i64 k ∧ riseTo l k = true) (fun i => l.length - (intOf i).toNat)
  case atStart => exact ⟨0, Nat.zero_le _, rfl, by simp [riseTo]⟩
  case round =>
    obtain ⟨k, hk, rfl, hall⟩ := hrel
    have HA : Hid (riseTo l k = true) := hall
    clear hall
    by_cases hlt : k < l.length
    · obtain ⟨b, off, rfl, hbB, hcell⟩ := hc (by intro h; rw [h] at hlt; simp at hlt)
      have f0 := hcell k hlt
      have hsk := hs l[k] (List.getElem_mem hlt)
      have hgk : l.getD k ByteArray.empty = l[k] := by simp [List.getD, hlt]
      cases hnm : nameB l[k] with
      | false =>
        have HF : Hid (riseB l = false) := riseTo_false l k hlt (by simp only [riseAt, hgk, hnm, Bool.false_and])
        have HC : Hid (∀ w, Calls Tryd.prog 83 #[.string l[k]] w fun e w' => e = .returned (.bool false) ∧ w' = w) := fun w => by rw [← hnm]; exact isName_any _ w hsk
        clear hc hs hcell hgk hnm
        generalize l[k] = s at *
        go_wp2_with (go_at_call 83; refine (HC.out _).mono ?_; rintro e w' ⟨rfl, rfl⟩)
        go_ret
        exact ⟨bool_ret HF.out.symm, rfl⟩
      | true =>
        have HC : Hid (∀ w, Calls Tryd.prog 83 #[.string l[k]] w fun e w' => e = .returned (.bool true) ∧ w' = w) := fun w => by rw [← hnm]; exact isName_any _ w hsk
        rcases Nat.eq_zero_or_pos k with rfl | hkp
        · have HR : Hid (riseTo l (0 + 1) = true) := by show _ = _; rw [riseTo_succ, HA.out, riseAt, hgk, hnm]; rfl
          clear hc hs hcell hgk hnm
          rw [Nat.add_zero] at f0
          generalize l[0] = s at *
          go_wp2_with (go_at_call 83; refine (HC.out _).mono ?_; rintro e w' ⟨rfl, rfl⟩)
          go_round
          case rel => exact ⟨0 + 1, by omega, by go_num, HR.out⟩
          case measure => simp [intOf]; omega
        · obtain ⟨j, rfl⟩ : ∃ j, k = j + 1 := ⟨k - 1, by omega⟩
          have f1 := hcell j (by omega)
          have hgj : l.getD j ByteArray.empty = l[j] := by simp [List.getD, show j < l.length by omega]
          cases hlt' : ltB l[j] l[j + 1] with
          | false =>
            have HF : Hid (riseB l = false) := riseTo_false l (j + 1) hlt (by simp only [riseAt, hgk, Nat.add_sub_cancel, hgj, hlt']; simp)
            unfold ltB at hlt'
            clear hc hs hcell hgk hgj hnm
            generalize l[j] = r at *
            generalize l[j + 1] = s at *
            go_wp2_with (go_at_call 83; refine (HC.out _).mono ?_; rintro e w' ⟨rfl, rfl⟩)
            go_ret
            exact ⟨bool_ret HF.out.symm, rfl⟩
          | true =>
            have HR : Hid (riseTo l (j + 1 + 1) = true) := by show _ = _; rw [riseTo_succ, HA.out, riseAt, hgk, hnm, Nat.add_sub_cancel, hgj, hlt']; simp
            unfold ltB at hlt'
            clear hc hs hcell hgk hgj hnm
            generalize l[j] = r at *
            generalize l[j + 1] = s at *
            go_wp2_with (go_at_call 83; refine (HC.out _).mono ?_; rintro e w' ⟨rfl, rfl⟩)
            go_round
            case rel => exact ⟨j + 1 + 1, by omega, by go_num, HR.out⟩
            case measure => simp [intOf]; omega
    · have HF : Hid (riseB l = true) := by show _ = _; rw [riseB, show l.length = k by omega]; exact HA.out
      clear hc hs
      go_wp2_with fail
      go_ret
      exact ⟨bool_ret HF.out.symm, rfl⟩

set_option maxRecDepth 100000 in
set_option maxHeartbeats 2000000 in
theorem just_1 (m : Int) (x : ByteArray) (l : List ByteArray) (ka : Option Addr) (kl kc : Nat) (w : World) (na : Option Addr) (nc : Nat) :
    Calls Tryd.prog 62 #[.agg #[.int .i64 1, .int .i64 m, .string x, .slice na l.length nc, .slice ka kl kc]] w fun e w' => e = .returned (.bool (decide (-999999999 ≤ m ∧ m ≤ 999999999) && x.toList.isEmpty && ((l.length : Int) == 0) && ((kl : Int) == 0))) ∧ Below w.heap.size w w' := by
  go_enter Tryd.func62, Tryd.ntmps62
  go_wp2_with (go_at_call 77; refine (isTreeNum_any _ _).mono ?_; rintro e w' ⟨rfl, rfl⟩)
  all_goals
    go_ret
    exact ⟨bool_ret (by simp_all), (Below.refl _ _).alloc (Nat.le_refl _) _⟩


set_option maxRecDepth 100000 in
set_option maxHeartbeats 2000000 in
theorem just_2 (m : Int) (x : ByteArray) (l : List ByteArray) (ka : Option Addr) (kl kc : Nat) (w : World) (na : Option Addr) (nc : Nat) (hx : x.size ≤ maxLen) :
    Calls Tryd.prog 62 #[.agg #[.int .i64 2, .int .i64 m, .string x, .slice na l.length nc, .slice ka kl kc]] w fun e w' => e = .returned (.bool ((m == 0) && textB x && ((l.length : Int) == 0) && ((kl : Int) == 0))) ∧ Below w.heap.size w w' := by
  go_enter Tryd.func62, Tryd.ntmps62
  go_wp2_with (go_at_call 71; refine (isTreeText_any _ _ hx).mono ?_; rintro e w' ⟨rfl, rfl⟩)
  all_goals
    go_ret
    exact ⟨bool_ret (by simp_all), (Below.refl _ _).alloc (Nat.le_refl _) _⟩


set_option maxRecDepth 100000 in
set_option maxHeartbeats 2000000 in
theorem just_3 (m : Int) (x : ByteArray) (l : List ByteArray) (ka : Option Addr) (kl kc : Nat) (w : World) (na : Option Addr) (nc : Nat) :
    Calls Tryd.prog 62 #[.agg #[.int .i64 3, .int .i64 m, .string x, .slice na l.length nc, .slice ka kl kc]] w fun e w' => e = .returned (.bool (decide (0 ≤ m ∧ m ≤ 1) && x.toList.isEmpty && ((l.length : Int) == 0) && ((kl : Int) == 0))) ∧ Below w.heap.size w w' := by
  by_cases h0 : m = 0
  · subst h0
    go_enter Tryd.func62, Tryd.ntmps62
    go_wp2_with fail
    all_goals
      go_ret
      exact ⟨bool_ret (by simp_all), (Below.refl _ _).alloc (Nat.le_refl _) _⟩
  by_cases h1 : m = 1
  · subst h1
    go_enter Tryd.func62, Tryd.ntmps62
    go_wp2_with fail
    all_goals
      go_ret
      exact ⟨bool_ret (by simp_all), (Below.refl _ _).alloc (Nat.le_refl _) _⟩
  have hd : decide (0 ≤ m ∧ m ≤ 1) = false := decide_eq_false (by omega)
  have hm0 : (m == 0) = false := by simpa using h0
  have hm1 : (m == 1) = false := by simpa using h1
  rw [hd]
  clear hd h0 h1
  go_enter Tryd.func62, Tryd.ntmps62
  go_wp2_with fail
  all_goals
    go_ret
    exact ⟨bool_ret (by simp_all), (Below.refl _ _).alloc (Nat.le_refl _) _⟩

set_option maxRecDepth 100000 in
set_option maxHeartbeats 2000000 in
theorem just_4 (m : Int) (x : ByteArray) (l : List ByteArray) (ka : Option Addr) (kl kc : Nat) (w : World) (na : Option Addr) (nc : Nat) :
    Calls Tryd.prog 62 #[.agg #[.int .i64 4, .int .i64 m, .string x, .slice na l.length nc, .slice ka kl kc]] w fun e w' => e = .returned (.bool ((m == 0) && x.toList.isEmpty && ((l.length : Int) == 0) && decide ((kl : Int) ≤ 20))) ∧ Below w.heap.size w w' := by
  go_enter Tryd.func62, Tryd.ntmps62
  go_wp2_with fail
  all_goals
    go_ret
    exact ⟨bool_ret (by simp_all), (Below.refl _ _).alloc (Nat.le_refl _) _⟩


set_option maxRecDepth 100000 in
set_option maxHeartbeats 2000000 in
theorem just_6 (m : Int) (x : ByteArray) (l : List ByteArray) (ka : Option Addr) (kl kc : Nat) (w : World) (na : Option Addr) (nc : Nat) :
    Calls Tryd.prog 62 #[.agg #[.int .i64 6, .int .i64 m, .string x, .slice na l.length nc, .slice ka kl kc]] w fun e w' => e = .returned (.bool ((m == 0) && x.toList.isEmpty && ((l.length : Int) == 0) && decide ((kl : Int) ≤ 1))) ∧ Below w.heap.size w w' := by
  go_enter Tryd.func62, Tryd.ntmps62
  go_wp2_with fail
  all_goals
    go_ret
    exact ⟨bool_ret (by simp_all), (Below.refl _ _).alloc (Nat.le_refl _) _⟩


end Go.Proofs.YtbhemjedjnaajafDoor
