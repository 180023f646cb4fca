/-
  Decimals of the specification: l6Dec.
-/
import Derived.Test.YtlinplghgamgbaaGreatDoorB13
import Derived.Test.YtlinplghgamgbaaGreatDoorB1
import Derived.Deep.RegionWith
import Derived.Laws.IdiomStrings
import Derived.Lib.ItoaMem
namespace Go.Proofs.YtlinplghgamgbaaGreatDoor
open Go.RowKit

/-- One byte as a text. -/
theorem conv_one (w : World) (c : UInt8) : (convert 73 9 (.slice (some ⟨w.heap.size, 0, none⟩) 1 1)).run Tryz.prog (w.alloc (.cells #[.int .u8 (c.toNat : Int)] 5)) = .ok (.string (bs [c])) (w.alloc (.cells #[.int .u8 (c.toNat : Int)] 5)) :=
  run_convert_bytes_back (P := Tryz.prog) _ 73 9 5 ⟨w.heap.size, 0, none⟩ 1 [c] Tryz.underlying73 Tryz.underlying5 Tryz.underlying9 (fun j hj => by
    match j, hj with
    | 0, _ => simp [Addr.add])

theorem conv_at (W : World) (N : Nat) (c : UInt8) (h : W.cell? ⟨N, 0, none⟩ = some (.int .u8 (c.toNat : Int))) : (convert 73 9 (.slice (some ⟨N, 0, none⟩) 1 1)).run Tryz.prog W = .ok (.string (bs [c])) W :=
  run_convert_bytes_back (P := Tryz.prog) W 73 9 5 ⟨N, 0, none⟩ 1 [c] Tryz.underlying73 Tryz.underlying5 Tryz.underlying9 (fun j hj => by
    match j, hj with
    | 0, _ => exact h)


set_option maxRecDepth 20000 in
set_option maxHeartbeats 1000000 in
theorem l6Dec_one (x : Int) (c : UInt8) (w : World) (h0 : 0 ≤ x) (h1 : x < 10) (hc : Hid (48 + x = (c.toNat : Int))) : Calls Tryz.prog 38 #[.int .i64 x] w fun e w' => e = .returned (.string (bs [c])) ∧ Below w.heap.size w w' := by
  have HCV : Hid ((convert 73 9 (.slice (some ⟨w.heap.size, 0, none⟩) 1 1)).run Tryz.prog (w.alloc (.cells #[.int .u8 (48 + x)] 5)) = .ok (.string (bs [c])) (w.alloc (.cells #[.int .u8 (48 + x)] 5))) := by
    show _ = _
    rw [hc.out]; exact conv_one w c
  clear hc
  go_enter Tryz.func38, Tryz.ntmps38
  go_wp2_with fail
  rw [HCV.out]
  clear HCV
  go_wp2_with fail
  go_ret
  exact ⟨rfl, (Below.refl _ _).alloc (Nat.le_refl _) _⟩

theorem digit_eq (r : Nat) (h : r < 10) : (48 : Int) + (r : Int) = ((UInt8.ofNat (48 + r)).toNat : Int) := by
  have : (UInt8.ofNat (48 + r)).toNat = 48 + r := by simp; omega
  rw [this]; omega

set_option maxRecDepth 20000 in
set_option maxHeartbeats 1000000 in
theorem l6Dec_nat (m : Nat) : ∀ (x : Nat) (w : World), x ≤ m → x ≤ 999999999 → Calls Tryz.prog 38 #[.int .i64 (x : Int)] w fun e w' => e = .returned (.string (bs (Lib.decDigits x))) ∧ Below w.heap.size w w' := by
  induction m with
  | zero =>
    intro x w hx _
    rw [Lib.decDigits_one (by omega)]
    exact l6Dec_one x _ w (by omega) (by omega) (digit_eq x (by omega))
  | succ m ih =>
    intro x w hx hmax
    by_cases h10 : x < 10
    · rw [Lib.decDigits_one h10]
      exact l6Dec_one x _ w (by omega) (by omega) (digit_eq x h10)
    have HD : Hid (Lib.decDigits x = Lib.decDigits (x / 10) ++ [UInt8.ofNat (48 + x % 10)]) := by show _ = _; rw [Lib.decDigits, dif_neg h10]
    have hlenD : (Lib.decDigits (x / 10)).length ≤ 21 := by
      have := Lib.itoa_length_le ((x / 10 : Nat) : Int) (by omega) (by omega)
      rw [Lib.itoa_nonneg] at this; omega
    obtain ⟨q, hq⟩ : ∃ q : Int, q = (x : Int) / 10 := ⟨_, rfl⟩
    have HQ : Hid (∀ W : World, Calls Tryz.prog 38 #[.int .i64 ((x : Int) / 10)] W fun e w' => e = .returned (.string (bs (Lib.decDigits (x / 10)))) ∧ Below W.heap.size W w') := fun W => by
      have := ih (x / 10) W (by omega) (by omega)
      rwa [show (((x / 10 : Nat)) : Int) = (x : Int) / 10 by omega] at this
    have hcv : ∀ (W : World) (N : Nat), W.cell? ⟨N, 0, none⟩ = some (.int .u8 (48 + (x : Int) % 10)) → (convert 73 9 (.slice (some ⟨N, 0, none⟩) 1 1)).run Tryz.prog W = .ok (.string (bs [UInt8.ofNat (48 + x % 10)])) W := fun W N hN => by
      refine conv_at W N (UInt8.ofNat (48 + x % 10)) ?_
      rw [hN, ← digit_eq (x % 10) (by omega), show (((x % 10 : Nat)) : Int) = (x : Int) % 10 by omega]
    generalize UInt8.ofNat (48 + x % 10) = c at *
    generalize Lib.decDigits (x / 10) = dl at *
    have hsz : (bs dl).size + (bs [c]).size ≤ 9223372036854775807 := by rw [bs_size, bs_size]; simp; omega
    have hsz' : (bs dl).size ≤ 21 := by rw [bs_size]; exact hlenD
    have hsc : (bs [c]).size = 1 := by rw [bs_size]; rfl
    have HA : Hid (bs dl ++ bs [c] = bs (Lib.decDigits x)) := by show _ = _; rw [HD.out, bs_append]
    clear HD hlenD
    have hw1 : IntKind.i64.wrap ((x : Int) / 10) = (x : Int) / 10 := by rw [IntKind.wrap_i64]; omega
    have hw2 : IntKind.i64.wrap ((x : Int) % 10) = (x : Int) % 10 := by rw [IntKind.wrap_i64]; omega
    have hw3 : IntKind.i64.wrap (48 + (x : Int) % 10) = 48 + (x : Int) % 10 := by rw [IntKind.wrap_i64]; omega
    have hw4 : IntKind.u8.wrap (48 + (x : Int) % 10) = 48 + (x : Int) % 10 := by rw [IntKind.wrap_u8]; omega
    have hw5 : (x : Int).tmod 10 = (x : Int) % 10 := Int.tmod_eq_emod_of_nonneg (by omega)
    clear ih hq
    go_enter Tryz.func38, Tryz.ntmps38
    go_wp2_with fail
    go_region_with (go_at_call 38; refine (HQ.out _).mono ?_; rintro e w1 ⟨rfl, hb1⟩; obtain ⟨hc1, -⟩ := bcell hb1)
    all_goals
      go_wp2_with fail
      go_ret
      refine ⟨str_ret HA.out, ?_⟩
    all_goals first
      | exact (below_step ((Below.refl _ w).drew) (Nat.le_refl _) hb1).alloc (by have := hb1.size; simp at this ⊢; omega) _
      | exact below_step (((Below.refl _ w).drew).alloc (by simp) _) (by simp) hb1
      | exact below_step (((Below.refl _ w).alloc (Nat.le_refl _) _).drew) (by simp) hb1

set_option maxRecDepth 20000 in
set_option maxHeartbeats 1000000 in
theorem l6Dec_any (x : Int) (w : World) (h0 : -999999999 ≤ x) (h1 : x ≤ 999999999) : Calls Tryz.prog 38 #[.int .i64 x] w fun e w' => e = .returned (.string (bs (Lib.itoa x))) ∧ Below w.heap.size w w' := by
  by_cases hn : 0 ≤ x
  · obtain ⟨n, rfl⟩ := Int.eq_ofNat_of_zero_le hn
    rw [Lib.itoa_nonneg]
    exact l6Dec_nat n n w (Nat.le_refl _) (by omega)
  · obtain ⟨n, hx⟩ : ∃ n : Nat, x = -(n : Int) := ⟨x.natAbs, by omega⟩
    subst hx
    have hlen : (Lib.decDigits n).length ≤ 21 := by
      have := Lib.itoa_length_le (n : Int) (by omega) (by omega)
      rw [Lib.itoa_nonneg] at this; omega
    have HQ : Hid (Calls Tryz.prog 38 #[.int .i64 (n : Int)] w _) := l6Dec_nat n n w (Nat.le_refl _) (by omega)
    have hsz : (bs (Lib.decDigits n)).size ≤ 21 := by rw [bs_size]; exact hlen
    have HA : Hid (bs [45] ++ bs (Lib.decDigits n) = bs (Lib.itoa (-(n : Int)))) := by show _ = _; rw [Lib.itoa_neg n (by omega), bs_append]; rfl
    generalize Lib.decDigits n = dl at *
    have hneg : (-(n : Int)) < 0 := by omega
    go_enter Tryz.func38, Tryz.ntmps38
    go_wp2_with fail
    refine HQ.out.mono ?_
    rintro e w1 ⟨rfl, hb1⟩
    go_wp2_with fail
    go_ret
    exact ⟨str_ret HA.out, hb1⟩

end Go.Proofs.YtlinplghgamgbaaGreatDoor
