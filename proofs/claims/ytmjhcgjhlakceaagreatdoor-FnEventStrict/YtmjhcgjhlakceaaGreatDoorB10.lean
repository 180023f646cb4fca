/-
  Several texts in one, in their order.
-/
import Derived.Test.YtmjhcgjhlakceaaGreatDoorText
import Derived.Test.YtmjhcgjhlakceaaGreatDoorB1
import Derived.Lib.ItoaMem
import Derived.Deep.RegionWith
import Derived.Laws.IdiomStrings

namespace Go.Proofs.YtmjhcgjhlakceaaGreatDoor
open Go.RowKit
def digC (c : UInt8) : Bool := decide (48 <= (c.toNat : Int) /\ (c.toNat : Int) <= 57)
def decVal (l : List UInt8) : Nat := l.foldl (fun a c => a * 10 + (c.toNat - 48)) 0
theorem dig_of (d : Nat) (h : d < 10) : (UInt8.ofNat (48 + d)).toNat = 48 + d := by
 rw [UInt8.toNat_ofNat']; omega
theorem decDigits_dig (u : Nat) : ∀ c, c ∈ Lib.decDigits u -> digC c = true := by
 induction u using Nat.strongRecOn with
 | _ u ih =>
  intro c hc
  rw [Lib.decDigits] at hc
  split at hc
  ·next h =>
   rw [List.mem_singleton] at hc; subst hc
   have := dig_of u h
   simp only [digC, this, decide_eq_true_eq]; omega
  ·next h =>
   rcases List.mem_append.1 hc with hc | hc
   ·exact ih (u / 10) (by omega) c hc
   ·rw [List.mem_singleton] at hc; subst hc
    have := dig_of (u % 10) (by omega)
    simp only [digC, this, decide_eq_true_eq]; omega
theorem decDigits_ne (u : Nat) : Lib.decDigits u ≠ [] := by
 rw [Lib.decDigits]; split <;> simp
theorem decVal_digits (u : Nat) : decVal (Lib.decDigits u) = u := by
 induction u using Nat.strongRecOn with
 | _ u ih =>
  rw [Lib.decDigits]
  split
  ·next h => simp [decVal]; omega
  ·next h =>
   have h1 := ih (u / 10) (by omega)
   unfold decVal at h1 ⊢
   rw [List.foldl_append, h1]
   simp only [List.foldl_cons, List.foldl_nil, dig_of (u % 10) (by omega)]
   omega
theorem decDigits_inj {u v : Nat} (h : Lib.decDigits u = Lib.decDigits v) : u = v := by
 rw [<- decVal_digits u, h, decVal_digits]
theorem digC_45 : digC 45 = false := by decide
theorem itoa_inj {m k : Int} (h : Lib.itoa m = Lib.itoa k) : m = k := by
 unfold Lib.itoa at h
 have no : ∀ (u : Nat) (l : List UInt8), Lib.decDigits u = 45 :: l -> False := by
  intro u l e
  have := decDigits_dig u 45 (by rw [e]; exact List.mem_cons_self ..)
  rw [digC_45] at this; cases this
 split at h <;> split at h
 ·have := decDigits_inj (List.cons.inj h).2; omega
 ·exact (no _ _ h.symm).elim
 ·exact (no _ _ h).elim
 ·have := decDigits_inj h; omega
def noDig (s : List UInt8) : Bool := !(digC (s.headD 0))
def numW (s : List UInt8) : List UInt8 := if s.head? = some 45 then 45 :: (s.drop 1).takeWhile digC else s.takeWhile digC
theorem noDig_head {s : List UInt8} (h : noDig s = true) : ∀ c r, s = c :: r -> digC c = false := by
 intro c r e; subst e; simpa [noDig] using h
theorem numW_itoa (m : Int) (post : List UInt8) (h : noDig post = true) : numW (Lib.itoa m ++ post) = Lib.itoa m := by
 unfold Lib.itoa
 split
 ·unfold numW
  rw [if_pos (by simp)]
  simp only [List.cons_append, List.drop_succ_cons, List.drop_zero]
  rw [takeWhile_all _ _ (decDigits_dig _) (noDig_head h)]
 ·unfold numW
  rw [if_neg, takeWhile_all _ _ (decDigits_dig _) (noDig_head h)]
  intro e
  cases hd : Lib.decDigits m.toNat with
  | nil => exact decDigits_ne _ hd
  | cons c r =>
   rw [hd] at e
   have hc : c = 45 := by simpa using e
   have := decDigits_dig m.toNat c (by rw [hd]; exact List.mem_cons_self ..)
   rw [hc, digC_45] at this; cases this
theorem takeWhile_prefix' {p : UInt8 -> Bool} (s : List UInt8) : s.takeWhile p ++ s.drop (s.takeWhile p).length = s := by
 induction s with
 | nil => rfl
 | cons c r ih =>
  rw [List.takeWhile_cons]
  split
  ·simpa using ih
  ·simp
theorem numW_prefix (s : List UInt8) : numW s ++ s.drop (numW s).length = s := by
 unfold numW
 split
 ·next h =>
  cases s with
  | nil => simp at h
  | cons c r =>
   have : c = 45 := by simpa using h
   subst this
   simpa using takeWhile_prefix' (p := digC) r
 ·exact takeWhile_prefix' s
def valOf (w : List UInt8) : Int := if w.head? = some 45 then -(decVal (w.drop 1) : Int) else (decVal w : Int)
theorem valOf_itoa (m : Int) : valOf (Lib.itoa m) = m := by
 unfold valOf Lib.itoa
 by_cases h : m < 0
 ·rw [if_pos h]
  simp only [List.head?_cons, if_true, List.drop_succ_cons, List.drop_zero]
  rw [decVal_digits]; omega
 ·rw [if_neg h]
  have hne : ¬ (Lib.decDigits m.toNat).head? = some 45 := by
   intro e
   cases hd : Lib.decDigits m.toNat with
   | nil => rw [hd] at e; cases e
   | cons c r =>
    rw [hd] at e
    have hc : c = 45 := by simpa using e
    have := decDigits_dig m.toNat c (by rw [hd]; exact List.mem_cons_self ..)
    rw [hc, digC_45] at this
    cases this
  rw [if_neg hne, decVal_digits]; omega
def numOf (w : List UInt8) : Option Int := if (-999999999 <= valOf w /\ valOf w <= 999999999) /\ Lib.itoa (valOf w) = w then some (valOf w) else none
theorem numOf_itoa (m : Int) (h : -999999999 <= m /\ m <= 999999999) : numOf (Lib.itoa m) = some m := by
 unfold numOf
 rw [valOf_itoa, if_pos ⟨h, rfl⟩]
theorem numOf_some {w : List UInt8} {m : Int} (h : numOf w = some m) : (-999999999 <= m /\ m <= 999999999) /\ Lib.itoa m = w := by
 unfold numOf at h
 split at h
 ·next hex => cases h; exact hex
 ·cases h
theorem numOf_none {w : List UInt8} (h : numOf w = none) (m : Int) (hm : -999999999 <= m /\ m <= 999999999) : Lib.itoa m ≠ w := by
 intro e; subst e; rw [numOf_itoa m hm] at h; cases h
end Go.Proofs.YtmjhcgjhlakceaaGreatDoor

namespace Go.Proofs.YtmjhcgjhlakceaaGreatDoor
open Go.RowKit
theorem dig_byte (r : Nat) (h : r < 10) : IntKind.u8.wrap (48 + (r : Int)) = ((UInt8.ofNat (48 + r)).toNat : Int) := by
 have : (UInt8.ofNat (48 + r)).toNat = 48 + r := by simp; omega
 rw [this, IntKind.wrap_u8]; omega
theorem conv_one (w : World) (c : UInt8) : (convert 22 9 (.slice (some ⟨w.heap.size, 0, none⟩) 1 1)).run Tryz.prog (w.alloc (.cells #[.int .u8 (c.toNat : Int)] 5)) = .ok (.string (bs [c])) (w.alloc (.cells #[.int .u8 (c.toNat : Int)] 5)) :=
 run_convert_bytes_back (P := Tryz.prog) _ 22 9 5 ⟨w.heap.size, 0, none⟩ 1 [c] Tryz.underlying22 Tryz.underlying5 Tryz.underlying9 (fun j hj => by
  match j, hj with
  | 0, _ => simp [Addr.add])
theorem conv_at (W : World) (N : Nat) (c : UInt8) (h : W.cell? ⟨N, 0, none⟩ = some (.int .u8 (c.toNat : Int))) : (convert 22 9 (.slice (some ⟨N, 0, none⟩) 1 1)).run Tryz.prog W = .ok (.string (bs [c])) W :=
 run_convert_bytes_back (P := Tryz.prog) W 22 9 5 ⟨N, 0, none⟩ 1 [c] Tryz.underlying22 Tryz.underlying5 Tryz.underlying9 (fun j hj => by
  match j, hj with
  | 0, _ => exact h)
set_option maxRecDepth 20000 in
set_option maxHeartbeats 1000000 in
theorem l6Dec_one (x : Int) (c : UInt8) (w : World) (h0 : 0 <= x) (h1 : x < 10) (hc : Hid (48 + x = (c.toNat : Int))) : Calls Tryz.prog 63 #[.int .i64 x] w fun e w' => e = .returned (.string (bs [c])) /\ Below w.heap.size w w' := by
 have HCV : Hid ((convert 22 9 (.slice (some ⟨w.heap.size, 0, none⟩) 1 1)).run Tryz.prog (w.alloc (.cells #[.int .u8 (48 + x)] 5)) = .ok (.string (bs [c])) (w.alloc (.cells #[.int .u8 (48 + x)] 5))) := by
  show _ = _
  rw [hc.out]; exact conv_one w c
 clear hc
 go_enter Tryz.func63, Tryz.ntmps63
 go_wp2_with fail
 rw [HCV.out]
 clear HCV
 go_wp2_with fail
 go_ret
 exact ⟨rfl, (Below.refl _ _).alloc (Nat.le_refl _) _⟩
theorem digit_eq (r : Nat) (h : r < 10) : (48 : Int) + (r : Int) = ((UInt8.ofNat (48 + r)).toNat : Int) := by
 have : (UInt8.ofNat (48 + r)).toNat = 48 + r := by simp; omega
 rw [this]; omega
set_option maxRecDepth 20000 in
set_option maxHeartbeats 1000000 in
theorem l6Dec_nat (m : Nat) : ∀ (x : Nat) (w : World), x <= m -> x <= 999999999 -> Calls Tryz.prog 63 #[.int .i64 (x : Int)] w fun e w' => e = .returned (.string (bs (Lib.decDigits x))) /\ Below w.heap.size w w' := by
 induction m with
 | zero =>
  intro x w hx _
  rw [Lib.decDigits_one (by omega)]
  exact l6Dec_one x _ w (by omega) (by omega) (digit_eq x (by omega))
 | succ m ih =>
  intro x w hx hmax
  by_cases h10 : x < 10
  ·rw [Lib.decDigits_one h10]
   exact l6Dec_one x _ w (by omega) (by omega) (digit_eq x h10)
  have HD : Hid (Lib.decDigits x = Lib.decDigits (x / 10) ++ [UInt8.ofNat (48 + x % 10)]) := by show _ = _; rw [Lib.decDigits, dif_neg h10]
  have hlenD : (Lib.decDigits (x / 10)).length <= 21 := by
   have := Lib.itoa_length_le ((x / 10 : Nat) : Int) (by omega) (by omega)
   rw [Lib.itoa_nonneg] at this; omega
  obtain ⟨q, hq⟩ : ∃ q : Int, q = (x : Int) / 10 := ⟨_, rfl⟩
  have HQ : Hid (∀ W : World, Calls Tryz.prog 63 #[.int .i64 ((x : Int) / 10)] W fun e w' => e = .returned (.string (bs (Lib.decDigits (x / 10)))) /\ Below W.heap.size W w') := fun W => by
   have := ih (x / 10) W (by omega) (by omega)
   rwa [show (((x / 10 : Nat)) : Int) = (x : Int) / 10 by omega] at this
  have hcv : ∀ (W : World) (N : Nat), W.cell? ⟨N, 0, none⟩ = some (.int .u8 (48 + (x : Int) % 10)) -> (convert 22 9 (.slice (some ⟨N, 0, none⟩) 1 1)).run Tryz.prog W = .ok (.string (bs [UInt8.ofNat (48 + x % 10)])) W := fun W N hN => by
   refine conv_at W N (UInt8.ofNat (48 + x % 10)) ?_
   rw [hN, <- digit_eq (x % 10) (by omega), show (((x % 10 : Nat)) : Int) = (x : Int) % 10 by omega]
  generalize UInt8.ofNat (48 + x % 10) = c at *
  generalize Lib.decDigits (x / 10) = dl at *
  have hsz : (bs dl).size + (bs [c]).size <= 9223372036854775807 := by rw [bs_size, bs_size]; simp; omega
  have hsz' : (bs dl).size <= 21 := by rw [bs_size]; exact hlenD
  have hsc : (bs [c]).size = 1 := by rw [bs_size]; rfl
  have HA : Hid (bs dl ++ bs [c] = bs (Lib.decDigits x)) := by show _ = _; rw [HD.out, bs_append]
  clear HD hlenD
  have hw1 : IntKind.i64.wrap ((x : Int) / 10) = (x : Int) / 10 := by rw [IntKind.wrap_i64]; omega
  have hw2 : IntKind.i64.wrap ((x : Int) % 10) = (x : Int) % 10 := by rw [IntKind.wrap_i64]; omega
  have hw3 : IntKind.i64.wrap (48 + (x : Int) % 10) = 48 + (x : Int) % 10 := by rw [IntKind.wrap_i64]; omega
  have hw4 : IntKind.u8.wrap (48 + (x : Int) % 10) = 48 + (x : Int) % 10 := by rw [IntKind.wrap_u8]; omega
  have hw5 : (x : Int).tmod 10 = (x : Int) % 10 := Int.tmod_eq_emod_of_nonneg (by omega)
  clear ih hq
  go_enter Tryz.func63, Tryz.ntmps63
  go_wp2_with fail
  go_region_with (go_at_call 63; refine (HQ.out _).mono ?_; rintro e w1 ⟨rfl, hb1⟩; obtain ⟨hc1, -⟩ := bcell hb1)
  all_goals
   go_wp2_with fail
   go_ret
   refine ⟨str_ret HA.out, ?_⟩
  all_goals first
   | exact (below_step ((Below.refl _ w).drew) (Nat.le_refl _) hb1).alloc (by have := hb1.size; simp at this ⊢; omega) _
   | exact below_step (((Below.refl _ w).drew).alloc (by simp) _) (by simp) hb1
   | exact below_step (((Below.refl _ w).alloc (Nat.le_refl _) _).drew) (by simp) hb1
set_option maxRecDepth 20000 in
set_option maxHeartbeats 1000000 in
theorem l6Dec_any (x : Int) (w : World) (h0 : -999999999 <= x) (h1 : x <= 999999999) : Calls Tryz.prog 63 #[.int .i64 x] w fun e w' => e = .returned (.string (bs (Lib.itoa x))) /\ Below w.heap.size w w' := by
 by_cases hn : 0 <= x
 ·obtain ⟨n, rfl⟩ := Int.eq_ofNat_of_zero_le hn
  rw [Lib.itoa_nonneg]
  exact l6Dec_nat n n w (Nat.le_refl _) (by omega)
 ·obtain ⟨n, hx⟩ : ∃ n : Nat, x = -(n : Int) := ⟨x.natAbs, by omega⟩
  subst hx
  have hlen : (Lib.decDigits n).length <= 21 := by
   have := Lib.itoa_length_le (n : Int) (by omega) (by omega)
   rw [Lib.itoa_nonneg] at this; omega
  have HQ : Hid (Calls Tryz.prog 63 #[.int .i64 (n : Int)] w _) := l6Dec_nat n n w (Nat.le_refl _) (by omega)
  have hsz : (bs (Lib.decDigits n)).size <= 21 := by rw [bs_size]; exact hlen
  have HA : Hid (bs [45] ++ bs (Lib.decDigits n) = bs (Lib.itoa (-(n : Int)))) := by show _ = _; rw [Lib.itoa_neg n (by omega), bs_append]; rfl
  generalize Lib.decDigits n = dl at *
  have hneg : (-(n : Int)) < 0 := by omega
  go_enter Tryz.func63, Tryz.ntmps63
  go_wp2_with fail
  refine HQ.out.mono ?_
  rintro e w1 ⟨rfl, hb1⟩
  go_wp2_with fail
  go_ret
  exact ⟨str_ret HA.out, hb1⟩
end Go.Proofs.YtmjhcgjhlakceaaGreatDoor
