/-
  The program's writer of events: any tree.
-/
import Derived.Test.YtpnnbdejneoccaaEI2
namespace Go.Proofs.Ytpnnbdejneoccaa
open Go.RowKit

set_option maxRecDepth 20000 in
set_option maxHeartbeats 2000000 in
theorem wtree_num (m : Int) (x : ByteArray) (na ka : Option Addr) (nl nc kl kc : Nat) (R : Nat) (l : List UInt8) (w : World) (hW : Wr w R l) (hm : -999999999 ≤ m ∧ m ≤ 999999999) (hl : l.length + (numB m).length < 8980) :
    Calls Try.prog 47 #[.pointer (some ⟨R, 0, none⟩), .agg #[.int .i64 1, .int .i64 m, .string x, .slice na nl nc, .slice ka kl kc]] w fun e w' => e = .returned (.tuple #[]) ∧ Wr w' R (l ++ b8 1 :: numB m) ∧ Near R w w' := by
  have hRw := hW.lt
  obtain ⟨W1, hW1⟩ : ∃ W1, W1 = w.alloc (.cells #[.int .i64 1, .int .i64 m, .string x, .slice na nl nc, .slice ka kl kc] 33) := ⟨_, rfl⟩
  have hbw : Below w.heap.size w W1 := by rw [hW1]; exact (Below.refl _ _).alloc (Nat.le_refl _) _
  have hx1 : Box5 W1 w.heap.size (.int .i64 1) (.int .i64 m) (.string x) (.slice na nl nc) (.slice ka kl kc) := by rw [hW1]; exact Box5.new w _ _ _ _ _ _
  have hne : w.heap.size ≠ R := by omega
  have hC := put_any R l (b8 1) W1 (hW.below hbw) (by omega)
  rw [b8_nat (by omega) (by omega)] at hC
  have HC := Lib.hid hC
  have HN0 : Hid (Near R w W1) := Near.of_below hbw
  have HX := Lib.hid hx1
  clear hW hbw hx1 hC
  go_enter Try.func47, Try.ntmps47
  go_wp2_with fail
  rw [← hW1]
  clear hW1
  refine HC.out.mono ?_
  rintro e w1 ⟨rfl, hw1, hn1⟩
  have i0 := hn1.cell HX.out.c0 hne
  have i1 := hn1.cell HX.out.c1 hne
  have i2 := hn1.cell HX.out.c2 hne
  have i3 := hn1.cell HX.out.c3 hne
  have i4 := hn1.cell HX.out.c4 hne
  have HN1 := Lib.hid (HN0.out.trans hn1)
  have hnl := numB_len m
  have HC2 := Lib.hid (wnum_any R (l ++ [b8 1]) m w1 hw1 hm (by rw [List.length_append]; simp; omega))
  clear hm
  clear hw1 hn1 HC HX
  go_wp2_with fail
  refine HC2.out.mono ?_
  rintro e w2 ⟨rfl, hw2, hn2⟩
  have HW2 := Lib.hid hw2
  have HN2 := Lib.hid (HN1.out.trans hn2)
  clear hw2 hn2 HC2
  go_wp2_with fail
  refine bodyPost_end (results_none rfl _ _ _) rfl ?_
  refine ⟨rfl, ?_, HN2.out⟩
  have e : l ++ b8 1 :: numB m = (l ++ [b8 1]) ++ numB m := by rw [List.append_assoc]; rfl
  rw [e]
  exact HW2.out

set_option maxRecDepth 20000 in
set_option maxHeartbeats 2000000 in
theorem wtree_text (m : Int) (x : ByteArray) (na ka : Option Addr) (nl nc kl kc : Nat) (R : Nat) (l : List UInt8) (w : World) (hW : Wr w R l) (hx : x.size ≤ 60) (hl : l.length + (shortB x).length < 8980) :
    Calls Try.prog 47 #[.pointer (some ⟨R, 0, none⟩), .agg #[.int .i64 2, .int .i64 m, .string x, .slice na nl nc, .slice ka kl kc]] w fun e w' => e = .returned (.tuple #[]) ∧ Wr w' R (l ++ b8 2 :: shortB x) ∧ Near R w w' := by
  have hRw := hW.lt
  obtain ⟨W1, hW1⟩ : ∃ W1, W1 = w.alloc (.cells #[.int .i64 2, .int .i64 m, .string x, .slice na nl nc, .slice ka kl kc] 33) := ⟨_, rfl⟩
  have hbw : Below w.heap.size w W1 := by rw [hW1]; exact (Below.refl _ _).alloc (Nat.le_refl _) _
  have hx1 : Box5 W1 w.heap.size (.int .i64 2) (.int .i64 m) (.string x) (.slice na nl nc) (.slice ka kl kc) := by rw [hW1]; exact Box5.new w _ _ _ _ _ _
  have hne : w.heap.size ≠ R := by omega
  have hC := put_any R l (b8 2) W1 (hW.below hbw) (by omega)
  rw [b8_nat (by omega) (by omega)] at hC
  have HC := Lib.hid hC
  have HN0 : Hid (Near R w W1) := Near.of_below hbw
  have HX := Lib.hid hx1
  clear hW hbw hx1 hC
  go_enter Try.func47, Try.ntmps47
  go_wp2_with fail
  rw [← hW1]
  clear hW1
  refine HC.out.mono ?_
  rintro e w1 ⟨rfl, hw1, hn1⟩
  have i0 := hn1.cell HX.out.c0 hne
  have i1 := hn1.cell HX.out.c1 hne
  have i2 := hn1.cell HX.out.c2 hne
  have i3 := hn1.cell HX.out.c3 hne
  have i4 := hn1.cell HX.out.c4 hne
  have HN1 := Lib.hid (HN0.out.trans hn1)
  have hnl := shortB_len x
  have HC2 := Lib.hid (wtext_any R (l ++ [b8 2]) x w1 hw1 (by omega) (by rw [List.length_append]; simp; omega))
  clear hw1 hn1 HC HX
  go_wp2_with fail
  refine HC2.out.mono ?_
  rintro e w2 ⟨rfl, hw2, hn2⟩
  have HW2 := Lib.hid hw2
  have HN2 := Lib.hid (HN1.out.trans hn2)
  clear hw2 hn2 HC2
  go_wp2_with fail
  refine bodyPost_end (results_none rfl _ _ _) rfl ?_
  refine ⟨rfl, ?_, HN2.out⟩
  have e : l ++ b8 2 :: shortB x = (l ++ [b8 2]) ++ shortB x := by rw [List.append_assoc]; rfl
  rw [e]
  exact HW2.out

set_option maxRecDepth 20000 in
set_option maxHeartbeats 2000000 in
theorem wtree_flag (m : Int) (x : ByteArray) (na ka : Option Addr) (nl nc kl kc : Nat) (R : Nat) (l : List UInt8) (w : World) (hW : Wr w R l) (hm : 0 ≤ m ∧ m ≤ 1) (hl : l.length < 8980) :
    Calls Try.prog 47 #[.pointer (some ⟨R, 0, none⟩), .agg #[.int .i64 3, .int .i64 m, .string x, .slice na nl nc, .slice ka kl kc]] w fun e w' => e = .returned (.tuple #[]) ∧ Wr w' R (l ++ [b8 3, b8 m]) ∧ Near R w w' := by
  have hRw := hW.lt
  obtain ⟨W1, hW1⟩ : ∃ W1, W1 = w.alloc (.cells #[.int .i64 3, .int .i64 m, .string x, .slice na nl nc, .slice ka kl kc] 33) := ⟨_, rfl⟩
  have hbw : Below w.heap.size w W1 := by rw [hW1]; exact (Below.refl _ _).alloc (Nat.le_refl _) _
  have hx1 : Box5 W1 w.heap.size (.int .i64 3) (.int .i64 m) (.string x) (.slice na nl nc) (.slice ka kl kc) := by rw [hW1]; exact Box5.new w _ _ _ _ _ _
  have hne : w.heap.size ≠ R := by omega
  have hC := put_any R l (b8 3) W1 (hW.below hbw) (by omega)
  rw [b8_nat (by omega) (by omega)] at hC
  have HC := Lib.hid hC
  have HN0 : Hid (Near R w W1) := Near.of_below hbw
  have HX := Lib.hid hx1
  clear hW hbw hx1 hC
  go_enter Try.func47, Try.ntmps47
  go_wp2_with fail
  rw [← hW1]
  clear hW1
  refine HC.out.mono ?_
  rintro e w1 ⟨rfl, hw1, hn1⟩
  have i0 := hn1.cell HX.out.c0 hne
  have i1 := hn1.cell HX.out.c1 hne
  have i2 := hn1.cell HX.out.c2 hne
  have i3 := hn1.cell HX.out.c3 hne
  have i4 := hn1.cell HX.out.c4 hne
  have HN1 := Lib.hid (HN0.out.trans hn1)
  have hC2 := put_any R (l ++ [b8 3]) (b8 m) w1 hw1 (by rw [List.length_append]; simp; omega)
  rw [b8_nat (by omega) (by omega)] at hC2
  have HC2 := Lib.hid hC2
  have hwm : IntKind.u8.wrap m = m := by rw [IntKind.wrap_u8]; omega
  clear hC2
  clear hw1 hn1 HC HX
  go_wp2_with fail
  refine HC2.out.mono ?_
  rintro e w2 ⟨rfl, hw2, hn2⟩
  have HW2 := Lib.hid hw2
  have HN2 := Lib.hid (HN1.out.trans hn2)
  clear hw2 hn2 HC2
  go_wp2_with fail
  refine bodyPost_end (results_none rfl _ _ _) rfl ?_
  refine ⟨rfl, ?_, HN2.out⟩
  have e : l ++ [b8 3, b8 m] = (l ++ [b8 3]) ++ [b8 m] := by rw [List.append_assoc]; rfl
  rw [e]
  exact HW2.out

set_option maxRecDepth 20000 in
set_option maxHeartbeats 2000000 in
theorem wtree_kids (s : Int) (hs : s = 4 ∨ s = 5 ∨ s = 6) (p : List UInt8) (m : Int) (x : ByteArray) (na ka : Option Addr) (nl nc kl kc : Nat) (R : Nat) (l : List UInt8) (w : World) (hW : Wr w R l) (hl : l.length < 8980)
    (hK : ∀ W, Near R w W → Wr W R (l ++ [b8 s]) → Calls Try.prog 67 #[.pointer (some ⟨R, 0, none⟩), .agg #[.int .i64 s, .int .i64 m, .string x, .slice na nl nc, .slice ka kl kc]] W fun e w' => e = .returned (.tuple #[]) ∧ Wr w' R ((l ++ [b8 s]) ++ p) ∧ Near R W w') :
    Calls Try.prog 47 #[.pointer (some ⟨R, 0, none⟩), .agg #[.int .i64 s, .int .i64 m, .string x, .slice na nl nc, .slice ka kl kc]] w fun e w' => e = .returned (.tuple #[]) ∧ Wr w' R (l ++ b8 s :: p) ∧ Near R w w' := by
  have hRw := hW.lt
  obtain ⟨W1, hW1⟩ : ∃ W1, W1 = w.alloc (.cells #[.int .i64 s, .int .i64 m, .string x, .slice na nl nc, .slice ka kl kc] 33) := ⟨_, rfl⟩
  have hbw : Below w.heap.size w W1 := by rw [hW1]; exact (Below.refl _ _).alloc (Nat.le_refl _) _
  have hx1 : Box5 W1 w.heap.size (.int .i64 s) (.int .i64 m) (.string x) (.slice na nl nc) (.slice ka kl kc) := by rw [hW1]; exact Box5.new w _ _ _ _ _ _
  have hne : w.heap.size ≠ R := by omega
  have hC := put_any R l (b8 s) W1 (hW.below hbw) (by omega)
  rw [b8_nat (by omega) (by omega)] at hC
  have HC := Lib.hid hC
  have HN0 : Hid (Near R w W1) := Near.of_below hbw
  have HX := Lib.hid hx1
  have hs1 : ¬ s = 1 := by omega
  have hs2 : ¬ s = 2 := by omega
  have hs3 : ¬ s = 3 := by omega
  have hws : IntKind.u8.wrap s = s := by rw [IntKind.wrap_u8]; omega
  clear hW hbw hx1 hC hs
  go_enter Try.func47, Try.ntmps47
  go_wp2_with fail
  rw [← hW1]
  clear hW1
  refine HC.out.mono ?_
  rintro e w1 ⟨rfl, hw1, hn1⟩
  have i0 := hn1.cell HX.out.c0 hne
  have i1 := hn1.cell HX.out.c1 hne
  have i2 := hn1.cell HX.out.c2 hne
  have i3 := hn1.cell HX.out.c3 hne
  have i4 := hn1.cell HX.out.c4 hne
  have HN1 := Lib.hid (HN0.out.trans hn1)
  have HC2 := Lib.hid (hK w1 HN1.out hw1)
  clear hK
  clear hw1 hn1 HC HX
  go_wp2_with fail
  refine HC2.out.mono ?_
  rintro e w2 ⟨rfl, hw2, hn2⟩
  have HW2 := Lib.hid hw2
  have HN2 := Lib.hid (HN1.out.trans hn2)
  clear hw2 hn2 HC2
  go_wp2_with fail
  refine bodyPost_end (results_none rfl _ _ _) rfl ?_
  refine ⟨rfl, ?_, HN2.out⟩
  have e : l ++ b8 s :: p = (l ++ [b8 s]) ++ p := by rw [List.append_assoc]; rfl
  rw [e]
  exact HW2.out

theorem wtree_any : ∀ n, WSaid n := by
  intro n
  induction n with
  | zero => intro S t c0 c1 c2 c3 c4 d R l w h; exact h.elim
  | succ n ih =>
    intro S t c0 c1 c2 c3 c4 d R l w ht hB hg hc hW hlen
    simp only [goodT, Bool.and_eq_true, List.all_eq_true] at hg
    obtain ⟨⟨-, ha⟩, hk⟩ := hg
    have ha' : aloneF (Nd.sort t) (Nd.num t) (Nd.text t) (Nd.names t) (Nd.kids t).length = true := ha
    have hcc : cntT (n + 1) t = 1 + sumL (fun k => cntT n k) (Nd.kids t) := rfl
    have hkc : ∀ k, k ∈ Nd.kids t → goodT n k (d + 1) = true ∧ cntT n k ≤ 120 := fun k hkm => by
      have := sumL_mono (fun x => cntT n x) (Nd.kids t) _ hkm
      exact ⟨hk k hkm, by omega⟩
    have hkl : (Nd.kids t).length ≤ 119 := by
      have := sumL_geE (fun x => cntT n x) (Nd.kids t) (fun x hx => cntT_pos n x (d + 1) (hk x hx))
      omega
    obtain ⟨rfl, rfl, rfl, -, -, -, h3, h4⟩ := ht
    obtain ⟨na, nc, rfl, h3r⟩ := id h3
    obtain ⟨ka, kc, rfl, h4r⟩ := id h4
    unfold aloneF at ha'
    by_cases h1 : Nd.sort t = 1
    · have hp : packT (n + 1) t = b8 1 :: numB (Nd.num t) := by rw [packT, if_pos h1, h1]
      rw [if_pos h1] at ha'
      rw [hp] at hlen ⊢
      rw [h1]
      exact wtree_num _ _ na ka _ nc _ kc R l w hW (by simp at ha'; omega) (by simp at hlen; omega)
    rw [if_neg h1] at ha'
    by_cases h2 : Nd.sort t = 2
    · have hp : packT (n + 1) t = b8 2 :: shortB (Nd.text t) := by rw [packT, if_neg h1, if_pos h2, h2]
      rw [if_pos h2] at ha'
      rw [hp] at hlen ⊢
      rw [h2]
      exact wtree_text _ _ na ka _ nc _ kc R l w hW (by simp [textB] at ha'; omega) (by simp at hlen; omega)
    rw [if_neg h2] at ha'
    by_cases h3' : Nd.sort t = 3
    · have hp : packT (n + 1) t = [b8 3, b8 (Nd.num t)] := by rw [packT, if_neg h1, if_neg h2, if_pos h3', h3']
      rw [if_pos h3'] at ha'
      rw [hp] at hlen ⊢
      rw [h3']
      exact wtree_flag _ _ na ka _ nc _ kc R l w hW (by simp at ha'; omega) (by simp at hlen; omega)
    rw [if_neg h3'] at ha'
    have hp : packT (n + 1) t = b8 (Nd.sort t) :: b8 (Nd.kids t).length :: (partsP (packT n) (Nd.sort t) (Nd.names t) (Nd.kids t)).flatten := by rw [packT, if_neg h1, if_neg h2, if_neg h3']
    rw [hp] at hlen ⊢
    simp only [List.length_cons] at hlen
    have hstep : ∀ W, Near R w W → StrsIn S W (Nd.names t) (.slice na (Nd.names t).length nc) ∧ RowIn S W (TreeIn S W n) (Nd.kids t) (.slice ka (Nd.kids t).length kc) ∧ ∀ b, S b → b < W.heap.size ∧ b ≠ R := fun W hN => by
      have hs : Same S w W := fun b hb => hN.block b (hB b hb).1 (hB b hb).2
      exact ⟨h3.keep hs (fun _ h => h), h4.keepT hs (fun _ h => h), fun b hb => ⟨Nat.lt_of_lt_of_le (hB b hb).1 hN.size, (hB b hb).2⟩⟩
    have hl1 : (l ++ [b8 (Nd.sort t)]).length = l.length + 1 := by simp
    by_cases h5 : Nd.sort t = 5
    · rw [if_neg (by omega), if_pos h5] at ha'
      simp at ha'
      refine wtree_kids (Nd.sort t) (by omega) _ _ _ na ka _ nc _ kc R l w hW (by omega) (fun W hN hW' => ?_)
      obtain ⟨q1, q2, q3⟩ := hstep W hN
      rw [h5] at hW' hlen hl1 ⊢
      exact wkids_form n ih S (Nd.names t) (Nd.kids t) _ _ na ka nc kc (d + 1) R _ W q1 q2 q3 (by omega) (riseB_names _ ha'.2) hkc hkl hW' (by omega)
    · have hn0 : Nd.names t = [] ∧ (Nd.sort t = 4 ∨ Nd.sort t = 6) := by
        by_cases h4' : Nd.sort t = 4
        · rw [if_pos h4'] at ha'; simp at ha'; exact ⟨ha'.1.2, .inl h4'⟩
        · rw [if_neg h4', if_neg h5] at ha'
          by_cases h6 : Nd.sort t = 6
          · rw [if_pos h6] at ha'; simp at ha'; exact ⟨ha'.1.2, .inr h6⟩
          · rw [if_neg h6] at ha'; cases ha'
      refine wtree_kids (Nd.sort t) (by omega) _ _ _ na ka _ nc _ kc R l w hW (by omega) (fun W hN hW' => ?_)
      obtain ⟨q1, q2, q3⟩ := hstep W hN
      exact wkids_row n ih S (Nd.sort t) hn0.2 (Nd.names t) (Nd.kids t) _ _ na ka nc kc (d + 1) R _ W q1 q2 q3 hkc hkl hW' (by omega)

end Go.Proofs.Ytpnnbdejneoccaa
