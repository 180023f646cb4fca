/-
  The program's own functions on one node, more: hasJustItsSort at forms, at other sorts, at all.
-/
import Derived.Test.YtpnnbdejneoccaaImpl2S
namespace Go.Proofs.Ytpnnbdejneoccaa
open Go.RowKit

set_option maxRecDepth 100000 in
set_option maxHeartbeats 2000000 in
theorem just_5 (m : Int) (x : ByteArray) (l : List ByteArray) (ka : Option Addr) (kl kc : Nat) (w : World) (na : Option Addr) (nc : Nat) (S : Nat → Prop) (hl : StrsIn S w l (.slice na l.length nc)) (hB : ∀ b, S b → b < w.heap.size) :
    Calls Try.prog 64 #[.agg #[.int .i64 5, .int .i64 m, .string x, .slice na l.length nc, .slice ka kl kc]] w fun e w' => e = .returned (.bool ((m == 0) && x.toList.isEmpty && ((l.length : Int) == (kl : Int)) && riseB l)) ∧ Below w.heap.size w w' := by
  by_cases hm : m = 0
  · subst hm
    cases hx : x.toList.isEmpty with
    | false =>
      go_enter Try.func64, Try.ntmps64
      go_wp2_with fail
      all_goals
        go_ret
        exact ⟨bool_ret (by simp_all), (Below.refl _ _).alloc (Nat.le_refl _) _⟩
    | true =>
      by_cases hk : l.length = kl
      · subst hk
        have hb0 := (Below.refl w.heap.size w).alloc (Nat.le_refl _) (.cells #[.int .i64 5, .int .i64 0, .string x, .slice na l.length nc, .slice ka l.length kc] 33)
        have hl' := hl.keep (same_below hb0 hB) (fun _ h => h)
        have HC : Hid (Calls Try.prog 79 #[.slice na l.length nc] _ _) := areFormNames_any S l _ _ hl'
        have hk : ((l.length : Int) == (l.length : Int)) = true := by simp
        clear hl hl' hB
        cases h0 : ((l.length : Int) == 0) with
        | true =>
          go_enter Try.func64, Try.ntmps64
          go_wp2_with fail
          refine HC.out.mono ?_
          rintro e w' ⟨rfl, rfl⟩
          go_wp2_with fail
          go_ret
          exact ⟨by simp, hb0⟩
        | false =>
          go_enter Try.func64, Try.ntmps64
          go_wp2_with fail
          refine HC.out.mono ?_
          rintro e w' ⟨rfl, rfl⟩
          go_wp2_with fail
          go_ret
          exact ⟨by simp, hb0⟩
      · have hk' : ((l.length : Int) == (kl : Int)) = false := by simp; omega
        rw [hk']
        clear hk
        cases h0 : ((l.length : Int) == 0) <;> cases h1 : ((kl : Int) == 0)
        all_goals
          go_enter Try.func64, Try.ntmps64
          go_wp2_with fail
          go_ret
          exact ⟨rfl, (Below.refl _ _).alloc (Nat.le_refl _) _⟩
  · have hm' : (m == 0) = false := by simpa using hm
    rw [hm']
    clear hm
    go_enter Try.func64, Try.ntmps64
    go_wp2_with fail
    all_goals
      go_ret
      exact ⟨bool_ret (by simp_all), (Below.refl _ _).alloc (Nat.le_refl _) _⟩

set_option maxRecDepth 100000 in
set_option maxHeartbeats 2000000 in
theorem just_other (s m : Int) (x : ByteArray) (l : List ByteArray) (ka : Option Addr) (kl kc : Nat) (w : World) (na : Option Addr) (nc : Nat)
    (h1 : (s == 1) = false) (h2 : (s == 2) = false) (h3 : (s == 3) = false) (h4 : (s == 4) = false) (h5 : (s == 5) = false) (h6 : (s == 6) = false) :
    Calls Try.prog 64 #[.agg #[.int .i64 s, .int .i64 m, .string x, .slice na l.length nc, .slice ka kl kc]] w fun e w' => e = .returned (.bool false) ∧ Below w.heap.size w w' := by
  go_enter Try.func64, Try.ntmps64
  go_wp2_with fail
  all_goals
    go_ret
    exact ⟨rfl, (Below.refl _ _).alloc (Nat.le_refl _) _⟩

theorem just_any (s m : Int) (x : ByteArray) (l : List ByteArray) (ka : Option Addr) (kl kc : Nat) (w : World) (na : Option Addr) (nc : Nat) (hx : x.size ≤ maxLen)
    (S : Nat → Prop) (hl : StrsIn S w l (.slice na l.length nc)) (hB : ∀ b, S b → b < w.heap.size) :
    Calls Try.prog 64 #[.agg #[.int .i64 s, .int .i64 m, .string x, .slice na l.length nc, .slice ka kl kc]] w fun e w' => e = .returned (.bool (aloneF s m x l kl)) ∧ Below w.heap.size w w' := by
  unfold aloneF
  by_cases h1 : s = 1
  · subst h1; rw [if_pos rfl]; exact just_1 m x l ka kl kc w na nc
  rw [if_neg h1]
  by_cases h2 : s = 2
  · subst h2; rw [if_pos rfl]; exact just_2 m x l ka kl kc w na nc hx
  rw [if_neg h2]
  by_cases h3 : s = 3
  · subst h3; rw [if_pos rfl]; exact just_3 m x l ka kl kc w na nc
  rw [if_neg h3]
  by_cases h4 : s = 4
  · subst h4; rw [if_pos rfl]; exact just_4 m x l ka kl kc w na nc
  rw [if_neg h4]
  by_cases h5 : s = 5
  · subst h5; rw [if_pos rfl]; exact just_5 m x l ka kl kc w na nc S hl hB
  rw [if_neg h5]
  by_cases h6 : s = 6
  · subst h6; rw [if_pos rfl]; exact just_6 m x l ka kl kc w na nc
  rw [if_neg h6]
  exact just_other s m x l ka kl kc w na nc (by simp [h1]) (by simp [h2]) (by simp [h3]) (by simp [h4]) (by simp [h5]) (by simp [h6])

end Go.Proofs.Ytpnnbdejneoccaa
