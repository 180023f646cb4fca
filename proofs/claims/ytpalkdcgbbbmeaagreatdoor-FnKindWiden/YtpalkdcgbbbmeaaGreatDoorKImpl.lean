/-
  The program's own function on one node of a schema: hasJustItsKids.
-/
import Derived.Test.YtpalkdcgbbbmeaaGreatDoorImpl2N
import Derived.Test.YtpalkdcgbbbmeaaGreatDoorKRep
namespace Go.Proofs.YtpalkdcgbbbmeaaGreatDoor
open Go.RowKit

set_option maxRecDepth 100000 in
set_option maxHeartbeats 2000000 in
theorem justK_leaf (s : Int) (l : List ByteArray) (ka : Option Addr) (kl kc : Nat) (w : World) (na : Option Addr) (nc : Nat) (hs : s = 1 ∨ s = 2 ∨ s = 3) :
    Calls Tryz.prog 117 #[.agg #[.int .i64 s, .slice na l.length nc, .slice ka kl kc]] w fun e w' => e = .returned (.bool (((l.length : Int) == 0) && ((kl : Int) == 0))) ∧ Below w.heap.size w w' := by
  rcases hs with rfl | rfl | rfl
  all_goals
    go_enter Tryz.func117, Tryz.ntmps117
    go_wp2_with fail
    all_goals
      go_ret
      exact ⟨bool_ret (by simp_all), (Below.refl _ _).alloc (Nat.le_refl _) _⟩

set_option maxRecDepth 100000 in
set_option maxHeartbeats 2000000 in
theorem justK_one (s : Int) (l : List ByteArray) (ka : Option Addr) (kl kc : Nat) (w : World) (na : Option Addr) (nc : Nat) (hs : s = 4 ∨ s = 6) :
    Calls Tryz.prog 117 #[.agg #[.int .i64 s, .slice na l.length nc, .slice ka kl kc]] w fun e w' => e = .returned (.bool (((l.length : Int) == 0) && ((kl : Int) == 1))) ∧ Below w.heap.size w w' := by
  rcases hs with rfl | rfl
  all_goals
    go_enter Tryz.func117, Tryz.ntmps117
    go_wp2_with fail
    all_goals
      go_ret
      exact ⟨bool_ret (by simp_all), (Below.refl _ _).alloc (Nat.le_refl _) _⟩

set_option maxRecDepth 100000 in
set_option maxHeartbeats 2000000 in
theorem justK_form (l : List ByteArray) (ka : Option Addr) (kl kc : Nat) (w : World) (na : Option Addr) (nc : Nat) (S : Nat → Prop) (hl : StrsIn S w l (.slice na l.length nc)) (hB : ∀ b, S b → b < w.heap.size) :
    Calls Tryz.prog 117 #[.agg #[.int .i64 5, .slice na l.length nc, .slice ka kl kc]] w fun e w' => e = .returned (.bool (((l.length : Int) == (kl : Int)) && riseB l)) ∧ Below w.heap.size w w' := by
  by_cases hk : l.length = kl
  · subst hk
    have hb0 := (Below.refl w.heap.size w).alloc (Nat.le_refl _) (.cells #[.int .i64 5, .slice na l.length nc, .slice ka l.length kc] 26)
    have hl' := hl.keep (same_below hb0 hB) (fun _ h => h)
    have HC : Hid (Calls Tryz.prog 115 #[.slice na l.length nc] _ _) := areFormNames_any S l _ _ hl'
    have hk : ((l.length : Int) == (l.length : Int)) = true := by simp
    clear hl hl' hB
    go_enter Tryz.func117, Tryz.ntmps117
    go_wp2_with fail
    refine HC.out.mono ?_
    rintro e w' ⟨rfl, rfl⟩
    go_wp2_with fail
    go_ret
    exact ⟨by simp, hb0⟩
  · have hk' : ((l.length : Int) == (kl : Int)) = false := by simp; omega
    rw [hk']
    clear hk
    go_enter Tryz.func117, Tryz.ntmps117
    go_wp2_with fail
    go_ret
    exact ⟨rfl, (Below.refl _ _).alloc (Nat.le_refl _) _⟩

set_option maxRecDepth 100000 in
set_option maxHeartbeats 2000000 in
theorem justK_other (s : Int) (l : List ByteArray) (ka : Option Addr) (kl kc : Nat) (w : World) (na : Option Addr) (nc : Nat)
    (h1 : (s == 1) = false) (h2 : (s == 2) = false) (h3 : (s == 3) = false) (h4 : (s == 4) = false) (h5 : (s == 5) = false) (h6 : (s == 6) = false) :
    Calls Tryz.prog 117 #[.agg #[.int .i64 s, .slice na l.length nc, .slice ka kl kc]] w fun e w' => e = .returned (.bool false) ∧ Below w.heap.size w w' := by
  have hb0 := (Below.refl w.heap.size w).alloc (Nat.le_refl _) (.cells #[.int .i64 s, .slice na l.length nc, .slice ka kl kc] 26)
  go_enter Tryz.func117, Tryz.ntmps117
  go_wp2_with fail
  go_ret
  exact ⟨rfl, hb0⟩

theorem justK_any (s : Int) (l : List ByteArray) (ka : Option Addr) (kl kc : Nat) (w : World) (na : Option Addr) (nc : Nat)
    (S : Nat → Prop) (hl : StrsIn S w l (.slice na l.length nc)) (hB : ∀ b, S b → b < w.heap.size) :
    Calls Tryz.prog 117 #[.agg #[.int .i64 s, .slice na l.length nc, .slice ka kl kc]] w fun e w' => e = .returned (.bool (aloneKF s l kl)) ∧ Below w.heap.size w w' := by
  unfold aloneKF
  by_cases h1 : s = 1
  · subst h1; rw [if_pos rfl]; exact justK_leaf 1 l ka kl kc w na nc (.inl rfl)
  rw [if_neg h1]
  by_cases h2 : s = 2
  · subst h2; rw [if_pos rfl]; exact justK_leaf 2 l ka kl kc w na nc (.inr (.inl rfl))
  rw [if_neg h2]
  by_cases h3 : s = 3
  · subst h3; rw [if_pos rfl]; exact justK_leaf 3 l ka kl kc w na nc (.inr (.inr rfl))
  rw [if_neg h3]
  by_cases h4 : s = 4
  · subst h4; rw [if_pos rfl]; exact justK_one 4 l ka kl kc w na nc (.inl rfl)
  rw [if_neg h4]
  by_cases h5 : s = 5
  · subst h5; rw [if_pos rfl]; exact justK_form l ka kl kc w na nc S hl hB
  rw [if_neg h5]
  by_cases h6 : s = 6
  · subst h6; rw [if_pos rfl]; exact justK_one 6 l ka kl kc w na nc (.inr rfl)
  rw [if_neg h6]
  exact justK_other s l ka kl kc w na nc (by simp [h1]) (by simp [h2]) (by simp [h3]) (by simp [h4]) (by simp [h5]) (by simp [h6])

end Go.Proofs.YtpalkdcgbbbmeaaGreatDoor
