/-
  Several texts in one, in their order.
-/
import Derived.Test.YtfbfchffnapnnaaGreatDoorB1
import Derived.Laws.IdiomStrings
import Derived.Deep.QuietTactic
import Derived.BigQuiet
import Derived.Test.YtfbfchffnapnnaaGreatDoorB8
import Derived.Lib.ItoaMem
import Derived.Test.YtfbfchffnapnnaaGreatDoorB4

/-
  The specification's reader of trees: its block; look, eat.
-/
namespace Go.Proofs.YtfbfchffnapnnaaGreatDoor
open Go.RowKit

theorem Near.drewN {R : Nat} {a w : World} (h : Near R a w) (n : Nat) : Near R a (w.drewN n) := ⟨h.os, h.tape, h.output, h.size, h.block⟩

end Go.Proofs.YtfbfchffnapnnaaGreatDoor

/-
  Plain mathematics: a text read part by part, as a function; what it reads has that text, and what has a text is read from it.
-/
namespace Go.Proofs.YtfbfchffnapnnaaGreatDoor
open Go.RowKit

def digC (c : UInt8) : Bool := decide (48 ≤ (c.toNat : Int) ∧ (c.toNat : Int) ≤ 57)

/-- What a numeral spells. -/
def decVal (l : List UInt8) : Nat := l.foldl (fun a c => a * 10 + (c.toNat - 48)) 0

theorem dig_of (d : Nat) (h : d < 10) : (UInt8.ofNat (48 + d)).toNat = 48 + d := by
  rw [UInt8.toNat_ofNat']; omega

theorem decDigits_dig (u : Nat) : ∀ c, c ∈ Lib.decDigits u → digC c = true := by
  induction u using Nat.strongRecOn with
  | _ u ih =>
    intro c hc
    rw [Lib.decDigits] at hc
    split at hc
    · next h =>
      rw [List.mem_singleton] at hc; subst hc
      have := dig_of u h
      simp only [digC, this, decide_eq_true_eq]; omega
    · next h =>
      rcases List.mem_append.1 hc with hc | hc
      · exact ih (u / 10) (by omega) c hc
      · rw [List.mem_singleton] at hc; subst hc
        have := dig_of (u % 10) (by omega)
        simp only [digC, this, decide_eq_true_eq]; omega

theorem decDigits_ne (u : Nat) : Lib.decDigits u ≠ [] := by
  rw [Lib.decDigits]; split <;> simp

theorem decVal_digits (u : Nat) : decVal (Lib.decDigits u) = u := by
  induction u using Nat.strongRecOn with
  | _ u ih =>
    rw [Lib.decDigits]
    split
    · next h => simp [decVal]; omega
    · next h =>
      have h1 := ih (u / 10) (by omega)
      unfold decVal at h1 ⊢
      rw [List.foldl_append, h1]
      simp only [List.foldl_cons, List.foldl_nil, dig_of (u % 10) (by omega)]
      omega

theorem digC_45 : digC 45 = false := by decide

/-- No digit stands at the head. -/
def noDig (s : List UInt8) : Bool := !(digC (s.headD 0))

/-- The word of a number at the head. -/
def numW (s : List UInt8) : List UInt8 := if s.head? = some 45 then 45 :: (s.drop 1).takeWhile digC else s.takeWhile digC

theorem noDig_head {s : List UInt8} (h : noDig s = true) : ∀ c r, s = c :: r → digC c = false := by
  intro c r e; subst e; simpa [noDig] using h

theorem numW_itoa (m : Int) (post : List UInt8) (h : noDig post = true) : numW (Lib.itoa m ++ post) = Lib.itoa m := by
  unfold Lib.itoa
  split
  · unfold numW
    rw [if_pos (by simp)]
    simp only [List.cons_append, List.drop_succ_cons, List.drop_zero]
    rw [takeWhile_all _ _ (decDigits_dig _) (noDig_head h)]
  · unfold numW
    rw [if_neg, takeWhile_all _ _ (decDigits_dig _) (noDig_head h)]
    intro e
    cases hd : Lib.decDigits m.toNat with
    | nil => exact decDigits_ne _ hd
    | cons c r =>
      rw [hd] at e
      have hc : c = 45 := by simpa using e
      have := decDigits_dig m.toNat c (by rw [hd]; exact List.mem_cons_self ..)
      rw [hc, digC_45] at this; cases this

theorem takeWhile_prefix' {p : UInt8 → Bool} (s : List UInt8) : s.takeWhile p ++ s.drop (s.takeWhile p).length = s := by
  induction s with
  | nil => rfl
  | cons c r ih =>
    rw [List.takeWhile_cons]
    split
    · simpa using ih
    · simp

theorem numW_prefix (s : List UInt8) : numW s ++ s.drop (numW s).length = s := by
  unfold numW
  split
  · next h =>
    cases s with
    | nil => simp at h
    | cons c r =>
      have : c = 45 := by simpa using h
      subst this
      simpa using takeWhile_prefix' (p := digC) r
  · exact takeWhile_prefix' s

/-- What a word says, read as a number. -/
def valOf (w : List UInt8) : Int := if w.head? = some 45 then -(decVal (w.drop 1) : Int) else (decVal w : Int)

theorem valOf_itoa (m : Int) : valOf (Lib.itoa m) = m := by
  unfold valOf Lib.itoa
  by_cases h : m < 0
  · rw [if_pos h]
    simp only [List.head?_cons, if_true, List.drop_succ_cons, List.drop_zero]
    rw [decVal_digits]; omega
  · rw [if_neg h]
    have hne : ¬ (Lib.decDigits m.toNat).head? = some 45 := by
      intro e
      cases hd : Lib.decDigits m.toNat with
      | nil => rw [hd] at e; cases e
      | cons c r =>
        rw [hd] at e
        have hc : c = 45 := by simpa using e
        have := decDigits_dig m.toNat c (by rw [hd]; exact List.mem_cons_self ..)
        rw [hc, digC_45] at this
        cases this
    rw [if_neg hne, decVal_digits]; omega

/-- The number of which a word is the text, if it is one of a number within bounds. -/
def numOf (w : List UInt8) : Option Int := if (-999999999 ≤ valOf w ∧ valOf w ≤ 999999999) ∧ Lib.itoa (valOf w) = w then some (valOf w) else none

theorem numOf_itoa (m : Int) (h : -999999999 ≤ m ∧ m ≤ 999999999) : numOf (Lib.itoa m) = some m := by
  unfold numOf
  rw [valOf_itoa, if_pos ⟨h, rfl⟩]

theorem numOf_some {w : List UInt8} {m : Int} (h : numOf w = some m) : (-999999999 ≤ m ∧ m ≤ 999999999) ∧ Lib.itoa m = w := by
  unfold numOf at h
  split at h
  · next hex => cases h; exact hex
  · cases h

end Go.Proofs.YtfbfchffnapnnaaGreatDoor

/-
  The text of a form, by the specification; of any tree; TreeWrite of the specification.
-/
namespace Go.Proofs.YtfbfchffnapnnaaGreatDoor
open Go.RowKit

/-- What TreeWrite answers. -/
def textF (n : Nat) (t : T n) : ByteArray := if okT n t = true then bs (txtL n t) else bs []

theorem okT_get {n : Nat} {t : T n} (h : okT n t = true) : goodT n t 1 = true ∧ cntT n t ≤ 120 := by
  simpa only [okT, Bool.and_eq_true, decide_eq_true_eq] using h

end Go.Proofs.YtfbfchffnapnnaaGreatDoor

/-
  How long the text of a tree may be.
-/
namespace Go.Proofs.YtfbfchffnapnnaaGreatDoor
open Go.RowKit

theorem textF_10000 (n : Nat) (t : T n) : (textF n t).size ≤ 10000 := by
  unfold textF
  split
  · next h => rw [bs_size]; have := txtL_len n t 1 (okT_get h).1; have := (okT_get h).2; omega
  · rw [bs_size]; simp

end Go.Proofs.YtfbfchffnapnnaaGreatDoor
