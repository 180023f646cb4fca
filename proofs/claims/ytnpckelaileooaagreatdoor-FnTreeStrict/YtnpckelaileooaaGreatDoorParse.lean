/-
  Plain mathematics: a text read part by part, as a function; what it reads has that text, and what has a text is read from it.
-/
import Derived.Test.YtnpckelaileooaaGreatDoorB10
import Derived.Test.YtnpckelaileooaaGreatDoorB1
import Derived.Lib.ItoaMem
namespace Go.Proofs.YtnpckelaileooaaGreatDoor
open Go.RowKit

def digC (c : UInt8) : Bool := decide (48 ≤ (c.toNat : Int) ∧ (c.toNat : Int) ≤ 57)

/-- What a numeral spells. -/
def decVal (l : List UInt8) : Nat := l.foldl (fun a c => a * 10 + (c.toNat - 48)) 0

theorem dig_of (d : Nat) (h : d < 10) : (UInt8.ofNat (48 + d)).toNat = 48 + d := by
  rw [UInt8.toNat_ofNat']; omega

theorem decDigits_dig (u : Nat) : ∀ c, c ∈ Lib.decDigits u → digC c = true := by
  induction u using Nat.strongRecOn with
  | _ u ih =>
    intro c hc
    rw [Lib.decDigits] at hc
    split at hc
    · next h =>
      rw [List.mem_singleton] at hc; subst hc
      have := dig_of u h
      simp only [digC, this, decide_eq_true_eq]; omega
    · next h =>
      rcases List.mem_append.1 hc with hc | hc
      · exact ih (u / 10) (by omega) c hc
      · rw [List.mem_singleton] at hc; subst hc
        have := dig_of (u % 10) (by omega)
        simp only [digC, this, decide_eq_true_eq]; omega

theorem decDigits_ne (u : Nat) : Lib.decDigits u ≠ [] := by
  rw [Lib.decDigits]; split <;> simp

theorem decVal_digits (u : Nat) : decVal (Lib.decDigits u) = u := by
  induction u using Nat.strongRecOn with
  | _ u ih =>
    rw [Lib.decDigits]
    split
    · next h => simp [decVal]; omega
    · next h =>
      have h1 := ih (u / 10) (by omega)
      unfold decVal at h1 ⊢
      rw [List.foldl_append, h1]
      simp only [List.foldl_cons, List.foldl_nil, dig_of (u % 10) (by omega)]
      omega

theorem decDigits_inj {u v : Nat} (h : Lib.decDigits u = Lib.decDigits v) : u = v := by
  rw [← decVal_digits u, h, decVal_digits]

theorem digC_45 : digC 45 = false := by decide

theorem itoa_inj {m k : Int} (h : Lib.itoa m = Lib.itoa k) : m = k := by
  unfold Lib.itoa at h
  have no : ∀ (u : Nat) (l : List UInt8), Lib.decDigits u = 45 :: l → False := by
    intro u l e
    have := decDigits_dig u 45 (by rw [e]; exact List.mem_cons_self ..)
    rw [digC_45] at this; cases this
  split at h <;> split at h
  · have := decDigits_inj (List.cons.inj h).2; omega
  · exact (no _ _ h.symm).elim
  · exact (no _ _ h).elim
  · have := decDigits_inj h; omega

/-- No digit stands at the head. -/
def noDig (s : List UInt8) : Bool := !(digC (s.headD 0))

/-- The word of a number at the head. -/
def numW (s : List UInt8) : List UInt8 := if s.head? = some 45 then 45 :: (s.drop 1).takeWhile digC else s.takeWhile digC

theorem noDig_head {s : List UInt8} (h : noDig s = true) : ∀ c r, s = c :: r → digC c = false := by
  intro c r e; subst e; simpa [noDig] using h

theorem numW_itoa (m : Int) (post : List UInt8) (h : noDig post = true) : numW (Lib.itoa m ++ post) = Lib.itoa m := by
  unfold Lib.itoa
  split
  · unfold numW
    rw [if_pos (by simp)]
    simp only [List.cons_append, List.drop_succ_cons, List.drop_zero]
    rw [takeWhile_all _ _ (decDigits_dig _) (noDig_head h)]
  · unfold numW
    rw [if_neg, takeWhile_all _ _ (decDigits_dig _) (noDig_head h)]
    intro e
    cases hd : Lib.decDigits m.toNat with
    | nil => exact decDigits_ne _ hd
    | cons c r =>
      rw [hd] at e
      have hc : c = 45 := by simpa using e
      have := decDigits_dig m.toNat c (by rw [hd]; exact List.mem_cons_self ..)
      rw [hc, digC_45] at this; cases this

theorem takeWhile_prefix' {p : UInt8 → Bool} (s : List UInt8) : s.takeWhile p ++ s.drop (s.takeWhile p).length = s := by
  induction s with
  | nil => rfl
  | cons c r ih =>
    rw [List.takeWhile_cons]
    split
    · simpa using ih
    · simp

theorem numW_prefix (s : List UInt8) : numW s ++ s.drop (numW s).length = s := by
  unfold numW
  split
  · next h =>
    cases s with
    | nil => simp at h
    | cons c r =>
      have : c = 45 := by simpa using h
      subst this
      simpa using takeWhile_prefix' (p := digC) r
  · exact takeWhile_prefix' s

/-- What a word says, read as a number. -/
def valOf (w : List UInt8) : Int := if w.head? = some 45 then -(decVal (w.drop 1) : Int) else (decVal w : Int)

theorem valOf_itoa (m : Int) : valOf (Lib.itoa m) = m := by
  unfold valOf Lib.itoa
  by_cases h : m < 0
  · rw [if_pos h]
    simp only [List.head?_cons, if_true, List.drop_succ_cons, List.drop_zero]
    rw [decVal_digits]; omega
  · rw [if_neg h]
    have hne : ¬ (Lib.decDigits m.toNat).head? = some 45 := by
      intro e
      cases hd : Lib.decDigits m.toNat with
      | nil => rw [hd] at e; cases e
      | cons c r =>
        rw [hd] at e
        have hc : c = 45 := by simpa using e
        have := decDigits_dig m.toNat c (by rw [hd]; exact List.mem_cons_self ..)
        rw [hc, digC_45] at this
        cases this
    rw [if_neg hne, decVal_digits]; omega

/-- The number of which a word is the text, if it is one of a number within bounds. -/
def numOf (w : List UInt8) : Option Int := if (-999999999 ≤ valOf w ∧ valOf w ≤ 999999999) ∧ Lib.itoa (valOf w) = w then some (valOf w) else none

theorem numOf_itoa (m : Int) (h : -999999999 ≤ m ∧ m ≤ 999999999) : numOf (Lib.itoa m) = some m := by
  unfold numOf
  rw [valOf_itoa, if_pos ⟨h, rfl⟩]

theorem numOf_some {w : List UInt8} {m : Int} (h : numOf w = some m) : (-999999999 ≤ m ∧ m ≤ 999999999) ∧ Lib.itoa m = w := by
  unfold numOf at h
  split at h
  · next hex => cases h; exact hex
  · cases h

theorem numOf_none {w : List UInt8} (h : numOf w = none) (m : Int) (hm : -999999999 ≤ m ∧ m ≤ 999999999) : Lib.itoa m ≠ w := by
  intro e; subst e; rw [numOf_itoa m hm] at h; cases h

/-- The parts of a list. -/
def listP {α : Type} (f : Nat → List UInt8 → Option (α × List UInt8 × Nat)) : Nat → List α → Nat → List UInt8 → Option (List α × List UInt8 × Nat)
  | 0, _, _, _ => none
  | k + 1, acc, p, s =>
    match eatP [93] s with
    | some r => some (acc, r, p)
    | none =>
      match (if acc.length = 0 then some s else eatP [44] s) with
      | none => none
      | some s' =>
        match f p s' with
        | none => none
        | some (t, r, p') => listP f k (acc ++ [t]) p' r

/-- The parts of a form. -/
def formP {α : Type} (f : Nat → List UInt8 → Option (α × List UInt8 × Nat)) : Nat → List ByteArray → List α → Nat → List UInt8 → Option (List ByteArray × List α × List UInt8 × Nat)
  | 0, _, _, _, _ => none
  | k + 1, ns, acc, p, s =>
    match eatP [125] s with
    | some r => some (ns, acc, r, p)
    | none =>
      match (if ns.length = 0 then some s else eatP [44] s) with
      | none => none
      | some s1 =>
        match untilP 58 s1 with
        | none => none
        | some (w, s2) =>
          match f p (s2.drop 1) with
          | none => none
          | some (t, r, p') => formP f k (ns ++ [bs w]) (acc ++ [t]) p' r

/-- A tree of a text. -/
def parseT : (n : Nat) → Nat → List UInt8 → Option (T n × List UInt8 × Nat)
  | 0, _, _ => none
  | n + 1, p, s =>
    if 120 < p + 1 then none else
    if s.length = 0 then none else
    let c := s.headD 0
    if digC c = true ∨ c = 45 then
      match numOf (numW s) with
      | none => none
      | some m => some ((⟨1, m, ByteArray.empty, [], []⟩ : Nd (T n)), s.drop (numW s).length, p + 1)
    else if c = 34 then
      match untilP 34 (s.drop 1) with
      | none => none
      | some (w, r) => if textB (bs w) = true then some ((⟨2, 0, bs w, [], []⟩ : Nd (T n)), r.drop 1, p + 1) else none
    else if c = 121 then
      match eatP [121, 101, 115] s with
      | none => none
      | some r => some ((⟨3, 1, ByteArray.empty, [], []⟩ : Nd (T n)), r, p + 1)
    else if c = 110 then
      match eatP [110, 111] s with
      | none => none
      | some r => some ((⟨3, 0, ByteArray.empty, [], []⟩ : Nd (T n)), r, p + 1)
    else if c = 91 then
      match listP (parseT n) 121 [] (p + 1) (s.drop 1) with
      | none => none
      | some (l, r, p') => if l.length ≤ 20 then some ((⟨4, 0, ByteArray.empty, [], l⟩ : Nd (T n)), r, p') else none
    else if c = 123 then
      match formP (parseT n) 121 [] [] (p + 1) (s.drop 1) with
      | none => none
      | some (ns, l, r, p') => if riseB ns = true then some ((⟨5, 0, ByteArray.empty, ns, l⟩ : Nd (T n)), r, p') else none
    else if c = 126 then some ((⟨6, 0, ByteArray.empty, [], []⟩ : Nd (T n)), s.drop 1, p + 1)
    else if c = 63 then
      match parseT n (p + 1) (s.drop 1) with
      | none => none
      | some (t, r, p') => some ((⟨6, 0, ByteArray.empty, [], [t]⟩ : Nd (T n)), r, p')
    else none

end Go.Proofs.YtnpckelaileooaaGreatDoor
