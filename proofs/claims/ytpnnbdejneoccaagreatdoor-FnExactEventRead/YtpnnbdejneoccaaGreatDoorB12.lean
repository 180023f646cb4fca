/-
  Several texts in one, in their order.
-/
import Derived.Test.YtpnnbdejneoccaaGreatDoorB1
import Derived.Lib.ItoaNum
import Derived.Lib.ItoaLen
import Derived.Lib.ItoaMem

/-
  Plain mathematics: the text of a tree, and how long it is.
-/
namespace Go.Proofs.YtpnnbdejneoccaaGreatDoor
open Go.RowKit

/-- The text of a maybe, by that of its kid. -/
def mayTxt {α : Type} (f : α → List UInt8) : List α → List UInt8
  | [] => [126]
  | k :: _ => 63 :: f k

/-- The text of a tree. -/
def txtL : (n : Nat) → T n → List UInt8
  | 0, _ => []
  | n + 1, t =>
    if Nd.sort t = 1 then Lib.itoa (Nd.num t)
    else if Nd.sort t = 2 then 34 :: (Nd.text t).data.toList ++ [34]
    else if Nd.sort t = 3 then (if Nd.num t = 1 then [121, 101, 115] else [110, 111])
    else if Nd.sort t = 6 then mayTxt (txtL n) (Nd.kids t)
    else if Nd.sort t = 5 then 123 :: joinL (zipL (Nd.names t) ((Nd.kids t).map (txtL n))) ++ [125]
    else 91 :: joinL ((Nd.kids t).map (txtL n)) ++ [93]

theorem txtL_len : ∀ (n : Nat) (t : T n) (d : Int), goodT n t d = true → (txtL n t).length + 10 ≤ 82 * cntT n t := by
  intro n
  induction n with
  | zero => intro t d h; simp [goodT] at h
  | succ n ih =>
    intro t d h
    simp only [goodT, Bool.and_eq_true] at h
    have ha : aloneF (Nd.sort t) (Nd.num t) (Nd.text t) (Nd.names t) (Nd.kids t).length = true := h.1.2
    have hk := List.all_eq_true.1 h.2
    have hkids : lenL ((Nd.kids t).map (txtL n)) ≤ 82 * sumL (fun x => cntT n x) (Nd.kids t) := by
      unfold lenL
      rw [sumL_map, ← sumL_mul]
      exact sumL_le _ _ _ fun x hx => ih x (d + 1) (hk x hx)
    have hc : cntT (n + 1) t = 1 + sumL (fun x => cntT n x) (Nd.kids t) := rfl
    rw [hc]
    have hj := joinL_len ((Nd.kids t).map (txtL n))
    unfold aloneF at ha
    simp only [txtL]
    by_cases h1 : Nd.sort t = 1
    · rw [if_pos h1] at ha ⊢
      simp only [Bool.and_eq_true, decide_eq_true_eq] at ha
      have := Lib.itoa_length_le (Nd.num t) (by omega) (by omega)
      omega
    rw [if_neg h1] at ha ⊢
    by_cases h2 : Nd.sort t = 2
    · rw [if_pos h2] at ha ⊢
      simp only [Bool.and_eq_true, textB, decide_eq_true_eq] at ha
      have : (Nd.text t).size ≤ 60 := ha.1.1.2.1
      have hl : (Nd.text t).data.toList.length = (Nd.text t).size := by simp
      simp only [List.length_append, List.length_cons, List.length_nil, hl]
      omega
    rw [if_neg h2] at ha ⊢
    by_cases h3 : Nd.sort t = 3
    · rw [if_pos h3]
      split <;> simp <;> omega
    rw [if_neg h3] at ha ⊢
    by_cases h6 : Nd.sort t = 6
    · rw [if_pos h6]
      cases hkk : Nd.kids t with
      | nil => simp [mayTxt]; omega
      | cons k r =>
        have h1 := ih k (d + 1) (hk k (by rw [hkk]; exact List.mem_cons_self ..))
        simp only [mayTxt, List.length_cons, sumL]
        omega
    rw [if_neg h6]
    by_cases h5 : Nd.sort t = 5
    · have h4 : ¬ Nd.sort t = 4 := by omega
      rw [if_neg h4, if_pos h5] at ha
      rw [if_pos h5]
      simp only [Bool.and_eq_true] at ha
      have := zipL_len (Nd.names t) ((Nd.kids t).map (txtL n)) (riseB_names _ ha.2)
      simp only [List.length_append, List.length_cons, List.length_nil]
      omega
    rw [if_neg h5]
    simp only [List.length_append, List.length_cons, List.length_nil]
    omega

end Go.Proofs.YtpnnbdejneoccaaGreatDoor

/-
  Plain mathematics: a text read part by part, as a function; what it reads has that text, and what has a text is read from it.
-/
namespace Go.Proofs.YtpnnbdejneoccaaGreatDoor
open Go.RowKit

def digC (c : UInt8) : Bool := decide (48 ≤ (c.toNat : Int) ∧ (c.toNat : Int) ≤ 57)

/-- What a numeral spells. -/
def decVal (l : List UInt8) : Nat := l.foldl (fun a c => a * 10 + (c.toNat - 48)) 0

theorem dig_of (d : Nat) (h : d < 10) : (UInt8.ofNat (48 + d)).toNat = 48 + d := by
  rw [UInt8.toNat_ofNat']; omega

theorem decDigits_dig (u : Nat) : ∀ c, c ∈ Lib.decDigits u → digC c = true := by
  induction u using Nat.strongRecOn with
  | _ u ih =>
    intro c hc
    rw [Lib.decDigits] at hc
    split at hc
    · next h =>
      rw [List.mem_singleton] at hc; subst hc
      have := dig_of u h
      simp only [digC, this, decide_eq_true_eq]; omega
    · next h =>
      rcases List.mem_append.1 hc with hc | hc
      · exact ih (u / 10) (by omega) c hc
      · rw [List.mem_singleton] at hc; subst hc
        have := dig_of (u % 10) (by omega)
        simp only [digC, this, decide_eq_true_eq]; omega

theorem decDigits_ne (u : Nat) : Lib.decDigits u ≠ [] := by
  rw [Lib.decDigits]; split <;> simp

theorem decVal_digits (u : Nat) : decVal (Lib.decDigits u) = u := by
  induction u using Nat.strongRecOn with
  | _ u ih =>
    rw [Lib.decDigits]
    split
    · next h => simp [decVal]; omega
    · next h =>
      have h1 := ih (u / 10) (by omega)
      unfold decVal at h1 ⊢
      rw [List.foldl_append, h1]
      simp only [List.foldl_cons, List.foldl_nil, dig_of (u % 10) (by omega)]
      omega

theorem decDigits_inj {u v : Nat} (h : Lib.decDigits u = Lib.decDigits v) : u = v := by
  rw [← decVal_digits u, h, decVal_digits]

theorem digC_45 : digC 45 = false := by decide

theorem itoa_inj {m k : Int} (h : Lib.itoa m = Lib.itoa k) : m = k := by
  unfold Lib.itoa at h
  have no : ∀ (u : Nat) (l : List UInt8), Lib.decDigits u = 45 :: l → False := by
    intro u l e
    have := decDigits_dig u 45 (by rw [e]; exact List.mem_cons_self ..)
    rw [digC_45] at this; cases this
  split at h <;> split at h
  · have := decDigits_inj (List.cons.inj h).2; omega
  · exact (no _ _ h.symm).elim
  · exact (no _ _ h).elim
  · have := decDigits_inj h; omega

/-- No digit stands at the head. -/
def noDig (s : List UInt8) : Bool := !(digC (s.headD 0))

/-- The word of a number at the head. -/
def numW (s : List UInt8) : List UInt8 := if s.head? = some 45 then 45 :: (s.drop 1).takeWhile digC else s.takeWhile digC

theorem noDig_head {s : List UInt8} (h : noDig s = true) : ∀ c r, s = c :: r → digC c = false := by
  intro c r e; subst e; simpa [noDig] using h

theorem numW_itoa (m : Int) (post : List UInt8) (h : noDig post = true) : numW (Lib.itoa m ++ post) = Lib.itoa m := by
  unfold Lib.itoa
  split
  · unfold numW
    rw [if_pos (by simp)]
    simp only [List.cons_append, List.drop_succ_cons, List.drop_zero]
    rw [takeWhile_all _ _ (decDigits_dig _) (noDig_head h)]
  · unfold numW
    rw [if_neg, takeWhile_all _ _ (decDigits_dig _) (noDig_head h)]
    intro e
    cases hd : Lib.decDigits m.toNat with
    | nil => exact decDigits_ne _ hd
    | cons c r =>
      rw [hd] at e
      have hc : c = 45 := by simpa using e
      have := decDigits_dig m.toNat c (by rw [hd]; exact List.mem_cons_self ..)
      rw [hc, digC_45] at this; cases this

theorem takeWhile_prefix' {p : UInt8 → Bool} (s : List UInt8) : s.takeWhile p ++ s.drop (s.takeWhile p).length = s := by
  induction s with
  | nil => rfl
  | cons c r ih =>
    rw [List.takeWhile_cons]
    split
    · simpa using ih
    · simp

theorem numW_prefix (s : List UInt8) : numW s ++ s.drop (numW s).length = s := by
  unfold numW
  split
  · next h =>
    cases s with
    | nil => simp at h
    | cons c r =>
      have : c = 45 := by simpa using h
      subst this
      simpa using takeWhile_prefix' (p := digC) r
  · exact takeWhile_prefix' s

/-- What a word says, read as a number. -/
def valOf (w : List UInt8) : Int := if w.head? = some 45 then -(decVal (w.drop 1) : Int) else (decVal w : Int)

theorem valOf_itoa (m : Int) : valOf (Lib.itoa m) = m := by
  unfold valOf Lib.itoa
  by_cases h : m < 0
  · rw [if_pos h]
    simp only [List.head?_cons, if_true, List.drop_succ_cons, List.drop_zero]
    rw [decVal_digits]; omega
  · rw [if_neg h]
    have hne : ¬ (Lib.decDigits m.toNat).head? = some 45 := by
      intro e
      cases hd : Lib.decDigits m.toNat with
      | nil => rw [hd] at e; cases e
      | cons c r =>
        rw [hd] at e
        have hc : c = 45 := by simpa using e
        have := decDigits_dig m.toNat c (by rw [hd]; exact List.mem_cons_self ..)
        rw [hc, digC_45] at this
        cases this
    rw [if_neg hne, decVal_digits]; omega

/-- The number of which a word is the text, if it is one of a number within bounds. -/
def numOf (w : List UInt8) : Option Int := if (-999999999 ≤ valOf w ∧ valOf w ≤ 999999999) ∧ Lib.itoa (valOf w) = w then some (valOf w) else none

theorem numOf_itoa (m : Int) (h : -999999999 ≤ m ∧ m ≤ 999999999) : numOf (Lib.itoa m) = some m := by
  unfold numOf
  rw [valOf_itoa, if_pos ⟨h, rfl⟩]

theorem numOf_some {w : List UInt8} {m : Int} (h : numOf w = some m) : (-999999999 ≤ m ∧ m ≤ 999999999) ∧ Lib.itoa m = w := by
  unfold numOf at h
  split at h
  · next hex => cases h; exact hex
  · cases h

theorem numOf_none {w : List UInt8} (h : numOf w = none) (m : Int) (hm : -999999999 ≤ m ∧ m ≤ 999999999) : Lib.itoa m ≠ w := by
  intro e; subst e; rw [numOf_itoa m hm] at h; cases h

end Go.Proofs.YtpnnbdejneoccaaGreatDoor
