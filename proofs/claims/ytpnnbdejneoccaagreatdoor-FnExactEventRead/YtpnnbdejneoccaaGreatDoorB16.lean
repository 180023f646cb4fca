/-
  Several texts in one, in their order.
-/
import Derived.Test.YtpnnbdejneoccaaGreatDoorB12
import Derived.Laws.Closers25b
import Derived.Test.YtpnnbdejneoccaaGreatDoorB13

/-
  Plain mathematics: what has a text is read from it; what is read has that text.
-/
namespace Go.Proofs.YtpnnbdejneoccaaGreatDoor
open Go.RowKit

/-- How a text begins. -/
def begB (c : UInt8) : Bool := digC c || c == 45 || c == 34 || c == 121 || c == 110 || c == 91 || c == 123 || c == 126 || c == 63

theorem digits_head (u : Nat) : ∃ c r, Lib.decDigits u = c :: r ∧ digC c = true := by
  cases h : Lib.decDigits u with
  | nil => exact absurd h (decDigits_ne u)
  | cons c r => exact ⟨c, r, rfl, decDigits_dig u c (by rw [h]; exact List.mem_cons_self ..)⟩

theorem itoa_head (m : Int) : ∃ c r, Lib.itoa m = c :: r ∧ (digC c = true ∨ c = 45) := by
  unfold Lib.itoa
  split
  · exact ⟨45, _, rfl, .inr rfl⟩
  · obtain ⟨c, r, h1, h2⟩ := digits_head m.toNat
    exact ⟨c, r, h1, .inl h2⟩

theorem txtL_head (n : Nat) (t : T (n + 1)) : ∃ c r, txtL (n + 1) t = c :: r ∧ begB c = true := by
  simp only [txtL]
  split
  · obtain ⟨c, r, h1, h2⟩ := itoa_head (Nd.num t)
    refine ⟨c, r, h1, ?_⟩
    rcases h2 with h2 | h2
    · simp [begB, h2]
    · subst h2; decide
  split
  · exact ⟨34, _, rfl, by decide⟩
  split
  · split
    · exact ⟨121, _, rfl, by decide⟩
    · exact ⟨110, _, rfl, by decide⟩
  split
  · cases Nd.kids t with
    | nil => exact ⟨126, _, rfl, by decide⟩
    | cons k r => exact ⟨63, _, rfl, by decide⟩
  split
  · exact ⟨123, _, rfl, by decide⟩
  · exact ⟨91, _, rfl, by decide⟩

theorem good_head (n : Nat) (t : T n) (d : Int) (h : goodT n t d = true) : ∃ c r, txtL n t = c :: r ∧ begB c = true := by
  cases n with
  | zero => simp [goodT] at h
  | succ n => exact txtL_head n t

theorem beg_ne {c : UInt8} (h : begB c = true) : c ≠ 93 ∧ c ≠ 125 ∧ c ≠ 44 := by
  refine ⟨?_, ?_, ?_⟩ <;> (rintro rfl; exact absurd h (by decide))

theorem textB_bytes {s : ByteArray} (h : textB s = true) : ∀ c, c ∈ s.data.toList → c ≠ 34 := by
  simp only [textB, Bool.and_eq_true] at h
  intro c hc
  have := List.all_eq_true.1 h.2 c hc
  rintro rfl
  exact absurd this (by decide)

theorem ba_empty {x : ByteArray} (h : x.toList.isEmpty = true) : x = ByteArray.empty :=
  (toList_nil_iff_emptyBytes x).1 (by simpa using h)

end Go.Proofs.YtpnnbdejneoccaaGreatDoor

/-
  Plain mathematics: a tree of n levels as one of n + 1; the number that num reads.
-/
namespace Go.Proofs.YtpnnbdejneoccaaGreatDoor
open Go.RowKit

theorem RowIn.map {α β : Type} {S : Nat → Prop} {w : World} {R : α → Value → Value → Value → Value → Value → Prop} {R' : β → Value → Value → Value → Value → Value → Prop} {l : List α} {v : Value} (f : α → β) (h : RowIn S w R l v)
    (hR : ∀ x c0 c1 c2 c3 c4, x ∈ l → R x c0 c1 c2 c3 c4 → R' (f x) c0 c1 c2 c3 c4) : RowIn S w R' (l.map f) v := by
  obtain ⟨ao, cap, hv, hl, hc⟩ := h
  refine ⟨ao, cap, by rw [hv, List.length_map], by rw [List.length_map]; exact hl, fun hne => ?_⟩
  obtain ⟨b, off, ha, hB, hcell⟩ := hc (by intro e; apply hne; rw [e]; rfl)
  refine ⟨b, off, ha, hB, fun i hi => ?_⟩
  have hi' : i < l.length := by simpa using hi
  obtain ⟨c0, c1, c2, c3, c4, h0, h1, h2, h3, h4, hr⟩ := hcell i hi'
  refine ⟨c0, c1, c2, c3, c4, h0, h1, h2, h3, h4, ?_⟩
  rw [List.getElem_map]
  exact hR _ _ _ _ _ _ (List.getElem_mem hi') hr

theorem nDigits_le : ∀ (k u : Nat), u < 10 ^ (k + 1) → Lib.nDigits u ≤ k + 1
  | 0, u, h => by rw [Lib.nDigits_small (by simpa using h)]; omega
  | k + 1, u, h => by
    by_cases hu : u < 10
    · rw [Lib.nDigits_small hu]; omega
    · rw [Lib.nDigits_big hu]
      have := nDigits_le k (u / 10) (by rw [Nat.pow_succ] at h; omega)
      omega

theorem digits_read (l D post : List UInt8) (k : Nat) (he : l = D ++ post) (hD : ∀ c, c ∈ D → digC c = true) (hl : D.length ≤ 9) (hp : noDig post = true) (hall : ∀ c, c ∈ l.take k → digC c = true) (hk : k ≤ l.length)
    (hend : k = 10 ∨ digC ((l.drop k).headD 0) = false) : k = D.length := by
  subst he
  by_cases h1 : k < D.length
  · exfalso
    rcases hend with h | h
    · omega
    · rw [List.drop_append_of_le_length (by omega), List.drop_eq_getElem_cons h1] at h
      simp only [List.cons_append, List.headD_cons] at h
      rw [hD _ (List.getElem_mem h1)] at h
      cases h
  · by_cases h2 : D.length < k
    · exfalso
      cases post with
      | nil => simp at hk; omega
      | cons c r =>
        have hc : digC c = false := by simpa [noDig] using hp
        have : digC c = true := by
          apply hall
          rw [List.take_append]
          apply List.mem_append_right
          have : k - D.length = (k - D.length - 1) + 1 := by omega
          rw [this, List.take_succ_cons]
          exact List.mem_cons_self ..
        rw [hc] at this
        cases this
    · omega

/-- What num reads of a number's text. -/
theorem num_reads (s : ByteArray) (i k F : Nat) (neg : Bool) (m : Int) (post : List UInt8) (hm : -999999999 ≤ m ∧ m ≤ 999999999) (he : s.data.toList.drop i = Lib.itoa m ++ post) (hp : noDig post = true)
    (hneg : neg = decide (lookB s i = 45)) (hF : F = if neg = true then i + 1 else i) (hsz : F + k ≤ s.size)
    (hall : ∀ c, c ∈ (s.data.toList.drop F).take k → digC c = true) (hend : k = 10 ∨ digC (lookB s (F + k)) = false) :
    (if neg = true then -(decVal ((s.data.toList.drop F).take k) : Int) else (decVal ((s.data.toList.drop F).take k) : Int)) = m ∧ F + k = i + (Lib.itoa m).length ∧ ¬ k = 0 := by
  have key : ∀ (u : Nat), u ≤ 999999999 → s.data.toList.drop F = Lib.decDigits u ++ post → decVal ((s.data.toList.drop F).take k) = u ∧ k = (Lib.decDigits u).length ∧ ¬ k = 0 := by
    intro u hu hd
    have hlen : (Lib.decDigits u).length ≤ 9 := by rw [Lib.decDigits_length]; exact nDigits_le 8 u (by omega)
    have hk := digits_read _ _ post k hd (decDigits_dig u) hlen hp hall (by simp; omega) (by rw [List.drop_drop]; exact hend)
    refine ⟨?_, hk, ?_⟩
    · rw [hd, hk, List.take_left, decVal_digits]
    · have h0 := decDigits_ne u
      intro e
      rw [e] at hk
      exact h0 (List.eq_nil_of_length_eq_zero hk.symm)
  have hlook : lookB s i = (Lib.itoa m ++ post).headD 0 := by unfold lookB; rw [he]
  by_cases h0 : m < 0
  · have hi : Lib.itoa m = 45 :: Lib.decDigits m.natAbs := by unfold Lib.itoa; rw [if_pos h0]
    rw [hi] at he hlook
    have hn : neg = true := by rw [hneg, hlook]; rfl
    rw [if_pos hn] at hF
    have hd : s.data.toList.drop F = Lib.decDigits m.natAbs ++ post := by
      rw [hF, ← List.drop_drop, he]; rfl
    obtain ⟨k1, k2, k3⟩ := key m.natAbs (by omega) hd
    refine ⟨by rw [if_pos hn, k1]; omega, ?_, k3⟩
    rw [hi, hF, List.length_cons, k2]; omega
  · have hi : Lib.itoa m = Lib.decDigits m.toNat := by unfold Lib.itoa; rw [if_neg h0]
    rw [hi] at he hlook
    have hn : neg = false := by
      rw [hneg, hlook]
      obtain ⟨c, r, e, hc⟩ := digits_head m.toNat
      rw [e]
      simp only [List.cons_append, List.headD_cons]
      refine decide_eq_false ?_
      rintro rfl
      rw [digC_45] at hc; cases hc
    rw [hn] at hF
    simp only [Bool.false_eq_true, if_false] at hF
    have hd : s.data.toList.drop F = Lib.decDigits m.toNat ++ post := by rw [hF, he]
    obtain ⟨k1, k2, k3⟩ := key m.toNat (by omega) hd
    refine ⟨by rw [hn]; simp only [Bool.false_eq_true, if_false]; rw [k1]; omega, ?_, k3⟩
    rw [hi, hF, k2]

end Go.Proofs.YtpnnbdejneoccaaGreatDoor
