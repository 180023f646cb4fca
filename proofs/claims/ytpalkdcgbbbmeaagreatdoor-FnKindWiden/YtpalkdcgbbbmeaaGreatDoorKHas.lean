/-
  Plain mathematics: when a tree is of a schema; ascending names; where a name stands.
-/
import Derived.Test.YtpalkdcgbbbmeaaGreatDoorKPlain
import Derived.Test.YtpalkdcgbbbmeaaGreatDoorPlain2
namespace Go.Proofs.YtpalkdcgbbbmeaaGreatDoor
open Go.RowKit

/-- Each of the second list against that of the first at its place. -/
def zipAll {α β : Type} (f : α → β → Bool) : List α → List β → Bool
  | _, [] => true
  | [], _ :: _ => false
  | a :: r, b :: s => f a b && zipAll f r s

/-- Each of the second list against the first of the first. -/
def headAll {α β : Type} (f : α → β → Bool) : List α → List β → Bool
  | _, [] => true
  | [], _ :: _ => false
  | a :: _, l => l.all (f a)

/-- A tree is of a schema. -/
def hasK : (n : Nat) → K n → (m : Nat) → T m → Bool
  | 0, _, _, _ => false
  | _ + 1, _, 0, _ => false
  | n + 1, k, m + 1, t => (Kd.sort k == Nd.sort t) && decide (Kd.names k = Nd.names t) &&
      (if Kd.sort k = 5 then zipAll (fun a b => hasK n a m b) (Kd.kids k) (Nd.kids t) else headAll (fun a b => hasK n a m b) (Kd.kids k) (Nd.kids t))

theorem zipAll_false {α β : Type} {f : α → β → Bool} : ∀ {l : List α} {s : List β} (i : Nat) (h1 : i < l.length) (h2 : i < s.length), f l[i] s[i] = false → zipAll f l s = false := by
  intro l
  induction l with
  | nil => intro s i h1; exact absurd h1 (Nat.not_lt_zero _)
  | cons a r ih =>
    intro s i h1 h2 hf
    cases s with
    | nil => exact absurd h2 (Nat.not_lt_zero _)
    | cons b s =>
      cases i with
      | zero => simp only [List.getElem_cons_zero] at hf; simp [zipAll, hf]
      | succ i =>
        simp only [List.getElem_cons_succ] at hf
        simp only [zipAll, ih i (by simpa using h1) (by simpa using h2) hf, Bool.and_false]

theorem zipAll_true {α β : Type} {f : α → β → Bool} : ∀ {l : List α} {s : List β}, l.length = s.length → (∀ i (h1 : i < l.length) (h2 : i < s.length), f l[i] s[i] = true) → zipAll f l s = true := by
  intro l
  induction l with
  | nil => intro s h _; cases s with
    | nil => rfl
    | cons b s => simp at h
  | cons a r ih =>
    intro s h hf
    cases s with
    | nil => simp [zipAll]
    | cons b s =>
      have h0 := hf 0 (by simp) (by simp)
      simp only [List.getElem_cons_zero] at h0
      rw [zipAll, h0, ih (by simpa using h) (fun i h1 h2 => by have := hf (i + 1) (by simpa using h1) (by simpa using h2); simpa using this)]
      rfl

theorem headAll_false {α β : Type} {f : α → β → Bool} {a : α} {r : List α} {s : List β} (i : Nat) (h2 : i < s.length) (h : f a s[i] = false) : headAll f (a :: r) s = false := by
  cases s with
  | nil => exact absurd h2 (Nat.not_lt_zero _)
  | cons b s =>
    simp only [headAll]
    rw [List.all_eq_false]
    exact ⟨_, List.getElem_mem h2, by simp [h]⟩

theorem headAll_true {α β : Type} {f : α → β → Bool} {a : α} {r : List α} {s : List β} (h : s.all (f a) = true) : headAll f (a :: r) s = true := by
  cases s with
  | nil => rfl
  | cons b s => simpa only [headAll] using h

/-- The order of names. -/
theorem bl_irr : ∀ x : List UInt8, Op.bytesLess x x = false := by
  intro x
  induction x with
  | nil => rfl
  | cons a r ih => simp [Op.bytesLess, ih]

theorem bl_trans : ∀ x y z : List UInt8, Op.bytesLess x y = true → Op.bytesLess y z = true → Op.bytesLess x z = true := by
  intro x
  induction x with
  | nil =>
    intro y z h1 h2
    cases y with
    | nil => simp [Op.bytesLess] at h1
    | cons b y => cases z with
      | nil => simp [Op.bytesLess] at h2
      | cons c z => rfl
  | cons a x ih =>
    intro y z h1 h2
    cases y with
    | nil => simp [Op.bytesLess] at h1
    | cons b y =>
      cases z with
      | nil => simp [Op.bytesLess] at h2
      | cons c z =>
        simp only [Op.bytesLess, Bool.or_eq_true, Bool.and_eq_true, decide_eq_true_eq, beq_iff_eq] at h1 h2 ⊢
        rcases h1 with h1 | ⟨rfl, h1⟩
        · rcases h2 with h2 | ⟨rfl, h2⟩
          · exact .inl (UInt8.lt_trans h1 h2)
          · exact .inl h1
        · rcases h2 with h2 | ⟨rfl, h2⟩
          · exact .inl h2
          · exact .inr ⟨rfl, ih y z h1 h2⟩

theorem lt_irr (a : ByteArray) : ltB a a = false := bl_irr _
theorem lt_tr {a b c : ByteArray} (h1 : ltB a b = true) (h2 : ltB b c = true) : ltB a c = true := bl_trans _ _ _ h1 h2
theorem lt_ne {a b : ByteArray} (h : ltB a b = true) : a ≠ b := fun e => by rw [e, lt_irr] at h; cases h

/-- A list whose names ascend. -/
def Asc (l : List ByteArray) : Prop := l.Pairwise (fun a b => ltB a b = true)

theorem asc_of (l : List ByteArray) (h : riseB l = true) : Asc l := by
  unfold riseB riseTo at h
  have hstep : ∀ i (h1 : i + 1 < l.length), ltB l[i] l[i + 1] = true := by
    intro i h1
    have := List.all_eq_true.1 h (i + 1) (List.mem_range.2 h1)
    simp only [riseAt, Bool.and_eq_true, Bool.or_eq_true] at this
    rcases this.2 with h2 | h2
    · simp at h2
    · simpa [List.getD, h1, show i < l.length by omega] using h2
  have key : ∀ d i (h1 : i + d + 1 < l.length), ltB l[i] l[i + d + 1] = true := by
    intro d
    induction d with
    | zero => intro i h1; exact hstep i h1
    | succ d ih => intro i h1; exact lt_tr (ih i (by omega)) (hstep (i + d + 1) h1)
  unfold Asc
  rw [List.pairwise_iff_getElem]
  intro i j hi hj hij
  obtain ⟨d, rfl⟩ : ∃ d, j = i + d + 1 := ⟨j - i - 1, by omega⟩
  exact key d i hj

theorem asc_sub : ∀ (l2 l1 : List ByteArray), Asc l1 → Asc l2 → (∀ x, x ∈ l1 → x ∈ l2) → l1.length ≤ l2.length ∧ (l1.length = l2.length → l1 = l2) := by
  intro l2
  induction l2 with
  | nil =>
    intro l1 _ _ hs
    cases l1 with
    | nil => exact ⟨Nat.le_refl _, fun _ => rfl⟩
    | cons a r => exact absurd (hs a (List.mem_cons_self ..)) (by simp)
  | cons b s ih =>
    intro l1 h1 h2 hs
    cases l1 with
    | nil => exact ⟨Nat.zero_le _, fun h => by simp at h⟩
    | cons a r =>
      have h1' := List.pairwise_cons.1 h1
      have h2' := List.pairwise_cons.1 h2
      by_cases hab : a = b
      · subst hab
        have := ih r h1'.2 h2'.2 (fun x hx => by
          rcases List.mem_cons.1 (hs x (List.mem_cons_of_mem _ hx)) with h | h
          · exact absurd h.symm (lt_ne (h1'.1 x hx))
          · exact h)
        exact ⟨by simp; omega, fun h => by rw [this.2 (by simpa using h)]⟩
      · have has : a ∈ s := by
          rcases List.mem_cons.1 (hs a (List.mem_cons_self ..)) with h | h
          · exact absurd h hab
          · exact h
        have hba := h2'.1 a has
        have := ih (a :: r) h1 h2'.2 (fun x hx => by
          rcases List.mem_cons.1 (hs x hx) with h | h
          · subst h
            rcases List.mem_cons.1 hx with h | h
            · exact absurd h.symm hab
            · have := lt_tr hba (h1'.1 x h); rw [lt_irr] at this; cases this
          · exact h)
        simp only [List.length_cons] at this ⊢
        exact ⟨by omega, fun h => by omega⟩

theorem asc_inj {l : List ByteArray} (h : Asc l) (i j : Nat) (hi : i < l.length) (hj : j < l.length) (e : l[i] = l[j]) : i = j := by
  unfold Asc at h
  rw [List.pairwise_iff_getElem] at h
  rcases Nat.lt_trichotomy i j with h1 | h1 | h1
  · exact absurd e (lt_ne (h i j hi hj h1))
  · exact h1
  · exact absurd e.symm (lt_ne (h j i hj hi h1))

end Go.Proofs.YtpalkdcgbbbmeaaGreatDoor
