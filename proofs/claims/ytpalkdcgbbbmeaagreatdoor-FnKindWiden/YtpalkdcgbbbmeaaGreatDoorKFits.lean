/-
  Plain mathematics: when a schema fits into another one.
-/
import Derived.Test.YtpalkdcgbbbmeaaGreatDoorKHas
import Derived.Test.YtpalkdcgbbbmeaaGreatDoorKSpecHas
namespace Go.Proofs.YtpalkdcgbbbmeaaGreatDoor
open Go.RowKit

/-- The kid at a name. -/
def atName {α : Type} : List ByteArray → List α → ByteArray → Option α
  | s :: r, k :: ks, x => if s = x then some k else atName r ks x
  | _, _, _ => none

theorem atName_no {α : Type} : ∀ (l : List ByteArray) (ks : List α) (x : ByteArray), x ∉ l → atName l ks x = none := by
  intro l
  induction l with
  | nil => intro ks x _; cases ks <;> rfl
  | cons s r ih =>
    intro ks x h
    cases ks with
    | nil => rfl
    | cons k ks =>
      rw [atName, if_neg (fun e => h (by rw [e]; exact List.mem_cons_self ..))]
      exact ih ks x (fun hm => h (List.mem_cons_of_mem _ hm))

theorem atName_yes {α : Type} : ∀ (l : List ByteArray) (ks : List α) (i : Nat) (h1 : i < l.length) (h2 : i < ks.length), Asc l → atName l ks l[i] = some ks[i] := by
  intro l
  induction l with
  | nil => intro ks i h1; exact absurd h1 (Nat.not_lt_zero _)
  | cons s r ih =>
    intro ks i h1 h2 ha
    cases ks with
    | nil => exact absurd h2 (Nat.not_lt_zero _)
    | cons k ks =>
      have ha' := List.pairwise_cons.1 ha
      cases i with
      | zero => simp [atName]
      | succ i =>
        have hi : i < r.length := by simpa using h1
        simp only [List.getElem_cons_succ]
        rw [atName, if_neg (lt_ne (ha'.1 _ (List.getElem_mem hi)))]
        exact ih ks i hi (by simpa using h2) ha'.2

/-- A name is among others. -/
def memB (s : ByteArray) (l : List ByteArray) : Bool := l.any (fun x => decide (x = s))

theorem memB_yes {s : ByteArray} {l : List ByteArray} (h : s ∈ l) : memB s l = true := List.any_eq_true.2 ⟨s, h, by simp⟩
theorem memB_no {s : ByteArray} {l : List ByteArray} (h : s ∉ l) : memB s l = false := by
  unfold memB
  rw [List.any_eq_false]
  intro x hx
  simp only [decide_eq_true_eq]
  exact fun e => h (e ▸ hx)

/-- Each name with its kid. -/
def pairAll {α : Type} (f : ByteArray → α → Bool) : List ByteArray → List α → Bool
  | s :: r, k :: ks => f s k && pairAll f r ks
  | _, _ => true

theorem pairAll_false {α : Type} {f : ByteArray → α → Bool} : ∀ {l : List ByteArray} {ks : List α} (i : Nat) (h1 : i < l.length) (h2 : i < ks.length), f l[i] ks[i] = false → pairAll f l ks = false := by
  intro l
  induction l with
  | nil => intro ks i h1; exact absurd h1 (Nat.not_lt_zero _)
  | cons s r ih =>
    intro ks i h1 h2 hf
    cases ks with
    | nil => exact absurd h2 (Nat.not_lt_zero _)
    | cons k ks =>
      cases i with
      | zero => simp only [List.getElem_cons_zero] at hf; simp [pairAll, hf]
      | succ i =>
        simp only [List.getElem_cons_succ] at hf
        simp only [pairAll, ih i (by simpa using h1) (by simpa using h2) hf, Bool.and_false]

theorem pairAll_true {α : Type} {f : ByteArray → α → Bool} : ∀ {l : List ByteArray} {ks : List α}, (∀ i (h1 : i < l.length) (h2 : i < ks.length), f l[i] ks[i] = true) → pairAll f l ks = true := by
  intro l
  induction l with
  | nil => intro ks _; cases ks <;> rfl
  | cons s r ih =>
    intro ks hf
    cases ks with
    | nil => rfl
    | cons k ks =>
      have h0 := hf 0 (by simp) (by simp)
      simp only [List.getElem_cons_zero] at h0
      rw [pairAll, h0, ih (fun i h1 h2 => by have := hf (i + 1) (by simpa using h1) (by simpa using h2); simpa using this)]
      rfl

/-- The sort of a schema. -/
def srtK : (n : Nat) → K n → Int
  | 0, _ => 0
  | _ + 1, k => Kd.sort k

/-- The first of two lists held against each other. -/
def head2 {α β : Type} (f : α → β → Bool) : List α → List β → Bool
  | y :: _, x :: _ => f y x
  | _, _ => false

def head1 {α : Type} (f : α → Bool) : List α → Bool
  | y :: _ => f y
  | _ => false

/-- The second schema (from) fits into the first (to). -/
def fitsK : (m : Nat) → K m → (n : Nat) → K n → Bool
  | 0, _, _, _ => false
  | _ + 1, _, 0, _ => false
  | m + 1, b, n + 1, a =>
    if Kd.sort b = 6 then
      if Kd.sort a = 6 then head2 (fun y x => fitsK m y n x) (Kd.kids b) (Kd.kids a) else head1 (fun y => fitsK m y (n + 1) a) (Kd.kids b)
    else if Kd.sort a = Kd.sort b then
      if Kd.sort a = 4 then head2 (fun y x => fitsK m y n x) (Kd.kids b) (Kd.kids a)
      else (Kd.names a).all (fun s => memB s (Kd.names b)) && pairAll (fun s y => match atName (Kd.names a) (Kd.kids a) s with | some x => fitsK m y n x | none => srtK m y == 6) (Kd.names b) (Kd.kids b)
    else false

theorem fitsK_mm {m n : Nat} {b : K (m + 1)} {a : K (n + 1)} {y : K m} {x : K n} (hb : Kd.sort b = 6) (ha : Kd.sort a = 6) (ky : Kd.kids b = [y]) (kx : Kd.kids a = [x]) : fitsK (m + 1) b (n + 1) a = fitsK m y n x := by
  rw [fitsK, if_pos hb, if_pos ha, ky, kx, head2]

theorem fitsK_xm {m n : Nat} {b : K (m + 1)} {a : K (n + 1)} {y : K m} (hb : Kd.sort b = 6) (ha : Kd.sort a ≠ 6) (ky : Kd.kids b = [y]) : fitsK (m + 1) b (n + 1) a = fitsK m y (n + 1) a := by
  rw [fitsK, if_pos hb, if_neg ha, ky, head1]

theorem fitsK_ll {m n : Nat} {b : K (m + 1)} {a : K (n + 1)} {y : K m} {x : K n} (hb : Kd.sort b = 4) (ha : Kd.sort a = 4) (ky : Kd.kids b = [y]) (kx : Kd.kids a = [x]) : fitsK (m + 1) b (n + 1) a = fitsK m y n x := by
  rw [fitsK, if_neg (by omega), if_pos (by omega), if_pos ha, ky, kx, head2]

theorem fitsK_no {m n : Nat} {b : K (m + 1)} {a : K (n + 1)} (hb : Kd.sort b ≠ 6) (ha : Kd.sort a ≠ Kd.sort b) : fitsK (m + 1) b (n + 1) a = false := by
  rw [fitsK, if_neg hb, if_neg ha]

theorem fitsK_leaf {m n : Nat} {b : K (m + 1)} {a : K (n + 1)} (hs : Kd.sort b = 1 ∨ Kd.sort b = 2 ∨ Kd.sort b = 3) (ha : Kd.sort a = Kd.sort b) (na : Kd.names a = []) (nb : Kd.names b = []) : fitsK (m + 1) b (n + 1) a = true := by
  rw [fitsK, if_neg (by omega), if_pos ha, if_neg (by omega), na, nb]
  rfl

/-- What a name of the second form asks. -/
def fieldFits (n : Nat) (ns : List ByteArray) (ks : List (K n)) (m : Nat) (s : ByteArray) (y : K m) : Bool :=
  match atName ns ks s with | some x => fitsK m y n x | none => srtK m y == 6

theorem fitsK_form {m n : Nat} {b : K (m + 1)} {a : K (n + 1)} (hb : Kd.sort b = 5) (ha : Kd.sort a = 5) :
    fitsK (m + 1) b (n + 1) a = ((Kd.names a).all (fun s => memB s (Kd.names b)) && pairAll (fieldFits n (Kd.names a) (Kd.kids a) m) (Kd.names b) (Kd.kids b)) := by
  rw [fitsK, if_neg (by omega), if_pos (by omega), if_neg (by omega)]
  rfl

theorem fitsK_form_no {m n : Nat} {b : K (m + 1)} {a : K (n + 1)} (hb : Kd.sort b = 5) (ha : Kd.sort a = 5) (i : Nat) (hi : i < (Kd.names a).length) (h : (Kd.names a)[i] ∉ Kd.names b) : fitsK (m + 1) b (n + 1) a = false := by
  rw [fitsK_form hb ha]
  have : (Kd.names a).all (fun s => memB s (Kd.names b)) = false := by
    rw [List.all_eq_false]
    exact ⟨_, List.getElem_mem hi, by simp [memB_no h]⟩
  rw [this]; rfl

theorem fitsK_form_bad {m n : Nat} {b : K (m + 1)} {a : K (n + 1)} (hb : Kd.sort b = 5) (ha : Kd.sort a = 5) (j : Nat) (hj : j < (Kd.names b).length) (hk : j < (Kd.kids b).length) (h : fieldFits n (Kd.names a) (Kd.kids a) m (Kd.names b)[j] (Kd.kids b)[j] = false) :
    fitsK (m + 1) b (n + 1) a = false := by
  rw [fitsK_form hb ha, pairAll_false j hj hk h, Bool.and_false]

theorem fitsK_form_yes {m n : Nat} {b : K (m + 1)} {a : K (n + 1)} (hb : Kd.sort b = 5) (ha : Kd.sort a = 5) (h1 : ∀ i (h : i < (Kd.names a).length), (Kd.names a)[i] ∈ Kd.names b)
    (h2 : ∀ j (h : j < (Kd.names b).length) (h' : j < (Kd.kids b).length), fieldFits n (Kd.names a) (Kd.kids a) m (Kd.names b)[j] (Kd.kids b)[j] = true) : fitsK (m + 1) b (n + 1) a = true := by
  rw [fitsK_form hb ha, pairAll_true h2]
  have : (Kd.names a).all (fun s => memB s (Kd.names b)) = true := by
    rw [List.all_eq_true]
    intro s hs
    obtain ⟨i, hi, rfl⟩ := List.getElem_of_mem hs
    exact memB_yes (h1 i hi)
  rw [this]; rfl

/-- Each schema that is ok fits into itself. -/
theorem fitsK_self : ∀ (n : Nat) (k : K n) (d : Int), goodK n k d = true → fitsK n k n k = true := by
  intro n
  induction n with
  | zero => intro k d h; exact absurd h (by simp [goodK])
  | succ n ih =>
    intro k d h
    have hk : ∀ x, x ∈ Kd.kids k → goodK n x (d + 1) = true := by simp only [goodK, Bool.and_eq_true] at h; exact List.all_eq_true.1 h.2
    rcases goodK_kids h with ⟨hs, hn, -⟩ | ⟨hs, -, x, hx⟩ | ⟨hs, hl, hr⟩
    · exact fitsK_leaf hs rfl hn hn
    · have hg := ih x (d + 1) (hk x (by rw [hx]; exact List.mem_cons_self ..))
      rcases hs with hs | hs
      · rw [fitsK_ll hs hs hx hx]; exact hg
      · rw [fitsK_mm hs hs hx hx]; exact hg
    · refine fitsK_form_yes hs hs (fun i hi => List.getElem_mem hi) (fun j hj hj' => ?_)
      unfold fieldFits
      rw [atName_yes _ _ j hj hj' (asc_of _ hr)]
      exact ih _ (d + 1) (hk _ (List.getElem_mem hj'))

end Go.Proofs.YtpalkdcgbbbmeaaGreatDoor
