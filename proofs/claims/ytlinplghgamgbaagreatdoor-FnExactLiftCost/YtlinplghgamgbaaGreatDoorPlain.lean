/-
  Plain mathematics of trees: a tree of depth at most n, its size, its parts, when it is ok. No program stands behind this text.
-/
namespace Go.Proofs.YtlinplghgamgbaaGreatDoor

/-- One node of a tree, its kids of whatever make. -/
structure Nd (α : Type) where
  sort : Int
  num : Int
  text : ByteArray
  names : List ByteArray
  kids : List α

/-- Trees of at most n levels. -/
def T : Nat → Type
  | 0 => Empty
  | n + 1 => Nd (T n)

/-- How many bytes a list of texts takes, and how many texts. -/
def szN : List ByteArray → Nat
  | [] => 0
  | s :: r => s.size + 1 + szN r

def sumL {α : Type} (f : α → Nat) : List α → Nat
  | [] => 0
  | x :: r => f x + sumL f r

/-- What the measure of a tree counts. -/
def szT : (n : Nat) → T n → Nat
  | 0, _ => 0
  | n + 1, t => Nd.text t |>.size |> (· + szN (Nd.names t) + sumL (fun k => szT n k + 1) (Nd.kids t))

def cntT : (n : Nat) → T n → Nat
  | 0, _ => 0
  | n + 1, t => 1 + sumL (fun k => cntT n k) (Nd.kids t)

/-- What is left of a measure. -/
def leftB (a : Nat) (left : Int) : Int := if (a : Int) ≤ left then left - a else -1

theorem leftB_le (a : Nat) (left : Int) (h : left ≤ 1048576) : -1 ≤ leftB a left ∧ leftB a left ≤ 1048576 := by
  unfold leftB; split <;> omega

theorem leftB_add (a b : Nat) (left : Int) : leftB b (leftB a left) = leftB (a + b) left := by
  unfold leftB
  by_cases h : (a : Int) ≤ left
  · rw [if_pos h]
    by_cases h2 : (b : Int) ≤ left - a
    · rw [if_pos h2, if_pos (by omega)]; omega
    · rw [if_neg h2, if_neg (by omega)]
  · rw [if_neg h, if_neg (by omega), if_neg (by omega)]

theorem szN_append (a b : List ByteArray) : szN (a ++ b) = szN a + szN b := by
  induction a with
  | nil => simp [szN]
  | cons x r ih => simp only [List.cons_append, szN, ih]; omega

theorem sumL_append {α : Type} (f : α → Nat) (a b : List α) : sumL f (a ++ b) = sumL f a + sumL f b := by
  induction a with
  | nil => simp [sumL]
  | cons x r ih => simp only [List.cons_append, sumL, ih]; omega

theorem sumL_take_succ {α : Type} (f : α → Nat) (l : List α) (k : Nat) (h : k < l.length) : sumL f (l.take (k + 1)) = sumL f (l.take k) + f l[k] := by
  rw [List.take_succ_eq_append_getElem h, sumL_append]; simp [sumL]

theorem szN_take_succ (l : List ByteArray) (k : Nat) (h : k < l.length) : szN (l.take (k + 1)) = szN (l.take k) + (l[k].size + 1) := by
  rw [List.take_succ_eq_append_getElem h, szN_append]; simp [szN]

theorem sumL_mono {α : Type} (f : α → Nat) (l : List α) (x : α) (h : x ∈ l) : f x ≤ sumL f l := by
  induction l with
  | nil => cases h
  | cons y r ih =>
    simp only [sumL]
    rcases List.mem_cons.1 h with rfl | h
    · omega
    · have := ih h; omega

theorem szN_length (l : List ByteArray) : l.length ≤ szN l := by
  induction l with
  | nil => simp [szN]
  | cons y r ih => simp only [szN, List.length_cons]; omega

theorem sumL_length {α : Type} (f : α → Nat) (l : List α) : l.length ≤ sumL (fun k => f k + 1) l := by
  induction l with
  | nil => simp [sumL]
  | cons y r ih => simp only [sumL, List.length_cons]; omega

end Go.Proofs.YtlinplghgamgbaaGreatDoor
